/-
  What is carried through the calls of viewkeep.ZsetGroup: lists of items, and what each call tells of them.
  The library's strings.IndexByte: where its functions and types stand in this program.
-/
import Derived.Test.YtgmdjioobidadaaM11
import Derived.Test.YtgmdjioobidadaaM09
import Derived.Test.YtgmdjioobidadaaM13
import Derived.Test.YtgmdjioobidadaaM14
import Derived.Test.YtgmdjioobidadaaM10
import Derived.Shelf.Small.Strs
import Derived.Test.YtgmdjioobidadaaProg
namespace Go.Proofs.Ytgmdjioobidadaa
open Go.RowKit Go.Sort

theorem small_z {L : List Itm} {m : List Zit} (h : L.map Itm.z = m) (hm : m.length ≤ 400) : L.length ≤ maxLen := by
  have : L.length = m.length := by rw [← h, List.length_map]
  unfold maxLen; omega
theorem normL_len (l : List Zit) : (normL l).length ≤ 400 := by
  unfold normL
  by_cases h : normE l = 0
  · rw [if_pos h]; exact Nat.le_trans (totL_len l) (normE_parts h).1
  · rw [if_neg h]; simp
theorem negL_len (l : List Zit) : (negL l).length ≤ 400 := by
  unfold negL
  by_cases h : errZ l = 0
  · rw [if_pos h, List.length_map]; exact ((errZ_iff _).1 h).1
  · rw [if_neg h]; simp
theorem addL_len (a b : List Zit) : (addL a b).length ≤ 400 := by
  unfold addL
  by_cases h : addE a b = 0
  · rw [if_pos h]
    by_cases k : 400 < (totL (a ++ b)).length
    · exfalso
      unfold addE at h
      by_cases h1 : errZ a = 0
      · rw [if_pos h1] at h
        by_cases h2 : errZ b = 0
        · rw [if_pos h2] at h
          by_cases h3 : totE (a ++ b) = 0
          · rw [if_pos h3, if_pos k] at h; cases h
          · rw [if_neg h3] at h; exact h3 h
        · rw [if_neg h2] at h; exact h2 h
      · rw [if_neg h1] at h; exact h1 h
    · omega
  · rw [if_neg h]; simp
theorem normV {W : World} {A : Option Addr} {c : Nat} {l : List Itm} (h : Lv W A c l) {m : List Zit} (hm : l.map Itm.z = m) :
    Calls Try.prog 10 #[.slice A l.length c] W fun e w' => ∃ (L : List Itm) (C : Option Addr) (k : Nat), e = .returned (.tuple #[.slice C L.length k, .int .i64 (normE m)]) ∧ L.map Itm.z = normL m ∧ Lv w' C k L ∧ Below W.heap.size W w' := by
  subst hm
  refine (norm_any l A c W h.len h.nil h.items).mono ?_
  rintro e w' ⟨L, C, k, h1, h2, h3, h4, h5⟩
  exact ⟨L, C, k, h1, h2, ⟨h3, h4, small_z h2 (normL_len _)⟩, h5⟩
theorem normVn {W : World} {A : Option Addr} {c : Nat} {l : List Itm} (h : Lv W A c l) {m : List Zit} (hm : l.map Itm.z = m) :
    Calls Try.prog 10 #[.slice A l.length c] W fun e w' => ∃ (L : List Itm) (C : Option Addr) (k : Nat), e = .returned (.tuple #[.slice C L.length k, .int .i64 (normE m)]) ∧ L.map Itm.z = normL m ∧ Lv w' C k L ∧ Below W.heap.size W w' ∧ NwT w' k W.heap.size C L := by
  subst hm
  refine (norm_new l A c W h.len h.nil h.items).mono ?_
  rintro e w' ⟨L, C, k, h1, h2, h3, h4, h5⟩
  exact ⟨L, C, k, h1, h2, ⟨h3, h4, small_z h2 (normL_len _)⟩, h5⟩
theorem negV {W : World} {A : Option Addr} {c : Nat} {l : List Itm} (h : Lv W A c l) {m : List Zit} (hm : l.map Itm.z = m) :
    Calls Try.prog 9 #[.slice A l.length c] W fun e w' => ∃ (L : List Itm) (C : Option Addr) (k : Nat), e = .returned (.tuple #[.slice C L.length k, .int .i64 (errZ m)]) ∧ L.map Itm.z = negL m ∧ Lv w' C k L ∧ Below W.heap.size W w' := by
  subst hm
  refine (neg_any l A c W h.len h.items).mono ?_
  rintro e w' ⟨L, C, k, h1, h2, h3, h4, h5⟩
  exact ⟨L, C, k, h1, h2, ⟨h3, h4, small_z h2 (negL_len _)⟩, h5⟩
theorem negVn {W : World} {A : Option Addr} {c : Nat} {l : List Itm} (h : Lv W A c l) {m : List Zit} (hm : l.map Itm.z = m) :
    Calls Try.prog 9 #[.slice A l.length c] W fun e w' => ∃ (L : List Itm) (C : Option Addr) (k : Nat), e = .returned (.tuple #[.slice C L.length k, .int .i64 (errZ m)]) ∧ L.map Itm.z = negL m ∧ Lv w' C k L ∧ Below W.heap.size W w' ∧ NwT w' k W.heap.size C L := by
  subst hm
  refine (neg_new l A c W h.len h.items).mono ?_
  rintro e w' ⟨L, C, k, h1, h2, h3, h4, h5⟩
  exact ⟨L, C, k, h1, h2, ⟨h3, h4, small_z h2 (negL_len _)⟩, h5⟩
theorem addV {W : World} {A B : Option Addr} {c d : Nat} {l r : List Itm} (h : Lv W A c l) (h' : Lv W B d r) {m n : List Zit} (hm : l.map Itm.z = m) (hn : r.map Itm.z = n) :
    Calls Try.prog 8 #[.slice A l.length c, .slice B r.length d] W fun e w' => ∃ (L : List Itm) (C : Option Addr) (k : Nat), e = .returned (.tuple #[.slice C L.length k, .int .i64 (addE m n)]) ∧ L.map Itm.z = addL m n ∧ Lv w' C k L ∧ Below W.heap.size W w' := by
  subst hm
  subst hn
  refine (add_any l r A B c d W h.len h'.len h.nil h'.nil h.items h'.items).mono ?_
  rintro e w' ⟨L, C, k, h1, h2, h3, h4, h5⟩
  exact ⟨L, C, k, h1, h2, ⟨h3, h4, small_z h2 (addL_len _ _)⟩, h5⟩
theorem addVn {W : World} {A B : Option Addr} {c d : Nat} {l r : List Itm} (h : Lv W A c l) (h' : Lv W B d r) {m n : List Zit} (hm : l.map Itm.z = m) (hn : r.map Itm.z = n) :
    Calls Try.prog 8 #[.slice A l.length c, .slice B r.length d] W fun e w' => ∃ (L : List Itm) (C : Option Addr) (k : Nat), e = .returned (.tuple #[.slice C L.length k, .int .i64 (addE m n)]) ∧ L.map Itm.z = addL m n ∧ Lv w' C k L ∧ Below W.heap.size W w' ∧ NwT w' k W.heap.size C L := by
  subst hm
  subst hn
  refine (add_new l r A B c d W h.len h'.len h.nil h'.nil h.items h'.items).mono ?_
  rintro e w' ⟨L, C, k, h1, h2, h3, h4, h5⟩
  exact ⟨L, C, k, h1, h2, ⟨h3, h4, small_z h2 (addL_len _ _)⟩, h5⟩
theorem checkV {W : World} {A : Option Addr} {c : Nat} {l : List Itm} (h : Lv W A c l) {m : List Zit} (hm : l.map Itm.z = m) :
    Calls Try.prog 19 #[.slice A l.length c] W fun e w' => e = .returned (.int .i64 (errZ m)) ∧ Gr W w' := by
  subst hm
  exact checkZ_any l A c W h.len h.items
theorem sameV {W : World} {A B : Option Addr} {c d : Nat} {l r : List Itm} (h : Lv W A c l) (h' : Lv W B d r) (hm : l.map Itm.z = r.map Itm.z) :
    Calls Try.prog 13 #[.slice A l.length c, .slice B r.length d] W fun e w' => e = .returned (.bool true) ∧ Gr W w' := by
  have := sameS_any l r A B c d W h.len h.items h'.items
  rw [decide_eq_true hm] at this
  exact this

/-- The world of the first three items. -/
def litW (w : World) : World := ((((w.alloc (.cells #[.int .i64 2] 3)).alloc (.cells #[.int .i64 1] 3)).alloc (.cells #[.int .i64 2] 3)).alloc (.cells #[.slice (some ⟨w.heap.size, 0, none⟩) 1 1, .int .i64 1, .slice (some ⟨w.heap.size + 1, 0, none⟩) 1 1, .int .i64 5, .slice (some ⟨w.heap.size + 1 + 1, 0, none⟩) 1 1, .int .i64 (-1)] 45))
def litL (n : Nat) : List Itm := [⟨some ⟨n, 0, none⟩, 1, [2], 1⟩, ⟨some ⟨n + 1, 0, none⟩, 1, [1], 5⟩, ⟨some ⟨n + 1 + 1, 0, none⟩, 1, [2], -1⟩]
theorem lit_gr (w : World) : Gr w (litW w) := ((((Gr.refl _).alloc _).alloc _).alloc _).alloc _
theorem lit_lv (w : World) : Lv (litW w) (some ⟨w.heap.size + 1 + 1 + 1, 0, none⟩) 3 (litL w.heap.size) := by
  refine ⟨⟨Or.inr ⟨w.heap.size + 1 + 1 + 1, 0, rfl, by simp [litW], fun j hj i hi => ?_⟩, fun x hx => ?_⟩, NilC.mk (fun h => by cases h) (by simp [litL]), by simp [litL, maxLen]⟩
  · have hs : (((w.alloc (.cells #[.int .i64 2] 3)).alloc (.cells #[.int .i64 1] 3)).alloc (.cells #[.int .i64 2] 3)).heap.size = w.heap.size + 1 + 1 + 1 := by simp
    have hj' : j < 3 := hj
    have hb : ∀ k v, (#[.slice (some ⟨w.heap.size, 0, none⟩) 1 1, .int .i64 1, .slice (some ⟨w.heap.size + 1, 0, none⟩) 1 1, .int .i64 5, .slice (some ⟨w.heap.size + 1 + 1, 0, none⟩) 1 1, .int .i64 (-1)] : Array Value)[k]? = some v → (litW w).cell? ⟨w.heap.size + 1 + 1 + 1, k, none⟩ = some v := fun k v hv => by
      have := box1 (w := (((w.alloc (.cells #[.int .i64 2] 3)).alloc (.cells #[.int .i64 1] 3)).alloc (.cells #[.int .i64 2] 3))) (T1 := 45) (Gr.refl _) (j := k) hv
      rw [hs] at this
      exact this
    match j, hj', i, hi with
    | 0, _, 0, _ => exact hb 0 _ rfl
    | 0, _, 1, _ => exact hb 1 _ rfl
    | 1, _, 0, _ => exact hb 2 _ rfl
    | 1, _, 1, _ => exact hb 3 _ rfl
    | 2, _, 0, _ => exact hb 4 _ rfl
    | 2, _, 1, _ => exact hb 5 _ rfl
  · unfold litL at hx
    simp only [List.mem_cons, List.not_mem_nil, or_false] at hx
    rcases hx with rfl | rfl | rfl
    · exact ⟨(rowNewI rfl 2 3).gr ((((Gr.refl _).alloc _).alloc _).alloc _), by simp [maxLen], fun h => by cases h⟩
    · exact ⟨(rowNewI (by simp) 1 3).gr (((Gr.refl _).alloc _).alloc _), by simp [maxLen], fun h => by cases h⟩
    · exact ⟨(rowNewI (by simp) 2 3).gr ((Gr.refl _).alloc _), by simp [maxLen], fun h => by cases h⟩
theorem lit_z (n : Nat) : (litL n).map Itm.z = [([2], 1), ([1], 5), ([2], -1)] := rfl
theorem lit_e : normE [([2], 1), ([1], 5), ([2], -1)] = 0 ∧ normL [([2], 1), ([1], 5), ([2], -1)] = [([1], 5)] := by decide
theorem one_z {L : List Itm} {m : List Zit} (h : L.map Itm.z = m) (hm : m = [([1], 5)]) : ∃ t : Itm, L = [t] ∧ t.n = 5 := by
  subst hm
  have hl : L.length = 1 := by have := congrArg List.length h; simpa using this
  obtain ⟨t, rfl⟩ := List.length_eq_one_iff.1 hl
  refine ⟨t, rfl, ?_⟩
  have h1 : t.z = ([1], 5) := by simpa using h
  exact congrArg Prod.snd h1
theorem none_z {L : List Itm} (h : L.map Itm.z = []) : L = [] := List.map_eq_nil_iff.1 h


end Go.Proofs.Ytgmdjioobidadaa

namespace Go.Proofs
open Go.Shelf
def Try.laysIndexByte_ren : Go.Shelf.Ren := ⟨fun | 137 => 77 | 217 => 87 | 266 => 89 | n => n, fun | 9 => 9 | 5 => 5 | 3 => 3 | n => n, fun | n => n⟩
theorem Try.laysIndexByte : Go.Proofs.Lays.n137 Try.prog Try.laysIndexByte_ren := {
  mixed := by kernel_rfl
  f137 := Try.func77.trans (congrArg some (by kernel_rfl))
  f217 := Try.func87.trans (congrArg some (by kernel_rfl))
  f266 := Try.func89.trans (congrArg some (by kernel_rfl))
  t3 := Try.underlying3
  a3 := Try.isAgg3
  z3 := Try.sizeOf3
  v3 := Try.zeroValue3
  t5 := Try.underlying5
  a5 := Try.isAgg5
  z5 := Try.sizeOf5
  v5 := Try.zeroValue5
  t9 := Try.underlying9
  a9 := Try.isAgg9
  z9 := Try.sizeOf9
  v9 := Try.zeroValue9 }
end Go.Proofs
