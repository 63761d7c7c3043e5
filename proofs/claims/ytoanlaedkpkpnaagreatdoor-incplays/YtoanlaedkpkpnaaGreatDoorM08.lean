/-
  What is handed in, opened: a row of numbers.
  What is handed in, opened: a row of numbers, a list of items.
  What is carried through the calls of viewkeep.ZsetGroup: lists of items, and what each call tells of them.
-/
import Derived.Test.YtoanlaedkpkpnaaGreatDoorM07
import Derived.Test.YtoanlaedkpkpnaaGreatDoorTInts
import Derived.Test.YtoanlaedkpkpnaaGreatDoorM02
import Derived.Test.YtoanlaedkpkpnaaGreatDoorM06
import Derived.Test.YtoanlaedkpkpnaaGreatDoorM05
namespace Go.Proofs.YtoanlaedkpkpnaaGreatDoor
open Go.ChangeShapes Go.WideShapes Go.ChangeAt Go.RowKit Go.Deep

variable {H : Type} {enc : TypeId × Value → H} {W : World}

set_option maxRecDepth 100000 in
theorem open_row {fuel : Nat} {cs : List Value} {x : DataW H × List MemPlace} (h : DataW.trod enc Tryz.prog W 0 (fun _ => true) true fuel 46 cs = some x) :
    ∃ A cap l, cs = [.slice A (l : List Int).length cap] ∧ (A = none → cap = 0) ∧ RowI W A l ∧ l.length ≤ maxLen := by
  rcases open_slice Tryz.underlying46 h with ⟨hcs, _⟩ | ⟨a, len, cap, m, n, D, Pl, hcs, _, hl, hm, hmm, hx, hi⟩
  · exact ⟨none, 0, [], hcs, fun _ => rfl, Or.inl rfl, by simp⟩
  · have c1 : Tryz.prog.cellsOf 3 = 1 := by kernel_rfl
    have hlm : len ≤ m := by rw [hmm]; simp; exact hl
    obtain ⟨Z, hZ⟩ := choose_lt (α := Int) (n := len) (p := fun i z => W.cell? (a.add i) = some (.int .i64 z)) (fun i hi' => by
      obtain ⟨cs', h1, h2⟩ := hi i (by omega)
      rw [c1] at h1
      obtain ⟨_, hlen, hcell⟩ := World.cells?_some h1
      obtain ⟨z, e, _⟩ := DataW.trod_int Tryz.underlying3 h2
      refine ⟨z, ?_⟩
      have := hcell 0 (by omega)
      rw [add_add] at this
      simp only [Nat.mul_one, Nat.add_zero] at this
      rw [this]
      simp [e])
    refine ⟨some a, cap, (List.range len).map Z, by rw [hcs]; simp, (fun h => by cases h), ?_, by simp; omega⟩
    by_cases h0 : len = 0
    · exact Or.inl (by rw [h0]; rfl)
    · have hc0 := hZ 0 (by omega)
      obtain ⟨b, off, spot⟩ := a
      have hspot : spot = none := by simpa [Addr.add] using World.cell?_spot hc0
      subst hspot
      refine Or.inr ⟨b, off, rfl, ?_, fun j hj i hi1 => ?_⟩
      · have := World.block_lt_of_cell? W _ hc0
        simpa [Addr.add_lit] using this
      · have hj' : j < len := by simpa using hj
        have := hZ j hj'
        obtain rfl : i = 0 := by omega
        simp only [Addr.add_lit] at this
        simpa [encI] using this

end Go.Proofs.YtoanlaedkpkpnaaGreatDoor

namespace Go.Proofs.YtoanlaedkpkpnaaGreatDoor
open Go.ChangeShapes Go.WideShapes Go.ChangeAt Go.RowKit Go.Deep

variable {H : Type} {enc : TypeId × Value → H} {W : World}

set_option maxRecDepth 100000 in
theorem open_item {fuel : Nat} {cs : List Value} {x : DataW H × List MemPlace} (hl : cs.length = 2) (h : DataW.trod enc Tryz.prog W 0 (fun _ => true) true fuel 59 cs = some x) : ∃ y : Itm, cs = encT y ∧ RowI W y.p y.r ∧ y.r.length ≤ maxLen ∧ (y.p = none → y.c = 0) := by
  match cs, hl with
  | [v0, v1], _ =>
    obtain ⟨y0, y1, n, _, _, t0, t1⟩ := trod_struct2 Tryz.underlying59 h
    have c1 : Tryz.prog.cellsOf 3 = 1 := by kernel_rfl
    have c2 : Tryz.prog.cellsOf 46 = 1 := by kernel_rfl
    simp only [c1, c2] at t0 t1
    obtain ⟨A, cap, l, hl, hA, hr, hm⟩ := open_row t0
    obtain ⟨z, e, _⟩ := DataW.trod_int Tryz.underlying3 t1
    simp at hl e
    exact ⟨⟨A, cap, l, z⟩, by rw [hl, e]; rfl, hr, hm, hA⟩

set_option maxRecDepth 100000 in
theorem open_itemsT {fuel : Nat} {cs : List Value} {x : DataW H × List MemPlace} (h : DataW.trod enc Tryz.prog W 0 (fun _ => true) true fuel 30 cs = some x) :
    ∃ A cap l, cs = [.slice A (l : List Itm).length cap] ∧ NilC A l.length cap ∧ Items W A l ∧ l.length ≤ maxLen := by
  rcases open_slice Tryz.underlying30 h with ⟨hcs, _⟩ | ⟨a, lenL, capL, m, n, D, Pl, hcs, _, hl, hm, hmm, hx, hi⟩
  · exact ⟨none, 0, [], hcs, fun _ => rfl, ⟨Or.inl rfl, fun x hx => by cases hx⟩, by simp⟩
  · have c2 : Tryz.prog.cellsOf 59 = 2 := by kernel_rfl
    have hlm : lenL ≤ m := by rw [hmm]; simp; exact hl
    haveI : Inhabited Itm := ⟨⟨none, 0, [], 0⟩⟩
    obtain ⟨Z, hZ⟩ := choose_lt (α := Itm) (n := lenL) (p := fun i z => (∀ j, j < 2 → W.cell? (a.add (i * 2 + j)) = (encT z)[j]?) ∧ RowI W z.p z.r ∧ z.r.length ≤ maxLen ∧ (z.p = none → z.c = 0)) (fun i hi' => by
      obtain ⟨cs', h1, h2⟩ := hi i (by omega)
      rw [c2] at h1
      obtain ⟨_, hlen, hcell⟩ := World.cells?_some h1
      obtain ⟨y, hy, hy2⟩ := open_item hlen h2
      refine ⟨y, fun j hj => ?_, hy2⟩
      have := hcell j (by omega)
      rw [add_add] at this
      rw [this, ← hy, List.getElem?_eq_getElem (by omega)])
    refine ⟨some a, capL, (List.range lenL).map Z, by rw [hcs]; simp, NilC.mk (fun h => by cases h) (by simp; exact hl), ⟨?_, fun x hx => ?_⟩, by simp; omega⟩
    · by_cases h0 : lenL = 0
      · exact Or.inl (by rw [h0]; rfl)
      · have hc0 := (hZ 0 (by omega)).1 0 (by omega)
        obtain ⟨b, off, spot⟩ := a
        have hc1 : W.cell? (Addr.add ⟨b, off, spot⟩ (0 * 2 + 0)) = some (.slice (Z 0).p (Z 0).r.length (Z 0).c) := hc0
        have hspot : spot = none := by simpa [Addr.add] using World.cell?_spot hc1
        subst hspot
        refine Or.inr ⟨b, off, rfl, ?_, fun j hj i hi5 => ?_⟩
        · have := World.block_lt_of_cell? W _ hc1
          simpa [Addr.add_lit] using this
        · have hj' : j < lenL := by simpa using hj
          have := (hZ j hj').1 i hi5
          simp only [Addr.add_lit, ← Nat.add_assoc] at this
          simpa using this
    · obtain ⟨i, hi', rfl⟩ := List.mem_map.1 hx
      exact (hZ i (by simpa using hi')).2

set_option maxRecDepth 100000 in
theorem open_items {r : Reach} {b0 : Nat} {v : Value} {d : DataW H} {p : List MemPlace} (hv : Value.okWide Tryz.prog W r b0 30 v) (h : DataW.Trod enc Tryz.prog W 0 (fun _ => true) true 30 v d p) :
    ∃ A cap l, v = .slice A (l : List Itm).length cap ∧ NilC A l.length cap ∧ Items W A l ∧ l.length ≤ maxLen := by
  obtain ⟨aL, lenL, capL, rfl⟩ := okWide_slice Tryz.underlying30 hv
  obtain ⟨fuel, hf⟩ := h
  obtain ⟨A, cap, l, hcs, h1⟩ := open_itemsT hf
  refine ⟨A, cap, l, ?_, h1⟩
  simpa [Value.cells] using hcs


theorem array2 {cs : Array Value} (h : cs.size = 2) : ∃ a b, cs = #[a, b] := by
  obtain ⟨l⟩ := cs
  match l, h with
  | [a, b], _ => exact ⟨a, b, rfl⟩
set_option maxRecDepth 100000 in
theorem open_foodT {fuel : Nat} {v0 v1 : Value} {x : DataW H × List MemPlace} (h : DataW.trod enc Tryz.prog W 0 (fun _ => true) true fuel 35 [v0, v1] = some x) :
    ∃ A ca a B cb b, v0 = .slice A (a : List Itm).length ca ∧ v1 = .slice B (b : List Itm).length cb ∧ (NilC A a.length ca ∧ Items W A a ∧ a.length ≤ maxLen) ∧ (NilC B b.length cb ∧ Items W B b ∧ b.length ≤ maxLen) := by
  obtain ⟨y0, y1, n, _, _, t0, t1⟩ := trod_struct2 Tryz.underlying35 h
  have c1 : Tryz.prog.cellsOf 30 = 1 := by kernel_rfl
  simp only [c1] at t0 t1
  obtain ⟨A, ca, a, ha, ha1⟩ := open_itemsT t0
  obtain ⟨B, cb, b, hb, hb1⟩ := open_itemsT t1
  simp at ha hb
  exact ⟨A, ca, a, B, cb, b, ha, hb, ha1, hb1⟩
set_option maxRecDepth 100000 in
theorem open_food {r : Reach} {b0 : Nat} {v : Value} {d : DataW H} {p : List MemPlace} (hv : Value.okWide Tryz.prog W r b0 35 v) (h : DataW.Trod enc Tryz.prog W 0 (fun _ => true) true 35 v d p) :
    ∃ A ca a B cb b, v = .agg #[.slice A (a : List Itm).length ca, .slice B (b : List Itm).length cb] ∧ (NilC A a.length ca ∧ Items W A a ∧ a.length ≤ maxLen) ∧ (NilC B b.length cb ∧ Items W B b ∧ b.length ≤ maxLen) := by
  obtain ⟨cs, rfl, hsz⟩ := okWide_struct Tryz.underlying35 hv
  obtain ⟨v0, v1, rfl⟩ := array2 (hsz.trans (by kernel_rfl))
  obtain ⟨fuel, hf⟩ := h
  obtain ⟨A, ca, a, B, cb, b, h0, h1, h2, h3⟩ := open_foodT hf
  exact ⟨A, ca, a, B, cb, b, by rw [h0, h1], h2, h3⟩

end Go.Proofs.YtoanlaedkpkpnaaGreatDoor

namespace Go.Proofs.YtoanlaedkpkpnaaGreatDoor
open Go.RowKit Go.Sort

/-- A list of items that lies in memory. -/
structure Lv (W : World) (A : Option Addr) (c : Nat) (l : List Itm) : Prop where
  items : Items W A l
  nilc : NilC A l.length c
  len : l.length ≤ maxLen
theorem Lv.nil {W : World} {A : Option Addr} {c : Nat} {l : List Itm} (h : Lv W A c l) : A = none → c = 0 := h.nilc.z
theorem Lv.below {W W' : World} {A : Option Addr} {c : Nat} {l : List Itm} (h : Lv W A c l) (q : Below W.heap.size W W') : Lv W' A c l := ⟨h.items.below q, h.nilc, h.len⟩
theorem Lv.gr {W W' : World} {A : Option Addr} {c : Nat} {l : List Itm} (h : Lv W A c l) (q : Gr W W') : Lv W' A c l := h.below q.below
theorem small_z {L : List Itm} {m : List Zit} (h : L.map Itm.z = m) (hm : m.length ≤ 400) : L.length ≤ maxLen := by
  have : L.length = m.length := by rw [← h, List.length_map]
  unfold maxLen; omega
theorem normL_len (l : List Zit) : (normL l).length ≤ 400 := by
  unfold normL
  by_cases h : normE l = 0
  · rw [if_pos h]; exact Nat.le_trans (totL_len l) (normE_parts h).1
  · rw [if_neg h]; simp
theorem negL_len (l : List Zit) : (negL l).length ≤ 400 := by
  unfold negL
  by_cases h : errZ l = 0
  · rw [if_pos h, List.length_map]; exact ((errZ_iff _).1 h).1
  · rw [if_neg h]; simp
theorem addL_len (a b : List Zit) : (addL a b).length ≤ 400 := by
  unfold addL
  by_cases h : addE a b = 0
  · rw [if_pos h]
    by_cases k : 400 < (totL (a ++ b)).length
    · exfalso
      unfold addE at h
      by_cases h1 : errZ a = 0
      · rw [if_pos h1] at h
        by_cases h2 : errZ b = 0
        · rw [if_pos h2] at h
          by_cases h3 : totE (a ++ b) = 0
          · rw [if_pos h3, if_pos k] at h; cases h
          · rw [if_neg h3] at h; exact h3 h
        · rw [if_neg h2] at h; exact h2 h
      · rw [if_neg h1] at h; exact h1 h
    · omega
  · rw [if_neg h]; simp
theorem normV {W : World} {A : Option Addr} {c : Nat} {l : List Itm} (h : Lv W A c l) {m : List Zit} (hm : l.map Itm.z = m) :
    Calls Tryz.prog 62 #[.slice A l.length c] W fun e w' => ∃ (L : List Itm) (C : Option Addr) (k : Nat), e = .returned (.tuple #[.slice C L.length k, .int .i64 (normE m)]) ∧ L.map Itm.z = normL m ∧ Lv w' C k L ∧ Below W.heap.size W w' := by
  subst hm
  refine (norm_any l A c W h.len h.nil h.items).mono ?_
  rintro e w' ⟨L, C, k, h1, h2, h3, h4, h5⟩
  exact ⟨L, C, k, h1, h2, ⟨h3, h4, small_z h2 (normL_len _)⟩, h5⟩
theorem normVn {W : World} {A : Option Addr} {c : Nat} {l : List Itm} (h : Lv W A c l) {m : List Zit} (hm : l.map Itm.z = m) :
    Calls Tryz.prog 62 #[.slice A l.length c] W fun e w' => ∃ (L : List Itm) (C : Option Addr) (k : Nat), e = .returned (.tuple #[.slice C L.length k, .int .i64 (normE m)]) ∧ L.map Itm.z = normL m ∧ Lv w' C k L ∧ Below W.heap.size W w' ∧ NewT W.heap.size C L := by
  subst hm
  refine (norm_new l A c W h.len h.nil h.items).mono ?_
  rintro e w' ⟨L, C, k, h1, h2, h3, h4, h5⟩
  exact ⟨L, C, k, h1, h2, ⟨h3, h4, small_z h2 (normL_len _)⟩, h5⟩
theorem negV {W : World} {A : Option Addr} {c : Nat} {l : List Itm} (h : Lv W A c l) {m : List Zit} (hm : l.map Itm.z = m) :
    Calls Tryz.prog 95 #[.slice A l.length c] W fun e w' => ∃ (L : List Itm) (C : Option Addr) (k : Nat), e = .returned (.tuple #[.slice C L.length k, .int .i64 (errZ m)]) ∧ L.map Itm.z = negL m ∧ Lv w' C k L ∧ Below W.heap.size W w' := by
  subst hm
  refine (neg_any l A c W h.len h.items).mono ?_
  rintro e w' ⟨L, C, k, h1, h2, h3, h4, h5⟩
  exact ⟨L, C, k, h1, h2, ⟨h3, h4, small_z h2 (negL_len _)⟩, h5⟩
theorem addV {W : World} {A B : Option Addr} {c d : Nat} {l r : List Itm} (h : Lv W A c l) (h' : Lv W B d r) {m n : List Zit} (hm : l.map Itm.z = m) (hn : r.map Itm.z = n) :
    Calls Tryz.prog 16 #[.slice A l.length c, .slice B r.length d] W fun e w' => ∃ (L : List Itm) (C : Option Addr) (k : Nat), e = .returned (.tuple #[.slice C L.length k, .int .i64 (addE m n)]) ∧ L.map Itm.z = addL m n ∧ Lv w' C k L ∧ Below W.heap.size W w' := by
  subst hm
  subst hn
  refine (add_any l r A B c d W h.len h'.len h.nil h'.nil h.items h'.items).mono ?_
  rintro e w' ⟨L, C, k, h1, h2, h3, h4, h5⟩
  exact ⟨L, C, k, h1, h2, ⟨h3, h4, small_z h2 (addL_len _ _)⟩, h5⟩
theorem addVn {W : World} {A B : Option Addr} {c d : Nat} {l r : List Itm} (h : Lv W A c l) (h' : Lv W B d r) {m n : List Zit} (hm : l.map Itm.z = m) (hn : r.map Itm.z = n) :
    Calls Tryz.prog 16 #[.slice A l.length c, .slice B r.length d] W fun e w' => ∃ (L : List Itm) (C : Option Addr) (k : Nat), e = .returned (.tuple #[.slice C L.length k, .int .i64 (addE m n)]) ∧ L.map Itm.z = addL m n ∧ Lv w' C k L ∧ Below W.heap.size W w' ∧ NewT W.heap.size C L := by
  subst hm
  subst hn
  refine (add_new l r A B c d W h.len h'.len h.nil h'.nil h.items h'.items).mono ?_
  rintro e w' ⟨L, C, k, h1, h2, h3, h4, h5⟩
  exact ⟨L, C, k, h1, h2, ⟨h3, h4, small_z h2 (addL_len _ _)⟩, h5⟩
theorem checkV {W : World} {A : Option Addr} {c : Nat} {l : List Itm} (h : Lv W A c l) {m : List Zit} (hm : l.map Itm.z = m) :
    Calls Tryz.prog 31 #[.slice A l.length c] W fun e w' => e = .returned (.int .i64 (errZ m)) ∧ Gr W w' := by
  subst hm
  exact checkZ_any l A c W h.len h.items
theorem sameV {W : World} {A B : Option Addr} {c d : Nat} {l r : List Itm} (h : Lv W A c l) (h' : Lv W B d r) (hm : l.map Itm.z = r.map Itm.z) :
    Calls Tryz.prog 8 #[.slice A l.length c, .slice B r.length d] W fun e w' => e = .returned (.bool true) ∧ Gr W w' := by
  have := sameS_any l r A B c d W h.len h.items h'.items
  rw [decide_eq_true hm] at this
  exact this

/-- The world of the first three items. -/
def litW (w : World) : World := ((((w.alloc (.cells #[.int .i64 2] 3)).alloc (.cells #[.int .i64 1] 3)).alloc (.cells #[.int .i64 2] 3)).alloc (.cells #[.slice (some ⟨w.heap.size, 0, none⟩) 1 1, .int .i64 1, .slice (some ⟨w.heap.size + 1, 0, none⟩) 1 1, .int .i64 5, .slice (some ⟨w.heap.size + 1 + 1, 0, none⟩) 1 1, .int .i64 (-1)] 59))
def litL (n : Nat) : List Itm := [⟨some ⟨n, 0, none⟩, 1, [2], 1⟩, ⟨some ⟨n + 1, 0, none⟩, 1, [1], 5⟩, ⟨some ⟨n + 1 + 1, 0, none⟩, 1, [2], -1⟩]
theorem lit_gr (w : World) : Gr w (litW w) := ((((Gr.refl _).alloc _).alloc _).alloc _).alloc _
theorem lit_lv (w : World) : Lv (litW w) (some ⟨w.heap.size + 1 + 1 + 1, 0, none⟩) 3 (litL w.heap.size) := by
  refine ⟨⟨Or.inr ⟨w.heap.size + 1 + 1 + 1, 0, rfl, by simp [litW], fun j hj i hi => ?_⟩, fun x hx => ?_⟩, NilC.mk (fun h => by cases h) (by simp [litL]), by simp [litL, maxLen]⟩
  · have hs : (((w.alloc (.cells #[.int .i64 2] 3)).alloc (.cells #[.int .i64 1] 3)).alloc (.cells #[.int .i64 2] 3)).heap.size = w.heap.size + 1 + 1 + 1 := by simp
    have hj' : j < 3 := hj
    have hb : ∀ k v, (#[.slice (some ⟨w.heap.size, 0, none⟩) 1 1, .int .i64 1, .slice (some ⟨w.heap.size + 1, 0, none⟩) 1 1, .int .i64 5, .slice (some ⟨w.heap.size + 1 + 1, 0, none⟩) 1 1, .int .i64 (-1)] : Array Value)[k]? = some v → (litW w).cell? ⟨w.heap.size + 1 + 1 + 1, k, none⟩ = some v := fun k v hv => by
      have := box1 (w := (((w.alloc (.cells #[.int .i64 2] 3)).alloc (.cells #[.int .i64 1] 3)).alloc (.cells #[.int .i64 2] 3))) (T1 := 59) (Gr.refl _) (j := k) hv
      rw [hs] at this
      exact this
    match j, hj', i, hi with
    | 0, _, 0, _ => exact hb 0 _ rfl
    | 0, _, 1, _ => exact hb 1 _ rfl
    | 1, _, 0, _ => exact hb 2 _ rfl
    | 1, _, 1, _ => exact hb 3 _ rfl
    | 2, _, 0, _ => exact hb 4 _ rfl
    | 2, _, 1, _ => exact hb 5 _ rfl
  · unfold litL at hx
    simp only [List.mem_cons, List.not_mem_nil, or_false] at hx
    rcases hx with rfl | rfl | rfl
    · exact ⟨(rowNewI rfl 2 3).gr ((((Gr.refl _).alloc _).alloc _).alloc _), by simp [maxLen], fun h => by cases h⟩
    · exact ⟨(rowNewI (by simp) 1 3).gr (((Gr.refl _).alloc _).alloc _), by simp [maxLen], fun h => by cases h⟩
    · exact ⟨(rowNewI (by simp) 2 3).gr ((Gr.refl _).alloc _), by simp [maxLen], fun h => by cases h⟩
theorem lit_z (n : Nat) : (litL n).map Itm.z = [([2], 1), ([1], 5), ([2], -1)] := rfl
theorem lit_e : normE [([2], 1), ([1], 5), ([2], -1)] = 0 ∧ normL [([2], 1), ([1], 5), ([2], -1)] = [([1], 5)] := by decide
theorem one_z {L : List Itm} {m : List Zit} (h : L.map Itm.z = m) (hm : m = [([1], 5)]) : ∃ t : Itm, L = [t] ∧ t.n = 5 := by
  subst hm
  have hl : L.length = 1 := by have := congrArg List.length h; simpa using this
  obtain ⟨t, rfl⟩ := List.length_eq_one_iff.1 hl
  refine ⟨t, rfl, ?_⟩
  have h1 : t.z = ([1], 5) := by simpa using h
  exact congrArg Prod.snd h1
theorem none_z {L : List Itm} (h : L.map Itm.z = []) : L = [] := List.map_eq_nil_iff.1 h


end Go.Proofs.YtoanlaedkpkpnaaGreatDoor
