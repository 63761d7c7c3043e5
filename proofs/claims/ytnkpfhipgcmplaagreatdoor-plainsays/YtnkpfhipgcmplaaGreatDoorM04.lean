/-
  What zset.total's loops keep: rows in order, summed up one after another.
  The library's slices.SortFunc at rows: where its functions and types stand in this program.
  Rows of a list of items, sorted: slices.SortFunc at rows.
-/
import Derived.Test.YtnkpfhipgcmplaaGreatDoorM03
import Derived.Shelf.SlSortCmp.NoneTotal
import Derived.Shelf.SlGeneric
import Derived.Test.YtnkpfhipgcmplaaGreatDoorProg
namespace Go.Proofs.YtnkpfhipgcmplaaGreatDoor

/-- In order by their rows. -/
def Sorted (S : List Zit) : Prop := S.Pairwise fun x y => cmpL x.1 y.1 ≤ 0
/-- What holds when the first i items have been summed up. -/
structure Upto (S : List Zit) (i : Nat) (L : List Zit) : Prop where
  tot : IsTot (S.take i) L
  len : L.length ≤ i
  part : ∀ x ∈ S.take i, ∀ y ∈ S.drop i, cmpL x.1 y.1 < 0
  good : ∀ r, okW (wt (S.take i) r) = true
theorem Upto.zero (S : List Zit) : Upto S 0 [] := ⟨⟨List.Pairwise.nil, fun x hx => (by cases hx), fun r => rfl⟩, by simp, fun x hx => by simp at hx, fun r => by simp [wt, okW, inB]⟩
theorem Upto.done {S L : List Zit} {i : Nat} (h : Upto S i L) (hi : S.length ≤ i) : IsTot S L ∧ ¬ BadT S := by
  have e : S.take i = S := List.take_of_length_le hi
  refine ⟨by have := h.tot; rwa [e] at this, ?_⟩
  rintro ⟨r, hr⟩
  have := h.good r
  rw [e, hr] at this; cases this
theorem wt_bound {l : List Zit} (h : ∀ x ∈ l, okW x.2 = true) (r : List Int) : -((l.length : Int) * 1048576) ≤ wt l r ∧ wt l r ≤ (l.length : Int) * 1048576 := by
  induction l with
  | nil => simp [wt]
  | cons x l ih =>
    have h1 := ih fun y hy => h y (List.mem_cons_of_mem _ hy)
    have h2 := h x (List.mem_cons_self ..)
    simp only [okW, inB, Bool.and_eq_true, decide_eq_true_eq] at h2
    simp only [wt, List.length_cons]
    by_cases e : x.1 = r
    · rw [if_pos e]; omega
    · rw [if_neg e]; omega
theorem wt_take_succ {S : List Zit} {k : Nat} (hk : k < S.length) (r : List Int) : wt (S.take (k + 1)) r = wt (S.take k) r + if S[k].1 = r then S[k].2 else 0 := by
  rw [List.take_succ_eq_append_getElem hk, wt_append]
  simp [wt]
/-- The rows from i to j are row. -/
def Run (S : List Zit) (row : List Int) (i j : Nat) : Prop := ∀ m (_ : m < S.length), i ≤ m → m < j → S[m].1 = row
theorem Run.seg {S : List Zit} {row : List Int} {i j : Nat} (h : Run S row i j) : ∀ x ∈ (S.take j).drop i, x.1 = row := by
  intro x hx
  obtain ⟨k, hk, rfl⟩ := List.mem_iff_getElem.1 hx
  simp only [List.length_drop, List.length_take] at hk
  rw [List.getElem_drop, List.getElem_take]
  exact h _ (by omega) (by omega) (by omega)
theorem Run.split {S : List Zit} {i j : Nat} (hij : i ≤ j) : S.take j = S.take i ++ (S.take j).drop i := by
  conv => lhs; rw [← List.take_append_drop i (S.take j)]
  rw [List.take_take, Nat.min_eq_left hij]
theorem Run.other {S : List Zit} {row : List Int} {i j : Nat} (h : Run S row i j) (hij : i ≤ j) {r : List Int} (hr : r ≠ row) : wt (S.take j) r = wt (S.take i) r := by
  rw [Run.split hij, wt_append, wt_none (l := (S.take j).drop i) fun x hx e => hr (by rw [← e]; exact h.seg x hx)]; omega
theorem Upto.first {S L : List Zit} {i : Nat} (h : Upto S i L) (hi : i < S.length) : wt (S.take i) S[i].1 = 0 :=
  wt_none fun x hx e => cmpL_ne (h.part x hx S[i] (by rw [List.drop_eq_getElem_cons hi]; exact List.mem_cons_self ..)) e
theorem after {S : List Zit} {row : List Int} {j : Nat} (hs : Sorted S) (i : Nat) (hi : i < S.length) (hij : i < j) (hrow : S[i].1 = row) (hj : ∀ (h : j < S.length), cmpL row S[j].1 ≠ 0) : ∀ x ∈ S.drop j, cmpL row x.1 < 0 := by
  intro x hx
  obtain ⟨k, hk, rfl⟩ := List.mem_iff_getElem.1 hx
  simp only [List.length_drop] at hk
  rw [List.getElem_drop]
  have hp := List.pairwise_iff_getElem.1 hs
  have h1 : cmpL S[i].1 S[j].1 ≤ 0 := hp i j hi (by omega) hij
  rw [hrow] at h1
  have h2 := hj (by omega)
  by_cases e : k = 0
  · subst e; simp only [Nat.add_zero]; omega
  · have h3 : cmpL S[j].1 S[j + k].1 ≤ 0 := hp j (j + k) (by omega) (by omega) (by omega)
    exact (cmpL_trans _ _ _ h1 h3).2 (Or.inl (by omega))
theorem run_bad {S : List Zit} {i j : Nat} (hs : Sorted S) (hi : i < S.length) (hij : i < j) (hj : ∀ (h : j < S.length), cmpL S[i].1 S[j].1 ≠ 0) (hb : okW (wt (S.take j) S[i].1) = false) : BadT S := by
  refine ⟨S[i].1, ?_⟩
  have h1 : wt S S[i].1 = wt (S.take j) S[i].1 := by
    have h2 := wt_append (S.take j) (S.drop j) S[i].1
    rw [List.take_append_drop, wt_none (l := S.drop j) fun x hx e => cmpL_ne (after hs i hi hij rfl hj x hx) e.symm] at h2; omega
  rw [h1]; exact hb
theorem run_part {S L : List Zit} {i j : Nat} (hs : Sorted S) (h : Upto S i L) (hi : i < S.length) (hij : i < j) (hr : Run S S[i].1 i j) (hj : ∀ (h : j < S.length), cmpL S[i].1 S[j].1 ≠ 0) : ∀ x ∈ S.take j, ∀ y ∈ S.drop j, cmpL x.1 y.1 < 0 := by
  intro x hx y hy
  rw [Run.split (Nat.le_of_lt hij)] at hx
  have h1 := after hs i hi hij rfl hj y hy
  rcases List.mem_append.1 hx with e | e
  · exact cmpL_lt_trans (h.part x e S[i] (by rw [List.drop_eq_getElem_cons hi]; exact List.mem_cons_self ..)) h1
  · rw [hr.seg x e]; exact h1
theorem run_good {S L : List Zit} {i j : Nat} (h : Upto S i L) (hij : i < j) (row : List Int) (hr : Run S row i j) (hw : okW (wt (S.take j) row) = true) : ∀ r, okW (wt (S.take j) r) = true := by
  intro r
  by_cases e : r = row
  · rw [e]; exact hw
  · rw [hr.other (Nat.le_of_lt hij) e]; exact h.good r
theorem run_zero {S L : List Zit} {i j : Nat} (hs : Sorted S) (h : Upto S i L) (hi : i < S.length) (hij : i < j) (hr : Run S S[i].1 i j) (hj : ∀ (h : j < S.length), cmpL S[i].1 S[j].1 ≠ 0) (hw : wt (S.take j) S[i].1 = 0) : Upto S j L := by
  refine ⟨⟨h.tot.rise, h.tot.noz, fun r => ?_⟩, by have := h.len; omega, run_part hs h hi hij hr hj, run_good h hij _ hr (by rw [hw]; decide)⟩
  rw [h.tot.same]
  by_cases e : r = S[i].1
  · rw [e, hw, h.first hi]
  · rw [hr.other (Nat.le_of_lt hij) e]
theorem run_more {S L : List Zit} {i j : Nat} (hs : Sorted S) (h : Upto S i L) (hi : i < S.length) (hij : i < j) (hr : Run S S[i].1 i j) (hj : ∀ (h : j < S.length), cmpL S[i].1 S[j].1 ≠ 0) (hw : okW (wt (S.take j) S[i].1) = true) (h0 : wt (S.take j) S[i].1 ≠ 0) : Upto S j (L ++ [(S[i].1, wt (S.take j) S[i].1)]) := by
  refine ⟨⟨?_, ?_, fun r => ?_⟩, by have := h.len; simp; omega, run_part hs h hi hij hr hj, run_good h hij _ hr hw⟩
  · unfold Rise
    rw [List.pairwise_append]
    refine ⟨h.tot.rise, List.pairwise_singleton _ _, fun x hx y hy => ?_⟩
    obtain rfl : y = _ := by simpa using hy
    obtain ⟨z, hz, e⟩ := h.tot.row hx
    rw [← e]
    exact h.part z hz S[i] (by rw [List.drop_eq_getElem_cons hi]; exact List.mem_cons_self ..)
  · intro x hx
    rcases List.mem_append.1 hx with e | e
    · exact h.tot.noz x e
    · obtain rfl : x = _ := by simpa using e
      exact h0
  · rw [wt_append, h.tot.same]
    simp only [wt]
    by_cases e : r = S[i].1
    · rw [e, if_pos rfl, h.first hi]; omega
    · rw [if_neg fun k => e k.symm, hr.other (Nat.le_of_lt hij) e]; omega
theorem Sorted.perm_bad {l S : List Zit} (h : S.Perm l) : BadT S ↔ BadT l := by
  unfold BadT
  simp only [wt_perm h]
theorem IsTot.perm {l S T : List Zit} (h : S.Perm l) (k : IsTot S T) : IsTot l T := ⟨k.rise, k.noz, fun r => by rw [k.same, wt_perm h]⟩

end Go.Proofs.YtnkpfhipgcmplaaGreatDoor

namespace Go.Proofs
open Go.Shelf
def Tryz.sortRow_ren : Go.Shelf.Ren := ⟨fun | 6 => 79 | 15 => 82 | 14 => 100 | 28 => 109 | 29 => 110 | 20 => 121 | 21 => 122 | 22 => 123 | 23 => 124 | 24 => 125 | 25 => 126 | 26 => 127 | 27 => 128 | 46 => 150 | 47 => 130 | 48 => 131 | 49 => 151 | 50 => 152 | 57 => 162 | n => n, fun | 22 => 112 | 24 => 30 | 25 => 40 | 3 => 3 | 39 => 117 | 0 => 0 | 53 => 143 | 55 => 145 | 4 => 4 | 46 => 137 | 45 => 136 | 50 => 126 | 5 => 5 | 9 => 9 | 66 => 159 | 70 => 163 | 76 => 179 | 77 => 180 | n => n, fun | n => n⟩
theorem Tryz.sortRow : Go.Proofs.SlLaysF.n6 Tryz.prog Tryz.sortRow_ren := {
  mixed := by kernel_rfl
  f6 := ⟨Tryz.f79.name, by decide, Tryz.func79.trans (congrArg some (by kernel_rfl))⟩
  f14 := ⟨Tryz.f100.name, by decide, Tryz.func100.trans (congrArg some (by kernel_rfl))⟩
  f15 := Tryz.func82.trans (congrArg some (by kernel_rfl))
  f20 := ⟨Tryz.f121.name, by decide, Tryz.func121.trans (congrArg some (by kernel_rfl))⟩
  f21 := ⟨Tryz.f122.name, by decide, Tryz.func122.trans (congrArg some (by kernel_rfl))⟩
  f22 := ⟨Tryz.f123.name, by decide, Tryz.func123.trans (congrArg some (by kernel_rfl))⟩
  f23 := ⟨Tryz.f124.name, by decide, Tryz.func124.trans (congrArg some (by kernel_rfl))⟩
  f24 := ⟨Tryz.f125.name, by decide, Tryz.func125.trans (congrArg some (by kernel_rfl))⟩
  f25 := ⟨Tryz.f126.name, by decide, Tryz.func126.trans (congrArg some (by kernel_rfl))⟩
  f26 := ⟨Tryz.f127.name, by decide, Tryz.func127.trans (congrArg some (by kernel_rfl))⟩
  f27 := ⟨Tryz.f128.name, by decide, Tryz.func128.trans (congrArg some (by kernel_rfl))⟩
  f28 := Tryz.func109.trans (congrArg some (by kernel_rfl))
  f29 := Tryz.func110.trans (congrArg some (by kernel_rfl))
  f46 := ⟨Tryz.f150.name, by decide, Tryz.func150.trans (congrArg some (by kernel_rfl))⟩
  f47 := Tryz.func130.trans (congrArg some (by kernel_rfl))
  f48 := Tryz.func131.trans (congrArg some (by kernel_rfl))
  f49 := ⟨Tryz.f151.name, by decide, Tryz.func151.trans (congrArg some (by kernel_rfl))⟩
  f50 := ⟨Tryz.f152.name, by decide, Tryz.func152.trans (congrArg some (by kernel_rfl))⟩
  f57 := ⟨Tryz.f162.name, by decide, Tryz.func162.trans (congrArg some (by kernel_rfl))⟩
  t0 := Tryz.underlying0
  a0 := Tryz.isAgg0
  z0 := Tryz.sizeOf0
  v0 := Tryz.zeroValue0
  t3 := Tryz.underlying3
  a3 := Tryz.isAgg3
  z3 := Tryz.sizeOf3
  v3 := Tryz.zeroValue3
  t4 := Tryz.underlying4
  a4 := Tryz.isAgg4
  z4 := Tryz.sizeOf4
  v4 := Tryz.zeroValue4
  t5 := Tryz.underlying5
  a5 := Tryz.isAgg5
  z5 := Tryz.sizeOf5
  v5 := Tryz.zeroValue5
  t9 := Tryz.underlying9
  a9 := Tryz.isAgg9
  z9 := Tryz.sizeOf9
  v9 := Tryz.zeroValue9
  t22 := Tryz.underlying112
  a22 := Tryz.isAgg112
  z22 := Tryz.sizeOf112
  v22 := Tryz.zeroValue112
  a24 := Tryz.isAgg30
  z24 := Tryz.sizeOf30
  t25 := Tryz.underlying40
  a25 := Tryz.isAgg40
  z25 := Tryz.sizeOf40
  v25 := Tryz.zeroValue40
  t39 := Tryz.underlying117
  a39 := Tryz.isAgg117
  z39 := Tryz.sizeOf117
  v39 := Tryz.zeroValue117
  t45 := Tryz.underlying136
  a45 := Tryz.isAgg136
  z45 := Tryz.sizeOf136
  v45 := Tryz.zeroValue136
  t46 := Tryz.underlying137
  a46 := Tryz.isAgg137
  z46 := Tryz.sizeOf137
  v46 := Tryz.zeroValue137
  t50 := Tryz.underlying126
  a50 := Tryz.isAgg126
  z50 := Tryz.sizeOf126
  v50 := Tryz.zeroValue126
  t53 := Tryz.underlying143
  a53 := Tryz.isAgg143
  z53 := Tryz.sizeOf143
  v53 := Tryz.zeroValue143
  t55 := Tryz.underlying145
  a55 := Tryz.isAgg145
  z55 := Tryz.sizeOf145
  v55 := Tryz.zeroValue145
  t66 := Tryz.underlying159
  a66 := Tryz.isAgg159
  z66 := Tryz.sizeOf159
  v66 := Tryz.zeroValue159
  t70 := Tryz.underlying163
  a70 := Tryz.isAgg163
  z70 := Tryz.sizeOf163
  v70 := Tryz.zeroValue163
  t76 := Tryz.underlying179
  a76 := Tryz.isAgg179
  z76 := Tryz.sizeOf179
  v76 := Tryz.zeroValue179
  t77 := Tryz.underlying180
  a77 := Tryz.isAgg180
  z77 := Tryz.sizeOf180
  v77 := Tryz.zeroValue180 }
end Go.Proofs

namespace Go.Proofs.YtnkpfhipgcmplaaGreatDoor
open Go.RowKit Go.Sort Go.Shelf Go.Lib

/-- An item's row alone. -/
def encR (x : Itm) : List Value := [.slice x.p x.r.length x.c]
theorem encR_len (x : Itm) : (encR x).length = 1 := rfl
theorem encR_one (x : Itm) : ∀ u ∈ encR x, u.oneCell' = true := by
  intro u hu
  simp [encR] at hu
  rw [hu]; rfl
abbrev InR (l : List Itm) := {x : Itm // x ∈ l}
def enc1 (l : List Itm) (x : InR l) : Value := .slice x.1.p x.1.r.length x.1.c
theorem enc1_one (l : List Itm) : OneCell (enc1 l) := fun _ => rfl
def cfR (l : List Itm) (x y : InR l) : Int := cmpL x.1.r y.1.r
theorem ltR (l : List Itm) (x y : InR l) : ltOf (cfR l) x y = decide (cmpL x.1.r y.1.r < 0) := rfl
theorem swoR (l : List Itm) : SWO (ltOf (cfR l)) where
  irrefl x := by rw [ltR, cmpL_self]; rfl
  trans x y z h1 h2 := by
    rw [ltR, decide_eq_true_eq] at *
    exact cmpL_lt_trans h1 h2
  ntrans x y z h1 h2 := by
    rw [ltR, decide_eq_false_iff_not] at *
    have e1 := cmpL_flip x.1.r y.1.r
    have e2 := cmpL_flip y.1.r z.1.r
    have e3 := cmpL_flip x.1.r z.1.r
    have := (cmpL_trans z.1.r y.1.r x.1.r (by omega) (by omega)).1
    omega
theorem sortR_block {α : Type} [Inhabited α] {enc : α → Value} {w : World} {g n b : Nat} {os : Array Obj} {d : Array α} (hb : b < w.heap.size) (hne : b ≠ g) : (sortWorld enc w g 0 n d os).heap[b]? = w.heap[b]? := by
  show ((putRow enc (Sort.ahead w n) g 0 d).heap ++ os)[b]? = _
  rw [Array.getElem?_append_left (by simp; exact hb)]
  show ((Sort.ahead w n).heap.modify g _)[b]? = _
  rw [Array.getElem?_modify, if_neg (by omega)]
  rfl
theorem sortR_size {α : Type} [Inhabited α] {enc : α → Value} {w : World} {g n : Nat} {os : Array Obj} {d : Array α} : w.heap.size ≤ (sortWorld enc w g 0 n d os).heap.size := by simp [sortWorld, grow]
theorem grown_sortR {α : Type} [Inhabited α] {enc : α → Value} {w : World} {g n : Nat} {os : Array Obj} {d : Array α} : w.grownBy (sortWorld enc w g 0 n d os) (some g) :=
  ⟨rfl, rfl, rfl, sortR_size, fun k hk hne => sortR_block hk (fun e => hne (by rw [e]))⟩
theorem rowI_sortR {α : Type} [Inhabited α] {enc : α → Value} {w : World} {g n : Nat} {os : Array Obj} {d : Array α} {p : Option Addr} {r : List Int} (h : RowI w p r) (hne : ∀ a, p = some a → r ≠ [] → a.block ≠ g) : RowI (sortWorld enc w g 0 n d os) p r := by
  rcases h with k | ⟨b, off, hp, hb, hc⟩
  · exact Or.inl k
  by_cases hr : r = []
  · exact Or.inl hr
  · refine Or.inr ⟨b, off, hp, Nat.lt_of_lt_of_le hb sortR_size, fun j hj i hi => ?_⟩
    rw [World.cell?_of_block (a := ⟨b, off + j * 1 + i, none⟩) (sortR_block hb (hne ⟨b, off, none⟩ hp hr))]
    exact hc j hj i hi
theorem holdsR {w : World} {g : Nat} {l : List Itm} [Inhabited (InR l)] (h : RowG encR 1 w (some ⟨g, 0, none⟩) l) (hf : ∀ j, w.frozen? ⟨g, j, none⟩ = false) : Holds (enc1 l) w g 0 l.attach.toArray := by
  intro t ht
  have hk : t < l.length := by simpa using ht
  refine ⟨?_, hf _⟩
  obtain ⟨b, off, hA, hb, hc⟩ := h.at hk
  obtain ⟨rfl, rfl⟩ : g = b ∧ 0 = off := by injection hA with hA; injection hA with h1 h2; exact ⟨h1, h2⟩
  have hk' : t < l.attach.toArray.size := by simpa using hk
  have e : (l.attach.toArray[t]!).1 = l[t] := by rw [getElem!_pos l.attach.toArray t hk']; simp
  have := hc t hk 0 (by omega)
  rw [show 0 + t * 1 + 0 = 0 + t from by omega] at this
  rw [this]
  unfold enc1
  rw [e]
  rfl
theorem rowR {w : World} {g : Nat} {l : List Itm} [Inhabited (InR l)] {d : Array (InR l)} (h : Holds (enc1 l) w g 0 d) (hg : g < w.heap.size) : RowG encR 1 w (some ⟨g, 0, none⟩) (d.toList.map Subtype.val) := by
  refine Or.inr ⟨g, 0, rfl, hg, fun j hj i hi => ?_⟩
  have hj' : j < d.size := by simpa using hj
  have h0 := (h j hj').1
  obtain rfl : i = 0 := by omega
  rw [getElem!_pos d j hj'] at h0
  rw [show 0 + j * 1 + 0 = 0 + j from by omega, h0]
  simp only [List.getElem_map, Array.getElem_toList]
  rfl

theorem sortRows (g cap : Nat) (l : List Itm) (w : World) (hl0 : l ≠ []) (hrow : RowG encR 1 w (some ⟨g, 0, none⟩) l) (hf : ∀ j, w.frozen? ⟨g, j, none⟩ = false) (hg : g < w.heap.size) (he : ∀ x ∈ l, RowI w x.p x.r ∧ x.r.length ≤ maxLen ∧ (∀ a, x.p = some a → x.r ≠ [] → a.block ≠ g)) (hsz : l.length < 4611686018427387904) :
    Calls Tryz.prog 79 #[.slice (some ⟨g, 0, none⟩) l.length cap, .func (.func 17) #[] #[]] w fun e w' => e = .returned (.tuple #[]) ∧ (∃ S : List Itm, S.Perm l ∧ Sorted (S.map Itm.z) ∧ RowG encR 1 w' (some ⟨g, 0, none⟩) S) ∧ w.grownBy w' (some g) := by
  obtain ⟨x0, hx0⟩ : ∃ x, x ∈ l := List.exists_mem_of_ne_nil l hl0
  haveI : Inhabited (InR l) := ⟨⟨x0, hx0⟩⟩
  have hcl : CmpLays1 Tryz.prog 17 #[] (enc1 l) (cfR l) g 0 l.attach.toArray.size w := fun m os dk _ x y =>
    orderD_any x.1.r y.1.r x.1.p y.1.p x.1.c y.1.c _ (he _ x.2).2.1 (rowI_sortR (he _ x.2).1 (he _ x.2).2.2) (rowI_sortR (he _ y.2).1 (he _ y.2).2.2)
  have hcon := Any.slices_SortFunc Tryz.sortRow (enc1 l) (enc1_one l) (cfR l) (swoR l) 17 #[] g 0 cap l.attach.toArray w (enters_of Tryz.func17 (by kernel_rfl) rfl) hcl (holdsR hrow hf) hg (by simpa using hsz)
  change Calls Tryz.prog 79 _ _ _ at hcon
  simp only [List.size_toArray, List.length_attach] at hcon
  refine hcon.mono ?_
  rintro e w' ⟨he', d', n, os, hp, hs, hw⟩
  obtain ⟨hsz', _, hperm⟩ := hp
  simp only [List.size_toArray, List.length_attach] at hsz'
  have e1 : d'.extract 0 l.length = d' := by rw [← hsz']; exact Array.extract_size
  have e2 : (l.attach.toArray.extract 0 l.length).toList = l.attach := by simp only [List.extract_toArray, List.drop_zero, Nat.sub_zero, List.extract_eq_take_drop]; exact List.take_of_length_le (by simp)
  rw [e1, e2] at hperm
  have hpm : (d'.toList.map Subtype.val).Perm l := by have := hperm.map Subtype.val; rwa [show l.attach.map Subtype.val = l by simp] at this
  refine ⟨he', ⟨d'.toList.map Subtype.val, hpm, ?_, ?_⟩, by rw [hw]; exact grown_sortR⟩
  · unfold Sorted
    rw [List.map_map, List.pairwise_map, List.pairwise_iff_getElem]
    intro i j hi hj hij
    have hi' : i < d'.size := by simpa using hi
    have hj' : j < d'.size := by simpa using hj
    have := hs i j (Nat.zero_le _) hij (by omega)
    rw [getElem!_pos d' j hj', getElem!_pos d' i hi', ltR, decide_eq_false_iff_not] at this
    have e3 := cmpL_flip (d'[j]'hj').1.r (d'[i]'hi').1.r
    show cmpL (d'[i]'hi').1.r (d'[j]'hj').1.r ≤ 0
    omega
  · have hH' : Holds (enc1 l) w' g 0 d' := by
      rw [hw]
      refine holds_grow _ _ _ _ _ _ (by simp; exact hg) ?_
      exact holds_putRow _ _ _ _ l.attach.toArray _ (holds_ahead _ _ _ _ _ _ (holdsR hrow hf)) (by simp [hsz'])
    exact rowR hH' (by rw [hw]; exact Nat.lt_of_lt_of_le hg sortR_size)
end Go.Proofs.YtnkpfhipgcmplaaGreatDoor
