/-
  The library's slices.SortFunc at rows: where its functions and types stand in this program.
  Rows of a list of items, sorted: slices.SortFunc at rows.
  What viewref.Total's loops keep: sums by names, rows one by one.
-/
import Derived.Shelf.SlSortCmp.NoneTotal
import Derived.Shelf.SlGeneric
import Derived.Test.YtoanlaedkpkpnaaGreatDoorProg
import Derived.Test.YtoanlaedkpkpnaaGreatDoorM20
import Derived.Test.YtoanlaedkpkpnaaGreatDoorM03
import Derived.Test.YtoanlaedkpkpnaaGreatDoorM05
import Derived.Test.YtoanlaedkpkpnaaGreatDoorM10
namespace Go.Proofs
open Go.Shelf
def Tryz.sortRow_ren : Go.Shelf.Ren := ⟨fun | 6 => 39 | 15 => 54 | 14 => 53 | 28 => 76 | 29 => 77 | 20 => 68 | 21 => 69 | 22 => 70 | 23 => 71 | 24 => 72 | 25 => 73 | 26 => 74 | 27 => 75 | 46 => 103 | 47 => 104 | 48 => 105 | 49 => 106 | 50 => 107 | 57 => 129 | n => n, fun | 22 => 76 | 24 => 46 | 25 => 78 | 3 => 3 | 39 => 90 | 0 => 0 | 53 => 109 | 55 => 111 | 4 => 4 | 46 => 102 | 45 => 101 | 50 => 106 | 5 => 5 | 9 => 9 | 66 => 137 | 70 => 115 | 76 => 156 | 77 => 157 | n => n, fun | n => n⟩
theorem Tryz.sortRow : Go.Proofs.SlLaysF.n6 Tryz.prog Tryz.sortRow_ren := {
  mixed := by kernel_rfl
  f6 := ⟨Tryz.f39.name, by decide, Tryz.func39.trans (congrArg some (by kernel_rfl))⟩
  f14 := ⟨Tryz.f53.name, by decide, Tryz.func53.trans (congrArg some (by kernel_rfl))⟩
  f15 := Tryz.func54.trans (congrArg some (by kernel_rfl))
  f20 := ⟨Tryz.f68.name, by decide, Tryz.func68.trans (congrArg some (by kernel_rfl))⟩
  f21 := ⟨Tryz.f69.name, by decide, Tryz.func69.trans (congrArg some (by kernel_rfl))⟩
  f22 := ⟨Tryz.f70.name, by decide, Tryz.func70.trans (congrArg some (by kernel_rfl))⟩
  f23 := ⟨Tryz.f71.name, by decide, Tryz.func71.trans (congrArg some (by kernel_rfl))⟩
  f24 := ⟨Tryz.f72.name, by decide, Tryz.func72.trans (congrArg some (by kernel_rfl))⟩
  f25 := ⟨Tryz.f73.name, by decide, Tryz.func73.trans (congrArg some (by kernel_rfl))⟩
  f26 := ⟨Tryz.f74.name, by decide, Tryz.func74.trans (congrArg some (by kernel_rfl))⟩
  f27 := ⟨Tryz.f75.name, by decide, Tryz.func75.trans (congrArg some (by kernel_rfl))⟩
  f28 := Tryz.func76.trans (congrArg some (by kernel_rfl))
  f29 := Tryz.func77.trans (congrArg some (by kernel_rfl))
  f46 := ⟨Tryz.f103.name, by decide, Tryz.func103.trans (congrArg some (by kernel_rfl))⟩
  f47 := Tryz.func104.trans (congrArg some (by kernel_rfl))
  f48 := Tryz.func105.trans (congrArg some (by kernel_rfl))
  f49 := ⟨Tryz.f106.name, by decide, Tryz.func106.trans (congrArg some (by kernel_rfl))⟩
  f50 := ⟨Tryz.f107.name, by decide, Tryz.func107.trans (congrArg some (by kernel_rfl))⟩
  f57 := ⟨Tryz.f129.name, by decide, Tryz.func129.trans (congrArg some (by kernel_rfl))⟩
  t0 := Tryz.underlying0
  a0 := Tryz.isAgg0
  z0 := Tryz.sizeOf0
  v0 := Tryz.zeroValue0
  t3 := Tryz.underlying3
  a3 := Tryz.isAgg3
  z3 := Tryz.sizeOf3
  v3 := Tryz.zeroValue3
  t4 := Tryz.underlying4
  a4 := Tryz.isAgg4
  z4 := Tryz.sizeOf4
  v4 := Tryz.zeroValue4
  t5 := Tryz.underlying5
  a5 := Tryz.isAgg5
  z5 := Tryz.sizeOf5
  v5 := Tryz.zeroValue5
  t9 := Tryz.underlying9
  a9 := Tryz.isAgg9
  z9 := Tryz.sizeOf9
  v9 := Tryz.zeroValue9
  t22 := Tryz.underlying76
  a22 := Tryz.isAgg76
  z22 := Tryz.sizeOf76
  v22 := Tryz.zeroValue76
  a24 := Tryz.isAgg46
  z24 := Tryz.sizeOf46
  t25 := Tryz.underlying78
  a25 := Tryz.isAgg78
  z25 := Tryz.sizeOf78
  v25 := Tryz.zeroValue78
  t39 := Tryz.underlying90
  a39 := Tryz.isAgg90
  z39 := Tryz.sizeOf90
  v39 := Tryz.zeroValue90
  t45 := Tryz.underlying101
  a45 := Tryz.isAgg101
  z45 := Tryz.sizeOf101
  v45 := Tryz.zeroValue101
  t46 := Tryz.underlying102
  a46 := Tryz.isAgg102
  z46 := Tryz.sizeOf102
  v46 := Tryz.zeroValue102
  t50 := Tryz.underlying106
  a50 := Tryz.isAgg106
  z50 := Tryz.sizeOf106
  v50 := Tryz.zeroValue106
  t53 := Tryz.underlying109
  a53 := Tryz.isAgg109
  z53 := Tryz.sizeOf109
  v53 := Tryz.zeroValue109
  t55 := Tryz.underlying111
  a55 := Tryz.isAgg111
  z55 := Tryz.sizeOf111
  v55 := Tryz.zeroValue111
  t66 := Tryz.underlying137
  a66 := Tryz.isAgg137
  z66 := Tryz.sizeOf137
  v66 := Tryz.zeroValue137
  t70 := Tryz.underlying115
  a70 := Tryz.isAgg115
  z70 := Tryz.sizeOf115
  v70 := Tryz.zeroValue115
  t76 := Tryz.underlying156
  a76 := Tryz.isAgg156
  z76 := Tryz.sizeOf156
  v76 := Tryz.zeroValue156
  t77 := Tryz.underlying157
  a77 := Tryz.isAgg157
  z77 := Tryz.sizeOf157
  v77 := Tryz.zeroValue157 }
end Go.Proofs

namespace Go.Proofs.YtoanlaedkpkpnaaGreatDoor
open Go.RowKit Go.Sort Go.Shelf Go.Lib

/-- An item's row alone. -/
def encR (x : Itm) : List Value := [.slice x.p x.r.length x.c]
theorem encR_len (x : Itm) : (encR x).length = 1 := rfl
theorem encR_one (x : Itm) : ∀ u ∈ encR x, u.oneCell' = true := by
  intro u hu
  simp [encR] at hu
  rw [hu]; rfl
abbrev InR (l : List Itm) := {x : Itm // x ∈ l}
def enc1 (l : List Itm) (x : InR l) : Value := .slice x.1.p x.1.r.length x.1.c
theorem enc1_one (l : List Itm) : OneCell (enc1 l) := fun _ => rfl
def cfR (l : List Itm) (x y : InR l) : Int := cmpL x.1.r y.1.r
theorem ltR (l : List Itm) (x y : InR l) : ltOf (cfR l) x y = decide (cmpL x.1.r y.1.r < 0) := rfl
theorem swoR (l : List Itm) : SWO (ltOf (cfR l)) where
  irrefl x := by rw [ltR, cmpL_self]; rfl
  trans x y z h1 h2 := by
    rw [ltR, decide_eq_true_eq] at *
    exact cmpL_lt_trans h1 h2
  ntrans x y z h1 h2 := by
    rw [ltR, decide_eq_false_iff_not] at *
    have e1 := cmpL_flip x.1.r y.1.r
    have e2 := cmpL_flip y.1.r z.1.r
    have e3 := cmpL_flip x.1.r z.1.r
    have := (cmpL_trans z.1.r y.1.r x.1.r (by omega) (by omega)).1
    omega
theorem sortR_block {α : Type} [Inhabited α] {enc : α → Value} {w : World} {g n b : Nat} {os : Array Obj} {d : Array α} (hb : b < w.heap.size) (hne : b ≠ g) : (sortWorld enc w g 0 n d os).heap[b]? = w.heap[b]? := by
  show ((putRow enc (Sort.ahead w n) g 0 d).heap ++ os)[b]? = _
  rw [Array.getElem?_append_left (by simp; exact hb)]
  show ((Sort.ahead w n).heap.modify g _)[b]? = _
  rw [Array.getElem?_modify, if_neg (by omega)]
  rfl
theorem sortR_size {α : Type} [Inhabited α] {enc : α → Value} {w : World} {g n : Nat} {os : Array Obj} {d : Array α} : w.heap.size ≤ (sortWorld enc w g 0 n d os).heap.size := by simp [sortWorld, grow]
theorem grown_sortR {α : Type} [Inhabited α] {enc : α → Value} {w : World} {g n : Nat} {os : Array Obj} {d : Array α} : w.grownBy (sortWorld enc w g 0 n d os) (some g) :=
  ⟨rfl, rfl, rfl, sortR_size, fun k hk hne => sortR_block hk (fun e => hne (by rw [e]))⟩
theorem rowI_sortR {α : Type} [Inhabited α] {enc : α → Value} {w : World} {g n : Nat} {os : Array Obj} {d : Array α} {p : Option Addr} {r : List Int} (h : RowI w p r) (hne : ∀ a, p = some a → r ≠ [] → a.block ≠ g) : RowI (sortWorld enc w g 0 n d os) p r := by
  rcases h with k | ⟨b, off, hp, hb, hc⟩
  · exact Or.inl k
  by_cases hr : r = []
  · exact Or.inl hr
  · refine Or.inr ⟨b, off, hp, Nat.lt_of_lt_of_le hb sortR_size, fun j hj i hi => ?_⟩
    rw [World.cell?_of_block (a := ⟨b, off + j * 1 + i, none⟩) (sortR_block hb (hne ⟨b, off, none⟩ hp hr))]
    exact hc j hj i hi
theorem holdsR {w : World} {g : Nat} {l : List Itm} [Inhabited (InR l)] (h : RowG encR 1 w (some ⟨g, 0, none⟩) l) (hf : ∀ j, w.frozen? ⟨g, j, none⟩ = false) : Holds (enc1 l) w g 0 l.attach.toArray := by
  intro t ht
  have hk : t < l.length := by simpa using ht
  refine ⟨?_, hf _⟩
  obtain ⟨b, off, hA, hb, hc⟩ := h.at hk
  obtain ⟨rfl, rfl⟩ : g = b ∧ 0 = off := by injection hA with hA; injection hA with h1 h2; exact ⟨h1, h2⟩
  have hk' : t < l.attach.toArray.size := by simpa using hk
  have e : (l.attach.toArray[t]!).1 = l[t] := by rw [getElem!_pos l.attach.toArray t hk']; simp
  have := hc t hk 0 (by omega)
  rw [show 0 + t * 1 + 0 = 0 + t from by omega] at this
  rw [this]
  unfold enc1
  rw [e]
  rfl
theorem rowR {w : World} {g : Nat} {l : List Itm} [Inhabited (InR l)] {d : Array (InR l)} (h : Holds (enc1 l) w g 0 d) (hg : g < w.heap.size) : RowG encR 1 w (some ⟨g, 0, none⟩) (d.toList.map Subtype.val) := by
  refine Or.inr ⟨g, 0, rfl, hg, fun j hj i hi => ?_⟩
  have hj' : j < d.size := by simpa using hj
  have h0 := (h j hj').1
  obtain rfl : i = 0 := by omega
  rw [getElem!_pos d j hj'] at h0
  rw [show 0 + j * 1 + 0 = 0 + j from by omega, h0]
  simp only [List.getElem_map, Array.getElem_toList]
  rfl

theorem sortRows (g cap : Nat) (l : List Itm) (w : World) (hl0 : l ≠ []) (hrow : RowG encR 1 w (some ⟨g, 0, none⟩) l) (hf : ∀ j, w.frozen? ⟨g, j, none⟩ = false) (hg : g < w.heap.size) (he : ∀ x ∈ l, RowI w x.p x.r ∧ x.r.length ≤ maxLen ∧ (∀ a, x.p = some a → x.r ≠ [] → a.block ≠ g)) (hsz : l.length < 4611686018427387904) :
    Calls Tryz.prog 39 #[.slice (some ⟨g, 0, none⟩) l.length cap, .func (.func 40) #[] #[]] w fun e w' => e = .returned (.tuple #[]) ∧ (∃ S : List Itm, S.Perm l ∧ Sorted (S.map Itm.z) ∧ RowG encR 1 w' (some ⟨g, 0, none⟩) S) ∧ w.grownBy w' (some g) := by
  obtain ⟨x0, hx0⟩ : ∃ x, x ∈ l := List.exists_mem_of_ne_nil l hl0
  haveI : Inhabited (InR l) := ⟨⟨x0, hx0⟩⟩
  have hcl : CmpLays1 Tryz.prog 40 #[] (enc1 l) (cfR l) g 0 l.attach.toArray.size w := fun m os dk _ x y =>
    orderD_any x.1.r y.1.r x.1.p y.1.p x.1.c y.1.c _ (he _ x.2).2.1 (rowI_sortR (he _ x.2).1 (he _ x.2).2.2) (rowI_sortR (he _ y.2).1 (he _ y.2).2.2)
  have hcon := Any.slices_SortFunc Tryz.sortRow (enc1 l) (enc1_one l) (cfR l) (swoR l) 40 #[] g 0 cap l.attach.toArray w (enters_of Tryz.func40 (by kernel_rfl) rfl) hcl (holdsR hrow hf) hg (by simpa using hsz)
  change Calls Tryz.prog 39 _ _ _ at hcon
  simp only [List.size_toArray, List.length_attach] at hcon
  refine hcon.mono ?_
  rintro e w' ⟨he', d', n, os, hp, hs, hw⟩
  obtain ⟨hsz', _, hperm⟩ := hp
  simp only [List.size_toArray, List.length_attach] at hsz'
  have e1 : d'.extract 0 l.length = d' := by rw [← hsz']; exact Array.extract_size
  have e2 : (l.attach.toArray.extract 0 l.length).toList = l.attach := by simp only [List.extract_toArray, List.drop_zero, Nat.sub_zero, List.extract_eq_take_drop]; exact List.take_of_length_le (by simp)
  rw [e1, e2] at hperm
  have hpm : (d'.toList.map Subtype.val).Perm l := by have := hperm.map Subtype.val; rwa [show l.attach.map Subtype.val = l by simp] at this
  refine ⟨he', ⟨d'.toList.map Subtype.val, hpm, ?_, ?_⟩, by rw [hw]; exact grown_sortR⟩
  · unfold Sorted
    rw [List.map_map, List.pairwise_map, List.pairwise_iff_getElem]
    intro i j hi hj hij
    have hi' : i < d'.size := by simpa using hi
    have hj' : j < d'.size := by simpa using hj
    have := hs i j (Nat.zero_le _) hij (by omega)
    rw [getElem!_pos d' j hj', getElem!_pos d' i hi', ltR, decide_eq_false_iff_not] at this
    have e3 := cmpL_flip (d'[j]'hj').1.r (d'[i]'hi').1.r
    show cmpL (d'[i]'hi').1.r (d'[j]'hj').1.r ≤ 0
    omega
  · have hH' : Holds (enc1 l) w' g 0 d' := by
      rw [hw]
      refine holds_grow _ _ _ _ _ _ (by simp; exact hg) ?_
      exact holds_putRow _ _ _ _ l.attach.toArray _ (holds_ahead _ _ _ _ _ _ (holdsR hrow hf)) (by simp [hsz'])
    exact rowR hH' (by rw [hw]; exact Nat.lt_of_lt_of_le hg sortR_size)
end Go.Proofs.YtoanlaedkpkpnaaGreatDoor

namespace Go.Proofs.YtoanlaedkpkpnaaGreatDoor
open Go.RowKit Go.Sort Go.Maps

/-- The sums by names, as the map has them. -/
structure Sums (D : DataW Unit) (l : List Zit) : Prop where
  at' : ∀ r : List Int, D.atKey (.string (nmL r)) (.lit (.int .i64 0)) = .lit (.int .i64 (wt l r))
  map : IsMap D
theorem Sums.nil : Sums (.map []) [] := ⟨fun _ => rfl, ⟨[], rfl⟩⟩
theorem Sums.more {D : DataW Unit} {l : List Zit} (h : Sums D l) (x : Zit) : Sums (D.put (.string (nmL x.1)) (.lit (.int .i64 (wt l x.1 + x.2)))) (l ++ [x]) := by
  refine ⟨fun r => ?_, ?_⟩
  · rw [wt_append]
    by_cases e : x.1 = r
    · subst e
      rw [atKey_put_same h.map (show WideAt.IsKeyLit (.string (nmL x.1)) from trivial)]
      simp [wt]
    · rw [atKey_put_other (fun k => e (by injection k with k; first | exact nmL_inj k | exact (nmL_inj k).symm)), h.at' r]
      simp [wt, e]
  · obtain ⟨es, he⟩ := h.map
    rw [he]
    exact ⟨_, rfl⟩
theorem wt_bnd {B : Int} (hB : 0 ≤ B) {l : List Zit} (h : ∀ x ∈ l, -B ≤ x.2 ∧ x.2 ≤ B) (r : List Int) : -((l.length : Int) * B) ≤ wt l r ∧ wt l r ≤ (l.length : Int) * B := by
  induction l with
  | nil => simp [wt]
  | cons x l ih =>
    have h1 := ih fun y hy => h y (List.mem_cons_of_mem _ hy)
    have h2 := h x (List.mem_cons_self ..)
    simp only [wt, List.length_cons]
    rw [show (((l.length + 1 : Nat) : Int)) * B = (l.length : Int) * B + B by rw [Int.natCast_add, Int.add_mul]; simp]
    by_cases e : x.1 = r
    · rw [if_pos e]; omega
    · rw [if_neg e]; omega
/-- Has a list a row? -/
def hasR (l : List Zit) (r : List Int) : Bool := l.any fun x => decide (x.1 = r)
theorem hasR_iff {l : List Zit} {r : List Int} : hasR l r = true ↔ ∃ x ∈ l, x.1 = r := by
  unfold hasR
  rw [List.any_eq_true]
  constructor
  · rintro ⟨x, hx, e⟩; exact ⟨x, hx, by simpa using e⟩
  · rintro ⟨x, hx, e⟩; exact ⟨x, hx, by simpa using e⟩
theorem hasR_snoc (l : List Zit) (x : Zit) (r : List Int) : hasR (l ++ [x]) r = (hasR l r || decide (x.1 = r)) := by simp [hasR]
/-- What holds when the first i rows are told. -/
structure UpR (l S : List Zit) (i : Nat) (L : List Zit) : Prop where
  rise : Rise L
  noz : NoZ L
  same : ∀ r, wt L r = if hasR (S.take i) r = true then wt l r else 0
  rows : ∀ y ∈ L, ∃ x ∈ S.take i, x.1 = y.1
  len : L.length ≤ i
theorem UpR.zero (l S : List Zit) : UpR l S 0 [] := ⟨List.Pairwise.nil, fun x hx => (by cases hx), fun r => by simp [hasR, wt], fun y hy => (by cases hy), Nat.le_refl _⟩
theorem UpR.dup {l S L : List Zit} {i : Nat} (h : UpR l S i L) (hi : i < S.length) (hd : hasR (S.take i) S[i].1 = true) : UpR l S (i + 1) L := by
  refine ⟨h.rise, h.noz, fun r => ?_, fun y hy => ?_, Nat.le_succ_of_le h.len⟩
  · rw [h.same, List.take_succ_eq_append_getElem hi, hasR_snoc]
    by_cases e : S[i].1 = r
    · subst e; simp [hd]
    · simp [e]
  · obtain ⟨x, hx, e⟩ := h.rows y hy
    exact ⟨x, by rw [List.take_succ_eq_append_getElem hi]; exact List.mem_append.2 (Or.inl hx), e⟩
theorem UpR.none {l S L : List Zit} {i : Nat} (h : UpR l S i L) (hi : i < S.length) (hz : wt l S[i].1 = 0) : UpR l S (i + 1) L := by
  refine ⟨h.rise, h.noz, fun r => ?_, fun y hy => ?_, Nat.le_succ_of_le h.len⟩
  · rw [h.same, List.take_succ_eq_append_getElem hi, hasR_snoc]
    by_cases e : S[i].1 = r
    · subst e; simp [hz]
    · simp [e]
  · obtain ⟨x, hx, e⟩ := h.rows y hy
    exact ⟨x, by rw [List.take_succ_eq_append_getElem hi]; exact List.mem_append.2 (Or.inl hx), e⟩
theorem UpR.more {l S L : List Zit} {i : Nat} (h : UpR l S i L) (hi : i < S.length) (hlt : ∀ x ∈ S.take i, cmpL x.1 S[i].1 < 0) (hz : wt l S[i].1 ≠ 0) : UpR l S (i + 1) (L ++ [(S[i].1, wt l S[i].1)]) := by
  have hno : hasR (S.take i) S[i].1 = false := by
    cases e : hasR (S.take i) S[i].1
    · rfl
    · obtain ⟨x, hx, e2⟩ := hasR_iff.1 e
      exact absurd e2 (cmpL_ne (hlt x hx))
  refine ⟨?_, ?_, fun r => ?_, fun y hy => ?_, by have := h.len; simp; omega⟩
  · unfold Rise
    rw [List.pairwise_append]
    refine ⟨h.rise, List.pairwise_singleton _ _, fun x hx y hy => ?_⟩
    obtain rfl : y = _ := by simpa using hy
    obtain ⟨z, hz, e⟩ := h.rows x hx
    rw [← e]; exact hlt z hz
  · intro x hx
    rcases List.mem_append.1 hx with e | e
    · exact h.noz x e
    · obtain rfl : x = _ := by simpa using e
      exact hz
  · rw [wt_append, h.same, List.take_succ_eq_append_getElem hi, hasR_snoc]
    simp only [wt]
    by_cases e : S[i].1 = r
    · subst e; simp [hno]
    · simp [e]
  · rw [List.take_succ_eq_append_getElem hi]
    rcases List.mem_append.1 hy with e | e
    · obtain ⟨x, hx, e2⟩ := h.rows y e
      exact ⟨x, List.mem_append.2 (Or.inl hx), e2⟩
    · obtain rfl : y = _ := by simpa using e
      exact ⟨S[i], List.mem_append.2 (Or.inr (List.mem_singleton.2 rfl)), rfl⟩
theorem UpR.done {l S L : List Zit} {i : Nat} (h : UpR l S i L) (hi : S.length ≤ i) (hp : S.Perm l) : L = totL l := by
  refine IsTot.eq ⟨h.rise, h.noz, fun r => ?_⟩
  rw [h.same, List.take_of_length_le hi]
  by_cases e : hasR S r = true
  · rw [if_pos e]
  · rw [if_neg e]
    refine (wt_none fun x hx k => e (hasR_iff.2 ⟨x, hp.mem_iff.2 hx, k⟩)).symm
theorem ahead_lt {S : List Zit} (hs : Sorted S) {i : Nat} (hi : i < S.length) (h : i = 0 ∨ ∃ (_ : 0 < i), cmpL (S[i - 1]'(by omega)).1 S[i].1 ≠ 0) : ∀ x ∈ S.take i, cmpL x.1 S[i].1 < 0 := by
  intro x hx
  obtain ⟨j, hj, rfl⟩ := List.mem_iff_getElem.1 hx
  simp only [List.length_take] at hj
  rw [List.getElem_take]
  have hp := List.pairwise_iff_getElem.1 hs
  rcases h with rfl | ⟨h0, hne⟩
  · omega
  · have h1 : cmpL (S[i - 1]'(by omega)).1 S[i].1 ≤ 0 := hp (i - 1) i (by omega) hi (by omega)
    have h2 : cmpL (S[i - 1]'(by omega)).1 S[i].1 < 0 := by omega
    by_cases e : j = i - 1
    · subst e; exact h2
    · have h3 : cmpL (S[j]'(by omega)).1 (S[i - 1]'(by omega)).1 ≤ 0 := hp j (i - 1) (by omega) (by omega) (by omega)
      exact (cmpL_trans _ _ _ h3 h1).2 (Or.inr h2)
theorem dup_has {S : List Zit} {i : Nat} (hi : i < S.length) (h0 : 0 < i) (h : cmpL (S[i - 1]'(by omega)).1 S[i].1 = 0) : hasR (S.take i) S[i].1 = true := by
  refine hasR_iff.2 ⟨S[i - 1]'(by omega), ?_, cmpL_eq _ _ h⟩
  rw [List.mem_iff_getElem]
  exact ⟨i - 1, by simp; omega, by rw [List.getElem_take]⟩
end Go.Proofs.YtoanlaedkpkpnaaGreatDoor
