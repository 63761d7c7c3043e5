/-
  viewref.Whole of any word; viewref.Wholes; slices.Index at texts.
-/
import Derived.Test.YtoodkgmpggabdaaDoorRWhole
import Derived.Test.YtoodkgmpggabdaaDoorQParL
namespace Go.Proofs.YtoodkgmpggabdaaDoor
open Go.RowKit Go.Sort

theorem bytes_get {x : List UInt8} {j : Nat} (_h : j < x.length) (h2 : j < (⟨x.toArray⟩ : ByteArray).size) : (⟨x.toArray⟩ : ByteArray)[j]'h2 = x[j] := rfl
theorem bytes_size (x : List UInt8) : (⟨x.toArray⟩ : ByteArray).size = x.length := by simp [ByteArray.size]
theorem bytes_tail (b : UInt8) (y : List UInt8) : (⟨(b :: y).toArray⟩ : ByteArray).extract 1 (y.length + 1) = ⟨y.toArray⟩ := by
  apply ByteArray.ext
  simp [ByteArray.data_extract]
theorem whole_any (x : List UInt8) (w : World) (hx : x.length ≤ 2000) :
    Calls Tryd.prog 32 #[.string ⟨x.toArray⟩, .int .i64 10] w fun e w' => e = .returned (.tuple #[.int .i64 (whlN x), .bool (whlB x)]) ∧ w' = w := by
  by_cases h : ∃ y, x = 45 :: y
  · obtain ⟨y, rfl⟩ := h
    exact whole_minus y _ rfl ⟨(45 :: y).toArray⟩ ⟨y.toArray⟩ w (by rw [bytes_size]; rfl) rfl (bytes_tail _ _) (bytes_size y) (fun j h => bytes_get h _) (by simp at hx; omega) _ _ rfl rfl
  · refine whole_plain x x rfl (fun e => h ?_) ⟨x.toArray⟩ ⟨x.toArray⟩ w rfl (bytes_size x) (fun j h => bytes_get h _) hx _ _ rfl rfl
    cases x with
    | nil => cases e
    | cons a t => exact ⟨t, by rw [Option.some.inj (show some a = some 45 from e)]⟩
theorem numsP_snocR : ∀ (l : List (List UInt8)) (x : List UInt8), numsP (l ++ [x]) = match numsP l with
    | some a => (numP x).map fun n => a ++ [n]
    | none => none
  | [], x => by
    simp only [List.nil_append, numsP]
    cases numP x <;> rfl
  | y :: l, x => by
    have ih := numsP_snocR l x
    simp only [List.cons_append, numsP, ih]
    cases numP y with
    | none => rfl
    | some n =>
      cases numsP l with
      | none => rfl
      | some a => cases numP x <;> rfl
theorem numsP_badR {l : List (List UInt8)} {k : Nat} (h : numsP (l.take k) = none) : numsP l = none := by
  have key : ∀ (a b : List (List UInt8)), numsP a = none → numsP (a ++ b) = none := by
    intro a b
    induction a with
    | nil => intro h; simp [numsP] at h
    | cons y t ih =>
      intro h
      simp only [List.cons_append, numsP] at h ⊢
      cases e : numP y with
      | none => rfl
      | some n =>
        rw [e] at h
        cases e2 : numsP t with
        | none => rw [ih e2]
        | some a => rw [e2] at h; cases h
  rw [← List.take_append_drop k l]
  exact key _ _ h
/-- Whether words are numbers. -/
def whsB (xs : List (List UInt8)) : Bool := (numsP xs).isSome
theorem whsB_none {xs : List (List UInt8)} (h : numsP xs = none) : whsB xs = false := by unfold whsB; rw [h]; rfl
theorem whsB_some {xs : List (List UInt8)} {l : List Int} (h : numsP xs = some l) : whsB xs = true := by unfold whsB; rw [h]; rfl
/-- The numbers of words. -/
def WhsO (xs : List (List UInt8)) (w : World) (base : Nat) (v : Value) : Prop := ∀ l, numsP xs = some l → OwnI w base v l
set_option maxRecDepth 100000 in
set_option maxHeartbeats 1000000 in
theorem wholes_any (xs : List (List UInt8)) (A : Option Addr) (cap : Nat) (w : World) (hr : RowX w A xs) (hl : xs.length ≤ 2000) (hx : ∀ x ∈ xs, x.length ≤ 2000) {B9 : Bool} (hB9 : whsB xs = B9) :
    Calls Tryd.prog 23 #[.slice A xs.length cap, .int .i64 10] w fun e w' => ∃ v, e = .returned (.tuple #[v, .bool B9]) ∧ Below w.heap.size w w' ∧ WhsO xs w' w.heap.size v := by
  have hH : Hid (RowX w A xs ∧ ∀ x ∈ xs, x.length ≤ 2000) := ⟨hr, hx⟩
  have hBH : Hid (whsB xs = B9) := hB9
  clear hr hx hB9
  go_enter Tryd.func23, Tryd.ntmps23
  go_wp2
  go_loopw [6, 7] (fun v i wr => ∃ (k : Nat) (l : List Int), k ≤ xs.length ∧ i = .int .i64 k ∧ Hid (numsP (xs.take k) = some l ∧ l.length = k ∧ OwnI wr w.heap.size v l ∧ Below w.heap.size w wr)) (fun _ i _ => xs.length - (intOf i).toNat)
  case atStart => exact ⟨0, [], Nat.zero_le _, rfl, rfl, rfl, OwnG.nil _ _ _ _ _, Below.refl _ _⟩
  case round =>
    rename World => wr0
    obtain ⟨k, l, hk, rfl, hR⟩ := hrel
    by_cases hlt : k < xs.length
    · have hltz : (k : Int) < (xs.length : Int) := by omega
      obtain ⟨x, hx⟩ : ∃ x, xs[k] = x := ⟨_, rfl⟩
      obtain ⟨b, off, rfl, hb, hcs⟩ := (hH.out.1.below hR.out.2.2.2).at hlt
      have e0 := hcs k hlt 0 (by omega)
      rw [hx] at e0
      have e1 : wr0.cell? ⟨b, off + k, none⟩ = some (.string ⟨x.toArray⟩) := by simpa [encX] using e0
      have hsn : Hid (numsP (xs.take (k + 1)) = (numP x).map fun n => l ++ [n]) := by show _ = _; rw [List.take_succ_eq_append_getElem hlt, hx, numsP_snocR, hR.out.1]
      have hW0 := whole_any x wr0 (hH.out.2 x (by rw [← hx]; exact List.getElem_mem hlt))
      obtain ⟨N, hN⟩ : ∃ N, whlN x = N := ⟨_, rfl⟩
      obtain ⟨B, hB⟩ : ∃ B, whlB x = B := ⟨_, rfl⟩
      rw [hN, hB] at hW0
      have hW : Hid _ := hW0
      have hNB : Hid (whlN x = N ∧ whlB x = B) := ⟨hN, hB⟩
      clear hW0 hcs e0 hx hN hB
      go_wp2_with fail
      refine Calls.mono (show Calls _ _ _ _ _ from hW.out) ?_
      rintro e w2 ⟨rfl, hw2⟩
      subst w2
      clear hW
      cases B
      · have hbad : Hid (numsP xs = none) := by
          have hn : numP x = none := by
            have := hNB.out.2
            unfold whlB at this
            cases e : numP x with
            | none => rfl
            | some n => rw [e] at this; cases this
          exact numsP_badR (k := k + 1) (by rw [hsn.out, hn]; rfl)
        go_wp2
        go_ret2
        exact ⟨_, by rw [← hBH.out, whsB_none hbad.out]; rfl, hR.out.2.2.2, fun l h => by rw [hbad.out] at h; cases h⟩
      · have hn : Hid (numP x = some N) := by
          have h1 := hNB.out.1
          have h2 := hNB.out.2
          unfold whlN at h1
          unfold whlB at h2
          show _ = _
          cases e : numP x with
          | none => rw [e] at h2; cases h2
          | some n => rw [e] at h1; rw [← h1]; rfl
        obtain ⟨W3, hW3⟩ : ∃ W, (wr0.alloc (.cells #[.int .i64 N] 3)) = W := ⟨_, rfl⟩
        have hg3 : Gr wr0 W3 := by rw [← hW3]; exact (Gr.refl _).alloc _
        have hrow : RowI W3 (some ⟨wr0.heap.size, 0, none⟩) [N] := by rw [← hW3]; exact rowNewI rfl N _
        obtain ⟨v0, c0, hv, _⟩ := OwnG.full encI_len hR.out.2.2.1
        subst hv
        have hX : Hid (OwnI W3 w.heap.size (.slice v0 l.length c0) l ∧ RowI W3 (some ⟨wr0.heap.size, 0, none⟩) [N] ∧ l.length + 1 ≤ maxLen ∧ (l.length + 1) * 8 ≤ 140737488355328 ∧ Below w.heap.size w W3) := ⟨hR.out.2.2.1.gr hg3, hrow, by have := hR.out.2.1; unfold maxLen; omega, by have := hR.out.2.1; omega, hR.out.2.2.2.trans (hg3.below.mono hR.out.2.2.2.size)⟩
        have hln : Hid (l.length = k) := hR.out.2.1
        clear hg3 hrow hR
        go_wp2_with (at_builtin; refine wpList_append_i _ rfl (.tmp 27) (.tmp 29) rfl w.heap.size (.slice v0 l.length c0) l [N] (some ⟨wr0.heap.size, 0, none⟩) 1 rfl rfl hX.out.1 hX.out.2.1 (fun h => by cases h) hX.out.2.2.1 hX.out.2.2.2.1 hX.out.2.2.2.2.size ?_)
        intro v4 w4 hown4 hg4
        clear hW3
        have hfin : Hid (numsP (xs.take (k + 1)) = some (l ++ [N]) ∧ (l ++ [N]).length = k + 1 ∧ OwnI w4 w.heap.size v4 (l ++ [N]) ∧ Below w.heap.size w w4) := ⟨by rw [hsn.out, hn.out]; rfl, by have := hln.out; simp; omega, hown4, hX.out.2.2.2.2.trans (hX.out.1.grown_below hg4 hX.out.2.2.2.2.size)⟩
        clear hown4 hg4
        go_wp2
        go_roundw
        case rel => exact ⟨k + 1, l ++ [N], by omega, by go_num, hfin⟩
        case measure => simp [intOf]; omega
    · have hltz : ¬ (k : Int) < (xs.length : Int) := by omega
      have hke : xs.take k = xs := List.take_of_length_le (by omega)
      rw [hke] at hR
      go_wp2
      go_ret2
      exact ⟨_, by rw [← hBH.out, whsB_some hR.out.1]; rfl, hR.out.2.2.2, fun l' h => by rw [hR.out.1] at h; rw [← Option.some.inj h]; exact hR.out.2.2.1⟩
/-- Where a text stands in a list (-1: nowhere). -/
def idxX (xs : List (List UInt8)) (x : List UInt8) : Int := match xs.findIdx? (· == x) with
  | some j => (j : Int)
  | none => -1
theorem idxX_at {xs : List (List UInt8)} {x : List UInt8} {k : Nat} (hk : k < xs.length) (h : ∀ j (h : j < xs.length), j < k → xs[j] ≠ x) (he : xs[k] = x) : idxX xs x = (k : Int) := by
  have : xs.findIdx? (· == x) = some k := by
    rw [List.findIdx?_eq_some_iff_getElem]
    exact ⟨hk, by simpa using he, fun j hj => by simpa using h j (by omega) hj⟩
  unfold idxX
  rw [this]
theorem idxX_no {xs : List (List UInt8)} {x : List UInt8} (h : ∀ j (h : j < xs.length), xs[j] ≠ x) : idxX xs x = -1 := by
  have : xs.findIdx? (· == x) = none := by
    rw [List.findIdx?_eq_none_iff]
    intro y hy
    obtain ⟨j, hj, rfl⟩ := List.getElem_of_mem hy
    simpa using h j hj
  unfold idxX
  rw [this]
set_option maxRecDepth 100000 in
set_option maxHeartbeats 1000000 in
theorem index_any (xs : List (List UInt8)) (x : List UInt8) (A : Option Addr) (cap : Nat) (w : World) (hr : RowX w A xs) (hl : xs.length ≤ 2000) {R9 : Int} (hR9 : idxX xs x = R9) :
    Calls Tryd.prog 22 #[.slice A xs.length cap, .string ⟨x.toArray⟩] w fun e w' => e = .returned (.int .i64 R9) ∧ ∃ q os', w' = grow (w.drewN q) os' := by
  have hH : Hid (RowX w A xs ∧ idxX xs x = R9) := ⟨hr, hR9⟩
  clear hr hR9
  go_enter Tryd.func22, Tryd.ntmps22
  go_wp2
  go_loopw [8] (fun i wr => ∃ k : Nat, k ≤ xs.length ∧ i = .int .i64 k ∧ Hid (∀ j (h : j < xs.length), j < k → xs[j] ≠ x) ∧ wr = w) (fun i _ => xs.length - (intOf i).toNat)
  case atStart => exact ⟨0, Nat.zero_le _, rfl, fun j _ h => by omega, rfl⟩
  case round =>
    obtain ⟨k, hk, rfl, hR, hwr⟩ := hrel
    subst hwr
    by_cases hlt : k < xs.length
    · have hltz : (k : Int) < (xs.length : Int) := by omega
      obtain ⟨y, hy⟩ : ∃ y, xs[k] = y := ⟨_, rfl⟩
      obtain ⟨b, off, rfl, hb, hcs⟩ := hH.out.1.at hlt
      have e0 := hcs k hlt 0 (by omega)
      rw [hy] at e0
      have e1 : wr.cell? ⟨b, off + k, none⟩ = some (.string ⟨y.toArray⟩) := by simpa [encX] using e0
      have hyH : Hid (xs[k] = y) := hy
      clear hcs e0 hy
      by_cases hxy : x = y
      · subst hxy
        have hfin : Hid ((k : Int) = R9) := by show _ = _; rw [← hH.out.2]; exact (idxX_at hlt hR hyH.out).symm
        go_wp2
        go_ret
        exact ⟨by rw [← hfin.out]; rfl, Gr.refl _⟩
      · have hxb : (x == y) = false := by simpa using hxy
        go_wp2
        go_roundw
        case rel =>
          refine ⟨k + 1, by omega, by go_num, fun j hj hjk => ?_, by first | trivial | rfl⟩
          by_cases e : j = k
          · subst e; rw [hyH.out]; exact fun e => hxy e.symm
          · exact hR j hj (by omega)
        case measure => simp [intOf]; omega
    · have hltz : ¬ (k : Int) < (xs.length : Int) := by omega
      have hfin : Hid ((-1 : Int) = R9) := by show _ = _; rw [← hH.out.2]; exact (idxX_no fun j hj => hR j hj (by omega)).symm
      go_wp2
      go_ret
      exact ⟨by rw [← hfin.out]; rfl, Gr.refl _⟩
end Go.Proofs.YtoodkgmpggabdaaDoor
