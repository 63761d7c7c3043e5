/-
  query.Number: the number that a word of so many digits tells.
-/
import Derived.Test.YtoodkgmpggabdaaDoorQParT
import Derived.Test.YtoodkgmpggabdaaDoorShelfR
import Derived.Shelf.Strconv.AtoiErr
import Derived.Lib.SmallJoins
import Derived.Lib.AtoiBound
namespace Go.Proofs.YtoodkgmpggabdaaDoor
open Go.RowKit Go.Sort

/-- What the library's texts read: MaxLen's cell, ErrSyntax's, the powers of ten. -/
structure Reads (w : World) : Prop where
  len : ∃ m, w.cell? ⟨Tryd.lays145_ren.g 1, 0, none⟩ = some (.int .i64 m)
  syn : ∃ ev, w.cell? ⟨Tryd.lays172_ren.g 15, 0, none⟩ = some ev ∧ (ev = .nilIface ∨ ∃ te pe, ev = .iface te pe)
  tens : Tens w
theorem Reads.below {w w' : World} (h : Reads w) (k : Below w.heap.size w w') : Reads w' := by
  obtain ⟨m, hm⟩ := h.len
  obtain ⟨ev, he, hv⟩ := h.syn
  exact ⟨⟨m, (k.cell (World.block_lt_of_cell? w _ hm)).trans hm⟩, ⟨ev, (k.cell (World.block_lt_of_cell? w _ he)).trans he, hv⟩, h.tens.below k⟩
theorem Reads.gr {w w' : World} (h : Reads w) (k : Gr w w') : Reads w' := h.below k.below
theorem trim_any (x y : List UInt8) (w : World) : Calls Tryd.prog 42 #[.string ⟨x.toArray⟩, .string ⟨y.toArray⟩] w fun e w' => e = .returned (.string ⟨(Lib.trimPrefix x y).toArray⟩) ∧ w' = w := by
  have hc := Any.strings_TrimPrefix Tryd.lays101 ⟨x.toArray⟩ ⟨y.toArray⟩ w
  change Calls Tryd.prog 42 _ _ _ at hc
  exact hc
theorem atoi_ok {x : List UInt8} {n : Int} (hl : x.length ≤ 18) (h : Lib.atoi x = some n) (w : World) : Calls Tryd.prog 43 #[.string ⟨x.toArray⟩] w fun e w' => e = .returned (.tuple #[.int .i64 n, .nilIface]) ∧ Below w.heap.size w w' := by
  have hc := Any.strconv_Atoi Tryd.lays172.toM.1 ⟨x.toArray⟩ n hl h w
  change Calls Tryd.prog 43 _ _ _ at hc
  refine hc.mono ?_
  rintro e w' ⟨rfl, t, rfl⟩
  exact ⟨rfl, Go.Joins.below_bytesWorld _ _ _ _ (Nat.le_refl _)⟩
theorem itoa_wide {n : Int} (h0 : -9223372036854775808 ≤ n) (h1 : n ≤ 9223372036854775807) {w : World} (ht : Tens w) : Calls Tryd.prog 44 #[.int .i64 n] w fun e w' => e = .returned (.string ⟨(Lib.itoa n).toArray⟩) ∧ Gr w w' := by
  have hc := Any.strconv_Itoa Tryd.lays171 n h0 h1 w ht
  change Calls Tryd.prog 44 _ _ _ at hc
  exact hc
theorem atoi_no {x : List UInt8} (hl : x.length ≤ 18) (h : Lib.atoi x = none) (w : World) (hr : Reads w) : Calls Tryd.prog 43 #[.string ⟨x.toArray⟩] w fun e w' => (∃ N, e = .returned (.tuple #[.int .i64 0, .iface (Tryd.lays172_ren.t 168) (.pointer (some ⟨N, 0, none⟩))])) ∧ Below w.heap.size w w' := by
  obtain ⟨ev, he, hv⟩ := hr.syn
  have hc := Any.strconv_Atoi_err Tryd.lays172 ⟨x.toArray⟩ hl h ev w he hv
  change Calls Tryd.prog 43 _ _ _ at hc
  refine hc.mono ?_
  rintro e w' ⟨N, rfl, _, _, hb⟩
  exact ⟨⟨N, rfl⟩, hb⟩
/-- The number that a word of at most d digits tells. -/
def numD (d : Int) (x : List UInt8) : Option Int := if d < ((Lib.trimPrefix x [45]).length : Int) then none else match Lib.atoi x with
  | none => none
  | some n => if Lib.itoa n = x then some n else none
theorem numD_ten (x : List UInt8) : numD 10 x = numP x := by
  unfold numD numP
  by_cases h : 10 < (Lib.trimPrefix x [45]).length
  · rw [if_pos (by omega), if_pos h]
  · rw [if_neg (by omega), if_neg h]
    cases Lib.atoi x <;> rfl
set_option maxHeartbeats 1000000 in
theorem number_any (d : Int) (hd : d ≤ 17) (x : List UInt8) (w : World) (hr : Reads w) : Calls Tryd.prog 29 #[.string ⟨x.toArray⟩, .int .i64 d] w fun e w' => e = .returned (.tuple #[.int .i64 ((numD d x).getD 0), .bool (numD d x).isSome]) ∧ Below w.heap.size w w' := by
  have htr := trim_any x [45] w
  have htH : Hid _ := htr
  clear htr
  obtain ⟨T, hT⟩ : ∃ T, Lib.trimPrefix x [45] = T := ⟨_, rfl⟩
  have hTl : T.length ≤ x.length := by
    rw [← hT]
    unfold Lib.trimPrefix
    split
    · simp
    · exact Nat.le_refl _
  by_cases h10 : d < (T.length : Int)
  · have hn : numD d x = none := by unfold numD; rw [hT, if_pos h10]
    rw [hn]
    have hc : decide (d < (T.length : Int)) = true := decide_eq_true (by omega)
    rw [hT] at htH
    go_enter Tryd.func29, Tryd.ntmps29
    go_wp2_with fail
    refine Calls.mono (show Calls _ _ _ _ _ from htH.out) ?_
    rintro e w1 ⟨rfl, rfl⟩
    go_wp2
    go_ret2
    exact ⟨rfl, Below.refl _ _⟩
  have hc : decide (d < (T.length : Int)) = false := decide_eq_false (by omega)
  have hx : x.length ≤ 18 := by
    have : x.length ≤ T.length + 1 := by
      rw [← hT]
      unfold Lib.trimPrefix
      split <;> simp <;> omega
    omega
  cases ha : Lib.atoi x with
  | none =>
    have hn : numD d x = none := by unfold numD; rw [hT, if_neg h10, ha]
    rw [hn]
    rw [hT] at htH
    have hat := atoi_no hx ha w hr
    have haH : Hid _ := hat
    clear hat
    go_enter Tryd.func29, Tryd.ntmps29
    go_wp2_with fail
    refine Calls.mono (show Calls _ _ _ _ _ from htH.out) ?_
    rintro e w1 ⟨rfl, rfl⟩
    go_wp2_with fail
    refine Calls.mono (show Calls _ _ _ _ _ from haH.out) ?_
    rintro e w2 ⟨⟨N, rfl⟩, hb⟩
    go_wp2
    go_ret2
    exact ⟨rfl, hb⟩
  | some n =>
    have hnb : -9223372036854775808 ≤ n ∧ n ≤ 9223372036854775807 := by have := Lib.atoi_bound ha hx; omega
    rw [hT] at htH
    have hat := atoi_ok hx ha w
    have haH : Hid _ := hat
    clear hat
    by_cases hi : Lib.itoa n = x
    · have hn : numD d x = some n := by unfold numD; rw [hT, if_neg h10, ha]; simp [hi]
      rw [hn]
      go_enter Tryd.func29, Tryd.ntmps29
      go_wp2_with fail
      refine Calls.mono (show Calls _ _ _ _ _ from htH.out) ?_
      rintro e w1 ⟨rfl, rfl⟩
      go_wp2_with fail
      refine Calls.mono (show Calls _ _ _ _ _ from haH.out) ?_
      rintro e w2 ⟨rfl, hb⟩
      have hit := itoa_wide hnb.1 hnb.2 (hr.below hb).tens
      rw [hi] at hit
      have hiH : Hid _ := hit
      clear hit
      go_wp2_with fail
      refine Calls.mono (show Calls _ _ _ _ _ from hiH.out) ?_
      rintro e w3 ⟨rfl, hg⟩
      go_wp2
      go_ret2
      exact ⟨rfl, hb.trans (hg.below.mono hb.size)⟩
    · have hn : numD d x = none := by unfold numD; rw [hT, if_neg h10, ha]; simp [hi]
      rw [hn]
      have hne : (Lib.itoa n == x) = false := by simpa using hi
      go_enter Tryd.func29, Tryd.ntmps29
      go_wp2_with fail
      refine Calls.mono (show Calls _ _ _ _ _ from htH.out) ?_
      rintro e w1 ⟨rfl, rfl⟩
      go_wp2_with fail
      refine Calls.mono (show Calls _ _ _ _ _ from haH.out) ?_
      rintro e w2 ⟨rfl, hb⟩
      have hit := itoa_wide hnb.1 hnb.2 (hr.below hb).tens
      have hiH : Hid _ := hit
      clear hit
      go_wp2_with fail
      refine Calls.mono (show Calls _ _ _ _ _ from hiH.out) ?_
      rintro e w3 ⟨rfl, hg⟩
      go_wp2
      go_ret2
      exact ⟨rfl, hb.trans (hg.below.mono hb.size)⟩
theorem parseNumber_any (x : List UInt8) (w : World) (hr : Reads w) : Calls Tryd.prog 29 #[.string ⟨x.toArray⟩, .int .i64 10] w fun e w' => e = .returned (.tuple #[.int .i64 ((numP x).getD 0), .bool (numP x).isSome]) ∧ Below w.heap.size w w' := by
  rw [← numD_ten]; exact number_any 10 (by decide) x w hr

end Go.Proofs.YtoodkgmpggabdaaDoor
