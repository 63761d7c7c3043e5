/-
  slices.IndexFunc and ContainsFunc at dots, with the function that DotSays hands in: whether one of a list is no right dot.
-/
import Derived.Test.YtjgefnipkaecgaaLeaf
namespace Go.Proofs.Ytjgefnipkaecgaa
open Go.RowKit Go.Sort

set_option maxHeartbeats 400000 in
theorem notRight_any (a b : Int) (w : World) :
    Calls Try.prog 10 #[.agg #[.int .i64 a, .int .i64 b]] w fun e w' => e = .returned (.bool (!rightB (a, b))) ∧ Gr w w' := by
  go_enter Try.func10, Try.ntmps10
  cases h1 : rightB (a, b)
  · go_wp2_with (go_at_call 11; refine (right_g h1 _).mono ?_; rintro e w' ⟨rfl, q, os', rfl⟩)
    go_ret
    exact ⟨rfl, unbox (o1 := .cells #[.int .i64 a, .int .i64 b] 27) ⟨q, os', rfl⟩⟩
  · go_wp2_with (go_at_call 11; refine (right_g h1 _).mono ?_; rintro e w' ⟨rfl, q, os', rfl⟩)
    go_ret
    exact ⟨rfl, unbox (o1 := .cells #[.int .i64 a, .int .i64 b] 27) ⟨q, os', rfl⟩⟩

theorem notRight_g {a b : Int} {r : Bool} (h : rightB (a, b) = !r) (w : World) :
    Calls Try.prog 10 #[.agg #[.int .i64 a, .int .i64 b]] w fun e w' => e = .returned (.bool r) ∧ Gr w w' := by
  have := notRight_any a b w
  rw [h, Bool.not_not] at this
  exact this

set_option maxHeartbeats 1000000 in
theorem indexFunc_any (l : List (Int × Int)) (A : Option Addr) (cap : Nat) (w : World) (hl : l.length ≤ maxLen) (hr : Row w A l) :
    Calls Try.prog 47 #[.slice A l.length cap, .func (.func 10) #[] #[]] w fun e w' => ∃ r : Int, e = .returned (.int .i64 r) ∧ Hid (decide (0 ≤ r) = badL l) ∧ Gr w w' := by
  unfold maxLen at hl
  go_enter Try.func47, Try.ntmps47
  go_wp2
  go_loopw [8] (fun i wr => ∃ k : Nat, k ≤ l.length ∧ i = .int .i64 k ∧ Hid (∀ j (h : j < l.length), j < k → rightB l[j] = true) ∧ Gr w wr) (fun i _ => l.length - (intOf i).toNat)
  case atStart => exact ⟨0, Nat.zero_le _, rfl, fun j _ hj => absurd hj (Nat.not_lt_zero _), Gr.refl _⟩
  case round =>
    obtain ⟨k, hk, rfl, hno, hgr⟩ := hrel
    by_cases hlt : k < l.length
    · have hltz : (k : Int) < (l.length : Int) := by omega
      obtain ⟨bb, off, rfl, hb, hcs⟩ := (hr.gr hgr).at hlt
      obtain ⟨x, y, hx⟩ : ∃ x y, l[k] = (x, y) := ⟨_, _, rfl⟩
      have e0 := (hcs k hlt).1
      have e1 := (hcs k hlt).2
      rw [hx] at e0 e1
      have hxH : Hid (l[k] = (x, y)) := hx
      clear hcs hx
      cases hq : rightB (x, y)
      · have hfin : Hid (decide ((0 : Int) ≤ (k : Int)) = badL l) := by
          have : badL l = true := by
            simp only [badL, List.any_eq_true]
            exact ⟨l[k], List.getElem_mem hlt, by rw [hxH.out, hq]; rfl⟩
          show decide _ = _
          rw [this]; simp
        go_wp2_with (go_at_call 10; refine (notRight_g (r := true) hq _).mono ?_; rintro e w' ⟨rfl, hg⟩)
        go_ret
        exact ⟨_, rfl, hfin, hgr.trans hg⟩
      · go_wp2_with (go_at_call 10; refine (notRight_g (r := false) hq _).mono ?_; rintro e w' ⟨rfl, hg⟩)
        go_roundw
        case rel =>
          refine ⟨k + 1, by omega, by go_num, ?_, hgr.trans hg⟩
          intro j hj hjk
          by_cases e : j = k
          · subst e; rw [hxH.out]; exact hq
          · exact hno j hj (by omega)
        case measure => simp [intOf]; omega
    · have hltz : ¬ (k : Int) < (l.length : Int) := by omega
      have hfin : Hid (decide ((0 : Int) ≤ -1) = badL l) := by
        have : badL l = false := by
          simp only [badL, List.any_eq_false]
          intro x hx
          obtain ⟨j, hj, rfl⟩ := List.getElem_of_mem hx
          rw [hno j hj (by omega)]; simp
        show decide _ = _
        rw [this]; simp
      go_wp2
      go_ret
      exact ⟨_, rfl, hfin, hgr⟩

set_option maxHeartbeats 1000000 in
theorem containsFunc_any (l : List (Int × Int)) (A : Option Addr) (cap : Nat) (w : World) (hl : l.length ≤ maxLen) (hr : Row w A l) :
    Calls Try.prog 9 #[.slice A l.length cap, .func (.func 10) #[] #[]] w fun e w' => e = .returned (.bool (badL l)) ∧ Gr w w' := by
  go_enter Try.func9, Try.ntmps9
  go_wp2_with fail
  refine (indexFunc_any l A cap _ hl hr).mono ?_
  rintro e w' ⟨r, rfl, hrr, hg⟩
  go_wp2
  go_ret
  exact ⟨by rw [← hrr.out]; rfl, hg⟩

end Go.Proofs.Ytjgefnipkaecgaa
