/-
  The small functions of package table: isKey, isCell, order.
-/
import Derived.Test.YtbhhpijidbhipaaTBase
import Derived.Test.YtbhhpijidbhipaaDotLeaf
namespace Go.Proofs.Ytbhhpijidbhipaa
open Go.RowKit Go.Sort

set_option maxHeartbeats 400000 in
theorem isKey_any (n : Int) (w : World) :
    Calls Try.prog 54 #[.int .i64 n] w fun e w' => e = .returned (.bool (inB n 0 49)) ∧ w' = w := by
  by_cases h1 : 0 ≤ n
  · by_cases h2 : n < 50
    · have e : inB n 0 49 = true := by simp [inB]; omega
      rw [e]; clear e
      go_enter Try.func54, Try.ntmps54
      go_wp2
      go_ret
      exact ⟨rfl, rfl⟩
    · have e : inB n 0 49 = false := by simp [inB]; omega
      rw [e]; clear e
      go_enter Try.func54, Try.ntmps54
      go_wp2
      go_ret
      exact ⟨rfl, rfl⟩
  · have e : inB n 0 49 = false := by simp [inB]; omega
    rw [e]; clear e
    go_enter Try.func54, Try.ntmps54
    go_wp2
    go_ret
    exact ⟨rfl, rfl⟩

set_option maxHeartbeats 1000000 in
theorem isCell_any (k c v : Int) (w : World) :
    Calls Try.prog 46 #[.int .i64 k, .int .i64 c, .int .i64 v] w fun e w' => e = .returned (.bool (okPlace k c v)) ∧ w' = w := by
  cases h1 : inB k 0 49
  · have e : okPlace k c v = false := by simp [okPlace, h1]
    rw [e]; clear e
    go_enter Try.func46, Try.ntmps46
    go_wp2_with (go_at_call 54; refine (isKey_any _ _).mono ?_; rintro e w' ⟨rfl, rfl⟩; rw [h1])
    go_ret
    exact ⟨rfl, rfl⟩
  · by_cases h2 : 0 ≤ c
    · by_cases h3 : c < 3
      · by_cases h4 : -1000 ≤ v
        · by_cases h5 : v ≤ 1000
          · have e : okPlace k c v = true := by unfold okPlace; rw [h1]; simp [inB]; omega
            rw [e]; clear e
            go_enter Try.func46, Try.ntmps46
            go_wp2_with (go_at_call 54; refine (isKey_any _ _).mono ?_; rintro e w' ⟨rfl, rfl⟩; rw [h1])
            go_ret
            exact ⟨rfl, rfl⟩
          · have e : okPlace k c v = false := by unfold okPlace; rw [h1]; simp [inB]; omega
            rw [e]; clear e
            have h5b : decide (v ≤ 1000) = false := by simpa using h5
            go_enter Try.func46, Try.ntmps46
            go_wp2_with (go_at_call 54; refine (isKey_any _ _).mono ?_; rintro e w' ⟨rfl, rfl⟩; rw [h1])
            go_ret
            exact ⟨rfl, rfl⟩
        · have e : okPlace k c v = false := by unfold okPlace; rw [h1]; simp [inB]; omega
          rw [e]; clear e
          have h4b : decide (-1000 ≤ v) = false := by simpa using h4
          go_enter Try.func46, Try.ntmps46
          go_wp2_with (go_at_call 54; refine (isKey_any _ _).mono ?_; rintro e w' ⟨rfl, rfl⟩; rw [h1])
          go_ret
          exact ⟨rfl, rfl⟩
      · have e : okPlace k c v = false := by unfold okPlace; rw [h1]; simp [inB]; omega
        rw [e]; clear e
        have h3b : decide (c < 3) = false := by simpa using h3
        go_enter Try.func46, Try.ntmps46
        go_wp2_with (go_at_call 54; refine (isKey_any _ _).mono ?_; rintro e w' ⟨rfl, rfl⟩; rw [h1])
        go_ret
        exact ⟨rfl, rfl⟩
    · have e : okPlace k c v = false := by unfold okPlace; rw [h1]; simp [inB]; omega
      rw [e]; clear e
      have h2b : decide (0 ≤ c) = false := by simpa using h2
      go_enter Try.func46, Try.ntmps46
      go_wp2_with (go_at_call 54; refine (isKey_any _ _).mono ?_; rintro e w' ⟨rfl, rfl⟩; rw [h1])
      go_ret
      exact ⟨rfl, rfl⟩

set_option maxHeartbeats 400000 in
theorem orderC_any (x y : Cel) (w : World) :
    Calls Try.prog 47 #[.agg #[.int .i64 x.1.1, .int .i64 x.1.2, .int .i64 x.2.1, .int .i64 x.2.2.1, .int .i64 x.2.2.2], .agg #[.int .i64 y.1.1, .int .i64 y.1.2, .int .i64 y.2.1, .int .i64 y.2.2.1, .int .i64 y.2.2.2]] w fun e w' => e = .returned (.int .i64 (ordI x.1 y.1)) ∧ Gr w w' := by
  go_enter Try.func47, Try.ntmps47
  go_wp2_with fail
  refine (order_any x.1 y.1 _).mono ?_
  rintro e w' ⟨rfl, hg⟩
  go_wp2
  go_ret
  exact ⟨rfl, (((Gr.refl w).alloc _).alloc _).trans hg⟩

theorem orderC_g {x y : Cel} {r : Int} (h : ordI x.1 y.1 = r) (w : World) : Calls Try.prog 47 #[.agg #[.int .i64 x.1.1, .int .i64 x.1.2, .int .i64 x.2.1, .int .i64 x.2.2.1, .int .i64 x.2.2.2], .agg #[.int .i64 y.1.1, .int .i64 y.1.2, .int .i64 y.2.1, .int .i64 y.2.2.1, .int .i64 y.2.2.2]] w fun e w' => e = .returned (.int .i64 r) ∧ ∃ q os', w' = grow (w.drewN q) os' := by
  rw [← h]; exact orderC_any x y w
theorem isCell_g {k c v : Int} {r : Bool} (h : okPlace k c v = r) (w : World) :
    Calls Try.prog 46 #[.int .i64 k, .int .i64 c, .int .i64 v] w fun e w' => e = .returned (.bool r) ∧ w' = w := by
  rw [← h]; exact isCell_any k c v w
theorem isKey_g {n : Int} {r : Bool} (h : inB n 0 49 = r) (w : World) :
    Calls Try.prog 54 #[.int .i64 n] w fun e w' => e = .returned (.bool r) ∧ w' = w := by
  rw [← h]; exact isKey_any n w

end Go.Proofs.Ytbhhpijidbhipaa
