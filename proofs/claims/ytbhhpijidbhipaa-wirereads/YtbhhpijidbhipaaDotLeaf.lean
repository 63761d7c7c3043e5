/-
  The small functions of package dot (isNode, right, order) and cmp.Compare at int: each returns what its plain function says, in every world, laying blocks of its own alone.
-/
import Derived.Test.YtbhhpijidbhipaaBase
namespace Go.Proofs.Ytbhhpijidbhipaa
open Go.RowKit Go.Sort

set_option maxHeartbeats 400000 in
theorem isNode_any (n : Int) (w : World) :
    Calls Try.prog 52 #[.int .i64 n] w fun e w' => e = .returned (.bool (inB n 0 3)) ∧ w' = w := by
  by_cases h1 : 0 ≤ n
  · by_cases h2 : n < 4
    · have e : inB n 0 3 = true := by simp [inB]; omega
      rw [e]; clear e
      go_enter Try.func52, Try.ntmps52
      go_wp2
      go_ret
      exact ⟨rfl, rfl⟩
    · have e : inB n 0 3 = false := by simp [inB]; omega
      rw [e]; clear e
      go_enter Try.func52, Try.ntmps52
      go_wp2
      go_ret
      exact ⟨rfl, rfl⟩
  · have e : inB n 0 3 = false := by simp [inB]; omega
    rw [e]; clear e
    go_enter Try.func52, Try.ntmps52
    go_wp2
    go_ret
    exact ⟨rfl, rfl⟩

set_option maxHeartbeats 400000 in
theorem dright_any (x : Int × Int) (w : World) :
    Calls Try.prog 50 #[.agg #[.int .i64 x.1, .int .i64 x.2]] w fun e w' => e = .returned (.bool (rightB x)) ∧ Gr w w' := by
  obtain ⟨a, b⟩ := x
  cases h1 : inB a 0 3
  · have e : rightB (a, b) = false := by simp [rightB, h1]
    rw [e]; clear e
    go_enter Try.func50, Try.ntmps50
    go_wp2_with (go_at_call 52; refine (isNode_any _ _).mono ?_; rintro e w' ⟨rfl, rfl⟩; rw [h1])
    go_ret
    exact ⟨rfl, (Gr.refl _).alloc _⟩
  · by_cases h2 : 1 ≤ b
    · by_cases h3 : b ≤ 1099511627776
      · have e : rightB (a, b) = true := by unfold rightB; rw [h1]; simp [inB, h2, h3]
        rw [e]; clear e
        go_enter Try.func50, Try.ntmps50
        go_wp2_with (go_at_call 52; refine (isNode_any _ _).mono ?_; rintro e w' ⟨rfl, rfl⟩; rw [h1])
        go_ret
        exact ⟨rfl, (Gr.refl _).alloc _⟩
      · have e : rightB (a, b) = false := by unfold rightB; rw [h1]; simp [inB, h3]
        rw [e]; clear e
        have h3b : decide (b ≤ 1099511627776) = false := by simpa using h3
        clear h3
        go_enter Try.func50, Try.ntmps50
        go_wp2_with (go_at_call 52; refine (isNode_any _ _).mono ?_; rintro e w' ⟨rfl, rfl⟩; rw [h1])
        go_ret
        exact ⟨rfl, (Gr.refl _).alloc _⟩
    · have e : rightB (a, b) = false := by unfold rightB; rw [h1]; simp [inB, h2]
      rw [e]; clear e
      go_enter Try.func50, Try.ntmps50
      go_wp2_with (go_at_call 52; refine (isNode_any _ _).mono ?_; rintro e w' ⟨rfl, rfl⟩; rw [h1])
      go_ret
      exact ⟨rfl, (Gr.refl _).alloc _⟩

/-- -1, 0 or 1. -/
def cmpI (x y : Int) : Int := if x < y then -1 else if y < x then 1 else 0
/-- What 'order' answers. -/
def ordI (x y : Int × Int) : Int := if x.1 < y.1 then -1 else if y.1 < x.1 then 1 else cmpI x.2 y.2

set_option maxHeartbeats 400000 in
theorem cmp_any (x y : Int) (w : World) :
    Calls Try.prog 55 #[.int .i64 x, .int .i64 y] w fun e w' => e = .returned (.int .i64 (cmpI x y)) ∧ w' = w := by
  by_cases h1 : x < y
  · have e : cmpI x y = -1 := by simp [cmpI, h1]
    rw [e]; clear e
    go_enter Try.func55, Try.ntmps55
    go_wp2
    go_ret
    exact ⟨rfl, rfl⟩
  · by_cases h2 : y < x
    · have e : cmpI x y = 1 := by simp [cmpI, h1, h2]
      rw [e]; clear e
      go_enter Try.func55, Try.ntmps55
      go_wp2
      go_ret
      exact ⟨rfl, rfl⟩
    · have e : cmpI x y = 0 := by simp [cmpI, h1, h2]
      rw [e]; clear e
      go_enter Try.func55, Try.ntmps55
      go_wp2
      go_ret
      exact ⟨rfl, rfl⟩

set_option maxHeartbeats 400000 in
theorem order_any (x y : Int × Int) (w : World) :
    Calls Try.prog 51 #[.agg #[.int .i64 x.1, .int .i64 x.2], .agg #[.int .i64 y.1, .int .i64 y.2]] w fun e w' => e = .returned (.int .i64 (ordI x y)) ∧ Gr w w' := by
  obtain ⟨a, b⟩ := x
  obtain ⟨c, d⟩ := y
  by_cases h1 : a < c
  · have e : ordI (a, b) (c, d) = -1 := by simp [ordI, h1]
    have e1 : cmpI a c = -1 := by simp [cmpI, h1]
    rw [e]; clear e
    go_enter Try.func51, Try.ntmps51
    go_wp2_with (go_at_call 55; refine (cmp_any _ _ _).mono ?_; rintro e w' ⟨rfl, rfl⟩; rw [e1])
    go_ret
    exact ⟨rfl, ((Gr.refl _).alloc _).alloc _⟩
  · by_cases h2 : c < a
    · have e : ordI (a, b) (c, d) = 1 := by simp [ordI, h1, h2]
      have e1 : cmpI a c = 1 := by simp [cmpI, h1, h2]
      rw [e]; clear e
      go_enter Try.func51, Try.ntmps51
      go_wp2_with (go_at_call 55; refine (cmp_any _ _ _).mono ?_; rintro e w' ⟨rfl, rfl⟩; rw [e1])
      go_ret
      exact ⟨rfl, ((Gr.refl _).alloc _).alloc _⟩
    · have e : ordI (a, b) (c, d) = cmpI b d := by simp [ordI, h1, h2]
      have e1 : cmpI a c = 0 := by simp [cmpI, h1, h2]
      rw [e]; clear e
      go_enter Try.func51, Try.ntmps51
      go_wp2_with fail
      refine (cmp_any _ _ _).mono ?_
      rintro e w' ⟨rfl, rfl⟩
      rw [e1]
      go_wp2_with fail
      refine (cmp_any _ _ _).mono ?_
      rintro e w' ⟨rfl, rfl⟩
      go_wp2
      go_ret
      exact ⟨rfl, ((Gr.refl _).alloc _).alloc _⟩

theorem dright_g {a b : Int} {r : Bool} (h : rightB (a, b) = r) (w : World) : Calls Try.prog 50 #[.agg #[.int .i64 a, .int .i64 b]] w fun e w' => e = .returned (.bool r) ∧ ∃ q os', w' = grow (w.drewN q) os' := by
  rw [← h]; exact dright_any (a, b) w
theorem order_g {a b c d : Int} {r : Int} (h : ordI (a, b) (c, d) = r) (w : World) : Calls Try.prog 51 #[.agg #[.int .i64 a, .int .i64 b], .agg #[.int .i64 c, .int .i64 d]] w fun e w' => e = .returned (.int .i64 r) ∧ ∃ q os', w' = grow (w.drewN q) os' := by
  rw [← h]; exact order_any (a, b) (c, d) w
theorem isNode_g {n : Int} {r : Bool} (h : inB n 0 3 = r) (w : World) :
    Calls Try.prog 52 #[.int .i64 n] w fun e w' => e = .returned (.bool r) ∧ w' = w := by
  rw [← h]; exact isNode_any n w
theorem ordI_bef {x y : Int × Int} (h : befB x y = true) : ordI x y = -1 := by
  unfold befB at h
  unfold ordI cmpI
  by_cases h1 : x.1 < y.1
  · simp [h1]
  · simp [h1] at h
    have h2 : ¬ y.1 < x.1 := by omega
    simp [h.2, h1, h2]
theorem ordI_not {x y : Int × Int} (h : befB x y = false) : 0 ≤ ordI x y := by
  unfold befB at h
  simp at h
  unfold ordI cmpI
  have h1 : ¬ x.1 < y.1 := by omega
  by_cases h2 : y.1 < x.1
  · simp [h1, h2]
  · have h3 : ¬ x.2 < y.2 := by have := h.2 (by omega); omega
    by_cases h4 : y.2 < x.2 <;> simp [h1, h2, h3, h4]

end Go.Proofs.Ytbhhpijidbhipaa
