/-
  query.widthOfOne, widthOfTwo: the width of a step's set.
-/
import Derived.Test.YtoodkgmpggabdaaDoorQAlone
namespace Go.Proofs.YtoodkgmpggabdaaDoor
open Go.RowKit Go.Sort

/-- The width of a step that takes one set, of width a; 0, if it may not be. -/
def oneW (s : Stp) (a : Int) : Int := if s.k = 2 then (if belowB s.c a && opB s.o && numB s.v then a else 0) else if s.k = 3 then (if decide (s.l.length ≤ 8) && s.l.all (fun n => belowB n a) then s.l.length else 0) else if s.k = 7 then a else if s.k = 8 then (if belowB s.c a then 2 else 0) else if s.k = 9 then (if belowB s.c a && belowB s.v a then 2 else 0) else 0
/-- The width of a step that takes two. -/
def twoW (s : Stp) (a b : Int) : Int := if s.k = 4 then (if belowB s.c a && belowB s.v b && decide (a + b ≤ 8) then a + b else 0) else if s.k = 5 then (if a = b then a else 0) else if s.k = 6 then (if a = b then a else 0) else 0
theorem below_g {n k : Int} {r : Bool} (h : belowB n k = r) (w : World) : Calls Tryd.prog 46 #[.int .i64 n, .int .i64 k] w fun e w' => e = .returned (.bool r) ∧ w' = w := by rw [← h]; exact isBelow_any n k w
theorem op_g {n : Int} {r : Bool} (h : opB n = r) (w : World) : Calls Tryd.prog 59 #[.int .i64 n] w fun e w' => e = .returned (.bool r) ∧ w' = w := by rw [← h]; exact isOp_any n w
theorem num_g {n : Int} {r : Bool} (h : numB n = r) (w : World) : Calls Tryd.prog 60 #[.int .i64 n] w fun e w' => e = .returned (.bool r) ∧ w' = w := by rw [← h]; exact isNumber_any n w

set_option maxRecDepth 100000 in
set_option maxHeartbeats 4000000 in
theorem oneW_any (s : Stp) (a : Int) (w : World) (hl : s.l.length ≤ maxLen) (hr : RowI w s.p s.l) :
    Calls Tryd.prog 48 #[.agg #[.int .i64 s.k, .int .i64 s.a, .int .i64 s.b, .int .i64 s.c, .int .i64 s.o, .int .i64 s.v, .slice s.p s.l.length s.n], .int .i64 a] w fun e w' => e = .returned (.int .i64 (oneW s a)) ∧ Gr w w' := by
  obtain ⟨W, hW⟩ : ∃ W, w.alloc (.cells #[.int .i64 s.k, .int .i64 s.a, .int .i64 s.b, .int .i64 s.c, .int .i64 s.o, .int .i64 s.v, .slice s.p s.l.length s.n] 32) = W := ⟨_, rfl⟩
  have hg0 : Gr w W := by rw [← hW]; exact (Gr.refl w).alloc _
  have c0 : W.cell? ⟨w.heap.size, 0, none⟩ = some (.int .i64 s.k) := by rw [← hW]; exact box1 (Gr.refl _) rfl
  have c1 : W.cell? ⟨w.heap.size, 1, none⟩ = some (.int .i64 s.a) := by rw [← hW]; exact box1 (Gr.refl _) rfl
  have c2 : W.cell? ⟨w.heap.size, 2, none⟩ = some (.int .i64 s.b) := by rw [← hW]; exact box1 (Gr.refl _) rfl
  have c3 : W.cell? ⟨w.heap.size, 3, none⟩ = some (.int .i64 s.c) := by rw [← hW]; exact box1 (Gr.refl _) rfl
  have c4 : W.cell? ⟨w.heap.size, 4, none⟩ = some (.int .i64 s.o) := by rw [← hW]; exact box1 (Gr.refl _) rfl
  have c5 : W.cell? ⟨w.heap.size, 5, none⟩ = some (.int .i64 s.v) := by rw [← hW]; exact box1 (Gr.refl _) rfl
  have c6 : W.cell? ⟨w.heap.size, 6, none⟩ = some (.slice s.p s.l.length s.n) := by rw [← hW]; exact box1 (Gr.refl _) rfl
  have hrH : Hid (RowI W s.p s.l ∧ s.l.length ≤ maxLen) := ⟨hr.gr hg0, hl⟩
  clear hr hl
  by_cases hk : s.k = 2
  · skip
    have e0 : W.cell? ⟨w.heap.size, 0, none⟩ = some (.int .i64 2) := by rw [← hk]; exact c0
    clear c0
    cases h1 : belowB s.c a
    · have hfin : Hid (oneW s a = 0) := by show _ = _; unfold oneW; rw [if_pos hk]; simp [*]
      have zh1H : Hid (Calls Tryd.prog 46 #[.int .i64 s.c, .int .i64 a] W fun e w' => e = .returned (.bool false) ∧ w' = W) := below_g h1 W
      clear hk
      go_enter Tryd.func48, Tryd.ntmps48
      go_wp2_with (go_at_call 46; (with_reducible refine Calls.mono zh1H.out ?_); rintro e w' ⟨rfl, hw'⟩; subst w')
      go_ret
      exact ⟨by rw [hfin.out]; rfl, hg0⟩
    · have zh1H : Hid (Calls Tryd.prog 46 #[.int .i64 s.c, .int .i64 a] W fun e w' => e = .returned (.bool true) ∧ w' = W) := below_g h1 W
      cases h2 : opB s.o
      · have hfin : Hid (oneW s a = 0) := by show _ = _; unfold oneW; rw [if_pos hk]; simp [*]
        have zh2H : Hid (Calls Tryd.prog 59 #[.int .i64 s.o] W fun e w' => e = .returned (.bool false) ∧ w' = W) := op_g h2 W
        clear hk
        go_enter Tryd.func48, Tryd.ntmps48
        go_wp2_with (first | (go_at_call 46; (with_reducible refine Calls.mono zh1H.out ?_); rintro e w' ⟨rfl, hw'⟩; subst w') | (go_at_call 59; (with_reducible refine Calls.mono zh2H.out ?_); rintro e w' ⟨rfl, hw'⟩; subst w'))
        go_ret
        exact ⟨by rw [hfin.out]; rfl, hg0⟩
      · have zh2H : Hid (Calls Tryd.prog 59 #[.int .i64 s.o] W fun e w' => e = .returned (.bool true) ∧ w' = W) := op_g h2 W
        cases h3 : numB s.v
        · have hfin : Hid (oneW s a = 0) := by show _ = _; unfold oneW; rw [if_pos hk]; simp [*]
          have zh3H : Hid (Calls Tryd.prog 60 #[.int .i64 s.v] W fun e w' => e = .returned (.bool false) ∧ w' = W) := num_g h3 W
          clear hk
          go_enter Tryd.func48, Tryd.ntmps48
          go_wp2_with (first | (go_at_call 46; (with_reducible refine Calls.mono zh1H.out ?_); rintro e w' ⟨rfl, hw'⟩; subst w') | (go_at_call 59; (with_reducible refine Calls.mono zh2H.out ?_); rintro e w' ⟨rfl, hw'⟩; subst w') | (go_at_call 60; (with_reducible refine Calls.mono zh3H.out ?_); rintro e w' ⟨rfl, hw'⟩; subst w'))
          go_ret
          exact ⟨by rw [hfin.out]; rfl, hg0⟩
        · have zh3H : Hid (Calls Tryd.prog 60 #[.int .i64 s.v] W fun e w' => e = .returned (.bool true) ∧ w' = W) := num_g h3 W
          have hfin : Hid (oneW s a = a) := by show _ = _; unfold oneW; rw [if_pos hk]; simp [h1, h2, h3]
          clear hk
          go_enter Tryd.func48, Tryd.ntmps48
          go_wp2_with (first | (go_at_call 46; (with_reducible refine Calls.mono zh1H.out ?_); rintro e w' ⟨rfl, hw'⟩; subst w') | (go_at_call 59; (with_reducible refine Calls.mono zh2H.out ?_); rintro e w' ⟨rfl, hw'⟩; subst w') | (go_at_call 60; (with_reducible refine Calls.mono zh3H.out ?_); rintro e w' ⟨rfl, hw'⟩; subst w'))
          go_ret
          exact ⟨by rw [hfin.out]; rfl, hg0⟩
  by_cases hk : s.k = 3
  · skip
    have e0 : W.cell? ⟨w.heap.size, 0, none⟩ = some (.int .i64 3) := by rw [← hk]; exact c0
    clear c0
    have har := areBelow_any s.l a s.p s.n W hrH.out.2 hrH.out.1
    by_cases h8 : s.l.length ≤ 8
    · have h8z : (s.l.length : Int) ≤ 8 := by omega
      cases h1 : s.l.all (fun n => belowB n a)
      · have hfin : Hid (oneW s a = 0) := by show _ = _; unfold oneW; rw [if_neg (by omega : ¬ s.k = 2), if_pos hk]; simp [h1]
        rw [h1] at har
        have harH : Hid _ := har
        clear har hk
        go_enter Tryd.func48, Tryd.ntmps48
        go_wp2_with fail
        refine Calls.mono (show Calls _ _ _ _ _ from harH.out) ?_
        rintro e w2 ⟨rfl, hg2⟩
        have d6 : w2.cell? ⟨w.heap.size, 6, none⟩ = some (.slice s.p s.l.length s.n) := (hg2.cell (p := ⟨w.heap.size, 6, none⟩) (by rw [← hW]; simp)).trans c6
        clear harH c1 c2 c3 c4 c5 c6 e0
        go_wp2
        go_ret
        exact ⟨by rw [hfin.out]; rfl, hg0.trans hg2⟩
      · have hfin : Hid (oneW s a = s.l.length) := by show _ = _; unfold oneW; rw [if_neg (by omega : ¬ s.k = 2), if_pos hk]; simp [h1, h8]
        rw [h1] at har
        have harH : Hid _ := har
        clear har hk
        go_enter Tryd.func48, Tryd.ntmps48
        go_wp2_with fail
        refine Calls.mono (show Calls _ _ _ _ _ from harH.out) ?_
        rintro e w2 ⟨rfl, hg2⟩
        have d6 : w2.cell? ⟨w.heap.size, 6, none⟩ = some (.slice s.p s.l.length s.n) := (hg2.cell (p := ⟨w.heap.size, 6, none⟩) (by rw [← hW]; simp)).trans c6
        clear harH c1 c2 c3 c4 c5 c6 e0
        go_wp2
        go_ret
        exact ⟨by rw [hfin.out]; rfl, hg0.trans hg2⟩
    · have h8z : ¬ (s.l.length : Int) ≤ 8 := by omega
      have hfin : Hid (oneW s a = 0) := by show _ = _; unfold oneW; rw [if_neg (by omega : ¬ s.k = 2), if_pos hk]; simp [h8]
      clear har hk
      go_enter Tryd.func48, Tryd.ntmps48
      go_wp2
      go_ret
      exact ⟨by rw [hfin.out]; rfl, hg0⟩
  by_cases hk : s.k = 7
  · skip
    have e0 : W.cell? ⟨w.heap.size, 0, none⟩ = some (.int .i64 7) := by rw [← hk]; exact c0
    clear c0
    have hfin : Hid (oneW s a = a) := by show _ = _; unfold oneW; rw [if_neg (by omega : ¬ s.k = 2), if_neg (by omega : ¬ s.k = 3), if_pos hk]
    clear hk
    go_enter Tryd.func48, Tryd.ntmps48
    go_wp2
    go_ret
    exact ⟨by rw [hfin.out]; rfl, hg0⟩
  by_cases hk : s.k = 8
  · skip
    have e0 : W.cell? ⟨w.heap.size, 0, none⟩ = some (.int .i64 8) := by rw [← hk]; exact c0
    clear c0
    cases h1 : belowB s.c a
    · have hfin : Hid (oneW s a = 0) := by show _ = _; unfold oneW; rw [if_neg (by omega : ¬ s.k = 2), if_neg (by omega : ¬ s.k = 3), if_neg (by omega : ¬ s.k = 7), if_pos hk]; simp [*]
      have zh1H : Hid (Calls Tryd.prog 46 #[.int .i64 s.c, .int .i64 a] W fun e w' => e = .returned (.bool false) ∧ w' = W) := below_g h1 W
      clear hk
      go_enter Tryd.func48, Tryd.ntmps48
      go_wp2_with (go_at_call 46; (with_reducible refine Calls.mono zh1H.out ?_); rintro e w' ⟨rfl, hw'⟩; subst w')
      go_ret
      exact ⟨by rw [hfin.out]; rfl, hg0⟩
    · have zh1H : Hid (Calls Tryd.prog 46 #[.int .i64 s.c, .int .i64 a] W fun e w' => e = .returned (.bool true) ∧ w' = W) := below_g h1 W
      have hfin : Hid (oneW s a = 2) := by show _ = _; unfold oneW; rw [if_neg (by omega : ¬ s.k = 2), if_neg (by omega : ¬ s.k = 3), if_neg (by omega : ¬ s.k = 7), if_pos hk]; simp [h1]
      clear hk
      go_enter Tryd.func48, Tryd.ntmps48
      go_wp2_with (go_at_call 46; (with_reducible refine Calls.mono zh1H.out ?_); rintro e w' ⟨rfl, hw'⟩; subst w')
      go_ret
      exact ⟨by rw [hfin.out]; rfl, hg0⟩
  by_cases hk : s.k = 9
  · skip
    have e0 : W.cell? ⟨w.heap.size, 0, none⟩ = some (.int .i64 9) := by rw [← hk]; exact c0
    clear c0
    cases h1 : belowB s.c a
    · have hfin : Hid (oneW s a = 0) := by show _ = _; unfold oneW; rw [if_neg (by omega : ¬ s.k = 2), if_neg (by omega : ¬ s.k = 3), if_neg (by omega : ¬ s.k = 7), if_neg (by omega : ¬ s.k = 8), if_pos hk]; simp [*]
      have zh1H : Hid (Calls Tryd.prog 46 #[.int .i64 s.c, .int .i64 a] W fun e w' => e = .returned (.bool false) ∧ w' = W) := below_g h1 W
      clear hk
      go_enter Tryd.func48, Tryd.ntmps48
      go_wp2_with (go_at_call 46; (with_reducible refine Calls.mono zh1H.out ?_); rintro e w' ⟨rfl, hw'⟩; subst w')
      go_ret
      exact ⟨by rw [hfin.out]; rfl, hg0⟩
    · have zh1H : Hid (Calls Tryd.prog 46 #[.int .i64 s.c, .int .i64 a] W fun e w' => e = .returned (.bool true) ∧ w' = W) := below_g h1 W
      cases h2 : belowB s.v a
      · have hfin : Hid (oneW s a = 0) := by show _ = _; unfold oneW; rw [if_neg (by omega : ¬ s.k = 2), if_neg (by omega : ¬ s.k = 3), if_neg (by omega : ¬ s.k = 7), if_neg (by omega : ¬ s.k = 8), if_pos hk]; simp [*]
        have zh2H : Hid (Calls Tryd.prog 46 #[.int .i64 s.v, .int .i64 a] W fun e w' => e = .returned (.bool false) ∧ w' = W) := below_g h2 W
        clear hk
        go_enter Tryd.func48, Tryd.ntmps48
        go_wp2_with (first | (go_at_call 46; (with_reducible refine Calls.mono zh1H.out ?_); rintro e w' ⟨rfl, hw'⟩; subst w') | (go_at_call 46; (with_reducible refine Calls.mono zh2H.out ?_); rintro e w' ⟨rfl, hw'⟩; subst w'))
        go_ret
        exact ⟨by rw [hfin.out]; rfl, hg0⟩
      · have zh2H : Hid (Calls Tryd.prog 46 #[.int .i64 s.v, .int .i64 a] W fun e w' => e = .returned (.bool true) ∧ w' = W) := below_g h2 W
        have hfin : Hid (oneW s a = 2) := by show _ = _; unfold oneW; rw [if_neg (by omega : ¬ s.k = 2), if_neg (by omega : ¬ s.k = 3), if_neg (by omega : ¬ s.k = 7), if_neg (by omega : ¬ s.k = 8), if_pos hk]; simp [h1, h2]
        clear hk
        go_enter Tryd.func48, Tryd.ntmps48
        go_wp2_with (first | (go_at_call 46; (with_reducible refine Calls.mono zh1H.out ?_); rintro e w' ⟨rfl, hw'⟩; subst w') | (go_at_call 46; (with_reducible refine Calls.mono zh2H.out ?_); rintro e w' ⟨rfl, hw'⟩; subst w'))
        go_ret
        exact ⟨by rw [hfin.out]; rfl, hg0⟩
  have hfin : Hid (oneW s a = 0) := by show _ = _; unfold oneW; rw [if_neg (by assumption : ¬ s.k = 2), if_neg (by assumption : ¬ s.k = 3), if_neg (by assumption : ¬ s.k = 7), if_neg (by assumption : ¬ s.k = 8), if_neg (by assumption : ¬ s.k = 9)]
  have q2 : (s.k == 2) = false := by simp; omega
  have q3 : (s.k == 3) = false := by simp; omega
  have q7 : (s.k == 7) = false := by simp; omega
  have q8 : (s.k == 8) = false := by simp; omega
  have q9 : (s.k == 9) = false := by simp; omega
  go_enter Tryd.func48, Tryd.ntmps48
  go_wp2
  go_ret
  exact ⟨by rw [hfin.out]; rfl, hg0⟩

set_option maxRecDepth 100000 in
set_option maxHeartbeats 4000000 in
theorem twoW_any (s : Stp) (a b : Int) (w : World) (ha : 0 ≤ a ∧ a ≤ 8) (hb : 0 ≤ b ∧ b ≤ 8) :
    Calls Tryd.prog 47 #[.agg #[.int .i64 s.k, .int .i64 s.a, .int .i64 s.b, .int .i64 s.c, .int .i64 s.o, .int .i64 s.v, .slice s.p s.l.length s.n], .int .i64 a, .int .i64 b] w fun e w' => e = .returned (.int .i64 (twoW s a b)) ∧ Gr w w' := by
  obtain ⟨W, hW⟩ : ∃ W, w.alloc (.cells #[.int .i64 s.k, .int .i64 s.a, .int .i64 s.b, .int .i64 s.c, .int .i64 s.o, .int .i64 s.v, .slice s.p s.l.length s.n] 32) = W := ⟨_, rfl⟩
  have hg0 : Gr w W := by rw [← hW]; exact (Gr.refl w).alloc _
  have hab : IntKind.i64.wrap (a + b) = a + b := by rw [IntKind.wrap_i64]; omega
  have c0 : W.cell? ⟨w.heap.size, 0, none⟩ = some (.int .i64 s.k) := by rw [← hW]; exact box1 (Gr.refl _) rfl
  have c1 : W.cell? ⟨w.heap.size, 1, none⟩ = some (.int .i64 s.a) := by rw [← hW]; exact box1 (Gr.refl _) rfl
  have c2 : W.cell? ⟨w.heap.size, 2, none⟩ = some (.int .i64 s.b) := by rw [← hW]; exact box1 (Gr.refl _) rfl
  have c3 : W.cell? ⟨w.heap.size, 3, none⟩ = some (.int .i64 s.c) := by rw [← hW]; exact box1 (Gr.refl _) rfl
  have c4 : W.cell? ⟨w.heap.size, 4, none⟩ = some (.int .i64 s.o) := by rw [← hW]; exact box1 (Gr.refl _) rfl
  have c5 : W.cell? ⟨w.heap.size, 5, none⟩ = some (.int .i64 s.v) := by rw [← hW]; exact box1 (Gr.refl _) rfl
  by_cases hk : s.k = 4
  · skip
    have e0 : W.cell? ⟨w.heap.size, 0, none⟩ = some (.int .i64 4) := by rw [← hk]; exact c0
    clear c0
    by_cases h8 : a + b ≤ 8
    · skip
      cases h1 : belowB s.c a
      · have hfin : Hid (twoW s a b = 0) := by show _ = _; unfold twoW; rw [if_pos hk]; simp [*]
        have zh1H : Hid (Calls Tryd.prog 46 #[.int .i64 s.c, .int .i64 a] W fun e w' => e = .returned (.bool false) ∧ w' = W) := below_g h1 W
        clear hk
        go_enter Tryd.func47, Tryd.ntmps47
        go_wp2_with (go_at_call 46; (with_reducible refine Calls.mono zh1H.out ?_); rintro e w' ⟨rfl, hw'⟩; subst w')
        go_ret
        exact ⟨by rw [hfin.out]; rfl, hg0⟩
      · have zh1H : Hid (Calls Tryd.prog 46 #[.int .i64 s.c, .int .i64 a] W fun e w' => e = .returned (.bool true) ∧ w' = W) := below_g h1 W
        cases h2 : belowB s.v b
        · have hfin : Hid (twoW s a b = 0) := by show _ = _; unfold twoW; rw [if_pos hk]; simp [*]
          have zh2H : Hid (Calls Tryd.prog 46 #[.int .i64 s.v, .int .i64 b] W fun e w' => e = .returned (.bool false) ∧ w' = W) := below_g h2 W
          clear hk
          go_enter Tryd.func47, Tryd.ntmps47
          go_wp2_with (first | (go_at_call 46; (with_reducible refine Calls.mono zh1H.out ?_); rintro e w' ⟨rfl, hw'⟩; subst w') | (go_at_call 46; (with_reducible refine Calls.mono zh2H.out ?_); rintro e w' ⟨rfl, hw'⟩; subst w'))
          go_ret
          exact ⟨by rw [hfin.out]; rfl, hg0⟩
        · have zh2H : Hid (Calls Tryd.prog 46 #[.int .i64 s.v, .int .i64 b] W fun e w' => e = .returned (.bool true) ∧ w' = W) := below_g h2 W
          have hfin : Hid (twoW s a b = a + b) := by show _ = _; unfold twoW; rw [if_pos hk]; simp [h1, h2, h8]
          clear hk
          go_enter Tryd.func47, Tryd.ntmps47
          go_wp2_with (first | (go_at_call 46; (with_reducible refine Calls.mono zh1H.out ?_); rintro e w' ⟨rfl, hw'⟩; subst w') | (go_at_call 46; (with_reducible refine Calls.mono zh2H.out ?_); rintro e w' ⟨rfl, hw'⟩; subst w'))
          go_ret
          exact ⟨by rw [hfin.out]; rfl, hg0⟩
    · skip
      cases h1 : belowB s.c a
      · have hfin : Hid (twoW s a b = 0) := by show _ = _; unfold twoW; rw [if_pos hk]; simp [*]
        have zh1H : Hid (Calls Tryd.prog 46 #[.int .i64 s.c, .int .i64 a] W fun e w' => e = .returned (.bool false) ∧ w' = W) := below_g h1 W
        clear hk
        go_enter Tryd.func47, Tryd.ntmps47
        go_wp2_with (go_at_call 46; (with_reducible refine Calls.mono zh1H.out ?_); rintro e w' ⟨rfl, hw'⟩; subst w')
        go_ret
        exact ⟨by rw [hfin.out]; rfl, hg0⟩
      · have zh1H : Hid (Calls Tryd.prog 46 #[.int .i64 s.c, .int .i64 a] W fun e w' => e = .returned (.bool true) ∧ w' = W) := below_g h1 W
        cases h2 : belowB s.v b
        · have hfin : Hid (twoW s a b = 0) := by show _ = _; unfold twoW; rw [if_pos hk]; simp [*]
          have zh2H : Hid (Calls Tryd.prog 46 #[.int .i64 s.v, .int .i64 b] W fun e w' => e = .returned (.bool false) ∧ w' = W) := below_g h2 W
          clear hk
          go_enter Tryd.func47, Tryd.ntmps47
          go_wp2_with (first | (go_at_call 46; (with_reducible refine Calls.mono zh1H.out ?_); rintro e w' ⟨rfl, hw'⟩; subst w') | (go_at_call 46; (with_reducible refine Calls.mono zh2H.out ?_); rintro e w' ⟨rfl, hw'⟩; subst w'))
          go_ret
          exact ⟨by rw [hfin.out]; rfl, hg0⟩
        · have zh2H : Hid (Calls Tryd.prog 46 #[.int .i64 s.v, .int .i64 b] W fun e w' => e = .returned (.bool true) ∧ w' = W) := below_g h2 W
          have hfin : Hid (twoW s a b = 0) := by show _ = _; unfold twoW; rw [if_pos hk]; simp [h8]
          clear hk
          go_enter Tryd.func47, Tryd.ntmps47
          go_wp2_with (first | (go_at_call 46; (with_reducible refine Calls.mono zh1H.out ?_); rintro e w' ⟨rfl, hw'⟩; subst w') | (go_at_call 46; (with_reducible refine Calls.mono zh2H.out ?_); rintro e w' ⟨rfl, hw'⟩; subst w'))
          go_ret
          exact ⟨by rw [hfin.out]; rfl, hg0⟩
  by_cases hk : s.k = 5
  · skip
    have e0 : W.cell? ⟨w.heap.size, 0, none⟩ = some (.int .i64 5) := by rw [← hk]; exact c0
    clear c0
    by_cases hab2 : a = b
    · subst hab2
      have hfin : Hid (twoW s a a = a) := by show _ = _; unfold twoW; rw [if_neg (by omega : ¬ s.k = 4), if_pos hk]; simp
      clear hk
      go_enter Tryd.func47, Tryd.ntmps47
      go_wp2
      go_ret
      exact ⟨by rw [hfin.out]; rfl, hg0⟩
    · have hfin : Hid (twoW s a b = 0) := by show _ = _; unfold twoW; rw [if_neg (by omega : ¬ s.k = 4), if_pos hk]; simp [hab2]
      have hqb : (a == b) = false := by simpa using hab2
      clear hk hab2
      go_enter Tryd.func47, Tryd.ntmps47
      go_wp2
      go_ret
      exact ⟨by rw [hfin.out]; rfl, hg0⟩
  by_cases hk : s.k = 6
  · skip
    have e0 : W.cell? ⟨w.heap.size, 0, none⟩ = some (.int .i64 6) := by rw [← hk]; exact c0
    clear c0
    by_cases hab2 : a = b
    · subst hab2
      have hfin : Hid (twoW s a a = a) := by show _ = _; unfold twoW; rw [if_neg (by omega : ¬ s.k = 4), if_neg (by omega : ¬ s.k = 5), if_pos hk]; simp
      clear hk
      go_enter Tryd.func47, Tryd.ntmps47
      go_wp2
      go_ret
      exact ⟨by rw [hfin.out]; rfl, hg0⟩
    · have hfin : Hid (twoW s a b = 0) := by show _ = _; unfold twoW; rw [if_neg (by omega : ¬ s.k = 4), if_neg (by omega : ¬ s.k = 5), if_pos hk]; simp [hab2]
      have hqb : (a == b) = false := by simpa using hab2
      clear hk hab2
      go_enter Tryd.func47, Tryd.ntmps47
      go_wp2
      go_ret
      exact ⟨by rw [hfin.out]; rfl, hg0⟩
  have hfin : Hid (twoW s a b = 0) := by show _ = _; unfold twoW; rw [if_neg (by assumption : ¬ s.k = 4), if_neg (by assumption : ¬ s.k = 5), if_neg (by assumption : ¬ s.k = 6)]
  have q4 : (s.k == 4) = false := by simp; omega
  have q5 : (s.k == 5) = false := by simp; omega
  have q6 : (s.k == 6) = false := by simp; omega
  go_enter Tryd.func47, Tryd.ntmps47
  go_wp2
  go_ret
  exact ⟨by rw [hfin.out]; rfl, hg0⟩

end Go.Proofs.YtoodkgmpggabdaaDoor
