/-
  query.widthOfOne, widthOfTwo: the width of a step's set.
  query.width: the width of a step behind those whose widths are given.
  query.widths, query.Check, query.Width.
-/
import Derived.Test.YtmoicbmhjmdgdaaGreatM21
namespace Go.Proofs.YtmoicbmhjmdgdaaGreat
open Go.RowKit Go.Sort

/-- The width of a step that takes one set, of width a; 0, if it may not be. -/
def oneW (s : Stp) (a : Int) : Int := if s.k = 2 then (if belowB s.c a && opB s.o && numB s.v then a else 0) else if s.k = 3 then (if decide (s.l.length ≤ 8) && s.l.all (fun n => belowB n a) then s.l.length else 0) else if s.k = 7 then a else if s.k = 8 then (if belowB s.c a then 2 else 0) else if s.k = 9 then (if belowB s.c a && belowB s.v a then 2 else 0) else 0
/-- The width of a step that takes two. -/
def twoW (s : Stp) (a b : Int) : Int := if s.k = 4 then (if belowB s.c a && belowB s.v b && decide (a + b ≤ 8) then a + b else 0) else if s.k = 5 then (if a = b then a else 0) else if s.k = 6 then (if a = b then a else 0) else 0
theorem below_g {n k : Int} {r : Bool} (h : belowB n k = r) (w : World) : Calls Tryz.prog 100 #[.int .i64 n, .int .i64 k] w fun e w' => e = .returned (.bool r) ∧ w' = w := by rw [← h]; exact isBelow_any n k w
theorem op_g {n : Int} {r : Bool} (h : opB n = r) (w : World) : Calls Tryz.prog 134 #[.int .i64 n] w fun e w' => e = .returned (.bool r) ∧ w' = w := by rw [← h]; exact isOp_any n w
theorem num_g {n : Int} {r : Bool} (h : numB n = r) (w : World) : Calls Tryz.prog 135 #[.int .i64 n] w fun e w' => e = .returned (.bool r) ∧ w' = w := by rw [← h]; exact isNumber_any n w

set_option maxRecDepth 100000 in
set_option maxHeartbeats 4000000 in
theorem oneW_any (s : Stp) (a : Int) (w : World) (hl : s.l.length ≤ maxLen) (hr : RowI w s.p s.l) :
  Calls Tryz.prog 102 #[.agg #[.int .i64 s.k, .int .i64 s.a, .int .i64 s.b, .int .i64 s.c, .int .i64 s.o, .int .i64 s.v, .slice s.p s.l.length s.n], .int .i64 a] w fun e w' => e = .returned (.int .i64 (oneW s a)) ∧ Gr w w' := by
 have hg0 : Gr w (w.alloc (.cells #[.int .i64 s.k, .int .i64 s.a, .int .i64 s.b, .int .i64 s.c, .int .i64 s.o, .int .i64 s.v, .slice s.p s.l.length s.n] 30)) := (Gr.refl w).alloc _
 have c0 : (w.alloc (.cells #[.int .i64 s.k, .int .i64 s.a, .int .i64 s.b, .int .i64 s.c, .int .i64 s.o, .int .i64 s.v, .slice s.p s.l.length s.n] 30)).cell? ⟨w.heap.size, 0, none⟩ = some (.int .i64 s.k) := box1 (Gr.refl _) rfl
 have c1 : (w.alloc (.cells #[.int .i64 s.k, .int .i64 s.a, .int .i64 s.b, .int .i64 s.c, .int .i64 s.o, .int .i64 s.v, .slice s.p s.l.length s.n] 30)).cell? ⟨w.heap.size, 1, none⟩ = some (.int .i64 s.a) := box1 (Gr.refl _) rfl
 have c2 : (w.alloc (.cells #[.int .i64 s.k, .int .i64 s.a, .int .i64 s.b, .int .i64 s.c, .int .i64 s.o, .int .i64 s.v, .slice s.p s.l.length s.n] 30)).cell? ⟨w.heap.size, 2, none⟩ = some (.int .i64 s.b) := box1 (Gr.refl _) rfl
 have c3 : (w.alloc (.cells #[.int .i64 s.k, .int .i64 s.a, .int .i64 s.b, .int .i64 s.c, .int .i64 s.o, .int .i64 s.v, .slice s.p s.l.length s.n] 30)).cell? ⟨w.heap.size, 3, none⟩ = some (.int .i64 s.c) := box1 (Gr.refl _) rfl
 have c4 : (w.alloc (.cells #[.int .i64 s.k, .int .i64 s.a, .int .i64 s.b, .int .i64 s.c, .int .i64 s.o, .int .i64 s.v, .slice s.p s.l.length s.n] 30)).cell? ⟨w.heap.size, 4, none⟩ = some (.int .i64 s.o) := box1 (Gr.refl _) rfl
 have c5 : (w.alloc (.cells #[.int .i64 s.k, .int .i64 s.a, .int .i64 s.b, .int .i64 s.c, .int .i64 s.o, .int .i64 s.v, .slice s.p s.l.length s.n] 30)).cell? ⟨w.heap.size, 5, none⟩ = some (.int .i64 s.v) := box1 (Gr.refl _) rfl
 have c6 : (w.alloc (.cells #[.int .i64 s.k, .int .i64 s.a, .int .i64 s.b, .int .i64 s.c, .int .i64 s.o, .int .i64 s.v, .slice s.p s.l.length s.n] 30)).cell? ⟨w.heap.size, 6, none⟩ = some (.slice s.p s.l.length s.n) := box1 (Gr.refl _) rfl
 have hrH : Hid (RowI (w.alloc (.cells #[.int .i64 s.k, .int .i64 s.a, .int .i64 s.b, .int .i64 s.c, .int .i64 s.o, .int .i64 s.v, .slice s.p s.l.length s.n] 30)) s.p s.l ∧ s.l.length ≤ maxLen) := ⟨hr.gr hg0, hl⟩
 clear hr hl
 by_cases hk : s.k = 2
 ·skip
  have e0 : (w.alloc (.cells #[.int .i64 s.k, .int .i64 s.a, .int .i64 s.b, .int .i64 s.c, .int .i64 s.o, .int .i64 s.v, .slice s.p s.l.length s.n] 30)).cell? ⟨w.heap.size, 0, none⟩ = some (.int .i64 2) := by rw [← hk]; exact c0
  clear c0
  cases h1 : belowB s.c a
  ·have hfin : Hid (oneW s a = 0) := by show _ = _; unfold oneW; rw [if_pos hk]; simp [*]
   have zh1H : Hid (Calls Tryz.prog 100 #[.int .i64 s.c, .int .i64 a] (w.alloc (.cells #[.int .i64 s.k, .int .i64 s.a, .int .i64 s.b, .int .i64 s.c, .int .i64 s.o, .int .i64 s.v, .slice s.p s.l.length s.n] 30)) fun e w' => e = .returned (.bool false) ∧ w' = (w.alloc (.cells #[.int .i64 s.k, .int .i64 s.a, .int .i64 s.b, .int .i64 s.c, .int .i64 s.o, .int .i64 s.v, .slice s.p s.l.length s.n] 30))) := below_g h1 (w.alloc (.cells #[.int .i64 s.k, .int .i64 s.a, .int .i64 s.b, .int .i64 s.c, .int .i64 s.o, .int .i64 s.v, .slice s.p s.l.length s.n] 30))
   clear hk
   go_enter Tryz.func102, Tryz.ntmps102
   go_wp2_with (go_at_call 100; (with_reducible refine Calls.mono zh1H.out ?_); rintro e w' ⟨rfl, rfl⟩)
   go_ret
   exact ⟨by rw [hfin.out]; rfl, hg0⟩
  ·have zh1H : Hid (Calls Tryz.prog 100 #[.int .i64 s.c, .int .i64 a] (w.alloc (.cells #[.int .i64 s.k, .int .i64 s.a, .int .i64 s.b, .int .i64 s.c, .int .i64 s.o, .int .i64 s.v, .slice s.p s.l.length s.n] 30)) fun e w' => e = .returned (.bool true) ∧ w' = (w.alloc (.cells #[.int .i64 s.k, .int .i64 s.a, .int .i64 s.b, .int .i64 s.c, .int .i64 s.o, .int .i64 s.v, .slice s.p s.l.length s.n] 30))) := below_g h1 (w.alloc (.cells #[.int .i64 s.k, .int .i64 s.a, .int .i64 s.b, .int .i64 s.c, .int .i64 s.o, .int .i64 s.v, .slice s.p s.l.length s.n] 30))
   cases h2 : opB s.o
   ·have hfin : Hid (oneW s a = 0) := by show _ = _; unfold oneW; rw [if_pos hk]; simp [*]
    have zh2H : Hid (Calls Tryz.prog 134 #[.int .i64 s.o] (w.alloc (.cells #[.int .i64 s.k, .int .i64 s.a, .int .i64 s.b, .int .i64 s.c, .int .i64 s.o, .int .i64 s.v, .slice s.p s.l.length s.n] 30)) fun e w' => e = .returned (.bool false) ∧ w' = (w.alloc (.cells #[.int .i64 s.k, .int .i64 s.a, .int .i64 s.b, .int .i64 s.c, .int .i64 s.o, .int .i64 s.v, .slice s.p s.l.length s.n] 30))) := op_g h2 (w.alloc (.cells #[.int .i64 s.k, .int .i64 s.a, .int .i64 s.b, .int .i64 s.c, .int .i64 s.o, .int .i64 s.v, .slice s.p s.l.length s.n] 30))
    clear hk
    go_enter Tryz.func102, Tryz.ntmps102
    go_wp2_with (first | (go_at_call 100; (with_reducible refine Calls.mono zh1H.out ?_); rintro e w' ⟨rfl, rfl⟩) | (go_at_call 134; (with_reducible refine Calls.mono zh2H.out ?_); rintro e w' ⟨rfl, rfl⟩))
    go_ret
    exact ⟨by rw [hfin.out]; rfl, hg0⟩
   ·have zh2H : Hid (Calls Tryz.prog 134 #[.int .i64 s.o] (w.alloc (.cells #[.int .i64 s.k, .int .i64 s.a, .int .i64 s.b, .int .i64 s.c, .int .i64 s.o, .int .i64 s.v, .slice s.p s.l.length s.n] 30)) fun e w' => e = .returned (.bool true) ∧ w' = (w.alloc (.cells #[.int .i64 s.k, .int .i64 s.a, .int .i64 s.b, .int .i64 s.c, .int .i64 s.o, .int .i64 s.v, .slice s.p s.l.length s.n] 30))) := op_g h2 (w.alloc (.cells #[.int .i64 s.k, .int .i64 s.a, .int .i64 s.b, .int .i64 s.c, .int .i64 s.o, .int .i64 s.v, .slice s.p s.l.length s.n] 30))
    cases h3 : numB s.v
    ·have hfin : Hid (oneW s a = 0) := by show _ = _; unfold oneW; rw [if_pos hk]; simp [*]
     have zh3H : Hid (Calls Tryz.prog 135 #[.int .i64 s.v] (w.alloc (.cells #[.int .i64 s.k, .int .i64 s.a, .int .i64 s.b, .int .i64 s.c, .int .i64 s.o, .int .i64 s.v, .slice s.p s.l.length s.n] 30)) fun e w' => e = .returned (.bool false) ∧ w' = (w.alloc (.cells #[.int .i64 s.k, .int .i64 s.a, .int .i64 s.b, .int .i64 s.c, .int .i64 s.o, .int .i64 s.v, .slice s.p s.l.length s.n] 30))) := num_g h3 (w.alloc (.cells #[.int .i64 s.k, .int .i64 s.a, .int .i64 s.b, .int .i64 s.c, .int .i64 s.o, .int .i64 s.v, .slice s.p s.l.length s.n] 30))
     clear hk
     go_enter Tryz.func102, Tryz.ntmps102
     go_wp2_with (first | (go_at_call 100; (with_reducible refine Calls.mono zh1H.out ?_); rintro e w' ⟨rfl, rfl⟩) | (go_at_call 134; (with_reducible refine Calls.mono zh2H.out ?_); rintro e w' ⟨rfl, rfl⟩) | (go_at_call 135; (with_reducible refine Calls.mono zh3H.out ?_); rintro e w' ⟨rfl, rfl⟩))
     go_ret
     exact ⟨by rw [hfin.out]; rfl, hg0⟩
    ·have zh3H : Hid (Calls Tryz.prog 135 #[.int .i64 s.v] (w.alloc (.cells #[.int .i64 s.k, .int .i64 s.a, .int .i64 s.b, .int .i64 s.c, .int .i64 s.o, .int .i64 s.v, .slice s.p s.l.length s.n] 30)) fun e w' => e = .returned (.bool true) ∧ w' = (w.alloc (.cells #[.int .i64 s.k, .int .i64 s.a, .int .i64 s.b, .int .i64 s.c, .int .i64 s.o, .int .i64 s.v, .slice s.p s.l.length s.n] 30))) := num_g h3 (w.alloc (.cells #[.int .i64 s.k, .int .i64 s.a, .int .i64 s.b, .int .i64 s.c, .int .i64 s.o, .int .i64 s.v, .slice s.p s.l.length s.n] 30))
     have hfin : Hid (oneW s a = a) := by show _ = _; unfold oneW; rw [if_pos hk]; simp [h1, h2, h3]
     clear hk
     go_enter Tryz.func102, Tryz.ntmps102
     go_wp2_with (first | (go_at_call 100; (with_reducible refine Calls.mono zh1H.out ?_); rintro e w' ⟨rfl, rfl⟩) | (go_at_call 134; (with_reducible refine Calls.mono zh2H.out ?_); rintro e w' ⟨rfl, rfl⟩) | (go_at_call 135; (with_reducible refine Calls.mono zh3H.out ?_); rintro e w' ⟨rfl, rfl⟩))
     go_ret
     exact ⟨by rw [hfin.out]; rfl, hg0⟩
 by_cases hk : s.k = 3
 ·skip
  have e0 : (w.alloc (.cells #[.int .i64 s.k, .int .i64 s.a, .int .i64 s.b, .int .i64 s.c, .int .i64 s.o, .int .i64 s.v, .slice s.p s.l.length s.n] 30)).cell? ⟨w.heap.size, 0, none⟩ = some (.int .i64 3) := by rw [← hk]; exact c0
  clear c0
  have har := areBelow_any s.l a s.p s.n (w.alloc (.cells #[.int .i64 s.k, .int .i64 s.a, .int .i64 s.b, .int .i64 s.c, .int .i64 s.o, .int .i64 s.v, .slice s.p s.l.length s.n] 30)) hrH.out.2 hrH.out.1
  by_cases h8 : s.l.length ≤ 8
  ·have h8z : (s.l.length : Int) ≤ 8 := by omega
   cases h1 : s.l.all (fun n => belowB n a)
   ·have hfin : Hid (oneW s a = 0) := by show _ = _; unfold oneW; rw [if_neg (by omega : ¬ s.k = 2), if_pos hk]; simp [h1]
    rw [h1] at har
    have harH : Hid _ := har
    clear har hk
    go_enter Tryz.func102, Tryz.ntmps102
    go_wp2_with fail
    refine Calls.mono (show Calls _ _ _ _ _ from harH.out) ?_
    rintro e w2 ⟨rfl, hg2⟩
    have d6 : w2.cell? ⟨w.heap.size, 6, none⟩ = some (.slice s.p s.l.length s.n) := box1 hg2 rfl
    clear harH c1 c2 c3 c4 c5 c6 e0
    go_wp2
    go_ret
    exact ⟨by rw [hfin.out]; rfl, hg0.trans hg2⟩
   ·have hfin : Hid (oneW s a = s.l.length) := by show _ = _; unfold oneW; rw [if_neg (by omega : ¬ s.k = 2), if_pos hk]; simp [h1, h8]
    rw [h1] at har
    have harH : Hid _ := har
    clear har hk
    go_enter Tryz.func102, Tryz.ntmps102
    go_wp2_with fail
    refine Calls.mono (show Calls _ _ _ _ _ from harH.out) ?_
    rintro e w2 ⟨rfl, hg2⟩
    have d6 : w2.cell? ⟨w.heap.size, 6, none⟩ = some (.slice s.p s.l.length s.n) := box1 hg2 rfl
    clear harH c1 c2 c3 c4 c5 c6 e0
    go_wp2
    go_ret
    exact ⟨by rw [hfin.out]; rfl, hg0.trans hg2⟩
  ·have h8z : ¬ (s.l.length : Int) ≤ 8 := by omega
   have hfin : Hid (oneW s a = 0) := by show _ = _; unfold oneW; rw [if_neg (by omega : ¬ s.k = 2), if_pos hk]; simp [h8]
   clear har hk
   go_enter Tryz.func102, Tryz.ntmps102
   go_wp2
   go_ret
   exact ⟨by rw [hfin.out]; rfl, hg0⟩
 by_cases hk : s.k = 7
 ·skip
  have e0 : (w.alloc (.cells #[.int .i64 s.k, .int .i64 s.a, .int .i64 s.b, .int .i64 s.c, .int .i64 s.o, .int .i64 s.v, .slice s.p s.l.length s.n] 30)).cell? ⟨w.heap.size, 0, none⟩ = some (.int .i64 7) := by rw [← hk]; exact c0
  clear c0
  have hfin : Hid (oneW s a = a) := by show _ = _; unfold oneW; rw [if_neg (by omega : ¬ s.k = 2), if_neg (by omega : ¬ s.k = 3), if_pos hk]
  clear hk
  go_enter Tryz.func102, Tryz.ntmps102
  go_wp2
  go_ret
  exact ⟨by rw [hfin.out]; rfl, hg0⟩
 by_cases hk : s.k = 8
 ·skip
  have e0 : (w.alloc (.cells #[.int .i64 s.k, .int .i64 s.a, .int .i64 s.b, .int .i64 s.c, .int .i64 s.o, .int .i64 s.v, .slice s.p s.l.length s.n] 30)).cell? ⟨w.heap.size, 0, none⟩ = some (.int .i64 8) := by rw [← hk]; exact c0
  clear c0
  cases h1 : belowB s.c a
  ·have hfin : Hid (oneW s a = 0) := by show _ = _; unfold oneW; rw [if_neg (by omega : ¬ s.k = 2), if_neg (by omega : ¬ s.k = 3), if_neg (by omega : ¬ s.k = 7), if_pos hk]; simp [*]
   have zh1H : Hid (Calls Tryz.prog 100 #[.int .i64 s.c, .int .i64 a] (w.alloc (.cells #[.int .i64 s.k, .int .i64 s.a, .int .i64 s.b, .int .i64 s.c, .int .i64 s.o, .int .i64 s.v, .slice s.p s.l.length s.n] 30)) fun e w' => e = .returned (.bool false) ∧ w' = (w.alloc (.cells #[.int .i64 s.k, .int .i64 s.a, .int .i64 s.b, .int .i64 s.c, .int .i64 s.o, .int .i64 s.v, .slice s.p s.l.length s.n] 30))) := below_g h1 (w.alloc (.cells #[.int .i64 s.k, .int .i64 s.a, .int .i64 s.b, .int .i64 s.c, .int .i64 s.o, .int .i64 s.v, .slice s.p s.l.length s.n] 30))
   clear hk
   go_enter Tryz.func102, Tryz.ntmps102
   go_wp2_with (go_at_call 100; (with_reducible refine Calls.mono zh1H.out ?_); rintro e w' ⟨rfl, rfl⟩)
   go_ret
   exact ⟨by rw [hfin.out]; rfl, hg0⟩
  ·have zh1H : Hid (Calls Tryz.prog 100 #[.int .i64 s.c, .int .i64 a] (w.alloc (.cells #[.int .i64 s.k, .int .i64 s.a, .int .i64 s.b, .int .i64 s.c, .int .i64 s.o, .int .i64 s.v, .slice s.p s.l.length s.n] 30)) fun e w' => e = .returned (.bool true) ∧ w' = (w.alloc (.cells #[.int .i64 s.k, .int .i64 s.a, .int .i64 s.b, .int .i64 s.c, .int .i64 s.o, .int .i64 s.v, .slice s.p s.l.length s.n] 30))) := below_g h1 (w.alloc (.cells #[.int .i64 s.k, .int .i64 s.a, .int .i64 s.b, .int .i64 s.c, .int .i64 s.o, .int .i64 s.v, .slice s.p s.l.length s.n] 30))
   have hfin : Hid (oneW s a = 2) := by show _ = _; unfold oneW; rw [if_neg (by omega : ¬ s.k = 2), if_neg (by omega : ¬ s.k = 3), if_neg (by omega : ¬ s.k = 7), if_pos hk]; simp [h1]
   clear hk
   go_enter Tryz.func102, Tryz.ntmps102
   go_wp2_with (go_at_call 100; (with_reducible refine Calls.mono zh1H.out ?_); rintro e w' ⟨rfl, rfl⟩)
   go_ret
   exact ⟨by rw [hfin.out]; rfl, hg0⟩
 by_cases hk : s.k = 9
 ·skip
  have e0 : (w.alloc (.cells #[.int .i64 s.k, .int .i64 s.a, .int .i64 s.b, .int .i64 s.c, .int .i64 s.o, .int .i64 s.v, .slice s.p s.l.length s.n] 30)).cell? ⟨w.heap.size, 0, none⟩ = some (.int .i64 9) := by rw [← hk]; exact c0
  clear c0
  cases h1 : belowB s.c a
  ·have hfin : Hid (oneW s a = 0) := by show _ = _; unfold oneW; rw [if_neg (by omega : ¬ s.k = 2), if_neg (by omega : ¬ s.k = 3), if_neg (by omega : ¬ s.k = 7), if_neg (by omega : ¬ s.k = 8), if_pos hk]; simp [*]
   have zh1H : Hid (Calls Tryz.prog 100 #[.int .i64 s.c, .int .i64 a] (w.alloc (.cells #[.int .i64 s.k, .int .i64 s.a, .int .i64 s.b, .int .i64 s.c, .int .i64 s.o, .int .i64 s.v, .slice s.p s.l.length s.n] 30)) fun e w' => e = .returned (.bool false) ∧ w' = (w.alloc (.cells #[.int .i64 s.k, .int .i64 s.a, .int .i64 s.b, .int .i64 s.c, .int .i64 s.o, .int .i64 s.v, .slice s.p s.l.length s.n] 30))) := below_g h1 (w.alloc (.cells #[.int .i64 s.k, .int .i64 s.a, .int .i64 s.b, .int .i64 s.c, .int .i64 s.o, .int .i64 s.v, .slice s.p s.l.length s.n] 30))
   clear hk
   go_enter Tryz.func102, Tryz.ntmps102
   go_wp2_with (go_at_call 100; (with_reducible refine Calls.mono zh1H.out ?_); rintro e w' ⟨rfl, rfl⟩)
   go_ret
   exact ⟨by rw [hfin.out]; rfl, hg0⟩
  ·have zh1H : Hid (Calls Tryz.prog 100 #[.int .i64 s.c, .int .i64 a] (w.alloc (.cells #[.int .i64 s.k, .int .i64 s.a, .int .i64 s.b, .int .i64 s.c, .int .i64 s.o, .int .i64 s.v, .slice s.p s.l.length s.n] 30)) fun e w' => e = .returned (.bool true) ∧ w' = (w.alloc (.cells #[.int .i64 s.k, .int .i64 s.a, .int .i64 s.b, .int .i64 s.c, .int .i64 s.o, .int .i64 s.v, .slice s.p s.l.length s.n] 30))) := below_g h1 (w.alloc (.cells #[.int .i64 s.k, .int .i64 s.a, .int .i64 s.b, .int .i64 s.c, .int .i64 s.o, .int .i64 s.v, .slice s.p s.l.length s.n] 30))
   cases h2 : belowB s.v a
   ·have hfin : Hid (oneW s a = 0) := by show _ = _; unfold oneW; rw [if_neg (by omega : ¬ s.k = 2), if_neg (by omega : ¬ s.k = 3), if_neg (by omega : ¬ s.k = 7), if_neg (by omega : ¬ s.k = 8), if_pos hk]; simp [*]
    have zh2H : Hid (Calls Tryz.prog 100 #[.int .i64 s.v, .int .i64 a] (w.alloc (.cells #[.int .i64 s.k, .int .i64 s.a, .int .i64 s.b, .int .i64 s.c, .int .i64 s.o, .int .i64 s.v, .slice s.p s.l.length s.n] 30)) fun e w' => e = .returned (.bool false) ∧ w' = (w.alloc (.cells #[.int .i64 s.k, .int .i64 s.a, .int .i64 s.b, .int .i64 s.c, .int .i64 s.o, .int .i64 s.v, .slice s.p s.l.length s.n] 30))) := below_g h2 (w.alloc (.cells #[.int .i64 s.k, .int .i64 s.a, .int .i64 s.b, .int .i64 s.c, .int .i64 s.o, .int .i64 s.v, .slice s.p s.l.length s.n] 30))
    clear hk
    go_enter Tryz.func102, Tryz.ntmps102
    go_wp2_with (first | (go_at_call 100; (with_reducible refine Calls.mono zh1H.out ?_); rintro e w' ⟨rfl, rfl⟩) | (go_at_call 100; (with_reducible refine Calls.mono zh2H.out ?_); rintro e w' ⟨rfl, rfl⟩))
    go_ret
    exact ⟨by rw [hfin.out]; rfl, hg0⟩
   ·have zh2H : Hid (Calls Tryz.prog 100 #[.int .i64 s.v, .int .i64 a] (w.alloc (.cells #[.int .i64 s.k, .int .i64 s.a, .int .i64 s.b, .int .i64 s.c, .int .i64 s.o, .int .i64 s.v, .slice s.p s.l.length s.n] 30)) fun e w' => e = .returned (.bool true) ∧ w' = (w.alloc (.cells #[.int .i64 s.k, .int .i64 s.a, .int .i64 s.b, .int .i64 s.c, .int .i64 s.o, .int .i64 s.v, .slice s.p s.l.length s.n] 30))) := below_g h2 (w.alloc (.cells #[.int .i64 s.k, .int .i64 s.a, .int .i64 s.b, .int .i64 s.c, .int .i64 s.o, .int .i64 s.v, .slice s.p s.l.length s.n] 30))
    have hfin : Hid (oneW s a = 2) := by show _ = _; unfold oneW; rw [if_neg (by omega : ¬ s.k = 2), if_neg (by omega : ¬ s.k = 3), if_neg (by omega : ¬ s.k = 7), if_neg (by omega : ¬ s.k = 8), if_pos hk]; simp [h1, h2]
    clear hk
    go_enter Tryz.func102, Tryz.ntmps102
    go_wp2_with (first | (go_at_call 100; (with_reducible refine Calls.mono zh1H.out ?_); rintro e w' ⟨rfl, rfl⟩) | (go_at_call 100; (with_reducible refine Calls.mono zh2H.out ?_); rintro e w' ⟨rfl, rfl⟩))
    go_ret
    exact ⟨by rw [hfin.out]; rfl, hg0⟩
 have hfin : Hid (oneW s a = 0) := by show _ = _; unfold oneW; rw [if_neg (by assumption : ¬ s.k = 2), if_neg (by assumption : ¬ s.k = 3), if_neg (by assumption : ¬ s.k = 7), if_neg (by assumption : ¬ s.k = 8), if_neg (by assumption : ¬ s.k = 9)]
 have q2 : (s.k == 2) = false := by simp; omega
 have q3 : (s.k == 3) = false := by simp; omega
 have q7 : (s.k == 7) = false := by simp; omega
 have q8 : (s.k == 8) = false := by simp; omega
 have q9 : (s.k == 9) = false := by simp; omega
 go_enter Tryz.func102, Tryz.ntmps102
 go_wp2
 go_ret
 exact ⟨by rw [hfin.out]; rfl, hg0⟩

set_option maxRecDepth 100000 in
set_option maxHeartbeats 4000000 in
theorem twoW_any (s : Stp) (a b : Int) (w : World) (ha : 0 ≤ a ∧ a ≤ 8) (hb : 0 ≤ b ∧ b ≤ 8) :
  Calls Tryz.prog 101 #[.agg #[.int .i64 s.k, .int .i64 s.a, .int .i64 s.b, .int .i64 s.c, .int .i64 s.o, .int .i64 s.v, .slice s.p s.l.length s.n], .int .i64 a, .int .i64 b] w fun e w' => e = .returned (.int .i64 (twoW s a b)) ∧ Gr w w' := by
 have hg0 : Gr w (w.alloc (.cells #[.int .i64 s.k, .int .i64 s.a, .int .i64 s.b, .int .i64 s.c, .int .i64 s.o, .int .i64 s.v, .slice s.p s.l.length s.n] 30)) := (Gr.refl w).alloc _
 have hab : IntKind.i64.wrap (a + b) = a + b := by rw [IntKind.wrap_i64]; omega
 have c0 : (w.alloc (.cells #[.int .i64 s.k, .int .i64 s.a, .int .i64 s.b, .int .i64 s.c, .int .i64 s.o, .int .i64 s.v, .slice s.p s.l.length s.n] 30)).cell? ⟨w.heap.size, 0, none⟩ = some (.int .i64 s.k) := box1 (Gr.refl _) rfl
 have c1 : (w.alloc (.cells #[.int .i64 s.k, .int .i64 s.a, .int .i64 s.b, .int .i64 s.c, .int .i64 s.o, .int .i64 s.v, .slice s.p s.l.length s.n] 30)).cell? ⟨w.heap.size, 1, none⟩ = some (.int .i64 s.a) := box1 (Gr.refl _) rfl
 have c2 : (w.alloc (.cells #[.int .i64 s.k, .int .i64 s.a, .int .i64 s.b, .int .i64 s.c, .int .i64 s.o, .int .i64 s.v, .slice s.p s.l.length s.n] 30)).cell? ⟨w.heap.size, 2, none⟩ = some (.int .i64 s.b) := box1 (Gr.refl _) rfl
 have c3 : (w.alloc (.cells #[.int .i64 s.k, .int .i64 s.a, .int .i64 s.b, .int .i64 s.c, .int .i64 s.o, .int .i64 s.v, .slice s.p s.l.length s.n] 30)).cell? ⟨w.heap.size, 3, none⟩ = some (.int .i64 s.c) := box1 (Gr.refl _) rfl
 have c4 : (w.alloc (.cells #[.int .i64 s.k, .int .i64 s.a, .int .i64 s.b, .int .i64 s.c, .int .i64 s.o, .int .i64 s.v, .slice s.p s.l.length s.n] 30)).cell? ⟨w.heap.size, 4, none⟩ = some (.int .i64 s.o) := box1 (Gr.refl _) rfl
 have c5 : (w.alloc (.cells #[.int .i64 s.k, .int .i64 s.a, .int .i64 s.b, .int .i64 s.c, .int .i64 s.o, .int .i64 s.v, .slice s.p s.l.length s.n] 30)).cell? ⟨w.heap.size, 5, none⟩ = some (.int .i64 s.v) := box1 (Gr.refl _) rfl
 by_cases hk : s.k = 4
 ·skip
  have e0 : (w.alloc (.cells #[.int .i64 s.k, .int .i64 s.a, .int .i64 s.b, .int .i64 s.c, .int .i64 s.o, .int .i64 s.v, .slice s.p s.l.length s.n] 30)).cell? ⟨w.heap.size, 0, none⟩ = some (.int .i64 4) := by rw [← hk]; exact c0
  clear c0
  by_cases h8 : a + b ≤ 8
  ·skip
   cases h1 : belowB s.c a
   ·have hfin : Hid (twoW s a b = 0) := by show _ = _; unfold twoW; rw [if_pos hk]; simp [*]
    have zh1H : Hid (Calls Tryz.prog 100 #[.int .i64 s.c, .int .i64 a] (w.alloc (.cells #[.int .i64 s.k, .int .i64 s.a, .int .i64 s.b, .int .i64 s.c, .int .i64 s.o, .int .i64 s.v, .slice s.p s.l.length s.n] 30)) fun e w' => e = .returned (.bool false) ∧ w' = (w.alloc (.cells #[.int .i64 s.k, .int .i64 s.a, .int .i64 s.b, .int .i64 s.c, .int .i64 s.o, .int .i64 s.v, .slice s.p s.l.length s.n] 30))) := below_g h1 (w.alloc (.cells #[.int .i64 s.k, .int .i64 s.a, .int .i64 s.b, .int .i64 s.c, .int .i64 s.o, .int .i64 s.v, .slice s.p s.l.length s.n] 30))
    clear hk
    go_enter Tryz.func101, Tryz.ntmps101
    go_wp2_with (go_at_call 100; (with_reducible refine Calls.mono zh1H.out ?_); rintro e w' ⟨rfl, rfl⟩)
    go_ret
    exact ⟨by rw [hfin.out]; rfl, hg0⟩
   ·have zh1H : Hid (Calls Tryz.prog 100 #[.int .i64 s.c, .int .i64 a] (w.alloc (.cells #[.int .i64 s.k, .int .i64 s.a, .int .i64 s.b, .int .i64 s.c, .int .i64 s.o, .int .i64 s.v, .slice s.p s.l.length s.n] 30)) fun e w' => e = .returned (.bool true) ∧ w' = (w.alloc (.cells #[.int .i64 s.k, .int .i64 s.a, .int .i64 s.b, .int .i64 s.c, .int .i64 s.o, .int .i64 s.v, .slice s.p s.l.length s.n] 30))) := below_g h1 (w.alloc (.cells #[.int .i64 s.k, .int .i64 s.a, .int .i64 s.b, .int .i64 s.c, .int .i64 s.o, .int .i64 s.v, .slice s.p s.l.length s.n] 30))
    cases h2 : belowB s.v b
    ·have hfin : Hid (twoW s a b = 0) := by show _ = _; unfold twoW; rw [if_pos hk]; simp [*]
     have zh2H : Hid (Calls Tryz.prog 100 #[.int .i64 s.v, .int .i64 b] (w.alloc (.cells #[.int .i64 s.k, .int .i64 s.a, .int .i64 s.b, .int .i64 s.c, .int .i64 s.o, .int .i64 s.v, .slice s.p s.l.length s.n] 30)) fun e w' => e = .returned (.bool false) ∧ w' = (w.alloc (.cells #[.int .i64 s.k, .int .i64 s.a, .int .i64 s.b, .int .i64 s.c, .int .i64 s.o, .int .i64 s.v, .slice s.p s.l.length s.n] 30))) := below_g h2 (w.alloc (.cells #[.int .i64 s.k, .int .i64 s.a, .int .i64 s.b, .int .i64 s.c, .int .i64 s.o, .int .i64 s.v, .slice s.p s.l.length s.n] 30))
     clear hk
     go_enter Tryz.func101, Tryz.ntmps101
     go_wp2_with (first | (go_at_call 100; (with_reducible refine Calls.mono zh1H.out ?_); rintro e w' ⟨rfl, rfl⟩) | (go_at_call 100; (with_reducible refine Calls.mono zh2H.out ?_); rintro e w' ⟨rfl, rfl⟩))
     go_ret
     exact ⟨by rw [hfin.out]; rfl, hg0⟩
    ·have zh2H : Hid (Calls Tryz.prog 100 #[.int .i64 s.v, .int .i64 b] (w.alloc (.cells #[.int .i64 s.k, .int .i64 s.a, .int .i64 s.b, .int .i64 s.c, .int .i64 s.o, .int .i64 s.v, .slice s.p s.l.length s.n] 30)) fun e w' => e = .returned (.bool true) ∧ w' = (w.alloc (.cells #[.int .i64 s.k, .int .i64 s.a, .int .i64 s.b, .int .i64 s.c, .int .i64 s.o, .int .i64 s.v, .slice s.p s.l.length s.n] 30))) := below_g h2 (w.alloc (.cells #[.int .i64 s.k, .int .i64 s.a, .int .i64 s.b, .int .i64 s.c, .int .i64 s.o, .int .i64 s.v, .slice s.p s.l.length s.n] 30))
     have hfin : Hid (twoW s a b = a + b) := by show _ = _; unfold twoW; rw [if_pos hk]; simp [h1, h2, h8]
     clear hk
     go_enter Tryz.func101, Tryz.ntmps101
     go_wp2_with (first | (go_at_call 100; (with_reducible refine Calls.mono zh1H.out ?_); rintro e w' ⟨rfl, rfl⟩) | (go_at_call 100; (with_reducible refine Calls.mono zh2H.out ?_); rintro e w' ⟨rfl, rfl⟩))
     go_ret
     exact ⟨by rw [hfin.out]; rfl, hg0⟩
  ·skip
   cases h1 : belowB s.c a
   ·have hfin : Hid (twoW s a b = 0) := by show _ = _; unfold twoW; rw [if_pos hk]; simp [*]
    have zh1H : Hid (Calls Tryz.prog 100 #[.int .i64 s.c, .int .i64 a] (w.alloc (.cells #[.int .i64 s.k, .int .i64 s.a, .int .i64 s.b, .int .i64 s.c, .int .i64 s.o, .int .i64 s.v, .slice s.p s.l.length s.n] 30)) fun e w' => e = .returned (.bool false) ∧ w' = (w.alloc (.cells #[.int .i64 s.k, .int .i64 s.a, .int .i64 s.b, .int .i64 s.c, .int .i64 s.o, .int .i64 s.v, .slice s.p s.l.length s.n] 30))) := below_g h1 (w.alloc (.cells #[.int .i64 s.k, .int .i64 s.a, .int .i64 s.b, .int .i64 s.c, .int .i64 s.o, .int .i64 s.v, .slice s.p s.l.length s.n] 30))
    clear hk
    go_enter Tryz.func101, Tryz.ntmps101
    go_wp2_with (go_at_call 100; (with_reducible refine Calls.mono zh1H.out ?_); rintro e w' ⟨rfl, rfl⟩)
    go_ret
    exact ⟨by rw [hfin.out]; rfl, hg0⟩
   ·have zh1H : Hid (Calls Tryz.prog 100 #[.int .i64 s.c, .int .i64 a] (w.alloc (.cells #[.int .i64 s.k, .int .i64 s.a, .int .i64 s.b, .int .i64 s.c, .int .i64 s.o, .int .i64 s.v, .slice s.p s.l.length s.n] 30)) fun e w' => e = .returned (.bool true) ∧ w' = (w.alloc (.cells #[.int .i64 s.k, .int .i64 s.a, .int .i64 s.b, .int .i64 s.c, .int .i64 s.o, .int .i64 s.v, .slice s.p s.l.length s.n] 30))) := below_g h1 (w.alloc (.cells #[.int .i64 s.k, .int .i64 s.a, .int .i64 s.b, .int .i64 s.c, .int .i64 s.o, .int .i64 s.v, .slice s.p s.l.length s.n] 30))
    cases h2 : belowB s.v b
    ·have hfin : Hid (twoW s a b = 0) := by show _ = _; unfold twoW; rw [if_pos hk]; simp [*]
     have zh2H : Hid (Calls Tryz.prog 100 #[.int .i64 s.v, .int .i64 b] (w.alloc (.cells #[.int .i64 s.k, .int .i64 s.a, .int .i64 s.b, .int .i64 s.c, .int .i64 s.o, .int .i64 s.v, .slice s.p s.l.length s.n] 30)) fun e w' => e = .returned (.bool false) ∧ w' = (w.alloc (.cells #[.int .i64 s.k, .int .i64 s.a, .int .i64 s.b, .int .i64 s.c, .int .i64 s.o, .int .i64 s.v, .slice s.p s.l.length s.n] 30))) := below_g h2 (w.alloc (.cells #[.int .i64 s.k, .int .i64 s.a, .int .i64 s.b, .int .i64 s.c, .int .i64 s.o, .int .i64 s.v, .slice s.p s.l.length s.n] 30))
     clear hk
     go_enter Tryz.func101, Tryz.ntmps101
     go_wp2_with (first | (go_at_call 100; (with_reducible refine Calls.mono zh1H.out ?_); rintro e w' ⟨rfl, rfl⟩) | (go_at_call 100; (with_reducible refine Calls.mono zh2H.out ?_); rintro e w' ⟨rfl, rfl⟩))
     go_ret
     exact ⟨by rw [hfin.out]; rfl, hg0⟩
    ·have zh2H : Hid (Calls Tryz.prog 100 #[.int .i64 s.v, .int .i64 b] (w.alloc (.cells #[.int .i64 s.k, .int .i64 s.a, .int .i64 s.b, .int .i64 s.c, .int .i64 s.o, .int .i64 s.v, .slice s.p s.l.length s.n] 30)) fun e w' => e = .returned (.bool true) ∧ w' = (w.alloc (.cells #[.int .i64 s.k, .int .i64 s.a, .int .i64 s.b, .int .i64 s.c, .int .i64 s.o, .int .i64 s.v, .slice s.p s.l.length s.n] 30))) := below_g h2 (w.alloc (.cells #[.int .i64 s.k, .int .i64 s.a, .int .i64 s.b, .int .i64 s.c, .int .i64 s.o, .int .i64 s.v, .slice s.p s.l.length s.n] 30))
     have hfin : Hid (twoW s a b = 0) := by show _ = _; unfold twoW; rw [if_pos hk]; simp [h8]
     clear hk
     go_enter Tryz.func101, Tryz.ntmps101
     go_wp2_with (first | (go_at_call 100; (with_reducible refine Calls.mono zh1H.out ?_); rintro e w' ⟨rfl, rfl⟩) | (go_at_call 100; (with_reducible refine Calls.mono zh2H.out ?_); rintro e w' ⟨rfl, rfl⟩))
     go_ret
     exact ⟨by rw [hfin.out]; rfl, hg0⟩
 by_cases hk : s.k = 5
 ·skip
  have e0 : (w.alloc (.cells #[.int .i64 s.k, .int .i64 s.a, .int .i64 s.b, .int .i64 s.c, .int .i64 s.o, .int .i64 s.v, .slice s.p s.l.length s.n] 30)).cell? ⟨w.heap.size, 0, none⟩ = some (.int .i64 5) := by rw [← hk]; exact c0
  clear c0
  by_cases hab2 : a = b
  ·subst hab2
   have hfin : Hid (twoW s a a = a) := by show _ = _; unfold twoW; rw [if_neg (by omega : ¬ s.k = 4), if_pos hk]; simp
   clear hk
   go_enter Tryz.func101, Tryz.ntmps101
   go_wp2
   go_ret
   exact ⟨by rw [hfin.out]; rfl, hg0⟩
  ·have hfin : Hid (twoW s a b = 0) := by show _ = _; unfold twoW; rw [if_neg (by omega : ¬ s.k = 4), if_pos hk]; simp [hab2]
   have hqb : (a == b) = false := by simpa using hab2
   clear hk hab2
   go_enter Tryz.func101, Tryz.ntmps101
   go_wp2
   go_ret
   exact ⟨by rw [hfin.out]; rfl, hg0⟩
 by_cases hk : s.k = 6
 ·skip
  have e0 : (w.alloc (.cells #[.int .i64 s.k, .int .i64 s.a, .int .i64 s.b, .int .i64 s.c, .int .i64 s.o, .int .i64 s.v, .slice s.p s.l.length s.n] 30)).cell? ⟨w.heap.size, 0, none⟩ = some (.int .i64 6) := by rw [← hk]; exact c0
  clear c0
  by_cases hab2 : a = b
  ·subst hab2
   have hfin : Hid (twoW s a a = a) := by show _ = _; unfold twoW; rw [if_neg (by omega : ¬ s.k = 4), if_neg (by omega : ¬ s.k = 5), if_pos hk]; simp
   clear hk
   go_enter Tryz.func101, Tryz.ntmps101
   go_wp2
   go_ret
   exact ⟨by rw [hfin.out]; rfl, hg0⟩
  ·have hfin : Hid (twoW s a b = 0) := by show _ = _; unfold twoW; rw [if_neg (by omega : ¬ s.k = 4), if_neg (by omega : ¬ s.k = 5), if_pos hk]; simp [hab2]
   have hqb : (a == b) = false := by simpa using hab2
   clear hk hab2
   go_enter Tryz.func101, Tryz.ntmps101
   go_wp2
   go_ret
   exact ⟨by rw [hfin.out]; rfl, hg0⟩
 have hfin : Hid (twoW s a b = 0) := by show _ = _; unfold twoW; rw [if_neg (by assumption : ¬ s.k = 4), if_neg (by assumption : ¬ s.k = 5), if_neg (by assumption : ¬ s.k = 6)]
 have q4 : (s.k == 4) = false := by simp; omega
 have q5 : (s.k == 5) = false := by simp; omega
 have q6 : (s.k == 6) = false := by simp; omega
 go_enter Tryz.func101, Tryz.ntmps101
 go_wp2
 go_ret
 exact ⟨by rw [hfin.out]; rfl, hg0⟩

end Go.Proofs.YtmoicbmhjmdgdaaGreat

namespace Go.Proofs.YtmoicbmhjmdgdaaGreat
open Go.RowKit Go.Sort

/-- The width of a step behind those of widths ah; 0, if it may not stand there. -/
def widW (s : Stp) (ah : List Int) : Int := if aloneB s = true then (if s.k = 1 then (if belowB s.a 2 = true then 4 else 0) else if belowB s.a ah.length = true then (if s.k = 4 ∨ s.k = 5 ∨ s.k = 6 then (if belowB s.b ah.length = true then twoW s (ah.getD s.a.toNat 0) (ah.getD s.b.toNat 0) else 0) else oneW s (ah.getD s.a.toNat 0)) else 0) else 0
theorem grD {w w' : World} (h : Gr w w') : ∃ q os', w' = grow (w.drewN q) os' := h
theorem below_nat {n : Int} {m : Nat} (h : belowB n m = true) : ∃ k : Nat, n = k ∧ k < m := by
 simp only [belowB, Bool.and_eq_true, decide_eq_true_eq] at h
 exact ⟨n.toNat, by omega, by omega⟩
theorem getD_in {l : List Int} {k : Nat} (h : k < l.length) : l.getD k 0 = l[k] := by rw [List.getD_eq_getElem?_getD, List.getElem?_eq_getElem h]; rfl

set_option maxRecDepth 100000 in
set_option maxHeartbeats 4000000 in
theorem width_any (s : Stp) (ah : List Int) (A : Option Addr) (ca : Nat) (w : World) (hl : s.l.length ≤ maxLen) (hr : RowI w s.p s.l) (hra : RowI w A ah) (hah : ∀ x ∈ ah, 0 ≤ x ∧ x ≤ 8) :
  Calls Tryz.prog 78 #[.agg #[.int .i64 s.k, .int .i64 s.a, .int .i64 s.b, .int .i64 s.c, .int .i64 s.o, .int .i64 s.v, .slice s.p s.l.length s.n], .slice A ah.length ca] w fun e w' => e = .returned (.int .i64 (widW s ah)) ∧ Gr w w' := by
 have mixed : Tryz.prog.follows .mixedOrders = true := by kernel_rfl
 have hg0 : Gr w (w.alloc (.cells #[.int .i64 s.k, .int .i64 s.a, .int .i64 s.b, .int .i64 s.c, .int .i64 s.o, .int .i64 s.v, .slice s.p s.l.length s.n] 30)) := (Gr.refl w).alloc _
 have hlo := alone_any s (w.alloc (.cells #[.int .i64 s.k, .int .i64 s.a, .int .i64 s.b, .int .i64 s.c, .int .i64 s.o, .int .i64 s.v, .slice s.p s.l.length s.n] 30))
 have hloH : Hid _ := hlo
 have c0 : (w.alloc (.cells #[.int .i64 s.k, .int .i64 s.a, .int .i64 s.b, .int .i64 s.c, .int .i64 s.o, .int .i64 s.v, .slice s.p s.l.length s.n] 30)).cell? ⟨w.heap.size, 0, none⟩ = some (.int .i64 s.k) := box1 (Gr.refl _) rfl
 have c1 : (w.alloc (.cells #[.int .i64 s.k, .int .i64 s.a, .int .i64 s.b, .int .i64 s.c, .int .i64 s.o, .int .i64 s.v, .slice s.p s.l.length s.n] 30)).cell? ⟨w.heap.size, 1, none⟩ = some (.int .i64 s.a) := box1 (Gr.refl _) rfl
 have c2 : (w.alloc (.cells #[.int .i64 s.k, .int .i64 s.a, .int .i64 s.b, .int .i64 s.c, .int .i64 s.o, .int .i64 s.v, .slice s.p s.l.length s.n] 30)).cell? ⟨w.heap.size, 2, none⟩ = some (.int .i64 s.b) := box1 (Gr.refl _) rfl
 have c3 : (w.alloc (.cells #[.int .i64 s.k, .int .i64 s.a, .int .i64 s.b, .int .i64 s.c, .int .i64 s.o, .int .i64 s.v, .slice s.p s.l.length s.n] 30)).cell? ⟨w.heap.size, 3, none⟩ = some (.int .i64 s.c) := box1 (Gr.refl _) rfl
 have c4 : (w.alloc (.cells #[.int .i64 s.k, .int .i64 s.a, .int .i64 s.b, .int .i64 s.c, .int .i64 s.o, .int .i64 s.v, .slice s.p s.l.length s.n] 30)).cell? ⟨w.heap.size, 4, none⟩ = some (.int .i64 s.o) := box1 (Gr.refl _) rfl
 have c5 : (w.alloc (.cells #[.int .i64 s.k, .int .i64 s.a, .int .i64 s.b, .int .i64 s.c, .int .i64 s.o, .int .i64 s.v, .slice s.p s.l.length s.n] 30)).cell? ⟨w.heap.size, 5, none⟩ = some (.int .i64 s.v) := box1 (Gr.refl _) rfl
 have c6 : (w.alloc (.cells #[.int .i64 s.k, .int .i64 s.a, .int .i64 s.b, .int .i64 s.c, .int .i64 s.o, .int .i64 s.v, .slice s.p s.l.length s.n] 30)).cell? ⟨w.heap.size, 6, none⟩ = some (.slice s.p s.l.length s.n) := box1 (Gr.refl _) rfl
 have hrH : Hid (RowI w s.p s.l ∧ s.l.length ≤ maxLen ∧ RowI w A ah ∧ ∀ x ∈ ah, 0 ≤ x ∧ x ≤ 8) := ⟨hr, hl, hra, hah⟩
 clear hlo hr hl hra hah
 go_enter Tryz.func78, Tryz.ntmps78
 go_wp2_with fail
 refine Calls.mono (show Calls _ _ _ _ _ from hloH.out) ?_
 rintro e w1 ⟨rfl, hg1⟩
 clear hloH c0 c1 c2 c3 c4 c5 c6
 have c0 : w1.cell? ⟨w.heap.size, 0, none⟩ = some (.int .i64 s.k) := box1 hg1 rfl
 have c1 : w1.cell? ⟨w.heap.size, 1, none⟩ = some (.int .i64 s.a) := box1 hg1 rfl
 have c2 : w1.cell? ⟨w.heap.size, 2, none⟩ = some (.int .i64 s.b) := box1 hg1 rfl
 have c3 : w1.cell? ⟨w.heap.size, 3, none⟩ = some (.int .i64 s.c) := box1 hg1 rfl
 have c4 : w1.cell? ⟨w.heap.size, 4, none⟩ = some (.int .i64 s.o) := box1 hg1 rfl
 have c5 : w1.cell? ⟨w.heap.size, 5, none⟩ = some (.int .i64 s.v) := box1 hg1 rfl
 have c6 : w1.cell? ⟨w.heap.size, 6, none⟩ = some (.slice s.p s.l.length s.n) := box1 hg1 rfl
 have hgw : Gr w w1 := hg0.trans hg1
 cases hal0 : aloneB s
 ·have hfin : Hid (widW s ah = 0) := by show _ = _; unfold widW; rw [if_neg (by rw [hal0]; simp)]
  go_wp2
  go_ret
  exact ⟨by rw [hfin.out]; rfl, hgw⟩
 have hun : Hid (widW s ah = if s.k = 1 then (if belowB s.a 2 = true then 4 else 0) else if belowB s.a ah.length = true then (if s.k = 4 ∨ s.k = 5 ∨ s.k = 6 then (if belowB s.b ah.length = true then twoW s (ah.getD s.a.toNat 0) (ah.getD s.b.toNat 0) else 0) else oneW s (ah.getD s.a.toNat 0)) else 0) := by show _ = _; unfold widW; rw [if_pos hal0]
 by_cases hk : s.k = 1
 ·have e0 : w1.cell? ⟨w.heap.size, 0, none⟩ = some (.int .i64 1) := by rw [← hk]; exact c0
  clear c0
  cases hb : belowB s.a 2
  ·have hfin : Hid (widW s ah = 0) := by show _ = _; rw [hun.out, if_pos hk, if_neg (by rw [hb]; simp)]
   have hzH : Hid (Calls Tryz.prog 100 #[.int .i64 s.a, .int .i64 2] w1 fun e w' => e = .returned (.bool false) ∧ w' = w1) := below_g hb w1
   clear hk
   go_wp2_with (go_at_call 100; (with_reducible refine Calls.mono hzH.out ?_); rintro e w' ⟨rfl, hw'⟩; subst w')
   go_ret
   exact ⟨by rw [hfin.out]; rfl, hgw⟩
  ·have hfin : Hid (widW s ah = 4) := by show _ = _; rw [hun.out, if_pos hk, if_pos hb]
   have hzH : Hid (Calls Tryz.prog 100 #[.int .i64 s.a, .int .i64 2] w1 fun e w' => e = .returned (.bool true) ∧ w' = w1) := below_g hb w1
   clear hk
   go_wp2_with (go_at_call 100; (with_reducible refine Calls.mono hzH.out ?_); rintro e w' ⟨rfl, hw'⟩; subst w')
   go_ret
   exact ⟨by rw [hfin.out]; rfl, hgw⟩
 have hkb : (s.k == 1) = false := by simpa using hk
 cases hb : belowB s.a ah.length
 ·have hfin : Hid (widW s ah = 0) := by show _ = _; rw [hun.out, if_neg hk, if_neg (by rw [hb]; simp)]
  have hzH : Hid (Calls Tryz.prog 100 #[.int .i64 s.a, .int .i64 ah.length] w1 fun e w' => e = .returned (.bool false) ∧ w' = w1) := below_g hb w1
  clear hk
  go_wp2_with (go_at_call 100; (with_reducible refine Calls.mono hzH.out ?_); rintro e w' ⟨rfl, hw'⟩; subst w')
  go_ret
  exact ⟨by rw [hfin.out]; rfl, hgw⟩
 have hzH : Hid (Calls Tryz.prog 100 #[.int .i64 s.a, .int .i64 ah.length] w1 fun e w' => e = .returned (.bool true) ∧ w' = w1) := below_g hb w1
 obtain ⟨ka, hka, hkal⟩ := below_nat hb
 have hra1 : RowI w1 A ah := hrH.out.2.2.1.gr hgw
 obtain ⟨ba, oa, rfl, hba, hca⟩ := hra1.at hkal
 obtain ⟨xa, hxa⟩ : ∃ x, ah[ka] = x := ⟨_, rfl⟩
 have ea0 := hca ka hkal 0 (by omega)
 rw [hxa] at ea0
 have ea : w1.cell? ⟨ba, oa + ka, none⟩ = some (.int .i64 xa) := by simpa [encI] using ea0
 have hga : Hid (ah.getD s.a.toNat 0 = xa ∧ 0 ≤ xa ∧ xa ≤ 8) := by
  refine ⟨?_, hrH.out.2.2.2 xa (by rw [← hxa]; exact List.getElem_mem hkal)⟩
  rw [hka, Int.toNat_natCast, getD_in hkal, hxa]
 have hkaz : (ka : Int) < (ah.length : Int) := by omega
 have d1 : w1.cell? ⟨w.heap.size, 1, none⟩ = some (.int .i64 (ka : Int)) := by rw [← hka]; exact c1
 rw [hka] at hzH
 clear ea0 hxa c1
 by_cases hk2 : s.k = 4 ∨ s.k = 5 ∨ s.k = 6
 ·cases hb2 : belowB s.b ah.length
  ·have hfin : Hid (widW s ah = 0) := by show _ = _; rw [hun.out, if_neg hk, if_pos hb, if_pos hk2, if_neg (by rw [hb2]; simp)]
   have hyH : Hid (Calls Tryz.prog 100 #[.int .i64 s.b, .int .i64 ah.length] w1 fun e w' => e = .returned (.bool false) ∧ w' = w1) := below_g hb2 w1
   clear hk hka hb hca hra1
   rcases hk2 with k4 | k4 | k4
   all_goals
    rw [k4] at c0
    clear k4 hkb
    go_wp2_with (first | (go_at_call 100; (with_reducible refine Calls.mono hzH.out ?_); rintro e w' ⟨rfl, hw'⟩; subst w') | (go_at_call 100; (with_reducible refine Calls.mono hyH.out ?_); rintro e w' ⟨rfl, hw'⟩; subst w'))
    go_ret
    exact ⟨by rw [hfin.out]; rfl, hgw⟩
  ·have hyH0 : Calls Tryz.prog 100 #[.int .i64 s.b, .int .i64 ah.length] w1 fun e w' => e = .returned (.bool true) ∧ w' = w1 := below_g hb2 w1
   obtain ⟨kb, hkb2, hkbl⟩ := below_nat hb2
   obtain ⟨xb, hxb⟩ : ∃ x, ah[kb] = x := ⟨_, rfl⟩
   have eb0 := hca kb hkbl 0 (by omega)
   rw [hxb] at eb0
   have eb : w1.cell? ⟨ba, oa + kb, none⟩ = some (.int .i64 xb) := by simpa [encI] using eb0
   have hgb : Hid (ah.getD s.b.toNat 0 = xb ∧ 0 ≤ xb ∧ xb ≤ 8) := by
    refine ⟨?_, hrH.out.2.2.2 xb (by rw [← hxb]; exact List.getElem_mem hkbl)⟩
    rw [hkb2, Int.toNat_natCast, getD_in hkbl, hxb]
   have hkbz : (kb : Int) < (ah.length : Int) := by omega
   have d2 : w1.cell? ⟨w.heap.size, 2, none⟩ = some (.int .i64 (kb : Int)) := by rw [← hkb2]; exact c2
   rw [hkb2] at hyH0
   have hyH : Hid (Calls Tryz.prog 100 #[.int .i64 (kb : Int), .int .i64 ah.length] w1 fun e w' => e = .returned (.bool true) ∧ w' = w1) := hyH0
   have hfin : Hid (widW s ah = twoW s xa xb) := by show _ = _; rw [hun.out, if_neg hk, if_pos hb, if_pos hk2, if_pos hb2, hga.out.1, hgb.out.1]
   have htw : ∀ n os, Calls Tryz.prog 101 #[.agg #[.int .i64 s.k, .int .i64 s.a, .int .i64 s.b, .int .i64 s.c, .int .i64 s.o, .int .i64 s.v, .slice s.p s.l.length s.n], .int .i64 xa, .int .i64 xb] (grow (w1.drewN n) os) fun e w' => e = .returned (.int .i64 (twoW s xa xb)) ∧ ∃ q os', w' = grow ((grow (w1.drewN n) os).drewN q) os' := fun n os => (twoW_any s xa xb _ hga.out.2 hgb.out.2).mono fun e w' h => ⟨h.1, grD h.2⟩
   rw [hka, hkb2] at htw
   have gb := (Gr.refl w1).cellG (a := ⟨ba, oa + kb, none⟩) hba eb
   have xlt : w.heap.size < w1.heap.size := World.block_lt_of_cell? w1 ⟨w.heap.size, 0, none⟩ c0
   have g0 := (Gr.refl w1).cellG (a := ⟨w.heap.size, 0, none⟩) xlt c0
   have g1 := (Gr.refl w1).cellG (a := ⟨w.heap.size, 1, none⟩) xlt d1
   have g2 := (Gr.refl w1).cellG (a := ⟨w.heap.size, 2, none⟩) xlt d2
   have g3 := (Gr.refl w1).cellG (a := ⟨w.heap.size, 3, none⟩) xlt c3
   have g4 := (Gr.refl w1).cellG (a := ⟨w.heap.size, 4, none⟩) xlt c4
   have g5 := (Gr.refl w1).cellG (a := ⟨w.heap.size, 5, none⟩) xlt c5
   have g6 := (Gr.refl w1).cellG (a := ⟨w.heap.size, 6, none⟩) xlt c6
   have ga := (Gr.refl w1).cellG (a := ⟨ba, oa + ka, none⟩) hba ea
   clear hk hb hca hra1 eb0 hxb c2 hyH0 hb2
   rcases hk2 with k4 | k4 | k4
   all_goals
    rw [k4] at c0 htw g0
    have htwH : Hid (∀ n os, Calls Tryz.prog 101 _ (grow (w1.drewN n) os) _) := htw
    clear k4 hkb htw
    go_wp2_with (first | (go_at_call 100; (with_reducible refine Calls.mono hzH.out ?_); rintro e w' ⟨rfl, hw'⟩; subst w') | (go_at_call 100; (with_reducible refine Calls.mono hyH.out ?_); rintro e w' ⟨rfl, hw'⟩; subst w'))
    refine wp_region_quiet_grown mixed (by kernel_rfl) ?_
    repeat (go_big_quiet_step ((go_at_call 101; refine Calls.grown_of (htwH.out _ _))))
    refine wpQuiet_nil ?_
    rintro _ ⟨⟨nq2, osq2⟩, rfl⟩
    go_wp2
    go_ret
    exact ⟨by rw [hfin.out]; rfl, hgw.trans ⟨nq2, osq2, rfl⟩⟩
 ·have hfin : Hid (widW s ah = oneW s xa) := by show _ = _; rw [hun.out, if_neg hk, if_pos hb, if_neg hk2, hga.out.1]
  have how : ∀ n os, Calls Tryz.prog 102 #[.agg #[.int .i64 s.k, .int .i64 s.a, .int .i64 s.b, .int .i64 s.c, .int .i64 s.o, .int .i64 s.v, .slice s.p s.l.length s.n], .int .i64 xa] (grow (w1.drewN n) os) fun e w' => e = .returned (.int .i64 (oneW s xa)) ∧ ∃ q os', w' = grow ((grow (w1.drewN n) os).drewN q) os' := fun n os => (oneW_any s xa _ hrH.out.2.1 (hrH.out.1.gr (hgw.trans ⟨n, os, rfl⟩))).mono fun e w' h => ⟨h.1, grD h.2⟩
  rw [hka] at how
  have howH : Hid (∀ n os, Calls Tryz.prog 102 _ (grow (w1.drewN n) os) _) := how
  have q4 : (s.k == 4) = false := by simp; omega
  have q5 : (s.k == 5) = false := by simp; omega
  have q6 : (s.k == 6) = false := by simp; omega
  have xlt : w.heap.size < w1.heap.size := World.block_lt_of_cell? w1 ⟨w.heap.size, 0, none⟩ c0
  have g0 := (Gr.refl w1).cellG (a := ⟨w.heap.size, 0, none⟩) xlt c0
  have g1 := (Gr.refl w1).cellG (a := ⟨w.heap.size, 1, none⟩) xlt d1
  have g2 := (Gr.refl w1).cellG (a := ⟨w.heap.size, 2, none⟩) xlt c2
  have g3 := (Gr.refl w1).cellG (a := ⟨w.heap.size, 3, none⟩) xlt c3
  have g4 := (Gr.refl w1).cellG (a := ⟨w.heap.size, 4, none⟩) xlt c4
  have g5 := (Gr.refl w1).cellG (a := ⟨w.heap.size, 5, none⟩) xlt c5
  have g6 := (Gr.refl w1).cellG (a := ⟨w.heap.size, 6, none⟩) xlt c6
  have ga := (Gr.refl w1).cellG (a := ⟨ba, oa + ka, none⟩) hba ea
  clear hk hb hca hra1 how hk2
  go_wp2_with (go_at_call 100; (with_reducible refine Calls.mono hzH.out ?_); rintro e w' ⟨rfl, hw'⟩; subst w')
  refine wp_region_quiet_grown mixed (by kernel_rfl) ?_
  repeat (go_big_quiet_step ((go_at_call 102; refine Calls.grown_of (howH.out _ _))))
  refine wpQuiet_nil ?_
  rintro _ ⟨⟨nq2, osq2⟩, rfl⟩
  go_wp2
  go_ret
  exact ⟨by rw [hfin.out]; rfl, hgw.trans ⟨nq2, osq2, rfl⟩⟩

end Go.Proofs.YtmoicbmhjmdgdaaGreat

namespace Go.Proofs.YtmoicbmhjmdgdaaGreat
open Go.RowKit Go.Sort

/-- Steps in memory, and their lists. -/
structure Stps (w : World) (A : Option Addr) (q : List Stp) : Prop where
 row : RowG encQ 7 w A q
 each : ∀ s ∈ q, RowI w s.p s.l ∧ s.l.length ≤ maxLen ∧ (s.p = none → s.n = 0)
theorem Stps.below {w w' : World} {A : Option Addr} {q : List Stp} (h : Stps w A q) (k : Below w.heap.size w w') : Stps w' A q := ⟨h.row.below k, fun s hs => ⟨(h.each s hs).1.below k, (h.each s hs).2⟩⟩
theorem Stps.gr {w w' : World} {A : Option Addr} {q : List Stp} (h : Stps w A q) (k : Gr w w') : Stps w' A q := h.below k.below
theorem Stps.at {w : World} {A : Option Addr} {q : List Stp} (h : Stps w A q) {j : Nat} (hj : j < q.length) : ∃ b off, A = some ⟨b, off, none⟩ ∧ b < w.heap.size ∧ ∀ i, i < 7 → w.cell? ⟨b, off + j * 7 + i, none⟩ = (encQ q[j])[i]? := by
 obtain ⟨b, off, hA, hb, hc⟩ := h.row.at hj
 exact ⟨b, off, hA, hb, fun i hi => hc j hj i hi⟩
/-- The widths of all steps, behind those of widths ah; none, if one may not stand there. -/
def widsF : List Stp → List Int → Option (List Int)
 | [], ah => some ah
 | s :: t, ah => if widW s ah = 0 then none else widsF t (ah ++ [widW s ah])
/-- What Check answers. -/
def errQ (q : List Stp) : Int := if q.length = 0 then 1 else if 8 < q.length then 2 else if (widsF q []).isSome = true then 0 else 1
/-- The widths that it finds. -/
def widsL (q : List Stp) : List Int := if errQ q = 0 then (widsF q []).getD [] else []
theorem getD_b {l : List Int} (h : ∀ x ∈ l, 0 ≤ x ∧ x ≤ 8) (k : Nat) : 0 ≤ l.getD k 0 ∧ l.getD k 0 ≤ 8 := by
 rw [List.getD_eq_getElem?_getD]
 cases e : l[k]? with
 | none => simp
 | some x => exact h x (List.mem_of_getElem? e)
theorem oneW_b (s : Stp) {a : Int} (h : 0 ≤ a ∧ a ≤ 8) : 0 ≤ oneW s a ∧ oneW s a ≤ 8 := by
 unfold oneW
 repeat' split
 all_goals first | omega | skip
 rename_i h1
 simp at h1
 omega
theorem twoW_b (s : Stp) {a b : Int} (h : 0 ≤ a ∧ a ≤ 8) (k : 0 ≤ b ∧ b ≤ 8) : 0 ≤ twoW s a b ∧ twoW s a b ≤ 8 := by
 unfold twoW
 repeat' split
 all_goals first | omega | skip
 rename_i h1
 simp at h1
 omega
theorem widW_b (s : Stp) {ah : List Int} (h : ∀ x ∈ ah, 0 ≤ x ∧ x ≤ 8) : 0 ≤ widW s ah ∧ widW s ah ≤ 8 := by
 have h1 := oneW_b s (getD_b h s.a.toNat)
 have h2 := twoW_b s (getD_b h s.a.toNat) (getD_b h s.b.toNat)
 unfold widW
 repeat' split
 all_goals omega

set_option maxRecDepth 100000 in
set_option maxHeartbeats 4000000 in
theorem widths_any (q : List Stp) (A : Option Addr) (ca : Nat) (w : World) (hl : q.length ≤ maxLen) (hq : Stps w A q) :
  Calls Tryz.prog 50 #[.slice A q.length ca] w fun e w' => ∃ (C : Option Addr) (c : Nat), e = .returned (.tuple #[.slice C (widsL q).length c, .int .i64 (errQ q)]) ∧ RowI w' C (widsL q) ∧ (C = none → c = 0) ∧ Below w.heap.size w w' := by
 unfold maxLen at hl
 by_cases h0 : q.length = 0
 ·have e1 : Hid (errQ q = 1 ∧ widsL q = []) := by
   have e : errQ q = 1 := by unfold errQ; rw [if_pos h0]
   exact ⟨e, by unfold widsL; rw [e, if_neg (by decide)]⟩
  have h0z : ((q.length : Int) == 0) = true := by rw [h0]; rfl
  clear h0
  go_enter Tryz.func50, Tryz.ntmps50
  go_wp2
  go_ret2
  exact ⟨none, 0, by rw [e1.out.1, e1.out.2]; rfl, by rw [e1.out.2]; exact Or.inl rfl, fun _ => rfl, Below.refl _ _⟩
 have h0z : ((q.length : Int) == 0) = false := beq_eq_false_iff_ne.2 (by omega)
 by_cases h8 : 8 < q.length
 ·have e1 : Hid (errQ q = 2 ∧ widsL q = []) := by
   have e : errQ q = 2 := by unfold errQ; rw [if_neg h0, if_pos h8]
   exact ⟨e, by unfold widsL; rw [e, if_neg (by decide)]⟩
  have h8z : (8 : Int) < (q.length : Int) := by omega
  clear h0
  go_enter Tryz.func50, Tryz.ntmps50
  go_wp2
  go_ret2
  exact ⟨none, 0, by rw [e1.out.1, e1.out.2]; rfl, by rw [e1.out.2]; exact Or.inl rfl, fun _ => rfl, Below.refl _ _⟩
 have h8z : ¬ (8 : Int) < (q.length : Int) := by omega
 have herr : Hid (errQ q = if (widsF q []).isSome = true then 0 else 1) := by show _ = _; unfold errQ; rw [if_neg h0, if_neg h8]
 have hqH : Hid (Stps w A q) := hq
 clear hq h0
 go_enter Tryz.func50, Tryz.ntmps50
 go_wp2
 go_loopw [4, 16] (fun v i wr => ∃ (j : Nat) (ah : List Int), j ≤ q.length ∧ i = .int .i64 j ∧ Hid (ah.length = j ∧ (∀ x ∈ ah, 0 ≤ x ∧ x ≤ 8) ∧ widsF q [] = widsF (q.drop j) ah) ∧ Hid (OwnI wr w.heap.size v ah ∧ Below w.heap.size w wr)) (fun _ i _ => q.length - (intOf i).toNat)
 case atStart => exact ⟨0, [], by omega, rfl, ⟨rfl, (fun x hx => by cases hx), by simp⟩, OwnG.nil _ _ _ _ _, Below.refl _ _⟩
 case round =>
  obtain ⟨j, ah, hj, rfl, hfo, hov⟩ := hrel
  by_cases hlt : j < q.length
  ·have hltz : (j : Int) < (q.length : Int) := by omega
   have hI : Hid (Stps wr A q) := hqH.out.below hov.out.2
   obtain ⟨bb, off, rfl, hb, hcs⟩ := hI.out.at hlt
   obtain ⟨s, hs⟩ : ∃ s, q[j] = s := ⟨_, rfl⟩
   have hsr := hI.out.each s (by rw [← hs]; exact List.getElem_mem hlt)
   rw [hs] at hcs
   have m0 : wr.cell? ⟨bb, off + j * 7, none⟩ = some (.int .i64 s.k) := hcs 0 (by omega)
   have m1 : wr.cell? ⟨bb, off + j * 7 + 1, none⟩ = some (.int .i64 s.a) := hcs 1 (by omega)
   have m2 : wr.cell? ⟨bb, off + j * 7 + 2, none⟩ = some (.int .i64 s.b) := hcs 2 (by omega)
   have m3 : wr.cell? ⟨bb, off + j * 7 + 3, none⟩ = some (.int .i64 s.c) := hcs 3 (by omega)
   have m4 : wr.cell? ⟨bb, off + j * 7 + 4, none⟩ = some (.int .i64 s.o) := hcs 4 (by omega)
   have m5 : wr.cell? ⟨bb, off + j * 7 + 5, none⟩ = some (.int .i64 s.v) := hcs 5 (by omega)
   have m6 : wr.cell? ⟨bb, off + j * 7 + 6, none⟩ = some (.slice s.p s.l.length s.n) := hcs 6 (by omega)
   have hstep : Hid (widsF q [] = if widW s ah = 0 then none else widsF (q.drop (j + 1)) (ah ++ [widW s ah])) := by
    show _ = _
    rw [hfo.out.2.2, List.drop_eq_getElem_cons hlt, hs]
    rfl
   have hwb := widW_b s hfo.out.2.1
   obtain ⟨G, gc, rfl, hG, hrow, hlt4⟩ := OwnG.row encI_len hov.out.1
   have hg0 : Gr wr (wr.alloc (.cells #[.int .i64 s.k, .int .i64 s.a, .int .i64 s.b, .int .i64 s.c, .int .i64 s.o, .int .i64 s.v, .slice s.p s.l.length s.n] 30)) := (Gr.refl wr).alloc _
   have c0 : (wr.alloc (.cells #[.int .i64 s.k, .int .i64 s.a, .int .i64 s.b, .int .i64 s.c, .int .i64 s.o, .int .i64 s.v, .slice s.p s.l.length s.n] 30)).cell? ⟨wr.heap.size, 0, none⟩ = some (.int .i64 s.k) := box1 (Gr.refl _) rfl
   have c1 : (wr.alloc (.cells #[.int .i64 s.k, .int .i64 s.a, .int .i64 s.b, .int .i64 s.c, .int .i64 s.o, .int .i64 s.v, .slice s.p s.l.length s.n] 30)).cell? ⟨wr.heap.size, 1, none⟩ = some (.int .i64 s.a) := box1 (Gr.refl _) rfl
   have c2 : (wr.alloc (.cells #[.int .i64 s.k, .int .i64 s.a, .int .i64 s.b, .int .i64 s.c, .int .i64 s.o, .int .i64 s.v, .slice s.p s.l.length s.n] 30)).cell? ⟨wr.heap.size, 2, none⟩ = some (.int .i64 s.b) := box1 (Gr.refl _) rfl
   have c3 : (wr.alloc (.cells #[.int .i64 s.k, .int .i64 s.a, .int .i64 s.b, .int .i64 s.c, .int .i64 s.o, .int .i64 s.v, .slice s.p s.l.length s.n] 30)).cell? ⟨wr.heap.size, 3, none⟩ = some (.int .i64 s.c) := box1 (Gr.refl _) rfl
   have c4 : (wr.alloc (.cells #[.int .i64 s.k, .int .i64 s.a, .int .i64 s.b, .int .i64 s.c, .int .i64 s.o, .int .i64 s.v, .slice s.p s.l.length s.n] 30)).cell? ⟨wr.heap.size, 4, none⟩ = some (.int .i64 s.o) := box1 (Gr.refl _) rfl
   have c5 : (wr.alloc (.cells #[.int .i64 s.k, .int .i64 s.a, .int .i64 s.b, .int .i64 s.c, .int .i64 s.o, .int .i64 s.v, .slice s.p s.l.length s.n] 30)).cell? ⟨wr.heap.size, 5, none⟩ = some (.int .i64 s.v) := box1 (Gr.refl _) rfl
   have c6 : (wr.alloc (.cells #[.int .i64 s.k, .int .i64 s.a, .int .i64 s.b, .int .i64 s.c, .int .i64 s.o, .int .i64 s.v, .slice s.p s.l.length s.n] 30)).cell? ⟨wr.heap.size, 6, none⟩ = some (.slice s.p s.l.length s.n) := box1 (Gr.refl _) rfl
   have hwd := width_any s ah G gc (wr.alloc (.cells #[.int .i64 s.k, .int .i64 s.a, .int .i64 s.b, .int .i64 s.c, .int .i64 s.o, .int .i64 s.v, .slice s.p s.l.length s.n] 30)) hsr.2.1 (hsr.1.gr hg0) (hrow.gr hg0) hfo.out.2.1
   obtain ⟨n, hn⟩ : ∃ n, widW s ah = n := ⟨_, rfl⟩
   rw [hn] at hwd hstep hwb
   have hwdH : Hid _ := hwd
   clear hcs hs hwd hsr
   go_wp2_with fail
   refine Calls.mono (show Calls _ _ _ _ _ from hwdH.out) ?_
   rintro e w1 ⟨rfl, hg1⟩
   clear hwdH c0 c1 c2 c3 c4 c5 c6 m0 m1 m2 m3 m4 m5 m6
   have hgw : Hid (Gr wr w1) := hg0.trans hg1
   clear hg0 hg1
   by_cases hn0 : n = 0
   ·have e1 : Hid (errQ q = 1 ∧ widsL q = []) := by
     have e : errQ q = 1 := by rw [herr.out, hstep.out, if_pos hn0]; rfl
     exact ⟨e, by unfold widsL; rw [e, if_neg (by decide)]⟩
    have hbF : Hid (Below w.heap.size w w1) := hov.out.2.trans (hgw.out.below.mono hov.out.2.size)
    subst hn0
    go_wp2
    go_ret2
    exact ⟨none, 0, by rw [e1.out.1, e1.out.2]; rfl, by rw [e1.out.2]; exact Or.inl rfl, fun _ => rfl, hbF.out⟩
   ·have hnb : (n == 0) = false := beq_eq_false_iff_ne.2 hn0
    have hoX : Hid (OwnI (w1.alloc (.cells #[.int .i64 n] 3)) w.heap.size (.slice G ah.length gc) ah ∧ RowI (w1.alloc (.cells #[.int .i64 n] 3)) (some ⟨w1.heap.size, 0, none⟩) [n] ∧ ah.length + 1 ≤ maxLen ∧ (ah.length + 1) * 8 ≤ 140737488355328 ∧ Below w.heap.size w (w1.alloc (.cells #[.int .i64 n] 3))) := by
     have h1 := hfo.out.1
     have hg2 : Gr wr (w1.alloc (.cells #[.int .i64 n] 3)) := hgw.out.alloc _
     exact ⟨hov.out.1.gr hg2, rowNewI rfl n 3, by unfold maxLen; omega, by omega, hov.out.2.trans (hg2.below.mono hov.out.2.size)⟩
    have hnext : Hid ((ah ++ [n]).length = j + 1 ∧ (∀ x ∈ ah ++ [n], 0 ≤ x ∧ x ≤ 8) ∧ widsF q [] = widsF (q.drop (j + 1)) (ah ++ [n])) := by
     refine ⟨by simp [hfo.out.1], fun x hx => ?_, by rw [hstep.out, if_neg hn0]⟩
     rcases List.mem_append.1 hx with k | k
     ·exact hfo.out.2.1 x k
     ·rw [List.mem_singleton.1 k]; exact hwb
    clear hn0 hov hrow hG hlt4
    go_wp2_with (at_builtin; refine wpList_append_i _ rfl (.tmp 25) (.tmp 27) rfl w.heap.size (.slice G ah.length gc) ah [n] (some ⟨w1.heap.size, 0, none⟩) 1 rfl rfl hoX.out.1 hoX.out.2.1 (fun h => by cases h) hoX.out.2.2.1 hoX.out.2.2.2.1 hoX.out.2.2.2.2.size ?_; intro v7 w7 hown7 hg7)
    have hfin7 : Hid (OwnI w7 w.heap.size v7 (ah ++ [n]) ∧ Below w.heap.size w w7) := ⟨hown7, hoX.out.2.2.2.2.trans (OwnG.grown_below hoX.out.1 hg7 hoX.out.2.2.2.2.size)⟩
    clear hown7 hg7 hoX
    go_roundw
    case rel => exact ⟨j + 1, ah ++ [n], by omega, by go_num, hnext, hfin7⟩
    case measure => simp [intOf]; omega
  ·have hltz : ¬ (j : Int) < (q.length : Int) := by omega
   have hfin : Hid (errQ q = 0 ∧ widsL q = ah) := by
    have h1 := hfo.out.2.2
    rw [List.drop_eq_nil_of_le (by omega)] at h1
    have e : errQ q = 0 := by rw [herr.out, h1]; rfl
    exact ⟨e, by unfold widsL; rw [if_pos e, h1]; rfl⟩
   obtain ⟨G, gc, rfl, hG, hrow, hlt4⟩ := OwnG.row encI_len hov.out.1
   have hfin2 : Hid (RowI wr G ah ∧ (G = none → gc = 0) ∧ Below w.heap.size w wr) := ⟨hrow, hG, hov.out.2⟩
   clear hrow hG hlt4 hov
   go_wp2
   go_ret2
   exact ⟨G, gc, by rw [hfin.out.1, hfin.out.2]; rfl, by rw [hfin.out.2]; exact hfin2.out.1, hfin2.out.2.1, hfin2.out.2.2⟩

end Go.Proofs.YtmoicbmhjmdgdaaGreat
