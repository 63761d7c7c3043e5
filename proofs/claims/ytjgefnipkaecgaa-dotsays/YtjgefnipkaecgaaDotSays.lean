/-
  The law DotSays, walked: it answers true whatever context, dot, list and number are handed in.
-/
import Derived.Test.YtjgefnipkaecgaaPackMath
import Derived.Test.YtjgefnipkaecgaaAt
import Derived.Test.YtjgefnipkaecgaaRContext
import Derived.Test.YtjgefnipkaecgaaRNext
import Derived.Test.YtjgefnipkaecgaaAnyBad
import Derived.Test.YtjgefnipkaecgaaSame
import Derived.Test.YtjgefnipkaecgaaHas
import Derived.Test.YtjgefnipkaecgaaNext
import Derived.Test.YtjgefnipkaecgaaGs
import Derived.Deep.DeepCutAuto
namespace Go.Proofs.Ytjgefnipkaecgaa
open Go.RowKit Go.Sort

theorem rhas_G {c : Ctx} {A : Option Addr} {cap : Nat} {x y : Int} {r : Bool} {W : World} (hx : hasB c (x, y) = r) (hl : c.l.length ≤ maxLen) (hr : Row W A c.l) (n : Nat) (os : Array Obj) :
    Calls Try.prog 18 #[.agg #[.int .i64 c.c0, .int .i64 c.c1, .int .i64 c.c2, .int .i64 c.c3, .slice A c.l.length cap], .agg #[.int .i64 x, .int .i64 y]] (grow (W.drewN n) os) fun e w'' => e = .returned (.bool r) ∧ ∃ p : GrownBy, w'' = grow (W.drewN p.n) p.os := by
  rw [← hx]; exact toG n os (rhas_any c A cap (x, y) _ hl (hr.gr (grG W n os)))

set_option maxHeartbeats 8000000 in
theorem dotSays_any (c : Ctx) (A : Option Addr) (cap : Nat) (x y : Int) (l : List (Int × Int)) (L : Option Addr) (lp : Nat) (n : Int) (w : World) (hcl : c.l.length ≤ maxLen) (hll : l.length ≤ maxLen) (hrc : Row w A c.l) (hrl : Row w L l) (hL : L = none → lp = 0) :
    Calls Try.prog 3 #[.agg #[.int .i64 c.c0, .int .i64 c.c1, .int .i64 c.c2, .int .i64 c.c3, .slice A c.l.length cap], .agg #[.int .i64 x, .int .i64 y], .slice L l.length lp, .int .i64 n] w fun e w' => e = .returned (.bool true) ∧ Below w.heap.size w w' := by
  have hcM : Hid (c.l.length ≤ maxLen) := hcl
  have hlM : Hid (l.length ≤ maxLen) := hll
  unfold maxLen at hcl hll
  have hg0 : Gr w ((w.alloc (.cells #[.int .i64 c.c0, .int .i64 c.c1, .int .i64 c.c2, .int .i64 c.c3, .slice A c.l.length cap] 25)).alloc (.cells #[.int .i64 x, .int .i64 y] 27)) := ((Gr.refl w).alloc _).alloc _
  have hc0 : CtxAt ((w.alloc (.cells #[.int .i64 c.c0, .int .i64 c.c1, .int .i64 c.c2, .int .i64 c.c3, .slice A c.l.length cap] 25)).alloc (.cells #[.int .i64 x, .int .i64 y] 27)) w.heap.size c A cap := (CtxAt.new 25 hrc rfl).gr ((Gr.refl _).alloc _)
  have hd0 : DotAt ((w.alloc (.cells #[.int .i64 c.c0, .int .i64 c.c1, .int .i64 c.c2, .int .i64 c.c3, .slice A c.l.length cap] 25)).alloc (.cells #[.int .i64 x, .int .i64 y] 27)) (w.heap.size + 1) x y := DotAt.new 27 (by simp)
  have mixed : Try.prog.follows .mixedOrders = true := by kernel_rfl
  go_enter Try.func3, Try.ntmps3
  go_wp2_with fail
  refine (rcontext_any c A cap _ hcM.out (hrc.gr hg0)).mono ?_
  rintro e w1 ⟨rfl, hg1⟩
  have hc1 := hc0.gr hg1
  have hd1 := hd0.gr hg1
  have hb1 := (hg0.trans hg1).below
  clear hc0 hd0 hg1 hg0
  go_wp2_with fail
  refine (make_any l L lp w1 hlM.out hL (hrl.below hb1)).mono ?_
  rintro e w2 ⟨C1, cp1, rfl, hrow1, hC1, hCb1, hb2⟩
  have hc2 := hc1.below hb2
  have hd2 := hd1.below hb2
  have hs1 := hb1.size
  have hb2' : Below w.heap.size w w2 := hb1.trans (hb2.mono hs1)
  clear hc1 hd1 hb1 hb2
  obtain ⟨M, hM⟩ : ∃ M, makeC l = M := ⟨_, rfl⟩
  obtain ⟨g, hg⟩ : ∃ g, makeE l = g := ⟨_, rfl⟩
  rw [hM] at hrow1 ⊢
  rw [hg]
  have HM : Hid (makeC l = M ∧ makeE l = g) := ⟨hM, hg⟩
  clear hM hg
  have hg2 : Gr w2 ((w2.alloc (.cells #[.int .i64 M.c0, .int .i64 M.c1, .int .i64 M.c2, .int .i64 M.c3, .slice C1 M.l.length cp1] 25)).alloc (.cells #[.int .i64 0, .int .i64 0, .int .i64 0, .int .i64 0, .slice none 0 0] 25)) := ((Gr.refl _).alloc _).alloc _
  have hc3 := hc2.gr hg2
  have hd3 := hd2.gr hg2
  have ha3 : CtxAt ((w2.alloc (.cells #[.int .i64 M.c0, .int .i64 M.c1, .int .i64 M.c2, .int .i64 M.c3, .slice C1 M.l.length cp1] 25)).alloc (.cells #[.int .i64 0, .int .i64 0, .int .i64 0, .int .i64 0, .slice none 0 0] 25)) w2.heap.size M C1 cp1 := (CtxAt.new 25 hrow1 rfl).gr ((Gr.refl _).alloc _)
  have hz3 : CtxAt ((w2.alloc (.cells #[.int .i64 M.c0, .int .i64 M.c1, .int .i64 M.c2, .int .i64 M.c3, .slice C1 M.l.length cp1] 25)).alloc (.cells #[.int .i64 0, .int .i64 0, .int .i64 0, .int .i64 0, .slice none 0 0] 25)) (w2.heap.size + 1) zeroC none 0 := CtxAt.new (c := zeroC) (A := none) (cap := 0) 25 (Or.inl rfl) (by simp)
  have hb3 : Below w.heap.size w ((w2.alloc (.cells #[.int .i64 M.c0, .int .i64 M.c1, .int .i64 M.c2, .int .i64 M.c3, .slice C1 M.l.length cp1] 25)).alloc (.cells #[.int .i64 0, .int .i64 0, .int .i64 0, .int .i64 0, .slice none 0 0] 25)) := hb2'.trans (hg2.below.mono hb2'.size)
  by_cases h400 : 400 < l.length
  · have h400z : (400 : Int) < (l.length : Int) := by omega
    have hMz : M = zeroC ∧ g = 2 := by
      have h2 : makeE l = 2 := by simp [makeE, h400]
      exact ⟨by rw [← HM.out.1]; simp [makeC, h2], by rw [← HM.out.2, h2]⟩
    obtain ⟨hM0, rfl⟩ := hMz
    rw [← hM0] at hz3
    have hMlen : M.l.length ≤ maxLen := by rw [hM0]; simp [zeroC]
    clear hM0
    go_upto_region 10 with fail
    generalize (w2.alloc (.cells #[.int .i64 M.c0, .int .i64 M.c1, .int .i64 M.c2, .int .i64 M.c3, .slice C1 M.l.length cp1] 25)).alloc (.cells #[.int .i64 0, .int .i64 0, .int .i64 0, .int .i64 0, .slice none 0 0] 25) = W at hc3 hd3 ha3 hz3 hb3 ⊢
    obtain ⟨C2, cp2, hz3'⟩ : ∃ C2 cp2, CtxAt W (w2.heap.size + 1) M C2 cp2 := ⟨_, _, hz3⟩
    have hcW := hc3
    have hdW := hd3
    have haW := ha3
    have hzW := hz3'
    have hbW := hb3
    clear hc3 hd3 ha3 hz3 hz3' hb3 hg2 hc2 hd2 hrow1
    have hbH : Hid (Below w.heap.size w W) := hbW
    have hML : Hid (M.l.length ≤ maxLen) := hMlen
    clear hbW hMlen
    have hgN : Gr W (W.alloc (.cells #[.int .i64 0, .int .i64 0] 27)) := (Gr.refl _).alloc _
    have hc4 := hcW.gr hgN
    have hd4 := hdW.gr hgN
    have ha4 := haW.gr hgN
    have hz4 := hzW.gr hgN
    have hn4 : DotAt (W.alloc (.cells #[.int .i64 0, .int .i64 0] 27)) W.heap.size 0 0 := DotAt.new 27 rfl
    have hb4 : Hid (Below w.heap.size w (W.alloc (.cells #[.int .i64 0, .int .i64 0] 27))) := hbH.out.trans (hgN.below.mono hbH.out.size)
    obtain ⟨q0, q1, q2, q3, q4, qlt, qrow⟩ := (show CtxAt _ _ _ _ _ from hc4)
    by_cases he : errC c = 0
    · have heb : (errC c == 0) = true := by simpa using he
      have heH : Hid (errC c = 0) := he
      clear he
      cases hin : inB n 0 3
      · have hNA : Hid (nextA c n = ((0, 0), 1)) := by show nextA c n = _; simp [nextA, heH.out, hin]
        go_wp2_with (go_at_call 13; refine (in_no hin _).mono ?_; rintro e w' ⟨rfl, rfl⟩)
        refine (next_any c A cap n _ hcM.out hc4.row).mono ?_
        rintro e w5 ⟨rfl, hg5⟩
        rw [hNA.out]
        have hgX : Gr w5 (w5.alloc (.cells #[.int .i64 0, .int .i64 0] 27)) := (Gr.refl _).alloc _
        have hc6 := (hc4.gr hg5).gr hgX
        have hd6 := (hd4.gr hg5).gr hgX
        have ha6 := (ha4.gr hg5).gr hgX
        have hz6 := (hz4.gr hg5).gr hgX
        have hn6 := (hn4.gr hg5).gr hgX
        have hx6 : DotAt (w5.alloc (.cells #[.int .i64 0, .int .i64 0] 27)) w5.heap.size 0 0 := DotAt.new 27 rfl
        have hb6 : Below w.heap.size w (w5.alloc (.cells #[.int .i64 0, .int .i64 0] 27)) := hb4.out.trans ((hg5.trans hgX).below.mono hb4.out.size)
        clear hc4 hd4 ha4 hz4 hn4 hg5 hgX q0 q1 q2 q3 q4 qlt qrow
        go_upto_region 17 with fail
        generalize w5.alloc (.cells #[.int .i64 0, .int .i64 0] 27) = X at hc6 hd6 ha6 hz6 hn6 hx6 hb6 ⊢
        obtain ⟨p0, p1, p2, p3, p4⟩ := hc6.G
        obtain ⟨d0, d1⟩ := hd6.G
        obtain ⟨a0, a1, a2, a3, a4⟩ := ha6.G
        obtain ⟨z0, z1, z2, z3, z4⟩ := hz6.G
        obtain ⟨n0, n1⟩ := hn6.G
        obtain ⟨x0, x1⟩ := hx6.G
        have hrC := hc6.row
        have hrA := ha6.row
        have hrZ := hz6.row
        have hsm := sameB_self M
        obtain ⟨r, hr⟩ : ∃ r, hasB c (x, y) = r := ⟨_, rfl⟩
        have hE := eqDot
        have hG := guardDot
        have hEB := eqBool
        have hbF : Hid (Below w.heap.size w X) := hb6
        clear hc6 hd6 ha6 hz6 hn6 hx6 hb6
        refine wp_region_quiet_grown mixed (by kernel_rfl) ?_
        repeat (go_big_quiet_step (first | (go_at_call 16; exact check_G hcM.out hrC _ _) | (go_at_call 17; exact has_G hr hcM.out hrC _ _) | (go_at_call 18; exact rhas_G hr hcM.out hrC _ _) | (go_at_call 19; exact same_G hsm hML.out hML.out hrA hrZ _ _)))
        refine wpQuiet_nil ?_
        rintro _ ⟨⟨nq, osq⟩, rfl⟩
        go_wp2
        go_ret
        exact ⟨rfl, hbF.out.trans ((Gr.below ⟨nq, osq, rfl⟩).mono hbF.out.size)⟩
      · obtain ⟨nx, ny, hnd⟩ : ∃ nx ny, nextD c n = (nx, ny) := ⟨_, _, rfl⟩
        obtain ⟨ne, hne⟩ : ∃ ne, nextE c n = ne := ⟨_, rfl⟩
        have hNA : Hid (nextA c n = ((nx, ny), ne)) := by show nextA c n = _; simp [nextA, heH.out, hin, hnd, hne]
        have hnn : 0 ≤ n ∧ n < 4 := by simp [inB] at hin; omega
        have hrn := rnext_any c A cap n (W.alloc (.cells #[.int .i64 0, .int .i64 0] 27)) hcM.out hc4.row (errC_okClk heH.out) hnn.1 hnn.2
        rw [hnd, hne] at hrn
        have hrnH : Hid _ := hrn
        have hnf : ∀ j, (W.alloc (.cells #[.int .i64 0, .int .i64 0] 27)).frozen? ⟨W.heap.size, j, none⟩ = false := fun j => box1f (Gr.refl _) j
        clear hrn hnd hne
        go_upto_region 16 with (first | (go_at_call 13; refine (in_yes hin _).mono ?_; rintro e w' ⟨rfl, rfl⟩) | (go_at_call 14; refine Calls.mono (show Calls _ _ _ _ _ from hrnH.out) ?_; rintro e w4 ⟨rfl, hg4⟩; have m0 := (hn4.gr hg4).k0; have m1 := (hn4.gr hg4).k1; have mf := fun j => (hg4.below.frozen (p := ⟨W.heap.size, j, none⟩) hn4.lt).trans (hnf j)))
        have hneC : w.heap.size ≠ W.heap.size := Nat.ne_of_lt hcW.lt
        have hneD : w.heap.size + 1 ≠ W.heap.size := Nat.ne_of_lt hdW.lt
        have hneA : w2.heap.size ≠ W.heap.size := Nat.ne_of_lt haW.lt
        have hneZ : w2.heap.size + 1 ≠ W.heap.size := Nat.ne_of_lt hzW.lt
        have hlC := fun a ha hl => Nat.ne_of_lt (hcW.row.lt a ha hl)
        have hlA := fun a ha hl => Nat.ne_of_lt (haW.row.lt a ha hl)
        have hlZ := fun a ha hl => Nat.ne_of_lt (hzW.row.lt a ha hl)
        have hc5 : CtxAt ((w4.setCell ⟨W.heap.size, 0, none⟩ (.int .i64 nx)).setCell ⟨W.heap.size, 1, none⟩ (.int .i64 ny)) w.heap.size c A cap := ((hc4.gr hg4).other _ hneC hlC).other _ hneC hlC
        have hd5 : DotAt ((w4.setCell ⟨W.heap.size, 0, none⟩ (.int .i64 nx)).setCell ⟨W.heap.size, 1, none⟩ (.int .i64 ny)) (w.heap.size + 1) x y := ((hd4.gr hg4).other _ hneD).other _ hneD
        have ha5 : CtxAt ((w4.setCell ⟨W.heap.size, 0, none⟩ (.int .i64 nx)).setCell ⟨W.heap.size, 1, none⟩ (.int .i64 ny)) w2.heap.size M C1 cp1 := ((ha4.gr hg4).other _ hneA hlA).other _ hneA hlA
        have hz5 : CtxAt ((w4.setCell ⟨W.heap.size, 0, none⟩ (.int .i64 nx)).setCell ⟨W.heap.size, 1, none⟩ (.int .i64 ny)) (w2.heap.size + 1) M C2 cp2 := ((hz4.gr hg4).other _ hneZ hlZ).other _ hneZ hlZ
        have hn5 : DotAt ((w4.setCell ⟨W.heap.size, 0, none⟩ (.int .i64 nx)).setCell ⟨W.heap.size, 1, none⟩ (.int .i64 ny)) W.heap.size nx ny := (hn4.gr hg4).set
        have hb5 : Below w.heap.size w ((w4.setCell ⟨W.heap.size, 0, none⟩ (.int .i64 nx)).setCell ⟨W.heap.size, 1, none⟩ (.int .i64 ny)) := ((hb4.out.trans (hg4.below.mono hb4.out.size)).setCell (Nat.le_of_lt hcW.lt) _).setCell (Nat.le_of_lt hcW.lt) _
        clear hc4 hd4 ha4 hz4 hn4 hb4 q0 q1 q2 q3 q4 qlt qrow hneC hneD hneA hneZ hlC hlA hlZ m0 m1 mf hg4 hrnH hnf
        generalize ((w4.setCell ⟨W.heap.size, 0, none⟩ (.int .i64 nx)).setCell ⟨W.heap.size, 1, none⟩ (.int .i64 ny)) = V at hc5 hd5 ha5 hz5 hn5 hb5 ⊢
        have hc4 := hc5
        have hd4 := hd5
        have ha4 := ha5
        have hz4 := hz5
        have hn4 := hn5
        have hb4 : Hid (Below w.heap.size w V) := hb5
        clear hc5 hd5 ha5 hz5 hn5 hb5
        obtain ⟨q0, q1, q2, q3, q4, qlt, qrow⟩ := (show CtxAt _ _ _ _ _ from hc4)
        go_wp2_with fail
        refine (next_any c A cap n _ hcM.out hc4.row).mono ?_
        rintro e w5 ⟨rfl, hg5⟩
        rw [hNA.out]
        have hgX : Gr w5 (w5.alloc (.cells #[.int .i64 nx, .int .i64 ny] 27)) := (Gr.refl _).alloc _
        have hc6 := (hc4.gr hg5).gr hgX
        have hd6 := (hd4.gr hg5).gr hgX
        have ha6 := (ha4.gr hg5).gr hgX
        have hz6 := (hz4.gr hg5).gr hgX
        have hn6 := (hn4.gr hg5).gr hgX
        have hx6 : DotAt (w5.alloc (.cells #[.int .i64 nx, .int .i64 ny] 27)) w5.heap.size nx ny := DotAt.new 27 rfl
        have hb6 : Below w.heap.size w (w5.alloc (.cells #[.int .i64 nx, .int .i64 ny] 27)) := hb4.out.trans ((hg5.trans hgX).below.mono hb4.out.size)
        clear hc4 hd4 ha4 hz4 hn4 hg5 hgX q0 q1 q2 q3 q4 qlt qrow
        go_upto_region 17 with fail
        generalize w5.alloc (.cells #[.int .i64 nx, .int .i64 ny] 27) = X at hc6 hd6 ha6 hz6 hn6 hx6 hb6 ⊢
        obtain ⟨p0, p1, p2, p3, p4⟩ := hc6.G
        obtain ⟨d0, d1⟩ := hd6.G
        obtain ⟨a0, a1, a2, a3, a4⟩ := ha6.G
        obtain ⟨z0, z1, z2, z3, z4⟩ := hz6.G
        obtain ⟨n0, n1⟩ := hn6.G
        obtain ⟨x0, x1⟩ := hx6.G
        have hrC := hc6.row
        have hrA := ha6.row
        have hrZ := hz6.row
        have hsm := sameB_self M
        obtain ⟨r, hr⟩ : ∃ r, hasB c (x, y) = r := ⟨_, rfl⟩
        have hE := eqDot
        have hG := guardDot
        have hEB := eqBool
        have hbF : Hid (Below w.heap.size w X) := hb6
        clear hc6 hd6 ha6 hz6 hn6 hx6 hb6
        refine wp_region_quiet_grown mixed (by kernel_rfl) ?_
        repeat (go_big_quiet_step (first | (go_at_call 16; exact check_G hcM.out hrC _ _) | (go_at_call 17; exact has_G hr hcM.out hrC _ _) | (go_at_call 18; exact rhas_G hr hcM.out hrC _ _) | (go_at_call 19; exact same_G hsm hML.out hML.out hrA hrZ _ _)))
        refine wpQuiet_nil ?_
        rintro _ ⟨⟨nq, osq⟩, rfl⟩
        go_wp2
        go_ret
        exact ⟨rfl, hbF.out.trans ((Gr.below ⟨nq, osq, rfl⟩).mono hbF.out.size)⟩
    · have hNA : Hid (nextA c n = ((0, 0), errC c)) := by show nextA c n = _; simp [nextA, he]
      have heb : (errC c == 0) = false := by simpa using he
      clear he
      go_wp2_with fail
      refine (next_any c A cap n _ hcM.out hc4.row).mono ?_
      rintro e w5 ⟨rfl, hg5⟩
      rw [hNA.out]
      have hgX : Gr w5 (w5.alloc (.cells #[.int .i64 0, .int .i64 0] 27)) := (Gr.refl _).alloc _
      have hc6 := (hc4.gr hg5).gr hgX
      have hd6 := (hd4.gr hg5).gr hgX
      have ha6 := (ha4.gr hg5).gr hgX
      have hz6 := (hz4.gr hg5).gr hgX
      have hn6 := (hn4.gr hg5).gr hgX
      have hx6 : DotAt (w5.alloc (.cells #[.int .i64 0, .int .i64 0] 27)) w5.heap.size 0 0 := DotAt.new 27 rfl
      have hb6 : Below w.heap.size w (w5.alloc (.cells #[.int .i64 0, .int .i64 0] 27)) := hb4.out.trans ((hg5.trans hgX).below.mono hb4.out.size)
      clear hc4 hd4 ha4 hz4 hn4 hg5 hgX q0 q1 q2 q3 q4 qlt qrow
      go_upto_region 17 with fail
      generalize w5.alloc (.cells #[.int .i64 0, .int .i64 0] 27) = X at hc6 hd6 ha6 hz6 hn6 hx6 hb6 ⊢
      obtain ⟨p0, p1, p2, p3, p4⟩ := hc6.G
      obtain ⟨d0, d1⟩ := hd6.G
      obtain ⟨a0, a1, a2, a3, a4⟩ := ha6.G
      obtain ⟨z0, z1, z2, z3, z4⟩ := hz6.G
      obtain ⟨n0, n1⟩ := hn6.G
      obtain ⟨x0, x1⟩ := hx6.G
      have hrC := hc6.row
      have hrA := ha6.row
      have hrZ := hz6.row
      have hsm := sameB_self M
      obtain ⟨r, hr⟩ : ∃ r, hasB c (x, y) = r := ⟨_, rfl⟩
      have hE := eqDot
      have hG := guardDot
      have hEB := eqBool
      have hbF : Hid (Below w.heap.size w X) := hb6
      clear hc6 hd6 ha6 hz6 hn6 hx6 hb6
      refine wp_region_quiet_grown mixed (by kernel_rfl) ?_
      repeat (go_big_quiet_step (first | (go_at_call 16; exact check_G hcM.out hrC _ _) | (go_at_call 17; exact has_G hr hcM.out hrC _ _) | (go_at_call 18; exact rhas_G hr hcM.out hrC _ _) | (go_at_call 19; exact same_G hsm hML.out hML.out hrA hrZ _ _)))
      refine wpQuiet_nil ?_
      rintro _ ⟨⟨nq, osq⟩, rfl⟩
      go_wp2
      go_ret
      exact ⟨rfl, hbF.out.trans ((Gr.below ⟨nq, osq, rfl⟩).mono hbF.out.size)⟩
  · have h400z : ¬ (400 : Int) < (l.length : Int) := by omega
    have hcf := containsFunc_any l L lp ((w2.alloc (.cells #[.int .i64 M.c0, .int .i64 M.c1, .int .i64 M.c2, .int .i64 M.c3, .slice C1 M.l.length cp1] 25)).alloc (.cells #[.int .i64 0, .int .i64 0, .int .i64 0, .int .i64 0, .slice none 0 0] 25)) hlM.out (hrl.below hb3)
    cases hbad : badL l
    · have hall : Hid (∀ x ∈ l, rightB x = true) := badL_all hbad
      have hMz : M = foldS zeroC l ∧ g = 0 := by
        have h2 : makeE l = 0 := by simp [makeE, h400, hbad]
        exact ⟨by rw [← HM.out.1]; simp [makeC, h2], by rw [← HM.out.2, h2]⟩
      obtain ⟨hM0, rfl⟩ := hMz
      have hpk : packN l.length zeroC l = M := by rw [hM0]; exact pack_fold rfl hall.out
      have hMlen : M.l.length ≤ maxLen := by
        rw [hM0]
        have := foldTo_len zeroC (srt l) (srt l).length
        show (foldTo zeroC (srt l) (srt l).length).l.length ≤ maxLen
        rw [srt_length] at this ⊢
        have hz0 : zeroC.l.length = 0 := rfl
        unfold maxLen
        omega
      have hpkd := fun W hW => packed_any zeroC l L lp W rfl (by decide) (by omega) hall.out hW hL
      simp only [hpk] at hpkd
      have hpkH : Hid (∀ W, Row W L l → _) := hpkd
      clear hM0 hpk hpkd
      rw [hbad] at hcf
      have hcfH : Hid _ := hcf
      clear hcf
      have hzf : ∀ j, ((w2.alloc (.cells #[.int .i64 M.c0, .int .i64 M.c1, .int .i64 M.c2, .int .i64 M.c3, .slice C1 M.l.length cp1] 25)).alloc (.cells #[.int .i64 0, .int .i64 0, .int .i64 0, .int .i64 0, .slice none 0 0] 25)).frozen? ⟨w2.heap.size + 1, j, none⟩ = false := fun j => box2f (Gr.refl _) j
      go_upto_region 10 with (first | (go_at_call 9; refine Calls.mono (show Calls _ _ _ _ _ from hcfH.out) ?_; rintro e w3 ⟨rfl, hg3⟩; have hb3' := hb3.trans (hg3.below.mono hb3.size); have hpw := hpkH.out w3 (hrl.below hb3'); change Calls Try.prog 12 #[.agg #[.int .i64 0, .int .i64 0, .int .i64 0, .int .i64 0], .slice L l.length lp] w3 _ at hpw; have hpwH : Hid _ := hpw; clear hpw) | (go_at_call 12; refine Calls.mono (show Calls _ _ _ _ _ from hpwH.out) ?_; rintro e w4 ⟨C2, cp2, rfl, hrow4, hC4, hCb4, hb4x⟩; have hz4x := (hz3.gr hg3).below hb4x; obtain ⟨y0, y1, y2, y3, y4, ylt, yrow⟩ := (show CtxAt _ _ _ _ _ from hz4x); have yf := fun j => ((hb4x.frozen (p := ⟨w2.heap.size + 1, j, none⟩) (hz3.gr hg3).lt).trans (hg3.below.frozen (p := ⟨w2.heap.size + 1, j, none⟩) hz3.lt)).trans (hzf j)))
      have hC2n : ∀ a, C2 = some a → a.block ≠ w2.heap.size + 1 := fun a ha => by have := hCb4 a ha; have := (hz3.gr hg3).lt; omega
      have hzW : CtxAt (((((w4.setCell ⟨w2.heap.size + 1, 0, none⟩ (.int .i64 M.c0)).setCell ⟨w2.heap.size + 1, 1, none⟩ (.int .i64 M.c1)).setCell ⟨w2.heap.size + 1, 2, none⟩ (.int .i64 M.c2)).setCell ⟨w2.heap.size + 1, 3, none⟩ (.int .i64 M.c3)).setCell ⟨w2.heap.size + 1, 4, none⟩ (.slice C2 M.l.length cp2)) (w2.heap.size + 1) M C2 cp2 := hz4x.set hrow4 hC2n
      have hcW : CtxAt (((((w4.setCell ⟨w2.heap.size + 1, 0, none⟩ (.int .i64 M.c0)).setCell ⟨w2.heap.size + 1, 1, none⟩ (.int .i64 M.c1)).setCell ⟨w2.heap.size + 1, 2, none⟩ (.int .i64 M.c2)).setCell ⟨w2.heap.size + 1, 3, none⟩ (.int .i64 M.c3)).setCell ⟨w2.heap.size + 1, 4, none⟩ (.slice C2 M.l.length cp2)) w.heap.size c A cap := ((hc3.gr hg3).below hb4x).other5 _ _ _ _ _ (by have := hc2.lt; omega) (fun a ha hl => by have := hc2.row.lt a ha hl; omega)
      have hdW : DotAt (((((w4.setCell ⟨w2.heap.size + 1, 0, none⟩ (.int .i64 M.c0)).setCell ⟨w2.heap.size + 1, 1, none⟩ (.int .i64 M.c1)).setCell ⟨w2.heap.size + 1, 2, none⟩ (.int .i64 M.c2)).setCell ⟨w2.heap.size + 1, 3, none⟩ (.int .i64 M.c3)).setCell ⟨w2.heap.size + 1, 4, none⟩ (.slice C2 M.l.length cp2)) (w.heap.size + 1) x y := ((hd3.gr hg3).below hb4x).other5 _ _ _ _ _ (by have := hd2.lt; omega)
      have haW : CtxAt (((((w4.setCell ⟨w2.heap.size + 1, 0, none⟩ (.int .i64 M.c0)).setCell ⟨w2.heap.size + 1, 1, none⟩ (.int .i64 M.c1)).setCell ⟨w2.heap.size + 1, 2, none⟩ (.int .i64 M.c2)).setCell ⟨w2.heap.size + 1, 3, none⟩ (.int .i64 M.c3)).setCell ⟨w2.heap.size + 1, 4, none⟩ (.slice C2 M.l.length cp2)) w2.heap.size M C1 cp1 := ((ha3.gr hg3).below hb4x).other5 _ _ _ _ _ (by omega) (fun a ha hl => by have := hrow1.lt a ha hl; omega)
      have hbW : Below w.heap.size w (((((w4.setCell ⟨w2.heap.size + 1, 0, none⟩ (.int .i64 M.c0)).setCell ⟨w2.heap.size + 1, 1, none⟩ (.int .i64 M.c1)).setCell ⟨w2.heap.size + 1, 2, none⟩ (.int .i64 M.c2)).setCell ⟨w2.heap.size + 1, 3, none⟩ (.int .i64 M.c3)).setCell ⟨w2.heap.size + 1, 4, none⟩ (.slice C2 M.l.length cp2)) := below_set5 (hb3'.trans (hb4x.mono hb3'.size)) (by have := hb2'.size; omega) _ _ _ _ _
      generalize (((((w4.setCell ⟨w2.heap.size + 1, 0, none⟩ (.int .i64 M.c0)).setCell ⟨w2.heap.size + 1, 1, none⟩ (.int .i64 M.c1)).setCell ⟨w2.heap.size + 1, 2, none⟩ (.int .i64 M.c2)).setCell ⟨w2.heap.size + 1, 3, none⟩ (.int .i64 M.c3)).setCell ⟨w2.heap.size + 1, 4, none⟩ (.slice C2 M.l.length cp2)) = W at hcW hdW haW hzW hbW ⊢
      clear hc3 hd3 ha3 hz3 hb3 hg2 hc2 hd2 hrow1 hb3' hb4x hz4x y0 y1 y2 y3 y4 ylt yrow yf hg3 hpwH hpkH hcfH hrow4 hCb4 hC2n hzf
      have hbH : Hid (Below w.heap.size w W) := hbW
      have hML : Hid (M.l.length ≤ maxLen) := hMlen
      clear hbW hMlen
      have hgN : Gr W (W.alloc (.cells #[.int .i64 0, .int .i64 0] 27)) := (Gr.refl _).alloc _
      have hc4 := hcW.gr hgN
      have hd4 := hdW.gr hgN
      have ha4 := haW.gr hgN
      have hz4 := hzW.gr hgN
      have hn4 : DotAt (W.alloc (.cells #[.int .i64 0, .int .i64 0] 27)) W.heap.size 0 0 := DotAt.new 27 rfl
      have hb4 : Hid (Below w.heap.size w (W.alloc (.cells #[.int .i64 0, .int .i64 0] 27))) := hbH.out.trans (hgN.below.mono hbH.out.size)
      obtain ⟨q0, q1, q2, q3, q4, qlt, qrow⟩ := (show CtxAt _ _ _ _ _ from hc4)
      by_cases he : errC c = 0
      · have heb : (errC c == 0) = true := by simpa using he
        have heH : Hid (errC c = 0) := he
        clear he
        cases hin : inB n 0 3
        · have hNA : Hid (nextA c n = ((0, 0), 1)) := by show nextA c n = _; simp [nextA, heH.out, hin]
          go_wp2_with (go_at_call 13; refine (in_no hin _).mono ?_; rintro e w' ⟨rfl, rfl⟩)
          refine (next_any c A cap n _ hcM.out hc4.row).mono ?_
          rintro e w5 ⟨rfl, hg5⟩
          rw [hNA.out]
          have hgX : Gr w5 (w5.alloc (.cells #[.int .i64 0, .int .i64 0] 27)) := (Gr.refl _).alloc _
          have hc6 := (hc4.gr hg5).gr hgX
          have hd6 := (hd4.gr hg5).gr hgX
          have ha6 := (ha4.gr hg5).gr hgX
          have hz6 := (hz4.gr hg5).gr hgX
          have hn6 := (hn4.gr hg5).gr hgX
          have hx6 : DotAt (w5.alloc (.cells #[.int .i64 0, .int .i64 0] 27)) w5.heap.size 0 0 := DotAt.new 27 rfl
          have hb6 : Below w.heap.size w (w5.alloc (.cells #[.int .i64 0, .int .i64 0] 27)) := hb4.out.trans ((hg5.trans hgX).below.mono hb4.out.size)
          clear hc4 hd4 ha4 hz4 hn4 hg5 hgX q0 q1 q2 q3 q4 qlt qrow
          go_upto_region 17 with fail
          generalize w5.alloc (.cells #[.int .i64 0, .int .i64 0] 27) = X at hc6 hd6 ha6 hz6 hn6 hx6 hb6 ⊢
          obtain ⟨p0, p1, p2, p3, p4⟩ := hc6.G
          obtain ⟨d0, d1⟩ := hd6.G
          obtain ⟨a0, a1, a2, a3, a4⟩ := ha6.G
          obtain ⟨z0, z1, z2, z3, z4⟩ := hz6.G
          obtain ⟨n0, n1⟩ := hn6.G
          obtain ⟨x0, x1⟩ := hx6.G
          have hrC := hc6.row
          have hrA := ha6.row
          have hrZ := hz6.row
          have hsm := sameB_self M
          obtain ⟨r, hr⟩ : ∃ r, hasB c (x, y) = r := ⟨_, rfl⟩
          have hE := eqDot
          have hG := guardDot
          have hEB := eqBool
          have hbF : Hid (Below w.heap.size w X) := hb6
          clear hc6 hd6 ha6 hz6 hn6 hx6 hb6
          refine wp_region_quiet_grown mixed (by kernel_rfl) ?_
          repeat (go_big_quiet_step (first | (go_at_call 16; exact check_G hcM.out hrC _ _) | (go_at_call 17; exact has_G hr hcM.out hrC _ _) | (go_at_call 18; exact rhas_G hr hcM.out hrC _ _) | (go_at_call 19; exact same_G hsm hML.out hML.out hrA hrZ _ _)))
          refine wpQuiet_nil ?_
          rintro _ ⟨⟨nq, osq⟩, rfl⟩
          go_wp2
          go_ret
          exact ⟨rfl, hbF.out.trans ((Gr.below ⟨nq, osq, rfl⟩).mono hbF.out.size)⟩
        · obtain ⟨nx, ny, hnd⟩ : ∃ nx ny, nextD c n = (nx, ny) := ⟨_, _, rfl⟩
          obtain ⟨ne, hne⟩ : ∃ ne, nextE c n = ne := ⟨_, rfl⟩
          have hNA : Hid (nextA c n = ((nx, ny), ne)) := by show nextA c n = _; simp [nextA, heH.out, hin, hnd, hne]
          have hnn : 0 ≤ n ∧ n < 4 := by simp [inB] at hin; omega
          have hrn := rnext_any c A cap n (W.alloc (.cells #[.int .i64 0, .int .i64 0] 27)) hcM.out hc4.row (errC_okClk heH.out) hnn.1 hnn.2
          rw [hnd, hne] at hrn
          have hrnH : Hid _ := hrn
          have hnf : ∀ j, (W.alloc (.cells #[.int .i64 0, .int .i64 0] 27)).frozen? ⟨W.heap.size, j, none⟩ = false := fun j => box1f (Gr.refl _) j
          clear hrn hnd hne
          go_upto_region 16 with (first | (go_at_call 13; refine (in_yes hin _).mono ?_; rintro e w' ⟨rfl, rfl⟩) | (go_at_call 14; refine Calls.mono (show Calls _ _ _ _ _ from hrnH.out) ?_; rintro e w4 ⟨rfl, hg4⟩; have m0 := (hn4.gr hg4).k0; have m1 := (hn4.gr hg4).k1; have mf := fun j => (hg4.below.frozen (p := ⟨W.heap.size, j, none⟩) hn4.lt).trans (hnf j)))
          have hneC : w.heap.size ≠ W.heap.size := Nat.ne_of_lt hcW.lt
          have hneD : w.heap.size + 1 ≠ W.heap.size := Nat.ne_of_lt hdW.lt
          have hneA : w2.heap.size ≠ W.heap.size := Nat.ne_of_lt haW.lt
          have hneZ : w2.heap.size + 1 ≠ W.heap.size := Nat.ne_of_lt hzW.lt
          have hlC := fun a ha hl => Nat.ne_of_lt (hcW.row.lt a ha hl)
          have hlA := fun a ha hl => Nat.ne_of_lt (haW.row.lt a ha hl)
          have hlZ := fun a ha hl => Nat.ne_of_lt (hzW.row.lt a ha hl)
          have hc5 : CtxAt ((w4.setCell ⟨W.heap.size, 0, none⟩ (.int .i64 nx)).setCell ⟨W.heap.size, 1, none⟩ (.int .i64 ny)) w.heap.size c A cap := ((hc4.gr hg4).other _ hneC hlC).other _ hneC hlC
          have hd5 : DotAt ((w4.setCell ⟨W.heap.size, 0, none⟩ (.int .i64 nx)).setCell ⟨W.heap.size, 1, none⟩ (.int .i64 ny)) (w.heap.size + 1) x y := ((hd4.gr hg4).other _ hneD).other _ hneD
          have ha5 : CtxAt ((w4.setCell ⟨W.heap.size, 0, none⟩ (.int .i64 nx)).setCell ⟨W.heap.size, 1, none⟩ (.int .i64 ny)) w2.heap.size M C1 cp1 := ((ha4.gr hg4).other _ hneA hlA).other _ hneA hlA
          have hz5 : CtxAt ((w4.setCell ⟨W.heap.size, 0, none⟩ (.int .i64 nx)).setCell ⟨W.heap.size, 1, none⟩ (.int .i64 ny)) (w2.heap.size + 1) M C2 cp2 := ((hz4.gr hg4).other _ hneZ hlZ).other _ hneZ hlZ
          have hn5 : DotAt ((w4.setCell ⟨W.heap.size, 0, none⟩ (.int .i64 nx)).setCell ⟨W.heap.size, 1, none⟩ (.int .i64 ny)) W.heap.size nx ny := (hn4.gr hg4).set
          have hb5 : Below w.heap.size w ((w4.setCell ⟨W.heap.size, 0, none⟩ (.int .i64 nx)).setCell ⟨W.heap.size, 1, none⟩ (.int .i64 ny)) := ((hb4.out.trans (hg4.below.mono hb4.out.size)).setCell (Nat.le_of_lt hcW.lt) _).setCell (Nat.le_of_lt hcW.lt) _
          clear hc4 hd4 ha4 hz4 hn4 hb4 q0 q1 q2 q3 q4 qlt qrow hneC hneD hneA hneZ hlC hlA hlZ m0 m1 mf hg4 hrnH hnf
          generalize ((w4.setCell ⟨W.heap.size, 0, none⟩ (.int .i64 nx)).setCell ⟨W.heap.size, 1, none⟩ (.int .i64 ny)) = V at hc5 hd5 ha5 hz5 hn5 hb5 ⊢
          have hc4 := hc5
          have hd4 := hd5
          have ha4 := ha5
          have hz4 := hz5
          have hn4 := hn5
          have hb4 : Hid (Below w.heap.size w V) := hb5
          clear hc5 hd5 ha5 hz5 hn5 hb5
          obtain ⟨q0, q1, q2, q3, q4, qlt, qrow⟩ := (show CtxAt _ _ _ _ _ from hc4)
          go_wp2_with fail
          refine (next_any c A cap n _ hcM.out hc4.row).mono ?_
          rintro e w5 ⟨rfl, hg5⟩
          rw [hNA.out]
          have hgX : Gr w5 (w5.alloc (.cells #[.int .i64 nx, .int .i64 ny] 27)) := (Gr.refl _).alloc _
          have hc6 := (hc4.gr hg5).gr hgX
          have hd6 := (hd4.gr hg5).gr hgX
          have ha6 := (ha4.gr hg5).gr hgX
          have hz6 := (hz4.gr hg5).gr hgX
          have hn6 := (hn4.gr hg5).gr hgX
          have hx6 : DotAt (w5.alloc (.cells #[.int .i64 nx, .int .i64 ny] 27)) w5.heap.size nx ny := DotAt.new 27 rfl
          have hb6 : Below w.heap.size w (w5.alloc (.cells #[.int .i64 nx, .int .i64 ny] 27)) := hb4.out.trans ((hg5.trans hgX).below.mono hb4.out.size)
          clear hc4 hd4 ha4 hz4 hn4 hg5 hgX q0 q1 q2 q3 q4 qlt qrow
          go_upto_region 17 with fail
          generalize w5.alloc (.cells #[.int .i64 nx, .int .i64 ny] 27) = X at hc6 hd6 ha6 hz6 hn6 hx6 hb6 ⊢
          obtain ⟨p0, p1, p2, p3, p4⟩ := hc6.G
          obtain ⟨d0, d1⟩ := hd6.G
          obtain ⟨a0, a1, a2, a3, a4⟩ := ha6.G
          obtain ⟨z0, z1, z2, z3, z4⟩ := hz6.G
          obtain ⟨n0, n1⟩ := hn6.G
          obtain ⟨x0, x1⟩ := hx6.G
          have hrC := hc6.row
          have hrA := ha6.row
          have hrZ := hz6.row
          have hsm := sameB_self M
          obtain ⟨r, hr⟩ : ∃ r, hasB c (x, y) = r := ⟨_, rfl⟩
          have hE := eqDot
          have hG := guardDot
          have hEB := eqBool
          have hbF : Hid (Below w.heap.size w X) := hb6
          clear hc6 hd6 ha6 hz6 hn6 hx6 hb6
          refine wp_region_quiet_grown mixed (by kernel_rfl) ?_
          repeat (go_big_quiet_step (first | (go_at_call 16; exact check_G hcM.out hrC _ _) | (go_at_call 17; exact has_G hr hcM.out hrC _ _) | (go_at_call 18; exact rhas_G hr hcM.out hrC _ _) | (go_at_call 19; exact same_G hsm hML.out hML.out hrA hrZ _ _)))
          refine wpQuiet_nil ?_
          rintro _ ⟨⟨nq, osq⟩, rfl⟩
          go_wp2
          go_ret
          exact ⟨rfl, hbF.out.trans ((Gr.below ⟨nq, osq, rfl⟩).mono hbF.out.size)⟩
      · have hNA : Hid (nextA c n = ((0, 0), errC c)) := by show nextA c n = _; simp [nextA, he]
        have heb : (errC c == 0) = false := by simpa using he
        clear he
        go_wp2_with fail
        refine (next_any c A cap n _ hcM.out hc4.row).mono ?_
        rintro e w5 ⟨rfl, hg5⟩
        rw [hNA.out]
        have hgX : Gr w5 (w5.alloc (.cells #[.int .i64 0, .int .i64 0] 27)) := (Gr.refl _).alloc _
        have hc6 := (hc4.gr hg5).gr hgX
        have hd6 := (hd4.gr hg5).gr hgX
        have ha6 := (ha4.gr hg5).gr hgX
        have hz6 := (hz4.gr hg5).gr hgX
        have hn6 := (hn4.gr hg5).gr hgX
        have hx6 : DotAt (w5.alloc (.cells #[.int .i64 0, .int .i64 0] 27)) w5.heap.size 0 0 := DotAt.new 27 rfl
        have hb6 : Below w.heap.size w (w5.alloc (.cells #[.int .i64 0, .int .i64 0] 27)) := hb4.out.trans ((hg5.trans hgX).below.mono hb4.out.size)
        clear hc4 hd4 ha4 hz4 hn4 hg5 hgX q0 q1 q2 q3 q4 qlt qrow
        go_upto_region 17 with fail
        generalize w5.alloc (.cells #[.int .i64 0, .int .i64 0] 27) = X at hc6 hd6 ha6 hz6 hn6 hx6 hb6 ⊢
        obtain ⟨p0, p1, p2, p3, p4⟩ := hc6.G
        obtain ⟨d0, d1⟩ := hd6.G
        obtain ⟨a0, a1, a2, a3, a4⟩ := ha6.G
        obtain ⟨z0, z1, z2, z3, z4⟩ := hz6.G
        obtain ⟨n0, n1⟩ := hn6.G
        obtain ⟨x0, x1⟩ := hx6.G
        have hrC := hc6.row
        have hrA := ha6.row
        have hrZ := hz6.row
        have hsm := sameB_self M
        obtain ⟨r, hr⟩ : ∃ r, hasB c (x, y) = r := ⟨_, rfl⟩
        have hE := eqDot
        have hG := guardDot
        have hEB := eqBool
        have hbF : Hid (Below w.heap.size w X) := hb6
        clear hc6 hd6 ha6 hz6 hn6 hx6 hb6
        refine wp_region_quiet_grown mixed (by kernel_rfl) ?_
        repeat (go_big_quiet_step (first | (go_at_call 16; exact check_G hcM.out hrC _ _) | (go_at_call 17; exact has_G hr hcM.out hrC _ _) | (go_at_call 18; exact rhas_G hr hcM.out hrC _ _) | (go_at_call 19; exact same_G hsm hML.out hML.out hrA hrZ _ _)))
        refine wpQuiet_nil ?_
        rintro _ ⟨⟨nq, osq⟩, rfl⟩
        go_wp2
        go_ret
        exact ⟨rfl, hbF.out.trans ((Gr.below ⟨nq, osq, rfl⟩).mono hbF.out.size)⟩
    · have hMz : M = zeroC ∧ g = 5 := by
        have h2 : makeE l = 5 := by simp [makeE, h400, hbad]
        exact ⟨by rw [← HM.out.1]; simp [makeC, h2], by rw [← HM.out.2, h2]⟩
      obtain ⟨hM0, rfl⟩ := hMz
      rw [← hM0] at hz3
      have hMlen : M.l.length ≤ maxLen := by rw [hM0]; simp [zeroC]
      clear hM0
      rw [hbad] at hcf
      have hcfH : Hid _ := hcf
      clear hcf
      go_upto_region 10 with (go_at_call 9; refine Calls.mono (show Calls _ _ _ _ _ from hcfH.out) ?_; rintro e w3 ⟨rfl, hg3⟩)
      obtain ⟨C2, cp2, hzW⟩ : ∃ C2 cp2, CtxAt w3 (w2.heap.size + 1) M C2 cp2 := ⟨_, _, hz3.gr hg3⟩
      have hcW := hc3.gr hg3
      have hdW := hd3.gr hg3
      have haW := ha3.gr hg3
      have hbW : Below w.heap.size w w3 := hb3.trans (hg3.below.mono hb3.size)
      generalize w3 = W at hcW hdW haW hzW hbW ⊢
      clear hc3 hd3 ha3 hz3 hb3 hg2 hc2 hd2 hrow1 hcfH
      have hbH : Hid (Below w.heap.size w W) := hbW
      have hML : Hid (M.l.length ≤ maxLen) := hMlen
      clear hbW hMlen
      have hgN : Gr W (W.alloc (.cells #[.int .i64 0, .int .i64 0] 27)) := (Gr.refl _).alloc _
      have hc4 := hcW.gr hgN
      have hd4 := hdW.gr hgN
      have ha4 := haW.gr hgN
      have hz4 := hzW.gr hgN
      have hn4 : DotAt (W.alloc (.cells #[.int .i64 0, .int .i64 0] 27)) W.heap.size 0 0 := DotAt.new 27 rfl
      have hb4 : Hid (Below w.heap.size w (W.alloc (.cells #[.int .i64 0, .int .i64 0] 27))) := hbH.out.trans (hgN.below.mono hbH.out.size)
      obtain ⟨q0, q1, q2, q3, q4, qlt, qrow⟩ := (show CtxAt _ _ _ _ _ from hc4)
      by_cases he : errC c = 0
      · have heb : (errC c == 0) = true := by simpa using he
        have heH : Hid (errC c = 0) := he
        clear he
        cases hin : inB n 0 3
        · have hNA : Hid (nextA c n = ((0, 0), 1)) := by show nextA c n = _; simp [nextA, heH.out, hin]
          go_wp2_with (go_at_call 13; refine (in_no hin _).mono ?_; rintro e w' ⟨rfl, rfl⟩)
          refine (next_any c A cap n _ hcM.out hc4.row).mono ?_
          rintro e w5 ⟨rfl, hg5⟩
          rw [hNA.out]
          have hgX : Gr w5 (w5.alloc (.cells #[.int .i64 0, .int .i64 0] 27)) := (Gr.refl _).alloc _
          have hc6 := (hc4.gr hg5).gr hgX
          have hd6 := (hd4.gr hg5).gr hgX
          have ha6 := (ha4.gr hg5).gr hgX
          have hz6 := (hz4.gr hg5).gr hgX
          have hn6 := (hn4.gr hg5).gr hgX
          have hx6 : DotAt (w5.alloc (.cells #[.int .i64 0, .int .i64 0] 27)) w5.heap.size 0 0 := DotAt.new 27 rfl
          have hb6 : Below w.heap.size w (w5.alloc (.cells #[.int .i64 0, .int .i64 0] 27)) := hb4.out.trans ((hg5.trans hgX).below.mono hb4.out.size)
          clear hc4 hd4 ha4 hz4 hn4 hg5 hgX q0 q1 q2 q3 q4 qlt qrow
          go_upto_region 17 with fail
          generalize w5.alloc (.cells #[.int .i64 0, .int .i64 0] 27) = X at hc6 hd6 ha6 hz6 hn6 hx6 hb6 ⊢
          obtain ⟨p0, p1, p2, p3, p4⟩ := hc6.G
          obtain ⟨d0, d1⟩ := hd6.G
          obtain ⟨a0, a1, a2, a3, a4⟩ := ha6.G
          obtain ⟨z0, z1, z2, z3, z4⟩ := hz6.G
          obtain ⟨n0, n1⟩ := hn6.G
          obtain ⟨x0, x1⟩ := hx6.G
          have hrC := hc6.row
          have hrA := ha6.row
          have hrZ := hz6.row
          have hsm := sameB_self M
          obtain ⟨r, hr⟩ : ∃ r, hasB c (x, y) = r := ⟨_, rfl⟩
          have hE := eqDot
          have hG := guardDot
          have hEB := eqBool
          have hbF : Hid (Below w.heap.size w X) := hb6
          clear hc6 hd6 ha6 hz6 hn6 hx6 hb6
          refine wp_region_quiet_grown mixed (by kernel_rfl) ?_
          repeat (go_big_quiet_step (first | (go_at_call 16; exact check_G hcM.out hrC _ _) | (go_at_call 17; exact has_G hr hcM.out hrC _ _) | (go_at_call 18; exact rhas_G hr hcM.out hrC _ _) | (go_at_call 19; exact same_G hsm hML.out hML.out hrA hrZ _ _)))
          refine wpQuiet_nil ?_
          rintro _ ⟨⟨nq, osq⟩, rfl⟩
          go_wp2
          go_ret
          exact ⟨rfl, hbF.out.trans ((Gr.below ⟨nq, osq, rfl⟩).mono hbF.out.size)⟩
        · obtain ⟨nx, ny, hnd⟩ : ∃ nx ny, nextD c n = (nx, ny) := ⟨_, _, rfl⟩
          obtain ⟨ne, hne⟩ : ∃ ne, nextE c n = ne := ⟨_, rfl⟩
          have hNA : Hid (nextA c n = ((nx, ny), ne)) := by show nextA c n = _; simp [nextA, heH.out, hin, hnd, hne]
          have hnn : 0 ≤ n ∧ n < 4 := by simp [inB] at hin; omega
          have hrn := rnext_any c A cap n (W.alloc (.cells #[.int .i64 0, .int .i64 0] 27)) hcM.out hc4.row (errC_okClk heH.out) hnn.1 hnn.2
          rw [hnd, hne] at hrn
          have hrnH : Hid _ := hrn
          have hnf : ∀ j, (W.alloc (.cells #[.int .i64 0, .int .i64 0] 27)).frozen? ⟨W.heap.size, j, none⟩ = false := fun j => box1f (Gr.refl _) j
          clear hrn hnd hne
          go_upto_region 16 with (first | (go_at_call 13; refine (in_yes hin _).mono ?_; rintro e w' ⟨rfl, rfl⟩) | (go_at_call 14; refine Calls.mono (show Calls _ _ _ _ _ from hrnH.out) ?_; rintro e w4 ⟨rfl, hg4⟩; have m0 := (hn4.gr hg4).k0; have m1 := (hn4.gr hg4).k1; have mf := fun j => (hg4.below.frozen (p := ⟨W.heap.size, j, none⟩) hn4.lt).trans (hnf j)))
          have hneC : w.heap.size ≠ W.heap.size := Nat.ne_of_lt hcW.lt
          have hneD : w.heap.size + 1 ≠ W.heap.size := Nat.ne_of_lt hdW.lt
          have hneA : w2.heap.size ≠ W.heap.size := Nat.ne_of_lt haW.lt
          have hneZ : w2.heap.size + 1 ≠ W.heap.size := Nat.ne_of_lt hzW.lt
          have hlC := fun a ha hl => Nat.ne_of_lt (hcW.row.lt a ha hl)
          have hlA := fun a ha hl => Nat.ne_of_lt (haW.row.lt a ha hl)
          have hlZ := fun a ha hl => Nat.ne_of_lt (hzW.row.lt a ha hl)
          have hc5 : CtxAt ((w4.setCell ⟨W.heap.size, 0, none⟩ (.int .i64 nx)).setCell ⟨W.heap.size, 1, none⟩ (.int .i64 ny)) w.heap.size c A cap := ((hc4.gr hg4).other _ hneC hlC).other _ hneC hlC
          have hd5 : DotAt ((w4.setCell ⟨W.heap.size, 0, none⟩ (.int .i64 nx)).setCell ⟨W.heap.size, 1, none⟩ (.int .i64 ny)) (w.heap.size + 1) x y := ((hd4.gr hg4).other _ hneD).other _ hneD
          have ha5 : CtxAt ((w4.setCell ⟨W.heap.size, 0, none⟩ (.int .i64 nx)).setCell ⟨W.heap.size, 1, none⟩ (.int .i64 ny)) w2.heap.size M C1 cp1 := ((ha4.gr hg4).other _ hneA hlA).other _ hneA hlA
          have hz5 : CtxAt ((w4.setCell ⟨W.heap.size, 0, none⟩ (.int .i64 nx)).setCell ⟨W.heap.size, 1, none⟩ (.int .i64 ny)) (w2.heap.size + 1) M C2 cp2 := ((hz4.gr hg4).other _ hneZ hlZ).other _ hneZ hlZ
          have hn5 : DotAt ((w4.setCell ⟨W.heap.size, 0, none⟩ (.int .i64 nx)).setCell ⟨W.heap.size, 1, none⟩ (.int .i64 ny)) W.heap.size nx ny := (hn4.gr hg4).set
          have hb5 : Below w.heap.size w ((w4.setCell ⟨W.heap.size, 0, none⟩ (.int .i64 nx)).setCell ⟨W.heap.size, 1, none⟩ (.int .i64 ny)) := ((hb4.out.trans (hg4.below.mono hb4.out.size)).setCell (Nat.le_of_lt hcW.lt) _).setCell (Nat.le_of_lt hcW.lt) _
          clear hc4 hd4 ha4 hz4 hn4 hb4 q0 q1 q2 q3 q4 qlt qrow hneC hneD hneA hneZ hlC hlA hlZ m0 m1 mf hg4 hrnH hnf
          generalize ((w4.setCell ⟨W.heap.size, 0, none⟩ (.int .i64 nx)).setCell ⟨W.heap.size, 1, none⟩ (.int .i64 ny)) = V at hc5 hd5 ha5 hz5 hn5 hb5 ⊢
          have hc4 := hc5
          have hd4 := hd5
          have ha4 := ha5
          have hz4 := hz5
          have hn4 := hn5
          have hb4 : Hid (Below w.heap.size w V) := hb5
          clear hc5 hd5 ha5 hz5 hn5 hb5
          obtain ⟨q0, q1, q2, q3, q4, qlt, qrow⟩ := (show CtxAt _ _ _ _ _ from hc4)
          go_wp2_with fail
          refine (next_any c A cap n _ hcM.out hc4.row).mono ?_
          rintro e w5 ⟨rfl, hg5⟩
          rw [hNA.out]
          have hgX : Gr w5 (w5.alloc (.cells #[.int .i64 nx, .int .i64 ny] 27)) := (Gr.refl _).alloc _
          have hc6 := (hc4.gr hg5).gr hgX
          have hd6 := (hd4.gr hg5).gr hgX
          have ha6 := (ha4.gr hg5).gr hgX
          have hz6 := (hz4.gr hg5).gr hgX
          have hn6 := (hn4.gr hg5).gr hgX
          have hx6 : DotAt (w5.alloc (.cells #[.int .i64 nx, .int .i64 ny] 27)) w5.heap.size nx ny := DotAt.new 27 rfl
          have hb6 : Below w.heap.size w (w5.alloc (.cells #[.int .i64 nx, .int .i64 ny] 27)) := hb4.out.trans ((hg5.trans hgX).below.mono hb4.out.size)
          clear hc4 hd4 ha4 hz4 hn4 hg5 hgX q0 q1 q2 q3 q4 qlt qrow
          go_upto_region 17 with fail
          generalize w5.alloc (.cells #[.int .i64 nx, .int .i64 ny] 27) = X at hc6 hd6 ha6 hz6 hn6 hx6 hb6 ⊢
          obtain ⟨p0, p1, p2, p3, p4⟩ := hc6.G
          obtain ⟨d0, d1⟩ := hd6.G
          obtain ⟨a0, a1, a2, a3, a4⟩ := ha6.G
          obtain ⟨z0, z1, z2, z3, z4⟩ := hz6.G
          obtain ⟨n0, n1⟩ := hn6.G
          obtain ⟨x0, x1⟩ := hx6.G
          have hrC := hc6.row
          have hrA := ha6.row
          have hrZ := hz6.row
          have hsm := sameB_self M
          obtain ⟨r, hr⟩ : ∃ r, hasB c (x, y) = r := ⟨_, rfl⟩
          have hE := eqDot
          have hG := guardDot
          have hEB := eqBool
          have hbF : Hid (Below w.heap.size w X) := hb6
          clear hc6 hd6 ha6 hz6 hn6 hx6 hb6
          refine wp_region_quiet_grown mixed (by kernel_rfl) ?_
          repeat (go_big_quiet_step (first | (go_at_call 16; exact check_G hcM.out hrC _ _) | (go_at_call 17; exact has_G hr hcM.out hrC _ _) | (go_at_call 18; exact rhas_G hr hcM.out hrC _ _) | (go_at_call 19; exact same_G hsm hML.out hML.out hrA hrZ _ _)))
          refine wpQuiet_nil ?_
          rintro _ ⟨⟨nq, osq⟩, rfl⟩
          go_wp2
          go_ret
          exact ⟨rfl, hbF.out.trans ((Gr.below ⟨nq, osq, rfl⟩).mono hbF.out.size)⟩
      · have hNA : Hid (nextA c n = ((0, 0), errC c)) := by show nextA c n = _; simp [nextA, he]
        have heb : (errC c == 0) = false := by simpa using he
        clear he
        go_wp2_with fail
        refine (next_any c A cap n _ hcM.out hc4.row).mono ?_
        rintro e w5 ⟨rfl, hg5⟩
        rw [hNA.out]
        have hgX : Gr w5 (w5.alloc (.cells #[.int .i64 0, .int .i64 0] 27)) := (Gr.refl _).alloc _
        have hc6 := (hc4.gr hg5).gr hgX
        have hd6 := (hd4.gr hg5).gr hgX
        have ha6 := (ha4.gr hg5).gr hgX
        have hz6 := (hz4.gr hg5).gr hgX
        have hn6 := (hn4.gr hg5).gr hgX
        have hx6 : DotAt (w5.alloc (.cells #[.int .i64 0, .int .i64 0] 27)) w5.heap.size 0 0 := DotAt.new 27 rfl
        have hb6 : Below w.heap.size w (w5.alloc (.cells #[.int .i64 0, .int .i64 0] 27)) := hb4.out.trans ((hg5.trans hgX).below.mono hb4.out.size)
        clear hc4 hd4 ha4 hz4 hn4 hg5 hgX q0 q1 q2 q3 q4 qlt qrow
        go_upto_region 17 with fail
        generalize w5.alloc (.cells #[.int .i64 0, .int .i64 0] 27) = X at hc6 hd6 ha6 hz6 hn6 hx6 hb6 ⊢
        obtain ⟨p0, p1, p2, p3, p4⟩ := hc6.G
        obtain ⟨d0, d1⟩ := hd6.G
        obtain ⟨a0, a1, a2, a3, a4⟩ := ha6.G
        obtain ⟨z0, z1, z2, z3, z4⟩ := hz6.G
        obtain ⟨n0, n1⟩ := hn6.G
        obtain ⟨x0, x1⟩ := hx6.G
        have hrC := hc6.row
        have hrA := ha6.row
        have hrZ := hz6.row
        have hsm := sameB_self M
        obtain ⟨r, hr⟩ : ∃ r, hasB c (x, y) = r := ⟨_, rfl⟩
        have hE := eqDot
        have hG := guardDot
        have hEB := eqBool
        have hbF : Hid (Below w.heap.size w X) := hb6
        clear hc6 hd6 ha6 hz6 hn6 hx6 hb6
        refine wp_region_quiet_grown mixed (by kernel_rfl) ?_
        repeat (go_big_quiet_step (first | (go_at_call 16; exact check_G hcM.out hrC _ _) | (go_at_call 17; exact has_G hr hcM.out hrC _ _) | (go_at_call 18; exact rhas_G hr hcM.out hrC _ _) | (go_at_call 19; exact same_G hsm hML.out hML.out hrA hrZ _ _)))
        refine wpQuiet_nil ?_
        rintro _ ⟨⟨nq, osq⟩, rfl⟩
        go_wp2
        go_ret
        exact ⟨rfl, hbF.out.trans ((Gr.below ⟨nq, osq, rfl⟩).mono hbF.out.size)⟩

end Go.Proofs.Ytjgefnipkaecgaa
