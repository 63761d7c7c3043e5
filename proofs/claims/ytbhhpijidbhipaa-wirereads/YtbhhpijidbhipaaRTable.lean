/-
  viewref.Table: what is wrong with a table.
-/
import Derived.Test.YtbhhpijidbhipaaTBase
import Derived.Test.YtbhhpijidbhipaaRContext
import Derived.Test.YtbhhpijidbhipaaRHas

namespace Go.Proofs.Ytbhhpijidbhipaa
open Go.RowKit Go.Sort

theorem in_g {n lo hi : Int} {r : Bool} (h : inB n lo hi = r) (w : World) :
    Calls Try.prog 21 #[.int .i64 n, .int .i64 lo, .int .i64 hi] w fun e w' => e = .returned (.bool r) ∧ w' = w := by
  rw [← h]; exact in_any n lo hi w
theorem right_has {c : Ctx} (h : errC c = 0) {x : Int × Int} (hr : rightB x = false) : hasB c x = false := by
  cases hh : hasB c x
  · rfl
  · exfalso
    unfold errC at h
    by_cases hk : okClk c = false
    · rw [if_pos hk] at h; cases h
    · rw [if_neg hk] at h
      by_cases hl : 400 < c.l.length
      · rw [if_pos hl] at h; cases h
      · rw [if_neg hl] at h
        by_cases ha : (List.range c.l.length).all (okAt c) = true
        · unfold hasB at hh
          rw [Bool.or_eq_true] at hh
          rcases hh with hm | hm
          · have hx : x ∈ c.l := by simpa using hm
            obtain ⟨k, hkl, rfl⟩ := List.mem_iff_getElem.1 hx
            have := List.all_eq_true.1 ha k (by simpa using hkl)
            unfold okAt at this
            rw [List.getD_eq_getElem?_getD, List.getElem?_eq_getElem hkl] at this
            simp [hr] at this
          · simp only [inB, Bool.and_eq_true, decide_eq_true_eq] at hm
            have := clk_of_ok (c := c) (by simpa using hk) x.1 hm.1.1.1 (by omega)
            have hx : rightB x = true := by simp [rightB, inB]; omega
            rw [hr] at hx; cases hx
        · rw [if_neg ha] at h; cases h

set_option maxRecDepth 100000 in
set_option maxHeartbeats 4000000 in
theorem rtable_any (t : Tab) (A : Option Addr) (ca : Nat) (D : Option Addr) (cd : Nat) (w : World) (hl : t.c.l.length ≤ maxLen) (hel : t.e.length ≤ maxLen) (hr : Row w A t.c.l) (hd : RowC w D t.e) :
    Calls Try.prog 6 #[.agg #[.int .i64 t.c.c0, .int .i64 t.c.c1, .int .i64 t.c.c2, .int .i64 t.c.c3, .slice A t.c.l.length ca, .slice D t.e.length cd]] w fun e w' => e = .returned (.int .i64 (errT t)) ∧ Gr w w' := by
  have mixed : Try.prog.follows .mixedOrders = true := by kernel_rfl
  have hg0 : Gr w (w.alloc (.cells #[.int .i64 t.c.c0, .int .i64 t.c.c1, .int .i64 t.c.c2, .int .i64 t.c.c3, .slice A t.c.l.length ca, .slice D t.e.length cd] 28)) := (Gr.refl w).alloc _
  have ht0 : TabAt (w.alloc (.cells #[.int .i64 t.c.c0, .int .i64 t.c.c1, .int .i64 t.c.c2, .int .i64 t.c.c3, .slice A t.c.l.length ca, .slice D t.e.length cd] 28)) w.heap.size t A ca D cd := TabAt.new 28 hr hd rfl
  have hck := rcontext_any t.c A ca (w.alloc (.cells #[.int .i64 t.c.c0, .int .i64 t.c.c1, .int .i64 t.c.c2, .int .i64 t.c.c3, .slice A t.c.l.length ca, .slice D t.e.length cd] 28)) hl ht0.row
  have hckH : Hid _ := hck
  have hlH : Hid (t.c.l.length ≤ maxLen) := hl
  clear hck hl
  unfold maxLen at hel
  go_enter Try.func6, Try.ntmps6
  go_wp2_with fail
  refine Calls.mono (show Calls _ _ _ _ _ from hckH.out) ?_
  rintro e w1 ⟨rfl, hg1⟩
  clear hckH
  have ht1 := ht0.gr hg1
  have hgw1 : Gr w w1 := hg0.trans hg1
  clear ht0 hg0 hg1
  by_cases he : errC t.c = 0
  · have heb : (errC t.c != 0) = false := by simpa using he
    have heH : Hid (errC t.c = 0) := he
    clear he
    obtain ⟨k0, k1, k2, k3, k4, k5, klt, krow, krowC⟩ := (show TabAt _ _ _ _ _ _ _ from ht1)
    by_cases h400 : 400 < t.e.length
    · have h400z : (400 : Int) < (t.e.length : Int) := by omega
      have hfin : Hid (errT t = 2) := errT_large heH.out h400
      go_wp2
      go_ret
      rw [hfin.out]
      exact ⟨rfl, hgw1⟩
    · have h400z : ¬ (400 : Int) < (t.e.length : Int) := by omega
      go_wp2
      clear k0 k1 k2 k3 k4 k5 krow krowC
      go_loopw [4] (fun i wr => ∃ k : Nat, k ≤ t.e.length ∧ i = .int .i64 k ∧ Hid (∀ j, j < k → okCel t j = true) ∧ Gr w1 wr) (fun i _ => t.e.length - (intOf i).toNat)
      case atStart => exact ⟨0, by omega, rfl, fun j h => by omega, Gr.refl _⟩
      case round =>
        rename World => wr0
        obtain ⟨k, hk, rfl, hall, hgr⟩ := hrel
        have htR := ht1.gr hgr
        have r5 := htR.k5
        by_cases hlt : k < t.e.length
        · have hltz : (k : Int) < (t.e.length : Int) := by omega
          obtain ⟨b, off, rfl, hb, hcs⟩ := RowC.get htR.rowC hlt
          obtain ⟨x, hx⟩ : ∃ x, t.e[k] = x := ⟨_, rfl⟩
          obtain ⟨e0, e1, e2, e3, e4⟩ := hcs k hlt
          rw [hx] at e0 e1 e2 e3 e4
          have hcsH : Hid (∀ j (h : j < t.e.length), _) := hcs
          have hxH : Hid (t.e[k] = x) := hx
          clear hcs hx
          have hgX : Gr wr0 (wr0.alloc (.cells #[.int .i64 x.1.1, .int .i64 x.1.2, .int .i64 x.2.1, .int .i64 x.2.2.1, .int .i64 x.2.2.2] 53)) := (Gr.refl _).alloc _
          have hxX := CelAt.new (w := wr0) x 53 rfl
          have htX := htR.gr hgX
          obtain ⟨x0, x1, x2, x3, x4, xlt⟩ := (show CelAt _ _ _ from hxX)
          cases hri : rightB x.1
          · have hhb := right_has heH.out hri
            have hfin : Hid (errT t = 5) := by
              refine errT_form heH.out (by omega) hlt ?_
              cases k with
              | zero => rw [okCel_zero hlt hxH.out]; simp [hhb]
              | succ m => rw [okCel_succ hlt hxH.out rfl]; simp [hhb]
            go_wp2_with (go_at_call 19; refine (right_g (a := x.1.1) (b := x.1.2) hri _).mono ?_; rintro e w3 ⟨rfl, hg3⟩)
            go_ret
            rw [hfin.out]
            exact ⟨rfl, hgw1.trans ((hgr.trans hgX).trans hg3)⟩
          · go_wp2_with fail
            refine (right_g (a := x.1.1) (b := x.1.2) hri _).mono ?_
            rintro e w3 ⟨rfl, hg3⟩
            have hg3' : Gr (wr0.alloc (.cells #[.int .i64 x.1.1, .int .i64 x.1.2, .int .i64 x.2.1, .int .i64 x.2.2.1, .int .i64 x.2.2.2] 53)) w3 := hg3
            clear x0 x1 x2 x3 x4 xlt hg3
            obtain ⟨t0, t1, t2, t3, t4, t5, tlt, trow, trowC⟩ := (show TabAt _ _ _ _ _ _ _ from htX.gr hg3')
            obtain ⟨x0, x1, x2, x3, x4, xlt⟩ := (show CelAt _ _ _ from hxX.gr hg3')
            have hhas := rhas_any t.c A ca x.1 w3 hlH.out trow
            have hhasH : Hid _ := hhas
            clear hhas
            go_wp2_with fail
            refine Calls.mono (show Calls _ _ _ _ _ from hhasH.out) ?_
            rintro e w2 ⟨rfl, hg2⟩
            clear hhasH t0 t1 t2 t3 t4 t5 x0 x1 x2 x3 x4 xlt tlt trow trowC
            have hg02 : Gr wr0 w2 := (hgX.trans hg3').trans hg2
            have hgw3 : Gr w1 w2 := hgr.trans hg02
            have hx2 := (hxX.gr hg3').gr hg2
            have ht2 := (htX.gr hg3').gr hg2
            obtain ⟨x0, x1, x2, x3, x4, xlt⟩ := (show CelAt _ _ _ from hx2)
            cases hhb : hasB t.c x.1
            · have hfin : Hid (errT t = 5) := by
                refine errT_form heH.out (by omega) hlt ?_
                cases k with
                | zero => rw [okCel_zero hlt hxH.out]; simp [hhb]
                | succ m => rw [okCel_succ hlt hxH.out rfl]; simp [hhb]
              go_wp2
              go_ret
              rw [hfin.out]
              exact ⟨rfl, hgw1.trans hgw3⟩
            · cases hk1 : inB x.2.1 0 49
              · have hfin : Hid (errT t = 5) := by
                  refine errT_form heH.out (by omega) hlt ?_
                  cases k with
                  | zero => rw [okCel_zero hlt hxH.out]; simp [okPlace, hk1]
                  | succ m => rw [okCel_succ hlt hxH.out rfl]; simp [okPlace, hk1]
                go_wp2_with (go_at_call 21; refine (in_g hk1 _).mono ?_; rintro e w2 ⟨rfl, rfl⟩)
                go_ret
                rw [hfin.out]
                exact ⟨rfl, hgw1.trans hgw3⟩
              · cases hk2 : inB x.2.2.1 0 2
                · have hfin : Hid (errT t = 5) := by
                    refine errT_form heH.out (by omega) hlt ?_
                    cases k with
                    | zero => rw [okCel_zero hlt hxH.out]; simp [okPlace, hk2]
                    | succ m => rw [okCel_succ hlt hxH.out rfl]; simp [okPlace, hk2]
                  go_wp2_with (go_at_call 21; (first | with_reducible refine (in_g hk1 _).mono ?_ | with_reducible refine (in_g hk2 _).mono ?_); rintro e w2 ⟨rfl, rfl⟩)
                  go_ret
                  rw [hfin.out]
                  exact ⟨rfl, hgw1.trans hgw3⟩
                · cases hk3 : inB x.2.2.2 (-1000) 1000
                  · have hfin : Hid (errT t = 5) := by
                      refine errT_form heH.out (by omega) hlt ?_
                      cases k with
                      | zero => rw [okCel_zero hlt hxH.out]; simp [okPlace, hk3]
                      | succ m => rw [okCel_succ hlt hxH.out rfl]; simp [okPlace, hk3]
                    go_wp2_with (go_at_call 21; (first | with_reducible refine (in_g hk1 _).mono ?_ | with_reducible refine (in_g hk2 _).mono ?_ | with_reducible refine (in_g hk3 _).mono ?_); rintro e w2 ⟨rfl, rfl⟩)
                    go_ret
                    rw [hfin.out]
                    exact ⟨rfl, hgw1.trans hgw3⟩
                  · have hpl : okPlace x.2.1 x.2.2.1 x.2.2.2 = true := by unfold okPlace; rw [hk1, hk2, hk3]; rfl
                    cases k with
                    | zero =>
                      have hoka : Hid (okCel t 0 = true) := by
                        show okCel t 0 = true
                        rw [okCel_zero hlt hxH.out, hhb, hpl]; rfl
                      go_wp2_with (first | (go_at_call 21; (first | with_reducible refine (in_g hk1 _).mono ?_ | with_reducible refine (in_g hk2 _).mono ?_ | with_reducible refine (in_g hk3 _).mono ?_); rintro e w2 ⟨rfl, rfl⟩) | fail)
                      refine wp_region_quiet_grown mixed (by kernel_rfl) ?_
                      repeat (go_big_quiet_step (fail))
                      refine wpQuiet_nil ?_
                      rintro _ ⟨⟨nq2, osq2⟩, rfl⟩
                      go_wp2
                      go_roundw
                      case rel =>
                        refine ⟨_, hlt, by go_num, ?_, hgw3.trans ⟨nq2, osq2, rfl⟩⟩
                        intro j hj
                        by_cases e : j = 0
                        · rw [e]; exact hoka.out
                        · exact hall j (by omega)
                      case measure => simp [intOf]; omega
                    | succ m =>
                      obtain ⟨y, hy⟩ : ∃ y, t.e[m] = y := ⟨_, rfl⟩
                      obtain ⟨f0, f1, f2, f3, f4⟩ := hcsH.out m (by omega)
                      rw [hy] at f0 f1 f2 f3 f4
                      have hyH : Hid (t.e[m] = y) := hy
                      clear hy
                      have q0 := hg02.cellG (a := ⟨b, off + m * 5, none⟩) hb f0
                      have q1 := hg02.cellG (a := ⟨b, off + m * 5 + 1, none⟩) hb f1
                      have q2 := hg02.cellG (a := ⟨b, off + m * 5 + 2, none⟩) hb f2
                      have q3 := hg02.cellG (a := ⟨b, off + m * 5 + 3, none⟩) hb f3
                      have q4 := hg02.cellG (a := ⟨b, off + m * 5 + 4, none⟩) hb f4
                      have p5 := (Gr.refl w2).cellG (a := ⟨w.heap.size, 5, none⟩) ht2.lt ht2.k5
                      have p0 := (Gr.refl w2).cellG (a := ⟨wr0.heap.size, 0, none⟩) xlt x0
                      have p1 := (Gr.refl w2).cellG (a := ⟨wr0.heap.size, 1, none⟩) xlt x1
                      have p2 := (Gr.refl w2).cellG (a := ⟨wr0.heap.size, 2, none⟩) xlt x2
                      have p3 := (Gr.refl w2).cellG (a := ⟨wr0.heap.size, 3, none⟩) xlt x3
                      have p4 := (Gr.refl w2).cellG (a := ⟨wr0.heap.size, 4, none⟩) xlt x4
                      clear f0 f1 f2 f3 f4
                      cases hbe : befB y.1 x.1
                      · have hfin : Hid (errT t = 5) := errT_form heH.out (by omega) hlt (by rw [okCel_succ hlt hxH.out hyH.out, hhb, hpl, hbe]; rfl)
                        have hge := hbe
                        go_wp2_with (first | (go_at_call 21; (first | with_reducible refine (in_g hk1 _).mono ?_ | with_reducible refine (in_g hk2 _).mono ?_ | with_reducible refine (in_g hk3 _).mono ?_); rintro e w2 ⟨rfl, rfl⟩) | fail)
                        refine wp_region_quiet_grown mixed (by kernel_rfl) ?_
                        repeat (go_big_quiet_step ((go_at_call 22; refine Calls.grown_of (before_g (a := y.1.1) (b := y.1.2) (c := x.1.1) (d := x.1.2) hbe _))))
                        refine wpQuiet_nil ?_
                        rintro _ ⟨⟨nq2, osq2⟩, rfl⟩
                        go_wp2
                        go_ret
                        rw [hfin.out]
                        exact ⟨rfl, hgw1.trans (hgw3.trans ⟨nq2, osq2, rfl⟩)⟩
                      · have hge := hbe
                        have hoka : Hid (okCel t (m + 1) = true) := by
                          show okCel t (m + 1) = true
                          rw [okCel_succ hlt hxH.out hyH.out, hhb, hpl, hbe]; rfl
                        go_wp2_with (first | (go_at_call 21; (first | with_reducible refine (in_g hk1 _).mono ?_ | with_reducible refine (in_g hk2 _).mono ?_ | with_reducible refine (in_g hk3 _).mono ?_); rintro e w2 ⟨rfl, rfl⟩) | fail)
                        refine wp_region_quiet_grown mixed (by kernel_rfl) ?_
                        repeat (go_big_quiet_step ((go_at_call 22; refine Calls.grown_of (before_g (a := y.1.1) (b := y.1.2) (c := x.1.1) (d := x.1.2) hbe _))))
                        refine wpQuiet_nil ?_
                        rintro _ ⟨⟨nq2, osq2⟩, rfl⟩
                        go_wp2
                        go_roundw
                        case rel =>
                          refine ⟨_, hlt, by go_num, ?_, hgw3.trans ⟨nq2, osq2, rfl⟩⟩
                          intro j hj
                          by_cases e : j = m + 1
                          · rw [e]; exact hoka.out
                          · exact hall j (by omega)
                        case measure => simp [intOf]; omega
        · have hltz : ¬ (k : Int) < (t.e.length : Int) := by omega
          have hfin : Hid (errT t = 0) := errT_ok heH.out (by omega) fun j hj => hall j (by omega)
          go_wp2
          go_ret
          rw [hfin.out]
          exact ⟨rfl, hgw1.trans hgr⟩
  · have heb : (errC t.c != 0) = true := by simpa using he
    have hfin : Hid (errT t = errC t.c) := errT_ctx he
    clear he
    go_wp2
    go_ret
    rw [hfin.out]
    exact ⟨rfl, hgw1⟩

end Go.Proofs.Ytbhhpijidbhipaa
