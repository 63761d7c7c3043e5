/-
  The small functions of package table: isKey, isCell, order.
  dot.Check: it says what is wrong with a context.
-/
import Derived.Test.YtnkpfhipgcmplaaGreatDoorM04
namespace Go.Proofs.YtnkpfhipgcmplaaGreatDoor
open Go.RowKit Go.Sort

set_option maxHeartbeats 400000 in
theorem isKey_any (n : Int) (w : World) :
    Calls Tryz.prog 87 #[.int .i64 n] w fun e w' => e = .returned (.bool (inB n 0 49)) ∧ w' = w := by
  by_cases h1 : 0 ≤ n
  · by_cases h2 : n < 50
    · have e : inB n 0 49 = true := by simp [inB]; omega
      rw [e]; clear e
      go_enter Tryz.func87, Tryz.ntmps87
      go_wp2
      go_ret
      exact ⟨rfl, rfl⟩
    · have e : inB n 0 49 = false := by simp [inB]; omega
      rw [e]; clear e
      go_enter Tryz.func87, Tryz.ntmps87
      go_wp2
      go_ret
      exact ⟨rfl, rfl⟩
  · have e : inB n 0 49 = false := by simp [inB]; omega
    rw [e]; clear e
    go_enter Tryz.func87, Tryz.ntmps87
    go_wp2
    go_ret
    exact ⟨rfl, rfl⟩

set_option maxHeartbeats 1000000 in
theorem isCell_any (k c v : Int) (w : World) :
    Calls Tryz.prog 68 #[.int .i64 k, .int .i64 c, .int .i64 v] w fun e w' => e = .returned (.bool (okPlace k c v)) ∧ w' = w := by
  cases h1 : inB k 0 49
  · have e : okPlace k c v = false := by simp [okPlace, h1]
    rw [e]; clear e
    go_enter Tryz.func68, Tryz.ntmps68
    go_wp2_with (go_at_call 87; refine (isKey_any _ _).mono ?_; rintro e w' ⟨rfl, rfl⟩; rw [h1])
    go_ret
    exact ⟨rfl, rfl⟩
  · by_cases h2 : 0 ≤ c
    · by_cases h3 : c < 3
      · by_cases h4 : -1000 ≤ v
        · by_cases h5 : v ≤ 1000
          · have e : okPlace k c v = true := by unfold okPlace; rw [h1]; simp [inB]; omega
            rw [e]; clear e
            go_enter Tryz.func68, Tryz.ntmps68
            go_wp2_with (go_at_call 87; refine (isKey_any _ _).mono ?_; rintro e w' ⟨rfl, rfl⟩; rw [h1])
            go_ret
            exact ⟨rfl, rfl⟩
          · have e : okPlace k c v = false := by unfold okPlace; rw [h1]; simp [inB]; omega
            rw [e]; clear e
            have h5b : decide (v ≤ 1000) = false := by simpa using h5
            go_enter Tryz.func68, Tryz.ntmps68
            go_wp2_with (go_at_call 87; refine (isKey_any _ _).mono ?_; rintro e w' ⟨rfl, rfl⟩; rw [h1])
            go_ret
            exact ⟨rfl, rfl⟩
        · have e : okPlace k c v = false := by unfold okPlace; rw [h1]; simp [inB]; omega
          rw [e]; clear e
          have h4b : decide (-1000 ≤ v) = false := by simpa using h4
          go_enter Tryz.func68, Tryz.ntmps68
          go_wp2_with (go_at_call 87; refine (isKey_any _ _).mono ?_; rintro e w' ⟨rfl, rfl⟩; rw [h1])
          go_ret
          exact ⟨rfl, rfl⟩
      · have e : okPlace k c v = false := by unfold okPlace; rw [h1]; simp [inB]; omega
        rw [e]; clear e
        have h3b : decide (c < 3) = false := by simpa using h3
        go_enter Tryz.func68, Tryz.ntmps68
        go_wp2_with (go_at_call 87; refine (isKey_any _ _).mono ?_; rintro e w' ⟨rfl, rfl⟩; rw [h1])
        go_ret
        exact ⟨rfl, rfl⟩
    · have e : okPlace k c v = false := by unfold okPlace; rw [h1]; simp [inB]; omega
      rw [e]; clear e
      have h2b : decide (0 ≤ c) = false := by simpa using h2
      go_enter Tryz.func68, Tryz.ntmps68
      go_wp2_with (go_at_call 87; refine (isKey_any _ _).mono ?_; rintro e w' ⟨rfl, rfl⟩; rw [h1])
      go_ret
      exact ⟨rfl, rfl⟩

set_option maxHeartbeats 400000 in
theorem orderC_any (x y : Cel) (w : World) :
    Calls Tryz.prog 69 #[.agg #[.int .i64 x.1.1, .int .i64 x.1.2, .int .i64 x.2.1, .int .i64 x.2.2.1, .int .i64 x.2.2.2], .agg #[.int .i64 y.1.1, .int .i64 y.1.2, .int .i64 y.2.1, .int .i64 y.2.2.1, .int .i64 y.2.2.2]] w fun e w' => e = .returned (.int .i64 (ordI x.1 y.1)) ∧ Gr w w' := by
  go_enter Tryz.func69, Tryz.ntmps69
  go_wp2_with fail
  refine (order_any x.1 y.1 _).mono ?_
  rintro e w' ⟨rfl, hg⟩
  go_wp2
  go_ret
  exact ⟨rfl, (((Gr.refl w).alloc _).alloc _).trans hg⟩

theorem orderC_g {x y : Cel} {r : Int} (h : ordI x.1 y.1 = r) (w : World) : Calls Tryz.prog 69 #[.agg #[.int .i64 x.1.1, .int .i64 x.1.2, .int .i64 x.2.1, .int .i64 x.2.2.1, .int .i64 x.2.2.2], .agg #[.int .i64 y.1.1, .int .i64 y.1.2, .int .i64 y.2.1, .int .i64 y.2.2.1, .int .i64 y.2.2.2]] w fun e w' => e = .returned (.int .i64 r) ∧ ∃ q os', w' = grow (w.drewN q) os' := by
  rw [← h]; exact orderC_any x y w
theorem isCell_g {k c v : Int} {r : Bool} (h : okPlace k c v = r) (w : World) :
    Calls Tryz.prog 68 #[.int .i64 k, .int .i64 c, .int .i64 v] w fun e w' => e = .returned (.bool r) ∧ w' = w := by
  rw [← h]; exact isCell_any k c v w
theorem isKey_g {n : Int} {r : Bool} (h : inB n 0 49 = r) (w : World) :
    Calls Tryz.prog 87 #[.int .i64 n] w fun e w' => e = .returned (.bool r) ∧ w' = w := by
  rw [← h]; exact isKey_any n w

end Go.Proofs.YtnkpfhipgcmplaaGreatDoor

namespace Go.Proofs.YtnkpfhipgcmplaaGreatDoor
open Go.RowKit Go.Sort

/-- The box of a dot, in a world that has grown of the one in which it was laid. -/
theorem dotBox {w W : World} {x y : Int} {T : TypeId} (h : Gr (w.alloc (.cells #[.int .i64 x, .int .i64 y] T)) W) : (∀ n os, (grow (W.drewN n) os).cell? ⟨w.heap.size, 0, none⟩ = some (.int .i64 x)) ∧ (∀ n os, (grow (W.drewN n) os).cell? ⟨w.heap.size, 1, none⟩ = some (.int .i64 y)) :=
  ⟨box1G h rfl, box1G h rfl⟩

set_option maxHeartbeats 2000000 in
theorem check_any (c : Ctx) (A : Option Addr) (cap : Nat) (w : World) (hl : c.l.length ≤ maxLen) (hr : Row w A c.l) :
    Calls Tryz.prog 66 #[.agg #[.int .i64 c.c0, .int .i64 c.c1, .int .i64 c.c2, .int .i64 c.c3, .slice A c.l.length cap]] w fun e w' => e = .returned (.int .i64 (errC c)) ∧ Gr w w' := by
  unfold maxLen at hl
  have mixed : Tryz.prog.follows .mixedOrders = true := by kernel_rfl
  have i0 : ∀ w, (Instr.index 23 (.agg #[.int .i64 c.c0, .int .i64 c.c1, .int .i64 c.c2, .int .i64 c.c3]) (.int .i64 0)).run Tryz.prog w = .ok (.int .i64 (clk c 0)) w := fun _ => by kernel_rfl
  have i1 : ∀ w, (Instr.index 23 (.agg #[.int .i64 c.c0, .int .i64 c.c1, .int .i64 c.c2, .int .i64 c.c3]) (.int .i64 1)).run Tryz.prog w = .ok (.int .i64 (clk c 1)) w := fun _ => by kernel_rfl
  have i2 : ∀ w, (Instr.index 23 (.agg #[.int .i64 c.c0, .int .i64 c.c1, .int .i64 c.c2, .int .i64 c.c3]) (.int .i64 2)).run Tryz.prog w = .ok (.int .i64 (clk c 2)) w := fun _ => by kernel_rfl
  have i3 : ∀ w, (Instr.index 23 (.agg #[.int .i64 c.c0, .int .i64 c.c1, .int .i64 c.c2, .int .i64 c.c3]) (.int .i64 3)).run Tryz.prog w = .ok (.int .i64 (clk c 3)) w := fun _ => by kernel_rfl
  go_enter Tryz.func66, Tryz.ntmps66
  go_wp2
  go_loopw [9] (fun i wr => ∃ k : Nat, k ≤ 4 ∧ i = .int .i64 k ∧ Hid (∀ a : Int, 0 ≤ a → a < k → inB (clk c a) 0 1099511627776 = true) ∧ Gr (w.alloc (.cells #[.int .i64 c.c0, .int .i64 c.c1, .int .i64 c.c2, .int .i64 c.c3, .slice A c.l.length cap] 26)) wr) (fun i _ => 4 - (intOf i).toNat)
  case atStart => exact ⟨0, by omega, rfl, fun a h0 h1 => by omega, Gr.refl _⟩
  case round =>
    obtain ⟨k, hk, rfl, hin, hgr⟩ := hrel
    by_cases hlt : k < 4
    · have hltz : (k : Int) < 4 := by omega
      have ik : ∀ w, (Instr.index 23 (.agg #[.int .i64 c.c0, .int .i64 c.c1, .int .i64 c.c2, .int .i64 c.c3]) (.int .i64 k)).run Tryz.prog w = .ok (.int .i64 (clk c k)) w := by
        have h4 : k = 0 ∨ k = 1 ∨ k = 2 ∨ k = 3 := by omega
        rcases h4 with rfl | rfl | rfl | rfl
        · exact i0
        · exact i1
        · exact i2
        · exact i3
      clear i0 i1 i2 i3
      have hpos : clk c (k : Int) < 0 ∨ 1099511627776 < clk c (k : Int) ∨ (¬ clk c (k : Int) < 0 ∧ ¬ 1099511627776 < clk c (k : Int)) := by omega
      rcases hpos with h1 | h1 | ⟨h1, h2⟩
      · have hfin : Hid (errC c = 1) := errC_clk (by omega) hltz (by simp [inB]; omega)
        go_wp2
        go_ret
        rw [hfin.out]
        exact ⟨rfl, unbox hgr⟩
      · have hfin : Hid (errC c = 1) := errC_clk (by omega) hltz (by simp [inB]; omega)
        have h1b : ¬ clk c (k : Int) < 0 := by omega
        go_wp2
        go_ret
        rw [hfin.out]
        exact ⟨rfl, unbox hgr⟩
      · have hi : Hid (inB (clk c (k : Int)) 0 1099511627776 = true) := by show inB _ _ _ = true; simp [inB]; omega
        go_wp2
        go_roundw
        case rel =>
          refine ⟨k + 1, by omega, by go_num, ?_, hgr⟩
          intro a h0 h1
          by_cases e : a = (k : Int)
          · rw [e]; exact hi
          · exact hin a h0 (by omega)
        case measure => simp [intOf]; omega
    · clear i0 i1 i2 i3
      obtain rfl : k = 4 := by omega
      have k4 := box1 hgr (j := 4) rfl
      have hok : okClk c = true := okClk_of fun a h0 h4 => hin a h0 (by omega)
      by_cases h400 : 400 < c.l.length
      · have h400z : (400 : Int) < (c.l.length : Int) := by omega
        have hfin : Hid (errC c = 2) := errC_large hok h400
        go_wp2
        go_ret
        rw [hfin.out]
        exact ⟨rfl, unbox hgr⟩
      · have h400z : ¬ (400 : Int) < (c.l.length : Int) := by omega
        have hokH : Hid (okClk c = true) := hok
        clear hok
        go_wp2
        clear k4 hin
        go_loopw [26] (fun i wr => ∃ k : Nat, k ≤ c.l.length ∧ i = .int .i64 k ∧ Hid (∀ j, j < k → okAt c j = true) ∧ Gr (w.alloc (.cells #[.int .i64 c.c0, .int .i64 c.c1, .int .i64 c.c2, .int .i64 c.c3, .slice A c.l.length cap] 26)) wr) (fun i _ => c.l.length - (intOf i).toNat)
        case atStart => exact ⟨0, by omega, rfl, fun j h => by omega, hgr⟩
        case round =>
          clear hgr
          rename World => wr0
          obtain ⟨k, hk, rfl, hall, hgr⟩ := hrel
          by_cases hlt : k < c.l.length
          · have hltz : (k : Int) < (c.l.length : Int) := by omega
            obtain ⟨b, off, rfl, hb, hcs⟩ := (hr.gr (unbox hgr)).at hlt
            obtain ⟨x, y, hx⟩ : ∃ x y, c.l[k] = (x, y) := ⟨_, _, rfl⟩
            have e0 := (hcs k hlt).1
            have e1 := (hcs k hlt).2
            rw [hx] at e0 e1
            have hcsH : Hid (∀ j (h : j < c.l.length), _) := hcs
            have hxH : Hid (c.l[k] = (x, y)) := hx
            clear hcs hx
            cases hri : rightB (x, y)
            · have hfin : Hid (errC c = 5) := by
                refine errC_form hokH.out (by omega) hlt ?_
                cases k with
                | zero => rw [okAt_zero hlt hxH.out, hri]; rfl
                | succ m => rw [okAt_succ hlt hxH.out rfl, hri]; rfl
              go_wp2
              have d0 := box1G (Gr.refl (wr0.alloc (.cells #[.int .i64 x, .int .i64 y] 77))) (j := 0) rfl
              have d1 := box1G (Gr.refl (wr0.alloc (.cells #[.int .i64 x, .int .i64 y] 77))) (j := 1) rfl
              have hgW := (hgr.alloc (.cells #[.int .i64 x, .int .i64 y] 77))
              have rG := ((Gr.refl wr0).alloc (.cells #[.int .i64 x, .int .i64 y] 77))
              have dG := fun X (hX : Gr (wr0.alloc (.cells #[.int .i64 x, .int .i64 y] 77)) X) => dotBox hX
              have g4 := box1G hgW (j := 4) rfl
              have hsz : wr0.heap.size < (wr0.alloc (.cells #[.int .i64 x, .int .i64 y] 77)).heap.size := by simp
              generalize wr0.alloc (.cells #[.int .i64 x, .int .i64 y] 77) = W at d0 d1 hgW rG dG g4 hsz ⊢
              refine wp_region_quiet_grown mixed (by kernel_rfl) ?_
              repeat (go_big_quiet_step ((go_at_call 83; refine Calls.grown_of (dright_g hri _))))
              refine wpQuiet_nil ?_
              rintro _ ⟨⟨nq, osq⟩, rfl⟩
              go_wp2
              go_ret
              rw [hfin.out]
              exact ⟨rfl, (unbox hgW).trans ⟨nq, osq, rfl⟩⟩
            · have hn := rightB_node hri
              have hcb := clk_of_ok hokH.out x hn.1 hn.2.1
              by_cases hs : y ≤ clk c x + 1
              · have hfin : Hid (errC c = 5) := by
                  refine errC_form hokH.out (by omega) hlt ?_
                  cases k with
                  | zero => rw [okAt_zero hlt hxH.out, hri]; simp; omega
                  | succ m => rw [okAt_succ hlt hxH.out rfl, hri]; simp; omega
                go_wp2
                have d0 := box1G (Gr.refl (wr0.alloc (.cells #[.int .i64 x, .int .i64 y] 77))) (j := 0) rfl
                have d1 := box1G (Gr.refl (wr0.alloc (.cells #[.int .i64 x, .int .i64 y] 77))) (j := 1) rfl
                have hgW := (hgr.alloc (.cells #[.int .i64 x, .int .i64 y] 77))
                have rG := ((Gr.refl wr0).alloc (.cells #[.int .i64 x, .int .i64 y] 77))
                have dG := fun X (hX : Gr (wr0.alloc (.cells #[.int .i64 x, .int .i64 y] 77)) X) => dotBox hX
                have g4 := box1G hgW (j := 4) rfl
                have gc := box1G hgW (clkCell (c := c) hn.1 hn.2.1)
                have hsz : wr0.heap.size < (wr0.alloc (.cells #[.int .i64 x, .int .i64 y] 77)).heap.size := by simp
                generalize wr0.alloc (.cells #[.int .i64 x, .int .i64 y] 77) = W at d0 d1 hgW rG dG g4 gc hsz ⊢
                refine wp_region_quiet_grown mixed (by kernel_rfl) ?_
                repeat (go_big_quiet_step ((go_at_call 83; refine Calls.grown_of (dright_g hri _))))
                refine wpQuiet_nil ?_
                rintro _ ⟨⟨nq, osq⟩, rfl⟩
                go_wp2
                go_ret
                rw [hfin.out]
                exact ⟨rfl, (unbox hgW).trans ⟨nq, osq, rfl⟩⟩
              · have hsb : decide (y ≤ clk c x + 1) = false := by simpa using hs
                go_wp2
                have d0 := box1G (Gr.refl (wr0.alloc (.cells #[.int .i64 x, .int .i64 y] 77))) (j := 0) rfl
                have d1 := box1G (Gr.refl (wr0.alloc (.cells #[.int .i64 x, .int .i64 y] 77))) (j := 1) rfl
                have hgW := (hgr.alloc (.cells #[.int .i64 x, .int .i64 y] 77))
                have rG := ((Gr.refl wr0).alloc (.cells #[.int .i64 x, .int .i64 y] 77))
                have dG := fun X (hX : Gr (wr0.alloc (.cells #[.int .i64 x, .int .i64 y] 77)) X) => dotBox hX
                have g4 := box1G hgW (j := 4) rfl
                have gc := box1G hgW (clkCell (c := c) hn.1 hn.2.1)
                have hsz : wr0.heap.size < (wr0.alloc (.cells #[.int .i64 x, .int .i64 y] 77)).heap.size := by simp
                generalize wr0.alloc (.cells #[.int .i64 x, .int .i64 y] 77) = W at d0 d1 hgW rG dG g4 gc hsz ⊢
                refine wp_region_quiet_grown mixed (by kernel_rfl) ?_
                repeat (go_big_quiet_step ((go_at_call 83; refine Calls.grown_of (dright_g hri _))))
                refine wpQuiet_nil ?_
                rintro _ ⟨⟨nq, osq⟩, rfl⟩
                have hg2 : Gr W (grow (W.drewN nq) osq) := ⟨nq, osq, rfl⟩
                have hbx := dG _ hg2
                have g42 := box1G (hgW.trans hg2) (j := 4) rfl
                have hgW2 := hgW.trans hg2
                clear d0 d1 g4 gc
                cases k with
                | zero =>
                  have hoka : Hid (okAt c 0 = true) := by
                    show okAt c 0 = true
                    rw [okAt_zero hlt hxH.out, hri]; simp; omega
                  obtain ⟨b0, b1⟩ := hbx
                  generalize grow (W.drewN nq) osq = W2 at b0 b1 g42 hgW2 ⊢
                  go_wp2
                  refine wp_region_quiet_grown mixed (by kernel_rfl) ?_
                  repeat (go_big_quiet_step (fail))
                  refine wpQuiet_nil ?_
                  rintro _ ⟨⟨nq2, osq2⟩, rfl⟩
                  go_wp2
                  go_roundw
                  case rel =>
                    refine ⟨_, hlt, by go_num, ?_, hgW2.trans ⟨nq2, osq2, rfl⟩⟩
                    intro j hj
                    by_cases e : j = 0
                    · rw [e]; exact hoka.out
                    · exact hall j (by omega)
                  case measure => simp [intOf]; omega
                | succ m =>
                  obtain ⟨x', y', hx'⟩ : ∃ x' y', c.l[m] = (x', y') := ⟨_, _, rfl⟩
                  have f0 := (hcsH.out m (by omega)).1
                  have f1 := (hcsH.out m (by omega)).2
                  rw [hx'] at f0 f1
                  have hxH' : Hid (c.l[m] = (x', y')) := hx'
                  clear hx'
                  have g0 := (rG.trans hg2).cellG (a := ⟨b, off + m * 2, none⟩) hb f0
                  have g1 := (rG.trans hg2).cellG (a := ⟨b, off + m * 2 + 1, none⟩) hb f1
                  obtain ⟨b0, b1⟩ := hbx
                  clear f0 f1
                  generalize grow (W.drewN nq) osq = W2 at b0 b1 g42 hgW2 g0 g1 ⊢
                  cases hbe : befB (x', y') (x, y)
                  · have hfin : Hid (errC c = 5) := errC_form hokH.out (by omega) hlt (by rw [okAt_succ hlt hxH.out hxH'.out, hri, hbe]; rfl)
                    have hge := ordI_not hbe
                    go_wp2
                    refine wp_region_quiet_grown mixed (by kernel_rfl) ?_
                    repeat (go_big_quiet_step ((go_at_call 84; refine Calls.grown_of (order_g rfl _))))
                    refine wpQuiet_nil ?_
                    rintro _ ⟨⟨nq2, osq2⟩, rfl⟩
                    go_wp2
                    go_ret
                    rw [hfin.out]
                    exact ⟨rfl, (unbox hgW2).trans ⟨nq2, osq2, rfl⟩⟩
                  · have hge := ordI_bef hbe
                    have hoka : Hid (okAt c (m + 1) = true) := by
                      show okAt c (m + 1) = true
                      rw [okAt_succ hlt hxH.out hxH'.out, hri, hbe]; simp; omega
                    go_wp2
                    refine wp_region_quiet_grown mixed (by kernel_rfl) ?_
                    repeat (go_big_quiet_step ((go_at_call 84; refine Calls.grown_of (order_g hge _))))
                    refine wpQuiet_nil ?_
                    rintro _ ⟨⟨nq2, osq2⟩, rfl⟩
                    go_wp2
                    go_roundw
                    case rel =>
                      refine ⟨_, hlt, by go_num, ?_, hgW2.trans ⟨nq2, osq2, rfl⟩⟩
                      intro j hj
                      by_cases e : j = m + 1
                      · rw [e]; exact hoka.out
                      · exact hall j (by omega)
                    case measure => simp [intOf]; omega
          · have hltz : ¬ (k : Int) < (c.l.length : Int) := by omega
            have hfin : Hid (errC c = 0) := errC_ok hokH.out (by omega) fun j hj => hall j (by omega)
            go_wp2
            go_ret
            rw [hfin.out]
            exact ⟨rfl, unbox hgr⟩

end Go.Proofs.YtnkpfhipgcmplaaGreatDoor
