/-
  viewref.Context: it says what is wrong with a context.
-/
import Derived.Test.YtbhhpijidbhipaaLeaf
namespace Go.Proofs.Ytbhhpijidbhipaa
open Go.RowKit Go.Sort

set_option maxHeartbeats 1000000 in
theorem rcontext_any (c : Ctx) (A : Option Addr) (cap : Nat) (w : World) (hl : c.l.length ≤ maxLen) (hr : Row w A c.l) :
    Calls Try.prog 18 #[.agg #[.int .i64 c.c0, .int .i64 c.c1, .int .i64 c.c2, .int .i64 c.c3, .slice A c.l.length cap]] w fun e w' => e = .returned (.int .i64 (errC c)) ∧ Gr w w' := by
  unfold maxLen at hl
  go_enter Try.func18, Try.ntmps18
  go_wp2
  go_loopw [3] (fun i wr => ∃ k : Nat, k ≤ 4 ∧ i = .int .i64 k ∧ Hid (∀ a : Int, 0 ≤ a → a < k → inB (clk c a) 0 1099511627776 = true) ∧ Gr (w.alloc (.cells #[.int .i64 c.c0, .int .i64 c.c1, .int .i64 c.c2, .int .i64 c.c3, .slice A c.l.length cap] 25)) wr) (fun i _ => 4 - (intOf i).toNat)
  case atStart => exact ⟨0, by omega, rfl, fun a h0 h1 => by omega, Gr.refl _⟩
  case round =>
    obtain ⟨k, hk, rfl, hin, hgr⟩ := hrel
    by_cases hlt : k < 4
    · have hltz : (k : Int) < 4 := by omega
      have kc := box1 hgr (clkCell (c := c) (a := (k : Int)) (by omega) hltz)
      rw [Int.toNat_natCast] at kc
      cases hi : inB (clk c (k : Int)) 0 1099511627776
      · have hfin : Hid (errC c = 1) := errC_clk (by omega) hltz hi
        go_wp2_with (go_at_call 21; refine (in_no hi _).mono ?_; rintro e w' ⟨rfl, rfl⟩)
        go_ret
        rw [hfin.out]
        exact ⟨rfl, unbox hgr⟩
      · go_wp2_with (go_at_call 21; refine (in_yes hi _).mono ?_; rintro e w' ⟨rfl, rfl⟩)
        go_roundw
        case rel =>
          refine ⟨k + 1, by omega, by go_num, ?_, hgr⟩
          intro a h0 h1
          by_cases e : a = (k : Int)
          · rw [e]; exact hi
          · exact hin a h0 (by omega)
        case measure => simp [intOf]; omega
    · obtain rfl : k = 4 := by omega
      have k4 := box1 hgr (j := 4) rfl
      have hok : okClk c = true := okClk_of fun a h0 h4 => hin a h0 (by omega)
      by_cases h400 : 400 < c.l.length
      · have h400z : (400 : Int) < (c.l.length : Int) := by omega
        have hfin : Hid (errC c = 2) := errC_large hok h400
        go_wp2
        go_ret
        rw [hfin.out]
        exact ⟨rfl, unbox hgr⟩
      · have h400z : ¬ (400 : Int) < (c.l.length : Int) := by omega
        have hokH : Hid (okClk c = true) := hok
        clear hok
        go_wp2
        clear k4 hin
        go_loopw [4] (fun i wr => ∃ k : Nat, k ≤ c.l.length ∧ i = .int .i64 k ∧ Hid (∀ j, j < k → okAt c j = true) ∧ Gr (w.alloc (.cells #[.int .i64 c.c0, .int .i64 c.c1, .int .i64 c.c2, .int .i64 c.c3, .slice A c.l.length cap] 25)) wr) (fun i _ => c.l.length - (intOf i).toNat)
        case atStart => exact ⟨0, by omega, rfl, fun j h => by omega, hgr⟩
        case round =>
          clear hgr
          rename World => wr0
          obtain ⟨k, hk, rfl, hall, hgr⟩ := hrel
          have k4 := box1 hgr (j := 4) rfl
          by_cases hlt : k < c.l.length
          · have hltz : (k : Int) < (c.l.length : Int) := by omega
            obtain ⟨b, off, rfl, hb, hcs⟩ := (hr.gr (unbox hgr)).at hlt
            obtain ⟨x, y, hx⟩ : ∃ x y, c.l[k] = (x, y) := ⟨_, _, rfl⟩
            have e0 := (hcs k hlt).1
            have e1 := (hcs k hlt).2
            rw [hx] at e0 e1
            have hcsH : Hid (∀ j (h : j < c.l.length), _) := hcs
            have hxH : Hid (c.l[k] = (x, y)) := hx
            clear hcs hx
            cases hri : rightB (x, y)
            · have hfin : Hid (errC c = 5) := by
                refine errC_form hokH.out (by omega) hlt ?_
                cases k with
                | zero => rw [okAt_zero hlt hxH.out, hri]; rfl
                | succ m => rw [okAt_succ hlt hxH.out rfl, hri]; rfl
              go_wp2
              have d0 := box1G (Gr.refl (wr0.alloc (.cells #[.int .i64 x, .int .i64 y] 51))) (j := 0) rfl
              have d1 := box1G (Gr.refl (wr0.alloc (.cells #[.int .i64 x, .int .i64 y] 51))) (j := 1) rfl
              have hgW := (hgr.alloc (.cells #[.int .i64 x, .int .i64 y] 51))
              generalize wr0.alloc (.cells #[.int .i64 x, .int .i64 y] 51) = W at d0 d1 hgW ⊢
              have mixed : Try.prog.follows .mixedOrders = true := by kernel_rfl
              refine wp_region_quiet_grown mixed (by kernel_rfl) ?_
              repeat (go_big_quiet_step ((go_at_call 19; refine Calls.grown_of (right_g hri _))))
              refine wpQuiet_nil ?_
              rintro _ ⟨⟨nq, osq⟩, rfl⟩
              go_wp2
              go_ret
              rw [hfin.out]
              exact ⟨rfl, (unbox hgW).trans ⟨nq, osq, rfl⟩⟩
            · have hn := rightB_node hri
              have hcb := clk_of_ok hokH.out x hn.1 hn.2.1
              cases k with
              | zero =>
                simp only [Nat.zero_mul, Nat.add_zero] at e0 e1
                by_cases hs : y < clk c x + 2
                · have hfin : Hid (errC c = 5) := errC_form hokH.out (by omega) hlt (by rw [okAt_zero hlt hxH.out, hri]; simp; omega)
                  go_wp2
                  have d0 := box1G (Gr.refl (wr0.alloc (.cells #[.int .i64 x, .int .i64 y] 51))) (j := 0) rfl
                  have d1 := box1G (Gr.refl (wr0.alloc (.cells #[.int .i64 x, .int .i64 y] 51))) (j := 1) rfl
                  have hgW := (hgr.alloc (.cells #[.int .i64 x, .int .i64 y] 51))
                  have g4 := box1G hgW (j := 4) rfl
                  have gc := box1G hgW (clkCell (c := c) hn.1 hn.2.1)
                  generalize wr0.alloc (.cells #[.int .i64 x, .int .i64 y] 51) = W at d0 d1 hgW g4 gc ⊢
                  have mixed : Try.prog.follows .mixedOrders = true := by kernel_rfl
                  refine wp_region_quiet_grown mixed (by kernel_rfl) ?_
                  repeat (go_big_quiet_step ((first | (go_at_call 19; refine Calls.grown_of (right_g hri _)))))
                  refine wpQuiet_nil ?_
                  rintro _ ⟨⟨nq, osq⟩, rfl⟩
                  go_wp2
                  go_ret
                  rw [hfin.out]
                  exact ⟨rfl, (unbox hgW).trans ⟨nq, osq, rfl⟩⟩
                · have hoka : Hid (okAt c 0 = true) := by
                    show okAt c 0 = true
                    rw [okAt_zero hlt hxH.out, hri]; simp; omega
                  have hsb : decide (y < clk c x + 2) = false := by simpa using hs
                  go_wp2
                  have d0 := box1G (Gr.refl (wr0.alloc (.cells #[.int .i64 x, .int .i64 y] 51))) (j := 0) rfl
                  have d1 := box1G (Gr.refl (wr0.alloc (.cells #[.int .i64 x, .int .i64 y] 51))) (j := 1) rfl
                  have hgW := (hgr.alloc (.cells #[.int .i64 x, .int .i64 y] 51))
                  have g4 := box1G hgW (j := 4) rfl
                  have gc := box1G hgW (clkCell (c := c) hn.1 hn.2.1)
                  generalize wr0.alloc (.cells #[.int .i64 x, .int .i64 y] 51) = W at d0 d1 hgW g4 gc ⊢
                  have mixed : Try.prog.follows .mixedOrders = true := by kernel_rfl
                  refine wp_region_quiet_grown mixed (by kernel_rfl) ?_
                  repeat (go_big_quiet_step ((first | (go_at_call 19; refine Calls.grown_of (right_g hri _)))))
                  refine wpQuiet_nil ?_
                  rintro _ ⟨⟨nq, osq⟩, rfl⟩
                  go_wp2
                  go_roundw
                  case rel =>
                    refine ⟨_, hlt, by go_num, ?_, hgW.trans ⟨nq, osq, rfl⟩⟩
                    intro j hj
                    by_cases e : j = 0
                    · rw [e]; exact hoka.out
                    · exact hall j (by omega)
                  case measure => simp [intOf]; omega
              | succ m =>
                obtain ⟨x', y', hx'⟩ : ∃ x' y', c.l[m] = (x', y') := ⟨_, _, rfl⟩
                have f0 := (hcsH.out m (by omega)).1
                have f1 := (hcsH.out m (by omega)).2
                rw [hx'] at f0 f1
                have hxH' : Hid (c.l[m] = (x', y')) := hx'
                clear hx'
                cases hbe : befB (x', y') (x, y)
                · have hfin : Hid (errC c = 5) := errC_form hokH.out (by omega) hlt (by rw [okAt_succ hlt hxH.out hxH'.out, hri, hbe]; rfl)
                  go_wp2
                  have d0 := box1G (Gr.refl (wr0.alloc (.cells #[.int .i64 x, .int .i64 y] 51))) (j := 0) rfl
                  have d1 := box1G (Gr.refl (wr0.alloc (.cells #[.int .i64 x, .int .i64 y] 51))) (j := 1) rfl
                  have hgW := (hgr.alloc (.cells #[.int .i64 x, .int .i64 y] 51))
                  have g4 := box1G hgW (j := 4) rfl
                  have gc := box1G hgW (clkCell (c := c) hn.1 hn.2.1)
                  have g0 := ((Gr.refl wr0).alloc (.cells #[.int .i64 x, .int .i64 y] 51)).cellG (a := ⟨b, off + m * 2, none⟩) hb f0
                  have g1 := ((Gr.refl wr0).alloc (.cells #[.int .i64 x, .int .i64 y] 51)).cellG (a := ⟨b, off + m * 2 + 1, none⟩) hb f1
                  generalize wr0.alloc (.cells #[.int .i64 x, .int .i64 y] 51) = W at d0 d1 hgW g4 gc g0 g1 ⊢
                  have mixed : Try.prog.follows .mixedOrders = true := by kernel_rfl
                  refine wp_region_quiet_grown mixed (by kernel_rfl) ?_
                  repeat (go_big_quiet_step ((first | (go_at_call 19; refine Calls.grown_of (right_g hri _)) | (go_at_call 22; refine Calls.grown_of (before_g hbe _)))))
                  refine wpQuiet_nil ?_
                  rintro _ ⟨⟨nq, osq⟩, rfl⟩
                  go_wp2
                  go_ret
                  rw [hfin.out]
                  exact ⟨rfl, (unbox hgW).trans ⟨nq, osq, rfl⟩⟩
                · by_cases hs : y < clk c x + 2
                  · have hfin : Hid (errC c = 5) := errC_form hokH.out (by omega) hlt (by rw [okAt_succ hlt hxH.out hxH'.out, hri, hbe]; simp; omega)
                    go_wp2
                    have d0 := box1G (Gr.refl (wr0.alloc (.cells #[.int .i64 x, .int .i64 y] 51))) (j := 0) rfl
                    have d1 := box1G (Gr.refl (wr0.alloc (.cells #[.int .i64 x, .int .i64 y] 51))) (j := 1) rfl
                    have hgW := (hgr.alloc (.cells #[.int .i64 x, .int .i64 y] 51))
                    have g4 := box1G hgW (j := 4) rfl
                    have gc := box1G hgW (clkCell (c := c) hn.1 hn.2.1)
                    have g0 := ((Gr.refl wr0).alloc (.cells #[.int .i64 x, .int .i64 y] 51)).cellG (a := ⟨b, off + m * 2, none⟩) hb f0
                    have g1 := ((Gr.refl wr0).alloc (.cells #[.int .i64 x, .int .i64 y] 51)).cellG (a := ⟨b, off + m * 2 + 1, none⟩) hb f1
                    generalize wr0.alloc (.cells #[.int .i64 x, .int .i64 y] 51) = W at d0 d1 hgW g4 gc g0 g1 ⊢
                    have mixed : Try.prog.follows .mixedOrders = true := by kernel_rfl
                    refine wp_region_quiet_grown mixed (by kernel_rfl) ?_
                    repeat (go_big_quiet_step ((first | (go_at_call 19; refine Calls.grown_of (right_g hri _)) | (go_at_call 22; refine Calls.grown_of (before_g hbe _)))))
                    refine wpQuiet_nil ?_
                    rintro _ ⟨⟨nq, osq⟩, rfl⟩
                    go_wp2
                    go_ret
                    rw [hfin.out]
                    exact ⟨rfl, (unbox hgW).trans ⟨nq, osq, rfl⟩⟩
                  · have hoka : Hid (okAt c (m + 1) = true) := by
                      show okAt c (m + 1) = true
                      rw [okAt_succ hlt hxH.out hxH'.out, hri, hbe]; simp; omega
                    have hsb : decide (y < clk c x + 2) = false := by simpa using hs
                    go_wp2
                    have d0 := box1G (Gr.refl (wr0.alloc (.cells #[.int .i64 x, .int .i64 y] 51))) (j := 0) rfl
                    have d1 := box1G (Gr.refl (wr0.alloc (.cells #[.int .i64 x, .int .i64 y] 51))) (j := 1) rfl
                    have hgW := (hgr.alloc (.cells #[.int .i64 x, .int .i64 y] 51))
                    have g4 := box1G hgW (j := 4) rfl
                    have gc := box1G hgW (clkCell (c := c) hn.1 hn.2.1)
                    have g0 := ((Gr.refl wr0).alloc (.cells #[.int .i64 x, .int .i64 y] 51)).cellG (a := ⟨b, off + m * 2, none⟩) hb f0
                    have g1 := ((Gr.refl wr0).alloc (.cells #[.int .i64 x, .int .i64 y] 51)).cellG (a := ⟨b, off + m * 2 + 1, none⟩) hb f1
                    generalize wr0.alloc (.cells #[.int .i64 x, .int .i64 y] 51) = W at d0 d1 hgW g4 gc g0 g1 ⊢
                    have mixed : Try.prog.follows .mixedOrders = true := by kernel_rfl
                    refine wp_region_quiet_grown mixed (by kernel_rfl) ?_
                    repeat (go_big_quiet_step ((first | (go_at_call 19; refine Calls.grown_of (right_g hri _)) | (go_at_call 22; refine Calls.grown_of (before_g hbe _)))))
                    refine wpQuiet_nil ?_
                    rintro _ ⟨⟨nq, osq⟩, rfl⟩
                    go_wp2
                    go_roundw
                    case rel =>
                      refine ⟨_, hlt, by go_num, ?_, hgW.trans ⟨nq, osq, rfl⟩⟩
                      intro j hj
                      by_cases e : j = m + 1
                      · rw [e]; exact hoka.out
                      · exact hall j (by omega)
                    case measure => simp [intOf]; omega
          · have hltz : ¬ (k : Int) < (c.l.length : Int) := by omega
            have hfin : Hid (errC c = 0) := errC_ok hokH.out (by omega) fun j hj => hall j (by omega)
            go_wp2
            go_ret
            rw [hfin.out]
            exact ⟨rfl, unbox hgr⟩

end Go.Proofs.Ytbhhpijidbhipaa
