/-
  dot.Check: it says what is wrong with a context.
  dot.Has: whether a context has a dot. dot.Next: the next dot of a node.
  table.Check: it says what is wrong with a table.
-/
import Derived.Test.YtmoicbmhjmdgdaaGreatM03
import Derived.Test.YtmoicbmhjmdgdaaGreatM04
namespace Go.Proofs.YtmoicbmhjmdgdaaGreat
open Go.RowKit Go.Sort

/-- The box of a dot, in a world that has grown of the one in which it was laid. -/
theorem dotBox {w W : World} {x y : Int} {T : TypeId} (h : Gr (w.alloc (.cells #[.int .i64 x, .int .i64 y] T)) W) : (∀ n os, (grow (W.drewN n) os).cell? ⟨w.heap.size, 0, none⟩ = some (.int .i64 x)) ∧ (∀ n os, (grow (W.drewN n) os).cell? ⟨w.heap.size, 1, none⟩ = some (.int .i64 y)) :=
 ⟨box1G h rfl, box1G h rfl⟩

set_option maxHeartbeats 2000000 in
theorem check_any (c : Ctx) (A : Option Addr) (cap : Nat) (w : World) (hl : c.l.length ≤ maxLen) (hr : Row w A c.l) :
  Calls Tryz.prog 43 #[.agg #[.int .i64 c.c0, .int .i64 c.c1, .int .i64 c.c2, .int .i64 c.c3, .slice A c.l.length cap]] w fun e w' => e = .returned (.int .i64 (errC c)) ∧ Gr w w' := by
 unfold maxLen at hl
 have mixed : Tryz.prog.follows .mixedOrders = true := by kernel_rfl
 have i0 : ∀ w, (Instr.index 42 (.agg #[.int .i64 c.c0, .int .i64 c.c1, .int .i64 c.c2, .int .i64 c.c3]) (.int .i64 0)).run Tryz.prog w = .ok (.int .i64 (clk c 0)) w := fun _ => by kernel_rfl
 have i1 : ∀ w, (Instr.index 42 (.agg #[.int .i64 c.c0, .int .i64 c.c1, .int .i64 c.c2, .int .i64 c.c3]) (.int .i64 1)).run Tryz.prog w = .ok (.int .i64 (clk c 1)) w := fun _ => by kernel_rfl
 have i2 : ∀ w, (Instr.index 42 (.agg #[.int .i64 c.c0, .int .i64 c.c1, .int .i64 c.c2, .int .i64 c.c3]) (.int .i64 2)).run Tryz.prog w = .ok (.int .i64 (clk c 2)) w := fun _ => by kernel_rfl
 have i3 : ∀ w, (Instr.index 42 (.agg #[.int .i64 c.c0, .int .i64 c.c1, .int .i64 c.c2, .int .i64 c.c3]) (.int .i64 3)).run Tryz.prog w = .ok (.int .i64 (clk c 3)) w := fun _ => by kernel_rfl
 go_enter Tryz.func43, Tryz.ntmps43
 go_wp2
 go_loopw [9] (fun i wr => ∃ k : Nat, k ≤ 4 ∧ i = .int .i64 k ∧ Hid (∀ a : Int, 0 ≤ a → a < k → inB (clk c a) 0 1099511627776 = true) ∧ Gr (w.alloc (.cells #[.int .i64 c.c0, .int .i64 c.c1, .int .i64 c.c2, .int .i64 c.c3, .slice A c.l.length cap] 45)) wr) (fun i _ => 4 - (intOf i).toNat)
 case atStart => exact ⟨0, by omega, rfl, fun a h0 h1 => by omega, Gr.refl _⟩
 case round =>
  obtain ⟨k, hk, rfl, hin, hgr⟩ := hrel
  by_cases hlt : k < 4
  ·have hltz : (k : Int) < 4 := by omega
   have ik : ∀ w, (Instr.index 42 (.agg #[.int .i64 c.c0, .int .i64 c.c1, .int .i64 c.c2, .int .i64 c.c3]) (.int .i64 k)).run Tryz.prog w = .ok (.int .i64 (clk c k)) w := by
    have h4 : k = 0 ∨ k = 1 ∨ k = 2 ∨ k = 3 := by omega
    rcases h4 with rfl | rfl | rfl | rfl
    ·exact i0
    ·exact i1
    ·exact i2
    ·exact i3
   clear i0 i1 i2 i3
   have hpos : clk c (k : Int) < 0 ∨ 1099511627776 < clk c (k : Int) ∨ (¬ clk c (k : Int) < 0 ∧ ¬ 1099511627776 < clk c (k : Int)) := by omega
   rcases hpos with h1 | h1 | ⟨h1, h2⟩
   ·have hfin : Hid (errC c = 1) := errC_clk (by omega) hltz (by simp [inB]; omega)
    go_wp2
    go_ret
    rw [hfin.out]
    exact ⟨rfl, unbox hgr⟩
   ·have hfin : Hid (errC c = 1) := errC_clk (by omega) hltz (by simp [inB]; omega)
    have h1b : ¬ clk c (k : Int) < 0 := by omega
    go_wp2
    go_ret
    rw [hfin.out]
    exact ⟨rfl, unbox hgr⟩
   ·have hi : Hid (inB (clk c (k : Int)) 0 1099511627776 = true) := by show inB _ _ _ = true; simp [inB]; omega
    go_wp2
    go_roundw
    case rel =>
     refine ⟨k + 1, by omega, by go_num, ?_, hgr⟩
     intro a h0 h1
     by_cases e : a = (k : Int)
     ·rw [e]; exact hi
     ·exact hin a h0 (by omega)
    case measure => simp [intOf]; omega
  ·clear i0 i1 i2 i3
   obtain rfl : k = 4 := by omega
   have k4 := box1 hgr (j := 4) rfl
   have hok : okClk c = true := okClk_of fun a h0 h4 => hin a h0 (by omega)
   by_cases h400 : 400 < c.l.length
   ·have h400z : (400 : Int) < (c.l.length : Int) := by omega
    have hfin : Hid (errC c = 2) := errC_large hok h400
    go_wp2
    go_ret
    rw [hfin.out]
    exact ⟨rfl, unbox hgr⟩
   ·have h400z : ¬ (400 : Int) < (c.l.length : Int) := by omega
    have hokH : Hid (okClk c = true) := hok
    clear hok
    go_wp2
    clear k4 hin
    go_loopw [26] (fun i wr => ∃ k : Nat, k ≤ c.l.length ∧ i = .int .i64 k ∧ Hid (∀ j, j < k → okAt c j = true) ∧ Gr (w.alloc (.cells #[.int .i64 c.c0, .int .i64 c.c1, .int .i64 c.c2, .int .i64 c.c3, .slice A c.l.length cap] 45)) wr) (fun i _ => c.l.length - (intOf i).toNat)
    case atStart => exact ⟨0, by omega, rfl, fun j h => by omega, hgr⟩
    case round =>
     clear hgr
     rename World => wr0
     obtain ⟨k, hk, rfl, hall, hgr⟩ := hrel
     by_cases hlt : k < c.l.length
     ·have hltz : (k : Int) < (c.l.length : Int) := by omega
      obtain ⟨b, off, rfl, hb, hcs⟩ := (hr.gr (unbox hgr)).at hlt
      obtain ⟨x, y, hx⟩ : ∃ x y, c.l[k] = (x, y) := ⟨_, _, rfl⟩
      have e0 := (hcs k hlt).1
      have e1 := (hcs k hlt).2
      rw [hx] at e0 e1
      have hcsH : Hid (∀ j (h : j < c.l.length), _) := hcs
      have hxH : Hid (c.l[k] = (x, y)) := hx
      clear hcs hx
      cases hri : rightB (x, y)
      ·have hfin : Hid (errC c = 5) := by
        refine errC_form hokH.out (by omega) hlt ?_
        cases k with
        | zero => rw [okAt_zero hlt hxH.out, hri]; rfl
        | succ m => rw [okAt_succ hlt hxH.out rfl, hri]; rfl
       go_wp2
       have d0 := box1G (Gr.refl (wr0.alloc (.cells #[.int .i64 x, .int .i64 y] 85))) (j := 0) rfl
       have d1 := box1G (Gr.refl (wr0.alloc (.cells #[.int .i64 x, .int .i64 y] 85))) (j := 1) rfl
       have hgW := (hgr.alloc (.cells #[.int .i64 x, .int .i64 y] 85))
       have rG := ((Gr.refl wr0).alloc (.cells #[.int .i64 x, .int .i64 y] 85))
       have dG := fun X (hX : Gr (wr0.alloc (.cells #[.int .i64 x, .int .i64 y] 85)) X) => dotBox hX
       have g4 := box1G hgW (j := 4) rfl
       have hsz : wr0.heap.size < (wr0.alloc (.cells #[.int .i64 x, .int .i64 y] 85)).heap.size := by simp
       generalize wr0.alloc (.cells #[.int .i64 x, .int .i64 y] 85) = W at d0 d1 hgW rG dG g4 hsz ⊢
       refine wp_region_quiet_grown mixed (by kernel_rfl) ?_
       repeat (go_big_quiet_step ((go_at_call 67; refine Calls.grown_of (dright_g hri _))))
       refine wpQuiet_nil ?_
       rintro _ ⟨⟨nq, osq⟩, rfl⟩
       go_wp2
       go_ret
       rw [hfin.out]
       exact ⟨rfl, (unbox hgW).trans ⟨nq, osq, rfl⟩⟩
      ·have hn := rightB_node hri
       have hcb := clk_of_ok hokH.out x hn.1 hn.2.1
       by_cases hs : y ≤ clk c x + 1
       ·have hfin : Hid (errC c = 5) := by
         refine errC_form hokH.out (by omega) hlt ?_
         cases k with
         | zero => rw [okAt_zero hlt hxH.out, hri]; simp; omega
         | succ m => rw [okAt_succ hlt hxH.out rfl, hri]; simp; omega
        go_wp2
        have d0 := box1G (Gr.refl (wr0.alloc (.cells #[.int .i64 x, .int .i64 y] 85))) (j := 0) rfl
        have d1 := box1G (Gr.refl (wr0.alloc (.cells #[.int .i64 x, .int .i64 y] 85))) (j := 1) rfl
        have hgW := (hgr.alloc (.cells #[.int .i64 x, .int .i64 y] 85))
        have rG := ((Gr.refl wr0).alloc (.cells #[.int .i64 x, .int .i64 y] 85))
        have dG := fun X (hX : Gr (wr0.alloc (.cells #[.int .i64 x, .int .i64 y] 85)) X) => dotBox hX
        have g4 := box1G hgW (j := 4) rfl
        have gc := box1G hgW (clkCell (c := c) hn.1 hn.2.1)
        have hsz : wr0.heap.size < (wr0.alloc (.cells #[.int .i64 x, .int .i64 y] 85)).heap.size := by simp
        generalize wr0.alloc (.cells #[.int .i64 x, .int .i64 y] 85) = W at d0 d1 hgW rG dG g4 gc hsz ⊢
        refine wp_region_quiet_grown mixed (by kernel_rfl) ?_
        repeat (go_big_quiet_step ((go_at_call 67; refine Calls.grown_of (dright_g hri _))))
        refine wpQuiet_nil ?_
        rintro _ ⟨⟨nq, osq⟩, rfl⟩
        go_wp2
        go_ret
        rw [hfin.out]
        exact ⟨rfl, (unbox hgW).trans ⟨nq, osq, rfl⟩⟩
       ·have hsb : decide (y ≤ clk c x + 1) = false := by simpa using hs
        go_wp2
        have d0 := box1G (Gr.refl (wr0.alloc (.cells #[.int .i64 x, .int .i64 y] 85))) (j := 0) rfl
        have d1 := box1G (Gr.refl (wr0.alloc (.cells #[.int .i64 x, .int .i64 y] 85))) (j := 1) rfl
        have hgW := (hgr.alloc (.cells #[.int .i64 x, .int .i64 y] 85))
        have rG := ((Gr.refl wr0).alloc (.cells #[.int .i64 x, .int .i64 y] 85))
        have dG := fun X (hX : Gr (wr0.alloc (.cells #[.int .i64 x, .int .i64 y] 85)) X) => dotBox hX
        have g4 := box1G hgW (j := 4) rfl
        have gc := box1G hgW (clkCell (c := c) hn.1 hn.2.1)
        have hsz : wr0.heap.size < (wr0.alloc (.cells #[.int .i64 x, .int .i64 y] 85)).heap.size := by simp
        generalize wr0.alloc (.cells #[.int .i64 x, .int .i64 y] 85) = W at d0 d1 hgW rG dG g4 gc hsz ⊢
        refine wp_region_quiet_grown mixed (by kernel_rfl) ?_
        repeat (go_big_quiet_step ((go_at_call 67; refine Calls.grown_of (dright_g hri _))))
        refine wpQuiet_nil ?_
        rintro _ ⟨⟨nq, osq⟩, rfl⟩
        have hg2 : Gr W (grow (W.drewN nq) osq) := ⟨nq, osq, rfl⟩
        have hbx := dG _ hg2
        have g42 := box1G (hgW.trans hg2) (j := 4) rfl
        have hgW2 := hgW.trans hg2
        clear d0 d1 g4 gc
        cases k with
        | zero =>
         have hoka : Hid (okAt c 0 = true) := by
          show okAt c 0 = true
          rw [okAt_zero hlt hxH.out, hri]; simp; omega
         obtain ⟨b0, b1⟩ := hbx
         generalize grow (W.drewN nq) osq = W2 at b0 b1 g42 hgW2 ⊢
         go_wp2
         refine wp_region_quiet_grown mixed (by kernel_rfl) ?_
         repeat (go_big_quiet_step (fail))
         refine wpQuiet_nil ?_
         rintro _ ⟨⟨nq2, osq2⟩, rfl⟩
         go_wp2
         go_roundw
         case rel =>
          refine ⟨_, hlt, by go_num, ?_, hgW2.trans ⟨nq2, osq2, rfl⟩⟩
          intro j hj
          by_cases e : j = 0
          ·rw [e]; exact hoka.out
          ·exact hall j (by omega)
         case measure => simp [intOf]; omega
        | succ m =>
         obtain ⟨x', y', hx'⟩ : ∃ x' y', c.l[m] = (x', y') := ⟨_, _, rfl⟩
         have f0 := (hcsH.out m (by omega)).1
         have f1 := (hcsH.out m (by omega)).2
         rw [hx'] at f0 f1
         have hxH' : Hid (c.l[m] = (x', y')) := hx'
         clear hx'
         have g0 := (rG.trans hg2).cellG (a := ⟨b, off + m * 2, none⟩) hb f0
         have g1 := (rG.trans hg2).cellG (a := ⟨b, off + m * 2 + 1, none⟩) hb f1
         obtain ⟨b0, b1⟩ := hbx
         clear f0 f1
         generalize grow (W.drewN nq) osq = W2 at b0 b1 g42 hgW2 g0 g1 ⊢
         cases hbe : befB (x', y') (x, y)
         ·have hfin : Hid (errC c = 5) := errC_form hokH.out (by omega) hlt (by rw [okAt_succ hlt hxH.out hxH'.out, hri, hbe]; rfl)
          have hge := ordI_not hbe
          go_wp2
          refine wp_region_quiet_grown mixed (by kernel_rfl) ?_
          repeat (go_big_quiet_step ((go_at_call 68; refine Calls.grown_of (order_g rfl _))))
          refine wpQuiet_nil ?_
          rintro _ ⟨⟨nq2, osq2⟩, rfl⟩
          go_wp2
          go_ret
          rw [hfin.out]
          exact ⟨rfl, (unbox hgW2).trans ⟨nq2, osq2, rfl⟩⟩
         ·have hge := ordI_bef hbe
          have hoka : Hid (okAt c (m + 1) = true) := by
           show okAt c (m + 1) = true
           rw [okAt_succ hlt hxH.out hxH'.out, hri, hbe]; simp; omega
          go_wp2
          refine wp_region_quiet_grown mixed (by kernel_rfl) ?_
          repeat (go_big_quiet_step ((go_at_call 68; refine Calls.grown_of (order_g hge _))))
          refine wpQuiet_nil ?_
          rintro _ ⟨⟨nq2, osq2⟩, rfl⟩
          go_wp2
          go_roundw
          case rel =>
           refine ⟨_, hlt, by go_num, ?_, hgW2.trans ⟨nq2, osq2, rfl⟩⟩
           intro j hj
           by_cases e : j = m + 1
           ·rw [e]; exact hoka.out
           ·exact hall j (by omega)
          case measure => simp [intOf]; omega
     ·have hltz : ¬ (k : Int) < (c.l.length : Int) := by omega
      have hfin : Hid (errC c = 0) := errC_ok hokH.out (by omega) fun j hj => hall j (by omega)
      go_wp2
      go_ret
      rw [hfin.out]
      exact ⟨rfl, unbox hgr⟩

end Go.Proofs.YtmoicbmhjmdgdaaGreat

namespace Go.Proofs.YtmoicbmhjmdgdaaGreat
open Go.RowKit Go.Sort

theorem hasB_clk {c : Ctx} {a b : Int} (h1 : inB a 0 3 = true) (h2 : 1 ≤ b) (h3 : b ≤ clk c a) : hasB c (a, b) = true := by simp [hasB, h1, h2, h3]
theorem hasB_mem {c : Ctx} {x : Int × Int} (h : ¬ (inB x.1 0 3 = true ∧ 1 ≤ x.2 ∧ x.2 ≤ clk c x.1)) : hasB c x = memB c.l x := by
 unfold hasB memB
 cases h1 : inB x.1 0 3
 ·simp
 ·by_cases h2 : 1 ≤ x.2
  ·have h3 : ¬ x.2 ≤ clk c x.1 := fun h3 => h ⟨h1, h2, h3⟩
   simp [h2, h3]
  ·simp [h2]

set_option maxHeartbeats 1000000 in
theorem has_any (c : Ctx) (A : Option Addr) (cap : Nat) (x : Int × Int) (w : World) (hl : c.l.length ≤ maxLen) (hr : Row w A c.l) :
  Calls Tryz.prog 44 #[.agg #[.int .i64 c.c0, .int .i64 c.c1, .int .i64 c.c2, .int .i64 c.c3, .slice A c.l.length cap], .agg #[.int .i64 x.1, .int .i64 x.2]] w fun e w' => e = .returned (.bool (hasB c x)) ∧ Gr w w' := by
 obtain ⟨a, b⟩ := x
 have hgr := ((Gr.refl ((w.alloc (.cells #[.int .i64 c.c0, .int .i64 c.c1, .int .i64 c.c2, .int .i64 c.c3, .slice A c.l.length cap] 45)).alloc (.cells #[.int .i64 a, .int .i64 b] 85))))
 have k4 := box1 (unbox_in hgr) (j := 4) rfl
 have d0 := box2 hgr (j := 0) rfl
 have d1 := box2 hgr (j := 1) rfl
 have hrow := hr.gr (unbox (unbox hgr))
 have hgw := unbox (unbox hgr)
 go_enter Tryz.func44, Tryz.ntmps44
 cases h1 : inB a 0 3
 ·have hfin : Hid (hasB c (a, b) = memB c.l (a, b)) := hasB_mem (by simp [h1])
  go_wp2
  generalize (w.alloc (.cells #[.int .i64 c.c0, .int .i64 c.c1, .int .i64 c.c2, .int .i64 c.c3, .slice A c.l.length cap] 45)).alloc (.cells #[.int .i64 a, .int .i64 b] 85) = W at k4 d0 d1 hrow hgw ⊢
  clear hgr
  go_quiet ((go_at_call 69; exact Calls.quiet_of_same (isNode_g h1 _)))
  go_wp2_with fail
  refine (contains_any c.l A cap (a, b) _ hl (hrow.gr ⟨nq, #[], by rw [grow_empty]⟩)).mono ?_
  rintro e w' ⟨rfl, hg⟩
  go_wp2
  go_ret
  rw [hfin.out]
  exact ⟨rfl, (hgw.trans ⟨nq, #[], by rw [grow_empty]⟩).trans hg⟩
 ·have hn : 0 ≤ a ∧ a < 4 := by simp [inB] at h1; omega
  have kc := box1 (unbox_in hgr) (clkCell (c := c) hn.1 hn.2)
  by_cases h2 : 1 ≤ b
  ·by_cases h3 : b ≤ clk c a
   ·have hfin : Hid (hasB c (a, b) = true) := hasB_clk h1 h2 h3
    go_wp2
    generalize (w.alloc (.cells #[.int .i64 c.c0, .int .i64 c.c1, .int .i64 c.c2, .int .i64 c.c3, .slice A c.l.length cap] 45)).alloc (.cells #[.int .i64 a, .int .i64 b] 85) = W at k4 d0 d1 hrow hgw kc ⊢
    clear hgr
    go_quiet ((go_at_call 69; exact Calls.quiet_of_same (isNode_g h1 _)))
    go_wp2
    go_ret
    rw [hfin.out]
    exact ⟨rfl, (hgw.trans ⟨nq, #[], by rw [grow_empty]⟩)⟩
   ·have hfin : Hid (hasB c (a, b) = memB c.l (a, b)) := hasB_mem (by simp [h3])
    have h3b : decide (b ≤ clk c a) = false := by simpa using h3
    go_wp2
    generalize (w.alloc (.cells #[.int .i64 c.c0, .int .i64 c.c1, .int .i64 c.c2, .int .i64 c.c3, .slice A c.l.length cap] 45)).alloc (.cells #[.int .i64 a, .int .i64 b] 85) = W at k4 d0 d1 hrow hgw kc ⊢
    clear hgr
    go_quiet ((go_at_call 69; exact Calls.quiet_of_same (isNode_g h1 _)))
    go_wp2_with fail
    refine (contains_any c.l A cap (a, b) _ hl (hrow.gr ⟨nq, #[], by rw [grow_empty]⟩)).mono ?_
    rintro e w' ⟨rfl, hg⟩
    go_wp2
    go_ret
    rw [hfin.out]
    exact ⟨rfl, (hgw.trans ⟨nq, #[], by rw [grow_empty]⟩).trans hg⟩
  ·have hfin : Hid (hasB c (a, b) = memB c.l (a, b)) := hasB_mem (by simp [h2])
   have h2b : decide (1 ≤ b) = false := by simpa using h2
   clear h2
   go_wp2
   generalize (w.alloc (.cells #[.int .i64 c.c0, .int .i64 c.c1, .int .i64 c.c2, .int .i64 c.c3, .slice A c.l.length cap] 45)).alloc (.cells #[.int .i64 a, .int .i64 b] 85) = W at k4 d0 d1 hrow hgw kc ⊢
   clear hgr
   go_quiet ((go_at_call 69; exact Calls.quiet_of_same (isNode_g h1 _)))
   go_wp2_with fail
   refine (contains_any c.l A cap (a, b) _ hl (hrow.gr ⟨nq, #[], by rw [grow_empty]⟩)).mono ?_
   rintro e w' ⟨rfl, hg⟩
   go_wp2
   go_ret
   rw [hfin.out]
   exact ⟨rfl, (hgw.trans ⟨nq, #[], by rw [grow_empty]⟩).trans hg⟩

end Go.Proofs.YtmoicbmhjmdgdaaGreat

namespace Go.Proofs.YtmoicbmhjmdgdaaGreat
open Go.RowKit Go.Sort

set_option maxHeartbeats 4000000 in
theorem checkT_any (t : Tab) (A : Option Addr) (ca : Nat) (D : Option Addr) (cd : Nat) (w : World) (hl : t.c.l.length ≤ maxLen) (hel : t.e.length ≤ maxLen) (hr : Row w A t.c.l) (hd : RowC w D t.e) :
  Calls Tryz.prog 26 #[.agg #[.int .i64 t.c.c0, .int .i64 t.c.c1, .int .i64 t.c.c2, .int .i64 t.c.c3, .slice A t.c.l.length ca, .slice D t.e.length cd]] w fun e w' => e = .returned (.int .i64 (errT t)) ∧ Gr w w' := by
 have mixed : Tryz.prog.follows .mixedOrders = true := by kernel_rfl
 have hg0 : Gr w (w.alloc (.cells #[.int .i64 t.c.c0, .int .i64 t.c.c1, .int .i64 t.c.c2, .int .i64 t.c.c3, .slice A t.c.l.length ca, .slice D t.e.length cd] 48)) := (Gr.refl w).alloc _
 have ht0 : TabAt (w.alloc (.cells #[.int .i64 t.c.c0, .int .i64 t.c.c1, .int .i64 t.c.c2, .int .i64 t.c.c3, .slice A t.c.l.length ca, .slice D t.e.length cd] 48)) w.heap.size t A ca D cd := TabAt.new 48 hr hd rfl
 have hck := check_any t.c A ca (w.alloc (.cells #[.int .i64 t.c.c0, .int .i64 t.c.c1, .int .i64 t.c.c2, .int .i64 t.c.c3, .slice A t.c.l.length ca, .slice D t.e.length cd] 48)) hl ht0.row
 have hckH : Hid _ := hck
 have hlH : Hid (t.c.l.length ≤ maxLen) := hl
 clear hck hl
 unfold maxLen at hel
 go_enter Tryz.func26, Tryz.ntmps26
 go_wp2_with fail
 refine Calls.mono (show Calls _ _ _ _ _ from hckH.out) ?_
 rintro e w1 ⟨rfl, hg1⟩
 clear hckH
 have ht1 := ht0.gr hg1
 have hgw1 : Gr w w1 := hg0.trans hg1
 clear ht0 hg0 hg1
 by_cases he : errC t.c = 0
 ·have heb : (errC t.c != 0) = false := by simpa using he
  have heH : Hid (errC t.c = 0) := he
  clear he
  obtain ⟨k0, k1, k2, k3, k4, k5, klt, krow, krowC⟩ := (show TabAt _ _ _ _ _ _ _ from ht1)
  by_cases h400 : 400 < t.e.length
  ·have h400z : (400 : Int) < (t.e.length : Int) := by omega
   have hfin : Hid (errT t = 2) := errT_large heH.out h400
   go_wp2
   go_ret
   rw [hfin.out]
   exact ⟨rfl, hgw1⟩
  ·have h400z : ¬ (400 : Int) < (t.e.length : Int) := by omega
   go_wp2
   clear k0 k1 k2 k3 k4 k5 krow krowC
   go_loopw [19] (fun i wr => ∃ k : Nat, k ≤ t.e.length ∧ i = .int .i64 k ∧ Hid (∀ j, j < k → okCel t j = true) ∧ Gr w1 wr) (fun i _ => t.e.length - (intOf i).toNat)
   case atStart => exact ⟨0, by omega, rfl, fun j h => by omega, Gr.refl _⟩
   case round =>
    rename World => wr0
    obtain ⟨k, hk, rfl, hall, hgr⟩ := hrel
    by_cases hlt : k < t.e.length
    ·have hltz : (k : Int) < (t.e.length : Int) := by omega
     have htR := ht1.gr hgr
     obtain ⟨b, off, rfl, hb, hcs⟩ := RowC.get htR.rowC hlt
     obtain ⟨x, hx⟩ : ∃ x, t.e[k] = x := ⟨_, rfl⟩
     obtain ⟨e0, e1, e2, e3, e4⟩ := hcs k hlt
     rw [hx] at e0 e1 e2 e3 e4
     have hcsH : Hid (∀ j (h : j < t.e.length), _) := hcs
     have hxH : Hid (t.e[k] = x) := hx
     clear hcs hx
     have hgX : Gr wr0 (wr0.alloc (.cells #[.int .i64 x.1.1, .int .i64 x.1.2, .int .i64 x.2.1, .int .i64 x.2.2.1, .int .i64 x.2.2.2] 87)) := (Gr.refl _).alloc _
     have hxX := CelAt.new (w := wr0) x 87 rfl
     have htX := htR.gr hgX
     obtain ⟨t0, t1, t2, t3, t4, t5, tlt, trow, trowC⟩ := (show TabAt _ _ _ _ _ _ _ from htX)
     obtain ⟨x0, x1, x2, x3, x4, xlt⟩ := (show CelAt _ _ _ from hxX)
     have hhas := has_any t.c A ca x.1 (wr0.alloc (.cells #[.int .i64 x.1.1, .int .i64 x.1.2, .int .i64 x.2.1, .int .i64 x.2.2.1, .int .i64 x.2.2.2] 87)) hlH.out trow
     have hhasH : Hid _ := hhas
     clear hhas
     go_wp2_with fail
     refine Calls.mono (show Calls _ _ _ _ _ from hhasH.out) ?_
     rintro e w2 ⟨rfl, hg2⟩
     clear hhasH t0 t1 t2 t3 t4 t5 x0 x1 x2 x3 x4 xlt tlt trow trowC
     have hgw2 : Gr w1 w2 := (hgr.trans hgX).trans hg2
     have hx2 := hxX.gr hg2
     have ht2 := htX.gr hg2
     obtain ⟨x0, x1, x2, x3, x4, xlt⟩ := (show CelAt _ _ _ from hx2)
     cases hhb : hasB t.c x.1
     ·have hfin : Hid (errT t = 5) := by
       refine errT_form heH.out (by omega) hlt ?_
       cases k with
       | zero => rw [okCel_zero hlt hxH.out, hhb]; rfl
       | succ m => rw [okCel_succ hlt hxH.out rfl, hhb]; rfl
      go_wp2
      go_ret
      rw [hfin.out]
      exact ⟨rfl, hgw1.trans hgw2⟩
     ·cases hpl : okPlace x.2.1 x.2.2.1 x.2.2.2
      ·have hfin : Hid (errT t = 5) := by
        refine errT_form heH.out (by omega) hlt ?_
        cases k with
        | zero => rw [okCel_zero hlt hxH.out, hpl]; simp
        | succ m => rw [okCel_succ hlt hxH.out rfl, hpl]; simp
       go_wp2_with (go_at_call 45; refine (isCell_g hpl _).mono ?_; rintro e w' ⟨rfl, rfl⟩)
       go_ret
       rw [hfin.out]
       exact ⟨rfl, hgw1.trans hgw2⟩
      ·cases k with
       | zero =>
        have hoka : Hid (okCel t 0 = true) := by
         show okCel t 0 = true
         rw [okCel_zero hlt hxH.out, hhb, hpl]; rfl
        go_wp2_with (first | (go_at_call 45; refine (isCell_g hpl _).mono ?_; rintro e w2 ⟨rfl, rfl⟩) | fail)
        refine wp_region_quiet_grown mixed (by kernel_rfl) ?_
        repeat (go_big_quiet_step (fail))
        refine wpQuiet_nil ?_
        rintro _ ⟨⟨nq2, osq2⟩, rfl⟩
        go_wp2
        go_roundw
        case rel =>
         refine ⟨_, hlt, by go_num, ?_, hgw2.trans ⟨nq2, osq2, rfl⟩⟩
         intro j hj
         by_cases e : j = 0
         ·rw [e]; exact hoka.out
         ·exact hall j (by omega)
        case measure => simp [intOf]; omega
       | succ m =>
        obtain ⟨y, hy⟩ : ∃ y, t.e[m] = y := ⟨_, rfl⟩
        obtain ⟨f0, f1, f2, f3, f4⟩ := hcsH.out m (by omega)
        rw [hy] at f0 f1 f2 f3 f4
        have hyH : Hid (t.e[m] = y) := hy
        clear hy
        have hg02 : Gr wr0 w2 := hgX.trans hg2
        have q0 := hg02.cellG (a := ⟨b, off + m * 5, none⟩) hb f0
        have q1 := hg02.cellG (a := ⟨b, off + m * 5 + 1, none⟩) hb f1
        have q2 := hg02.cellG (a := ⟨b, off + m * 5 + 2, none⟩) hb f2
        have q3 := hg02.cellG (a := ⟨b, off + m * 5 + 3, none⟩) hb f3
        have q4 := hg02.cellG (a := ⟨b, off + m * 5 + 4, none⟩) hb f4
        have p5 := (Gr.refl w2).cellG (a := ⟨w.heap.size, 5, none⟩) ht2.lt ht2.k5
        have p0 := (Gr.refl w2).cellG (a := ⟨wr0.heap.size, 0, none⟩) xlt x0
        have p1 := (Gr.refl w2).cellG (a := ⟨wr0.heap.size, 1, none⟩) xlt x1
        have p2 := (Gr.refl w2).cellG (a := ⟨wr0.heap.size, 2, none⟩) xlt x2
        have p3 := (Gr.refl w2).cellG (a := ⟨wr0.heap.size, 3, none⟩) xlt x3
        have p4 := (Gr.refl w2).cellG (a := ⟨wr0.heap.size, 4, none⟩) xlt x4
        clear f0 f1 f2 f3 f4
        cases hbe : befB y.1 x.1
        ·have hfin : Hid (errT t = 5) := errT_form heH.out (by omega) hlt (by rw [okCel_succ hlt hxH.out hyH.out, hhb, hpl, hbe]; rfl)
         have hge := ordI_not hbe
         go_wp2_with (first | (go_at_call 45; refine (isCell_g hpl _).mono ?_; rintro e w2 ⟨rfl, rfl⟩) | fail)
         refine wp_region_quiet_grown mixed (by kernel_rfl) ?_
         repeat (go_big_quiet_step ((go_at_call 46; refine Calls.grown_of (orderC_g rfl _))))
         refine wpQuiet_nil ?_
         rintro _ ⟨⟨nq2, osq2⟩, rfl⟩
         go_wp2
         go_ret
         rw [hfin.out]
         exact ⟨rfl, hgw1.trans (hgw2.trans ⟨nq2, osq2, rfl⟩)⟩
        ·have hge := ordI_bef hbe
         have hoka : Hid (okCel t (m + 1) = true) := by
          show okCel t (m + 1) = true
          rw [okCel_succ hlt hxH.out hyH.out, hhb, hpl, hbe]; rfl
         go_wp2_with (first | (go_at_call 45; refine (isCell_g hpl _).mono ?_; rintro e w2 ⟨rfl, rfl⟩) | fail)
         refine wp_region_quiet_grown mixed (by kernel_rfl) ?_
         repeat (go_big_quiet_step ((go_at_call 46; refine Calls.grown_of (orderC_g hge _))))
         refine wpQuiet_nil ?_
         rintro _ ⟨⟨nq2, osq2⟩, rfl⟩
         go_wp2
         go_roundw
         case rel =>
          refine ⟨_, hlt, by go_num, ?_, hgw2.trans ⟨nq2, osq2, rfl⟩⟩
          intro j hj
          by_cases e : j = m + 1
          ·rw [e]; exact hoka.out
          ·exact hall j (by omega)
         case measure => simp [intOf]; omega
    ·have hltz : ¬ (k : Int) < (t.e.length : Int) := by omega
     have hfin : Hid (errT t = 0) := errT_ok heH.out (by omega) fun j hj => hall j (by omega)
     go_wp2
     go_ret
     rw [hfin.out]
     exact ⟨rfl, hgw1.trans hgr⟩
 ·have heb : (errC t.c != 0) = true := by simpa using he
  have hfin : Hid (errT t = errC t.c) := errT_ctx he
  clear he
  go_wp2
  go_ret
  rw [hfin.out]
  exact ⟨rfl, hgw1⟩

end Go.Proofs.YtmoicbmhjmdgdaaGreat
