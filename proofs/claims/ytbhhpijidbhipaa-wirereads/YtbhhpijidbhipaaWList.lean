/-
  wire.list at dots and at cells: n of them, one read behind the other (gens/mkwlist.py writes it).
-/
import Derived.Test.YtbhhpijidbhipaaWRd3
namespace Go.Proofs.Ytbhhpijidbhipaa
open Go.RowKit Go.Sort

set_option maxHeartbeats 2000000 in
theorem listD_any (R : Nat) (x : List UInt8) (s : RS) (n : Nat) (w : World) (hx : x.length ≤ maxLen) (hn : n ≤ 400) (h : RdP w R x s) :
    Calls Try.prog 37 #[.int .i64 n, .func (.func 39) #[.pointer (some ⟨R, 0, none⟩)] #[]] w fun e w' => ∃ v, e = .returned v ∧ Hid (Own w' w.heap.size v (dotsL n s) ∧ RdP w' R x (dotsS n s) ∧ w.grownBy w' (some R)) := by
  have hent : ∀ args w, (callFunc 39 args).run Try.prog w = .ok (.enter 39 args) w := enters_of Try.func39 (by kernel_rfl) rfl
  obtain ⟨base, hb⟩ : ∃ base, w.heap.size = base := ⟨_, rfl⟩
  have hRb : Hid (R < base) := by show _ < _; rw [← hb]; exact h.lt
  have h0 : Hid (RdP w R x s) := h
  have hbH : Hid (w.heap.size = base) := hb
  rw [hb]
  have hask : Hid (∀ W t, RdP W R x t → Calls Try.prog 39 #[.pointer (some ⟨R, 0, none⟩)] W fun e w' => e = .returned (.agg #[.int .i64 (nxN t), .int .i64 (nxN (nxS t))]) ∧ RdP w' R x (nxS (nxS t)) ∧ W.grownBy w' (some R)) := fun W t hp => rddot_any R x t W hx hp
  clear h hb
  go_enter Try.func37, Try.ntmps37
  go_wp2
  go_loopw [5, 7] (fun bv iv wr => ∃ (j : Nat), iv = .int .i64 j ∧ j ≤ n ∧ Hid (Own wr base bv (dotsL j s) ∧ RdP wr R x (dotsS j s) ∧ w.grownBy wr (some R))) (fun _ iv _ => n - (intOf iv).toNat)
  case atStart => exact ⟨0, rfl, by omega, Own.nil _ _, h0.out, World.grownBy.refl _ _⟩
  case round =>
    clear h0
    rename World => wr
    obtain ⟨j, rfl, hj, hR⟩ := hrel
    by_cases hlt : j < n
    · have hltz : (j : Int) < (n : Int) := by omega
      obtain ⟨t, ht⟩ : ∃ t, dotsS j s = t := ⟨_, rfl⟩
      have hRt := hR.out.2.1
      rw [ht] at hRt
      have hC := hask.out wr t hRt
      have hCH : Hid _ := hC
      clear hC hRt
      go_wp2_with fail
      refine Calls.mono (show Calls _ _ _ _ _ from hCH.out) ?_
      rintro e w1 ⟨rfl, h1, hg1⟩
      obtain ⟨y, hy⟩ : ∃ y : (Int × Int), y = (nxN t, nxN (nxS t)) := ⟨_, rfl⟩
      have hl : Hid (dotsL (j + 1) s = dotsL j s ++ [y]) := by
        show _ = _
        rw [hy, ← ht]
        rfl
      have hs : Hid (dotsS (j + 1) s = nxS (nxS t)) := by
        show _ = _
        rw [← ht]
        rfl
      have hO1 := World.ownsRow.kept hR.out.1 hg1 (Or.inr (fun e => by have := (World.ownsRow.lt hR.out.1 R e).1; have := hRb.out; omega))
      obtain ⟨l, hlL⟩ : ∃ l, dotsL j s = l := ⟨_, rfl⟩
      have hO1 : Own w1 base u5 l := by rw [← hlL]; exact hO1
      have hll : l.length = j := by rw [← hlL, dotsL_len]
      have hsz : base ≤ w1.heap.size := by rw [← hbH.out]; exact Nat.le_trans hR.out.2.2.size hg1.size
      rw [show nxN t = y.1 by rw [hy], show nxN (nxS t) = y.2 by rw [hy]]
      have hX : Hid (Own (w1.alloc (.cells #[.int .i64 y.1, .int .i64 y.2] 51)) base u5 l ∧ Row (w1.alloc (.cells #[.int .i64 y.1, .int .i64 y.2] 51)) (some ⟨w1.heap.size, 0, none⟩) [y] ∧ base ≤ (w1.alloc (.cells #[.int .i64 y.1, .int .i64 y.2] 51)).heap.size ∧ RdP (w1.alloc (.cells #[.int .i64 y.1, .int .i64 y.2] 51)) R x (nxS (nxS t)) ∧ w.grownBy (w1.alloc (.cells #[.int .i64 y.1, .int .i64 y.2] 51)) (some R)) :=
        ⟨hO1.gr ((Gr.refl _).alloc _), rowNew rfl y.1 y.2 _, by simp; omega, h1.gr ((Gr.refl _).alloc _), grown_gr (hR.out.2.2.trans hg1) ((Gr.refl _).alloc _)⟩
      rw [hlL] at hl
      clear h1 hg1 hR hO1 hCH ht hlL hsz hy
      go_wp2_with (at_builtin; refine wpList_append_dots _ rfl (.tmp 9) (.tmp 12) rfl base u5 l [y] (some ⟨w1.heap.size, 0, none⟩) 1 rfl rfl hX.out.1 hX.out.2.1 (fun h => by cases h) (by simp [hll]; omega) hX.out.2.2.1 ?_)
      intro v2 w2 hown2 hg2 _
      have hend : Hid (Own w2 base v2 (dotsL (j + 1) s) ∧ RdP w2 R x (dotsS (j + 1) s) ∧ w.grownBy w2 (some R)) := by
        rw [hl.out, hs.out]
        refine ⟨hown2, hX.out.2.2.2.1.other hg2 (fun e => by have := (World.ownsRow.lt hX.out.1 R e).1; have := hRb.out; omega), hX.out.2.2.2.2.andThen hg2 (fun k hk => Or.inl ?_)⟩
        rw [hbH.out]
        exact (World.ownsRow.lt hX.out.1 k hk).1
      clear hown2 hg2 hX hl hs
      go_wp2
      go_roundw
      case rel => exact ⟨j + 1, by go_num, by omega, hend⟩
      case measure => simp [intOf]; omega
    · obtain rfl : j = n := by omega
      have hltz : ¬ (j : Int) < (j : Int) := by omega
      go_wp2
      go_ret
      exact ⟨u5, rfl, hR⟩

set_option maxHeartbeats 2000000 in
theorem listC_any (R : Nat) (x : List UInt8) (s : RS) (n : Nat) (w : World) (hx : x.length ≤ maxLen) (hn : n ≤ 400) (h : RdP w R x s) :
    Calls Try.prog 40 #[.int .i64 n, .func (.func 41) #[.pointer (some ⟨R, 0, none⟩)] #[]] w fun e w' => ∃ v, e = .returned v ∧ Hid (OwnC w' w.heap.size v (celsL n s) ∧ RdP w' R x (celsS n s) ∧ w.grownBy w' (some R)) := by
  have hent : ∀ args w, (callFunc 41 args).run Try.prog w = .ok (.enter 41 args) w := enters_of Try.func41 (by kernel_rfl) rfl
  obtain ⟨base, hb⟩ : ∃ base, w.heap.size = base := ⟨_, rfl⟩
  have hRb : Hid (R < base) := by show _ < _; rw [← hb]; exact h.lt
  have h0 : Hid (RdP w R x s) := h
  have hbH : Hid (w.heap.size = base) := hb
  rw [hb]
  have hask : Hid (∀ W t, RdP W R x t → Calls Try.prog 41 #[.pointer (some ⟨R, 0, none⟩)] W fun e w' => e = .returned (.agg #[.int .i64 (nxN t), .int .i64 (nxN (nxS t)), .int .i64 (nxN (nxS (nxS t))), .int .i64 (nxN (nxS (nxS (nxS t)))), .int .i64 (nxN (nxS (nxS (nxS (nxS t)))))]) ∧ RdP w' R x (nxS (nxS (nxS (nxS (nxS t))))) ∧ W.grownBy w' (some R)) := fun W t hp => rdcell_any R x t W hx hp
  clear h hb
  go_enter Try.func40, Try.ntmps40
  go_wp2
  go_loopw [5, 7] (fun bv iv wr => ∃ (j : Nat), iv = .int .i64 j ∧ j ≤ n ∧ Hid (OwnC wr base bv (celsL j s) ∧ RdP wr R x (celsS j s) ∧ w.grownBy wr (some R))) (fun _ iv _ => n - (intOf iv).toNat)
  case atStart => exact ⟨0, rfl, by omega, OwnG.nil _ _ _ _ _, h0.out, World.grownBy.refl _ _⟩
  case round =>
    clear h0
    rename World => wr
    obtain ⟨j, rfl, hj, hR⟩ := hrel
    by_cases hlt : j < n
    · have hltz : (j : Int) < (n : Int) := by omega
      obtain ⟨t, ht⟩ : ∃ t, celsS j s = t := ⟨_, rfl⟩
      have hRt := hR.out.2.1
      rw [ht] at hRt
      have hC := hask.out wr t hRt
      have hCH : Hid _ := hC
      clear hC hRt
      go_wp2_with fail
      refine Calls.mono (show Calls _ _ _ _ _ from hCH.out) ?_
      rintro e w1 ⟨rfl, h1, hg1⟩
      obtain ⟨y, hy⟩ : ∃ y : Cel, y = ((nxN t, nxN (nxS t)), nxN (nxS (nxS t)), nxN (nxS (nxS (nxS t))), nxN (nxS (nxS (nxS (nxS t))))) := ⟨_, rfl⟩
      have hl : Hid (celsL (j + 1) s = celsL j s ++ [y]) := by
        show _ = _
        rw [hy, ← ht]
        rfl
      have hs : Hid (celsS (j + 1) s = nxS (nxS (nxS (nxS (nxS t))))) := by
        show _ = _
        rw [← ht]
        rfl
      have hO1 := World.ownsRow.kept hR.out.1 hg1 (Or.inr (fun e => by have := (World.ownsRow.lt hR.out.1 R e).1; have := hRb.out; omega))
      obtain ⟨l, hlL⟩ : ∃ l, celsL j s = l := ⟨_, rfl⟩
      have hO1 : OwnC w1 base u5 l := by rw [← hlL]; exact hO1
      have hll : l.length = j := by rw [← hlL, celsL_len]
      have hsz : base ≤ w1.heap.size := by rw [← hbH.out]; exact Nat.le_trans hR.out.2.2.size hg1.size
      rw [show nxN t = y.1.1 by rw [hy], show nxN (nxS t) = y.1.2 by rw [hy], show nxN (nxS (nxS t)) = y.2.1 by rw [hy], show nxN (nxS (nxS (nxS t))) = y.2.2.1 by rw [hy], show nxN (nxS (nxS (nxS (nxS t)))) = y.2.2.2 by rw [hy]]
      have hX : Hid (OwnC (w1.alloc (.cells #[.int .i64 y.1.1, .int .i64 y.1.2, .int .i64 y.2.1, .int .i64 y.2.2.1, .int .i64 y.2.2.2] 53)) base u5 l ∧ RowC (w1.alloc (.cells #[.int .i64 y.1.1, .int .i64 y.1.2, .int .i64 y.2.1, .int .i64 y.2.2.1, .int .i64 y.2.2.2] 53)) (some ⟨w1.heap.size, 0, none⟩) [y] ∧ base ≤ (w1.alloc (.cells #[.int .i64 y.1.1, .int .i64 y.1.2, .int .i64 y.2.1, .int .i64 y.2.2.1, .int .i64 y.2.2.2] 53)).heap.size ∧ RdP (w1.alloc (.cells #[.int .i64 y.1.1, .int .i64 y.1.2, .int .i64 y.2.1, .int .i64 y.2.2.1, .int .i64 y.2.2.2] 53)) R x (nxS (nxS (nxS (nxS (nxS t))))) ∧ w.grownBy (w1.alloc (.cells #[.int .i64 y.1.1, .int .i64 y.1.2, .int .i64 y.2.1, .int .i64 y.2.2.1, .int .i64 y.2.2.2] 53)) (some R)) :=
        ⟨hO1.gr ((Gr.refl _).alloc _), rowNewCl rfl y _, by simp; omega, h1.gr ((Gr.refl _).alloc _), grown_gr (hR.out.2.2.trans hg1) ((Gr.refl _).alloc _)⟩
      rw [hlL] at hl
      clear h1 hg1 hR hO1 hCH ht hlL hsz hy
      go_wp2_with (at_builtin; refine wpList_append_c _ rfl (.tmp 9) (.tmp 12) rfl base u5 l [y] (some ⟨w1.heap.size, 0, none⟩) 1 rfl rfl hX.out.1 hX.out.2.1 (fun h => by cases h) (by unfold maxLen; simp [hll]; omega) (by simp [hll]; omega) hX.out.2.2.1 ?_)
      intro v2 w2 hown2 hg2
      have hend : Hid (OwnC w2 base v2 (celsL (j + 1) s) ∧ RdP w2 R x (celsS (j + 1) s) ∧ w.grownBy w2 (some R)) := by
        rw [hl.out, hs.out]
        refine ⟨hown2, hX.out.2.2.2.1.other hg2 (fun e => by have := (World.ownsRow.lt hX.out.1 R e).1; have := hRb.out; omega), hX.out.2.2.2.2.andThen hg2 (fun k hk => Or.inl ?_)⟩
        rw [hbH.out]
        exact (World.ownsRow.lt hX.out.1 k hk).1
      clear hown2 hg2 hX hl hs
      go_wp2
      go_roundw
      case rel => exact ⟨j + 1, by go_num, by omega, hend⟩
      case measure => simp [intOf]; omega
    · obtain rfl : j = n := by omega
      have hltz : ¬ (j : Int) < (j : Int) := by omega
      go_wp2
      go_ret
      exact ⟨u5, rfl, hR⟩
end Go.Proofs.Ytbhhpijidbhipaa
