/-
  stable.Settled: the cells whose dots all have.
-/
import Derived.Test.YtknjeajdiibafaaSMeet
import Derived.Test.YtknjeajdiibafaaTCheck
import Derived.Test.YtknjeajdiibafaaTOwn
namespace Go.Proofs.Ytknjeajdiibafaa
open Go.RowKit Go.Sort

/-- Has the context the cell's dot? -/
def setP (c : Ctx) (x : Cel) : Bool := hasB c x.1
/-- The error that Settled tells. -/
def setE (t : Tab) (l : List Cx) : Int := if errT t ≠ 0 then errT t else meetE l
/-- The cells that it tells. -/
def setL (t : Tab) (l : List Cx) : List Cel := if setE t l = 0 then t.e.filter (setP (meetC l)) else []

set_option maxRecDepth 100000 in
set_option maxHeartbeats 8000000 in
theorem settled_any (t : Tab) (A : Option Addr) (ca : Nat) (D : Option Addr) (cd : Nat) (l : List Cx) (L : Option Addr) (lc : Nat) (w : World) (hl : t.c.l.length ≤ maxLen) (hel : t.e.length ≤ maxLen) (hr : Row w A t.c.l) (hd : RowC w D t.e) (hll : l.length ≤ maxLen) (hlr : Cxs w L l) :
    Calls Try.prog 9 #[.agg #[.int .i64 t.c.c0, .int .i64 t.c.c1, .int .i64 t.c.c2, .int .i64 t.c.c3, .slice A t.c.l.length ca, .slice D t.e.length cd], .slice L l.length lc] w fun e w' => ∃ B cb, e = .returned (.tuple #[.slice B (setL t l).length cb, .int .i64 (setE t l)]) ∧ RowC w' B (setL t l) ∧ Below w.heap.size w w' := by
  have hH : Hid (Cxs w L l ∧ l.length ≤ maxLen) := ⟨hlr, hll⟩
  have hg0 : Gr w (w.alloc (.cells #[.int .i64 t.c.c0, .int .i64 t.c.c1, .int .i64 t.c.c2, .int .i64 t.c.c3, .slice A t.c.l.length ca, .slice D t.e.length cd] 28)) := (Gr.refl w).alloc _
  have ht0 : TabAt (w.alloc (.cells #[.int .i64 t.c.c0, .int .i64 t.c.c1, .int .i64 t.c.c2, .int .i64 t.c.c3, .slice A t.c.l.length ca, .slice D t.e.length cd] 28)) w.heap.size t A ca D cd := TabAt.new 28 hr hd rfl
  have hck := checkT_any t A ca D cd (w.alloc (.cells #[.int .i64 t.c.c0, .int .i64 t.c.c1, .int .i64 t.c.c2, .int .i64 t.c.c3, .slice A t.c.l.length ca, .slice D t.e.length cd] 28)) hl hel ht0.row ht0.rowC
  have hckH : Hid _ := hck
  clear hck hlr hll hr hd
  unfold maxLen at hl hel
  go_enter Try.func9, Try.ntmps9
  go_wp2_with fail
  refine Calls.mono (show Calls _ _ _ _ _ from hckH.out) ?_
  rintro e w1 ⟨rfl, hg1⟩
  clear hckH
  have ht1 := ht0.gr hg1
  have hgw1 : Gr w w1 := hg0.trans hg1
  clear ht0 hg0 hg1
  by_cases he : errT t = 0
  · have heb : (errT t != 0) = false := by simpa using he
    have h400 : Hid (t.e.length ≤ 400) := (errT_parts he).2.1
    have hsE : Hid (setE t l = meetE l) := by show _ = _; unfold setE; rw [if_neg (by simp [he])]
    clear he
    have hme := meet_any l L lc w1 hH.out.2 (hH.out.1.gr hgw1)
    have hmeH : Hid _ := hme
    clear hme
    go_wp2_with fail
    refine Calls.mono (show Calls _ _ _ _ _ from hmeH.out) ?_
    rintro e w2 ⟨C, cp, rfl, hrowC, hCn, hCb, hb2⟩
    clear hmeH
    obtain ⟨m, hm⟩ : ∃ m, meetC l = m := ⟨_, rfl⟩
    rw [hm] at hrowC
    have hmH : Hid (meetC l = m) := hm
    rw [hm]
    clear hm
    have ht2 := ht1.below hb2
    have hbw2 : Hid (Below w.heap.size w w2) := hgw1.below.trans (hb2.mono hgw1.size)
    by_cases hme : meetE l = 0
    · have hmb : (meetE l != 0) = false := by simpa using hme
      have hsL : Hid (setE t l = 0 ∧ setL t l = t.e.filter (setP m)) := by
        have h1 : setE t l = 0 := hsE.out.trans hme
        exact ⟨h1, by unfold setL; rw [if_pos h1, hmH.out]⟩
      clear hme
      have hgX : Gr w2 (w2.alloc (.cells #[.int .i64 m.c0, .int .i64 m.c1, .int .i64 m.c2, .int .i64 m.c3, .slice C m.l.length cp] 25)) := (Gr.refl _).alloc _
      have hmA := CtxAt.new (c := m) (cap := cp) 25 hrowC (B := w2.heap.size) rfl
      have ht3 := ht2.gr hgX
      have hbw3 : Hid (Below w.heap.size w (w2.alloc (.cells #[.int .i64 m.c0, .int .i64 m.c1, .int .i64 m.c2, .int .i64 m.c3, .slice C m.l.length cp] 25))) := hbw2.out.alloc hbw2.out.size _
      have hml : Hid (m.l.length ≤ maxLen) := by
        show _ ≤ _
        have hE := hsE.out.symm.trans hsL.out.1
        have h1 : ¬ 400 < (meetF l).l.length := by
          intro h
          by_cases hx : errX l = 0
          · rw [(meet_large hx h).1] at hE; cases hE
          · rw [(meet_bad hx).1] at hE; exact hx hE
        rw [← hmH.out]
        unfold meetC
        rw [if_pos hE]
        unfold maxLen
        omega
      have k5 := ht3.k5
      go_wp2
      clear k5
      generalize w2.alloc (.cells #[.int .i64 m.c0, .int .i64 m.c1, .int .i64 m.c2, .int .i64 m.c3, .slice C m.l.length cp] 25) = W3 at hgX hmA ht3 hbw3 ⊢
      go_loopw [9, 28] (fun v i wr => ∃ (V : Value) (M : List Cel) (k : Nat), v = V ∧ i = .int .i64 k ∧ k ≤ t.e.length ∧ Hid (M = (t.e.take k).filter (setP m)) ∧ M.length ≤ k ∧ OwnC wr W3.heap.size V M ∧ Below W3.heap.size W3 wr) (fun _ i _ => t.e.length - (intOf i).toNat)
      case atStart => exact ⟨_, [], 0, rfl, rfl, by omega, by show _ = _; simp, by simp, OwnG.nil _ _ _ _ _, Below.refl _ _⟩
      case round =>
        obtain ⟨V, M, k, rfl, rfl, hk, hM, hMl, hov, hbr⟩ := hrel
        obtain ⟨A1, cap1, rfl, hA1, hrow1, _⟩ := OwnG.row encC_len hov
        have hovH : Hid (OwnC wr W3.heap.size (.slice A1 M.length cap1) M) := hov
        clear hov hrow1
        by_cases hlt : k < t.e.length
        · have hltz : (k : Int) < (t.e.length : Int) := by omega
          have htR := ht3.below hbr
          obtain ⟨b, off, rfl, hb, hcs⟩ := RowC.get htR.rowC hlt
          obtain ⟨x, hx⟩ : ∃ x, t.e[k] = x := ⟨_, rfl⟩
          obtain ⟨e0, e1, e2, e3, e4⟩ := hcs k hlt
          rw [hx] at e0 e1 e2 e3 e4
          have hst : Hid ((t.e.take (k + 1)).filter (setP m) = M ++ (if setP m x then [x] else [])) := by show _ = _; rw [filter_take hlt hx, hM.out]
          clear hcs hx htR
          have hgY : Gr wr (wr.alloc (.cells #[.int .i64 x.1.1, .int .i64 x.1.2, .int .i64 x.2.1, .int .i64 x.2.2.1, .int .i64 x.2.2.2] 37)) := (Gr.refl _).alloc _
          have hxX := CelAt.new (w := wr) x 37 rfl
          have hmX := (hmA.below hbr).gr hgY
          obtain ⟨x0, x1, x2, x3, x4, xlt⟩ := (show CelAt _ _ _ from hxX)
          obtain ⟨m0, m1, m2, m3, m4, mlt, mrow⟩ := (show CtxAt _ _ _ _ _ from hmX)
          have hhas := has_any m C cp x.1 (wr.alloc (.cells #[.int .i64 x.1.1, .int .i64 x.1.2, .int .i64 x.2.1, .int .i64 x.2.2.1, .int .i64 x.2.2.2] 37)) hml.out mrow
          have hhasH : Hid _ := hhas
          clear hhas
          go_wp2_with fail
          refine Calls.mono (show Calls _ _ _ _ _ from hhasH.out) ?_
          rintro e w4 ⟨rfl, hg4⟩
          clear hhasH m0 m1 m2 m3 m4 mlt mrow x0 x1 x2 x3 x4 xlt hmX
          obtain ⟨x0, x1, x2, x3, x4, xlt⟩ := (show CelAt _ _ _ from hxX.gr hg4)
          have hgr4 := hgY.trans hg4
          have hbr4 : Hid (Below W3.heap.size W3 w4) := hbr.trans (hgr4.below.mono hbr.size)
          cases hh : hasB m x.1
          · have hnx : Hid (M = (t.e.take (k + 1)).filter (setP m)) := by show _ = _; rw [hst.out]; simp [setP, hh]
            go_wp2
            go_roundw
            case rel => exact ⟨_, M, k + 1, rfl, by go_num, by omega, hnx, by omega, hovH.out.gr hgr4, hbr4.out⟩
            case measure => simp [intOf]; omega
          · have hnx : Hid (M ++ [x] = (t.e.take (k + 1)).filter (setP m)) := by show _ = _; rw [hst.out]; simp [setP, hh]
            have hgA : Gr wr (w4.alloc (.cells #[.int .i64 x.1.1, .int .i64 x.1.2, .int .i64 x.2.1, .int .i64 x.2.2.1, .int .i64 x.2.2.2] 37)) := hgr4.alloc _
            have hszA : W3.heap.size ≤ (w4.alloc (.cells #[.int .i64 x.1.1, .int .i64 x.1.2, .int .i64 x.2.1, .int .i64 x.2.2.1, .int .i64 x.2.2.2] 37)).heap.size := Nat.le_trans hbr.size hgA.size
            go_wp2_with (at_builtin; refine wpList_append_c _ rfl (.tmp 36) (.tmp 38) rfl W3.heap.size (.slice A1 M.length cap1) M [x] (some ⟨w4.heap.size, 0, none⟩) 1 rfl rfl ?ho ?hr (fun h => by cases h) ?hm ?hb ?hs ?_)
            case ho => exact hovH.out.gr hgA
            case hr => exact rowNewCl rfl x _
            case hm => have := h400.out; unfold maxLen; simp; omega
            case hb => have := h400.out; simp; omega
            case hs => exact hszA
            intro v1 w5 hown1 hgr1
            obtain ⟨A2, cap2, rfl, _, _, _⟩ := OwnG.row encC_len hown1
            have hb1 := OwnG.grown_below (hovH.out.gr hgA) hgr1 hszA
            go_wp2
            go_roundw
            case rel => exact ⟨_, M ++ [x], k + 1, rfl, by go_num, by omega, hnx, by simp; omega, by simpa using hown1, (hbr.trans (hgA.below.mono hbr.size)).trans hb1⟩
            case measure => simp [intOf]; omega
        · have hltz : ¬ (k : Int) < (t.e.length : Int) := by omega
          have hfin : Hid (setL t l = M) := by show _ = _; rw [hsL.out.2, hM.out, List.take_of_length_le (by omega)]
          obtain ⟨A2, cap2, hv2, _, hrow2, _⟩ := OwnG.row encC_len hovH.out
          injection hv2 with h1 h2 h3
          subst h1 h3
          have hbwr : Hid (Below w.heap.size w wr) := hbw3.out.trans (hbr.mono hbw3.out.size)
          go_wp2
          go_ret2
          rw [hfin.out, hsL.out.1]
          exact ⟨_, ⟨_, rfl⟩, hrow2, hbwr.out⟩
    · have hmb : (meetE l != 0) = true := by simpa using hme
      have hsL : Hid (setE t l = meetE l ∧ setL t l = []) := ⟨hsE.out, by unfold setL; rw [hsE.out, if_neg hme]⟩
      clear hme
      have hbw3 : Hid (Below w.heap.size w (w2.alloc (.cells #[.int .i64 m.c0, .int .i64 m.c1, .int .i64 m.c2, .int .i64 m.c3, .slice C m.l.length cp] 25))) := hbw2.out.alloc hbw2.out.size _
      go_wp2
      go_ret2
      rw [hsL.out.1, hsL.out.2]
      exact ⟨none, 0, rfl, Or.inl rfl, hbw3.out⟩
  · have heb : (errT t != 0) = true := by simpa using he
    have hsL : Hid (setE t l = errT t ∧ setL t l = []) := by
      have h1 : setE t l = errT t := by unfold setE; rw [if_pos he]
      exact ⟨h1, by unfold setL; rw [h1, if_neg he]⟩
    clear he
    go_wp2
    go_ret2
    rw [hsL.out.1, hsL.out.2]
    exact ⟨none, 0, rfl, Or.inl rfl, hgw1.below⟩

end Go.Proofs.Ytknjeajdiibafaa
