/-
  The law StableSays: Meet and Settled answer what the document says.
-/
import Derived.Test.YtknjeajdiibafaaSCommon
import Derived.Test.YtknjeajdiibafaaSSettled
import Derived.Test.YtknjeajdiibafaaRTable
import Derived.Test.YtknjeajdiibafaaTSame
import Derived.Test.YtknjeajdiibafaaLatMath
namespace Go.Proofs.Ytknjeajdiibafaa
open Go.RowKit Go.Sort


set_option maxRecDepth 100000 in
set_option maxHeartbeats 16000000 in
theorem stableSays_any (t : Tab) (A : Option Addr) (ca : Nat) (D : Option Addr) (cd : Nat) (l : List Cx) (L : Option Addr) (lc : Nat) (w : World) (hl : t.c.l.length ≤ maxLen) (hel : t.e.length ≤ maxLen) (hr : Row w A t.c.l) (hd : RowC w D t.e) (hll : l.length ≤ maxLen) (hlr : Cxs w L l) :
    Calls Try.prog 3 #[.agg #[.int .i64 t.c.c0, .int .i64 t.c.c1, .int .i64 t.c.c2, .int .i64 t.c.c3, .slice A t.c.l.length ca, .slice D t.e.length cd], .slice L l.length lc] w fun e w' => e = .returned (.bool true) ∧ Below w.heap.size w w' := by
  have hH : Hid (Cxs w L l ∧ l.length ≤ maxLen ∧ t.c.l.length ≤ maxLen ∧ t.e.length ≤ maxLen) := ⟨hlr, hll, hl, hel⟩
  have hg0 : Gr w (w.alloc (.cells #[.int .i64 t.c.c0, .int .i64 t.c.c1, .int .i64 t.c.c2, .int .i64 t.c.c3, .slice A t.c.l.length ca, .slice D t.e.length cd] 28)) := (Gr.refl w).alloc _
  have ht0 : TabAt (w.alloc (.cells #[.int .i64 t.c.c0, .int .i64 t.c.c1, .int .i64 t.c.c2, .int .i64 t.c.c3, .slice A t.c.l.length ca, .slice D t.e.length cd] 28)) w.heap.size t A ca D cd := TabAt.new 28 hr hd rfl
  have hme := meet_any l L lc (w.alloc (.cells #[.int .i64 t.c.c0, .int .i64 t.c.c1, .int .i64 t.c.c2, .int .i64 t.c.c3, .slice A t.c.l.length ca, .slice D t.e.length cd] 28)) hll (hlr.gr hg0)
  have hmeH : Hid _ := hme
  clear hme hlr hll hr hd
  unfold maxLen at hl hel
  go_enter Try.func3, Try.ntmps3
  go_wp2_with fail
  refine Calls.mono (show Calls _ _ _ _ _ from hmeH.out) ?_
  rintro e w1 ⟨C, cp, rfl, hrowC, _, _, hb1⟩
  clear hmeH
  obtain ⟨m, hm⟩ : ∃ m, meetC l = m := ⟨_, rfl⟩
  obtain ⟨g, hg⟩ : ∃ g, meetE l = g := ⟨_, rfl⟩
  rw [hm] at hrowC
  have hmH : Hid (meetC l = m) := hm
  have hgH : Hid (meetE l = g) := hg
  have hm4 : Hid (m.l.length ≤ maxLen) := by show _ ≤ _; rw [← hm]; have := meetC_len l; unfold maxLen; omega
  rw [hm, hg]
  have hgX : Gr w1 (w1.alloc (.cells #[.int .i64 m.c0, .int .i64 m.c1, .int .i64 m.c2, .int .i64 m.c3, .slice C m.l.length cp] 25)) := (Gr.refl _).alloc _
  have hA1 := CtxAt.new (c := m) (cap := cp) 25 hrowC (B := w1.heap.size) rfl
  have ht1 := (ht0.below hb1).gr hgX
  have hbw1 : Hid (Below w.heap.size w (w1.alloc (.cells #[.int .i64 m.c0, .int .i64 m.c1, .int .i64 m.c2, .int .i64 m.c3, .slice C m.l.length cp] 25))) := (hg0.below.trans (hb1.mono hg0.size)).alloc (Nat.le_trans hg0.size hb1.size) _
  have hco := common_any l L lc (w1.alloc (.cells #[.int .i64 m.c0, .int .i64 m.c1, .int .i64 m.c2, .int .i64 m.c3, .slice C m.l.length cp] 25)) hH.out.2.1 (hH.out.1.below hbw1.out)
  rw [hm, hg] at hco
  have hcoH : Hid _ := hco
  clear hco hm hg ht0 hg0 hb1 hrowC
  go_wp2_with fail
  refine Calls.mono (show Calls _ _ _ _ _ from hcoH.out) ?_
  rintro e w2 ⟨C', cp', rfl, hrowC', _, _, hb2⟩
  clear hcoH
  have hgY : Gr w2 (w2.alloc (.cells #[.int .i64 m.c0, .int .i64 m.c1, .int .i64 m.c2, .int .i64 m.c3, .slice C' m.l.length cp'] 25)) := (Gr.refl _).alloc _
  have hA2 := (hA1.below hb2).gr hgY
  have hB2 := CtxAt.new (c := m) (cap := cp') 25 hrowC' (B := w2.heap.size) rfl
  have ht2 := (ht1.below hb2).gr hgY
  have hbw2 : Hid (Below w.heap.size w (w2.alloc (.cells #[.int .i64 m.c0, .int .i64 m.c1, .int .i64 m.c2, .int .i64 m.c3, .slice C' m.l.length cp'] 25))) := (hbw1.out.trans (hb2.mono hbw1.out.size)).alloc (Nat.le_trans hbw1.out.size hb2.size) _
  have hrt := rtable_any t A ca D cd (w2.alloc (.cells #[.int .i64 m.c0, .int .i64 m.c1, .int .i64 m.c2, .int .i64 m.c3, .slice C' m.l.length cp'] 25)) hH.out.2.2.1 hH.out.2.2.2 ht2.row ht2.rowC
  have hrtH : Hid _ := hrt
  obtain ⟨t0, t1, t2, t3, t4, t5, tlt, trow, trowC⟩ := (show TabAt _ _ _ _ _ _ _ from ht2)
  clear hrt ht1 hA1 hb2 hrowC' hgX hbw1
  go_wp2_with fail
  refine Calls.mono (show Calls _ _ _ _ _ from hrtH.out) ?_
  rintro e w3 ⟨rfl, hg3⟩
  clear hrtH t0 t1 t2 t3 t4 t5 tlt trow trowC
  have ht3 := ht2.gr hg3
  have hA3 := hA2.gr hg3
  have hB3 := hB2.gr hg3
  have hbw3 : Hid (Below w.heap.size w w3) := hbw2.out.trans (hg3.below.mono hbw2.out.size)
  clear ht2 hA2 hB2 hg3 hgY hbw2
  by_cases he : errT t = 0
  · have heb : (errT t == 0) = true := by simpa using he
    have hsE : Hid (setE t l = g) := by show _ = _; unfold setE; rw [if_neg (by simp [he]), hgH.out]
    have h400 : Hid (t.e.length ≤ 400) := (errT_parts he).2.1
    clear he
    by_cases hg0 : g = 0
    · have hgb : (g == 0) = true := by simpa using hg0
      have hE : Hid (setE t l = g) := hsE.out
      have hsL : Hid (setL t l = t.e.filter (setP m)) := by show _ = _; unfold setL; rw [if_pos (hsE.out.trans hg0), hmH.out]
      clear hg0
      have k5 := ht3.k5
      go_wp2
      clear k5
      go_loopw [9, 35] (fun v i wr => ∃ (V : Value) (M : List Cel) (k : Nat), v = V ∧ i = .int .i64 k ∧ k ≤ t.e.length ∧ Hid (M = (t.e.take k).filter (setP m)) ∧ M.length ≤ k ∧ OwnC wr w3.heap.size V M ∧ Below w3.heap.size w3 wr) (fun _ i _ => t.e.length - (intOf i).toNat)
      case atStart => exact ⟨_, [], 0, rfl, rfl, by omega, by show _ = _; simp, by simp, OwnG.nil _ _ _ _ _, Below.refl _ _⟩
      case round =>
        obtain ⟨V, M, k, rfl, rfl, hk, hM, hMl, hov, hbr⟩ := hrel
        obtain ⟨A1, cap1, rfl, hA1, hrow1, _⟩ := OwnG.row encC_len hov
        have hovH : Hid (OwnC wr w3.heap.size (.slice A1 M.length cap1) M) := hov
        clear hov
        by_cases hlt : k < t.e.length
        · clear hrow1
          have hltz : (k : Int) < (t.e.length : Int) := by omega
          have htR := ht3.below hbr
          obtain ⟨b, off, rfl, hb, hcs⟩ := RowC.get htR.rowC hlt
          obtain ⟨x, hx⟩ : ∃ x, t.e[k] = x := ⟨_, rfl⟩
          obtain ⟨e0, e1, e2, e3, e4⟩ := hcs k hlt
          rw [hx] at e0 e1 e2 e3 e4
          have hst : Hid ((t.e.take (k + 1)).filter (setP m) = M ++ (if setP m x then [x] else [])) := by show _ = _; rw [filter_take hlt hx, hM.out]
          clear hcs hx htR
          have hgY : Gr wr (wr.alloc (.cells #[.int .i64 x.1.1, .int .i64 x.1.2, .int .i64 x.2.1, .int .i64 x.2.2.1, .int .i64 x.2.2.2] 37)) := (Gr.refl _).alloc _
          have hxX := CelAt.new (w := wr) x 37 rfl
          have hmX := (hB3.below hbr).gr hgY
          obtain ⟨x0, x1, x2, x3, x4, xlt⟩ := (show CelAt _ _ _ from hxX)
          obtain ⟨m0, m1, m2, m3, m4, mlt, mrow⟩ := (show CtxAt _ _ _ _ _ from hmX)
          have hhas := rhas_any m C' cp' x.1 (wr.alloc (.cells #[.int .i64 x.1.1, .int .i64 x.1.2, .int .i64 x.2.1, .int .i64 x.2.2.1, .int .i64 x.2.2.2] 37)) hm4.out mrow
          have hhasH : Hid _ := hhas
          clear hhas
          go_wp2_with fail
          refine Calls.mono (show Calls _ _ _ _ _ from hhasH.out) ?_
          rintro e w4 ⟨rfl, hg4⟩
          clear hhasH m0 m1 m2 m3 m4 mlt mrow x0 x1 x2 x3 x4 xlt hmX
          obtain ⟨x0, x1, x2, x3, x4, xlt⟩ := (show CelAt _ _ _ from hxX.gr hg4)
          have hgr4 := hgY.trans hg4
          have hbr4 : Hid (Below w3.heap.size w3 w4) := hbr.trans (hgr4.below.mono hbr.size)
          cases hh : hasB m x.1
          · have hnx : Hid (M = (t.e.take (k + 1)).filter (setP m)) := by show _ = _; rw [hst.out]; simp [setP, hh]
            go_wp2
            go_roundw
            case rel => exact ⟨_, M, k + 1, rfl, by go_num, by omega, hnx, by omega, hovH.out.gr hgr4, hbr4.out⟩
            case measure => simp [intOf]; omega
          · have hnx : Hid (M ++ [x] = (t.e.take (k + 1)).filter (setP m)) := by show _ = _; rw [hst.out]; simp [setP, hh]
            have hgA : Gr wr (w4.alloc (.cells #[.int .i64 x.1.1, .int .i64 x.1.2, .int .i64 x.2.1, .int .i64 x.2.2.1, .int .i64 x.2.2.2] 37)) := hgr4.alloc _
            have hszA : w3.heap.size ≤ (w4.alloc (.cells #[.int .i64 x.1.1, .int .i64 x.1.2, .int .i64 x.2.1, .int .i64 x.2.2.1, .int .i64 x.2.2.2] 37)).heap.size := Nat.le_trans hbr.size hgA.size
            go_wp2_with (at_builtin; refine wpList_append_c _ rfl (.tmp 43) (.tmp 45) rfl w3.heap.size (.slice A1 M.length cap1) M [x] (some ⟨w4.heap.size, 0, none⟩) 1 rfl rfl ?ho ?hr (fun h => by cases h) ?hm ?hb ?hs ?_)
            case ho => exact hovH.out.gr hgA
            case hr => exact rowNewCl rfl x _
            case hm => have := h400.out; unfold maxLen; simp; omega
            case hb => have := h400.out; simp; omega
            case hs => exact hszA
            intro v1 w5 hown1 hgr1
            obtain ⟨A2, cap2, rfl, _, _, _⟩ := OwnG.row encC_len hown1
            have hb1 := OwnG.grown_below (hovH.out.gr hgA) hgr1 hszA
            go_wp2
            go_roundw
            case rel => exact ⟨_, M ++ [x], k + 1, rfl, by go_num, by omega, hnx, by simp; omega, by simpa using hown1, (hbr.trans (hgA.below.mono hbr.size)).trans hb1⟩
            case measure => simp [intOf]; omega
        · have hltz : ¬ (k : Int) < (t.e.length : Int) := by omega
          have hM : Hid (setL t l = M) := by show _ = _; rw [hsL.out, hM.out, List.take_of_length_le (by omega)]
          have hMl : Hid (M.length ≤ maxLen) := by show _ ≤ _; unfold maxLen; omega
          have hbwt : Hid (Below w.heap.size w wr) := hbw3.out.trans (hbr.mono hbw3.out.size)
          have hT := ht3.below hbr
          have hAt := hA3.below hbr
          have hBt := hB3.below hbr
          have hWr : RowC wr A1 M := hrow1
          clear ht3 hA3 hB3 hbr hrow1 hovH
          have hse := settled_any t A ca D cd l L lc wr hH.out.2.2.1 hH.out.2.2.2 hT.row hT.rowC hH.out.2.1 (hH.out.1.below hbwt.out)
          rw [hE.out, hM.out] at hse
          have hseH : Hid _ := hse
          obtain ⟨t0, t1, t2, t3, t4, t5, tlt, trow, trowC⟩ := (show TabAt _ _ _ _ _ _ _ from hT)
          clear hse
          go_wp2_with fail
          refine Calls.mono (show Calls _ _ _ _ _ from hseH.out) ?_
          rintro e w5 ⟨Bx, cbx, rfl, hrowx, hb5⟩
          clear hseH t0 t1 t2 t3 t4 t5 tlt trow trowC
          have hA5 := hAt.below hb5
          have hB5 := hBt.below hb5
          have hbw5 : Hid (Below w.heap.size w w5) := hbwt.out.trans (hb5.mono hbwt.out.size)
          have hsm := same_any m m C C' cp cp' w5 hm4.out hm4.out hA5.row hB5.row
          rw [(sameB_iff m m).2 rfl] at hsm
          have hsmH : Hid _ := hsm
          obtain ⟨a0, a1, a2, a3, a4, alt, arow⟩ := (show CtxAt _ _ _ _ _ from hA5)
          obtain ⟨b0, b1, b2, b3, b4, blt, brow⟩ := (show CtxAt _ _ _ _ _ from hB5)
          have hwr5 := hWr.below hb5
          clear hsm
          go_wp2_with fail
          refine Calls.mono (show Calls _ _ _ _ _ from hsmH.out) ?_
          rintro e w6 ⟨rfl, hg6⟩
          clear hsmH a0 a1 a2 a3 a4 alt arow b0 b1 b2 b3 b4 blt brow
          have heq := equalC_any M M Bx A1 cbx cap1 w6 hMl.out hMl.out (hrowx.gr hg6) (hwr5.gr hg6)
          rw [show eqLC M M = true by simp [eqLC]] at heq
          have heqH : Hid _ := heq
          clear heq
          go_wp2_with fail
          refine Calls.mono (show Calls _ _ _ _ _ from heqH.out) ?_
          rintro e w7 ⟨rfl, hg7⟩
          clear heqH
          have hbw7 : Hid (Below w.heap.size w w7) := hbw5.out.trans ((hg6.trans hg7).below.mono hbw5.out.size)
          go_wp2
          go_ret
          exact ⟨rfl, hbw7.out⟩
    · have hgb : (g == 0) = false := by simpa using hg0
      have hE : Hid (setE t l = g) := hsE.out
      have hM : Hid (setL t l = []) := by show _ = _; unfold setL; rw [hsE.out, if_neg hg0]
      clear hg0
      have hMl : Hid (([] : List Cel).length ≤ maxLen) := by show _ ≤ _; simp
      have hbwt : Hid (Below w.heap.size w w3) := hbw3.out
      have hT := ht3
      have hAt := hA3
      have hBt := hB3
      have hWr : RowC w3 none ([] : List Cel) := Or.inl rfl
      clear ht3 hA3 hB3
      have hse := settled_any t A ca D cd l L lc w3 hH.out.2.2.1 hH.out.2.2.2 hT.row hT.rowC hH.out.2.1 (hH.out.1.below hbwt.out)
      rw [hE.out, hM.out] at hse
      simp only [List.length_nil] at hse
      have hseH : Hid _ := hse
      obtain ⟨t0, t1, t2, t3, t4, t5, tlt, trow, trowC⟩ := (show TabAt _ _ _ _ _ _ _ from hT)
      clear hse
      go_wp2_with fail
      refine Calls.mono (show Calls _ _ _ _ _ from hseH.out) ?_
      rintro e w5 ⟨Bx, cbx, rfl, hrowx, hb5⟩
      clear hseH t0 t1 t2 t3 t4 t5 tlt trow trowC
      have hA5 := hAt.below hb5
      have hB5 := hBt.below hb5
      have hbw5 : Hid (Below w.heap.size w w5) := hbwt.out.trans (hb5.mono hbwt.out.size)
      have hsm := same_any m m C C' cp cp' w5 hm4.out hm4.out hA5.row hB5.row
      rw [(sameB_iff m m).2 rfl] at hsm
      have hsmH : Hid _ := hsm
      obtain ⟨a0, a1, a2, a3, a4, alt, arow⟩ := (show CtxAt _ _ _ _ _ from hA5)
      obtain ⟨b0, b1, b2, b3, b4, blt, brow⟩ := (show CtxAt _ _ _ _ _ from hB5)
      have hwr5 := hWr.below hb5
      clear hsm
      go_wp2_with fail
      refine Calls.mono (show Calls _ _ _ _ _ from hsmH.out) ?_
      rintro e w6 ⟨rfl, hg6⟩
      clear hsmH a0 a1 a2 a3 a4 alt arow b0 b1 b2 b3 b4 blt brow
      have heq := equalC_any ([] : List Cel) ([] : List Cel) Bx none cbx 0 w6 hMl.out hMl.out (hrowx.gr hg6) (hwr5.gr hg6)
      rw [show eqLC ([] : List Cel) ([] : List Cel) = true by simp [eqLC]] at heq
      simp only [List.length_nil] at heq
      have heqH : Hid _ := heq
      clear heq
      go_wp2_with fail
      refine Calls.mono (show Calls _ _ _ _ _ from heqH.out) ?_
      rintro e w7 ⟨rfl, hg7⟩
      clear heqH
      have hbw7 : Hid (Below w.heap.size w w7) := hbw5.out.trans ((hg6.trans hg7).below.mono hbw5.out.size)
      go_wp2
      go_ret
      exact ⟨rfl, hbw7.out⟩
  · have heb : (errT t == 0) = false := by simpa using he
    obtain ⟨f, hf⟩ : ∃ f, errT t = f := ⟨_, rfl⟩
    have hE : Hid (setE t l = f) := by show _ = _; unfold setE; rw [if_pos he, hf]
    have hM : Hid (setL t l = []) := by show _ = _; unfold setL; rw [hE.out, ← hf, if_neg he]
    rw [hf] at heb ⊢
    clear he hf
    have hMl : Hid (([] : List Cel).length ≤ maxLen) := by show _ ≤ _; simp
    have hbwt : Hid (Below w.heap.size w w3) := hbw3.out
    have hT := ht3
    have hAt := hA3
    have hBt := hB3
    have hWr : RowC w3 none ([] : List Cel) := Or.inl rfl
    clear ht3 hA3 hB3
    have hse := settled_any t A ca D cd l L lc w3 hH.out.2.2.1 hH.out.2.2.2 hT.row hT.rowC hH.out.2.1 (hH.out.1.below hbwt.out)
    rw [hE.out, hM.out] at hse
    simp only [List.length_nil] at hse
    have hseH : Hid _ := hse
    obtain ⟨t0, t1, t2, t3, t4, t5, tlt, trow, trowC⟩ := (show TabAt _ _ _ _ _ _ _ from hT)
    clear hse
    go_wp2_with fail
    refine Calls.mono (show Calls _ _ _ _ _ from hseH.out) ?_
    rintro e w5 ⟨Bx, cbx, rfl, hrowx, hb5⟩
    clear hseH t0 t1 t2 t3 t4 t5 tlt trow trowC
    have hA5 := hAt.below hb5
    have hB5 := hBt.below hb5
    have hbw5 : Hid (Below w.heap.size w w5) := hbwt.out.trans (hb5.mono hbwt.out.size)
    have hsm := same_any m m C C' cp cp' w5 hm4.out hm4.out hA5.row hB5.row
    rw [(sameB_iff m m).2 rfl] at hsm
    have hsmH : Hid _ := hsm
    obtain ⟨a0, a1, a2, a3, a4, alt, arow⟩ := (show CtxAt _ _ _ _ _ from hA5)
    obtain ⟨b0, b1, b2, b3, b4, blt, brow⟩ := (show CtxAt _ _ _ _ _ from hB5)
    have hwr5 := hWr.below hb5
    clear hsm
    go_wp2_with fail
    refine Calls.mono (show Calls _ _ _ _ _ from hsmH.out) ?_
    rintro e w6 ⟨rfl, hg6⟩
    clear hsmH a0 a1 a2 a3 a4 alt arow b0 b1 b2 b3 b4 blt brow
    have heq := equalC_any ([] : List Cel) ([] : List Cel) Bx none cbx 0 w6 hMl.out hMl.out (hrowx.gr hg6) (hwr5.gr hg6)
    rw [show eqLC ([] : List Cel) ([] : List Cel) = true by simp [eqLC]] at heq
    simp only [List.length_nil] at heq
    have heqH : Hid _ := heq
    clear heq
    go_wp2_with fail
    refine Calls.mono (show Calls _ _ _ _ _ from heqH.out) ?_
    rintro e w7 ⟨rfl, hg7⟩
    clear heqH
    have hbw7 : Hid (Below w.heap.size w w7) := hbw5.out.trans ((hg6.trans hg7).below.mono hbw5.out.size)
    go_wp2
    go_ret
    exact ⟨rfl, hbw7.out⟩

end Go.Proofs.Ytknjeajdiibafaa
