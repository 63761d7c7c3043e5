/-
  viewref.Since: what is to be merged with a table that has seen a context, as the document says it.
-/
import Derived.Test.YtjgefnipkaecgaaRSinceM
import Derived.Test.YtjgefnipkaecgaaRTable
import Derived.Test.YtjgefnipkaecgaaRCell
namespace Go.Proofs.Ytjgefnipkaecgaa
open Go.RowKit Go.Sort

theorem Six.other {w : World} {B : Nat} {u0 u1 u2 u3 u4 u5 : Value} (h : Six w B u0 u1 u2 u3 u4 u5) {B' j : Nat} (u : Value) (hB : B ≠ B') : Six (w.setCell ⟨B', j, none⟩ u) B u0 u1 u2 u3 u4 u5 := by
  have ho : ∀ i, (w.setCell ⟨B', j, none⟩ u).cell? ⟨B, i, none⟩ = w.cell? ⟨B, i, none⟩ := fun i => World.cell?_setCell_other _ _ _ _ (by intro e; injection e with e1; exact hB e1.symm)
  exact ⟨(ho 0).trans h.k0, (ho 1).trans h.k1, (ho 2).trans h.k2, (ho 3).trans h.k3, (ho 4).trans h.k4, (ho 5).trans h.k5, fun i => by simp only [World.frozen?_setCell]; exact h.fz i, by simpa [World.setCell] using h.lt⟩
theorem FiveAt.other {w : World} {B : Nat} {u0 u1 u2 u3 u4 : Value} (h : FiveAt w B u0 u1 u2 u3 u4) {B' j : Nat} (u : Value) (hB : B ≠ B') : FiveAt (w.setCell ⟨B', j, none⟩ u) B u0 u1 u2 u3 u4 := by
  have ho : ∀ i, (w.setCell ⟨B', j, none⟩ u).cell? ⟨B, i, none⟩ = w.cell? ⟨B, i, none⟩ := fun i => World.cell?_setCell_other _ _ _ _ (by intro e; injection e with e1; exact hB e1.symm)
  exact ⟨(ho 0).trans h.k0, (ho 1).trans h.k1, (ho 2).trans h.k2, (ho 3).trans h.k3, (ho 4).trans h.k4, fun i => by simp only [World.frozen?_setCell]; exact h.fz i, by simpa [World.setCell] using h.lt⟩
theorem FiveAt.belowB {w w' : World} {B N : Nat} {u0 u1 u2 u3 u4 : Value} (h : FiveAt w B u0 u1 u2 u3 u4) (k : Below N w w') (hB : B < N) : FiveAt w' B u0 u1 u2 u3 u4 :=
  ⟨(k.cell (p := ⟨B, 0, none⟩) hB).trans h.k0, (k.cell (p := ⟨B, 1, none⟩) hB).trans h.k1, (k.cell (p := ⟨B, 2, none⟩) hB).trans h.k2, (k.cell (p := ⟨B, 3, none⟩) hB).trans h.k3, (k.cell (p := ⟨B, 4, none⟩) hB).trans h.k4, fun j => (k.frozen (p := ⟨B, j, none⟩) hB).trans (h.fz j), Nat.lt_of_lt_of_le h.lt k.size⟩

/-- The table that is told, and the dots that go, in blocks O and O + 1. -/
structure RS (W : World) (O : Nat) (v u : Value) (N : List Cel) (K : List (Int × Int)) : Prop where
  out : Six W O (.int .i64 0) (.int .i64 0) (.int .i64 0) (.int .i64 0) (.slice none 0 0) v
  gone : FiveAt W (O + 1) (.int .i64 0) (.int .i64 0) (.int .i64 0) (.int .i64 0) u
  ov : OwnC W (O + 1 + 1) v N
  ou : Own W (O + 1 + 1) u K
  ap : Apart v u
theorem RS.below {W W' : World} {O : Nat} {v u : Value} {N : List Cel} {K : List (Int × Int)} (h : RS W O v u N K) (k : Below W.heap.size W W') : RS W' O v u N K :=
  ⟨h.out.below k, h.gone.below k, h.ov.below k, h.ou.below k, h.ap⟩
theorem RS.gr {W W' : World} {O : Nat} {v u : Value} {N : List Cel} {K : List (Int × Int)} (h : RS W O v u N K) (k : Gr W W') : RS W' O v u N K := h.below k.below
theorem RS.size {W : World} {O : Nat} {v u : Value} {N : List Cel} {K : List (Int × Int)} (h : RS W O v u N K) : O + 1 + 1 ≤ W.heap.size := h.gone.lt
theorem RS.known {W W' : World} {O : Nat} {v u u' : Value} {N : List Cel} {K K' : List (Int × Int)} (h : RS W O v u N K) (ho : Own W' (O + 1 + 1) u' K') (hg : W.grownBy W' u.ownBlock) (hat : u'.ownBlock = u.ownBlock ∨ u'.ownBlock = some W.heap.size) :
    RS (W'.setCell ⟨O + 1, 4, none⟩ u') O v u' N K' := by
  have hb : Below (O + 1 + 1) W W' := Own.grown_below h.ou hg h.size
  have h1 : Six W' O _ _ _ _ _ _ := h.out.belowB hb (by omega)
  have h2 : FiveAt W' (O + 1) _ _ _ _ _ := h.gone.belowB hb (by omega)
  refine ⟨h1.other _ (by omega), ⟨cell_set h2.k0, cell_set h2.k1, cell_set h2.k2, cell_set h2.k3, cell_set h2.k4, fun i => by simp only [World.frozen?_setCell]; exact h2.fz i, by simpa [World.setCell] using h2.lt⟩, ?_, ho.setCell (show O + 1 < O + 1 + 1 by omega) _, ?_⟩
  · exact ownsRow_setCell_below (World.ownsRow.kept h.ov hg h.ap.ne) (show O + 1 < O + 1 + 1 by omega) _
  · exact (h.ap.symm.grown hat fun g hg => (World.ownsRow.lt h.ov g hg).2).symm
theorem RS.news {W W' : World} {O : Nat} {v v' u : Value} {N N' : List Cel} {K : List (Int × Int)} (h : RS W O v u N K) (ho : OwnC W' (O + 1 + 1) v' N') (hg : W.grownBy W' v.ownBlock) (hat : v'.ownBlock = v.ownBlock ∨ v'.ownBlock = some W.heap.size) :
    RS (W'.setCell ⟨O, 5, none⟩ v') O v' u N' K := by
  have hb : Below (O + 1 + 1) W W' := OwnG.grown_below h.ov hg h.size
  have h1 : Six W' O _ _ _ _ _ _ := h.out.belowB hb (by omega)
  have h2 : FiveAt W' (O + 1) _ _ _ _ _ := h.gone.belowB hb (by omega)
  refine ⟨⟨cell_set h1.k0, cell_set h1.k1, cell_set h1.k2, cell_set h1.k3, cell_set h1.k4, cell_set h1.k5, fun i => by simp only [World.frozen?_setCell]; exact h1.fz i, by simpa [World.setCell] using h1.lt⟩, h2.other _ (by omega), ?_, ?_, ?_⟩
  · exact ownsRow_setCell_below ho (show O < O + 1 + 1 by omega) _
  · exact Own.setCell (World.ownsRow.kept h.ou hg h.ap.symm.ne) (show O < O + 1 + 1 by omega) _
  · exact h.ap.grown hat fun g hg => (World.ownsRow.lt h.ou g hg).2

/-- The clocks that are made, in a block behind W0's; and the dots that are left. -/
structure NS (W0 W : World) (x0 x1 x2 x3 : Int) (v : Value) (l : List (Int × Int)) : Prop where
  ck : ClkAt W W0.heap.size x0 x1 x2 x3
  own : Own W (W0.heap.size + 1) v l
  bel : Below W0.heap.size W0 W
theorem NS.gr {W0 W W' : World} {x0 x1 x2 x3 : Int} {v : Value} {l : List (Int × Int)} (h : NS W0 W x0 x1 x2 x3 v l) (k : Gr W W') : NS W0 W' x0 x1 x2 x3 v l :=
  ⟨h.ck.below k.below, h.own.gr k, h.bel.trans (k.below.mono h.bel.size)⟩
theorem NS.append {W0 W W' : World} {x0 x1 x2 x3 : Int} {v v' : Value} {l m : List (Int × Int)} (h : NS W0 W x0 x1 x2 x3 v l) (ho : Own W' (W0.heap.size + 1) v' m) (hg : W.grownBy W' v.ownBlock) : NS W0 W' x0 x1 x2 x3 v' m := by
  have hb : Below (W0.heap.size + 1) W W' := Own.grown_below h.own hg h.ck.lt
  exact ⟨h.ck.belowB hb (by omega), ho, h.bel.trans (hb.mono (by omega))⟩
theorem NS.set {W0 W : World} {x0 x1 x2 x3 : Int} {v : Value} {l : List (Int × Int)} (h : NS W0 W x0 x1 x2 x3 v l) (j : Nat) (u : Int) : NS W0 (W.setCell ⟨W0.heap.size, j, none⟩ (.int .i64 u)) (if 0 = j then u else x0) (if 1 = j then u else x1) (if 2 = j then u else x2) (if 3 = j then u else x3) v l :=
  ⟨h.ck.set j u, h.own.setCell (show W0.heap.size < W0.heap.size + 1 by omega) _, h.bel.setCell (Nat.le_refl _) _⟩
theorem ckv_next {b : Ctx} {q i : Nat} : (if i = q then clk b q else ckv b q i) = ckv b (q + 1) i := by
  unfold ckv
  by_cases h : i = q
  · subst h; rw [if_pos rfl, if_pos (by omega)]
  · rw [if_neg h]
    by_cases h2 : i < q
    · rw [if_pos h2, if_pos (by omega)]
    · rw [if_neg h2, if_neg (by omega)]
theorem tabClk {w : World} {B : Nat} {t : Tab} {A : Option Addr} {ca : Nat} {D : Option Addr} {cd : Nat} (h : TabAt w B t A ca D cd) {q : Nat} (h4 : q < 4) : w.cell? ⟨B, q, none⟩ = some (.int .i64 (clk t.c (q : Int))) := by
  have ha : q = 0 ∨ q = 1 ∨ q = 2 ∨ q = 3 := by omega
  rcases ha with rfl | rfl | rfl | rfl
  · exact h.k0
  · exact h.k1
  · exact h.k2
  · exact h.k3

theorem rhasB_g {K : List (Int × Int)} {A : Option Addr} {cap : Nat} {x y : Int} {r : Bool} {w : World} (hx : hasB (bareC K) (x, y) = r) (hl : K.length ≤ maxLen) (hr : Row w A K) :
    Calls Try.prog 18 #[.agg #[.int .i64 0, .int .i64 0, .int .i64 0, .int .i64 0, .slice A K.length cap], .agg #[.int .i64 x, .int .i64 y]] w fun e w' => e = .returned (.bool r) ∧ Gr w w' := by
  rw [← hx]; exact rhas_any (bareC K) A cap (x, y) w hl hr

set_option maxRecDepth 100000 in
set_option maxHeartbeats 4000000 in
theorem rsince_any (t : Tab) (c : Ctx) (A B D : Option Addr) (ca cb cd : Nat) (w : World) (htl : t.c.l.length ≤ maxLen) (hcl : c.l.length ≤ maxLen) (htel : t.e.length ≤ maxLen) (hra : Row w A t.c.l) (hrb : Row w B c.l) (hrd : RowC w D t.e) :
    Calls Try.prog 42 #[.agg #[.int .i64 t.c.c0, .int .i64 t.c.c1, .int .i64 t.c.c2, .int .i64 t.c.c3, .slice A t.c.l.length ca, .slice D t.e.length cd], .agg #[.int .i64 c.c0, .int .i64 c.c1, .int .i64 c.c2, .int .i64 c.c3, .slice B c.l.length cb]] w fun e w' => ∃ E ce F cf, e = .returned (.tuple #[.agg #[.int .i64 (sinceT t c).c.c0, .int .i64 (sinceT t c).c.c1, .int .i64 (sinceT t c).c.c2, .int .i64 (sinceT t c).c.c3, .slice E (sinceT t c).c.l.length ce, .slice F (sinceT t c).e.length cf], .int .i64 (sinceE t c)]) ∧ Row w' E (sinceT t c).c.l ∧ RowC w' F (sinceT t c).e ∧ (E = none → ce = 0) ∧ (F = none → cf = 0) ∧ Below w.heap.size w w' := by
  have hF0 : SinceAt w (((w.alloc (.cells #[.int .i64 t.c.c0, .int .i64 t.c.c1, .int .i64 t.c.c2, .int .i64 t.c.c3, .slice A t.c.l.length ca, .slice D t.e.length cd] 51)).alloc (.cells #[.int .i64 c.c0, .int .i64 c.c1, .int .i64 c.c2, .int .i64 c.c3, .slice B c.l.length cb] 25)).alloc (.cells #[.int .i64 0, .int .i64 0, .int .i64 0, .int .i64 0, .slice none 0 0, .slice none 0 0] 51)) t c A ca D cd B cb :=
    ⟨(TabAt.new 51 hra hrd rfl).gr (((Gr.refl _).alloc _).alloc _), (CtxAt.new 25 (hrb.gr ((Gr.refl _).alloc _)) (by simp)).gr ((Gr.refl _).alloc _), Six.new _ _ _ _ _ _ _ 51 (by simp), ((((Gr.refl w).alloc _).alloc _).alloc _).below⟩
  have hlH : Hid (t.c.l.length ≤ maxLen ∧ c.l.length ≤ maxLen ∧ t.e.length ≤ maxLen) := ⟨htl, hcl, htel⟩
  have hck := rtable_any t A ca D cd _ htl htel hF0.ta.row hF0.ta.rowC
  have hckH : Hid _ := hck
  clear hck htl hcl htel hra hrb hrd
  go_enter Try.func42, Try.ntmps42
  go_wp2_with fail
  refine Calls.mono (show Calls _ _ _ _ _ from hckH.out) ?_
  rintro e w1 ⟨rfl, hg1⟩
  clear hckH
  have hF1 := hF0.gr hg1
  clear hF0 hg1
  obtain ⟨E1, hE1⟩ : ∃ E, errT t = E := ⟨_, rfl⟩
  rw [hE1]
  by_cases h1 : E1 = 0
  · subst h1
    have heA : Hid (errT t = 0) := hE1
    clear hE1
    obtain ⟨b0, b1, b2, b3, b4, blt, brow⟩ := (show CtxAt _ _ _ _ _ from hF1.tc)
    have hck := rcontext_any c B cb w1 hlH.out.2.1 brow
    have hckH : Hid _ := hck
    clear hck brow
    go_wp2_with fail
    refine Calls.mono (show Calls _ _ _ _ _ from hckH.out) ?_
    rintro e w2 ⟨rfl, hg2⟩
    clear hckH b0 b1 b2 b3 b4 blt
    have hF2 := hF1.gr hg2
    clear hF1 hg2
    obtain ⟨E2, hE2⟩ : ∃ E, errC c = E := ⟨_, rfl⟩
    rw [hE2]
    by_cases h2 : E2 = 0
    · subst h2
      have heB : Hid (errC c = 0) := hE2
      clear hE2
      have hel4 : t.e.length ≤ 400 := (errT_parts heA.out).2.1
      have hgO : Gr w2 ((w2.alloc (.cells #[.int .i64 0, .int .i64 0, .int .i64 0, .int .i64 0, .slice none 0 0, .slice none 0 0] 51)).alloc (.cells #[.int .i64 0, .int .i64 0, .int .i64 0, .int .i64 0, .slice none 0 0] 25)) := ((Gr.refl _).alloc _).alloc _
      have hrs0 : RS ((w2.alloc (.cells #[.int .i64 0, .int .i64 0, .int .i64 0, .int .i64 0, .slice none 0 0, .slice none 0 0] 51)).alloc (.cells #[.int .i64 0, .int .i64 0, .int .i64 0, .int .i64 0, .slice none 0 0] 25)) w2.heap.size (.slice none 0 0) (.slice none 0 0) [] [] :=
        ⟨(Six.new _ _ _ _ _ _ _ 51 rfl).gr ((Gr.refl _).alloc _), FiveAt.new _ _ _ _ _ _ 25 (by simp), OwnG.nil _ _ _ _ _, Own.nil _ _, (fun g h => by cases h)⟩
      go_wp2
      generalize (w2.alloc (.cells #[.int .i64 0, .int .i64 0, .int .i64 0, .int .i64 0, .slice none 0 0, .slice none 0 0] 51)).alloc (.cells #[.int .i64 0, .int .i64 0, .int .i64 0, .int .i64 0, .slice none 0 0] 25) = w3 at hgO hrs0 ⊢
      have hb0 : Below w2.heap.size w2 w3 := hgO.below
      clear hgO
      go_loopw [10] (fun i wr => ∃ (k : Nat) (v u : Value), k ≤ t.e.length ∧ i = .int .i64 k ∧ RS wr w2.heap.size v u (newsL c (t.e.take k)) (dotsOf (knownP c) (t.e.take k)) ∧ Below w2.heap.size w2 wr) (fun i _ => t.e.length - (intOf i).toNat)
      case atStart => exact ⟨0, _, _, by omega, rfl, hrs0, hb0⟩
      case round =>
        clear hrs0 hb0
        obtain ⟨k, v, u, hk, rfl, hrs, hbel⟩ := hrel
        have hFR := hF2.below hbel
        have hsR := hrs.size
        have k5 := hFR.ta.k5
        by_cases hlt : k < t.e.length
        · have hltz : (k : Int) < (t.e.length : Int) := by omega
          obtain ⟨bb, off, rfl, hbb, hcs⟩ := RowC.get hFR.ta.rowC hlt
          obtain ⟨x, hx⟩ : ∃ x, t.e[k] = x := ⟨_, rfl⟩
          obtain ⟨e0, e1, e2, e3, e4⟩ := hcs k hlt
          rw [hx] at e0 e1 e2 e3 e4
          have hst := newsL_take (c := c) hlt hx
          have hst' := dotsOf_take (p := knownP c) hlt hx
          obtain ⟨M, HM⟩ : ∃ M, newsL c (t.e.take k) = M := ⟨_, rfl⟩
          have hMl : M.length ≤ 400 := by rw [← HM]; exact Nat.le_trans (newsL_len _ _) (by rw [List.length_take]; omega)
          obtain ⟨N, HN⟩ : ∃ N, dotsOf (knownP c) (t.e.take k) = N := ⟨_, rfl⟩
          have hNl : N.length ≤ 400 := by rw [← HN]; exact Nat.le_trans (dotsOf_len _ _) (by rw [List.length_take]; omega)
          rw [HM] at hst hrs
          rw [HN] at hst' hrs
          have hrsH : Hid (RS wr w2.heap.size v u M N) := hrs
          have hbelH : Hid (Below w2.heap.size w2 wr) := hbel
          have hgX : Gr wr (wr.alloc (.cells #[.int .i64 x.1.1, .int .i64 x.1.2, .int .i64 x.2.1, .int .i64 x.2.2.1, .int .i64 x.2.2.2] 72)) := (Gr.refl _).alloc _
          have hxA := CelAt.new (w := wr) x 72 rfl
          have hFX := hFR.gr hgX
          obtain ⟨b0, b1, b2, b3, b4, blt, brow⟩ := (show CtxAt _ _ _ _ _ from hFX.tc)
          obtain ⟨x0, x1, x2, x3, x4, xlt⟩ := (show CelAt _ _ _ from hxA)
          have hha := rhas_any c B cb x.1 _ hlH.out.2.1 brow
          have hhaH : Hid _ := hha
          clear hcs hx HM HN hrs hbel hha hFR
          go_wp2_with fail
          refine Calls.mono (show Calls _ _ _ _ _ from hhaH.out) ?_
          rintro e w4 ⟨rfl, hg4⟩
          clear hhaH x0 x1 x2 x3 x4 b0 b1 b2 b3 b4 k5 e0 e1 e2 e3 e4
          have hgW : Gr wr w4 := hgX.trans hg4
          obtain ⟨x0, x1, x2, x3, x4, xlt4⟩ := (show CelAt _ _ _ from hxA.gr hg4)
          have hrs4 := hrsH.out.gr hgW
          have hb4 : Below w2.heap.size w2 w4 := hbelH.out.trans (hgW.below.mono hbelH.out.size)
          have o5 := hrs4.out.k5
          have g4 := hrs4.gone.k4
          have of := hrs4.out.fz
          have gf := hrs4.gone.fz
          clear hFX hgX hg4 hxA xlt brow
          cases hq : hasB c x.1
          · have hst2 : Hid (newsL c (t.e.take (k + 1)) = M ++ [x]) := by show _ = _; rw [hst, if_neg (by simp [knownP, hq])]
            have hst3 : Hid (dotsOf (knownP c) (t.e.take (k + 1)) = N) := by show _ = _; rw [hst', if_neg (by simp [knownP, hq])]; simp
            have hbd : Hid (M.length + [x].length ≤ maxLen ∧ (M.length + [x].length) * 40 ≤ 140737488355328) := by show _ ∧ _; unfold maxLen; simp only [List.length_cons, List.length_nil]; omega
            have hrs5 : Hid (RS (w4.alloc (.cells #[.int .i64 x.1.1, .int .i64 x.1.2, .int .i64 x.2.1, .int .i64 x.2.2.1, .int .i64 x.2.2.2] 72)) w2.heap.size v u M N) := hrs4.gr ((Gr.refl _).alloc _)
            clear hst hst'
            go_wp2_with (at_builtin; refine wpList_append_cAt _ rfl _ _ rfl (w2.heap.size + 1 + 1) v M [x] ⟨w4.heap.size, 0, none⟩ 1 rfl rfl ?ho ?hr hbd.out.1 hbd.out.2 ?hs ?_)
            case ho => exact hrs5.out.ov
            case hr => exact rowNewCl rfl _ _
            case hs => exact hrs5.out.size
            intro v1 w5 hown1 hgr1 hat1
            obtain ⟨A3, cap3, hv1, _, _, _⟩ := OwnG.row encC_len hown1
            rw [show (M ++ [x]).length = M.length + 1 from by simp] at hv1
            have hb5 : Below (w2.heap.size + 1 + 1) (w4.alloc (.cells #[.int .i64 x.1.1, .int .i64 x.1.2, .int .i64 x.2.1, .int .i64 x.2.2.1, .int .i64 x.2.2.2] 72)) w5 := OwnG.grown_below hrs5.out.ov hgr1 hrs5.out.size
            have hrs6 : Hid (RS (w5.setCell ⟨w2.heap.size, 5, none⟩ v1) w2.heap.size v1 u (M ++ [x]) N) := hrs5.out.news hown1 hgr1 (by simpa using hat1)
            have hb6 : Hid (Below w2.heap.size w2 (w5.setCell ⟨w2.heap.size, 5, none⟩ v1)) := (((hb4.alloc hb4.size _).trans (hb5.mono (by omega)))).setCell (Nat.le_refl _) _
            have p5 := (hrs5.out.out.belowB hb5 (by omega)).k5
            have pf := (hrs5.out.out.belowB hb5 (by omega)).fz
            clear hown1 hgr1 hat1 o5 of g4 gf
            subst hv1
            go_wp2
            go_roundw
            case rel => exact ⟨k + 1, _, u, by omega, by go_num, by rw [hst2.out, hst3.out]; exact hrs6.out, hb6.out⟩
            case measure => simp [intOf]; omega
          · have hst2 : Hid (newsL c (t.e.take (k + 1)) = M) := by show _ = _; rw [hst, if_pos (by simp [knownP, hq])]; simp
            have hst3 : Hid (dotsOf (knownP c) (t.e.take (k + 1)) = N ++ [x.1]) := by show _ = _; rw [hst', if_pos (by simp [knownP, hq])]
            have hbd : Hid ((N.length + [x.1].length) * 16 ≤ 140737488355328) := by show _ ≤ _; simp only [List.length_cons, List.length_nil]; omega
            have hrs5 : Hid (RS (w4.alloc (.cells #[.int .i64 x.1.1, .int .i64 x.1.2] 27)) w2.heap.size v u M N) := hrs4.gr ((Gr.refl _).alloc _)
            obtain ⟨A2, cap2, rfl, hA2, _, _⟩ := hrs4.ou.row
            clear hst hst'
            go_wp2_with (at_builtin; refine wpList_append_dots _ rfl _ _ rfl (w2.heap.size + 1 + 1) (.slice A2 N.length cap2) N [x.1] (some ⟨w4.heap.size, 0, none⟩) 1 rfl rfl ?ho ?hr (fun h => by cases h) hbd.out ?hs ?_)
            case ho => exact hrs5.out.ou
            case hr => exact rowNew rfl x.1.1 x.1.2 _
            case hs => exact hrs5.out.size
            intro v1 w5 hown1 hgr1 hat1
            obtain ⟨A3, cap3, hv1, _, _, _⟩ := hown1.row
            rw [show (N ++ [x.1]).length = N.length + 1 from by simp] at hv1
            have hb5 : Below (w2.heap.size + 1 + 1) (w4.alloc (.cells #[.int .i64 x.1.1, .int .i64 x.1.2] 27)) w5 := Own.grown_below hrs5.out.ou hgr1 hrs5.out.size
            have hrs6 : Hid (RS (w5.setCell ⟨w2.heap.size + 1, 4, none⟩ v1) w2.heap.size v v1 M (N ++ [x.1])) := hrs5.out.known hown1 hgr1 (by simpa using hat1)
            have hb6 : Hid (Below w2.heap.size w2 (w5.setCell ⟨w2.heap.size + 1, 4, none⟩ v1)) := (((hb4.alloc hb4.size _).trans (hb5.mono (by omega)))).setCell (show w2.heap.size ≤ w2.heap.size + 1 by omega) _
            have p4 := (hrs5.out.gone.belowB hb5 (by omega)).k4
            have pf := (hrs5.out.gone.belowB hb5 (by omega)).fz
            clear hown1 hgr1 hat1 o5 of g4 gf
            subst hv1
            go_wp2
            go_roundw
            case rel => exact ⟨k + 1, v, _, by omega, by go_num, by rw [hst2.out, hst3.out]; exact hrs6.out, hb6.out⟩
            case measure => simp [intOf]; omega
        · have hltz : ¬ (k : Int) < (t.e.length : Int) := by omega
          have hke : t.e.take k = t.e := List.take_of_length_le (by omega)
          rw [hke] at hrs
          clear hke
          have hNl : (dotsOf (knownP c) t.e).length ≤ 400 := Nat.le_trans (dotsOf_len _ _) hel4
          have hNr := dotsOf_rightS heA.out (knownP c)
          have hSE : Hid (sinceE t c = woE t.c (dotsOf (knownP c) t.e) ∧ sinceT t c = if woE t.c (dotsOf (knownP c) t.e) = 0 then ⟨woC t.c (dotsOf (knownP c) t.e), newsL c t.e⟩ else ⟨zeroC, []⟩) := by
            have h1 : sinceE t c = woE t.c (dotsOf (knownP c) t.e) := by unfold sinceE; rw [heA.out, heB.out]; simp
            exact ⟨h1, by unfold sinceT; rw [h1]⟩
          obtain ⟨N, HN⟩ : ∃ N, newsL c t.e = N := ⟨_, rfl⟩
          obtain ⟨K, HK⟩ : ∃ K, dotsOf (knownP c) t.e = K := ⟨_, rfl⟩
          rw [HN] at hrs hSE
          rw [HK] at hrs hSE hNl hNr
          clear HN HK
          obtain ⟨Bq, HB⟩ : ∃ Bq, lowC t.c K = Bq := ⟨_, rfl⟩
          have hokT := (errC_parts (errT_parts heA.out).1)
          have hokB : okClk Bq = true := by rw [← HB]; exact lowC_ok hokT.1 hNr
          have hwo : Hid (woE t.c K = missE t.c Bq ∧ woC t.c K = if missE t.c Bq = 0 then ⟨Bq.c0, Bq.c1, Bq.c2, Bq.c3, missL t.c Bq⟩ else zeroC) := by
            have h2 : woE t.c K = missE t.c Bq := by unfold woE; rw [(errT_parts heA.out).1, HB]; simp
            exact ⟨h2, by unfold woC; rw [h2, HB]⟩
          have hdn : Hid (∀ q : Int, 0 ≤ q → q < 4 → downTo q K (clk t.c q) = clk Bq q) := fun q h0 h4 => by rw [← HB]; exact (clk_lowC hNr h0 h4).symm
          have hlo : Hid (∀ x : Int × Int, clk Bq x.1 < x.2 → hasB Bq x = hasB (bareC K) x) := fun x hx => by rw [← HB] at hx ⊢; exact has_low hx
          have hab : Hid (∀ x ∈ t.c.l, clk t.c x.1 + 2 ≤ x.2) := fun x hx => cloud_above (errT_parts heA.out).1 hx
          have hll4 : t.c.l.length ≤ 400 := hokT.2.1
          have hokTH : Hid (okClk t.c = true ∧ okClk Bq = true) := ⟨hokT.1, hokB⟩
          have hNrH : Hid (∀ x ∈ K, rightB x = true) := hNr
          have hKl : Hid (K.length ≤ maxLen) := Nat.le_trans hNl (by decide)
          obtain ⟨Av, cv, hve, hAv, hrv, hltv⟩ := OwnG.row encC_len hrs.ov
          obtain ⟨Ku, ku, hue, hKu, hru, hltu⟩ := hrs.ou.row
          subst hve hue
          have hG : CtxAt wr (w2.heap.size + 1) (bareC K) Ku ku := ⟨hrs.gone.k0, hrs.gone.k1, hrs.gone.k2, hrs.gone.k3, hrs.gone.k4, hrs.gone.lt, hru⟩
          have hO := hrs.out
          have hsO := hrs.size
          have hNS0 : NS wr (wr.alloc (.cells #[.int .i64 0, .int .i64 0, .int .i64 0, .int .i64 0] 22)) 0 0 0 0 (.slice none 0 0) [] :=
            ⟨⟨box1 (Gr.refl _) rfl, box1 (Gr.refl _) rfl, box1 (Gr.refl _) rfl, box1 (Gr.refl _) rfl, fun j => box1f (Gr.refl _) j, by simp⟩, Own.nil _ _, ((Gr.refl _).alloc _).below⟩
          clear hokT hokB HB hrs hNr
          go_wp2
          clear k5
          generalize wr.alloc (.cells #[.int .i64 0, .int .i64 0, .int .i64 0, .int .i64 0] 22) = w5 at hNS0 ⊢
          go_loopw [13, 14] (fun v i W => ∃ (V : Value) (q : Nat), v = V ∧ q ≤ 4 ∧ i = .int .i64 q ∧ (missK t.c Bq q).length ≤ 401 + 400 * q ∧ NS wr W (ckv Bq q 0) (ckv Bq q 1) (ckv Bq q 2) (ckv Bq q 3) V (missK t.c Bq q)) (fun _ i _ => 4 - (intOf i).toNat)
          case atStart => exact ⟨_, 0, rfl, by omega, rfl, by simp [missK], by simpa [ckv, missK] using hNS0⟩
          case round =>
            clear hNS0
            rename World => W
            obtain ⟨V, q, rfl, hq, rfl, hmq, hNS⟩ := hrel
            obtain ⟨A0, cap0, rfl, hA0, hrow0, hlt0⟩ := hNS.own.row
            have hTW := hFR.below hNS.bel
            have hGW := hG.below hNS.bel
            by_cases hq4 : q < 4
            · have hq4z : (q : Int) < 4 := by omega
              have hct := clk_of_ok hokTH.out.1 (q : Int) (by omega) hq4z
              have hcb := clk_of_ok hokTH.out.2 (q : Int) (by omega) hq4z
              have hqn := missK_len t.c Bq q
              have hdq := hdn.out (q : Int) (by omega) hq4z
              have ka : W.cell? ⟨w.heap.size, q, none⟩ = some (.int .i64 (clk t.c (q : Int))) := tabClk hTW.ta hq4
              go_wp2
              clear ka
              obtain ⟨Mq, HMq⟩ : ∃ M, missK t.c Bq q = M := ⟨_, rfl⟩
              rw [HMq] at hNS hrow0 hmq hqn ⊢
              have HMqH : Hid (missK t.c Bq q = Mq) := HMq
              clear HMq
              go_loopw [15] (fun n W1 => ∃ nn : Int, n = .int .i64 nn ∧ 0 ≤ nn ∧ nn ≤ 1099511627776 ∧ downTo (q : Int) K nn = clk Bq (q : Int) ∧ NS wr W1 (ckv Bq q 0) (ckv Bq q 1) (ckv Bq q 2) (ckv Bq q 3) (.slice A0 Mq.length cap0) Mq) (fun n _ => (intOf n).toNat)
              case atStart => exact ⟨clk t.c (q : Int), rfl, hct.1, hct.2, hdq, hNS⟩
              case round =>
                clear hNS hTW hGW hrow0
                rename World => W1
                obtain ⟨nn, rfl, hn0, hn1, hnd, hNS⟩ := hrel
                go_wp2
                go_loopw [16, 17] (fun kv iv W2 => ∃ (kk : Int) (m : Nat), kv = .int .i64 kk ∧ iv = .int .i64 m ∧ m ≤ K.length ∧ kk = downTo (q : Int) (K.take m) nn ∧ NS wr W2 (ckv Bq q 0) (ckv Bq q 1) (ckv Bq q 2) (ckv Bq q 3) (.slice A0 Mq.length cap0) Mq) (fun _ iv _ => K.length - (intOf iv).toNat)
                case atStart => exact ⟨nn, 0, rfl, rfl, Nat.zero_le _, rfl, hNS⟩
                case round =>
                  clear hNS
                  rename World => W2
                  obtain ⟨kk, m, rfl, rfl, hm, hkk, hNS⟩ := hrel
                  have hG2 := hG.below hNS.bel
                  have g4 := hG2.k4
                  change W2.cell? _ = some (.slice Ku K.length ku) at g4
                  have hkle : kk ≤ nn := by rw [hkk]; exact downTo_le _ _ _
                  have hkge : 0 ≤ kk := by rw [hkk]; exact downTo_nonneg (fun x hx => hNrH.out x (List.mem_of_mem_take hx)) hn0
                  by_cases hlt : m < K.length
                  · have hltz : (m : Int) < (K.length : Int) := by omega
                    obtain ⟨bb, off, hKe, hbb, hcs⟩ := hG2.row.at (show m < (bareC K).l.length from hlt)
                    subst hKe
                    obtain ⟨x, y, hx⟩ : ∃ x y, K[m] = (x, y) := ⟨_, _, rfl⟩
                    have e0 := (hcs m hlt).1
                    have e1 := (hcs m hlt).2
                    change W2.cell? _ = some (.int .i64 (K[m]).1) at e0
                    change W2.cell? _ = some (.int .i64 (K[m]).2) at e1
                    rw [hx] at e0 e1
                    have hst := downTo_take (q := (q : Int)) (n := nn) hlt hx
                    rw [← hkk] at hst
                    have hrx := hNrH.out _ (List.getElem_mem hlt)
                    rw [hx] at hrx
                    have hyb : 1 ≤ y ∧ y ≤ 1099511627776 := by
                      unfold rightB inB at hrx
                      simp only [Bool.and_eq_true, decide_eq_true_eq] at hrx
                      exact hrx.2
                    have hgD : Gr W2 (W2.alloc (.cells #[.int .i64 x, .int .i64 y] 27)) := (Gr.refl _).alloc _
                    obtain ⟨d0, d1, dlt⟩ := (show DotAt _ _ _ _ from DotAt.new (w := W2) (x := x) (y := y) 27 rfl)
                    have hNSH : Hid (NS wr W2 (ckv Bq q 0) (ckv Bq q 1) (ckv Bq q 2) (ckv Bq q 3) (.slice A0 Mq.length cap0) Mq) := hNS
                    clear hcs hx hrx hNS
                    by_cases hxq : x = (q : Int)
                    · subst hxq
                      by_cases hyk : y ≤ kk
                      · have hst2 : Hid (y - 1 = downTo (q : Int) (K.take (m + 1)) nn) := by show _ = _; rw [hst]; unfold downBy; rw [if_pos ⟨rfl, hyk⟩]
                        clear hst hkk
                        go_wp2
                        go_roundw
                        case rel => exact ⟨y - 1, m + 1, rfl, by go_num, by omega, hst2.out, hNSH.out.gr hgD⟩
                        case measure => simp [intOf]; omega
                      · have hst2 : Hid (kk = downTo (q : Int) (K.take (m + 1)) nn) := by show _ = _; rw [hst]; unfold downBy; rw [if_neg (fun h => hyk h.2)]
                        have hykb : decide (y ≤ kk) = false := by simpa using hyk
                        clear hst hkk
                        go_wp2
                        go_roundw
                        case rel => exact ⟨kk, m + 1, rfl, by go_num, by omega, hst2.out, hNSH.out.gr hgD⟩
                        case measure => simp [intOf]; omega
                    · have hst2 : Hid (kk = downTo (q : Int) (K.take (m + 1)) nn) := by show _ = _; rw [hst]; unfold downBy; rw [if_neg (fun h => hxq h.1)]
                      have hxb : (x == (q : Int)) = false := by simpa using hxq
                      clear hst hkk hxq
                      go_wp2
                      go_roundw
                      case rel => exact ⟨kk, m + 1, rfl, by go_num, by omega, hst2.out, hNSH.out.gr hgD⟩
                      case measure => simp [intOf]; omega
                  · have hltz : ¬ (m : Int) < (K.length : Int) := by omega
                    have hke : K.take m = K := List.take_of_length_le (by omega)
                    rw [hke, hnd] at hkk
                    by_cases hkn : kk = nn
                    · subst hkn
                      have hkb : Hid (kk = clk Bq (q : Int)) := hkk
                      have hck := hNS.ck
                      have cq : ∃ z, W2.cell? ⟨wr.heap.size, q, none⟩ = some (.int .i64 z) := by
                        have h4 : q = 0 ∨ q = 1 ∨ q = 2 ∨ q = 3 := by omega
                        rcases h4 with rfl | rfl | rfl | rfl
                        · exact ⟨_, hck.k0⟩
                        · exact ⟨_, hck.k1⟩
                        · exact ⟨_, hck.k2⟩
                        · exact ⟨_, hck.k3⟩
                      obtain ⟨z, cz⟩ := cq
                      have cf := hck.fz q
                      have hNS3 : Hid (NS wr (W2.setCell ⟨wr.heap.size, q, none⟩ (.int .i64 kk)) (ckv Bq (q + 1) 0) (ckv Bq (q + 1) 1) (ckv Bq (q + 1) 2) (ckv Bq (q + 1) 3) (.slice A0 Mq.length cap0) Mq) := by
                        have h := hNS.set q kk
                        rw [hkb.out] at h ⊢
                        rw [ckv_next, ckv_next, ckv_next, ckv_next] at h
                        exact h
                      clear hkk hck hNS
                      --KLOOP--
                      go_wp2
                      have hkk1 : kk + 1 = clk Bq (q : Int) + 1 := by rw [hkb.out]
                      rw [hkk1]
                      have hNS3' := hNS3.out
                      generalize W2.setCell ⟨wr.heap.size, q, none⟩ (.int .i64 kk) = W5 at hNS3' ⊢
                      clear hNS3 g4 cz cf hG2
                      go_loopw [13, 19] (fun v s W3 => ∃ (V : Value) (mm : List (Int × Int)) (tt : Int), v = V ∧ s = .int .i64 tt ∧ clk Bq (q : Int) + 1 ≤ tt ∧ tt ≤ 1099511627777 ∧ mm.length ≤ 2002 ∧ NS wr W3 (ckv Bq (q + 1) 0) (ckv Bq (q + 1) 1) (ckv Bq (q + 1) 2) (ckv Bq (q + 1) 3) V mm ∧ Hid (miss1 Bq (q : Int) (clk t.c (q : Int)) (clk t.c (q : Int) + 1 - tt).toNat mm tt = miss1 Bq (q : Int) (clk t.c (q : Int)) (clk t.c (q : Int) - clk Bq (q : Int)).toNat Mq (clk Bq (q : Int) + 1))) (fun _ s _ => (clk t.c (q : Int) + 1 - intOf s).toNat)
                      case atStart => exact ⟨_, Mq, clk Bq (q : Int) + 1, rfl, rfl, by omega, by omega, by omega, hNS3', by show _ = _; rw [show clk t.c (q : Int) + 1 - (clk Bq (q : Int) + 1) = clk t.c (q : Int) - clk Bq (q : Int) from by omega]⟩
                      case round =>
                        clear hNS3'
                        rename World => W3
                        obtain ⟨V3, mm, tt, rfl, rfl, ht1, ht2, hml, hNS, hmi⟩ := hrel
                        obtain ⟨A3, cap3, rfl, hA3, _, _⟩ := hNS.own.row
                        have hT3 := hFR.below hNS.bel
                        have ka : W3.cell? ⟨w.heap.size, q, none⟩ = some (.int .i64 (clk t.c (q : Int))) := tabClk hT3.ta hq4
                        have hG3 := hG.below hNS.bel
                        have g4 := hT3.ta.k4
                        by_cases hs : tt ≤ clk t.c (q : Int)
                        · by_cases hl4 : mm.length ≤ 400
                          · have hl4z : (mm.length : Int) ≤ 400 := by omega
                            have hst := miss1_step (b := Bq) (node := (q : Int)) hs hl4
                            have hhb : hasB Bq ((q : Int), tt) = hasB (bareC K) ((q : Int), tt) := hlo.out ((q : Int), tt) (show clk Bq (q : Int) < tt by omega)
                            rw [hhb] at hst
                            have hgD : Gr W3 (W3.alloc (.cells #[.int .i64 (q : Int), .int .i64 tt] 27)) := (Gr.refl _).alloc _
                            have hrG := hG3.row.gr hgD
                            obtain ⟨b0, b1, b2, b3, b4, blt, brow⟩ := (show CtxAt _ _ _ _ _ from hG3.gr hgD)
                            change World.cell? _ _ = some (.int .i64 0) at b0 b1 b2 b3
                            change World.cell? _ _ = some (.slice Ku K.length ku) at b4
                            have hNSH : Hid (NS wr W3 (ckv Bq (q + 1) 0) (ckv Bq (q + 1) 1) (ckv Bq (q + 1) 2) (ckv Bq (q + 1) 3) (.slice A3 mm.length cap3) mm) := hNS
                            clear hNS hhb
                            cases hh : hasB (bareC K) ((q : Int), tt)
                            · rw [hh] at hst
                              simp only [Bool.false_eq_true, if_false] at hst
                              have hnx : Hid (miss1 Bq (q : Int) (clk t.c (q : Int)) (clk t.c (q : Int) + 1 - (tt + 1)).toNat (mm ++ [((q : Int), tt)]) (tt + 1) = miss1 Bq (q : Int) (clk t.c (q : Int)) (clk t.c (q : Int) - clk Bq (q : Int)).toNat Mq (clk Bq (q : Int) + 1)) := hst.symm.trans hmi.out
                              have hbd : Hid ((mm.length + [((q : Int), tt)].length) * 16 ≤ 140737488355328) := by show _ ≤ _; simp only [List.length_cons, List.length_nil]; omega
                              clear hst
                              go_wp2_with (first | (go_at_call 18; refine (rhasB_g hh hKl.out hrG).mono ?_; rintro e w7 ⟨rfl, hg7⟩; have hd0 := (hg7.cell (p := ⟨W3.heap.size, 0, none⟩) (by simp)).trans (box1 (Gr.refl (W3.alloc (.cells #[.int .i64 (q : Int), .int .i64 tt] 27))) (j := 0) rfl); have hd1 := (hg7.cell (p := ⟨W3.heap.size, 1, none⟩) (by simp)).trans (box1 (Gr.refl (W3.alloc (.cells #[.int .i64 (q : Int), .int .i64 tt] 27))) (j := 1) rfl)) | (at_builtin; refine wpList_append_dots _ rfl _ _ rfl (wr.heap.size + 1) (.slice A3 mm.length cap3) mm [((q : Int), tt)] (some ⟨w7.heap.size, 0, none⟩) 1 rfl rfl ?ho ?hr (fun h => by cases h) hbd.out ?hs ?_))
                              case ho => exact (hNSH.out.gr ((hgD.trans hg7).alloc _)).own
                              case hr => exact rowNew rfl (q : Int) tt _
                              case hs => exact (hNSH.out.gr ((hgD.trans hg7).alloc _)).ck.lt
                              intro v8 w8 hown8 hgr8 hat8
                              have hNS8 : Hid (NS wr w8 (ckv Bq (q + 1) 0) (ckv Bq (q + 1) 1) (ckv Bq (q + 1) 2) (ckv Bq (q + 1) 3) v8 (mm ++ [((q : Int), tt)])) := (hNSH.out.gr ((hgD.trans hg7).alloc _)).append hown8 hgr8
                              clear hown8 hgr8 hat8 hd0 hd1
                              go_wp2
                              go_roundw
                              case rel => exact ⟨v8, mm ++ [((q : Int), tt)], tt + 1, rfl, by go_num, by omega, by omega, by simp only [List.length_append, List.length_cons, List.length_nil]; omega, hNS8.out, hnx⟩
                              case measure => simp [intOf]; omega
                            · rw [hh] at hst
                              simp only [if_true] at hst
                              have hnx : Hid (miss1 Bq (q : Int) (clk t.c (q : Int)) (clk t.c (q : Int) + 1 - (tt + 1)).toNat mm (tt + 1) = miss1 Bq (q : Int) (clk t.c (q : Int)) (clk t.c (q : Int) - clk Bq (q : Int)).toNat Mq (clk Bq (q : Int) + 1)) := hst.symm.trans hmi.out
                              clear hst
                              go_wp2_with (go_at_call 18; refine (rhasB_g hh hKl.out hrG).mono ?_; rintro e w7 ⟨rfl, hg7⟩)
                              go_roundw
                              case rel => exact ⟨_, mm, tt + 1, rfl, by go_num, by omega, by omega, hml, hNSH.out.gr (hgD.trans hg7), hnx⟩
                              case measure => simp [intOf]; omega
                          · have hl4z : ¬ (mm.length : Int) ≤ 400 := by omega
                            have hstop : ¬ (tt ≤ clk t.c (q : Int) ∧ mm.length ≤ 400) := fun h => hl4 h.2
                            have hmm : Hid (missK t.c Bq (q + 1) = miss2 Bq (q : Int) t.c.l mm) := by
                              show missN t.c Bq (q : Int) (missK t.c Bq q) = _
                              unfold missN
                              rw [HMqH.out, ← hmi.out, miss1_stop hstop]
                            clear hmi hstop hG3
                            go_wp2
                            clear ka g4
                            go_loopw [13, 21] (fun v i W4 => ∃ (V : Value) (j : Nat), v = V ∧ j ≤ t.c.l.length ∧ i = .int .i64 j ∧ NS wr W4 (ckv Bq (q + 1) 0) (ckv Bq (q + 1) 1) (ckv Bq (q + 1) 2) (ckv Bq (q + 1) 3) V (miss2 Bq (q : Int) (t.c.l.take j) mm)) (fun _ i _ => t.c.l.length - (intOf i).toNat)
                            case atStart => exact ⟨_, 0, rfl, Nat.zero_le _, rfl, hNS⟩
                            case round =>
                              clear hNS
                              rename World => W4
                              obtain ⟨V4, j, rfl, hj, rfl, hNS⟩ := hrel
                              have hln := miss2_len Bq (q : Int) (t.c.l.take j) mm
                              have hlt2 : (t.c.l.take j).length ≤ j := List.length_take_le _ _
                              obtain ⟨M4, hM4⟩ : ∃ M, miss2 Bq (q : Int) (t.c.l.take j) mm = M := ⟨_, rfl⟩
                              rw [hM4] at hNS hln
                              have HM4 : Hid (miss2 Bq (q : Int) (t.c.l.take j) mm = M4) := hM4
                              clear hM4
                              obtain ⟨A4, cap4, rfl, hA4, _, _⟩ := hNS.own.row
                              have hT4 := hFR.below hNS.bel
                              have t4 := hT4.ta.k4
                              by_cases hjt : j < t.c.l.length
                              · have hltz4 : (j : Int) < (t.c.l.length : Int) := by omega
                                obtain ⟨bb4, off4, hAe, hbb4, hcs4⟩ := hT4.ta.row.at hjt
                                subst hAe
                                obtain ⟨x, y, hx⟩ : ∃ x y, t.c.l[j] = (x, y) := ⟨_, _, rfl⟩
                                have e0 := (hcs4 j hjt).1
                                have e1 := (hcs4 j hjt).2
                                rw [hx] at e0 e1
                                have hst := miss2_take (b := Bq) (node := (q : Int)) (l := mm) hjt hx
                                rw [HM4.out] at hst
                                simp only at hst
                                have hxa := hab.out _ (List.getElem_mem hjt)
                                rw [hx] at hxa
                                simp only at hxa
                                have hgD : Gr W4 (W4.alloc (.cells #[.int .i64 x, .int .i64 y] 27)) := (Gr.refl _).alloc _
                                have hG4 := hG.below hNS.bel
                                have hrG := hG4.row.gr hgD
                                obtain ⟨b0, b1, b2, b3, b4, blt, brow⟩ := (show CtxAt _ _ _ _ _ from hG4.gr hgD)
                                change World.cell? _ _ = some (.int .i64 0) at b0 b1 b2 b3
                                change World.cell? _ _ = some (.slice Ku K.length ku) at b4
                                have hNSH : Hid (NS wr W4 (ckv Bq (q + 1) 0) (ckv Bq (q + 1) 1) (ckv Bq (q + 1) 2) (ckv Bq (q + 1) 3) (.slice A4 M4.length cap4) M4) := hNS
                                clear hcs4 hx hNS
                                by_cases hxn : x = (q : Int)
                                · subst hxn
                                  have hhb : hasB Bq ((q : Int), y) = hasB (bareC K) ((q : Int), y) := hlo.out ((q : Int), y) (by have h1 := hdn.out (q : Int) (by omega) hq4z; have h2 := downTo_le (q : Int) K (clk t.c (q : Int)); show clk Bq (q : Int) < y; omega)
                                  rw [hhb] at hst
                                  cases hh : hasB (bareC K) ((q : Int), y)
                                  · have hst2 : Hid (miss2 Bq (q : Int) (t.c.l.take (j + 1)) mm = M4 ++ [((q : Int), y)]) := by show _ = _; rw [hst, if_pos ⟨rfl, hh⟩]
                                    have hbd : Hid ((M4.length + [((q : Int), y)].length) * 16 ≤ 140737488355328) := by show _ ≤ _; simp only [List.length_cons, List.length_nil]; omega
                                    clear hst hhb
                                    go_wp2_with (first | (go_at_call 18; refine (rhasB_g hh hKl.out hrG).mono ?_; rintro e w7 ⟨rfl, hg7⟩; have hd0 := (hg7.cell (p := ⟨W4.heap.size, 0, none⟩) (by simp)).trans (box1 (Gr.refl (W4.alloc (.cells #[.int .i64 (q : Int), .int .i64 y] 27))) (j := 0) rfl); have hd1 := (hg7.cell (p := ⟨W4.heap.size, 1, none⟩) (by simp)).trans (box1 (Gr.refl (W4.alloc (.cells #[.int .i64 (q : Int), .int .i64 y] 27))) (j := 1) rfl)) | (at_builtin; refine wpList_append_dots _ rfl _ _ rfl (wr.heap.size + 1) (.slice A4 M4.length cap4) M4 [((q : Int), y)] (some ⟨w7.heap.size, 0, none⟩) 1 rfl rfl ?ho ?hr (fun h => by cases h) hbd.out ?hs ?_))
                                    case ho => exact (hNSH.out.gr ((hgD.trans hg7).alloc _)).own
                                    case hr => exact rowNew rfl (q : Int) y _
                                    case hs => exact (hNSH.out.gr ((hgD.trans hg7).alloc _)).ck.lt
                                    intro v8 w8 hown8 hgr8 hat8
                                    have hNS8 : Hid (NS wr w8 (ckv Bq (q + 1) 0) (ckv Bq (q + 1) 1) (ckv Bq (q + 1) 2) (ckv Bq (q + 1) 3) v8 (M4 ++ [((q : Int), y)])) := (hNSH.out.gr ((hgD.trans hg7).alloc _)).append hown8 hgr8
                                    clear hown8 hgr8 hat8 hd0 hd1
                                    go_wp2
                                    go_roundw
                                    case rel => exact ⟨v8, j + 1, rfl, by omega, by go_num, by rw [hst2.out]; exact hNS8.out⟩
                                    case measure => simp [intOf]; omega
                                  · have hst2 : Hid (miss2 Bq (q : Int) (t.c.l.take (j + 1)) mm = M4) := by show _ = _; rw [hst, if_neg (by rw [hh]; simp)]
                                    clear hst hhb
                                    go_wp2_with (go_at_call 18; refine (rhasB_g hh hKl.out hrG).mono ?_; rintro e w7 ⟨rfl, hg7⟩)
                                    go_roundw
                                    case rel => exact ⟨_, j + 1, rfl, by omega, by go_num, by rw [hst2.out]; exact hNSH.out.gr (hgD.trans hg7)⟩
                                    case measure => simp [intOf]; omega
                                · have hst2 : Hid (miss2 Bq (q : Int) (t.c.l.take (j + 1)) mm = M4) := by show _ = _; rw [hst, if_neg (fun h => hxn h.1)]
                                  have hxb : (x == (q : Int)) = false := by simpa using hxn
                                  clear hst hxn
                                  go_wp2
                                  go_roundw
                                  case rel => exact ⟨_, j + 1, rfl, by omega, by go_num, by rw [hst2.out]; exact hNSH.out.gr hgD⟩
                                  case measure => simp [intOf]; omega
                              · have hltz4 : ¬ (j : Int) < (t.c.l.length : Int) := by omega
                                have hke4 : t.c.l.take j = t.c.l := List.take_of_length_le (by omega)
                                have hfin : Hid (missK t.c Bq (q + 1) = M4) := by
                                  have h1 := HM4.out
                                  rw [hke4] at h1
                                  exact hmm.out.trans h1
                                clear hke4 HM4
                                go_wp2
                                go_roundw
                                case rel => exact ⟨_, q + 1, rfl, by omega, by go_num, by omega, by rw [hfin.out]; exact hNS⟩
                                case measure => simp [intOf]; omega
                        · have hsb : decide (tt ≤ clk t.c (q : Int)) = false := by simpa using hs
                          have hstop : ¬ (tt ≤ clk t.c (q : Int) ∧ mm.length ≤ 400) := fun h => hs h.1
                          have hmm : Hid (missK t.c Bq (q + 1) = miss2 Bq (q : Int) t.c.l mm) := by
                            show missN t.c Bq (q : Int) (missK t.c Bq q) = _
                            unfold missN
                            rw [HMqH.out, ← hmi.out, miss1_stop hstop]
                          clear hmi hstop hG3
                          go_wp2
                          clear ka g4
                          go_loopw [13, 21] (fun v i W4 => ∃ (V : Value) (j : Nat), v = V ∧ j ≤ t.c.l.length ∧ i = .int .i64 j ∧ NS wr W4 (ckv Bq (q + 1) 0) (ckv Bq (q + 1) 1) (ckv Bq (q + 1) 2) (ckv Bq (q + 1) 3) V (miss2 Bq (q : Int) (t.c.l.take j) mm)) (fun _ i _ => t.c.l.length - (intOf i).toNat)
                          case atStart => exact ⟨_, 0, rfl, Nat.zero_le _, rfl, hNS⟩
                          case round =>
                            clear hNS
                            rename World => W4
                            obtain ⟨V4, j, rfl, hj, rfl, hNS⟩ := hrel
                            have hln := miss2_len Bq (q : Int) (t.c.l.take j) mm
                            have hlt2 : (t.c.l.take j).length ≤ j := List.length_take_le _ _
                            obtain ⟨M4, hM4⟩ : ∃ M, miss2 Bq (q : Int) (t.c.l.take j) mm = M := ⟨_, rfl⟩
                            rw [hM4] at hNS hln
                            have HM4 : Hid (miss2 Bq (q : Int) (t.c.l.take j) mm = M4) := hM4
                            clear hM4
                            obtain ⟨A4, cap4, rfl, hA4, _, _⟩ := hNS.own.row
                            have hT4 := hFR.below hNS.bel
                            have t4 := hT4.ta.k4
                            by_cases hjt : j < t.c.l.length
                            · have hltz4 : (j : Int) < (t.c.l.length : Int) := by omega
                              obtain ⟨bb4, off4, hAe, hbb4, hcs4⟩ := hT4.ta.row.at hjt
                              subst hAe
                              obtain ⟨x, y, hx⟩ : ∃ x y, t.c.l[j] = (x, y) := ⟨_, _, rfl⟩
                              have e0 := (hcs4 j hjt).1
                              have e1 := (hcs4 j hjt).2
                              rw [hx] at e0 e1
                              have hst := miss2_take (b := Bq) (node := (q : Int)) (l := mm) hjt hx
                              rw [HM4.out] at hst
                              simp only at hst
                              have hxa := hab.out _ (List.getElem_mem hjt)
                              rw [hx] at hxa
                              simp only at hxa
                              have hgD : Gr W4 (W4.alloc (.cells #[.int .i64 x, .int .i64 y] 27)) := (Gr.refl _).alloc _
                              have hG4 := hG.below hNS.bel
                              have hrG := hG4.row.gr hgD
                              obtain ⟨b0, b1, b2, b3, b4, blt, brow⟩ := (show CtxAt _ _ _ _ _ from hG4.gr hgD)
                              change World.cell? _ _ = some (.int .i64 0) at b0 b1 b2 b3
                              change World.cell? _ _ = some (.slice Ku K.length ku) at b4
                              have hNSH : Hid (NS wr W4 (ckv Bq (q + 1) 0) (ckv Bq (q + 1) 1) (ckv Bq (q + 1) 2) (ckv Bq (q + 1) 3) (.slice A4 M4.length cap4) M4) := hNS
                              clear hcs4 hx hNS
                              by_cases hxn : x = (q : Int)
                              · subst hxn
                                have hhb : hasB Bq ((q : Int), y) = hasB (bareC K) ((q : Int), y) := hlo.out ((q : Int), y) (by have h1 := hdn.out (q : Int) (by omega) hq4z; have h2 := downTo_le (q : Int) K (clk t.c (q : Int)); show clk Bq (q : Int) < y; omega)
                                rw [hhb] at hst
                                cases hh : hasB (bareC K) ((q : Int), y)
                                · have hst2 : Hid (miss2 Bq (q : Int) (t.c.l.take (j + 1)) mm = M4 ++ [((q : Int), y)]) := by show _ = _; rw [hst, if_pos ⟨rfl, hh⟩]
                                  have hbd : Hid ((M4.length + [((q : Int), y)].length) * 16 ≤ 140737488355328) := by show _ ≤ _; simp only [List.length_cons, List.length_nil]; omega
                                  clear hst hhb
                                  go_wp2_with (first | (go_at_call 18; refine (rhasB_g hh hKl.out hrG).mono ?_; rintro e w7 ⟨rfl, hg7⟩; have hd0 := (hg7.cell (p := ⟨W4.heap.size, 0, none⟩) (by simp)).trans (box1 (Gr.refl (W4.alloc (.cells #[.int .i64 (q : Int), .int .i64 y] 27))) (j := 0) rfl); have hd1 := (hg7.cell (p := ⟨W4.heap.size, 1, none⟩) (by simp)).trans (box1 (Gr.refl (W4.alloc (.cells #[.int .i64 (q : Int), .int .i64 y] 27))) (j := 1) rfl)) | (at_builtin; refine wpList_append_dots _ rfl _ _ rfl (wr.heap.size + 1) (.slice A4 M4.length cap4) M4 [((q : Int), y)] (some ⟨w7.heap.size, 0, none⟩) 1 rfl rfl ?ho ?hr (fun h => by cases h) hbd.out ?hs ?_))
                                  case ho => exact (hNSH.out.gr ((hgD.trans hg7).alloc _)).own
                                  case hr => exact rowNew rfl (q : Int) y _
                                  case hs => exact (hNSH.out.gr ((hgD.trans hg7).alloc _)).ck.lt
                                  intro v8 w8 hown8 hgr8 hat8
                                  have hNS8 : Hid (NS wr w8 (ckv Bq (q + 1) 0) (ckv Bq (q + 1) 1) (ckv Bq (q + 1) 2) (ckv Bq (q + 1) 3) v8 (M4 ++ [((q : Int), y)])) := (hNSH.out.gr ((hgD.trans hg7).alloc _)).append hown8 hgr8
                                  clear hown8 hgr8 hat8 hd0 hd1
                                  go_wp2
                                  go_roundw
                                  case rel => exact ⟨v8, j + 1, rfl, by omega, by go_num, by rw [hst2.out]; exact hNS8.out⟩
                                  case measure => simp [intOf]; omega
                                · have hst2 : Hid (miss2 Bq (q : Int) (t.c.l.take (j + 1)) mm = M4) := by show _ = _; rw [hst, if_neg (by rw [hh]; simp)]
                                  clear hst hhb
                                  go_wp2_with (go_at_call 18; refine (rhasB_g hh hKl.out hrG).mono ?_; rintro e w7 ⟨rfl, hg7⟩)
                                  go_roundw
                                  case rel => exact ⟨_, j + 1, rfl, by omega, by go_num, by rw [hst2.out]; exact hNSH.out.gr (hgD.trans hg7)⟩
                                  case measure => simp [intOf]; omega
                              · have hst2 : Hid (miss2 Bq (q : Int) (t.c.l.take (j + 1)) mm = M4) := by show _ = _; rw [hst, if_neg (fun h => hxn h.1)]
                                have hxb : (x == (q : Int)) = false := by simpa using hxn
                                clear hst hxn
                                go_wp2
                                go_roundw
                                case rel => exact ⟨_, j + 1, rfl, by omega, by go_num, by rw [hst2.out]; exact hNSH.out.gr hgD⟩
                                case measure => simp [intOf]; omega
                            · have hltz4 : ¬ (j : Int) < (t.c.l.length : Int) := by omega
                              have hke4 : t.c.l.take j = t.c.l := List.take_of_length_le (by omega)
                              have hfin : Hid (missK t.c Bq (q + 1) = M4) := by
                                have h1 := HM4.out
                                rw [hke4] at h1
                                exact hmm.out.trans h1
                              clear hke4 HM4
                              go_wp2
                              go_roundw
                              case rel => exact ⟨_, q + 1, rfl, by omega, by go_num, by omega, by rw [hfin.out]; exact hNS⟩
                              case measure => simp [intOf]; omega
                    · have hknb : (kk == nn) = false := by simpa using hkn
                      have hid : Hid (downTo (q : Int) K kk = clk Bq (q : Int)) := by show _ = _; rw [hkk, ← hnd, downTo_idem]
                      have hkl : kk < nn := by omega
                      clear hkk hkn
                      go_wp2
                      go_roundw
                      case rel => exact ⟨kk, rfl, hkge, by omega, hid.out, hNS⟩
                      case measure => simp [intOf]; omega
            · obtain rfl : q = 4 := by omega
              have hOW := hO.below hNS.bel
              have hrW := hrv.below hNS.bel
              have hckW := hNS.ck
              change ClkAt W wr.heap.size Bq.c0 Bq.c1 Bq.c2 Bq.c3 at hckW
              have hsw := hF2.res.lt
              have hA0n : Hid (∀ x, A0 = some x → x.block ≠ w2.heap.size ∧ x.block ≠ w.heap.size + 1 + 1) := fun x hx => by have := (hlt0 x hx).1; omega
              have hAvn : Hid (∀ x, Av = some x → x.block ≠ w2.heap.size ∧ x.block ≠ w.heap.size + 1 + 1) := fun x hx => by have := (hltv x hx).1; omega
              obtain ⟨Mf, HMf⟩ : ∃ M, missK t.c Bq 4 = M := ⟨_, rfl⟩
              rw [HMf] at hrow0 hmq ⊢
              have hbwW : Below w.heap.size w W := hTW.hw
              have hres := hTW.res
              clear hNS hTW hGW hG hO hrv
              by_cases h400 : 400 < Mf.length
              · have h400z : (400 : Int) < (Mf.length : Int) := by omega
                have hfin : Hid (sinceE t c = 2 ∧ sinceT t c = ⟨zeroC, []⟩) := by
                  have h1 : missE t.c Bq = 2 := by unfold missE; rw [HMf, if_pos h400]
                  have h2 : woE t.c K = 2 := by rw [hwo.out.1, h1]
                  exact ⟨by rw [hSE.out.1, h2], by rw [hSE.out.2, h2]; rfl⟩
                obtain ⟨z0, z1, z2, z3, z4, z5, zf, zlt⟩ := (show Six _ _ _ _ _ _ _ _ from hres)
                have hbw : Hid (Below w.heap.size w _) := hbwW
                go_wp2
                rw [hfin.out.1, hfin.out.2]
                exact bodyPost_ret (v := .tuple #[.agg #[.int .i64 0, .int .i64 0, .int .i64 0, .int .i64 0, .slice none 0 0, .slice none 0 0], .int .i64 2]) (by simp [results, Try.results42, go_sem, z0, z1, z2, z3, z4, z5]) rfl ⟨none, 0, none, 0, rfl, Or.inl rfl, Or.inl rfl, fun _ => rfl, fun _ => rfl, below_set6 hbw.out (by omega) _ _ _ _ _ _⟩
              · have h400z : ¬ (400 : Int) < (Mf.length : Int) := by omega
                have hfin : Hid (sinceE t c = 0 ∧ sinceT t c = ⟨⟨Bq.c0, Bq.c1, Bq.c2, Bq.c3, Mf⟩, N⟩) := by
                  have h1 : missE t.c Bq = 0 := by unfold missE; rw [HMf, if_neg h400]
                  have h3 : missL t.c Bq = Mf := by unfold missL; rw [HMf, if_neg h400]
                  have h2 : woE t.c K = 0 := by rw [hwo.out.1, h1]
                  have h4 : woC t.c K = ⟨Bq.c0, Bq.c1, Bq.c2, Bq.c3, Mf⟩ := by rw [hwo.out.2, h1, h3]; rfl
                  exact ⟨by rw [hSE.out.1, h2], by rw [hSE.out.2, h2, h4]; rfl⟩
                obtain ⟨o0, o1, o2, o3, o4, o5, of, olt⟩ := (show Six _ _ _ _ _ _ _ _ from hOW)
                obtain ⟨q0, q1, q2, q3, qf, qlt⟩ := (show ClkAt _ _ _ _ _ _ from hckW)
                have h1 := fun x hx => (hA0n.out x hx).1
                have h2 := fun x hx => (hAvn.out x hx).1
                have hS5 : Six (((((W.setCell ⟨w2.heap.size, 0, none⟩ (.int .i64 Bq.c0)).setCell ⟨w2.heap.size, 1, none⟩ (.int .i64 Bq.c1)).setCell ⟨w2.heap.size, 2, none⟩ (.int .i64 Bq.c2)).setCell ⟨w2.heap.size, 3, none⟩ (.int .i64 Bq.c3)).setCell ⟨w2.heap.size, 4, none⟩ (.slice A0 Mf.length cap0)) w2.heap.size (.int .i64 Bq.c0) (.int .i64 Bq.c1) (.int .i64 Bq.c2) (.int .i64 Bq.c3) (.slice A0 Mf.length cap0) (.slice Av N.length cv) :=
                  ⟨cell_set (cell_set (cell_set (cell_set (cell_set o0)))), cell_set (cell_set (cell_set (cell_set (cell_set o1)))), cell_set (cell_set (cell_set (cell_set (cell_set o2)))), cell_set (cell_set (cell_set (cell_set (cell_set o3)))), cell_set (cell_set (cell_set (cell_set (cell_set o4)))), cell_set (cell_set (cell_set (cell_set (cell_set o5)))), fun j => by simp only [World.frozen?_setCell]; exact of j, by simpa [World.setCell] using olt⟩
                have hR5 : ZTab (((((W.setCell ⟨w2.heap.size, 0, none⟩ (.int .i64 Bq.c0)).setCell ⟨w2.heap.size, 1, none⟩ (.int .i64 Bq.c1)).setCell ⟨w2.heap.size, 2, none⟩ (.int .i64 Bq.c2)).setCell ⟨w2.heap.size, 3, none⟩ (.int .i64 Bq.c3)).setCell ⟨w2.heap.size, 4, none⟩ (.slice A0 Mf.length cap0)) (w.heap.size + 1 + 1) := ((((hres.other _ (by omega)).other _ (by omega)).other _ (by omega)).other _ (by omega)).other _ (by omega)
                have hb5 : Below w.heap.size w (((((W.setCell ⟨w2.heap.size, 0, none⟩ (.int .i64 Bq.c0)).setCell ⟨w2.heap.size, 1, none⟩ (.int .i64 Bq.c1)).setCell ⟨w2.heap.size, 2, none⟩ (.int .i64 Bq.c2)).setCell ⟨w2.heap.size, 3, none⟩ (.int .i64 Bq.c3)).setCell ⟨w2.heap.size, 4, none⟩ (.slice A0 Mf.length cap0)) := below_set5 hbwW (by omega) _ _ _ _ _
                have hr5 : Row (((((W.setCell ⟨w2.heap.size, 0, none⟩ (.int .i64 Bq.c0)).setCell ⟨w2.heap.size, 1, none⟩ (.int .i64 Bq.c1)).setCell ⟨w2.heap.size, 2, none⟩ (.int .i64 Bq.c2)).setCell ⟨w2.heap.size, 3, none⟩ (.int .i64 Bq.c3)).setCell ⟨w2.heap.size, 4, none⟩ (.slice A0 Mf.length cap0)) A0 Mf := ((((hrow0.setCell _ h1).setCell _ h1).setCell _ h1).setCell _ h1).setCell _ h1
                have hc5 : RowC (((((W.setCell ⟨w2.heap.size, 0, none⟩ (.int .i64 Bq.c0)).setCell ⟨w2.heap.size, 1, none⟩ (.int .i64 Bq.c1)).setCell ⟨w2.heap.size, 2, none⟩ (.int .i64 Bq.c2)).setCell ⟨w2.heap.size, 3, none⟩ (.int .i64 Bq.c3)).setCell ⟨w2.heap.size, 4, none⟩ (.slice A0 Mf.length cap0)) Av N := ((((hrW.setCell _ h2).setCell _ h2).setCell _ h2).setCell _ h2).setCell _ h2
                have hA0H : Hid (A0 = none → cap0 = 0) := hA0
                have hAvH : Hid (Av = none → cv = 0) := hAv
                clear h1 h2 hres hrW hrow0 hbwW hOW hckW h400 hA0 hAv
                go_upto_region 48 with fail
                generalize (((((W.setCell ⟨w2.heap.size, 0, none⟩ (.int .i64 Bq.c0)).setCell ⟨w2.heap.size, 1, none⟩ (.int .i64 Bq.c1)).setCell ⟨w2.heap.size, 2, none⟩ (.int .i64 Bq.c2)).setCell ⟨w2.heap.size, 3, none⟩ (.int .i64 Bq.c3)).setCell ⟨w2.heap.size, 4, none⟩ (.slice A0 Mf.length cap0)) = V5 at hS5 hR5 hb5 hr5 hc5 ⊢
                obtain ⟨s0, s1, s2, s3, s4, s5, sf, slt⟩ := (show Six _ _ _ _ _ _ _ _ from hS5)
                obtain ⟨z0, z1, z2, z3, z4, z5, zf, zlt⟩ := (show Six _ _ _ _ _ _ _ _ from hR5)
                have hbw : Hid (Below w.heap.size w V5) := hb5
                have hrH : Hid (Row V5 A0 Mf) := hr5
                have hcH : Hid (RowC V5 Av N) := hc5
                clear o0 o1 o2 o3 o4 o5 of olt q0 q1 q2 q3 qf qlt hb5 hr5 hc5
                go_wp2
                rw [hfin.out.1, hfin.out.2]
                have h1 := fun x hx => (hA0n.out x hx).2
                have h2 := fun x hx => (hAvn.out x hx).2
                exact bodyPost_ret (v := .tuple #[.agg #[.int .i64 Bq.c0, .int .i64 Bq.c1, .int .i64 Bq.c2, .int .i64 Bq.c3, .slice A0 Mf.length cap0, .slice Av N.length cv], .int .i64 0]) (by simp [results, Try.results42, go_sem, z0, z1, z2, z3, z4, z5]) rfl ⟨A0, cap0, Av, cv, rfl, (((((hrH.out.setCell _ h1).setCell _ h1).setCell _ h1).setCell _ h1).setCell _ h1).setCell _ h1, (((((hcH.out.setCell _ h2).setCell _ h2).setCell _ h2).setCell _ h2).setCell _ h2).setCell _ h2, hA0H.out, hAvH.out, below_set6 hbw.out (by omega) _ _ _ _ _ _⟩
    · have hfin : Hid (sinceE t c = E2 ∧ sinceT t c = ⟨zeroC, []⟩) := sinceT_no (by unfold sinceE; rw [heA.out, hE2]; simp [h2]) h2
      have heb : (E2 != 0) = true := by simpa using h2
      clear h2 hE2
      obtain ⟨z0, z1, z2, z3, z4, z5, zf, zlt⟩ := (show Six _ _ _ _ _ _ _ _ from hF2.res)
      have hbw : Hid (Below w.heap.size w _) := hF2.hw
      go_wp2
      rw [hfin.out.1, hfin.out.2]
      exact bodyPost_ret (v := .tuple #[.agg #[.int .i64 0, .int .i64 0, .int .i64 0, .int .i64 0, .slice none 0 0, .slice none 0 0], .int .i64 E2]) (by simp [results, Try.results42, go_sem, z0, z1, z2, z3, z4, z5]) rfl ⟨none, 0, none, 0, rfl, Or.inl rfl, Or.inl rfl, fun _ => rfl, fun _ => rfl, below_set6 hbw.out (by omega) _ _ _ _ _ _⟩
  · have hfin : Hid (sinceE t c = E1 ∧ sinceT t c = ⟨zeroC, []⟩) := sinceT_no (by unfold sinceE; rw [hE1]; simp [h1]) h1
    have heb : (E1 != 0) = true := by simpa using h1
    clear h1 hE1
    obtain ⟨z0, z1, z2, z3, z4, z5, zf, zlt⟩ := (show Six _ _ _ _ _ _ _ _ from hF1.res)
    have hbw : Hid (Below w.heap.size w _) := hF1.hw
    go_wp2
    rw [hfin.out.1, hfin.out.2]
    exact bodyPost_ret (v := .tuple #[.agg #[.int .i64 0, .int .i64 0, .int .i64 0, .int .i64 0, .slice none 0 0, .slice none 0 0], .int .i64 E1]) (by simp [results, Try.results42, go_sem, z0, z1, z2, z3, z4, z5]) rfl ⟨none, 0, none, 0, rfl, Or.inl rfl, Or.inl rfl, fun _ => rfl, fun _ => rfl, below_set6 hbw.out (by omega) _ _ _ _ _ _⟩

end Go.Proofs.Ytjgefnipkaecgaa
