/-
  The law DotLattice, walked: it answers true whatever contexts and dot are handed in.
-/
import Derived.Test.YtjgefnipkaecgabLatMath
import Derived.Deep.DeepCutAuto
namespace Go.Proofs.Ytjgefnipkaecgab
open Go.RowKit Go.Sort

/-- Three contexts and a dot, in the first four blocks of a call. -/
structure Four (w W : World) (a b c : Ctx) (A B C : Option Addr) (ca cb cc : Nat) (x y : Int) : Prop where
  ha : CtxAt W w.heap.size a A ca
  hb : CtxAt W (w.heap.size + 1) b B cb
  hc : CtxAt W (w.heap.size + 1 + 1) c C cc
  hd : DotAt W (w.heap.size + 1 + 1 + 1) x y
  hw : Below w.heap.size w W
theorem Four.below {w W W' : World} {a b c : Ctx} {A B C : Option Addr} {ca cb cc : Nat} {x y : Int} (h : Four w W a b c A B C ca cb cc x y) (k : Below W.heap.size W W') : Four w W' a b c A B C ca cb cc x y :=
  ⟨h.ha.below k, h.hb.below k, h.hc.below k, h.hd.below k, h.hw.trans (k.mono h.hw.size)⟩
theorem Four.gr {w W W' : World} {a b c : Ctx} {A B C : Option Addr} {ca cb cc : Nat} {x y : Int} (h : Four w W a b c A B C ca cb cc x y) (k : Gr W W') : Four w W' a b c A B C ca cb cc x y := h.below k.below
theorem Four.alloc {w W : World} {a b c : Ctx} {A B C : Option Addr} {ca cb cc : Nat} {x y : Int} (h : Four w W a b c A B C ca cb cc x y) (o : Obj) : Four w (W.alloc o) a b c A B C ca cb cc x y := h.gr ((Gr.refl _).alloc o)

theorem same_g {c d : Ctx} {A B : Option Addr} {cap dap : Nat} {r : Bool} {w : World} (hx : sameB c d = r) (hl : c.l.length ≤ maxLen) (hm : d.l.length ≤ maxLen) (hr : Row w A c.l) (hs : Row w B d.l) :
    Calls Try.prog 12 #[.agg #[.int .i64 c.c0, .int .i64 c.c1, .int .i64 c.c2, .int .i64 c.c3, .slice A c.l.length cap], .agg #[.int .i64 d.c0, .int .i64 d.c1, .int .i64 d.c2, .int .i64 d.c3, .slice B d.l.length dap]] w fun e w' => e = .returned (.bool r) ∧ Gr w w' := by
  rw [← hx]; exact same_any c d A B cap dap w hl hm hr hs

theorem rowThree {W : World} {n : Nat} (hn : W.heap.size = n) (T : TypeId) : Row (W.alloc (.cells #[.int .i64 0, .int .i64 1, .int .i64 0, .int .i64 2, .int .i64 1, .int .i64 3] T)) (some ⟨n, 0, none⟩) [(0, 1), (0, 2), (1, 3)] := by
  subst hn
  refine Or.inr ⟨W.heap.size, 0, rfl, by simp, fun j hj => ?_⟩
  have hb := fun (i : Nat) (v : Value) (h : (#[.int .i64 0, .int .i64 1, .int .i64 0, .int .i64 2, .int .i64 1, .int .i64 3] : Array Value)[i]? = some v) => box1 (w := W) (Gr.refl (W.alloc (.cells #[.int .i64 0, .int .i64 1, .int .i64 0, .int .i64 2, .int .i64 1, .int .i64 3] T))) (j := i) h
  have hj' : j = 0 ∨ j = 1 ∨ j = 2 := by simp at hj; omega
  rcases hj' with rfl | rfl | rfl
  · exact ⟨hb 0 _ rfl, hb 1 _ rfl⟩
  · exact ⟨hb 2 _ rfl, hb 3 _ rfl⟩
  · exact ⟨hb 4 _ rfl, hb 5 _ rfl⟩

theorem make_three_g {W : World} {A : Addr} (hr : Row W (some A) [(0, 1), (0, 2), (1, 3)]) :
    Calls Try.prog 8 #[.slice (some A) 3 3] W fun e w' => ∃ C cp, e = .returned (.tuple #[.agg #[.int .i64 2, .int .i64 0, .int .i64 0, .int .i64 0, .slice C 1 cp], .int .i64 0]) ∧ Row w' C [(1, 3)] ∧ Below W.heap.size W w' := by
  have h := make_any [(0, 1), (0, 2), (1, 3)] (some A) 3 W (by decide) (fun h => by cases h) hr
  rw [make_three.1, make_three.2] at h
  refine Calls.mono h ?_
  rintro e w' ⟨C, cp, he, hr', _, _, hb⟩
  exact ⟨C, cp, he, hr', hb⟩

theorem equal_three_g {W : World} {D E : Option Addr} {dp ep : Nat} (hr : Row W D [(1, 3)]) (hs : Row W E [(1, 3)]) :
    Calls Try.prog 9 #[.slice D 1 dp, .slice E 1 ep] W fun e w' => e = .returned (.bool true) ∧ Gr W w' := by
  have h := equal_any [(1, 3)] [(1, 3)] D E dp ep W (by decide) (by decide) hr hs
  rw [show eqL [(1, 3)] [(1, 3)] = true from by decide +kernel] at h
  exact h

set_option maxHeartbeats 8000000 in
theorem dotLattice_any (a b c : Ctx) (A B C : Option Addr) (ca cb cc : Nat) (x y : Int) (w : World) (hal : a.l.length ≤ maxLen) (hbl : b.l.length ≤ maxLen) (hcl : c.l.length ≤ maxLen) (hra : Row w A a.l) (hrb : Row w B b.l) (hrc : Row w C c.l) (hA : A = none → ca = 0) (hB : B = none → cb = 0) (hC : C = none → cc = 0) :
    Calls Try.prog 3 #[.agg #[.int .i64 a.c0, .int .i64 a.c1, .int .i64 a.c2, .int .i64 a.c3, .slice A a.l.length ca], .agg #[.int .i64 b.c0, .int .i64 b.c1, .int .i64 b.c2, .int .i64 b.c3, .slice B b.l.length cb], .agg #[.int .i64 c.c0, .int .i64 c.c1, .int .i64 c.c2, .int .i64 c.c3, .slice C c.l.length cc], .agg #[.int .i64 x, .int .i64 y]] w fun e w' => e = .returned (.bool true) ∧ Below w.heap.size w w' := by
  have hF : Four w ((((w.alloc (.cells #[.int .i64 a.c0, .int .i64 a.c1, .int .i64 a.c2, .int .i64 a.c3, .slice A a.l.length ca] 25)).alloc (.cells #[.int .i64 b.c0, .int .i64 b.c1, .int .i64 b.c2, .int .i64 b.c3, .slice B b.l.length cb] 25)).alloc (.cells #[.int .i64 c.c0, .int .i64 c.c1, .int .i64 c.c2, .int .i64 c.c3, .slice C c.l.length cc] 25)).alloc (.cells #[.int .i64 x, .int .i64 y] 27)) a b c A B C ca cb cc x y :=
    ⟨(CtxAt.new 25 hra rfl).gr ((((Gr.refl _).alloc _).alloc _).alloc _), (CtxAt.new 25 (hrb.gr ((Gr.refl _).alloc _)) (by simp)).gr (((Gr.refl _).alloc _).alloc _), (CtxAt.new 25 (hrc.gr (((Gr.refl _).alloc _).alloc _)) (by simp)).gr ((Gr.refl _).alloc _), DotAt.new 27 (by simp), (((((Gr.refl w).alloc _).alloc _).alloc _).alloc _).below⟩
  have haM : Hid (a.l.length ≤ maxLen) := hal
  have hbM : Hid (b.l.length ≤ maxLen) := hbl
  have hcM : Hid (c.l.length ≤ maxLen) := hcl
  clear hal hbl hcl hra hrb hrc
  have mixed : Try.prog.follows .mixedOrders = true := by kernel_rfl
  go_enter Try.func3, Try.ntmps3
  go_wp2_with fail
  refine Calls.mono (show Calls _ _ _ _ _ from make_three_g (rowThree (by simp) _)) ?_
  rintro e w1 ⟨D, dp, rfl, hrD, hb1⟩
  have hF1 := (hF.alloc _).below hb1
  clear hF hb1
  have hd1 : CtxAt (w1.alloc (.cells #[.int .i64 2, .int .i64 0, .int .i64 0, .int .i64 0, .slice D 1 dp] 25)) w1.heap.size ⟨2, 0, 0, 0, [(1, 3)]⟩ D dp := CtxAt.new (c := ⟨2, 0, 0, 0, [(1, 3)]⟩) 25 hrD rfl
  have hF2 := hF1.alloc (.cells #[.int .i64 2, .int .i64 0, .int .i64 0, .int .i64 0, .slice D 1 dp] 25)
  clear hF1
  obtain ⟨d0, d1, d2, d3, d4, dlt, drow⟩ := (show CtxAt _ _ _ _ _ from hd1)
  simp only at d0 d1 d2 d3 d4
  go_wp2_with fail
  refine Calls.mono (show Calls _ _ _ _ _ from equal_three_g (drow.gr ((Gr.refl _).alloc _)) (rowNew (by simp) 1 3 _)) ?_
  rintro e w2 ⟨rfl, hg2⟩
  have hF3 := (hF2.alloc _).gr hg2
  clear hF2 hg2 hd1 hrD d0 d1 d2 d3 d4 dlt drow
  obtain ⟨a0, a1, a2, a3, a4, alt, arow⟩ := (show CtxAt _ _ _ _ _ from hF3.ha)
  obtain ⟨b0, b1, b2, b3, b4, blt, brow⟩ := (show CtxAt _ _ _ _ _ from hF3.hb)
  go_wp2_with fail
  refine Calls.mono (show Calls _ _ _ _ _ from join_any a b A B ca cb _ haM.out hbM.out arow brow hA hB) ?_
  rintro e w3 ⟨C1, cp1, rfl, hr1, hC1, _, hbel3⟩
  obtain ⟨P, hP⟩ : ∃ P, joinC a b = P := ⟨_, rfl⟩
  obtain ⟨e1, he1⟩ : ∃ e1, joinE a b = e1 := ⟨_, rfl⟩
  rw [hP] at hr1 ⊢
  rw [he1]
  have hPF : Hid (joinC a b = P ∧ joinE a b = e1) := ⟨hP, he1⟩
  have hF4 := (hF3.below hbel3).alloc (.cells #[.int .i64 P.c0, .int .i64 P.c1, .int .i64 P.c2, .int .i64 P.c3, .slice C1 P.l.length cp1] 25)
  have hp4 : CtxAt (w3.alloc (.cells #[.int .i64 P.c0, .int .i64 P.c1, .int .i64 P.c2, .int .i64 P.c3, .slice C1 P.l.length cp1] 25)) w3.heap.size P C1 cp1 := CtxAt.new 25 hr1 rfl
  clear hP he1 hF3 hr1 hbel3 a0 a1 a2 a3 a4 alt arow b0 b1 b2 b3 b4 blt brow
  obtain ⟨a0, a1, a2, a3, a4, alt, arow⟩ := (show CtxAt _ _ _ _ _ from hF4.ha)
  obtain ⟨b0, b1, b2, b3, b4, blt, brow⟩ := (show CtxAt _ _ _ _ _ from hF4.hb)
  go_wp2_with fail
  refine Calls.mono (show Calls _ _ _ _ _ from join_any b a B A cb ca _ hbM.out haM.out brow arow hB hA) ?_
  rintro e w4 ⟨C2, cp2, rfl, hr2, _, _, hbel4⟩
  obtain ⟨Q, hQ⟩ : ∃ Q, joinC b a = Q := ⟨_, rfl⟩
  obtain ⟨e2, he2⟩ : ∃ e2, joinE b a = e2 := ⟨_, rfl⟩
  rw [hQ] at hr2 ⊢
  rw [he2]
  have hQF : Hid (joinC b a = Q ∧ joinE b a = e2) := ⟨hQ, he2⟩
  have hF5 := (hF4.below hbel4).alloc (.cells #[.int .i64 Q.c0, .int .i64 Q.c1, .int .i64 Q.c2, .int .i64 Q.c3, .slice C2 Q.l.length cp2] 25)
  have hp5 := (hp4.below hbel4).gr ((Gr.refl _).alloc (.cells #[.int .i64 Q.c0, .int .i64 Q.c1, .int .i64 Q.c2, .int .i64 Q.c3, .slice C2 Q.l.length cp2] 25))
  have hq5 : CtxAt (w4.alloc (.cells #[.int .i64 Q.c0, .int .i64 Q.c1, .int .i64 Q.c2, .int .i64 Q.c3, .slice C2 Q.l.length cp2] 25)) w4.heap.size Q C2 cp2 := CtxAt.new 25 hr2 rfl
  clear hQ he2 hF4 hp4 hr2 hbel4 a0 a1 a2 a3 a4 alt arow b0 b1 b2 b3 b4 blt brow
  have hee := join_same hPF.out.2 hQF.out.2
  by_cases h0 : e1 = 0
  · have hb1 : (e1 == 0) = true := by simpa using h0
    have hb2 : (e2 == 0) = true := by rw [← hee]; exact hb1
    have hn1 : (e1 != 0) = false := by simpa using h0
    have hn2 : (e2 != 0) = false := by simpa using hb2
    have hJ : Hid (joinE a b = 0 ∧ joinC a b = P) := ⟨hPF.out.2.trans h0, hPF.out.1⟩
    have hQP : Q = P := by rw [← hQF.out.1, (join_sym hJ.out.1).2, hPF.out.1]
    subst hQP
    clear h0 hee hQF hPF
    obtain ⟨a0, a1, a2, a3, a4, alt, arow⟩ := (show CtxAt _ _ _ _ _ from hF5.ha)
    obtain ⟨p0, p1, p2, p3, p4, plt, prow⟩ := (show CtxAt _ _ _ _ _ from hp5)
    go_wp2_with fail
    have hQl : Hid (Q.l.length ≤ maxLen) := by
      have h := (join_can hJ.out.1).2.2.1
      rw [hJ.out.2] at h
      exact Nat.le_trans h (by decide)
    have hless := less_any a Q A C1 ca cp1 _ haM.out hQl.out arow prow
    have hl1 := join_less hJ.out.1
    rw [hJ.out.2] at hl1
    rw [hl1.1, hl1.2] at hless
    refine Calls.mono (show Calls _ _ _ _ _ from hless) ?_
    rintro e w5 ⟨rfl, hg5⟩
    have hF6 := hF5.gr hg5
    have hp6 := hp5.gr hg5
    have hq6 := hq5.gr hg5
    clear hless hl1 hg5 hF5 hp5 hq5 a0 a1 a2 a3 a4 alt arow p0 p1 p2 p3 p4 plt prow
    go_upto_region 9 with fail
    obtain ⟨p0, p1, p2, p3, p4⟩ := hp6.G
    obtain ⟨q0, q1, q2, q3, q4⟩ := hq6.G
    obtain ⟨a0, a1, a2, a3, a4⟩ := hF6.ha.G
    obtain ⟨b0, b1, b2, b3, b4⟩ := hF6.hb.G
    obtain ⟨d0, d1⟩ := hF6.hd.G
    have hrA := hF6.ha.row
    have hrB := hF6.hb.row
    have hrP := hp6.row
    have hrQ := hq6.row
    have hsm := sameB_self Q
    have hck : errC Q = 0 := by rw [← hJ.out.2]; exact (join_can hJ.out.1).2.1
    have hEB := eqBool
    have hkG : ∀ n os, Calls Try.prog 13 #[.agg #[.int .i64 Q.c0, .int .i64 Q.c1, .int .i64 Q.c2, .int .i64 Q.c3, .slice C1 Q.l.length cp1]] (grow (w5.drewN n) os) fun e w'' => e = .returned (.int .i64 0) ∧ ∃ p : GrownBy, w'' = grow (w5.drewN p.n) p.os := fun n os => by
      have h := check_G (cap := cp1) hQl.out hrP n os
      rw [hck] at h
      exact h
    have hhH : Hid (hasB Q (x, y) = (hasB a (x, y) || hasB b (x, y))) := by
      have h := join_has hJ.out.1 (x, y)
      rw [hJ.out.2] at h
      exact h
    have hFH : Hid (Four w w5 a b c A B C ca cb cc x y) := hF6
    have hpH : Hid (CtxAt w5 w3.heap.size Q C1 cp1) := hp6
    clear hF6 hp6 hq6
    obtain ⟨tl, hLT, hST⟩ : ∃ tl, Hid (lessR a b = tl) ∧ Hid (sameB Q b = tl) := ⟨lessR a b, rfl, by show sameB Q b = lessR a b; rw [join_top hJ.out.1, hJ.out.2]⟩
    cases hxa : hasB a (x, y)
    · cases hxb : hasB b (x, y)
      · have hxq : hasB Q (x, y) = false := by rw [hhH.out, hxa, hxb]; rfl
        refine wp_region_quiet_grown mixed (by kernel_rfl) ?_
        repeat (go_big_quiet_step (first | (go_at_call 13; exact hkG _ _) | (go_at_call 12; exact same_G hsm hQl.out hQl.out hrP hrQ _ _) | (go_at_call 14; first | with_reducible exact has_G hxq hQl.out hrP _ _ | with_reducible exact has_G hxa haM.out hrA _ _ | with_reducible exact has_G hxb hbM.out hrB _ _)))
        refine wpQuiet_nil ?_
        rintro _ ⟨⟨nq, osq⟩, rfl⟩
        have hF7 := hFH.out.gr ⟨nq, osq, rfl⟩
        have hp7 := hpH.out.gr ⟨nq, osq, rfl⟩
        clear a0 a1 a2 a3 a4 b0 b1 b2 b3 b4 p0 p1 p2 p3 p4 q0 q1 q2 q3 q4 d0 d1 hrA hrB hrP hrQ hkG hFH hpH
        generalize grow (w5.drewN nq) osq = w6 at hF7 hp7 ⊢
        obtain ⟨a0, a1, a2, a3, a4, alt, arow⟩ := (show CtxAt _ _ _ _ _ from hF7.ha)
        obtain ⟨b0, b1, b2, b3, b4, blt, brow⟩ := (show CtxAt _ _ _ _ _ from hF7.hb)
        go_wp2_with fail
        have hless := less_any a b A B ca cb _ haM.out hbM.out arow brow
        rw [hLT.out] at hless
        refine Calls.mono (show Calls _ _ _ _ _ from hless) ?_
        rintro e w7 ⟨rfl, hg7⟩
        have hF8 := hF7.gr hg7
        have hp8 := hp7.gr hg7
        clear hless hg7 hF7 hp7 a0 a1 a2 a3 a4 alt arow b0 b1 b2 b3 b4 blt brow
        obtain ⟨b0, b1, b2, b3, b4, blt, brow⟩ := (show CtxAt _ _ _ _ _ from hF8.hb)
        obtain ⟨p0, p1, p2, p3, p4, plt, prow⟩ := (show CtxAt _ _ _ _ _ from hp8)
        go_wp2_with fail
        refine Calls.mono (show Calls _ _ _ _ _ from same_g hST.out hQl.out hbM.out prow brow) ?_
        rintro e w8 ⟨rfl, hg8⟩
        have hF9 := hF8.gr hg8
        have hp9 := hp8.gr hg8
        clear hg8 hF8 hp8 b0 b1 b2 b3 b4 blt brow p0 p1 p2 p3 p4 plt prow
        have hTT : (tl == tl) = true := by simp
        have hTN : (tl != tl) = false := by simp
        obtain ⟨c0, c1, c2, c3, c4, clt, crow⟩ := (show CtxAt _ _ _ _ _ from hF9.hc)
        obtain ⟨p0, p1, p2, p3, p4, plt, prow⟩ := (show CtxAt _ _ _ _ _ from hp9)
        go_wp2_with fail
        refine Calls.mono (show Calls _ _ _ _ _ from join_any Q c C1 C cp1 cc _ hQl.out hcM.out prow crow hC1 hC) ?_
        rintro e w9 ⟨C3, cp3, rfl, hr3, _, _, hbel9⟩
        obtain ⟨X, hX⟩ : ∃ X, joinC Q c = X := ⟨_, rfl⟩
        obtain ⟨e3, he3⟩ : ∃ e3, joinE Q c = e3 := ⟨_, rfl⟩
        rw [hX] at hr3 ⊢
        rw [he3]
        have hXF : Hid (joinC Q c = X ∧ joinE Q c = e3) := ⟨hX, he3⟩
        have hF10 := (hF9.below hbel9).alloc (.cells #[.int .i64 X.c0, .int .i64 X.c1, .int .i64 X.c2, .int .i64 X.c3, .slice C3 X.l.length cp3] 25)
        have hx10 : CtxAt (w9.alloc (.cells #[.int .i64 X.c0, .int .i64 X.c1, .int .i64 X.c2, .int .i64 X.c3, .slice C3 X.l.length cp3] 25)) w9.heap.size X C3 cp3 := CtxAt.new 25 hr3 rfl
        clear hX he3 hF9 hp9 hr3 hbel9 c0 c1 c2 c3 c4 clt crow p0 p1 p2 p3 p4 plt prow
        obtain ⟨b0, b1, b2, b3, b4, blt, brow⟩ := (show CtxAt _ _ _ _ _ from hF10.hb)
        obtain ⟨c0, c1, c2, c3, c4, clt, crow⟩ := (show CtxAt _ _ _ _ _ from hF10.hc)
        go_wp2_with fail
        refine Calls.mono (show Calls _ _ _ _ _ from join_any b c B C cb cc _ hbM.out hcM.out brow crow hB hC) ?_
        rintro e wA ⟨C4, cp4, rfl, hr4, hC4, _, hbelA⟩
        obtain ⟨Y, hY⟩ : ∃ Y, joinC b c = Y := ⟨_, rfl⟩
        obtain ⟨e4, he4⟩ : ∃ e4, joinE b c = e4 := ⟨_, rfl⟩
        rw [hY] at hr4 ⊢
        rw [he4]
        have hYF : Hid (joinC b c = Y ∧ joinE b c = e4) := ⟨hY, he4⟩
        have hF11 := (hF10.below hbelA).alloc (.cells #[.int .i64 Y.c0, .int .i64 Y.c1, .int .i64 Y.c2, .int .i64 Y.c3, .slice C4 Y.l.length cp4] 25)
        have hx11 := (hx10.below hbelA).gr ((Gr.refl _).alloc (.cells #[.int .i64 Y.c0, .int .i64 Y.c1, .int .i64 Y.c2, .int .i64 Y.c3, .slice C4 Y.l.length cp4] 25))
        have hy11 : CtxAt (wA.alloc (.cells #[.int .i64 Y.c0, .int .i64 Y.c1, .int .i64 Y.c2, .int .i64 Y.c3, .slice C4 Y.l.length cp4] 25)) wA.heap.size Y C4 cp4 := CtxAt.new 25 hr4 rfl
        clear hY he4 hF10 hx10 hr4 hbelA c0 c1 c2 c3 c4 clt crow b0 b1 b2 b3 b4 blt brow
        by_cases h30 : e3 = 0
        · have hn3 : (e3 != 0) = false := by simpa using h30
          by_cases h40 : e4 = 0
          · have hn4 : (e4 != 0) = false := by simpa using h40
            have hY4 : Hid (Y.l.length ≤ maxLen) := by
              have h := (join_can (hYF.out.2.trans h40)).2.2.1
              rw [hYF.out.1] at h
              exact Nat.le_trans h (by decide)
            have hX4 : Hid (X.l.length ≤ maxLen) := by
              have h := (join_can (hXF.out.2.trans h30)).2.2.1
              rw [hXF.out.1] at h
              exact Nat.le_trans h (by decide)
            have hass : Hid (joinE a Y = 0 → joinC a Y = X) := fun h5 => by
              have h := join_assoc hJ.out.1 (by rw [hJ.out.2]; exact hXF.out.2.trans h30) (hYF.out.2.trans h40) (by rw [hYF.out.1]; exact h5)
              rw [hJ.out.2, hYF.out.1, hXF.out.1] at h
              exact h.symm
            clear h30 h40 hXF hYF
            obtain ⟨a0, a1, a2, a3, a4, alt, arow⟩ := (show CtxAt _ _ _ _ _ from hF11.ha)
            obtain ⟨y0, y1, y2, y3, y4, ylt, yrow⟩ := (show CtxAt _ _ _ _ _ from hy11)
            go_wp2_with fail
            refine Calls.mono (show Calls _ _ _ _ _ from join_any a Y A C4 ca cp4 _ haM.out hY4.out arow yrow hA hC4) ?_
            rintro e wB ⟨C5, cp5, rfl, hr5, _, _, hbelB⟩
            obtain ⟨Z, hZ⟩ : ∃ Z, joinC a Y = Z := ⟨_, rfl⟩
            obtain ⟨e5, he5⟩ : ∃ e5, joinE a Y = e5 := ⟨_, rfl⟩
            rw [hZ] at hr5 ⊢
            rw [he5]
            have hZF : Hid (e5 = 0 → Z = X) := fun h5 => by rw [← hZ]; exact hass.out (he5.trans h5)
            have hF12 := (hF11.below hbelB).alloc (.cells #[.int .i64 Z.c0, .int .i64 Z.c1, .int .i64 Z.c2, .int .i64 Z.c3, .slice C5 Z.l.length cp5] 25)
            have hx12 := (hx11.below hbelB).gr ((Gr.refl _).alloc (.cells #[.int .i64 Z.c0, .int .i64 Z.c1, .int .i64 Z.c2, .int .i64 Z.c3, .slice C5 Z.l.length cp5] 25))
            have hz12 : CtxAt (wB.alloc (.cells #[.int .i64 Z.c0, .int .i64 Z.c1, .int .i64 Z.c2, .int .i64 Z.c3, .slice C5 Z.l.length cp5] 25)) wB.heap.size Z C5 cp5 := CtxAt.new 25 hr5 rfl
            clear hZ he5 hF11 hx11 hy11 hr5 hbelB hass a0 a1 a2 a3 a4 alt arow y0 y1 y2 y3 y4 ylt yrow
            have hbF : Hid _ := hF12.hw
            clear hF12
            by_cases h50 : e5 = 0
            · have hn5 : (e5 != 0) = false := by simpa using h50
              obtain rfl : Z = X := hZF.out h50
              have hsZ := sameB_self Z
              clear h50 hZF
              obtain ⟨x0, x1, x2, x3, x4, xlt, xrow⟩ := (show CtxAt _ _ _ _ _ from hx12)
              obtain ⟨z0, z1, z2, z3, z4, zlt, zrow⟩ := (show CtxAt _ _ _ _ _ from hz12)
              go_wp2_with fail
              refine Calls.mono (show Calls _ _ _ _ _ from same_g hsZ hX4.out hX4.out xrow zrow) ?_
              rintro e wC ⟨rfl, hgC⟩
              go_wp2
              go_ret
              exact ⟨rfl, hbF.out.trans (hgC.below.mono hbF.out.size)⟩
            · have hn5 : (e5 != 0) = true := by simpa using h50
              clear h50 hZF
              go_wp2
              go_ret
              exact ⟨rfl, hbF.out⟩
          · have hn4 : (e4 != 0) = true := by simpa using h40
            clear h40
            have hbF : Hid _ := hF11.hw
            go_wp2
            go_ret
            exact ⟨rfl, hbF.out⟩
        · have hn3 : (e3 != 0) = true := by simpa using h30
          clear h30
          have hbF : Hid _ := hF11.hw
          go_wp2
          go_ret
          exact ⟨rfl, hbF.out⟩
      · have hxq : hasB Q (x, y) = true := by rw [hhH.out, hxa, hxb]; rfl
        refine wp_region_quiet_grown mixed (by kernel_rfl) ?_
        repeat (go_big_quiet_step (first | (go_at_call 13; exact hkG _ _) | (go_at_call 12; exact same_G hsm hQl.out hQl.out hrP hrQ _ _) | (go_at_call 14; first | with_reducible exact has_G hxq hQl.out hrP _ _ | with_reducible exact has_G hxa haM.out hrA _ _ | with_reducible exact has_G hxb hbM.out hrB _ _)))
        refine wpQuiet_nil ?_
        rintro _ ⟨⟨nq, osq⟩, rfl⟩
        have hF7 := hFH.out.gr ⟨nq, osq, rfl⟩
        have hp7 := hpH.out.gr ⟨nq, osq, rfl⟩
        clear a0 a1 a2 a3 a4 b0 b1 b2 b3 b4 p0 p1 p2 p3 p4 q0 q1 q2 q3 q4 d0 d1 hrA hrB hrP hrQ hkG hFH hpH
        generalize grow (w5.drewN nq) osq = w6 at hF7 hp7 ⊢
        obtain ⟨a0, a1, a2, a3, a4, alt, arow⟩ := (show CtxAt _ _ _ _ _ from hF7.ha)
        obtain ⟨b0, b1, b2, b3, b4, blt, brow⟩ := (show CtxAt _ _ _ _ _ from hF7.hb)
        go_wp2_with fail
        have hless := less_any a b A B ca cb _ haM.out hbM.out arow brow
        rw [hLT.out] at hless
        refine Calls.mono (show Calls _ _ _ _ _ from hless) ?_
        rintro e w7 ⟨rfl, hg7⟩
        have hF8 := hF7.gr hg7
        have hp8 := hp7.gr hg7
        clear hless hg7 hF7 hp7 a0 a1 a2 a3 a4 alt arow b0 b1 b2 b3 b4 blt brow
        obtain ⟨b0, b1, b2, b3, b4, blt, brow⟩ := (show CtxAt _ _ _ _ _ from hF8.hb)
        obtain ⟨p0, p1, p2, p3, p4, plt, prow⟩ := (show CtxAt _ _ _ _ _ from hp8)
        go_wp2_with fail
        refine Calls.mono (show Calls _ _ _ _ _ from same_g hST.out hQl.out hbM.out prow brow) ?_
        rintro e w8 ⟨rfl, hg8⟩
        have hF9 := hF8.gr hg8
        have hp9 := hp8.gr hg8
        clear hg8 hF8 hp8 b0 b1 b2 b3 b4 blt brow p0 p1 p2 p3 p4 plt prow
        have hTT : (tl == tl) = true := by simp
        have hTN : (tl != tl) = false := by simp
        obtain ⟨c0, c1, c2, c3, c4, clt, crow⟩ := (show CtxAt _ _ _ _ _ from hF9.hc)
        obtain ⟨p0, p1, p2, p3, p4, plt, prow⟩ := (show CtxAt _ _ _ _ _ from hp9)
        go_wp2_with fail
        refine Calls.mono (show Calls _ _ _ _ _ from join_any Q c C1 C cp1 cc _ hQl.out hcM.out prow crow hC1 hC) ?_
        rintro e w9 ⟨C3, cp3, rfl, hr3, _, _, hbel9⟩
        obtain ⟨X, hX⟩ : ∃ X, joinC Q c = X := ⟨_, rfl⟩
        obtain ⟨e3, he3⟩ : ∃ e3, joinE Q c = e3 := ⟨_, rfl⟩
        rw [hX] at hr3 ⊢
        rw [he3]
        have hXF : Hid (joinC Q c = X ∧ joinE Q c = e3) := ⟨hX, he3⟩
        have hF10 := (hF9.below hbel9).alloc (.cells #[.int .i64 X.c0, .int .i64 X.c1, .int .i64 X.c2, .int .i64 X.c3, .slice C3 X.l.length cp3] 25)
        have hx10 : CtxAt (w9.alloc (.cells #[.int .i64 X.c0, .int .i64 X.c1, .int .i64 X.c2, .int .i64 X.c3, .slice C3 X.l.length cp3] 25)) w9.heap.size X C3 cp3 := CtxAt.new 25 hr3 rfl
        clear hX he3 hF9 hp9 hr3 hbel9 c0 c1 c2 c3 c4 clt crow p0 p1 p2 p3 p4 plt prow
        obtain ⟨b0, b1, b2, b3, b4, blt, brow⟩ := (show CtxAt _ _ _ _ _ from hF10.hb)
        obtain ⟨c0, c1, c2, c3, c4, clt, crow⟩ := (show CtxAt _ _ _ _ _ from hF10.hc)
        go_wp2_with fail
        refine Calls.mono (show Calls _ _ _ _ _ from join_any b c B C cb cc _ hbM.out hcM.out brow crow hB hC) ?_
        rintro e wA ⟨C4, cp4, rfl, hr4, hC4, _, hbelA⟩
        obtain ⟨Y, hY⟩ : ∃ Y, joinC b c = Y := ⟨_, rfl⟩
        obtain ⟨e4, he4⟩ : ∃ e4, joinE b c = e4 := ⟨_, rfl⟩
        rw [hY] at hr4 ⊢
        rw [he4]
        have hYF : Hid (joinC b c = Y ∧ joinE b c = e4) := ⟨hY, he4⟩
        have hF11 := (hF10.below hbelA).alloc (.cells #[.int .i64 Y.c0, .int .i64 Y.c1, .int .i64 Y.c2, .int .i64 Y.c3, .slice C4 Y.l.length cp4] 25)
        have hx11 := (hx10.below hbelA).gr ((Gr.refl _).alloc (.cells #[.int .i64 Y.c0, .int .i64 Y.c1, .int .i64 Y.c2, .int .i64 Y.c3, .slice C4 Y.l.length cp4] 25))
        have hy11 : CtxAt (wA.alloc (.cells #[.int .i64 Y.c0, .int .i64 Y.c1, .int .i64 Y.c2, .int .i64 Y.c3, .slice C4 Y.l.length cp4] 25)) wA.heap.size Y C4 cp4 := CtxAt.new 25 hr4 rfl
        clear hY he4 hF10 hx10 hr4 hbelA c0 c1 c2 c3 c4 clt crow b0 b1 b2 b3 b4 blt brow
        by_cases h30 : e3 = 0
        · have hn3 : (e3 != 0) = false := by simpa using h30
          by_cases h40 : e4 = 0
          · have hn4 : (e4 != 0) = false := by simpa using h40
            have hY4 : Hid (Y.l.length ≤ maxLen) := by
              have h := (join_can (hYF.out.2.trans h40)).2.2.1
              rw [hYF.out.1] at h
              exact Nat.le_trans h (by decide)
            have hX4 : Hid (X.l.length ≤ maxLen) := by
              have h := (join_can (hXF.out.2.trans h30)).2.2.1
              rw [hXF.out.1] at h
              exact Nat.le_trans h (by decide)
            have hass : Hid (joinE a Y = 0 → joinC a Y = X) := fun h5 => by
              have h := join_assoc hJ.out.1 (by rw [hJ.out.2]; exact hXF.out.2.trans h30) (hYF.out.2.trans h40) (by rw [hYF.out.1]; exact h5)
              rw [hJ.out.2, hYF.out.1, hXF.out.1] at h
              exact h.symm
            clear h30 h40 hXF hYF
            obtain ⟨a0, a1, a2, a3, a4, alt, arow⟩ := (show CtxAt _ _ _ _ _ from hF11.ha)
            obtain ⟨y0, y1, y2, y3, y4, ylt, yrow⟩ := (show CtxAt _ _ _ _ _ from hy11)
            go_wp2_with fail
            refine Calls.mono (show Calls _ _ _ _ _ from join_any a Y A C4 ca cp4 _ haM.out hY4.out arow yrow hA hC4) ?_
            rintro e wB ⟨C5, cp5, rfl, hr5, _, _, hbelB⟩
            obtain ⟨Z, hZ⟩ : ∃ Z, joinC a Y = Z := ⟨_, rfl⟩
            obtain ⟨e5, he5⟩ : ∃ e5, joinE a Y = e5 := ⟨_, rfl⟩
            rw [hZ] at hr5 ⊢
            rw [he5]
            have hZF : Hid (e5 = 0 → Z = X) := fun h5 => by rw [← hZ]; exact hass.out (he5.trans h5)
            have hF12 := (hF11.below hbelB).alloc (.cells #[.int .i64 Z.c0, .int .i64 Z.c1, .int .i64 Z.c2, .int .i64 Z.c3, .slice C5 Z.l.length cp5] 25)
            have hx12 := (hx11.below hbelB).gr ((Gr.refl _).alloc (.cells #[.int .i64 Z.c0, .int .i64 Z.c1, .int .i64 Z.c2, .int .i64 Z.c3, .slice C5 Z.l.length cp5] 25))
            have hz12 : CtxAt (wB.alloc (.cells #[.int .i64 Z.c0, .int .i64 Z.c1, .int .i64 Z.c2, .int .i64 Z.c3, .slice C5 Z.l.length cp5] 25)) wB.heap.size Z C5 cp5 := CtxAt.new 25 hr5 rfl
            clear hZ he5 hF11 hx11 hy11 hr5 hbelB hass a0 a1 a2 a3 a4 alt arow y0 y1 y2 y3 y4 ylt yrow
            have hbF : Hid _ := hF12.hw
            clear hF12
            by_cases h50 : e5 = 0
            · have hn5 : (e5 != 0) = false := by simpa using h50
              obtain rfl : Z = X := hZF.out h50
              have hsZ := sameB_self Z
              clear h50 hZF
              obtain ⟨x0, x1, x2, x3, x4, xlt, xrow⟩ := (show CtxAt _ _ _ _ _ from hx12)
              obtain ⟨z0, z1, z2, z3, z4, zlt, zrow⟩ := (show CtxAt _ _ _ _ _ from hz12)
              go_wp2_with fail
              refine Calls.mono (show Calls _ _ _ _ _ from same_g hsZ hX4.out hX4.out xrow zrow) ?_
              rintro e wC ⟨rfl, hgC⟩
              go_wp2
              go_ret
              exact ⟨rfl, hbF.out.trans (hgC.below.mono hbF.out.size)⟩
            · have hn5 : (e5 != 0) = true := by simpa using h50
              clear h50 hZF
              go_wp2
              go_ret
              exact ⟨rfl, hbF.out⟩
          · have hn4 : (e4 != 0) = true := by simpa using h40
            clear h40
            have hbF : Hid _ := hF11.hw
            go_wp2
            go_ret
            exact ⟨rfl, hbF.out⟩
        · have hn3 : (e3 != 0) = true := by simpa using h30
          clear h30
          have hbF : Hid _ := hF11.hw
          go_wp2
          go_ret
          exact ⟨rfl, hbF.out⟩
    · have hxq : hasB Q (x, y) = true := by rw [hhH.out, hxa]; rfl
      obtain ⟨rb, hxb⟩ : ∃ rb, hasB b (x, y) = rb := ⟨_, rfl⟩
      refine wp_region_quiet_grown mixed (by kernel_rfl) ?_
      repeat (go_big_quiet_step (first | (go_at_call 13; exact hkG _ _) | (go_at_call 12; exact same_G hsm hQl.out hQl.out hrP hrQ _ _) | (go_at_call 14; first | with_reducible exact has_G hxq hQl.out hrP _ _ | with_reducible exact has_G hxa haM.out hrA _ _ | with_reducible exact has_G hxb hbM.out hrB _ _)))
      refine wpQuiet_nil ?_
      rintro _ ⟨⟨nq, osq⟩, rfl⟩
      have hF7 := hFH.out.gr ⟨nq, osq, rfl⟩
      have hp7 := hpH.out.gr ⟨nq, osq, rfl⟩
      clear a0 a1 a2 a3 a4 b0 b1 b2 b3 b4 p0 p1 p2 p3 p4 q0 q1 q2 q3 q4 d0 d1 hrA hrB hrP hrQ hkG hFH hpH
      generalize grow (w5.drewN nq) osq = w6 at hF7 hp7 ⊢
      obtain ⟨a0, a1, a2, a3, a4, alt, arow⟩ := (show CtxAt _ _ _ _ _ from hF7.ha)
      obtain ⟨b0, b1, b2, b3, b4, blt, brow⟩ := (show CtxAt _ _ _ _ _ from hF7.hb)
      go_wp2_with fail
      have hless := less_any a b A B ca cb _ haM.out hbM.out arow brow
      rw [hLT.out] at hless
      refine Calls.mono (show Calls _ _ _ _ _ from hless) ?_
      rintro e w7 ⟨rfl, hg7⟩
      have hF8 := hF7.gr hg7
      have hp8 := hp7.gr hg7
      clear hless hg7 hF7 hp7 a0 a1 a2 a3 a4 alt arow b0 b1 b2 b3 b4 blt brow
      obtain ⟨b0, b1, b2, b3, b4, blt, brow⟩ := (show CtxAt _ _ _ _ _ from hF8.hb)
      obtain ⟨p0, p1, p2, p3, p4, plt, prow⟩ := (show CtxAt _ _ _ _ _ from hp8)
      go_wp2_with fail
      refine Calls.mono (show Calls _ _ _ _ _ from same_g hST.out hQl.out hbM.out prow brow) ?_
      rintro e w8 ⟨rfl, hg8⟩
      have hF9 := hF8.gr hg8
      have hp9 := hp8.gr hg8
      clear hg8 hF8 hp8 b0 b1 b2 b3 b4 blt brow p0 p1 p2 p3 p4 plt prow
      have hTT : (tl == tl) = true := by simp
      have hTN : (tl != tl) = false := by simp
      obtain ⟨c0, c1, c2, c3, c4, clt, crow⟩ := (show CtxAt _ _ _ _ _ from hF9.hc)
      obtain ⟨p0, p1, p2, p3, p4, plt, prow⟩ := (show CtxAt _ _ _ _ _ from hp9)
      go_wp2_with fail
      refine Calls.mono (show Calls _ _ _ _ _ from join_any Q c C1 C cp1 cc _ hQl.out hcM.out prow crow hC1 hC) ?_
      rintro e w9 ⟨C3, cp3, rfl, hr3, _, _, hbel9⟩
      obtain ⟨X, hX⟩ : ∃ X, joinC Q c = X := ⟨_, rfl⟩
      obtain ⟨e3, he3⟩ : ∃ e3, joinE Q c = e3 := ⟨_, rfl⟩
      rw [hX] at hr3 ⊢
      rw [he3]
      have hXF : Hid (joinC Q c = X ∧ joinE Q c = e3) := ⟨hX, he3⟩
      have hF10 := (hF9.below hbel9).alloc (.cells #[.int .i64 X.c0, .int .i64 X.c1, .int .i64 X.c2, .int .i64 X.c3, .slice C3 X.l.length cp3] 25)
      have hx10 : CtxAt (w9.alloc (.cells #[.int .i64 X.c0, .int .i64 X.c1, .int .i64 X.c2, .int .i64 X.c3, .slice C3 X.l.length cp3] 25)) w9.heap.size X C3 cp3 := CtxAt.new 25 hr3 rfl
      clear hX he3 hF9 hp9 hr3 hbel9 c0 c1 c2 c3 c4 clt crow p0 p1 p2 p3 p4 plt prow
      obtain ⟨b0, b1, b2, b3, b4, blt, brow⟩ := (show CtxAt _ _ _ _ _ from hF10.hb)
      obtain ⟨c0, c1, c2, c3, c4, clt, crow⟩ := (show CtxAt _ _ _ _ _ from hF10.hc)
      go_wp2_with fail
      refine Calls.mono (show Calls _ _ _ _ _ from join_any b c B C cb cc _ hbM.out hcM.out brow crow hB hC) ?_
      rintro e wA ⟨C4, cp4, rfl, hr4, hC4, _, hbelA⟩
      obtain ⟨Y, hY⟩ : ∃ Y, joinC b c = Y := ⟨_, rfl⟩
      obtain ⟨e4, he4⟩ : ∃ e4, joinE b c = e4 := ⟨_, rfl⟩
      rw [hY] at hr4 ⊢
      rw [he4]
      have hYF : Hid (joinC b c = Y ∧ joinE b c = e4) := ⟨hY, he4⟩
      have hF11 := (hF10.below hbelA).alloc (.cells #[.int .i64 Y.c0, .int .i64 Y.c1, .int .i64 Y.c2, .int .i64 Y.c3, .slice C4 Y.l.length cp4] 25)
      have hx11 := (hx10.below hbelA).gr ((Gr.refl _).alloc (.cells #[.int .i64 Y.c0, .int .i64 Y.c1, .int .i64 Y.c2, .int .i64 Y.c3, .slice C4 Y.l.length cp4] 25))
      have hy11 : CtxAt (wA.alloc (.cells #[.int .i64 Y.c0, .int .i64 Y.c1, .int .i64 Y.c2, .int .i64 Y.c3, .slice C4 Y.l.length cp4] 25)) wA.heap.size Y C4 cp4 := CtxAt.new 25 hr4 rfl
      clear hY he4 hF10 hx10 hr4 hbelA c0 c1 c2 c3 c4 clt crow b0 b1 b2 b3 b4 blt brow
      by_cases h30 : e3 = 0
      · have hn3 : (e3 != 0) = false := by simpa using h30
        by_cases h40 : e4 = 0
        · have hn4 : (e4 != 0) = false := by simpa using h40
          have hY4 : Hid (Y.l.length ≤ maxLen) := by
            have h := (join_can (hYF.out.2.trans h40)).2.2.1
            rw [hYF.out.1] at h
            exact Nat.le_trans h (by decide)
          have hX4 : Hid (X.l.length ≤ maxLen) := by
            have h := (join_can (hXF.out.2.trans h30)).2.2.1
            rw [hXF.out.1] at h
            exact Nat.le_trans h (by decide)
          have hass : Hid (joinE a Y = 0 → joinC a Y = X) := fun h5 => by
            have h := join_assoc hJ.out.1 (by rw [hJ.out.2]; exact hXF.out.2.trans h30) (hYF.out.2.trans h40) (by rw [hYF.out.1]; exact h5)
            rw [hJ.out.2, hYF.out.1, hXF.out.1] at h
            exact h.symm
          clear h30 h40 hXF hYF
          obtain ⟨a0, a1, a2, a3, a4, alt, arow⟩ := (show CtxAt _ _ _ _ _ from hF11.ha)
          obtain ⟨y0, y1, y2, y3, y4, ylt, yrow⟩ := (show CtxAt _ _ _ _ _ from hy11)
          go_wp2_with fail
          refine Calls.mono (show Calls _ _ _ _ _ from join_any a Y A C4 ca cp4 _ haM.out hY4.out arow yrow hA hC4) ?_
          rintro e wB ⟨C5, cp5, rfl, hr5, _, _, hbelB⟩
          obtain ⟨Z, hZ⟩ : ∃ Z, joinC a Y = Z := ⟨_, rfl⟩
          obtain ⟨e5, he5⟩ : ∃ e5, joinE a Y = e5 := ⟨_, rfl⟩
          rw [hZ] at hr5 ⊢
          rw [he5]
          have hZF : Hid (e5 = 0 → Z = X) := fun h5 => by rw [← hZ]; exact hass.out (he5.trans h5)
          have hF12 := (hF11.below hbelB).alloc (.cells #[.int .i64 Z.c0, .int .i64 Z.c1, .int .i64 Z.c2, .int .i64 Z.c3, .slice C5 Z.l.length cp5] 25)
          have hx12 := (hx11.below hbelB).gr ((Gr.refl _).alloc (.cells #[.int .i64 Z.c0, .int .i64 Z.c1, .int .i64 Z.c2, .int .i64 Z.c3, .slice C5 Z.l.length cp5] 25))
          have hz12 : CtxAt (wB.alloc (.cells #[.int .i64 Z.c0, .int .i64 Z.c1, .int .i64 Z.c2, .int .i64 Z.c3, .slice C5 Z.l.length cp5] 25)) wB.heap.size Z C5 cp5 := CtxAt.new 25 hr5 rfl
          clear hZ he5 hF11 hx11 hy11 hr5 hbelB hass a0 a1 a2 a3 a4 alt arow y0 y1 y2 y3 y4 ylt yrow
          have hbF : Hid _ := hF12.hw
          clear hF12
          by_cases h50 : e5 = 0
          · have hn5 : (e5 != 0) = false := by simpa using h50
            obtain rfl : Z = X := hZF.out h50
            have hsZ := sameB_self Z
            clear h50 hZF
            obtain ⟨x0, x1, x2, x3, x4, xlt, xrow⟩ := (show CtxAt _ _ _ _ _ from hx12)
            obtain ⟨z0, z1, z2, z3, z4, zlt, zrow⟩ := (show CtxAt _ _ _ _ _ from hz12)
            go_wp2_with fail
            refine Calls.mono (show Calls _ _ _ _ _ from same_g hsZ hX4.out hX4.out xrow zrow) ?_
            rintro e wC ⟨rfl, hgC⟩
            go_wp2
            go_ret
            exact ⟨rfl, hbF.out.trans (hgC.below.mono hbF.out.size)⟩
          · have hn5 : (e5 != 0) = true := by simpa using h50
            clear h50 hZF
            go_wp2
            go_ret
            exact ⟨rfl, hbF.out⟩
        · have hn4 : (e4 != 0) = true := by simpa using h40
          clear h40
          have hbF : Hid _ := hF11.hw
          go_wp2
          go_ret
          exact ⟨rfl, hbF.out⟩
      · have hn3 : (e3 != 0) = true := by simpa using h30
        clear h30
        have hbF : Hid _ := hF11.hw
        go_wp2
        go_ret
        exact ⟨rfl, hbF.out⟩
  · have hb1 : (e1 == 0) = false := by simpa using h0
    have hb2 : (e2 == 0) = false := by rw [← hee]; exact hb1
    have hn1 : (e1 != 0) = true := by simpa using h0
    have hEB := eqBool
    clear h0 hee
    have hbF : Hid _ := hF5.hw
    go_wp2
    go_ret
    exact ⟨rfl, hbF.out⟩

end Go.Proofs.Ytjgefnipkaecgab
