/-
  The law DotPairs, walked: it answers true whatever two contexts are handed in.
-/
import Derived.Test.YtjgefnipkaecgaaLatMath
import Derived.Test.YtjgefnipkaecgaaTwo
import Derived.Test.YtjgefnipkaecgaaMissing
import Derived.Test.YtjgefnipkaecgaaJoined
import Derived.Deep.DeepCutAuto
namespace Go.Proofs.Ytjgefnipkaecgaa
open Go.RowKit Go.Sort

theorem missK_bound {a b : Ctx} (ha : a.l.length ≤ 400) : (missK a b 4).length ≤ 2001 := by
  have h1 : (missK a b 1).length ≤ max (missK a b 0).length 401 + a.l.length := missK_len a b 0
  have h2 : (missK a b 2).length ≤ max (missK a b 1).length 401 + a.l.length := missK_len a b 1
  have h3 : (missK a b 3).length ≤ max (missK a b 2).length 401 + a.l.length := missK_len a b 2
  have h4 : (missK a b 4).length ≤ max (missK a b 3).length 401 + a.l.length := missK_len a b 3
  have h0 : (missK a b 0).length = 0 := rfl
  omega

/-- Less is: nothing is missing. -/
theorem less_miss {a b : Ctx} (h : errB a b = 0) : lessR a b = decide ((missK a b 4).length = 0) := by
  have hab := errB_ok h
  have hca := can_of_err hab.1
  have hcb := can_of_err hab.2
  have hl : lessR a b = lessB a b := by simp [lessR, h]
  rw [hl]
  by_cases h0 : (missK a b 4).length = 0
  · have hm : missK a b 4 = [] := List.eq_nil_of_length_eq_zero h0
    rw [(less_iff hca hcb).2 ?_]
    · simp [h0]
    · intro x hx
      cases hb : hasB b x
      · have hr := has_range hca hx
        have := missK_all (a := a) (b := b) hr.1 hx hb 4 (by omega) (by omega)
        rw [hm] at this
        cases this
      · rfl
  · have hn : lessB a b = false := by
      cases hlb : lessB a b
      · rfl
      · have hall := (less_iff hca hcb).1 hlb
        obtain ⟨x, hx⟩ : ∃ x, x ∈ missK a b 4 := by
          cases hm : missK a b 4 with
          | nil => rw [hm] at h0; exact absurd rfl h0
          | cons x l => exact ⟨x, by simp⟩
        have hs := missK_sound hcb 4 (by omega) x hx
        rw [hall x hs.1] at hs
        cases hs.2
    rw [hn]; simp [h0]

theorem joinC_len (a b : Ctx) : (joinC a b).l.length ≤ maxLen := by
  by_cases h : joinE a b = 0
  · rw [(joinE_ok h).2.2.2.1]
    exact Nat.le_trans (joinE_ok h).2.2.2.2 (by decide)
  · have : joinC a b = zeroC := by simp [joinC, h]
    rw [this]; decide

/-- Two contexts, in the first two blocks of a call. -/
structure Pair (w W : World) (a b : Ctx) (A B : Option Addr) (ca cb : Nat) : Prop where
  ha : CtxAt W w.heap.size a A ca
  hb : CtxAt W (w.heap.size + 1) b B cb
  hw : Below w.heap.size w W
theorem Pair.below {w W W' : World} {a b : Ctx} {A B : Option Addr} {ca cb : Nat} (h : Pair w W a b A B ca cb) (k : Below W.heap.size W W') : Pair w W' a b A B ca cb :=
  ⟨h.ha.below k, h.hb.below k, h.hw.trans (k.mono h.hw.size)⟩
theorem Pair.gr {w W W' : World} {a b : Ctx} {A B : Option Addr} {ca cb : Nat} (h : Pair w W a b A B ca cb) (k : Gr W W') : Pair w W' a b A B ca cb := h.below k.below

theorem equal_G {l m : List (Int × Int)} {A B : Option Addr} {cap dap : Nat} {r : Bool} {W : World} (hx : eqL l m = r) (hl : l.length ≤ maxLen) (hm : m.length ≤ maxLen) (hr : Row W A l) (hs : Row W B m) (n : Nat) (os : Array Obj) :
    Calls Try.prog 26 #[.slice A l.length cap, .slice B m.length dap] (grow (W.drewN n) os) fun e w'' => e = .returned (.bool r) ∧ ∃ p : GrownBy, w'' = grow (W.drewN p.n) p.os := by
  rw [← hx]; exact toG n os (equal_any l m A B cap dap _ hl hm (hr.gr (grG W n os)) (hs.gr (grG W n os)))
theorem eqL_self (l : List (Int × Int)) : eqL l l = true := by simp [eqL]

set_option maxRecDepth 100000 in
set_option maxHeartbeats 4000000 in
theorem dotPairs_any (a b : Ctx) (A B : Option Addr) (ca cb : Nat) (w : World) (hal : a.l.length ≤ maxLen) (hbl : b.l.length ≤ maxLen) (hra : Row w A a.l) (hrb : Row w B b.l) (hA : A = none → ca = 0) (hB : B = none → cb = 0) :
    Calls Try.prog 4 #[.agg #[.int .i64 a.c0, .int .i64 a.c1, .int .i64 a.c2, .int .i64 a.c3, .slice A a.l.length ca], .agg #[.int .i64 b.c0, .int .i64 b.c1, .int .i64 b.c2, .int .i64 b.c3, .slice B b.l.length cb]] w fun e w' => e = .returned (.bool true) ∧ Below w.heap.size w w' := by
  have hF : Pair w ((w.alloc (.cells #[.int .i64 a.c0, .int .i64 a.c1, .int .i64 a.c2, .int .i64 a.c3, .slice A a.l.length ca] 25)).alloc (.cells #[.int .i64 b.c0, .int .i64 b.c1, .int .i64 b.c2, .int .i64 b.c3, .slice B b.l.length cb] 25)) a b A B ca cb :=
    ⟨(CtxAt.new 25 hra rfl).gr ((Gr.refl _).alloc _), CtxAt.new 25 (hrb.gr ((Gr.refl _).alloc _)) (by simp), (((Gr.refl w).alloc _).alloc _).below⟩
  have haM : Hid (a.l.length ≤ maxLen) := hal
  have hbM : Hid (b.l.length ≤ maxLen) := hbl
  have hAH : Hid (A = none → ca = 0) := hA
  have hBH : Hid (B = none → cb = 0) := hB
  have h2 := two_any a b A B ca cb _ hal hbl hF.ha.row hF.hb.row
  have h2H : Hid _ := h2
  clear h2 hal hbl hra hrb hA hB
  have mixed : Try.prog.follows .mixedOrders = true := by kernel_rfl
  go_enter Try.func4, Try.ntmps4
  go_wp2_with fail
  refine Calls.mono (show Calls _ _ _ _ _ from h2H.out) ?_
  rintro e w1 ⟨rfl, hg1⟩
  have hF1 := hF.gr hg1
  clear hF hg1 h2H
  obtain ⟨E, hE⟩ : ∃ E, errB a b = E := ⟨_, rfl⟩
  rw [hE]
  by_cases he0 : E = 0
  · subst he0
    have he := hE
    have heH : Hid (errB a b = 0) := he
    clear hE
    have hab := errB_ok he
    have hpa := errC_parts hab.1
    have hpb := errC_parts hab.2
    have hal4 : a.l.length ≤ 400 := hpa.2.1
    have hbl4 : b.l.length ≤ 400 := hpb.2.1
    have hok : Hid (okClk a = true ∧ okClk b = true) := ⟨hpa.1, hpb.1⟩
    clear hpa hpb hab he
    obtain ⟨a0, a1, a2, a3, a4, alt, arow⟩ := (show CtxAt _ _ _ _ _ from hF1.ha)
    obtain ⟨b0, b1, b2, b3, b4, blt, brow⟩ := (show CtxAt _ _ _ _ _ from hF1.hb)
    have hgZ : Gr w1 (w1.alloc (.cells #[.int .i64 0, .int .i64 0, .int .i64 0, .int .i64 0, .slice none 0 0] 25)) := (Gr.refl _).alloc _
    have hFZ := hF1.gr hgZ
    have hzZ := ZAt.new w1 25 rfl
    have hjo := joined_any a b A B ca cb _ heH hFZ.ha.row hFZ.hb.row hAH.out hBH.out
    have hjoH : Hid _ := hjo
    clear hjo
    go_wp2_with fail
    refine Calls.mono (show Calls _ _ _ _ _ from hjoH.out) ?_
    rintro e w2 ⟨C, cp, rfl, hrJ, hCJ, hCb, hb2⟩
    clear hjoH a0 a1 a2 a3 a4 b0 b1 b2 b3 b4
    obtain ⟨J, hJ⟩ : ∃ J, joinC a b = J := ⟨_, rfl⟩
    obtain ⟨ej, hej⟩ : ∃ ej, joinE a b = ej := ⟨_, rfl⟩
    rw [hJ] at hrJ ⊢
    rw [hej]
    have hJF : Hid (joinC a b = J ∧ joinE a b = ej) := ⟨hJ, hej⟩
    clear hJ hej
    have hF2 := hFZ.below hb2
    have hz2 := hzZ.below hb2
    have hs1 : w.heap.size + 1 < w1.heap.size := hF1.hb.lt
    have hCn : ∀ x, C = some x → x.block ≠ w1.heap.size := fun x hx => by have := hCb x hx; simp at this; omega
    obtain ⟨z0, z1, z2, z3, z4, zf, zlt⟩ := (show ZAt _ _ from hz2)
    go_upto_region 7 with fail
    have hbV : Below w1.heap.size w1 (((((w2.setCell ⟨w1.heap.size, 0, none⟩ (.int .i64 J.c0)).setCell ⟨w1.heap.size, 1, none⟩ (.int .i64 J.c1)).setCell ⟨w1.heap.size, 2, none⟩ (.int .i64 J.c2)).setCell ⟨w1.heap.size, 3, none⟩ (.int .i64 J.c3)).setCell ⟨w1.heap.size, 4, none⟩ (.slice C J.l.length cp)) := below_set5 (hgZ.below.trans (hb2.mono hgZ.size)) (Nat.le_refl _) _ _ _ _ _
    have hF3 := hF1.below hbV
    have hj3 : CtxAt (((((w2.setCell ⟨w1.heap.size, 0, none⟩ (.int .i64 J.c0)).setCell ⟨w1.heap.size, 1, none⟩ (.int .i64 J.c1)).setCell ⟨w1.heap.size, 2, none⟩ (.int .i64 J.c2)).setCell ⟨w1.heap.size, 3, none⟩ (.int .i64 J.c3)).setCell ⟨w1.heap.size, 4, none⟩ (.slice C J.l.length cp)) w1.heap.size J C cp := hz2.ctx.set hrJ hCn
    generalize (((((w2.setCell ⟨w1.heap.size, 0, none⟩ (.int .i64 J.c0)).setCell ⟨w1.heap.size, 1, none⟩ (.int .i64 J.c1)).setCell ⟨w1.heap.size, 2, none⟩ (.int .i64 J.c2)).setCell ⟨w1.heap.size, 3, none⟩ (.int .i64 J.c3)).setCell ⟨w1.heap.size, 4, none⟩ (.slice C J.l.length cp)) = V at hF3 hj3 hbV ⊢
    clear hF1 hFZ hgZ hzZ hrJ hCb hb2 hF2 hz2 hCn z0 z1 z2 z3 z4 zf zlt hbV
    obtain ⟨a0, a1, a2, a3, a4, alt3, arow⟩ := (show CtxAt _ _ _ _ _ from hF3.ha)
    obtain ⟨b0, b1, b2, b3, b4, blt3, brow⟩ := (show CtxAt _ _ _ _ _ from hF3.hb)
    have hmi := rmissing_any a b A B ca cb V hok.out.1 hok.out.2 hal4 hbl4 arow brow
    have hmiH : Hid _ := hmi
    clear hmi
    go_wp2_with fail
    refine Calls.mono (show Calls _ _ _ _ _ from hmiH.out) ?_
    rintro e w4 ⟨M, mp, rfl, hrM, hM, hb4⟩
    clear hmiH a0 a1 a2 a3 a4 b0 b1 b2 b3 b4 arow brow alt3 blt3
    have hF4 := hF3.below hb4
    have hj4 := hj3.below hb4
    clear hF3 hj3 hb4
    have hless := less_miss heH.out
    have hmE : minusE a b = if 400 < (missK a b 4).length then 2 else 0 := by unfold minusE; rw [if_pos heH.out]
    have hmL : minusL a b = if 400 < (missK a b 4).length then [] else missK a b 4 := by
      unfold minusL; rw [hmE]
      by_cases h : 400 < (missK a b 4).length <;> simp [h]
    have hmb : (missK a b 4).length ≤ 2001 := missK_bound hal4
    obtain ⟨m, hm⟩ : ∃ m, missK a b 4 = m := ⟨_, rfl⟩
    rw [hm] at hless hmE hmL hmb hrM ⊢
    clear hm
    have hlessH : Hid (lessR a b = decide (m.length = 0)) := hless
    clear hless
    have hJl : Hid (J.l.length ≤ maxLen) := by rw [← hJF.out.1]; exact joinC_len a b
    by_cases h400 : 400 < m.length
    · have h400z : (400 : Int) < (m.length : Int) := by omega
      have h0z : ((m.length : Int) == 0) = false := beq_eq_false_iff_ne.2 (by omega)
      rw [if_pos h400] at hmE hmL
      have hF : Hid (minusE a b = 2 ∧ minusL a b = []) := ⟨hmE, hmL⟩
      have hL : Hid (lessR a b = false) := hlessH.out.trans (decide_eq_false (by omega))
      have hrN : Row w4 none [] := Or.inl rfl
      clear hmE hmL hlessH hrM
      rename Row w4 none [] => hrM
      obtain ⟨a0, a1, a2, a3, a4, alt4, arow⟩ := (show CtxAt _ _ _ _ _ from hF4.ha)
      obtain ⟨b0, b1, b2, b3, b4, blt4, brow⟩ := (show CtxAt _ _ _ _ _ from hF4.hb)
      have hjn := join_any a b A B ca cb w4 haM.out hbM.out arow brow hAH.out hBH.out
      rw [hJF.out.1, hJF.out.2] at hjn
      have hjnH : Hid _ := hjn
      clear hjn
      go_wp2_with fail
      refine Calls.mono (show Calls _ _ _ _ _ from hjnH.out) ?_
      rintro e w5 ⟨C5, cp5, rfl, hr5, _, _, hb5⟩
      clear hjnH a0 a1 a2 a3 a4 b0 b1 b2 b3 b4 arow brow alt4 blt4
      have hF5 := (hF4.below hb5).gr ((Gr.refl _).alloc (.cells #[.int .i64 J.c0, .int .i64 J.c1, .int .i64 J.c2, .int .i64 J.c3, .slice C5 J.l.length cp5] 25))
      have hj5 := (hj4.below hb5).gr ((Gr.refl _).alloc (.cells #[.int .i64 J.c0, .int .i64 J.c1, .int .i64 J.c2, .int .i64 J.c3, .slice C5 J.l.length cp5] 25))
      have hrM5 := (hrM.below hb5).gr ((Gr.refl _).alloc (.cells #[.int .i64 J.c0, .int .i64 J.c1, .int .i64 J.c2, .int .i64 J.c3, .slice C5 J.l.length cp5] 25))
      have hx5 : CtxAt (w5.alloc (.cells #[.int .i64 J.c0, .int .i64 J.c1, .int .i64 J.c2, .int .i64 J.c3, .slice C5 J.l.length cp5] 25)) w5.heap.size J C5 cp5 := CtxAt.new (c := J) 25 hr5 rfl
      clear hF4 hj4 hrM hr5 hb5
      obtain ⟨a0, a1, a2, a3, a4, alt5, arow⟩ := (show CtxAt _ _ _ _ _ from hF5.ha)
      obtain ⟨b0, b1, b2, b3, b4, blt5, brow⟩ := (show CtxAt _ _ _ _ _ from hF5.hb)
      have hle := less_any a b A B ca cb (w5.alloc (.cells #[.int .i64 J.c0, .int .i64 J.c1, .int .i64 J.c2, .int .i64 J.c3, .slice C5 J.l.length cp5] 25)) haM.out hbM.out arow brow
      rw [hL.out, heH.out] at hle
      have hleH : Hid _ := hle
      clear hle
      go_wp2_with fail
      refine Calls.mono (show Calls _ _ _ _ _ from hleH.out) ?_
      rintro e w6 ⟨rfl, hg6⟩
      clear hleH a0 a1 a2 a3 a4 b0 b1 b2 b3 b4 arow brow alt5 blt5
      have hF6 := hF5.gr hg6
      have hj6 := hj5.gr hg6
      have hrM6 := hrM5.gr hg6
      have hx6 := hx5.gr hg6
      clear hF5 hj5 hrM5 hx5 hg6
      obtain ⟨a0, a1, a2, a3, a4, alt6, arow⟩ := (show CtxAt _ _ _ _ _ from hF6.ha)
      obtain ⟨b0, b1, b2, b3, b4, blt6, brow⟩ := (show CtxAt _ _ _ _ _ from hF6.hb)
      have hmn := minus_any a b A B ca cb w6 haM.out hbM.out arow brow
      rw [hF.out.1, hF.out.2] at hmn
      have hmnH : Hid _ := hmn
      clear hmn
      go_wp2_with fail
      refine Calls.mono (show Calls _ _ _ _ _ from hmnH.out) ?_
      rintro e w7 ⟨Z, zp, rfl, hrZ, _, hb7⟩
      clear hmnH a0 a1 a2 a3 a4 b0 b1 b2 b3 b4 arow brow alt6 blt6
      have hj7 := hj6.below hb7
      have hrM7 := hrM6.below hb7
      have hx7 := hx6.below hb7
      have hbw : Hid (Below w.heap.size w w7) := (hF6.below hb7).hw
      clear hF6 hj6 hrM6 hx6 hb7
      obtain ⟨x0, x1, x2, x3, x4, xlt, xrow⟩ := (show CtxAt _ _ _ _ _ from hx7)
      obtain ⟨j0, j1, j2, j3, j4, jlt, jrow⟩ := (show CtxAt _ _ _ _ _ from hj7)
      have hsm := same_any J J C5 C cp5 cp w7 hJl.out hJl.out xrow jrow
      rw [sameB_self] at hsm
      have hsmH : Hid _ := hsm
      clear hsm
      go_wp2_with fail
      refine Calls.mono (show Calls _ _ _ _ _ from hsmH.out) ?_
      rintro e w8 ⟨rfl, hg8⟩
      clear hsmH x0 x1 x2 x3 x4 xrow j0 j1 j2 j3 j4 jrow xlt jlt hx7 hj7
      have heq := equal_any [] [] Z none zp 0 w8 (by unfold maxLen; simp) (by unfold maxLen; simp) (hrZ.gr hg8) (hrM7.gr hg8)
      rw [eqL_self] at heq
      have heqH : Hid _ := heq
      clear heq hrZ hrM7
      have hEB := eqBool
      go_wp2_with fail
      refine Calls.mono (show Calls _ _ _ _ _ from heqH.out) ?_
      rintro e w9 ⟨rfl, hg9⟩
      go_wp2
      go_ret
      exact ⟨rfl, (hbw.out.trans (hg8.below.mono hbw.out.size)).trans (hg9.below.mono (Nat.le_trans hbw.out.size hg8.size))⟩
    · have h400z : ¬ (400 : Int) < (m.length : Int) := by omega
      rw [if_neg h400] at hmE hmL
      have hF : Hid (minusE a b = 0 ∧ minusL a b = m) := ⟨hmE, hmL⟩
      clear hmE hmL
      by_cases hm0 : m.length = 0
      · have h0z : ((m.length : Int) == 0) = true := beq_iff_eq.2 (by omega)
        have hL : Hid (lessR a b = true) := hlessH.out.trans (decide_eq_true hm0)
        clear hlessH hm0
        obtain ⟨a0, a1, a2, a3, a4, alt4, arow⟩ := (show CtxAt _ _ _ _ _ from hF4.ha)
        obtain ⟨b0, b1, b2, b3, b4, blt4, brow⟩ := (show CtxAt _ _ _ _ _ from hF4.hb)
        have hjn := join_any a b A B ca cb w4 haM.out hbM.out arow brow hAH.out hBH.out
        rw [hJF.out.1, hJF.out.2] at hjn
        have hjnH : Hid _ := hjn
        clear hjn
        go_wp2_with fail
        refine Calls.mono (show Calls _ _ _ _ _ from hjnH.out) ?_
        rintro e w5 ⟨C5, cp5, rfl, hr5, _, _, hb5⟩
        clear hjnH a0 a1 a2 a3 a4 b0 b1 b2 b3 b4 arow brow alt4 blt4
        have hF5 := (hF4.below hb5).gr ((Gr.refl _).alloc (.cells #[.int .i64 J.c0, .int .i64 J.c1, .int .i64 J.c2, .int .i64 J.c3, .slice C5 J.l.length cp5] 25))
        have hj5 := (hj4.below hb5).gr ((Gr.refl _).alloc (.cells #[.int .i64 J.c0, .int .i64 J.c1, .int .i64 J.c2, .int .i64 J.c3, .slice C5 J.l.length cp5] 25))
        have hrM5 := (hrM.below hb5).gr ((Gr.refl _).alloc (.cells #[.int .i64 J.c0, .int .i64 J.c1, .int .i64 J.c2, .int .i64 J.c3, .slice C5 J.l.length cp5] 25))
        have hx5 : CtxAt (w5.alloc (.cells #[.int .i64 J.c0, .int .i64 J.c1, .int .i64 J.c2, .int .i64 J.c3, .slice C5 J.l.length cp5] 25)) w5.heap.size J C5 cp5 := CtxAt.new (c := J) 25 hr5 rfl
        clear hF4 hj4 hrM hr5 hb5
        obtain ⟨a0, a1, a2, a3, a4, alt5, arow⟩ := (show CtxAt _ _ _ _ _ from hF5.ha)
        obtain ⟨b0, b1, b2, b3, b4, blt5, brow⟩ := (show CtxAt _ _ _ _ _ from hF5.hb)
        have hle := less_any a b A B ca cb (w5.alloc (.cells #[.int .i64 J.c0, .int .i64 J.c1, .int .i64 J.c2, .int .i64 J.c3, .slice C5 J.l.length cp5] 25)) haM.out hbM.out arow brow
        rw [hL.out, heH.out] at hle
        have hleH : Hid _ := hle
        clear hle
        go_wp2_with fail
        refine Calls.mono (show Calls _ _ _ _ _ from hleH.out) ?_
        rintro e w6 ⟨rfl, hg6⟩
        clear hleH a0 a1 a2 a3 a4 b0 b1 b2 b3 b4 arow brow alt5 blt5
        have hF6 := hF5.gr hg6
        have hj6 := hj5.gr hg6
        have hrM6 := hrM5.gr hg6
        have hx6 := hx5.gr hg6
        clear hF5 hj5 hrM5 hx5 hg6
        obtain ⟨a0, a1, a2, a3, a4, alt6, arow⟩ := (show CtxAt _ _ _ _ _ from hF6.ha)
        obtain ⟨b0, b1, b2, b3, b4, blt6, brow⟩ := (show CtxAt _ _ _ _ _ from hF6.hb)
        have hmn := minus_any a b A B ca cb w6 haM.out hbM.out arow brow
        rw [hF.out.1, hF.out.2] at hmn
        have hmnH : Hid _ := hmn
        clear hmn
        go_wp2_with fail
        refine Calls.mono (show Calls _ _ _ _ _ from hmnH.out) ?_
        rintro e w7 ⟨Z, zp, rfl, hrZ, _, hb7⟩
        clear hmnH a0 a1 a2 a3 a4 b0 b1 b2 b3 b4 arow brow alt6 blt6
        have hj7 := hj6.below hb7
        have hrM7 := hrM6.below hb7
        have hx7 := hx6.below hb7
        have hbw : Hid (Below w.heap.size w w7) := (hF6.below hb7).hw
        clear hF6 hj6 hrM6 hx6 hb7
        obtain ⟨x0, x1, x2, x3, x4, xlt, xrow⟩ := (show CtxAt _ _ _ _ _ from hx7)
        obtain ⟨j0, j1, j2, j3, j4, jlt, jrow⟩ := (show CtxAt _ _ _ _ _ from hj7)
        have hsm := same_any J J C5 C cp5 cp w7 hJl.out hJl.out xrow jrow
        rw [sameB_self] at hsm
        have hsmH : Hid _ := hsm
        clear hsm
        go_wp2_with fail
        refine Calls.mono (show Calls _ _ _ _ _ from hsmH.out) ?_
        rintro e w8 ⟨rfl, hg8⟩
        clear hsmH x0 x1 x2 x3 x4 xrow j0 j1 j2 j3 j4 jrow xlt jlt hx7 hj7
        have heq := equal_any m m Z M zp mp w8 (by unfold maxLen; omega) (by unfold maxLen; omega) (hrZ.gr hg8) (hrM7.gr hg8)
        rw [eqL_self] at heq
        have heqH : Hid _ := heq
        clear heq hrZ hrM7
        have hEB := eqBool
        go_wp2_with fail
        refine Calls.mono (show Calls _ _ _ _ _ from heqH.out) ?_
        rintro e w9 ⟨rfl, hg9⟩
        go_wp2
        go_ret
        exact ⟨rfl, (hbw.out.trans (hg8.below.mono hbw.out.size)).trans (hg9.below.mono (Nat.le_trans hbw.out.size hg8.size))⟩
      · have h0z : ((m.length : Int) == 0) = false := beq_eq_false_iff_ne.2 (by omega)
        have hL : Hid (lessR a b = false) := hlessH.out.trans (decide_eq_false hm0)
        clear hlessH hm0
        obtain ⟨a0, a1, a2, a3, a4, alt4, arow⟩ := (show CtxAt _ _ _ _ _ from hF4.ha)
        obtain ⟨b0, b1, b2, b3, b4, blt4, brow⟩ := (show CtxAt _ _ _ _ _ from hF4.hb)
        have hjn := join_any a b A B ca cb w4 haM.out hbM.out arow brow hAH.out hBH.out
        rw [hJF.out.1, hJF.out.2] at hjn
        have hjnH : Hid _ := hjn
        clear hjn
        go_wp2_with fail
        refine Calls.mono (show Calls _ _ _ _ _ from hjnH.out) ?_
        rintro e w5 ⟨C5, cp5, rfl, hr5, _, _, hb5⟩
        clear hjnH a0 a1 a2 a3 a4 b0 b1 b2 b3 b4 arow brow alt4 blt4
        have hF5 := (hF4.below hb5).gr ((Gr.refl _).alloc (.cells #[.int .i64 J.c0, .int .i64 J.c1, .int .i64 J.c2, .int .i64 J.c3, .slice C5 J.l.length cp5] 25))
        have hj5 := (hj4.below hb5).gr ((Gr.refl _).alloc (.cells #[.int .i64 J.c0, .int .i64 J.c1, .int .i64 J.c2, .int .i64 J.c3, .slice C5 J.l.length cp5] 25))
        have hrM5 := (hrM.below hb5).gr ((Gr.refl _).alloc (.cells #[.int .i64 J.c0, .int .i64 J.c1, .int .i64 J.c2, .int .i64 J.c3, .slice C5 J.l.length cp5] 25))
        have hx5 : CtxAt (w5.alloc (.cells #[.int .i64 J.c0, .int .i64 J.c1, .int .i64 J.c2, .int .i64 J.c3, .slice C5 J.l.length cp5] 25)) w5.heap.size J C5 cp5 := CtxAt.new (c := J) 25 hr5 rfl
        clear hF4 hj4 hrM hr5 hb5
        obtain ⟨a0, a1, a2, a3, a4, alt5, arow⟩ := (show CtxAt _ _ _ _ _ from hF5.ha)
        obtain ⟨b0, b1, b2, b3, b4, blt5, brow⟩ := (show CtxAt _ _ _ _ _ from hF5.hb)
        have hle := less_any a b A B ca cb (w5.alloc (.cells #[.int .i64 J.c0, .int .i64 J.c1, .int .i64 J.c2, .int .i64 J.c3, .slice C5 J.l.length cp5] 25)) haM.out hbM.out arow brow
        rw [hL.out, heH.out] at hle
        have hleH : Hid _ := hle
        clear hle
        go_wp2_with fail
        refine Calls.mono (show Calls _ _ _ _ _ from hleH.out) ?_
        rintro e w6 ⟨rfl, hg6⟩
        clear hleH a0 a1 a2 a3 a4 b0 b1 b2 b3 b4 arow brow alt5 blt5
        have hF6 := hF5.gr hg6
        have hj6 := hj5.gr hg6
        have hrM6 := hrM5.gr hg6
        have hx6 := hx5.gr hg6
        clear hF5 hj5 hrM5 hx5 hg6
        obtain ⟨a0, a1, a2, a3, a4, alt6, arow⟩ := (show CtxAt _ _ _ _ _ from hF6.ha)
        obtain ⟨b0, b1, b2, b3, b4, blt6, brow⟩ := (show CtxAt _ _ _ _ _ from hF6.hb)
        have hmn := minus_any a b A B ca cb w6 haM.out hbM.out arow brow
        rw [hF.out.1, hF.out.2] at hmn
        have hmnH : Hid _ := hmn
        clear hmn
        go_wp2_with fail
        refine Calls.mono (show Calls _ _ _ _ _ from hmnH.out) ?_
        rintro e w7 ⟨Z, zp, rfl, hrZ, _, hb7⟩
        clear hmnH a0 a1 a2 a3 a4 b0 b1 b2 b3 b4 arow brow alt6 blt6
        have hj7 := hj6.below hb7
        have hrM7 := hrM6.below hb7
        have hx7 := hx6.below hb7
        have hbw : Hid (Below w.heap.size w w7) := (hF6.below hb7).hw
        clear hF6 hj6 hrM6 hx6 hb7
        obtain ⟨x0, x1, x2, x3, x4, xlt, xrow⟩ := (show CtxAt _ _ _ _ _ from hx7)
        obtain ⟨j0, j1, j2, j3, j4, jlt, jrow⟩ := (show CtxAt _ _ _ _ _ from hj7)
        have hsm := same_any J J C5 C cp5 cp w7 hJl.out hJl.out xrow jrow
        rw [sameB_self] at hsm
        have hsmH : Hid _ := hsm
        clear hsm
        go_wp2_with fail
        refine Calls.mono (show Calls _ _ _ _ _ from hsmH.out) ?_
        rintro e w8 ⟨rfl, hg8⟩
        clear hsmH x0 x1 x2 x3 x4 xrow j0 j1 j2 j3 j4 jrow xlt jlt hx7 hj7
        have heq := equal_any m m Z M zp mp w8 (by unfold maxLen; omega) (by unfold maxLen; omega) (hrZ.gr hg8) (hrM7.gr hg8)
        rw [eqL_self] at heq
        have heqH : Hid _ := heq
        clear heq hrZ hrM7
        have hEB := eqBool
        go_wp2_with fail
        refine Calls.mono (show Calls _ _ _ _ _ from heqH.out) ?_
        rintro e w9 ⟨rfl, hg9⟩
        go_wp2
        go_ret
        exact ⟨rfl, (hbw.out.trans (hg8.below.mono hbw.out.size)).trans (hg9.below.mono (Nat.le_trans hbw.out.size hg8.size))⟩
  · have hEb : (E == 0) = false := by simpa using he0
    have hEH : Hid (errB a b = E) := hE
    have hF : Hid (minusE a b = E ∧ minusL a b = []) := by
      have h1 : minusE a b = E := by unfold minusE; rw [hEH.out, if_neg he0]
      exact ⟨h1, by unfold minusL; rw [h1, if_neg he0]⟩
    have hL : Hid (lessR a b = false) := by
      show lessR a b = false
      unfold lessR; rw [hEH.out]; simp [he0]
    have hJF : Hid (joinC a b = zeroC ∧ joinE a b = E) := by
      have h1 : joinE a b = E := by unfold joinE; rw [hEH.out, if_neg he0]
      exact ⟨by unfold joinC; rw [h1, if_neg he0], h1⟩
    have hF4 := hF1.gr ((Gr.refl _).alloc (.cells #[.int .i64 0, .int .i64 0, .int .i64 0, .int .i64 0, .slice none 0 0] 25))
    have hj4 := (ZAt.new w1 25 rfl).ctx
    have hrM : Row (w1.alloc (.cells #[.int .i64 0, .int .i64 0, .int .i64 0, .int .i64 0, .slice none 0 0] 25)) none [] := Or.inl rfl
    have hJl : Hid (zeroC.l.length ≤ maxLen) := by show _ ≤ _; decide
    change CtxAt _ _ zeroC none 0 at hj4
    clear hF1 hE he0
    obtain ⟨a0, a1, a2, a3, a4, alt4, arow⟩ := (show CtxAt _ _ _ _ _ from hF4.ha)
    obtain ⟨b0, b1, b2, b3, b4, blt4, brow⟩ := (show CtxAt _ _ _ _ _ from hF4.hb)
    have hjn := join_any a b A B ca cb (w1.alloc (.cells #[.int .i64 0, .int .i64 0, .int .i64 0, .int .i64 0, .slice none 0 0] 25)) haM.out hbM.out arow brow hAH.out hBH.out
    rw [hJF.out.1, hJF.out.2] at hjn
    dsimp only [zeroC, List.length_nil] at hjn
    have hjnH : Hid _ := hjn
    clear hjn
    go_wp2_with fail
    refine Calls.mono (show Calls _ _ _ _ _ from hjnH.out) ?_
    rintro e w5 ⟨C5, cp5, rfl, hr5, _, _, hb5⟩
    clear hjnH a0 a1 a2 a3 a4 b0 b1 b2 b3 b4 arow brow alt4 blt4
    have hF5 := (hF4.below hb5).gr ((Gr.refl _).alloc (.cells #[.int .i64 0, .int .i64 0, .int .i64 0, .int .i64 0, .slice C5 0 cp5] 25))
    have hj5 := (hj4.below hb5).gr ((Gr.refl _).alloc (.cells #[.int .i64 0, .int .i64 0, .int .i64 0, .int .i64 0, .slice C5 0 cp5] 25))
    have hrM5 := (hrM.below hb5).gr ((Gr.refl _).alloc (.cells #[.int .i64 0, .int .i64 0, .int .i64 0, .int .i64 0, .slice C5 0 cp5] 25))
    have hx5 : CtxAt (w5.alloc (.cells #[.int .i64 0, .int .i64 0, .int .i64 0, .int .i64 0, .slice C5 0 cp5] 25)) w5.heap.size zeroC C5 cp5 := CtxAt.new (c := zeroC) 25 hr5 rfl
    clear hF4 hj4 hrM hr5 hb5
    obtain ⟨a0, a1, a2, a3, a4, alt5, arow⟩ := (show CtxAt _ _ _ _ _ from hF5.ha)
    obtain ⟨b0, b1, b2, b3, b4, blt5, brow⟩ := (show CtxAt _ _ _ _ _ from hF5.hb)
    have hle := less_any a b A B ca cb (w5.alloc (.cells #[.int .i64 0, .int .i64 0, .int .i64 0, .int .i64 0, .slice C5 0 cp5] 25)) haM.out hbM.out arow brow
    rw [hL.out, hEH.out] at hle
    have hleH : Hid _ := hle
    clear hle
    go_wp2_with fail
    refine Calls.mono (show Calls _ _ _ _ _ from hleH.out) ?_
    rintro e w6 ⟨rfl, hg6⟩
    clear hleH a0 a1 a2 a3 a4 b0 b1 b2 b3 b4 arow brow alt5 blt5
    have hF6 := hF5.gr hg6
    have hj6 := hj5.gr hg6
    have hrM6 := hrM5.gr hg6
    have hx6 := hx5.gr hg6
    clear hF5 hj5 hrM5 hx5 hg6
    obtain ⟨a0, a1, a2, a3, a4, alt6, arow⟩ := (show CtxAt _ _ _ _ _ from hF6.ha)
    obtain ⟨b0, b1, b2, b3, b4, blt6, brow⟩ := (show CtxAt _ _ _ _ _ from hF6.hb)
    have hmn := minus_any a b A B ca cb w6 haM.out hbM.out arow brow
    rw [hF.out.1, hF.out.2] at hmn
    have hmnH : Hid _ := hmn
    clear hmn
    go_wp2_with fail
    refine Calls.mono (show Calls _ _ _ _ _ from hmnH.out) ?_
    rintro e w7 ⟨Z, zp, rfl, hrZ, _, hb7⟩
    clear hmnH a0 a1 a2 a3 a4 b0 b1 b2 b3 b4 arow brow alt6 blt6
    have hj7 := hj6.below hb7
    have hrM7 := hrM6.below hb7
    have hx7 := hx6.below hb7
    have hbw : Hid (Below w.heap.size w w7) := (hF6.below hb7).hw
    clear hF6 hj6 hrM6 hx6 hb7
    obtain ⟨x0, x1, x2, x3, x4, xlt, xrow⟩ := (show CtxAt _ _ _ _ _ from hx7)
    obtain ⟨j0, j1, j2, j3, j4, jlt, jrow⟩ := (show CtxAt _ _ _ _ _ from hj7)
    have hsm := same_any zeroC zeroC C5 none cp5 0 w7 hJl.out hJl.out xrow jrow
    rw [sameB_self] at hsm
    dsimp only [zeroC, List.length_nil] at hsm
    have hsmH : Hid _ := hsm
    clear hsm
    dsimp only [zeroC, List.length_nil] at x0 x1 x2 x3 x4 j0 j1 j2 j3 j4
    go_wp2_with fail
    refine Calls.mono (show Calls _ _ _ _ _ from hsmH.out) ?_
    rintro e w8 ⟨rfl, hg8⟩
    clear hsmH x0 x1 x2 x3 x4 xrow j0 j1 j2 j3 j4 jrow xlt jlt hx7 hj7
    have heq := equal_any [] [] Z none zp 0 w8 (by unfold maxLen; simp) (by unfold maxLen; simp) (hrZ.gr hg8) (hrM7.gr hg8)
    rw [eqL_self] at heq
    have heqH : Hid _ := heq
    clear heq hrZ hrM7
    have hEB := eqBool
    go_wp2_with fail
    refine Calls.mono (show Calls _ _ _ _ _ from heqH.out) ?_
    rintro e w9 ⟨rfl, hg9⟩
    go_wp2
    go_ret
    exact ⟨rfl, (hbw.out.trans (hg8.below.mono hbw.out.size)).trans (hg9.below.mono (Nat.le_trans hbw.out.size hg8.size))⟩

end Go.Proofs.Ytjgefnipkaecgaa
