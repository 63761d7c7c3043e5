/-
  dot.Without: a context without the dots of a list.
-/
import Derived.Test.YtjgefnipkaecgacMissd
import Derived.Test.YtjgefnipkaecgacJoin
namespace Go.Proofs.Ytjgefnipkaecgac
open Go.RowKit Go.Sort

set_option maxHeartbeats 4000000 in
theorem missing_new (a b : Ctx) (A B : Option Addr) (ca cb : Nat) (w : World) (hoka : okClk a = true) (hokb : okClk b = true) (hal4 : a.l.length ≤ 400) (hbl4 : b.l.length ≤ 400) (hra : Row w A a.l) (hrb : Row w B b.l) :
    Calls Try.prog 54 #[.agg #[.int .i64 a.c0, .int .i64 a.c1, .int .i64 a.c2, .int .i64 a.c3, .slice A a.l.length ca], .agg #[.int .i64 b.c0, .int .i64 b.c1, .int .i64 b.c2, .int .i64 b.c3, .slice B b.l.length cb]] w fun e w' => ∃ C cp, e = .returned (.tuple #[.slice C (missL a b).length cp, .int .i64 (missE a b)]) ∧ Row w' C (missL a b) ∧ (C = none → cp = 0) ∧ (∀ x, C = some x → w.heap.size ≤ x.block) ∧ Below w.heap.size w w' := by
  have hg0 : Gr w ((w.alloc (.cells #[.int .i64 a.c0, .int .i64 a.c1, .int .i64 a.c2, .int .i64 a.c3, .slice A a.l.length ca] 25)).alloc (.cells #[.int .i64 b.c0, .int .i64 b.c1, .int .i64 b.c2, .int .i64 b.c3, .slice B b.l.length cb] 25)) := ((Gr.refl w).alloc _).alloc _
  have ha1 : CtxAt ((w.alloc (.cells #[.int .i64 a.c0, .int .i64 a.c1, .int .i64 a.c2, .int .i64 a.c3, .slice A a.l.length ca] 25)).alloc (.cells #[.int .i64 b.c0, .int .i64 b.c1, .int .i64 b.c2, .int .i64 b.c3, .slice B b.l.length cb] 25)) w.heap.size a A ca := (CtxAt.new 25 hra rfl).gr ((Gr.refl _).alloc _)
  have hb1 : CtxAt ((w.alloc (.cells #[.int .i64 a.c0, .int .i64 a.c1, .int .i64 a.c2, .int .i64 a.c3, .slice A a.l.length ca] 25)).alloc (.cells #[.int .i64 b.c0, .int .i64 b.c1, .int .i64 b.c2, .int .i64 b.c3, .slice B b.l.length cb] 25)) (w.heap.size + 1) b B cb := CtxAt.new 25 (hrb.gr ((Gr.refl _).alloc _)) (by simp)
  have hok : Hid (okClk a = true ∧ okClk b = true) := ⟨hoka, hokb⟩
  clear hoka hokb
  have hAb : ∀ x, A = some x → a.l ≠ [] → x.block < w.heap.size + 1 + 1 := fun x hx hl => by have := hra.lt x hx hl; omega
  have hBb : ∀ x, B = some x → b.l ≠ [] → x.block < w.heap.size + 1 + 1 := fun x hx hl => by have := hrb.lt x hx hl; omega
  have hbw1 : Hid (Below w.heap.size w ((w.alloc (.cells #[.int .i64 a.c0, .int .i64 a.c1, .int .i64 a.c2, .int .i64 a.c3, .slice A a.l.length ca] 25)).alloc (.cells #[.int .i64 b.c0, .int .i64 b.c1, .int .i64 b.c2, .int .i64 b.c3, .slice B b.l.length cb] 25))) := hg0.below
  clear hg0
  go_enter Try.func54, Try.ntmps54
  go_wp2
  go_loopw [6, 8] (fun v i wr => ∃ k : Nat, k ≤ 4 ∧ i = .int .i64 k ∧ (missK a b k).length ≤ 400 ∧ Own wr (w.heap.size + 1 + 1) v (missK a b k) ∧ Below (w.heap.size + 1 + 1) ((w.alloc (.cells #[.int .i64 a.c0, .int .i64 a.c1, .int .i64 a.c2, .int .i64 a.c3, .slice A a.l.length ca] 25)).alloc (.cells #[.int .i64 b.c0, .int .i64 b.c1, .int .i64 b.c2, .int .i64 b.c3, .slice B b.l.length cb] 25)) wr) (fun _ i _ => 4 - (intOf i).toNat)
  case atStart => exact ⟨0, by omega, rfl, by simp [missK], Own.nil _ _, Below.refl _ _⟩
  case round =>
    obtain ⟨k, hk, rfl, hml, hov, hbel⟩ := hrel
    obtain ⟨A1, cap1, rfl, hA1, hrow1, hlt1⟩ := hov.row
    have haR := CtxAt.belowB ha1 hbel (by omega) hAb
    have hbR := CtxAt.belowB hb1 hbel (by omega) hBb
    obtain ⟨a0, a1, a2, a3, a4, alt, arow⟩ := (show CtxAt _ _ _ _ _ from haR)
    obtain ⟨b0, b1, b2, b3, b4, blt, brow⟩ := (show CtxAt _ _ _ _ _ from hbR)
    have hsR : w.heap.size + 1 + 1 ≤ wr.heap.size := by have h1 := hbel.size; simp at h1; omega
    by_cases hlt : k < 4
    · have hltz : (k : Int) < 4 := by omega
      have hln := missK_len a b k
      have hcall := appMiss_any a b A B ca cb (.slice A1 (missK a b k).length cap1) (missK a b k) k (w.heap.size + 1 + 1) wr (by omega) hltz hok.out.1 hok.out.2 hal4 hbl4 (by omega) arow brow hAb hBb hov hsR
      have hcallH : Hid _ := hcall
      clear hcall hov hrow1
      go_wp2_with fail
      refine Calls.mono (show Calls _ _ _ _ _ from hcallH.out) ?_
      rintro e w2 ⟨v2, rfl, hov2, hb2⟩
      change Own w2 _ v2 (missK a b (k + 1)) at hov2
      clear hcallH a0 a1 a2 a3 a4 b0 b1 b2 b3 b4
      obtain ⟨A2, cap2, rfl, hA2, hrow2, _⟩ := hov2.row
      have hov2H : Hid (Own w2 (w.heap.size + 1 + 1) (.slice A2 (missK a b (k + 1)).length cap2) (missK a b (k + 1))) := hov2
      have hbelH : Hid (Below (w.heap.size + 1 + 1) ((w.alloc (.cells #[.int .i64 a.c0, .int .i64 a.c1, .int .i64 a.c2, .int .i64 a.c3, .slice A a.l.length ca] 25)).alloc (.cells #[.int .i64 b.c0, .int .i64 b.c1, .int .i64 b.c2, .int .i64 b.c3, .slice B b.l.length cb] 25)) w2) := hbel.trans hb2
      clear hov2 hbel hb2
      by_cases h400 : 400 < (missK a b (k + 1)).length
      · have h400z : (400 : Int) < ((missK a b (k + 1)).length : Int) := by omega
        have hfin : Hid (missE a b = 2 ∧ missL a b = []) := miss_large (by omega) h400
        go_wp2
        go_ret2
        rw [hfin.out.1, hfin.out.2]
        exact ⟨none, 0, rfl, Or.inl rfl, fun _ => rfl, (fun x hx => by cases hx), hbw1.out.trans (hbelH.out.mono (by omega))⟩
      · have h400z : ¬ (400 : Int) < ((missK a b (k + 1)).length : Int) := by omega
        go_wp2
        go_roundw
        case rel => exact ⟨k + 1, by omega, by go_num, by omega, hov2H.out, hbelH.out⟩
        case measure => simp [intOf]; omega
    · obtain rfl : k = 4 := by omega
      have hfin : Hid (missE a b = 0 ∧ missL a b = missK a b 4) := by
        exact ⟨by unfold missE; rw [if_neg (by omega)], by unfold missL; rw [if_neg (by omega)]⟩
      have hovH : Hid (Row wr A1 (missK a b 4)) := hrow1
      have hnew : Hid (∀ x, A1 = some x → w.heap.size ≤ x.block) := fun x hx => by have := (hlt1 x hx).1; omega
      clear a0 a1 a2 a3 a4 b0 b1 b2 b3 b4
      go_wp2
      go_ret2
      rw [hfin.out.1, hfin.out.2]
      exact ⟨A1, cap1, rfl, hovH.out, hA1, hnew.out, hbw1.out.trans (hbel.mono (by omega))⟩


theorem ClkAt.belowB {w w' : World} {B N : Nat} {x0 x1 x2 x3 : Int} (h : ClkAt w B x0 x1 x2 x3) (k : Below N w w') (hB : B < N) : ClkAt w' B x0 x1 x2 x3 :=
  ⟨(k.cell (p := ⟨B, 0, none⟩) hB).trans h.k0, (k.cell (p := ⟨B, 1, none⟩) hB).trans h.k1, (k.cell (p := ⟨B, 2, none⟩) hB).trans h.k2, (k.cell (p := ⟨B, 3, none⟩) hB).trans h.k3, fun j => (k.frozen (p := ⟨B, j, none⟩) hB).trans (h.fz j), Nat.lt_of_lt_of_le h.lt k.size⟩
theorem ClkAt.below {w w' : World} {B : Nat} {x0 x1 x2 x3 : Int} (h : ClkAt w B x0 x1 x2 x3) (k : Below w.heap.size w w') : ClkAt w' B x0 x1 x2 x3 := h.belowB k h.lt

/-- The clocks lowered below the dots of a list. -/
def lowBy (b : Ctx) (d : Int × Int) : Ctx := if inB d.1 0 3 && decide (1 ≤ d.2) then setClk b d.1 (min (clk b d.1) (d.2 - 1)) else b
theorem lowBy_right {b : Ctx} {d : Int × Int} (h : rightB d = true) : lowBy b d = setClk b d.1 (min (clk b d.1) (d.2 - 1)) := by
  have : (inB d.1 0 3 && decide (1 ≤ d.2)) = true := by
    unfold rightB inB at h
    simp only [Bool.and_eq_true, decide_eq_true_eq] at h
    simp [inB]; omega
  unfold lowBy
  rw [if_pos this]
/-- The clocks of c, lowered below the first k dots of l. -/
def lowTo (c : Ctx) (l : List (Int × Int)) (k : Nat) : Ctx := (l.take k).foldl lowBy ⟨c.c0, c.c1, c.c2, c.c3, l⟩
theorem lowTo_succ {c : Ctx} {l : List (Int × Int)} {k : Nat} (h : k < l.length) {x : Int × Int} (hx : l[k] = x) : lowTo c l (k + 1) = lowBy (lowTo c l k) x := by
  unfold lowTo
  rw [List.take_succ_eq_append_getElem h, List.foldl_append, hx]
  rfl
/-- The clocks of c, lowered below the dots of l; its cloud is l. -/
def lowC (c : Ctx) (l : List (Int × Int)) : Ctx := l.foldl lowBy ⟨c.c0, c.c1, c.c2, c.c3, l⟩
theorem lowBy_l (b : Ctx) (d : Int × Int) : (lowBy b d).l = b.l := by
  unfold lowBy
  by_cases h : (inB d.1 0 3 && decide (1 ≤ d.2)) = true
  · rw [if_pos h, setClk_l]
  · rw [if_neg h]
theorem foldLow_l (m : List (Int × Int)) : ∀ b : Ctx, (m.foldl lowBy b).l = b.l := by
  induction m with
  | nil => intro b; rfl
  | cons d m ih => intro b; rw [List.foldl_cons, ih, lowBy_l]
theorem lowC_l (c : Ctx) (l : List (Int × Int)) : (lowC c l).l = l := by unfold lowC; rw [foldLow_l]
theorem lowBy_ok {b : Ctx} {d : Int × Int} (hb : okClk b = true) (hd : rightB d = true) : okClk (lowBy b d) = true := by
  rw [lowBy_right hd]
  unfold rightB inB at hd
  simp only [Bool.and_eq_true, decide_eq_true_eq] at hd
  obtain ⟨⟨h0, h3⟩, h1, h2⟩ := hd
  have hx : d.1 = 0 ∨ d.1 = 1 ∨ d.1 = 2 ∨ d.1 = 3 := by omega
  obtain ⟨x, y⟩ := d
  simp only at hx h0 h3 h1 h2
  unfold okClk inB at hb ⊢
  simp only [Bool.and_eq_true, decide_eq_true_eq] at hb ⊢
  rcases hx with rfl | rfl | rfl | rfl <;> simp [setClk, clk] <;> omega
theorem lowC_ok {c : Ctx} {l : List (Int × Int)} (hc : okClk c = true) (hl : ∀ x ∈ l, rightB x = true) : okClk (lowC c l) = true := by
  unfold lowC
  have : ∀ (m : List (Int × Int)) (b : Ctx), okClk b = true → (∀ x ∈ m, rightB x = true) → okClk (m.foldl lowBy b) = true := by
    intro m
    induction m with
    | nil => intro b hb _; exact hb
    | cons d m ih => intro b hb hm; rw [List.foldl_cons]; exact ih _ (lowBy_ok hb (hm d (by simp))) (fun x hx => hm x (by simp [hx]))
  exact this l _ hc hl
/-- The error that Without tells. -/
def woE (c : Ctx) (l : List (Int × Int)) : Int := if errC c ≠ 0 then errC c else missE c (lowC c l)
/-- The context that it tells. -/
def woC (c : Ctx) (l : List (Int × Int)) : Ctx := if woE c l = 0 then ⟨(lowC c l).c0, (lowC c l).c1, (lowC c l).c2, (lowC c l).c3, missL c (lowC c l)⟩ else zeroC

set_option maxRecDepth 100000 in
set_option maxHeartbeats 2000000 in
theorem without_any (c : Ctx) (l : List (Int × Int)) (A L : Option Addr) (ca cl : Nat) (w : World) (hl : c.l.length ≤ maxLen) (hll : l.length ≤ 400) (hri : ∀ x ∈ l, rightB x = true) (hr : Row w A c.l) (hrl : Row w L l) :
    Calls Try.prog 27 #[.agg #[.int .i64 c.c0, .int .i64 c.c1, .int .i64 c.c2, .int .i64 c.c3, .slice A c.l.length ca], .slice L l.length cl] w fun e w' => ∃ C cp, e = .returned (.tuple #[.agg #[.int .i64 (woC c l).c0, .int .i64 (woC c l).c1, .int .i64 (woC c l).c2, .int .i64 (woC c l).c3, .slice C (woC c l).l.length cp], .int .i64 (woE c l)]) ∧ Row w' C (woC c l).l ∧ (C = none → cp = 0) ∧ (∀ x, C = some x → w.heap.size ≤ x.block) ∧ Below w.heap.size w w' := by
  have mixed : Try.prog.follows .mixedOrders = true := by kernel_rfl
  have hg0 : Gr w ((w.alloc (.cells #[.int .i64 c.c0, .int .i64 c.c1, .int .i64 c.c2, .int .i64 c.c3, .slice A c.l.length ca] 25)).alloc (.cells #[.int .i64 0, .int .i64 0, .int .i64 0, .int .i64 0, .slice none 0 0] 25)) := ((Gr.refl w).alloc _).alloc _
  have hc0 : CtxAt ((w.alloc (.cells #[.int .i64 c.c0, .int .i64 c.c1, .int .i64 c.c2, .int .i64 c.c3, .slice A c.l.length ca] 25)).alloc (.cells #[.int .i64 0, .int .i64 0, .int .i64 0, .int .i64 0, .slice none 0 0] 25)) w.heap.size c A ca := (CtxAt.new 25 hr rfl).gr ((Gr.refl _).alloc _)
  have hz0 : ZAt ((w.alloc (.cells #[.int .i64 c.c0, .int .i64 c.c1, .int .i64 c.c2, .int .i64 c.c3, .slice A c.l.length ca] 25)).alloc (.cells #[.int .i64 0, .int .i64 0, .int .i64 0, .int .i64 0, .slice none 0 0] 25)) (w.heap.size + 1) := ZAt.new _ 25 (by simp)
  have hck := check_any c A ca _ hl hc0.row
  have hckH : Hid _ := hck
  clear hck
  go_enter Try.func27, Try.ntmps27
  go_wp2_with fail
  refine Calls.mono (show Calls _ _ _ _ _ from hckH.out) ?_
  rintro e w1 ⟨rfl, hg1⟩
  clear hckH
  have hc1 := hc0.gr hg1
  have hz1 := hz0.below hg1.below
  have hbw1 : Below w.heap.size w w1 := (hg0.trans hg1).below
  have hrl1 := hrl.gr (hg0.trans hg1)
  clear hg0 hc0 hz0 hg1 hr hrl
  obtain ⟨E1, hE1⟩ : ∃ E, errC c = E := ⟨_, rfl⟩
  rw [hE1]
  by_cases h1 : E1 = 0
  · subst h1
    have heH : Hid (errC c = 0) := hE1
    clear hE1
    obtain ⟨c0, c1, c2, c3, c4, clt, crow⟩ := (show CtxAt _ _ _ _ _ from hc1)
    have hk1 : ClkAt (w1.alloc (.cells #[.int .i64 c.c0, .int .i64 c.c1, .int .i64 c.c2, .int .i64 c.c3] 22)) w1.heap.size c.c0 c.c1 c.c2 c.c3 := ⟨box1 (Gr.refl _) rfl, box1 (Gr.refl _) rfl, box1 (Gr.refl _) rfl, box1 (Gr.refl _) rfl, fun j => box1f (Gr.refl _) j, by simp⟩
    have hb1 : Below w1.heap.size w1 (w1.alloc (.cells #[.int .i64 c.c0, .int .i64 c.c1, .int .i64 c.c2, .int .i64 c.c3] 22)) := ((Gr.refl _).alloc _).below
    go_wp2
    generalize w1.alloc (.cells #[.int .i64 c.c0, .int .i64 c.c1, .int .i64 c.c2, .int .i64 c.c3] 22) = w2 at hk1 hb1 ⊢
    have hcH : Hid (CtxAt w1 w.heap.size c A ca) := hc1
    clear c0 c1 c2 c3 c4 clt crow hc1
    go_loopw [22] (fun i wr => ∃ k : Nat, k ≤ l.length ∧ i = .int .i64 k ∧ ClkAt wr w1.heap.size (lowTo c l k).c0 (lowTo c l k).c1 (lowTo c l k).c2 (lowTo c l k).c3 ∧ Below w1.heap.size w1 wr) (fun i _ => l.length - (intOf i).toNat)
    case atStart => exact ⟨0, by omega, rfl, hk1, hb1⟩
    case round =>
      obtain ⟨k, hk, rfl, hat, hbel⟩ := hrel
      have hsR := hbel.size
      have hltR := hat.lt
      by_cases hlt : k < l.length
      · have hltz : (k : Int) < (l.length : Int) := by omega
        obtain ⟨bb, off, rfl, hbb, hcs⟩ := (hrl1.below hbel).at hlt
        obtain ⟨⟨x, y⟩, hx⟩ : ∃ x, l[k] = x := ⟨_, rfl⟩
        obtain ⟨e0, e1⟩ := hcs k hlt
        rw [hx] at e0 e1
        have hst := lowTo_succ (c := c) hlt hx
        have hrx := hri _ (List.getElem_mem hlt)
        rw [hx] at hrx
        rw [lowBy_right hrx] at hst
        have hrb : (0 ≤ x ∧ x ≤ 3) ∧ 1 ≤ y ∧ y ≤ 1099511627776 := by
          unfold rightB inB at hrx
          simpa only [Bool.and_eq_true, decide_eq_true_eq] using hrx
        obtain ⟨⟨hx0, hx3⟩, hy1, hy2⟩ := hrb
        obtain ⟨B, HB⟩ : ∃ B, lowTo c l k = B := ⟨_, rfl⟩
        rw [HB] at hat hst
        have hstH : Hid (lowTo c l (k + 1) = setClk B x (min (clk B x) (y - 1))) := hst
        have hgD : Gr wr (wr.alloc (.cells #[.int .i64 x, .int .i64 y] 62)) := (Gr.refl _).alloc _
        have hd0 := (DotAt.new (w := wr) (x := x) (y := y) 62 rfl)
        have hatD : ClkAt (wr.alloc (.cells #[.int .i64 x, .int .i64 y] 62)) w1.heap.size B.c0 B.c1 B.c2 B.c3 := hat.below hgD.below
        have hbD : Below w1.heap.size w1 (wr.alloc (.cells #[.int .i64 x, .int .i64 y] 62)) := hbel.trans (hgD.below.mono hsR)
        have hatH : Hid (ClkAt wr w1.heap.size B.c0 B.c1 B.c2 B.c3) := hat
        clear hcs hx hrx HB hat hst
        obtain ⟨d0, d1, dlt⟩ := (show DotAt _ _ _ _ from hd0)
        obtain ⟨q0, q1, q2, q3, qf, qlt⟩ := (show ClkAt _ _ _ _ _ _ from hatD)
        have h4 : x = 0 ∨ x = 1 ∨ x = 2 ∨ x = 3 := by omega
        rcases h4 with rfl | rfl | rfl | rfl
        · go_wp2_with (first | (go_at_call 52; refine (isNode_any _ _).mono ?_; rintro e w' ⟨rfl, rfl⟩) | fail)
          generalize wr.alloc (.cells #[.int .i64 0, .int .i64 y] 62) = wD at hatD hbD hd0 d0 d1 dlt q0 q1 q2 q3 qf qlt ⊢
          by_cases hgt : B.c0 ≤ y - 1
          · have hmx : min B.c0 (y - 1) = B.c0 := by omega
            have h5H : Hid (ClkAt ((wD.setCell ⟨w1.heap.size, 0, none⟩ (.int .i64 B.c0)).drew) w1.heap.size (lowTo c l (k + 1)).c0 (lowTo c l (k + 1)).c1 (lowTo c l (k + 1)).c2 (lowTo c l (k + 1)).c3) := by
              show ClkAt _ _ _ _ _ _
              have h5 := (hatD.set 0 B.c0).below (Below.refl _ _).drew
              rw [hstH.out]
              simpa [setClk, clk, hmx] using h5
            have hb5 : Hid (Below w1.heap.size w1 ((wD.setCell ⟨w1.heap.size, 0, none⟩ (.int .i64 B.c0)).drew)) := (hbD.setCell (Nat.le_refl _) _).drew
            clear hatD hbD
            go_region
            go_wp2
            go_roundw
            case rel => exact ⟨k + 1, by omega, by go_num, h5H.out, hb5.out⟩
            case measure => simp [intOf]; omega
          · have hmx : min B.c0 (y - 1) = (y - 1) := by omega
            have h5H : Hid (ClkAt ((wD.setCell ⟨w1.heap.size, 0, none⟩ (.int .i64 (y - 1))).drew) w1.heap.size (lowTo c l (k + 1)).c0 (lowTo c l (k + 1)).c1 (lowTo c l (k + 1)).c2 (lowTo c l (k + 1)).c3) := by
              show ClkAt _ _ _ _ _ _
              have h5 := (hatD.set 0 (y - 1)).below (Below.refl _ _).drew
              rw [hstH.out]
              simpa [setClk, clk, hmx] using h5
            have hb5 : Hid (Below w1.heap.size w1 ((wD.setCell ⟨w1.heap.size, 0, none⟩ (.int .i64 (y - 1))).drew)) := (hbD.setCell (Nat.le_refl _) _).drew
            clear hatD hbD
            go_region
            go_wp2
            go_roundw
            case rel => exact ⟨k + 1, by omega, by go_num, h5H.out, hb5.out⟩
            case measure => simp [intOf]; omega
        · go_wp2_with (first | (go_at_call 52; refine (isNode_any _ _).mono ?_; rintro e w' ⟨rfl, rfl⟩) | fail)
          generalize wr.alloc (.cells #[.int .i64 1, .int .i64 y] 62) = wD at hatD hbD hd0 d0 d1 dlt q0 q1 q2 q3 qf qlt ⊢
          by_cases hgt : B.c1 ≤ y - 1
          · have hmx : min B.c1 (y - 1) = B.c1 := by omega
            have h5H : Hid (ClkAt ((wD.setCell ⟨w1.heap.size, 1, none⟩ (.int .i64 B.c1)).drew) w1.heap.size (lowTo c l (k + 1)).c0 (lowTo c l (k + 1)).c1 (lowTo c l (k + 1)).c2 (lowTo c l (k + 1)).c3) := by
              show ClkAt _ _ _ _ _ _
              have h5 := (hatD.set 1 B.c1).below (Below.refl _ _).drew
              rw [hstH.out]
              simpa [setClk, clk, hmx] using h5
            have hb5 : Hid (Below w1.heap.size w1 ((wD.setCell ⟨w1.heap.size, 1, none⟩ (.int .i64 B.c1)).drew)) := (hbD.setCell (Nat.le_refl _) _).drew
            clear hatD hbD
            go_region
            go_wp2
            go_roundw
            case rel => exact ⟨k + 1, by omega, by go_num, h5H.out, hb5.out⟩
            case measure => simp [intOf]; omega
          · have hmx : min B.c1 (y - 1) = (y - 1) := by omega
            have h5H : Hid (ClkAt ((wD.setCell ⟨w1.heap.size, 1, none⟩ (.int .i64 (y - 1))).drew) w1.heap.size (lowTo c l (k + 1)).c0 (lowTo c l (k + 1)).c1 (lowTo c l (k + 1)).c2 (lowTo c l (k + 1)).c3) := by
              show ClkAt _ _ _ _ _ _
              have h5 := (hatD.set 1 (y - 1)).below (Below.refl _ _).drew
              rw [hstH.out]
              simpa [setClk, clk, hmx] using h5
            have hb5 : Hid (Below w1.heap.size w1 ((wD.setCell ⟨w1.heap.size, 1, none⟩ (.int .i64 (y - 1))).drew)) := (hbD.setCell (Nat.le_refl _) _).drew
            clear hatD hbD
            go_region
            go_wp2
            go_roundw
            case rel => exact ⟨k + 1, by omega, by go_num, h5H.out, hb5.out⟩
            case measure => simp [intOf]; omega
        · go_wp2_with (first | (go_at_call 52; refine (isNode_any _ _).mono ?_; rintro e w' ⟨rfl, rfl⟩) | fail)
          generalize wr.alloc (.cells #[.int .i64 2, .int .i64 y] 62) = wD at hatD hbD hd0 d0 d1 dlt q0 q1 q2 q3 qf qlt ⊢
          by_cases hgt : B.c2 ≤ y - 1
          · have hmx : min B.c2 (y - 1) = B.c2 := by omega
            have h5H : Hid (ClkAt ((wD.setCell ⟨w1.heap.size, 2, none⟩ (.int .i64 B.c2)).drew) w1.heap.size (lowTo c l (k + 1)).c0 (lowTo c l (k + 1)).c1 (lowTo c l (k + 1)).c2 (lowTo c l (k + 1)).c3) := by
              show ClkAt _ _ _ _ _ _
              have h5 := (hatD.set 2 B.c2).below (Below.refl _ _).drew
              rw [hstH.out]
              simpa [setClk, clk, hmx] using h5
            have hb5 : Hid (Below w1.heap.size w1 ((wD.setCell ⟨w1.heap.size, 2, none⟩ (.int .i64 B.c2)).drew)) := (hbD.setCell (Nat.le_refl _) _).drew
            clear hatD hbD
            go_region
            go_wp2
            go_roundw
            case rel => exact ⟨k + 1, by omega, by go_num, h5H.out, hb5.out⟩
            case measure => simp [intOf]; omega
          · have hmx : min B.c2 (y - 1) = (y - 1) := by omega
            have h5H : Hid (ClkAt ((wD.setCell ⟨w1.heap.size, 2, none⟩ (.int .i64 (y - 1))).drew) w1.heap.size (lowTo c l (k + 1)).c0 (lowTo c l (k + 1)).c1 (lowTo c l (k + 1)).c2 (lowTo c l (k + 1)).c3) := by
              show ClkAt _ _ _ _ _ _
              have h5 := (hatD.set 2 (y - 1)).below (Below.refl _ _).drew
              rw [hstH.out]
              simpa [setClk, clk, hmx] using h5
            have hb5 : Hid (Below w1.heap.size w1 ((wD.setCell ⟨w1.heap.size, 2, none⟩ (.int .i64 (y - 1))).drew)) := (hbD.setCell (Nat.le_refl _) _).drew
            clear hatD hbD
            go_region
            go_wp2
            go_roundw
            case rel => exact ⟨k + 1, by omega, by go_num, h5H.out, hb5.out⟩
            case measure => simp [intOf]; omega
        · go_wp2_with (first | (go_at_call 52; refine (isNode_any _ _).mono ?_; rintro e w' ⟨rfl, rfl⟩) | fail)
          generalize wr.alloc (.cells #[.int .i64 3, .int .i64 y] 62) = wD at hatD hbD hd0 d0 d1 dlt q0 q1 q2 q3 qf qlt ⊢
          by_cases hgt : B.c3 ≤ y - 1
          · have hmx : min B.c3 (y - 1) = B.c3 := by omega
            have h5H : Hid (ClkAt ((wD.setCell ⟨w1.heap.size, 3, none⟩ (.int .i64 B.c3)).drew) w1.heap.size (lowTo c l (k + 1)).c0 (lowTo c l (k + 1)).c1 (lowTo c l (k + 1)).c2 (lowTo c l (k + 1)).c3) := by
              show ClkAt _ _ _ _ _ _
              have h5 := (hatD.set 3 B.c3).below (Below.refl _ _).drew
              rw [hstH.out]
              simpa [setClk, clk, hmx] using h5
            have hb5 : Hid (Below w1.heap.size w1 ((wD.setCell ⟨w1.heap.size, 3, none⟩ (.int .i64 B.c3)).drew)) := (hbD.setCell (Nat.le_refl _) _).drew
            clear hatD hbD
            go_region
            go_wp2
            go_roundw
            case rel => exact ⟨k + 1, by omega, by go_num, h5H.out, hb5.out⟩
            case measure => simp [intOf]; omega
          · have hmx : min B.c3 (y - 1) = (y - 1) := by omega
            have h5H : Hid (ClkAt ((wD.setCell ⟨w1.heap.size, 3, none⟩ (.int .i64 (y - 1))).drew) w1.heap.size (lowTo c l (k + 1)).c0 (lowTo c l (k + 1)).c1 (lowTo c l (k + 1)).c2 (lowTo c l (k + 1)).c3) := by
              show ClkAt _ _ _ _ _ _
              have h5 := (hatD.set 3 (y - 1)).below (Below.refl _ _).drew
              rw [hstH.out]
              simpa [setClk, clk, hmx] using h5
            have hb5 : Hid (Below w1.heap.size w1 ((wD.setCell ⟨w1.heap.size, 3, none⟩ (.int .i64 (y - 1))).drew)) := (hbD.setCell (Nat.le_refl _) _).drew
            clear hatD hbD
            go_region
            go_wp2
            go_roundw
            case rel => exact ⟨k + 1, by omega, by go_num, h5H.out, hb5.out⟩
            case measure => simp [intOf]; omega
      · have hltz : ¬ (k : Int) < (l.length : Int) := by omega
        have hkl : lowTo c l k = lowC c l := by unfold lowTo lowC; rw [List.take_of_length_le (by omega)]
        rw [hkl] at hat
        have hcR := hcH.out.below hbel
        have hzR := hz1.below hbel
        have hrlR := hrl1.below hbel
        have hbwR : Below w.heap.size w wr := hbw1.trans (hbel.mono hbw1.size)
        have hls : (lowC c l).l = l := lowC_l c l
        have hok := errC_parts heH.out
        have hokL := lowC_ok hok.1 hri
        have hrL : Row wr L (lowC c l).l := by rw [hls]; exact hrlR
        have hLl : (lowC c l).l.length ≤ 400 := by rw [hls]; exact hll
        obtain ⟨c0, c1, c2, c3, c4, clt, crow⟩ := (show CtxAt _ _ _ _ _ from hcR)
        obtain ⟨q0, q1, q2, q3, qf, qlt⟩ := (show ClkAt _ _ _ _ _ _ from hat)
        have hwoH : Hid (woE c l = missE c (lowC c l) ∧ woC c l = if missE c (lowC c l) = 0 then ⟨(lowC c l).c0, (lowC c l).c1, (lowC c l).c2, (lowC c l).c3, missL c (lowC c l)⟩ else zeroC) := by
          have h2 : woE c l = missE c (lowC c l) := by unfold woE; rw [heH.out]; simp
          exact ⟨h2, by unfold woC; rw [h2]⟩
        clear hkl hcH
        obtain ⟨B, HB⟩ : ∃ B, lowC c l = B := ⟨_, rfl⟩
        rw [HB] at hat hls hokL hrL hLl q0 q1 q2 q3 hwoH
        have hms := missing_new c B A L ca cl wr hok.1 hokL hok.2.1 hLl crow hrL
        rw [hls] at hms
        have hmsH : Hid _ := hms
        have hatK : Hid (ClkAt wr w1.heap.size B.c0 B.c1 B.c2 B.c3) := hat
        have HBH : Hid (lowC c l = B) := HB
        clear hms hat crow hrL HB hok hokL hls
        go_wp2_with fail
        refine Calls.mono (show Calls _ _ _ _ _ from hmsH.out) ?_
        rintro e w3 ⟨C, cp, rfl, hrC, hC0, hCb, hb3⟩
        clear hmsH c0 c1 c2 c3 c4 q0 q1 q2 q3 qf
        have hat3 := hatK.out.below hb3
        have hz3 := hzR.below hb3
        have hbw3 : Below w.heap.size w w3 := hbwR.trans (hb3.mono hbwR.size)
        have hz1lt := hz1.lt
        have hCn : Hid (∀ x, C = some x → x.block ≠ w.heap.size + 1) := fun x hx => by have := hCb x hx; have := hbel.size; omega
        have hCb3 : Hid (∀ x, C = some x → w.heap.size ≤ x.block) := fun x hx => Nat.le_trans hbwR.size (hCb x hx)
        obtain ⟨M, HM⟩ : ∃ M, missL c B = M := ⟨_, rfl⟩
        obtain ⟨E3, HE⟩ : ∃ E, missE c B = E := ⟨_, rfl⟩
        rw [HM] at hrC hwoH ⊢
        rw [HE] at hwoH ⊢
        clear HM HE hatK hzR hCb
        by_cases h3 : E3 = 0
        · subst h3
          have hfin : Hid (woE c l = 0 ∧ woC c l = ⟨B.c0, B.c1, B.c2, B.c3, M⟩) := ⟨hwoH.out.1, by rw [hwoH.out.2, if_pos rfl]⟩
          obtain ⟨q0, q1, q2, q3, qf, qlt3⟩ := (show ClkAt _ _ _ _ _ _ from hat3)
          obtain ⟨z0, z1, z2, z3, z4, zf, zlt⟩ := (show ZAt _ _ from hz3)
          have hrCH : Hid (Row w3 C M) := hrC
          have hbw : Hid (Below w.heap.size w w3) := hbw3
          clear hrC hbw3 hwoH
          go_wp2
          rw [hfin.out.1, hfin.out.2]
          have h1 := hCn.out
          exact bodyPost_ret (v := .tuple #[.agg #[.int .i64 B.c0, .int .i64 B.c1, .int .i64 B.c2, .int .i64 B.c3, .slice C M.length cp], .int .i64 0]) (by simp [results, Try.results27, go_sem, z0, z1, z2, z3, z4]) rfl ⟨C, cp, rfl, ((((hrCH.out.setCell _ h1).setCell _ h1).setCell _ h1).setCell _ h1).setCell _ h1, hC0, hCb3.out, below_set5 hbw.out (by omega) _ _ _ _ _⟩
        · have hfin : Hid (woE c l = E3 ∧ woC c l = zeroC) := ⟨hwoH.out.1, by rw [hwoH.out.2, if_neg h3]⟩
          have heb : (E3 != 0) = true := by simpa using h3
          obtain ⟨z0, z1, z2, z3, z4, zf, zlt⟩ := (show ZAt _ _ from hz3)
          have hbw : Hid (Below w.heap.size w w3) := hbw3
          clear hrC hbw3 hwoH h3
          go_wp2
          rw [hfin.out.1, hfin.out.2]
          exact bodyPost_ret (v := .tuple #[.agg #[.int .i64 0, .int .i64 0, .int .i64 0, .int .i64 0, .slice none 0 0], .int .i64 E3]) (by simp [results, Try.results27, go_sem, z0, z1, z2, z3, z4]) rfl ⟨none, 0, rfl, Or.inl rfl, fun _ => rfl, (fun x hx => by cases hx), below_set5 hbw.out (by omega) _ _ _ _ _⟩
  · have hfin : Hid (woE c l = E1 ∧ woC c l = zeroC) := by
      have h2 : woE c l = E1 := by unfold woE; rw [hE1, if_pos h1]
      exact ⟨h2, by unfold woC; rw [h2, if_neg h1]⟩
    have heb : (E1 != 0) = true := by simpa using h1
    clear h1 hE1
    obtain ⟨z0, z1, z2, z3, z4, zf, zlt⟩ := (show ZAt _ _ from hz1)
    have hbw : Hid (Below w.heap.size w w1) := hbw1
    go_wp2
    rw [hfin.out.1, hfin.out.2]
    exact bodyPost_ret (v := .tuple #[.agg #[.int .i64 0, .int .i64 0, .int .i64 0, .int .i64 0, .slice none 0 0], .int .i64 E1]) (by simp [results, Try.results27, go_sem, z0, z1, z2, z3, z4]) rfl ⟨none, 0, rfl, Or.inl rfl, fun _ => rfl, (fun x hx => by cases hx), below_set5 hbw.out (by omega) _ _ _ _ _⟩

end Go.Proofs.Ytjgefnipkaecgac
