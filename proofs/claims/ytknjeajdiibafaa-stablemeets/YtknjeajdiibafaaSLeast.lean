/-
  stable.leastAt: the context whose clock is the least; stable.appendShared: the dots of a node that all have.
-/
import Derived.Test.YtknjeajdiibafaaSBase
namespace Go.Proofs.Ytknjeajdiibafaa
open Go.RowKit Go.Sort

/-- The one with the least clock at a node, among x0 and those of a list. -/
def leastX (x0 : Cx) (n : Int) (l : List Cx) : Cx := l.foldl (fun m y => if clk y.c n < clk m.c n then y else m) x0
theorem leastX_take {x0 : Cx} {n : Int} {l : List Cx} {k : Nat} (h : k < l.length) {y : Cx} (hy : l[k] = y) : leastX x0 n (l.take (k + 1)) = if clk y.c n < clk (leastX x0 n (l.take k)).c n then y else leastX x0 n (l.take k) := by
  unfold leastX
  rw [List.take_succ_eq_append_getElem h, List.foldl_append, hy]
  rfl

/-- Block B holds a context, and may be written. -/
structure CtxW (w : World) (B : Nat) (c : Ctx) (A : Option Addr) (cap : Nat) : Prop where
  at' : CtxAt w B c A cap
  fz : ∀ j, w.frozen? ⟨B, j, none⟩ = false
theorem CtxW.below {w w' : World} {B : Nat} {c : Ctx} {A : Option Addr} {cap : Nat} (h : CtxW w B c A cap) (k : Below w.heap.size w w') : CtxW w' B c A cap := ⟨h.at'.below k, fun j => (k.frozen (p := ⟨B, j, none⟩) h.at'.lt).trans (h.fz j)⟩
theorem CtxW.gr {w w' : World} {B : Nat} {c : Ctx} {A : Option Addr} {cap : Nat} (h : CtxW w B c A cap) (k : Gr w w') : CtxW w' B c A cap := h.below k.below
theorem CtxW.new {w : World} {c : Ctx} {A : Option Addr} {cap : Nat} (T : TypeId) (h : Row w A c.l) {B : Nat} (hB : w.heap.size = B) : CtxW (w.alloc (.cells #[.int .i64 c.c0, .int .i64 c.c1, .int .i64 c.c2, .int .i64 c.c3, .slice A c.l.length cap] T)) B c A cap := by
  refine ⟨CtxAt.new T h hB, fun j => ?_⟩
  subst hB
  exact box1f (Gr.refl _) j
theorem CtxW.set {w : World} {B : Nat} {d : Ctx} {D : Option Addr} {dp : Nat} (h : CtxW w B d D dp) {c : Ctx} {A : Option Addr} {cap : Nat} (hr : Row w A c.l) (hA : ∀ a, A = some a → c.l ≠ [] → a.block ≠ B) :
    CtxW (((((w.setCell ⟨B, 0, none⟩ (.int .i64 c.c0)).setCell ⟨B, 1, none⟩ (.int .i64 c.c1)).setCell ⟨B, 2, none⟩ (.int .i64 c.c2)).setCell ⟨B, 3, none⟩ (.int .i64 c.c3)).setCell ⟨B, 4, none⟩ (.slice A c.l.length cap)) B c A cap := by
  refine ⟨⟨?_, ?_, ?_, ?_, ?_, by simpa [World.setCell] using h.at'.lt, ((((hr.setCell0 _ hA).setCell0 _ hA).setCell0 _ hA).setCell0 _ hA).setCell0 _ hA⟩, fun j => by simp only [World.frozen?_setCell]; exact h.fz j⟩
  · exact cell_set (cell_set (cell_set (cell_set (cell_set h.at'.k0))))
  · exact cell_set (cell_set (cell_set (cell_set (cell_set h.at'.k1))))
  · exact cell_set (cell_set (cell_set (cell_set (cell_set h.at'.k2))))
  · exact cell_set (cell_set (cell_set (cell_set (cell_set h.at'.k3))))
  · exact cell_set (cell_set (cell_set (cell_set (cell_set h.at'.k4))))
theorem ZAt.gr {w w' : World} {B : Nat} (h : ZAt w B) (k : Gr w w') : ZAt w' B := h.below k.below
theorem gr_set5 {a w : World} (h : Gr a w) {B : Nat} (hB : a.heap.size ≤ B) (u0 u1 u2 u3 u4 : Value) : Gr a (((((w.setCell ⟨B, 0, none⟩ u0).setCell ⟨B, 1, none⟩ u1).setCell ⟨B, 2, none⟩ u2).setCell ⟨B, 3, none⟩ u3).setCell ⟨B, 4, none⟩ u4) :=
  ((((h.setCell hB u0).setCell hB u1).setCell hB u2).setCell hB u3).setCell hB u4

set_option maxHeartbeats 4000000 in
theorem leastAt_any (l : List Cx) (A : Option Addr) (cap : Nat) (n : Int) (w : World) (hl : l.length ≤ maxLen) (hpos : 0 < l.length) (h0 : 0 ≤ n) (h4 : n < 4) (hr : Cxs w A l) :
    Calls Try.prog 19 #[.slice A l.length cap, .int .i64 n] w fun e w' => ∃ m : Cx, e = .returned (.agg #[.int .i64 m.c.c0, .int .i64 m.c.c1, .int .i64 m.c.c2, .int .i64 m.c.c3, .slice m.p m.c.l.length m.n]) ∧ m = leastX (l[0]) n l ∧ Gr w w' := by
  unfold maxLen at hl
  have hposz : (0 : Int) < (l.length : Int) := by omega
  have hrH : Hid (Cxs w A l) := hr
  have hltH : Hid (CxsLt w.heap.size A l) := hr.lt
  have hg1 : Gr w (w.alloc (.cells #[.int .i64 0, .int .i64 0, .int .i64 0, .int .i64 0, .slice none 0 0] 25)) := (Gr.refl _).alloc _
  obtain ⟨b, off, hA, hb, hcs⟩ := (hr.gr hg1).at hpos
  obtain ⟨hrow0, hlen0, _⟩ := (hr.gr hg1).each l[0] (List.getElem_mem hpos)
  obtain ⟨x0, hx0⟩ : ∃ x, l[0] = x := ⟨_, rfl⟩
  obtain ⟨e0, e1, e2, e3, e4⟩ := hcs 0 hpos
  have hin0 : x0 ∈ l := by rw [← hx0]; exact List.getElem_mem hpos
  rw [hx0] at e0 e1 e2 e3 e4 hrow0 hlen0
  rw [hx0]
  rw [Nat.zero_mul, Nat.add_zero] at e0 e1 e2 e3 e4
  have hinH : Hid (x0 ∈ l) := hin0
  have hC0 := CtxW.new (A := x0.p) (cap := x0.n) (c := x0.c) 25 hrow0 (B := w.heap.size + 1) (by simp)
  have hZ0 := (ZAt.new w 25 rfl).gr ((Gr.refl _).alloc (.cells #[.int .i64 x0.c.c0, .int .i64 x0.c.c1, .int .i64 x0.c.c2, .int .i64 x0.c.c3, .slice x0.p x0.c.l.length x0.n] 25))
  have hg2 : Gr w ((w.alloc (.cells #[.int .i64 0, .int .i64 0, .int .i64 0, .int .i64 0, .slice none 0 0] 25)).alloc (.cells #[.int .i64 x0.c.c0, .int .i64 x0.c.c1, .int .i64 x0.c.c2, .int .i64 x0.c.c3, .slice x0.p x0.c.l.length x0.n] 25)) := hg1.alloc _
  clear hcs hx0 hr hin0 hrow0 hlen0 hg1
  subst hA
  go_enter Try.func19, Try.ntmps19
  go_wp2
  clear e0 e1 e2 e3 e4 hb
  go_loopw [13] (fun i wr => ∃ (k : Nat) (m : Cx), k ≤ l.length ∧ i = .int .i64 k ∧ Hid (m ∈ l ∧ m = leastX x0 n (l.take k)) ∧ CtxW wr (w.heap.size + 1) m.c m.p m.n ∧ ZAt wr w.heap.size ∧ Gr w wr) (fun i _ => l.length - (intOf i).toNat)
  case atStart => exact ⟨0, x0, by omega, rfl, ⟨hinH.out, rfl⟩, hC0, hZ0, hg2⟩
  case round =>
    clear hC0 hZ0 hg2
    obtain ⟨k, m, hk, rfl, hm, hC, hZ, hgr⟩ := hrel
    by_cases hlt : k < l.length
    · have hltz : (k : Int) < (l.length : Int) := by omega
      obtain ⟨b', off', hA, hb, hcs⟩ := (hrH.out.gr hgr).at hlt
      injection hA with hA
      injection hA with hA1 hA2
      subst hA1 hA2
      obtain ⟨hrow, hlen, hnil⟩ := (hrH.out.gr hgr).each l[k] (List.getElem_mem hlt)
      have hlt1 := hltH.out.2 l[k] (List.getElem_mem hlt)
      obtain ⟨y, hx⟩ : ∃ y, l[k] = y := ⟨_, rfl⟩
      have hyin : Hid (y ∈ l) := by show y ∈ l; rw [← hx]; exact List.getElem_mem hlt
      obtain ⟨e0, e1, e2, e3, e4⟩ := hcs k hlt
      rw [hx] at e0 e1 e2 e3 e4 hrow hlt1
      have hst := leastX_take (x0 := x0) (n := n) hlt hx
      have hmH : Hid (m = leastX x0 n (l.take k)) := hm.out.2
      rw [← hm.out.2] at hst
      have hstH : Hid (leastX x0 n (l.take (k + 1)) = if clk y.c n < clk m.c n then y else m) := hst
      clear hcs hx hst hlen hnil
      have hgX : Gr wr (wr.alloc (.cells #[.int .i64 y.c.c0, .int .i64 y.c.c1, .int .i64 y.c.c2, .int .i64 y.c.c3, .slice y.p y.c.l.length y.n] 25)) := (Gr.refl _).alloc _
      have hCX := hC.gr hgX
      have hZX := hZ.gr hgX
      have hY : CtxAt (wr.alloc (.cells #[.int .i64 y.c.c0, .int .i64 y.c.c1, .int .i64 y.c.c2, .int .i64 y.c.c3, .slice y.p y.c.l.length y.n] 25)) wr.heap.size y.c y.p y.n := CtxAt.new 25 hrow rfl
      have km := ctxClk hCX.at' h0 h4
      have ky := ctxClk hY h0 h4
      have hgw := hgr.trans hgX
      by_cases hc : clk y.c n < clk m.c n
      · have hst : Hid (leastX x0 n (l.take (k + 1)) = y) := by show _ = _; rw [hstH.out, if_pos hc]
        clear hstH hC hZ hgr
        go_wp2
        go_quiet (fail)
        have hgq : Gr (wr.alloc (.cells #[.int .i64 y.c.c0, .int .i64 y.c.c1, .int .i64 y.c.c2, .int .i64 y.c.c3, .slice y.p y.c.l.length y.n] 25)) ((wr.alloc (.cells #[.int .i64 y.c.c0, .int .i64 y.c.c1, .int .i64 y.c.c2, .int .i64 y.c.c3, .slice y.p y.c.l.length y.n] 25)).drewN nq) := (Gr.refl _).drewN nq
        have hCq := hCX.gr hgq
        have hZq := hZX.gr hgq
        have hgwq := hgw.trans hgq
        obtain ⟨⟨a0, a1, a2, a3, a4, alt, arow⟩, af⟩ := hCq
        obtain ⟨y0, y1, y2, y3, y4, ylt, yrow⟩ := hY.gr hgq
        go_wp2
        go_roundw
        case rel =>
          refine ⟨k + 1, y, by omega, by go_num, ⟨hyin.out, hst.out.symm⟩, ?_, ?_, ?_⟩
          · exact CtxW.set ⟨⟨a0, a1, a2, a3, a4, alt, arow⟩, af⟩ yrow fun a h1 h2 => by have := hlt1 a h1 h2; omega
          · exact hZq.other5 _ _ _ _ _ (by omega)
          · exact gr_set5 hgwq (by omega) _ _ _ _ _
        case measure => simp [intOf]; omega
      · have hst : Hid (leastX x0 n (l.take (k + 1)) = m) := by show _ = _; rw [hstH.out, if_neg hc]
        clear hstH hC hZ hgr
        go_wp2
        go_quiet (fail)
        go_wp2
        go_roundw
        case rel => exact ⟨k + 1, m, by omega, by go_num, ⟨hm.out.1, hst.out.symm⟩, hCX.gr ((Gr.refl _).drewN nq), hZX.gr ((Gr.refl _).drewN nq), hgw.trans ((Gr.refl _).drewN nq)⟩
        case measure => simp [intOf]; omega
    · have hltz : ¬ (k : Int) < (l.length : Int) := by omega
      have hfin : Hid (m = leastX x0 n l) := by
        have := hm.out.2
        rw [List.take_of_length_le (by omega)] at this
        exact this
      obtain ⟨⟨a0, a1, a2, a3, a4, alt, arow⟩, af⟩ := hC
      obtain ⟨r0, r1, r2, r3, r4, rf, rlt⟩ := hZ
      go_wp2
      exact bodyPost_ret (v := .agg #[.int .i64 m.c.c0, .int .i64 m.c.c1, .int .i64 m.c.c2, .int .i64 m.c.c3, .slice m.p m.c.l.length m.n]) (by simp [results, Try.results19, go_sem, r0, r1, r2, r3, r4]) rfl ⟨m, rfl, hfin.out, gr_set5 hgr (Nat.le_refl _) _ _ _ _ _⟩

/-- A dot of the node, that all have. -/
def shP (l : List Cx) (n : Int) (x : Int × Int) : Bool := decide (x.1 = n) && allB l x
theorem filterD_take {p : Int × Int → Bool} {l : List (Int × Int)} {k : Nat} (h : k < l.length) {x : Int × Int} (hx : l[k] = x) : (l.take (k + 1)).filter p = (l.take k).filter p ++ (if p x then [x] else []) := by
  rw [List.take_succ_eq_append_getElem h, List.filter_append, hx]
  cases hq : p x <;> simp [hq]

set_option maxHeartbeats 4000000 in
theorem appShared_any (v : Value) (s ds : List (Int × Int)) (D : Option Addr) (cd : Nat) (n : Int) (l : List Cx) (A : Option Addr) (cap : Nat) (base : Nat) (w : World) (hl : l.length ≤ maxLen) (hsl : s.length ≤ 2000) (hdl : ds.length ≤ 400)
    (hr : Cxs w A l) (hlt : CxsLt base A l) (hd : Row w D ds) (hdb : ∀ a, D = some a → ds ≠ [] → a.block < base) (hov : Own w base v s) (hbs : base ≤ w.heap.size) :
    Calls Try.prog 20 #[v, .slice D ds.length cd, .int .i64 n, .slice A l.length cap] w fun e w' => ∃ v', e = .returned v' ∧ Own w' base v' (s ++ ds.filter (shP l n)) ∧ Below base w w' := by
  have hH : Hid (Cxs w A l ∧ CxsLt base A l ∧ Row w D ds ∧ l.length ≤ maxLen) := ⟨hr, hlt, hd, hl⟩
  clear hr hlt hd hl
  obtain ⟨A0, cap0, rfl, _, _, _⟩ := hov.row
  go_enter Try.func20, Try.ntmps20
  go_wp2
  go_loopw [0, 13] (fun v i wr => ∃ (V : Value) (m : List (Int × Int)) (k : Nat), v = V ∧ k ≤ ds.length ∧ i = .int .i64 k ∧ Hid (m = s ++ (ds.take k).filter (shP l n)) ∧ m.length ≤ 2000 + k ∧ Own wr base V m ∧ Below base w wr ∧ base ≤ wr.heap.size) (fun _ i _ => ds.length - (intOf i).toNat)
  case atStart => exact ⟨_, s, 0, rfl, by omega, rfl, by show s = _; simp, by omega, hov, Below.refl _ _, hbs⟩
  case round =>
    obtain ⟨V, m, k, rfl, hk, rfl, hm, hml, hown, hbel, hbs'⟩ := hrel
    clear hov
    by_cases hlt : k < ds.length
    · have hltz : (k : Int) < (ds.length : Int) := by omega
      obtain ⟨b, off, rfl, hb, hcs⟩ := (hH.out.2.2.1.belowB hdb hbel).at hlt
      obtain ⟨x, y, hx⟩ : ∃ x y, ds[k] = (x, y) := ⟨_, _, rfl⟩
      have e0 := (hcs k hlt).1
      have e1 := (hcs k hlt).2
      rw [hx] at e0 e1
      have hst := filterD_take (p := shP l n) hlt hx
      have hstH : Hid (s ++ (ds.take (k + 1)).filter (shP l n) = m ++ if shP l n (x, y) then [(x, y)] else []) := by show _ = _; rw [hst, hm.out, List.append_assoc]
      clear hcs hx hst hm
      have hgX : Gr wr (wr.alloc (.cells #[.int .i64 x, .int .i64 y] 35)) := (Gr.refl _).alloc _
      obtain ⟨A1, cap1, rfl, hA1, _, _⟩ := hown.row
      have hownH : Hid (Own wr base (.slice A1 m.length cap1) m) := hown
      clear hown
      by_cases hn : x = n
      · have hnb : (x == n) = true := by simp [hn]
        have hck := allHave_any l A cap (x, y) (wr.alloc (.cells #[.int .i64 x, .int .i64 y] 35)) hH.out.2.2.2 ((hH.out.1.belowB hH.out.2.1 hbel).gr hgX)
        have hckH : Hid _ := hck
        clear hck
        have hnH : Hid (x = n) := hn
        clear hn
        go_wp2_with fail
        refine Calls.mono (show Calls _ _ _ _ _ from hckH.out) ?_
        rintro e w1 ⟨rfl, hg1⟩
        clear hckH
        have d0 := box1 hg1 (j := 0) rfl
        have d1 := box1 hg1 (j := 1) rfl
        have hgw := hgX.trans hg1
        cases ha : allB l (x, y)
        · have hnx : Hid (m = s ++ (ds.take (k + 1)).filter (shP l n)) := by show _ = _; rw [hstH.out]; simp [shP, ha]
          go_wp2
          go_roundw
          case rel => exact ⟨_, m, k + 1, rfl, by omega, by go_num, hnx, by omega, hownH.out.gr hgw, hbel.trans (hgw.below.mono hbs'), Nat.le_trans hbs' hgw.size⟩
          case measure => simp [intOf]; omega
        · have hnx : Hid (m ++ [(x, y)] = s ++ (ds.take (k + 1)).filter (shP l n)) := by show _ = _; rw [hstH.out, show shP l n (x, y) = true by unfold shP; rw [ha, hnH.out]; simp]; rfl
          have hgA : Gr wr (w1.alloc (.cells #[.int .i64 x, .int .i64 y] 35)) := hgw.alloc _
          go_wp2_with (at_builtin; refine wpList_append_dots _ rfl (.tmp 26) (.tmp 28) rfl base (.slice A1 m.length cap1) m [(x, y)] (some ⟨w1.heap.size, 0, none⟩) 1 rfl rfl ?ho ?hr (fun h => by cases h) ?hb ?hs ?_)
          case ho => exact hownH.out.gr hgA
          case hr => exact rowNew rfl x y _
          case hb => simp; omega
          case hs => exact Nat.le_trans hbs' hgA.size
          intro v1 w2 hown1 hgr1 _
          obtain ⟨A2, cap2, rfl, _, _, _⟩ := hown1.row
          have hb1 := Own.grown_below (hownH.out.gr hgA) hgr1 (Nat.le_trans hbs' hgA.size)
          go_wp2
          go_roundw
          case rel => exact ⟨_, m ++ [(x, y)], k + 1, rfl, by omega, by go_num, hnx, by simp; omega, by simpa using hown1, (hbel.trans (hgA.below.mono hbs')).trans hb1, Nat.le_trans (Nat.le_trans hbs' hgA.size) hb1.size⟩
          case measure => simp [intOf]; omega
      · have hnb : (x == n) = false := by simp [hn]
        have hnx : Hid (m = s ++ (ds.take (k + 1)).filter (shP l n)) := by show _ = _; rw [hstH.out]; simp [shP, hn]
        clear hn
        go_wp2
        go_roundw
        case rel => exact ⟨_, m, k + 1, rfl, by omega, by go_num, hnx, by omega, hownH.out.gr hgX, hbel.trans (hgX.below.mono hbs'), Nat.le_trans hbs' hgX.size⟩
        case measure => simp [intOf]; omega
    · have hltz : ¬ (k : Int) < (ds.length : Int) := by omega
      have hfin : Hid (s ++ ds.filter (shP l n) = m) := by show _ = _; rw [hm.out, List.take_of_length_le (by omega)]
      go_wp2
      go_ret
      rw [hfin.out]
      exact ⟨_, rfl, hown, hbel⟩

end Go.Proofs.Ytknjeajdiibafaa
