/-
  viewref.Packed: what it makes of a clock and of right dots: dot by dot, the least that is left.
-/
import Derived.Test.YtknjeajdiibafaaSortMath
import Derived.Test.YtknjeajdiibafaaRHas
namespace Go.Proofs.Ytknjeajdiibafaa
open Go.RowKit Go.Sort

/-- The place of the least dot among the first i + 1 ones. -/
def lix (l : List (Int × Int)) : Nat → Nat
  | 0 => 0
  | i + 1 => if befB (l.getD (i + 1) (0, 0)) (l.getD (lix l i) (0, 0)) = true then i + 1 else lix l i
theorem lix_le (l : List (Int × Int)) : ∀ i, lix l i ≤ i
  | 0 => Nat.le_refl _
  | i + 1 => by
    unfold lix
    split
    · exact Nat.le_refl _
    · exact Nat.le_succ_of_le (lix_le l i)
theorem lix_yes {l : List (Int × Int)} {i : Nat} (h : i + 1 < l.length) (h' : lix l i < l.length) (hb : befB l[i + 1] l[lix l i] = true) : lix l (i + 1) = i + 1 := by
  show (if _ then _ else _) = _
  rw [if_pos (by simpa [h, h'] using hb)]
theorem lix_no {l : List (Int × Int)} {i : Nat} (h : i + 1 < l.length) (h' : lix l i < l.length) (hb : befB l[i + 1] l[lix l i] = false) : lix l (i + 1) = lix l i := by
  show (if _ then _ else _) = _
  rw [if_neg (by simp [h, h', hb])]

/-- What Packed makes of n dots. -/
def packN : Nat → Ctx → List (Int × Int) → Ctx
  | 0, c, _ => c
  | n + 1, c, l => packN n (pstep c (l.getD (lix l n) (0, 0))) (l.eraseIdx (lix l n))

/-- A slice's length. -/
def lenV : Value → Nat | .slice _ n _ => n | _ => 0

/-- Between two rounds: what is left, and the context so far. -/
structure PK (W wr : World) (B : Nat) (Al : Option Addr) (capl : Nat) (l : List (Int × Int)) (c : Ctx) : Prop where
  row : Row wr Al l
  cap : l.length ≤ capl
  nil : Al = none → capl = 0
  cb : CB wr B (B + 1) c
  apart : ∀ v a, wr.cell? ⟨B, 4, none⟩ = some v → Al = some a → v.ownBlock ≠ some a.block
  blk : ∀ a, Al = some a → B < a.block ∧ a.block < wr.heap.size
  bel : Below B W wr

theorem PK.gr {W wr w' : World} {B : Nat} {Al : Option Addr} {capl : Nat} {l : List (Int × Int)} {c : Ctx} (h : PK W wr B Al capl l c) (k : Gr wr w') : PK W w' B Al capl l c where
  row := h.row.gr k
  cap := h.cap
  nil := h.nil
  cb := h.cb.gr k
  apart v a hv ha := h.apart v a (by rw [← k.cell (p := ⟨B, 4, none⟩) h.cb.lt]; exact hv) ha
  blk a ha := ⟨(h.blk a ha).1, Nat.lt_of_lt_of_le (h.blk a ha).2 k.size⟩
  bel := h.bel.trans (k.below.mono (Nat.le_of_lt h.cb.lt))

theorem PK.setClk {W wr : World} {B : Nat} {Al : Option Addr} {capl : Nat} {l : List (Int × Int)} {c : Ctx} (h : PK W wr B Al capl l c) {n : Int} (h0 : 0 ≤ n) (h4 : n < 4) (s : Int) : PK W (wr.setCell ⟨B, n.toNat, none⟩ (.int .i64 s)) B Al capl l (setClk c n s) where
  row := h.row.setCell _ fun a ha => by have := (h.blk a ha).1; omega
  cap := h.cap
  nil := h.nil
  cb := h.cb.setClk h0 h4 s
  apart v a hv ha := by
    refine h.apart v a ?_ ha
    rw [← hv, World.cell?_setCell_other _ _ _ _ (by intro e; injection e with e1 e2; omega)]
  blk a ha := ⟨(h.blk a ha).1, by simpa [World.setCell] using (h.blk a ha).2⟩
  bel := h.bel.setCell (Nat.le_refl _) _

theorem PK.setL {W wr w0 w1 : World} {B : Nat} {Al : Option Addr} {capl : Nat} {l : List (Int × Int)} {c : Ctx} (h : PK W wr B Al capl l c) (hg : Gr wr w0) {v v' : Value} (hv : wr.cell? ⟨B, 4, none⟩ = some v) {m : List (Int × Int)} (ho : Own w1 (B + 1) v' m)
    (hgr : w0.grownBy w1 v.ownBlock) (hb : Below (B + 1) w0 w1) {H : Nat} (hH : w0.heap.size = H) (hat : v'.ownBlock = v.ownBlock ∨ v'.ownBlock = some H) : PK W (w1.setCell ⟨B, 4, none⟩ v') B Al capl l { c with l := m } := by
  subst hH
  have h0 := h.gr hg
  have hv0 := (hg.cell (p := ⟨B, 4, none⟩) h.cb.lt).trans hv
  have e4 := (hb.cell (p := ⟨B, 4, none⟩) (Nat.lt_succ_self B)).trans hv0
  have hne : ∀ a, Al = some a → a.block ≠ B := fun a ha => by have := (h.blk a ha).1; omega
  have hrow1 : Row w1 Al l := by
    rcases h0.row with hr | ⟨b, off, hA, hbs, hc⟩
    · exact Or.inl hr
    · have hap := h0.apart v _ hv0 hA
      have hcell : ∀ p : Addr, p.block = b → w1.cell? p = w0.cell? p := fun p hp => World.cell?_of_block (w := w0) (by rw [hp]; exact hgr.block b hbs (fun e => hap e.symm))
      exact Or.inr ⟨b, off, hA, Nat.lt_of_lt_of_le hbs hgr.size, fun j hj => ⟨(hcell ⟨b, off + j * 2, none⟩ rfl).trans (hc j hj).1, (hcell ⟨b, off + j * 2 + 1, none⟩ rfl).trans (hc j hj).2⟩⟩
  refine ⟨hrow1.setCell _ hne, h.cap, h.nil, h0.cb.setL hb ho, ?_, ?_, ?_⟩
  · intro u a hu ha
    rw [World.cell?_setCell_same _ _ _ e4] at hu
    obtain rfl := Option.some.inj hu
    have hap := h0.apart v a hv0 ha
    rcases hat with hat | hat
    · rw [hat]; exact hap
    · rw [hat]
      intro e
      have := (h0.blk a ha).2
      injection e with e
      omega
  · intro a ha
    refine ⟨(h.blk a ha).1, ?_⟩
    have := (h0.blk a ha).2
    have := hgr.size
    simp only [World.setCell, Array.size_modify]
    omega
  · exact (h0.bel.trans (hb.mono (by omega))).setCell (Nat.le_refl _) _

theorem packN_step {c : Ctx} {l : List (Int × Int)} {K : Nat} (hn : 0 < l.length) (hK : lix l (l.length - 1) = K) (hKn : K < l.length) {x : Int × Int} (hx : l[K] = x) : packN l.length c l = packN (l.eraseIdx K).length (pstep c x) (l.eraseIdx K) := by
  obtain ⟨n, hn'⟩ : ∃ n, l.length = n + 1 := ⟨l.length - 1, by omega⟩
  have hlen : (l.eraseIdx K).length = n := by rw [List.length_eraseIdx, if_pos hKn]; omega
  rw [hlen, hn']
  rw [hn', Nat.add_sub_cancel] at hK
  show packN n (pstep c (l.getD (lix l n) (0, 0))) (l.eraseIdx (lix l n)) = _
  rw [hK]
  have : l.getD K (0, 0) = x := by rw [← hx]; simp [hKn]
  rw [this]
theorem pstep_clk {c : Ctx} {x : Int × Int} (hc : okClk c = true) (hx : rightB x = true) : okClk (pstep c x) = true := by
  have hn := rightB_node hx
  unfold pstep
  split
  · exact hc
  · split
    · refine okClk_of fun a h0 h4 => ?_
      rw [clk_setClk c x.1 x.2 a hn.1 hn.2.1 h0 h4]
      have := clk_of_ok hc a h0 h4
      split <;> simp [inB] <;> omega
    · exact hc
theorem pstep_len (c : Ctx) (x : Int × Int) : (pstep c x).l.length ≤ c.l.length + 1 := by
  unfold pstep
  split
  · omega
  · split
    · rw [setClk_l]; omega
    · simp

set_option maxHeartbeats 4000000 in
theorem packed_any (c : Ctx) (l : List (Int × Int)) (A : Option Addr) (cap : Nat) (w : World) (hc0 : c.l = []) (hok : okClk c = true) (hl : l.length ≤ 1600) (hri : ∀ x ∈ l, rightB x = true) (hr : Row w A l) (hA : A = none → cap = 0) :
    Calls Try.prog 23 #[.agg #[.int .i64 c.c0, .int .i64 c.c1, .int .i64 c.c2, .int .i64 c.c3], .slice A l.length cap] w fun e w' => ∃ C cp, e = .returned (.agg #[.int .i64 (packN l.length c l).c0, .int .i64 (packN l.length c l).c1, .int .i64 (packN l.length c l).c2, .int .i64 (packN l.length c l).c3, .slice C (packN l.length c l).l.length cp]) ∧ Row w' C (packN l.length c l).l ∧ (C = none → cp = 0) ∧ (∀ a, C = some a → w.heap.size ≤ a.block) ∧ Below w.heap.size w w' := by
  have hH : Hid (c.l = [] ∧ okClk c = true ∧ (∀ x ∈ l, rightB x = true)) := ⟨hc0, hok, hri⟩
  clear hc0 hok hri
  have mixed : Try.prog.follows .mixedOrders = true := by kernel_rfl
  have hg0 : Gr w (((w.alloc (.cells #[.int .i64 c.c0, .int .i64 c.c1, .int .i64 c.c2, .int .i64 c.c3] 22)).alloc (.cells #[.int .i64 0, .int .i64 0, .int .i64 0, .int .i64 0, .slice none 0 0] 25)).alloc (.cells #[.int .i64 c.c0, .int .i64 c.c1, .int .i64 c.c2, .int .i64 c.c3, .slice none 0 0] 25)) := ((((Gr.refl w).alloc _).alloc _).alloc _)
  go_enter Try.func23, Try.ntmps23
  go_wp2_with (at_builtin; refine wpList_append_dots _ rfl _ (.tmp 12) rfl (w.heap.size + 1 + 1 + 1) (.slice none 0 0) [] l A cap rfl rfl (Own.nil _ _) ?hr hA ?hb ?hs ?_)
  case hr => exact hr.gr hg0
  case hb => simp; omega
  case hs => simp
  intro vl w1 hownl hgrl _
  change Own w1 _ vl l at hownl
  have hcb : CB (((w.alloc (.cells #[.int .i64 c.c0, .int .i64 c.c1, .int .i64 c.c2, .int .i64 c.c3] 22)).alloc (.cells #[.int .i64 0, .int .i64 0, .int .i64 0, .int .i64 0, .slice none 0 0] 25)).alloc (.cells #[.int .i64 c.c0, .int .i64 c.c1, .int .i64 c.c2, .int .i64 c.c3, .slice none 0 0] 25)) (w.heap.size + 1 + 1) (w.heap.size + 1 + 1 + 1) c := by
    have := CB.start ((w.alloc (.cells #[.int .i64 c.c0, .int .i64 c.c1, .int .i64 c.c2, .int .i64 c.c3] 22)).alloc (.cells #[.int .i64 0, .int .i64 0, .int .i64 0, .int .i64 0, .slice none 0 0] 25)) hH.out.1 25
    simpa using this
  have hbl : Below (((w.alloc (.cells #[.int .i64 c.c0, .int .i64 c.c1, .int .i64 c.c2, .int .i64 c.c3] 22)).alloc (.cells #[.int .i64 0, .int .i64 0, .int .i64 0, .int .i64 0, .slice none 0 0] 25)).alloc (.cells #[.int .i64 c.c0, .int .i64 c.c1, .int .i64 c.c2, .int .i64 c.c3, .slice none 0 0] 25)).heap.size (((w.alloc (.cells #[.int .i64 c.c0, .int .i64 c.c1, .int .i64 c.c2, .int .i64 c.c3] 22)).alloc (.cells #[.int .i64 0, .int .i64 0, .int .i64 0, .int .i64 0, .slice none 0 0] 25)).alloc (.cells #[.int .i64 c.c0, .int .i64 c.c1, .int .i64 c.c2, .int .i64 c.c3, .slice none 0 0] 25)) w1 := (Below.refl _ _).grown hgrl (Nat.le_refl _) (fun k e => by cases e)
  have hcb1 := hcb.below hbl
  obtain ⟨Al, capl, rfl, hAl, hrl, hcapl, hbll⟩ := hownl.full
  go_wp2
  go_loopw [6] (fun v wr => ∃ Al capl l' c', v = .slice Al l'.length capl ∧ l'.length ≤ 1600 ∧ PK ((w.alloc (.cells #[.int .i64 c.c0, .int .i64 c.c1, .int .i64 c.c2, .int .i64 c.c3] 22)).alloc (.cells #[.int .i64 0, .int .i64 0, .int .i64 0, .int .i64 0, .slice none 0 0] 25)) wr (w.heap.size + 1 + 1) Al capl l' c' ∧ Hid (packN l'.length c' l' = packN l.length c l ∧ okClk c' = true ∧ (∀ x ∈ l', rightB x = true) ∧ c'.l.length + l'.length ≤ 1600)) (fun v _ => lenV v)
  case atStart =>
    refine ⟨Al, capl, l, c, rfl, hl, ⟨hrl, hcapl, hAl, hcb1, ?_, ?_, ?_⟩, rfl, hH.out.2.1, hH.out.2.2, by rw [hH.out.1]; simpa using hl⟩
    · intro v a hv _
      have h4 := (hbl.cell (p := ⟨w.heap.size + 1 + 1, 4, none⟩) (by simp)).symm.trans hv
      have : v = .slice none 0 0 := by
        have h5 : ((((w.alloc (.cells #[.int .i64 c.c0, .int .i64 c.c1, .int .i64 c.c2, .int .i64 c.c3] 22)).alloc (.cells #[.int .i64 0, .int .i64 0, .int .i64 0, .int .i64 0, .slice none 0 0] 25)).alloc (.cells #[.int .i64 c.c0, .int .i64 c.c1, .int .i64 c.c2, .int .i64 c.c3, .slice none 0 0] 25))).cell? ⟨w.heap.size + 1 + 1, 4, none⟩ = some (.slice none 0 0) := by
          have := box1 (Gr.refl (((w.alloc (.cells #[.int .i64 c.c0, .int .i64 c.c1, .int .i64 c.c2, .int .i64 c.c3] 22)).alloc (.cells #[.int .i64 0, .int .i64 0, .int .i64 0, .int .i64 0, .slice none 0 0] 25)).alloc (.cells #[.int .i64 c.c0, .int .i64 c.c1, .int .i64 c.c2, .int .i64 c.c3, .slice none 0 0] 25))) (j := 4) rfl
          simpa using this
        rw [h5] at h4
        exact (Option.some.inj h4).symm
      rw [this]; simp [Value.ownBlock]
    · intro a ha
      exact ⟨by have := (hbll a ha).1; omega, (hbll a ha).2.1⟩
    · exact ((Below.refl _ _).alloc (by simp) _).trans (hbl.mono (by simp))
  case round =>
    obtain ⟨Ar, capr, lr, cr, rfl, h1600, hpk, hpr⟩ := hrel
    clear hrl hAl hcapl hbll hcb1 hcb hgrl hbl hg0 hownl
    rcases Nat.eq_zero_or_pos lr.length with h0 | hpos
    · obtain rfl : lr = [] := List.eq_nil_of_length_eq_zero h0
      have HF : Hid (packN l.length c l = cr) := hpr.out.1.symm
      obtain ⟨v, k0, k1, k2, k3, k4, hov, hfz, hBB, hBs⟩ := hpk.cb
      obtain ⟨C, cp, rfl, hC, hrowC, hcC, hbC⟩ := hov.full
      have hbel := hpk.bel
      have r0 := (hbel.cell (p := ⟨w.heap.size + 1, 0, none⟩) (by simp)).trans (show _ = some (.int .i64 0) by go_simp)
      have r1 := (hbel.cell (p := ⟨w.heap.size + 1, 1, none⟩) (by simp)).trans (show _ = some (.int .i64 0) by go_simp)
      have r2 := (hbel.cell (p := ⟨w.heap.size + 1, 2, none⟩) (by simp)).trans (show _ = some (.int .i64 0) by go_simp)
      have r3 := (hbel.cell (p := ⟨w.heap.size + 1, 3, none⟩) (by simp)).trans (show _ = some (.int .i64 0) by go_simp)
      have r4 := (hbel.cell (p := ⟨w.heap.size + 1, 4, none⟩) (by simp)).trans (show _ = some (.slice none 0 0) by go_simp)
      have rf : ∀ j, wr.frozen? ⟨w.heap.size + 1, j, none⟩ = false := fun j => (hbel.frozen (p := ⟨w.heap.size + 1, j, none⟩) (by simp)).trans (by simp)
      have hbw : Hid (Below w.heap.size w wr) := (((Below.refl _ w).alloc (Nat.le_refl _) _).alloc (by simp) _).trans (hbel.mono (by omega))
      have hCn : ∀ a, C = some a → a.block ≠ w.heap.size + 1 := fun a ha => by have := (hbC a ha).1; omega
      clear hov hfz
      go_wp2
      rw [HF.out]
      refine bodyPost_ret (v := .agg #[.int .i64 cr.c0, .int .i64 cr.c1, .int .i64 cr.c2, .int .i64 cr.c3, .slice C cr.l.length cp]) (by simp [results, Try.results23, go_sem, r0, r1, r2, r3, r4]) rfl ⟨C, cp, rfl, ?_, hC, fun a ha => by have := (hbC a ha).1; omega, ?_⟩
      · exact ((((hrowC.setCell _ hCn).setCell _ hCn).setCell _ hCn).setCell _ hCn).setCell _ hCn
      · exact ((((hbw.out.setCell (by simp) _).setCell (by simp) _).setCell (by simp) _).setCell (by simp) _).setCell (by simp) _
    · have hposz : (0 : Int) < (lr.length : Int) := by omega
      obtain ⟨bl, ofl, rfl, hbl, hcs⟩ := hpk.row.at hpos
      have hcsH : Hid (∀ j (h : j < lr.length), _) := hcs
      clear hcs
      go_wp2
      go_loopw [7, 8] (fun kv iv wi => ∃ i : Nat, i + 1 ≤ lr.length ∧ iv = .int .i64 (i + 1 : Nat) ∧ kv = .int .i64 (lix lr i : Nat) ∧ Gr wr wi) (fun _ iv _ => lr.length - (intOf iv).toNat)
      case atStart => exact ⟨0, hpos, rfl, rfl, Gr.refl _⟩
      case round =>
        rename World => wi
        obtain ⟨i, hi, rfl, rfl, hgi⟩ := hrel
        have hkl := lix_le lr i
        have hkn : lix lr i < lr.length := by omega
        obtain ⟨xk, yk, hxk⟩ : ∃ x y, lr[lix lr i] = (x, y) := ⟨_, _, rfl⟩
        have k0 := (hcsH.out (lix lr i) hkn).1
        have k1 := (hcsH.out (lix lr i) hkn).2
        rw [hxk] at k0 k1
        have g0 := hgi.cellG (a := ⟨bl, ofl + lix lr i * 2, none⟩) hbl k0
        have g1 := hgi.cellG (a := ⟨bl, ofl + lix lr i * 2 + 1, none⟩) hbl k1
        have m0 := (hgi.cell (p := ⟨bl, ofl + lix lr i * 2, none⟩) hbl).trans k0
        have m1 := (hgi.cell (p := ⟨bl, ofl + lix lr i * 2 + 1, none⟩) hbl).trans k1
        have hxkH : Hid (lr[lix lr i] = (xk, yk)) := hxk
        obtain ⟨K, hK⟩ : ∃ K, lix lr i = K := ⟨_, rfl⟩
        have hKH : Hid (lix lr i = K) := hK
        rw [hK] at g0 g1 m0 m1 hkl hkn ⊢
        clear hxk k0 k1 hK
        by_cases hlt : i + 1 < lr.length
        · have hltz : (i : Int) + 1 < (lr.length : Int) := by omega
          have hknz : (K : Int) < (lr.length : Int) := by omega
          obtain ⟨x, y, hx⟩ : ∃ x y, lr[i + 1] = (x, y) := ⟨_, _, rfl⟩
          have j0 := (hcsH.out (i + 1) hlt).1
          have j1 := (hcsH.out (i + 1) hlt).2
          rw [hx] at j0 j1
          have e0 := hgi.cellG (a := ⟨bl, ofl + (i + 1) * 2, none⟩) hbl j0
          have e1 := hgi.cellG (a := ⟨bl, ofl + (i + 1) * 2 + 1, none⟩) hbl j1
          have hxH : Hid (lr[i + 1] = (x, y)) := hx
          clear hx j0 j1
          cases hbe : befB (x, y) (xk, yk)
          · have hst : Hid (lix lr (i + 1) = K) := by
              have := lix_no hlt (by rw [hKH.out]; exact hkn) (by rw [hxH.out, hxkH.out]; exact hbe)
              exact this.trans hKH.out
            go_wp2
            refine wp_region_quiet_grown mixed (by kernel_rfl) ?_
            repeat (go_big_quiet_step ((go_at_call 26; refine Calls.grown_of (before_g hbe _))))
            refine wpQuiet_nil ?_
            rintro _ ⟨⟨nq, osq⟩, rfl⟩
            go_wp2
            go_roundw
            case rel => exact ⟨i + 1, hlt, by go_num, by rw [hst.out], hgi.trans ⟨nq, osq, rfl⟩⟩
            case measure => simp [intOf]; omega
          · have hst : Hid (lix lr (i + 1) = i + 1) := lix_yes hlt (by rw [hKH.out]; exact hkn) (by rw [hxH.out, hxkH.out]; exact hbe)
            go_wp2
            refine wp_region_quiet_grown mixed (by kernel_rfl) ?_
            repeat (go_big_quiet_step ((go_at_call 26; refine Calls.grown_of (before_g hbe _))))
            refine wpQuiet_nil ?_
            rintro _ ⟨⟨nq, osq⟩, rfl⟩
            go_wp2
            go_roundw
            case rel => exact ⟨i + 1, hlt, by go_num, by rw [hst.out]; go_num, hgi.trans ⟨nq, osq, rfl⟩⟩
            case measure => simp [intOf]; omega
        · have hltz : ¬ (i : Int) + 1 < (lr.length : Int) := by omega
          obtain rfl : i = lr.length - 1 := by omega
          have hknz : (K : Int) < (lr.length : Int) := by omega
          clear g0 g1
          have hgW : Gr wr (wi.alloc (.cells #[.int .i64 xk, .int .i64 yk] 35)) := hgi.alloc _
          have hpkW := hpk.gr hgW
          have d0 := box1 (Gr.refl (wi.alloc (.cells #[.int .i64 xk, .int .i64 yk] 35))) (j := 0) rfl
          have d1 := box1 (Gr.refl (wi.alloc (.cells #[.int .i64 xk, .int .i64 yk] 35))) (j := 1) rfl
          have hdlt : wi.heap.size < (wi.alloc (.cells #[.int .i64 xk, .int .i64 yk] 35)).heap.size := by simp
          go_wp2
          generalize wi.alloc (.cells #[.int .i64 xk, .int .i64 yk] 35) = W at hgW hpkW d0 d1 hdlt ⊢
          have hcapr := hpkW.cap
          have hKc : K ≤ capr := by omega
          have hwr : IntKind.i64.wrap ((K : Int) + 1) = (K : Int) + 1 := by rw [IntKind.wrap_i64]; omega
          have hp0 : (0 : Int) ≤ (K : Int) + 1 := by omega
          have hp1 : (K : Int) + 1 ≤ (lr.length : Int) := by omega
          have hp2 : ((K : Int) + 1).toNat = K + 1 := by omega
          have hrowT : Hid (Row W (some ⟨bl, ofl, none⟩) (lr.take K)) := hpkW.row.take K
          obtain ⟨A2, hA2, hrowD⟩ : ∃ A2 : Addr, (if capr = K + 1 then some (⟨bl, ofl, none⟩ : Addr) else some ⟨bl, ofl + (K + 1) * 2, none⟩) = some A2 ∧ Hid (Row W (some A2) (lr.drop (K + 1))) := by
            by_cases h : capr = K + 1
            · exact ⟨⟨bl, ofl, none⟩, by simp [h], Or.inl (List.eq_nil_of_length_eq_zero (by rw [List.length_drop]; omega))⟩
            · exact ⟨⟨bl, ofl + (K + 1) * 2, none⟩, by simp [h], hpkW.row.drop (K + 1)⟩
          have hbT : Hid ((([] : List (Int × Int)).length + (lr.take K).length) * 16 ≤ 140737488355328) := by show _ ≤ _; simp only [List.length_nil, List.length_take]; omega
          have hbD : Hid (((lr.take K).length + (lr.drop (K + 1)).length) * 16 ≤ 140737488355328) := by show _ ≤ _; simp only [List.length_drop, List.length_take]; omega
          have hlT : Hid ((lr.take K).length = K) := by show _ = _; simp only [List.length_take]; omega
          have hlD : Hid ((lr.drop (K + 1)).length = lr.length - (K + 1)) := by show _ = _; simp only [List.length_drop]
          go_region_law (first | (refine step_append_dotsN _ rfl _ (.tmp 39) rfl W.heap.size (.slice none 0 0) [] (lr.take K) K hlT.out (some ⟨bl, ofl, none⟩) capr (by simp [Act.eval]) (by simp [Act.eval, Act.put]) (Own.nil _ _) hrowT.out.drew (fun h => by cases h) hbT.out (Nat.le_refl _) ?_; intro vA wA hownA hgrA) | (refine step_append_dotsN _ rfl (.tmp 40) (.tmp 44) rfl W.heap.size vA (lr.take K) (lr.drop (K + 1)) (lr.length - (K + 1)) hlD.out (some A2) (capr - (K + 1)) (by simp [Act.eval]) (by simp [Act.eval]) hownA (hrowD.out.drew.below (below_none hgrA)) (fun h => by cases h) hbD.out (below_none hgrA).size ?_; intro vB wB hownB hgrB))
          have hbB : Below W.heap.size W wB := (((Below.refl _ W).drew).trans (below_none hgrA)).trans (hownA.grown_below hgrB (below_none hgrA).size)
          have hler : lr.take K ++ lr.drop (K + 1) = lr.eraseIdx K := (List.eraseIdx_eq_take_drop_succ lr K).symm
          rw [hler] at hownB
          obtain ⟨A3, cap3, rfl, hA3, hrow3, hcap3, hblk3⟩ := hownB.full
          have hpk3 : PK ((w.alloc (.cells #[.int .i64 c.c0, .int .i64 c.c1, .int .i64 c.c2, .int .i64 c.c3] 22)).alloc (.cells #[.int .i64 0, .int .i64 0, .int .i64 0, .int .i64 0, .slice none 0 0] 25)) wB (w.heap.size + 1 + 1) A3 cap3 (lr.eraseIdx K) cr := by
            refine ⟨hrow3, hcap3, hA3, hpkW.cb.below hbB, ?_, ?_, hpkW.bel.trans (hbB.mono (Nat.le_of_lt hpkW.cb.lt))⟩
            · intro v a hv ha e
              have hv' := (hbB.cell (p := ⟨w.heap.size + 1 + 1, 4, none⟩) hpkW.cb.lt).symm.trans hv
              obtain ⟨v0, hv0, hown0⟩ := hpkW.cb.v
              rw [hv0] at hv'
              obtain rfl := Option.some.inj hv'
              have := (hown0.lt _ e).2
              have := (hblk3 a ha).1
              omega
            · intro a ha
              exact ⟨Nat.lt_of_lt_of_le hpkW.cb.lt (hblk3 a ha).1, (hblk3 a ha).2.1⟩
          have b0 := (hbB.cell (p := ⟨wi.heap.size, 0, none⟩) hdlt).trans d0
          have b1 := (hbB.cell (p := ⟨wi.heap.size, 1, none⟩) hdlt).trans d1
          have hdB : wi.heap.size < wB.heap.size := Nat.lt_of_lt_of_le hdlt hbB.size
          have hnx : Hid (packN lr.length cr lr = packN (lr.eraseIdx K).length (pstep cr (xk, yk)) (lr.eraseIdx K)) := packN_step hpos hKH.out (by omega) (by have := hxkH.out; simp only [hKH.out] at this; exact this)
          clear hownA hgrA hownB hgrB hbB hrow3 hblk3 hler hrowT hrowD hbT hbD hlT hlD hA2 hwr hp0 hp1 hp2 hpkW hgW d0 d1 hdlt m0 m1 hcsH
          have hri : rightB (xk, yk) = true := hpr.out.2.2.1 (xk, yk) (by rw [← hxkH.out]; exact List.getElem_mem _)
          have hn := rightB_node hri
          have hcl := clk_of_ok hpr.out.2.1 xk hn.1 hn.2.1
          have hlen3 : Hid ((lr.eraseIdx K).length + 1 = lr.length) := by show _ = _; rw [List.length_eraseIdx, if_pos (by omega)]; omega
          have hsub : Hid (∀ x ∈ lr.eraseIdx K, rightB x = true) := fun x hx => hpr.out.2.2.1 x (List.mem_of_mem_eraseIdx hx)
          simp only at hn
          obtain ⟨v, k0, k1, k2, k3, k4, hov, hfz, hBB, hBs⟩ := hpk3.cb
          obtain ⟨C, cp, rfl, hC, hrowC, hcC, hbC⟩ := hov.full
          have hovH : Hid (Own wB (w.heap.size + 1 + 1 + 1) (.slice C cr.l.length cp) cr.l) := hov
          clear hov hbC hcC
          have hcr : cr.l.length ≤ maxLen := by have := hpr.out.2.2.2; unfold maxLen; omega
          go_wp2_with fail
          refine (rhas_any cr C cp (xk, yk) wB hcr hrowC).mono ?_
          rintro e wC ⟨rfl, hgC⟩
          clear k0 k1 k2 k3 k4 hfz hBB hBs hrowC
          have hpkC := hpk3.gr hgC
          have c0 := (hgC.cell (p := ⟨wi.heap.size, 0, none⟩) hdB).trans b0
          have c1 := (hgC.cell (p := ⟨wi.heap.size, 1, none⟩) hdB).trans b1
          have hdC : wi.heap.size < wC.heap.size := Nat.lt_of_lt_of_le hdB hgC.size
          clear b0 b1 hdB hpk hpk3
          have hrst : Hid (∀ c2, pstep cr (xk, yk) = c2 → packN (lr.eraseIdx K).length c2 (lr.eraseIdx K) = packN l.length c l ∧ okClk c2 = true ∧ (∀ x ∈ lr.eraseIdx K, rightB x = true) ∧ c2.l.length + (lr.eraseIdx K).length ≤ 1600) := by
            intro c2 h2
            subst h2
            refine ⟨hnx.out.symm.trans hpr.out.1, pstep_clk hpr.out.2.1 hri, hsub.out, ?_⟩
            have h1 := pstep_len cr (xk, yk)
            have h2 := hlen3.out
            have h3 := hpr.out.2.2.2
            omega
          cases hh : hasB cr (xk, yk)
          · by_cases hy : yk = clk cr xk + 1
            · have hps : Hid (pstep cr (xk, yk) = setClk cr xk yk) := by
                show pstep cr (xk, yk) = _
                unfold pstep
                rw [if_neg (by rw [hh]; simp), if_pos hy]
              have hyb : (yk == clk cr xk + 1) = true := by simpa using hy
              have hyH : Hid (yk = clk cr xk + 1) := hy
              clear hy
              have kc := hpkC.cb.clk hn.1 hn.2.1
              have kf := hpkC.cb.fz xk.toNat
              go_wp2
              go_quiet (fail)
              go_wp2
              go_roundw
              case rel => exact ⟨A3, cap3, lr.eraseIdx K, setClk cr xk yk, rfl, by have := hlen3.out; omega, (hpkC.gr ((Gr.refl _).drewN nq)).setClk hn.1 hn.2.1 yk, hrst.out _ hps.out⟩
              case measure => simp only [lenV]; have := hlen3.out; simp; omega
            · have hps : Hid (pstep cr (xk, yk) = { cr with l := cr.l ++ [(xk, yk)] }) := by
                show pstep cr (xk, yk) = _
                unfold pstep
                rw [if_neg (by rw [hh]; simp), if_neg hy]
              have hyb : (yk == clk cr xk + 1) = false := by simpa using hy
              have hyH : Hid (¬ yk = clk cr xk + 1) := hy
              clear hy
              have kc := hpkC.cb.clk hn.1 hn.2.1
              obtain ⟨v, k4, hov⟩ := hpkC.cb.v
              obtain ⟨D, dp, rfl, hD, -, -, -⟩ := hov.full
              have hovH2 : Hid (Own wC (w.heap.size + 1 + 1 + 1) (.slice D cr.l.length dp) cr.l) := hov
              clear hov hovH
              have hbd : Hid ((cr.l.length + [(xk, yk)].length) * 16 ≤ 140737488355328) := by
                have := hpr.out.2.2.2
                show _ ≤ _
                simp only [List.length_cons, List.length_nil]
                omega
              go_wp2
              go_quiet (fail)
              have hBC := hpkC.cb.lt
              go_wp2_with (at_builtin; refine wpList_append_dots _ rfl (.tmp 65) (.tmp 67) rfl (w.heap.size + 1 + 1 + 1) (.slice D cr.l.length dp) cr.l [(xk, yk)] (some ⟨wC.heap.size, 0, none⟩) 1 rfl rfl ?ho ?hr (fun h => by cases h) hbd.out ?hs ?_)
              case ho => exact hovH2.out.gr (((Gr.refl wC).drewN nq).alloc _)
              case hr => exact rowNew (by simp) xk yk _
              case hs => simp; omega
              intro v1 w2 hown1 hgr1 hat1
              obtain ⟨C3, cp3, rfl, hC3, -, -⟩ := hown1.row
              have hgA : Gr wC ((wC.drewN nq).alloc (.cells #[.int .i64 xk, .int .i64 yk] 35)) := ((Gr.refl wC).drewN nq).alloc _
              have hb1 : Below (w.heap.size + 1 + 1 + 1) ((wC.drewN nq).alloc (.cells #[.int .i64 xk, .int .i64 yk] 35)) w2 := Own.grown_below (hovH2.out.gr hgA) hgr1 (by simp; omega)
              have hpkD : Hid (PK ((w.alloc (.cells #[.int .i64 c.c0, .int .i64 c.c1, .int .i64 c.c2, .int .i64 c.c3] 22)).alloc (.cells #[.int .i64 0, .int .i64 0, .int .i64 0, .int .i64 0, .slice none 0 0] 25)) (w2.setCell ⟨w.heap.size + 1 + 1, 4, none⟩ (.slice C3 (cr.l ++ [(xk, yk)]).length cp3)) (w.heap.size + 1 + 1) A3 cap3 (lr.eraseIdx K) { cr with l := cr.l ++ [(xk, yk)] }) := hpkC.setL hgA k4 hown1 hgr1 hb1 (by simp) hat1
              have c4 : w2.cell? ⟨w.heap.size + 1 + 1, 4, none⟩ = some (.slice D cr.l.length dp) := (hb1.cell (p := ⟨w.heap.size + 1 + 1, 4, none⟩) (by simp)).trans ((hgA.cell (p := ⟨w.heap.size + 1 + 1, 4, none⟩) hBC).trans k4)
              have f4 : w2.frozen? ⟨w.heap.size + 1 + 1, 4, none⟩ = false := (hb1.frozen (p := ⟨w.heap.size + 1 + 1, 4, none⟩) (by simp)).trans ((hpkC.gr hgA).cb.fz 4)
              clear hb1 hgA hgr1 hown1 hat1 k4 kc c0 c1 hpkC hgC
              go_wp2
              go_roundw
              case rel => exact ⟨A3, cap3, lr.eraseIdx K, _, rfl, by have := hlen3.out; omega, by have := hpkD.out; simp only [List.length_append, List.length_cons, List.length_nil, Nat.zero_add] at this; exact this, hrst.out _ hps.out⟩
              case measure => simp only [lenV]; have := hlen3.out; simp; omega
          · have hps : Hid (pstep cr (xk, yk) = cr) := by show pstep cr (xk, yk) = cr; simp [pstep, hh]
            go_wp2
            go_roundw
            case rel => exact ⟨A3, cap3, lr.eraseIdx K, cr, rfl, by have := hlen3.out; omega, hpkC, hrst.out _ hps.out⟩
            case measure => simp only [lenV]; have := hlen3.out; simp; omega

end Go.Proofs.Ytknjeajdiibafaa
