/-
  wire.appendTable: a table's bytes, put behind others.
-/
import Derived.Test.YtbhhpijidbhipaaWCoded
import Derived.Test.YtbhhpijidbhipaaWSumC
namespace Go.Proofs.Ytbhhpijidbhipaa
open Go.RowKit Go.Sort

theorem rowNewN {W : World} {n : Nat} (hn : W.heap.size = n) (l : List Int) (T : TypeId) (cs : Array Value) (hcs : cs = (l.map (Value.int .i64)).toArray) : RowI (W.alloc (.cells cs T)) (some ⟨n, 0, none⟩) l := by
  subst hn hcs
  refine Or.inr ⟨W.heap.size, 0, rfl, by simp, fun j hj i hi => ?_⟩
  obtain rfl : i = 0 := by omega
  rw [box1 (w := W) (Gr.refl _) (j := 0 + j * 1 + 0) (v := .int .i64 l[j]) (by simp [hj])]
  rfl
/-- appendTable's memory: the table in its box, the bytes. -/
structure AT (W0 wr : World) (B : Nat) (t : Tab) (A : Option Addr) (ca : Nat) (D : Option Addr) (cd : Nat) (base : Nat) (v bv : Value) (o : List UInt8) : Prop where
  tab : TabAt wr B t A ca D cd
  own : OwnB wr base bv o
  grw : Grw W0 wr v bv
  lt : B < W0.heap.size
  ne : v.ownBlock ≠ some B
  bs : base ≤ W0.heap.size
  hA : ∀ a, A = some a → t.c.l ≠ [] → a.block < base
  hD : ∀ a, D = some a → t.e ≠ [] → a.block < base
theorem AT.gr {W0 wr wn : World} {B : Nat} {t : Tab} {A : Option Addr} {ca : Nat} {D : Option Addr} {cd base : Nat} {v bv : Value} {o : List UInt8} (h : AT W0 wr B t A ca D cd base v bv o) (k : Gr wr wn) : AT W0 wn B t A ca D cd base v bv o :=
  ⟨h.tab.gr k, h.own.gr k, h.grw.gr k, h.lt, h.ne, h.bs, h.hA, h.hD⟩
theorem AT.ne2 {W0 wr : World} {B : Nat} {t : Tab} {A : Option Addr} {ca : Nat} {D : Option Addr} {cd base : Nat} {v bv : Value} {o : List UInt8} (h : AT W0 wr B t A ca D cd base v bv o) : bv.ownBlock ≠ some B := fun e => by
  rcases h.grw.o B e with h1 | h1
  · exact h.ne h1
  · have := h.lt; omega
theorem AT.step {W0 wr wn : World} {B : Nat} {t : Tab} {A : Option Addr} {ca : Nat} {D : Option Addr} {cd base : Nat} {v bv bn : Value} {o on : List UInt8} (h : AT W0 wr B t A ca D cd base v bv o) (k : Grw wr wn bv bn) (ho : OwnB wn base bn on) : AT W0 wn B t A ca D cd base v bn on := by
  have hb := OwnG.grw_below h.own k (Nat.le_trans h.bs h.grw.g.size)
  have hc : ∀ j, wn.cell? ⟨B, j, none⟩ = wr.cell? ⟨B, j, none⟩ := fun j => k.cell h.tab.lt h.ne2
  exact ⟨⟨(hc 0).trans h.tab.k0, (hc 1).trans h.tab.k1, (hc 2).trans h.tab.k2, (hc 3).trans h.tab.k3, (hc 4).trans h.tab.k4, (hc 5).trans h.tab.k5, Nat.lt_of_lt_of_le h.tab.lt k.g.size, h.tab.row.belowB h.hA hb, h.tab.rowC.belowB h.hD hb⟩, ho, h.grw.trans k, h.lt, h.ne, h.bs, h.hA, h.hD⟩
/-- Some numbers are put behind. -/
theorem AT.asks {W0 wr : World} {B : Nat} {t : Tab} {A : Option Addr} {ca : Nat} {D : Option Addr} {cd base : Nat} {v bv : Value} {o : List UInt8} (h : AT W0 wr B t A ca D cd base v bv o) {p : Nat} {ns : List Int} {n : Nat} (hn : ns.length = n) {cap : Nat} (hr : RowI wr (some ⟨p, 0, none⟩) ns) (hne : bv.ownBlock ≠ some p) (hl : o.length + 9 * ns.length ≤ 1000000) {on : List UInt8} (hon : o ++ numsL ns = on) :
    Calls Try.prog 26 #[bv, .slice (some ⟨p, 0, none⟩) n cap] wr fun e w' => ∃ v', e = .returned v' ∧ Hid (AT W0 w' B t A ca D cd base v v' on) := by
  subst hn
  refine (appNums_any ns (some ⟨p, 0, none⟩) cap base bv o wr hl (Nat.le_trans h.bs h.grw.g.size) h.own hr (fun a e => by injection e with e; rw [← e]; exact hne)).mono ?_
  rintro e w1 ⟨v1, rfl, h1⟩
  exact ⟨v1, rfl, h.step h1.out.2 (by rw [← hon]; exact h1.out.1)⟩
theorem told2_step {p : List UInt8} {t : Tab} {k : Nat} (h : k < t.c.l.length) {x : Int × Int} (hx : t.c.l[k] = x) : told2 p t k ++ numsL [x.1, x.2] = told2 p t (k + 1) := by
  unfold told2
  rw [codD_take h hx]
  simp [numsL]
theorem told3_step {p : List UInt8} {t : Tab} {k : Nat} (h : k < t.e.length) {x : Cel} (hx : t.e[k] = x) : told3 p t k ++ numsL [x.1.1, x.1.2, x.2.1, x.2.2.1, x.2.2.2] = told3 p t (k + 1) := by
  unfold told3
  rw [codE_take h hx]
  simp [numsL]

set_option maxRecDepth 100000 in
set_option maxHeartbeats 4000000 in
theorem appTable_any (t : Tab) (A : Option Addr) (ca : Nat) (D : Option Addr) (cd base : Nat) (v : Value) (l : List UInt8) (w : World) (hl : l.length ≤ 30000) (htl : t.c.l.length ≤ 400) (hel : t.e.length ≤ 400) (hb : base ≤ w.heap.size) (hown : OwnB w base v l) (hr : Row w A t.c.l) (hd : RowC w D t.e)
    (hA : ∀ a, A = some a → t.c.l ≠ [] → a.block < base) (hD : ∀ a, D = some a → t.e ≠ [] → a.block < base) :
    Calls Try.prog 24 #[v, .agg #[.int .i64 t.c.c0, .int .i64 t.c.c1, .int .i64 t.c.c2, .int .i64 t.c.c3, .slice A t.c.l.length ca, .slice D t.e.length cd]] w fun e w' => ∃ v', e = .returned v' ∧ Hid (OwnB w' base v' (l ++ codT t) ∧ Grw w w' v v') := by
  obtain ⟨W0, hW0⟩ : ∃ W0, w.alloc (.cells #[.int .i64 t.c.c0, .int .i64 t.c.c1, .int .i64 t.c.c2, .int .i64 t.c.c3, .slice A t.c.l.length ca, .slice D t.e.length cd] 28) = W0 := ⟨_, rfl⟩
  obtain ⟨B, hB⟩ : ∃ B, w.heap.size = B := ⟨_, rfl⟩
  have hg0 : Gr w W0 := by rw [← hW0]; exact (Gr.refl w).alloc _
  have hsz0 : W0.heap.size = B + 1 := by rw [← hW0, ← hB]; simp
  have hT0 : TabAt W0 B t A ca D cd := by rw [← hW0]; exact TabAt.new 28 hr hd hB.symm
  have hne : v.ownBlock ≠ some B := OwnG.ne_new hown (by omega)
  have h0 : AT W0 W0 B t A ca D cd base v v l := ⟨hT0, hown.gr hg0, Grw.refl _ _, by omega, hne, by omega, hA, hD⟩
  have hrow : RowI W0 (some ⟨B, 0, none⟩) [t.c.c0, t.c.c1, t.c.c2, t.c.c3] := by
    refine Or.inr ⟨B, 0, rfl, by omega, fun j hj i hi => ?_⟩
    obtain rfl : i = 0 := by omega
    have hj : j = 0 ∨ j = 1 ∨ j = 2 ∨ j = 3 := by simp at hj; omega
    rcases hj with rfl | rfl | rfl | rfl
    · exact hT0.k0
    · exact hT0.k1
    · exact hT0.k2
    · exact hT0.k3
  have hC := h0.asks (n := 4) rfl (cap := 4) hrow hne (by simp; omega) (on := told1 l t 4) (by simp [told1, numsL, clkB, clk])
  have hCH : Hid _ := hC
  have hend : Hid (∀ w' v', AT W0 w' B t A ca D cd base v v' (l ++ codT t) → OwnB w' base v' (l ++ codT t) ∧ Grw w w' v v') := fun w' v' h => ⟨h.own, h.grw.pre hg0⟩
  clear hC hrow hT0 hne hr hd hg0 hown hA hD
  go_enter Try.func24, Try.ntmps24
  go_wp2_with fail
  refine Calls.mono (show Calls _ _ _ _ _ from hCH.out) ?_
  rintro e w1 ⟨v1, rfl, h1⟩
  clear hCH h0
  have k4 := h1.out.tab.k4
  have hG1 := h1.out.gr ((Gr.refl w1).alloc (.cells #[.int .i64 t.c.l.length] 3))
  have hC := hG1.asks (n := 1) (cap := 1) rfl (rowNewN rfl [(t.c.l.length : Int)] 3 #[.int .i64 t.c.l.length] rfl) (OwnG.ne_new h1.out.own (Nat.le_refl _)) (by have := told1_len (t := t) (k := 4) hl (by omega); simp; omega) (on := told2 l t 0) (by simp [told1, told2, numsL, codD])
  have hCH : Hid _ := hC
  clear hC hG1
  go_wp2_with fail
  refine Calls.mono (show Calls _ _ _ _ _ from hCH.out) ?_
  rintro e w2 ⟨v2, rfl, h2⟩
  clear hCH k4 h1
  have k4 := h2.out.tab.k4
  go_wp2
  clear k4
  go_loopw [0, 25] (fun bv kv wr => ∃ (k : Nat), kv = .int .i64 k ∧ k ≤ t.c.l.length ∧ Hid (AT W0 wr B t A ca D cd base v bv (told2 l t k))) (fun _ kv _ => t.c.l.length - (intOf kv).toNat)
  case atStart => exact ⟨0, rfl, by omega, h2⟩
  case round =>
    clear h2
    rename World => wr
    obtain ⟨k, rfl, hk, hR⟩ := hrel
    by_cases hlt : k < t.c.l.length
    · have hltz : (k : Int) < (t.c.l.length : Int) := by omega
      obtain ⟨x, hx⟩ : ∃ x, t.c.l[k] = x := ⟨_, rfl⟩
      obtain ⟨bk, off, rfl, hbk, hcs⟩ := hR.out.tab.row.at hlt
      have hcsk := hcs k hlt
      rw [hx] at hcsk
      obtain ⟨e0, e1⟩ := hcsk
      have hG1 := hR.out.gr ((Gr.refl wr).alloc (.cells #[.int .i64 x.1, .int .i64 x.2] 51))
      have hG2 := hG1.gr ((Gr.refl _).alloc (.cells #[.int .i64 x.1, .int .i64 x.2] 3))
      have hC := hG2.asks (n := 2) (cap := 2) rfl (rowNewN (n := wr.heap.size + 1) (by simp) [x.1, x.2] 3 #[.int .i64 x.1, .int .i64 x.2] rfl) (OwnG.ne_new hR.out.own (by omega)) (by have := told2_len (t := t) (k := k) hl htl; simp; omega) (on := told2 l t (k + 1)) (told2_step hlt hx)
      have hCH : Hid _ := hC
      clear hC hG1 hG2 hcs hx hR
      go_wp2_with fail
      refine Calls.mono (show Calls _ _ _ _ _ from hCH.out) ?_
      rintro e w3 ⟨v3, rfl, h3⟩
      clear hCH e0 e1
      go_wp2
      go_roundw
      case rel => exact ⟨k + 1, by go_num, by omega, h3⟩
      case measure => simp [intOf]; omega
    · obtain rfl : k = t.c.l.length := by omega
      have hltz : ¬ (t.c.l.length : Int) < (t.c.l.length : Int) := by omega
      have k5 := hR.out.tab.k5
      have hG1 := hR.out.gr ((Gr.refl wr).alloc (.cells #[.int .i64 t.e.length] 3))
      have hC := hG1.asks (n := 1) (cap := 1) rfl (rowNewN rfl [(t.e.length : Int)] 3 #[.int .i64 t.e.length] rfl) (OwnG.ne_new hR.out.own (Nat.le_refl _)) (by have := told2_len (t := t) (k := t.c.l.length) hl htl; simp; omega) (on := told3 l t 0) (by simp [told2, told3, numsL, codE])
      have hCH : Hid _ := hC
      clear hC hG1 hR
      go_wp2_with fail
      refine Calls.mono (show Calls _ _ _ _ _ from hCH.out) ?_
      rintro e w4 ⟨v4, rfl, h4⟩
      clear hCH k5
      have k5 := h4.out.tab.k5
      go_wp2
      clear k5
      go_loopw [0, 46] (fun bv kv wi => ∃ (k : Nat), kv = .int .i64 k ∧ k ≤ t.e.length ∧ Hid (AT W0 wi B t A ca D cd base v bv (told3 l t k))) (fun _ kv _ => t.e.length - (intOf kv).toNat)
      case atStart => exact ⟨0, rfl, by omega, h4⟩
      case round =>
        clear h4
        rename World => wi
        obtain ⟨k, rfl, hk, hR⟩ := hrel
        by_cases hlt : k < t.e.length
        · have hltz2 : (k : Int) < (t.e.length : Int) := by omega
          obtain ⟨x, hx⟩ : ∃ x, t.e[k] = x := ⟨_, rfl⟩
          obtain ⟨bk, off, rfl, hbk, hcs⟩ := RowC.get hR.out.tab.rowC hlt
          have hcsk := hcs k hlt
          rw [hx] at hcsk
          obtain ⟨e0, e1, e2, e3, e4⟩ := hcsk
          have hG1 := hR.out.gr ((Gr.refl wi).alloc (.cells #[.int .i64 x.1.1, .int .i64 x.1.2, .int .i64 x.2.1, .int .i64 x.2.2.1, .int .i64 x.2.2.2] 53))
          have hG2 := hG1.gr ((Gr.refl _).alloc (.cells #[.int .i64 x.1.1, .int .i64 x.1.2, .int .i64 x.2.1, .int .i64 x.2.2.1, .int .i64 x.2.2.2] 3))
          have hC := hG2.asks (n := 5) (cap := 5) rfl (rowNewN (n := wi.heap.size + 1) (by simp) [x.1.1, x.1.2, x.2.1, x.2.2.1, x.2.2.2] 3 #[.int .i64 x.1.1, .int .i64 x.1.2, .int .i64 x.2.1, .int .i64 x.2.2.1, .int .i64 x.2.2.2] rfl) (OwnG.ne_new hR.out.own (by omega)) (by have := told3_len (t := t) (k := k) hl htl hel; simp; omega) (on := told3 l t (k + 1)) (told3_step hlt hx)
          have hCH : Hid _ := hC
          clear hC hG1 hG2 hcs hx hR
          go_wp2_with fail
          refine Calls.mono (show Calls _ _ _ _ _ from hCH.out) ?_
          rintro e w5 ⟨v5, rfl, h5⟩
          clear hCH e0 e1 e2 e3 e4
          go_wp2
          go_roundw
          case rel => exact ⟨k + 1, by go_num, by omega, h5⟩
          case measure => simp [intOf]; omega
        · obtain rfl : k = t.e.length := by omega
          have hltz2 : ¬ (t.e.length : Int) < (t.e.length : Int) := by omega
          have hfin : Hid (OwnB wi base u0 (l ++ codT t) ∧ Grw w wi v u0) := hend.out wi u0 (by rw [← told3_end]; exact hR.out)
          clear hR
          go_wp2
          go_ret
          exact ⟨u0, rfl, hfin⟩
end Go.Proofs.Ytbhhpijidbhipaa
