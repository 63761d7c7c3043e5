/-
  viewref.Common: what it tells is what Meet tells.
-/
import Derived.Test.YtknjeajdiibafaaSMath
import Derived.Test.YtknjeajdiibafaaRContext
import Derived.Test.YtknjeajdiibafaaPackMath
namespace Go.Proofs.Ytknjeajdiibafaa
open Go.RowKit Go.Sort

/-- Block B holds four clocks, and may be written. -/
structure ClkF (w : World) (B : Nat) (q : Nat → Int) : Prop where
  k : ∀ j, j < 4 → w.cell? ⟨B, j, none⟩ = some (.int .i64 (q j))
  fz : ∀ j, w.frozen? ⟨B, j, none⟩ = false
  lt : B < w.heap.size
theorem ClkF.below {w w' : World} {B : Nat} {q : Nat → Int} (h : ClkF w B q) (g : Below w.heap.size w w') : ClkF w' B q := ⟨fun j hj => (g.cell (p := ⟨B, j, none⟩) h.lt).trans (h.k j hj), fun j => (g.frozen (p := ⟨B, j, none⟩) h.lt).trans (h.fz j), Nat.lt_of_lt_of_le h.lt g.size⟩
theorem ClkF.gr {w w' : World} {B : Nat} {q : Nat → Int} (h : ClkF w B q) (g : Gr w w') : ClkF w' B q := h.below g.below
theorem ClkF.belowB {w w' : World} {B base : Nat} {q : Nat → Int} (h : ClkF w B q) (hB : B < base) (g : Below base w w') : ClkF w' B q := ⟨fun j hj => (g.cell (p := ⟨B, j, none⟩) hB).trans (h.k j hj), fun j => (g.frozen (p := ⟨B, j, none⟩) hB).trans (h.fz j), Nat.lt_of_lt_of_le h.lt g.size⟩
theorem ClkF.set {w : World} {B : Nat} {q q' : Nat → Int} (h : ClkF w B q) (j : Nat) (u : Int) (hq : ∀ i, i < 4 → q' i = if i = j then u else q i) : ClkF (w.setCell ⟨B, j, none⟩ (.int .i64 u)) B q' := by
  refine ⟨fun i hi => ?_, fun i => by rw [World.frozen?_setCell]; exact h.fz i, by simpa [World.setCell] using h.lt⟩
  rw [cell_set (h.k i hi), hq i hi]
  by_cases e : i = j
  · rw [if_pos e, if_pos e]
  · rw [if_neg e, if_neg e]
theorem ClkF.congr {w : World} {B : Nat} {q q' : Nat → Int} (h : ClkF w B q) (hq : ∀ i, i < 4 → q' i = q i) : ClkF w B q' := ⟨fun j hj => by rw [hq j hj]; exact h.k j hj, h.fz, h.lt⟩
theorem ClkF.new {w : World} (T : TypeId) {B : Nat} (hB : w.heap.size = B) : ClkF (w.alloc (.cells #[.int .i64 0, .int .i64 0, .int .i64 0, .int .i64 0] T)) B (fun _ => 0) := by
  subst hB
  refine ⟨fun j hj => ?_, fun j => box1f (Gr.refl _) j, by simp⟩
  match j, hj with
  | 0, _ => exact box1 (Gr.refl _) rfl
  | 1, _ => exact box1 (Gr.refl _) rfl
  | 2, _ => exact box1 (Gr.refl _) rfl
  | 3, _ => exact box1 (Gr.refl _) rfl

/-- The clocks behind i contexts. -/
def cK (l : List Cx) (x0 : Cx) (i j : Nat) : Int := if i = 0 then 0 else clk (leastX x0 (j : Int) (l.take i)).c j
/-- .. and behind k nodes of the next one. -/
def cKm (l : List Cx) (x0 : Cx) (i k j : Nat) : Int := if j < k then cK l x0 (i + 1) j else cK l x0 i j
theorem cK_step {l : List Cx} {i : Nat} (hi : i < l.length) {y : Cx} (hy : l[i] = y) (j : Nat) : cK l (l[0]'(by omega)) (i + 1) j = if i = 0 ∨ clk y.c j < cK l (l[0]'(by omega)) i j then clk y.c j else cK l (l[0]'(by omega)) i j := by
  unfold cK
  rw [if_neg (by omega), leastX_take hi hy]
  by_cases h0 : i = 0
  · subst h0
    rw [if_pos (Or.inl rfl)]
    rw [← hy]
    show clk (if clk (l[0]).c j < clk (l[0]).c j then l[0] else l[0]).c j = _
    rw [if_neg (by omega)]
  · rw [if_neg h0]
    by_cases hc : clk y.c j < clk (leastX l[0] (j : Int) (l.take i)).c j
    · rw [if_pos hc, if_pos (Or.inr hc)]
    · rw [if_neg hc, if_neg (by simp [h0, hc])]
theorem cx_clk {w : World} {b off : Nat} {i : Nat} {y : Cx} (e0 : w.cell? ⟨b, off + i * 5, none⟩ = some (.int .i64 y.c.c0)) (e1 : w.cell? ⟨b, off + i * 5 + 1, none⟩ = some (.int .i64 y.c.c1)) (e2 : w.cell? ⟨b, off + i * 5 + 2, none⟩ = some (.int .i64 y.c.c2)) (e3 : w.cell? ⟨b, off + i * 5 + 3, none⟩ = some (.int .i64 y.c.c3)) {k : Nat} (hk : k < 4) : w.cell? ⟨b, off + i * 5 + k, none⟩ = some (.int .i64 (clk y.c k)) := by
  match k, hk with
  | 0, _ => exact e0
  | 1, _ => exact e1
  | 2, _ => exact e2
  | 3, _ => exact e3

set_option maxRecDepth 100000 in
set_option maxHeartbeats 16000000 in
theorem common_any (l : List Cx) (A : Option Addr) (cap : Nat) (w : World) (hl : l.length ≤ maxLen) (hr : Cxs w A l) :
    Calls Try.prog 6 #[.slice A l.length cap] w fun e w' => ∃ C cp, e = .returned (.tuple #[.agg #[.int .i64 (meetC l).c0, .int .i64 (meetC l).c1, .int .i64 (meetC l).c2, .int .i64 (meetC l).c3, .slice C (meetC l).l.length cp], .int .i64 (meetE l)]) ∧ Row w' C (meetC l).l ∧ (C = none → cp = 0) ∧ (∀ a, C = some a → w.heap.size ≤ a.block) ∧ Below w.heap.size w w' := by
  have mixed : Try.prog.follows .mixedOrders = true := by kernel_rfl
  have hH : Hid (l.length ≤ maxLen ∧ Cxs w A l) := ⟨hl, hr⟩
  have hltH : Hid (CxsLt w.heap.size A l) := hr.lt
  unfold maxLen at hl
  have hZ0 := ZAt.new w 25 rfl
  clear hr
  by_cases h0 : l.length = 0
  · have h0z : ((l.length : Int) == 0) = true := by simp [h0]
    have hfin : Hid (meetE l = 1 ∧ meetC l = zeroC) := by
      have he : errX l = 1 := by simp [errX, h0]
      have := meet_bad (l := l) (by rw [he]; decide)
      rw [he] at this
      exact this
    clear h0
    have hg0 := Gr.refl (w.alloc (.cells #[.int .i64 0, .int .i64 0, .int .i64 0, .int .i64 0, .slice none 0 0] 25))
    have r0 := box1 hg0 (j := 0) rfl
    have r1 := box1 hg0 (j := 1) rfl
    have r2 := box1 hg0 (j := 2) rfl
    have r3 := box1 hg0 (j := 3) rfl
    have r4 := box1 hg0 (j := 4) rfl
    have rf := fun j => box1f hg0 j
    go_enter Try.func6, Try.ntmps6
    go_wp2
    rw [hfin.out.1, hfin.out.2]
    exact bodyPost_ret (v := .tuple #[.agg #[.int .i64 0, .int .i64 0, .int .i64 0, .int .i64 0, .slice none 0 0], .int .i64 1]) (by simp [results, Try.results6, go_sem]) rfl ⟨none, 0, rfl, Or.inl rfl, fun _ => rfl, (fun a ha => by cases ha), (Below.refl _ _).alloc (Nat.le_refl _) _⟩
  · have h0z : ((l.length : Int) == 0) = false := by simp; intro e; rw [e] at h0; exact h0 rfl
    have hpos : Hid (0 < l.length) := by show 0 < _; omega
    obtain ⟨x0, hx0⟩ : ∃ x, l[0]'hpos.out = x := ⟨_, rfl⟩
    have hx0H : Hid (l[0]'hpos.out = x0) := hx0
    clear h0 hx0
    have hgA : Gr (w.alloc (.cells #[.int .i64 0, .int .i64 0, .int .i64 0, .int .i64 0, .slice none 0 0] 25)) ((w.alloc (.cells #[.int .i64 0, .int .i64 0, .int .i64 0, .int .i64 0, .slice none 0 0] 25)).alloc (.cells #[.int .i64 0, .int .i64 0, .int .i64 0, .int .i64 0] 22)) := (Gr.refl _).alloc _
    have hZ1 := hZ0.gr hgA
    have hK1 : ClkF ((w.alloc (.cells #[.int .i64 0, .int .i64 0, .int .i64 0, .int .i64 0, .slice none 0 0] 25)).alloc (.cells #[.int .i64 0, .int .i64 0, .int .i64 0, .int .i64 0] 22)) (w.heap.size + 1) (cK l x0 0) := (ClkF.new 22 (by simp)).congr fun i _ => by simp [cK]
    have hg1 : Gr w ((w.alloc (.cells #[.int .i64 0, .int .i64 0, .int .i64 0, .int .i64 0, .slice none 0 0] 25)).alloc (.cells #[.int .i64 0, .int .i64 0, .int .i64 0, .int .i64 0] 22)) := ((Gr.refl w).alloc _).trans hgA
    clear hZ0 hgA
    go_enter Try.func6, Try.ntmps6
    go_wp2
    go_loopw [6] (fun iv wr => ∃ i : Nat, i ≤ l.length ∧ iv = .int .i64 i ∧ Hid (∀ j (h : j < l.length), j < i → errC l[j].c = 0) ∧ ClkF wr (w.heap.size + 1) (cK l x0 i) ∧ ZAt wr w.heap.size ∧ Gr w wr) (fun iv _ => l.length - (intOf iv).toNat)
    case atStart => exact ⟨0, by omega, rfl, fun j _ h => by omega, hK1, hZ1, hg1⟩
    case round =>
      clear hK1 hZ1 hg1
      obtain ⟨i, hi, rfl, hall, hK, hZ, hgr⟩ := hrel
      by_cases hlt : i < l.length
      · have hltz : (i : Int) < (l.length : Int) := by omega
        have hrr := hH.out.2.gr hgr
        obtain ⟨b, off, rfl, hb, hcs⟩ := hrr.at hlt
        obtain ⟨hrow, hlen, hnil⟩ := hrr.each l[i] (List.getElem_mem hlt)
        obtain ⟨y, hx⟩ : ∃ y, l[i] = y := ⟨_, rfl⟩
        obtain ⟨e0, e1, e2, e3, e4⟩ := hcs i hlt
        rw [hx] at e0 e1 e2 e3 e4 hrow hlen hnil
        have hxH : Hid (l[i] = y) := hx
        have hckx : Hid (∀ k : Nat, k < 4 → wr.cell? ⟨b, off + i * 5 + k, none⟩ = some (.int .i64 (clk y.c k))) := fun k hk => cx_clk e0 e1 e2 e3 hk
        have hstep : Hid (∀ j : Nat, cK l x0 (i + 1) j = if i = 0 ∨ clk y.c j < cK l x0 i j then clk y.c j else cK l x0 i j) := fun j => by
          have := cK_step hlt hx j
          rw [hx0H.out] at this
          exact this
        clear hcs hx hrr
        have hck := rcontext_any y.c y.p y.n wr hlen hrow
        have hckH : Hid _ := hck
        clear hck hrow hnil
        go_wp2_with fail
        refine Calls.mono (show Calls _ _ _ _ _ from hckH.out) ?_
        rintro e w1 ⟨rfl, hg1⟩
        clear hckH e0 e1 e2 e3 e4
        have hK1 := hK.gr hg1
        have hZ1 := hZ.gr hg1
        have hgw := hgr.trans hg1
        have hb1 : b < w1.heap.size := Nat.lt_of_lt_of_le hb hg1.size
        have hckx1 : Hid (∀ k : Nat, k < 4 → w1.cell? ⟨b, off + i * 5 + k, none⟩ = some (.int .i64 (clk y.c k))) := fun k hk => (hg1.cell (p := ⟨b, off + i * 5 + k, none⟩) hb).trans (hckx.out k hk)
        have hbw : Hid (b < w.heap.size) := hltH.out.1 _ rfl (fun e => by rw [e] at hlt; exact absurd hlt (by simp))
        clear hckx hK hZ hgr hg1 hb
        by_cases he : errC y.c = 0
        · have heb : (errC y.c != 0) = false := by simpa using he
          have hnx : Hid (∀ j (h : j < l.length), j < i + 1 → errC l[j].c = 0) := by
            intro j hj hjk
            by_cases e : j = i
            · subst e; rw [hxH.out]; exact he
            · exact hall j hj (by omega)
          clear he
          go_wp2
          go_loopw [8] (fun kv wi => ∃ k : Nat, k ≤ 4 ∧ kv = .int .i64 k ∧ ClkF wi (w.heap.size + 1) (cKm l x0 i k) ∧ ZAt wi w.heap.size ∧ Gr w wi ∧ Hid (∀ k : Nat, k < 4 → wi.cell? ⟨b, off + i * 5 + k, none⟩ = some (.int .i64 (clk y.c k)))) (fun kv _ => 4 - (intOf kv).toNat)
          case atStart => exact ⟨0, by omega, rfl, hK1.congr fun j _ => by simp [cKm], hZ1, hgw, hckx1⟩
          case round =>
            rename World => wi
            clear hK1 hZ1 hgw hckx1 hb1
            obtain ⟨k, hk, rfl, hK, hZ, hgw, hcx⟩ := hrel
            have hbi : b < wi.heap.size := Nat.lt_of_lt_of_le hbw.out hgw.size
            by_cases hk4 : k < 4
            · have hk4z : (k : Int) < 4 := by omega
              have c0 := hcx.out k hk4
              have c1 := hK.k k hk4
              obtain ⟨Q, hQ⟩ : ∃ Q, cKm l x0 i k k = Q := ⟨_, rfl⟩
              rw [hQ] at c1
              have hQH : Hid (cK l x0 i k = Q) := by show _ = _; rw [← hQ]; unfold cKm; rw [if_neg (by omega)]
              clear hQ
              have g0 := (Gr.refl wi).cellG (a := ⟨b, off + i * 5 + k, none⟩) hbi c0
              have g1 := (Gr.refl wi).cellG (a := ⟨w.heap.size + 1, k, none⟩) hK.lt c1
              have hset : Hid (∀ u : Int, u = cK l x0 (i + 1) k → ∀ j, j < 4 → cKm l x0 i (k + 1) j = if j = k then u else cKm l x0 i k j) := by
                intro u hu j hj
                unfold cKm
                by_cases e : j = k
                · rw [if_pos e, if_pos (by omega), hu, e]
                · rw [if_neg e]
                  by_cases e2 : j < k
                  · rw [if_pos e2, if_pos (by omega)]
                  · rw [if_neg e2, if_neg (by omega)]
              have hst := hstep.out k
              rw [hQH.out] at hst
              have hstH : Hid (cK l x0 (i + 1) k = if i = 0 ∨ clk y.c k < Q then clk y.c k else Q) := hst
              clear hst c0 c1
              by_cases hi0 : i = 0
              · have hib : ((i : Int) == 0) = true := by simp [hi0]
                have hv : Hid (clk y.c (k : Int) = cK l x0 (i + 1) k) := by show _ = _; rw [hstH.out, if_pos (Or.inl hi0)]
                clear hi0
                go_wp2
                refine wp_region_quiet_grown mixed (by kernel_rfl) ?_
                repeat (go_big_quiet_step (fail))
                refine wpQuiet_nil ?_
                rintro _ ⟨⟨nq, osq⟩, rfl⟩
                have hgq : Gr wi (grow (wi.drewN nq) osq) := ⟨nq, osq, rfl⟩
                have m0 := g0 nq osq
                have m1 := g1 nq osq
                have mf := (hK.gr hgq).fz k
                generalize grow (wi.drewN nq) osq = wq at hgq m0 m1 mf ⊢
                clear g0 g1
                go_wp2
                go_roundw
                case rel => exact ⟨k + 1, by omega, by go_num, (hK.gr hgq).set k _ (hset.out _ hv.out), by
                    have hZq := hZ.gr hgq
                    have hc := hZq.ctx.other (.int .i64 (clk y.c (k : Int))) (B' := w.heap.size + 1) (j := k) (by omega) (fun a ha => by cases ha)
                    exact ⟨hc.k0, hc.k1, hc.k2, hc.k3, hc.k4, fun j => by simp only [World.frozen?_setCell]; exact hZq.fz j, hc.lt⟩, (hgw.trans hgq).setCell (by simp) _, fun k' hk' => by
                    rw [World.cell?_setCell_other _ _ _ _ (by intro e; injection e with e1; have := hbw.out; omega), hgq.cell (p := ⟨b, off + i * 5 + k', none⟩) hbi]
                    exact hcx.out k' hk'⟩
                case measure => simp [intOf]; omega
              · have hib : ((i : Int) == 0) = false := by simpa using hi0
                by_cases hc : clk y.c (k : Int) < Q
                · have hv : Hid (clk y.c (k : Int) = cK l x0 (i + 1) k) := by show _ = _; rw [hstH.out, if_pos (Or.inr hc)]
                  clear hi0
                  go_wp2
                  refine wp_region_quiet_grown mixed (by kernel_rfl) ?_
                  repeat (go_big_quiet_step (fail))
                  refine wpQuiet_nil ?_
                  rintro _ ⟨⟨nq, osq⟩, rfl⟩
                  have hgq : Gr wi (grow (wi.drewN nq) osq) := ⟨nq, osq, rfl⟩
                  have m0 := g0 nq osq
                  have m1 := g1 nq osq
                  have mf := (hK.gr hgq).fz k
                  generalize grow (wi.drewN nq) osq = wq at hgq m0 m1 mf ⊢
                  clear g0 g1
                  go_wp2
                  go_roundw
                  case rel => exact ⟨k + 1, by omega, by go_num, (hK.gr hgq).set k _ (hset.out _ hv.out), by
                      have hZq := hZ.gr hgq
                      have hc := hZq.ctx.other (.int .i64 (clk y.c (k : Int))) (B' := w.heap.size + 1) (j := k) (by omega) (fun a ha => by cases ha)
                      exact ⟨hc.k0, hc.k1, hc.k2, hc.k3, hc.k4, fun j => by simp only [World.frozen?_setCell]; exact hZq.fz j, hc.lt⟩, (hgw.trans hgq).setCell (by simp) _, fun k' hk' => by
                      rw [World.cell?_setCell_other _ _ _ _ (by intro e; injection e with e1; have := hbw.out; omega), hgq.cell (p := ⟨b, off + i * 5 + k', none⟩) hbi]
                      exact hcx.out k' hk'⟩
                  case measure => simp [intOf]; omega
                · have hv : Hid (Q = cK l x0 (i + 1) k) := by show _ = _; rw [hstH.out, if_neg (by simp [hi0, hc])]
                  clear hi0
                  go_wp2
                  refine wp_region_quiet_grown mixed (by kernel_rfl) ?_
                  repeat (go_big_quiet_step (fail))
                  refine wpQuiet_nil ?_
                  rintro _ ⟨⟨nq, osq⟩, rfl⟩
                  have hgq : Gr wi (grow (wi.drewN nq) osq) := ⟨nq, osq, rfl⟩
                  generalize grow (wi.drewN nq) osq = wq at hgq ⊢
                  clear g0 g1
                  go_wp2
                  go_roundw
                  case rel => exact ⟨k + 1, by omega, by go_num, (hK.gr hgq).congr fun j hj => by
                      rw [hset.out _ hv.out j hj]
                      by_cases e : j = k
                      · rw [if_pos e, e]; unfold cKm; rw [if_neg (by omega), hQH.out]
                      · rw [if_neg e], hZ.gr hgq, hgw.trans hgq, fun k' hk' => (hgq.cell (p := ⟨b, off + i * 5 + k', none⟩) hbi).trans (hcx.out k' hk')⟩
                  case measure => simp [intOf]; omega
            · obtain rfl : k = 4 := by omega
              go_wp2
              go_roundw
              case rel => exact ⟨i + 1, by omega, by go_num, hnx, hK.congr fun j hj => by unfold cKm; rw [if_pos hj], hZ, hgw⟩
              case measure => simp [intOf]; omega
        · have heb : (errC y.c != 0) = true := by simpa using he
          have hfin : Hid (meetE l = errC y.c ∧ meetC l = zeroC) := by
            have h1 := errX_at hlt hall.out (by rw [hxH.out]; exact he)
            rw [hxH.out] at h1
            have := meet_bad (l := l) (by rw [h1]; exact he)
            rw [h1] at this
            exact this
          clear he
          obtain ⟨r0, r1, r2, r3, r4, rf, rlt⟩ := hZ1
          go_wp2
          rw [hfin.out.1, hfin.out.2]
          exact bodyPost_ret (v := .tuple #[.agg #[.int .i64 0, .int .i64 0, .int .i64 0, .int .i64 0, .slice none 0 0], .int .i64 (errC y.c)]) (by simp [results, Try.results6, go_sem, r0, r1, r2, r3, r4]) rfl ⟨none, 0, rfl, Or.inl rfl, fun _ => rfl, (fun a ha => by cases ha), below_set5 hgw.below (Nat.le_refl _) _ _ _ _ _⟩
      · have hltz : ¬ (i : Int) < (l.length : Int) := by omega
        obtain rfl : i = l.length := by omega
        have heH : Hid (errX l = 0) := errX_all hpos.out fun j hj => hall.out j hj (by omega)
        have hKq : ClkF wr (w.heap.size + 1) (fun j => clk (leastX x0 (j : Int) l).c j) := hK.congr fun j hj => by
          unfold cK
          rw [if_neg (by have := hpos.out; omega), List.take_length]
        have hbs : w.heap.size + 1 + 1 ≤ wr.heap.size := hK.lt
        have hbw1 : Hid (Below w.heap.size w wr) := hgr.below
        have hCr1 : Hid (Cxs wr A l) := hH.out.2.gr hgr
        have hlt1 : Hid (CxsLt (w.heap.size + 1 + 1) A l) := hltH.out.mono (by omega)
        clear hK hall hgr
        go_wp2
        go_loopw [5, 9] (fun dv iv wp => ∃ (V : Value) (D : List (Int × Int)) (i : Nat), dv = V ∧ iv = .int .i64 i ∧ i ≤ l.length ∧ Hid (ShD l (clouds (l.take i)) D) ∧ Own wp (w.heap.size + 1 + 1) V D ∧ Below (w.heap.size + 1 + 1) wr wp) (fun _ iv _ => l.length - (intOf iv).toNat)
        case atStart => exact ⟨_, [], 0, rfl, rfl, by omega, ShD.nil l, Own.nil _ _, Below.refl _ _⟩
        case round =>
          rename World => wp
          obtain ⟨V, D, i, rfl, rfl, hi, hD, hov, hbp⟩ := hrel
          by_cases hil : i < l.length
          · have hilz : (i : Int) < (l.length : Int) := by omega
            obtain ⟨y, hx⟩ : ∃ y, l[i] = y := ⟨_, rfl⟩
            have hxH : Hid (l[i] = y) := hx
            have hcl : Hid (clouds (l.take (i + 1)) = clouds (l.take i) ++ y.c.l) := clouds_take hil hx
            have hy400 : y.c.l.length ≤ 400 := by rw [← hx]; exact (errC_parts ((errX_ok heH.out).2 _ (List.getElem_mem hil))).2.1
            have hsub : Hid (∀ k, ∀ z ∈ clouds (l.take i) ++ y.c.l.take k, z ∈ clouds l) := by
              intro k z hz
              rcases List.mem_append.1 hz with hz | hz
              · obtain ⟨u, hu, hz⟩ := List.mem_flatMap.1 hz
                exact List.mem_flatMap.2 ⟨u, List.mem_of_mem_take hu, hz⟩
              · exact List.mem_flatMap.2 ⟨y, by rw [← hx]; exact List.getElem_mem hil, List.mem_of_mem_take hz⟩
            clear hx
            go_wp2
            go_loopw [5, 10] (fun dv kv wi => ∃ (V : Value) (D : List (Int × Int)) (k : Nat), dv = V ∧ kv = .int .i64 k ∧ k ≤ y.c.l.length ∧ Hid (ShD l (clouds (l.take i) ++ y.c.l.take k) D) ∧ Own wi (w.heap.size + 1 + 1) V D ∧ Below (w.heap.size + 1 + 1) wr wi) (fun _ kv _ => y.c.l.length - (intOf kv).toNat)
            case atStart => exact ⟨_, D, 0, rfl, rfl, by omega, by show ShD _ _ _; simpa using hD.out, hov, hbp⟩
            case round =>
              rename World => wi
              clear hov hbp hD
              obtain ⟨V, D, k, rfl, rfl, hk, hD, hov, hbp⟩ := hrel
              have hCi : Cxs wi A l := hCr1.out.belowB hlt1.out hbp
              obtain ⟨b, off, rfl, hb, hcs⟩ := hCi.at hil
              have hei := (hcs i hil).2.2.2.2
              rw [hxH.out] at hei
              have hcsH : Hid (∀ j (hj : j < l.length), _) := hcs
              obtain ⟨A1, cap1, rfl, hA1, hrowD, _⟩ := hov.row
              have hovH : Hid (Own wi (w.heap.size + 1 + 1) (.slice A1 D.length cap1) D) := hov
              have hDlen : D.length ≤ 1600 := shD_len heH.out hD.out (hsub.out k)
              have hCiH : Hid (Cxs wi (some ⟨b, off, none⟩) l) := hCi
              clear hcs hov hCi
              by_cases hkl : k < y.c.l.length
              · have hklz : (k : Int) < (y.c.l.length : Int) := by omega
                have hrowy : Row wi y.p y.c.l := by
                  have := (hCiH.out.each l[i] (List.getElem_mem hil)).1
                  rw [hxH.out] at this
                  exact this
                obtain ⟨b2, off2, hyp, hb2, hcs2⟩ := hrowy.at hkl
                obtain ⟨x, z, hxz⟩ : ∃ x z, y.c.l[k] = (x, z) := ⟨_, _, rfl⟩
                have d0 := (hcs2 k hkl).1
                have d1 := (hcs2 k hkl).2
                rw [hxz] at d0 d1
                have hxzH : Hid (y.c.l[k] = (x, z)) := hxz
                have hnx : Hid (∀ D', ShD l ((clouds (l.take i) ++ y.c.l.take k) ++ [(x, z)]) D' → ShD l (clouds (l.take i) ++ y.c.l.take (k + 1)) D') := by
                  intro D' h
                  rw [List.take_succ_eq_append_getElem hkl, hxz, ← List.append_assoc]
                  exact h
                rw [hyp] at hei
                clear hcs2 hxz hrowy
                go_wp2
                go_loopw [11, 12] (fun okv jv wj => ∃ (r : Bool) (j : Nat), okv = .bool r ∧ jv = .int .i64 j ∧ j ≤ l.length ∧ Hid (r = (l.take j).all fun u => hasB u.c (x, z)) ∧ Gr wi wj) (fun _ jv _ => l.length - (intOf jv).toNat)
                case atStart => exact ⟨true, 0, rfl, rfl, by omega, rfl, Gr.refl _⟩
                case round =>
                  rename World => wj
                  obtain ⟨r, j, rfl, rfl, hj, hr, hgj⟩ := hrel
                  have hbj : b < wj.heap.size := Nat.lt_of_lt_of_le hb hgj.size
                  have hb2j : b2 < wj.heap.size := Nat.lt_of_lt_of_le hb2 hgj.size
                  have ei := (hgj.cell (p := ⟨b, off + i * 5 + 4, none⟩) hb).trans hei
                  have q0 := (hgj.cell (p := ⟨b2, off2 + k * 2, none⟩) hb2).trans d0
                  have q1 := (hgj.cell (p := ⟨b2, off2 + k * 2 + 1, none⟩) hb2).trans d1
                  by_cases hjl : j < l.length
                  · have hjlz : (j : Int) < (l.length : Int) := by omega
                    obtain ⟨v, hv⟩ : ∃ v, l[j] = v := ⟨_, rfl⟩
                    obtain ⟨c0, c1, c2, c3, c4⟩ := hcsH.out j hjl
                    have hvin : Hid (Row wi v.p v.c.l ∧ v.c.l.length ≤ maxLen) := by
                      have := hCiH.out.each l[j] (List.getElem_mem hjl)
                      rw [hv] at this
                      exact ⟨this.1, this.2.1⟩
                    rw [hv] at c0 c1 c2 c3 c4
                    have hst : Hid ((l.take (j + 1)).all (fun u => hasB u.c (x, z)) = (r && hasB v.c (x, z))) := by
                      show _ = _
                      rw [List.take_succ_eq_append_getElem hjl, List.all_append, ← hr.out, hv]
                      simp
                    clear hv
                    have g0 := hgj.cellG (a := ⟨b, off + j * 5, none⟩) hb c0
                    have g1 := hgj.cellG (a := ⟨b, off + j * 5 + 1, none⟩) hb c1
                    have g2 := hgj.cellG (a := ⟨b, off + j * 5 + 2, none⟩) hb c2
                    have g3 := hgj.cellG (a := ⟨b, off + j * 5 + 3, none⟩) hb c3
                    have g4 := hgj.cellG (a := ⟨b, off + j * 5 + 4, none⟩) hb c4
                    have gi := (Gr.refl wj).cellG (a := ⟨b, off + i * 5 + 4, none⟩) hbj ei
                    have k0 := (Gr.refl wj).cellG (a := ⟨b2, off2 + k * 2, none⟩) hb2j q0
                    have k1 := (Gr.refl wj).cellG (a := ⟨b2, off2 + k * 2 + 1, none⟩) hb2j q1
                    have hhas : Hid (∀ n os, Calls Try.prog 8 #[.agg #[.int .i64 v.c.c0, .int .i64 v.c.c1, .int .i64 v.c.c2, .int .i64 v.c.c3, .slice v.p v.c.l.length v.n], .agg #[.int .i64 x, .int .i64 z]] (grow (wj.drewN n) os) fun e w' => e = .returned (.bool (hasB v.c (x, z))) ∧ ∃ q os', w' = grow ((grow (wj.drewN n) os).drewN q) os') := fun n os => rhas_any v.c v.p v.n (x, z) _ hvin.out.2 (hvin.out.1.gr (hgj.trans ⟨n, os, rfl⟩))
                    clear c0 c1 c2 c3 c4 ei q0 q1 hr
                    cases r
                    · go_wp2
                      refine wp_region_quiet_grown mixed (by kernel_rfl) ?_
                      repeat (go_big_quiet_step (fail))
                      refine wpQuiet_nil ?_
                      rintro _ ⟨⟨nq, osq⟩, rfl⟩
                      have hgq : Gr wj (grow (wj.drewN nq) osq) := ⟨nq, osq, rfl⟩
                      generalize grow (wj.drewN nq) osq = wq at hgq ⊢
                      clear g0 g1 g2 g3 g4 gi k0 k1
                      go_wp2
                      go_roundw
                      case rel => exact ⟨false, j + 1, rfl, by go_num, by omega, by show _ = _; rw [hst.out]; rfl, hgj.trans hgq⟩
                      case measure => simp [intOf]; omega
                    · go_wp2
                      refine wp_region_quiet_grown mixed (by kernel_rfl) ?_
                      repeat (go_big_quiet_step ((go_at_call 8; refine Calls.grown_of (hhas.out _ _))))
                      refine wpQuiet_nil ?_
                      rintro _ ⟨⟨nq, osq⟩, rfl⟩
                      have hgq : Gr wj (grow (wj.drewN nq) osq) := ⟨nq, osq, rfl⟩
                      generalize grow (wj.drewN nq) osq = wq at hgq ⊢
                      clear g0 g1 g2 g3 g4 gi k0 k1
                      go_wp2
                      go_roundw
                      case rel => exact ⟨hasB v.c (x, z), j + 1, rfl, by go_num, by omega, by show _ = _; rw [hst.out]; rfl, hgj.trans hgq⟩
                      case measure => simp [intOf]; omega
                  · have hjlz : ¬ (j : Int) < (l.length : Int) := by omega
                    have hrA : Hid (r = allB l (x, z)) := by
                      show _ = _
                      rw [hr.out, List.take_of_length_le (by omega)]
                      rfl
                    have hbpj : Hid (Below (w.heap.size + 1 + 1) wr wj) := hbp.trans (hgj.below.mono (Nat.le_trans hbs hbp.size))
                    have hovJ : Hid (Own wj (w.heap.size + 1 + 1) (.slice A1 D.length cap1) D) := hovH.out.gr hgj
                    clear hr
                    cases r
                    · go_wp2
                      go_roundw
                      case rel => exact ⟨_, D, k + 1, rfl, by go_num, by omega, hnx.out _ (hD.out.no hrA.out.symm), hovJ.out, hbpj.out⟩
                      case measure => simp [intOf]; omega
                    · have hct := contains_any D A1 cap1 (x, z) wj (by unfold maxLen; omega) (hrowD.gr hgj)
                      have hctH : Hid _ := hct
                      clear hct
                      go_wp2_with fail
                      refine Calls.mono (show Calls _ _ _ _ _ from hctH.out) ?_
                      rintro e wc ⟨rfl, hgc⟩
                      clear hctH
                      have ei' := (hgc.cell (p := ⟨b, off + i * 5 + 4, none⟩) hbj).trans ei
                      have q0' := (hgc.cell (p := ⟨b2, off2 + k * 2, none⟩) hb2j).trans q0
                      have q1' := (hgc.cell (p := ⟨b2, off2 + k * 2 + 1, none⟩) hb2j).trans q1
                      clear ei q0 q1
                      cases hm : memB D (x, z)
                      · have hgA : Gr wj (wc.alloc (.cells #[.int .i64 x, .int .i64 z] 35)) := hgc.alloc _
                        have hszA : w.heap.size + 1 + 1 ≤ (wc.alloc (.cells #[.int .i64 x, .int .i64 z] 35)).heap.size := Nat.le_trans (Nat.le_trans hbs hbpj.out.size) hgA.size
                        go_wp2_with (at_builtin; refine wpList_append_dots _ rfl (.tmp 113) (.tmp 122) rfl (w.heap.size + 1 + 1) (.slice A1 D.length cap1) D [(x, z)] (some ⟨wc.heap.size, 0, none⟩) 1 rfl rfl ?ho ?hr (fun h => by cases h) ?hb ?hs ?_)
                        case ho => exact hovJ.out.gr hgA
                        case hr => exact rowNew rfl x z _
                        case hb => simp; omega
                        case hs => exact hszA
                        intro v1 w2 hown1 hgr1 _
                        obtain ⟨A2, cap2, rfl, _, _, _⟩ := hown1.row
                        have hb1 := Own.grown_below (hovJ.out.gr hgA) hgr1 hszA
                        go_wp2
                        go_roundw
                        case rel => exact ⟨_, D ++ [(x, z)], k + 1, rfl, by go_num, by omega, hnx.out _ (hD.out.new hrA.out.symm hm), by simpa using hown1, (hbpj.out.trans (hgA.below.mono (Nat.le_trans hbs hbpj.out.size))).trans hb1⟩
                        case measure => simp [intOf]; omega
                      · go_wp2
                        go_roundw
                        case rel => exact ⟨_, D, k + 1, rfl, by go_num, by omega, hnx.out _ (hD.out.old hm), hovJ.out.gr hgc, hbpj.out.trans (hgc.below.mono (Nat.le_trans hbs hbpj.out.size))⟩
                        case measure => simp [intOf]; omega
              · have hklz : ¬ (k : Int) < (y.c.l.length : Int) := by omega
                go_wp2
                go_roundw
                case rel => exact ⟨_, D, i + 1, rfl, by go_num, by omega, by show ShD _ _ _; rw [hcl.out]; have := hD.out; rw [List.take_of_length_le (show y.c.l.length ≤ k by omega)] at this; exact this, hovH.out, hbp⟩
                case measure => simp [intOf]; omega
          · have hilz : ¬ (i : Int) < (l.length : Int) := by omega
            obtain rfl : i = l.length := by omega
            have hDl : Hid (ShD l (clouds l) D) := by have := hD.out; rw [List.take_length] at this; exact this
            have hDlen : D.length ≤ 1600 := shD_len heH.out hDl.out (fun _ h => h)
            have hKp := hKq.belowB (by omega) hbp
            have hZp := hZ.belowB (by omega) hbp
            have hbwp : Hid (Below w.heap.size w wp) := hbw1.out.trans (hbp.mono (by omega))
            obtain ⟨c, hc⟩ : ∃ c : Ctx, c = ⟨clk (leastX x0 0 l).c 0, clk (leastX x0 1 l).c 1, clk (leastX x0 2 l).c 2, clk (leastX x0 3 l).c 3, []⟩ := ⟨_, rfl⟩
            have hck : ∀ a : Int, 0 ≤ a → a < 4 → clk c a = clk (leastX (l[0]'(errX_ok heH.out).1) a l).c a := fun a h0 h4 => by
              have hl0 : l[0]'(errX_ok heH.out).1 = x0 := hx0H.out
              rw [hl0, hc]
              have ha : a = 0 ∨ a = 1 ∨ a = 2 ∨ a = 3 := by omega
              rcases ha with rfl | rfl | rfl | rfl <;> rfl
            have hcl : c.l = [] := by rw [hc]
            have hce := common_eq heH.out hcl hck hDl.out
            have hri := shD_right heH.out hDl.out (fun _ h => h)
            have p0 : wp.cell? ⟨w.heap.size + 1, 0, none⟩ = some (.int .i64 c.c0) := by rw [hc]; exact hKp.k 0 (by omega)
            have p1 : wp.cell? ⟨w.heap.size + 1, 1, none⟩ = some (.int .i64 c.c1) := by rw [hc]; exact hKp.k 1 (by omega)
            have p2 : wp.cell? ⟨w.heap.size + 1, 2, none⟩ = some (.int .i64 c.c2) := by rw [hc]; exact hKp.k 2 (by omega)
            have p3 : wp.cell? ⟨w.heap.size + 1, 3, none⟩ = some (.int .i64 c.c3) := by rw [hc]; exact hKp.k 3 (by omega)
            obtain ⟨A1, cap1, rfl, hA1, hrowD, _⟩ := hov.row
            have hpk := packed_any c D A1 cap1 wp hcl hce.1 hDlen hri hrowD hA1
            rw [pack_fold hcl hri, hce.2] at hpk
            obtain ⟨F, hF⟩ : ∃ F, meetF l = F := ⟨_, rfl⟩
            rw [hF] at hpk
            have hFH : Hid (meetF l = F) := hF
            have hpkH : Hid _ := hpk
            clear hpk hF hce hri hck hc hcl hrowD hov hKp hKq hD
            go_wp2_with fail
            refine Calls.mono (show Calls _ _ _ _ _ from hpkH.out) ?_
            rintro e w5 ⟨C, cp, rfl, hrowC, hC, hCb, hb5⟩
            clear hpkH p0 p1 p2 p3
            have hbwq : Hid (Below w.heap.size w (w5.alloc (.cells #[.int .i64 F.c0, .int .i64 F.c1, .int .i64 F.c2, .int .i64 F.c3, .slice C F.l.length cp] 25))) := (hbwp.out.trans (hb5.mono hbwp.out.size)).alloc (Nat.le_trans hbwp.out.size hb5.size) _
            have hZq := (hZp.below hb5).gr ((Gr.refl w5).alloc (.cells #[.int .i64 F.c0, .int .i64 F.c1, .int .i64 F.c2, .int .i64 F.c3, .slice C F.l.length cp] 25))
            obtain ⟨a0, a1, a2, a3, a4, alt, arow⟩ := CtxAt.new (c := F) (cap := cp) 25 hrowC (B := w5.heap.size) rfl
            obtain ⟨r0, r1, r2, r3, r4, rf, rlt⟩ := hZq
            have hwp : w.heap.size < wp.heap.size := Nat.lt_of_lt_of_le (by omega) hbp.size
            by_cases h400 : 400 < F.l.length
            · have h400z : (400 : Int) < (F.l.length : Int) := by omega
              have hfin : Hid (meetE l = 2 ∧ meetC l = zeroC) := meet_large heH.out (by rw [hFH.out]; exact h400)
              go_wp2
              rw [hfin.out.1, hfin.out.2]
              exact bodyPost_ret (v := .tuple #[.agg #[.int .i64 0, .int .i64 0, .int .i64 0, .int .i64 0, .slice none 0 0], .int .i64 2]) (by simp [results, Try.results6, go_sem, r0, r1, r2, r3, r4]) rfl ⟨none, 0, rfl, Or.inl rfl, fun _ => rfl, (fun a ha => by cases ha), below_set5 hbwq.out (Nat.le_refl _) _ _ _ _ _⟩
            · have h400z : ¬ (400 : Int) < (F.l.length : Int) := by omega
              have hfin : Hid (meetE l = 0 ∧ meetC l = F) := by
                have := meet_ok heH.out (by rw [hFH.out]; exact h400)
                rw [hFH.out] at this
                exact this
              have hCn : ∀ a, C = some a → a.block ≠ w.heap.size := fun a ha => by have := hCb a ha; omega
              go_wp2
              rw [hfin.out.1, hfin.out.2]
              refine bodyPost_ret (v := .tuple #[.agg #[.int .i64 F.c0, .int .i64 F.c1, .int .i64 F.c2, .int .i64 F.c3, .slice C F.l.length cp], .int .i64 0]) (by simp [results, Try.results6, go_sem, r0, r1, r2, r3, r4]) rfl ⟨C, cp, rfl, ?_, hC, fun a ha => by have := hCb a ha; omega, below_set5 hbwq.out (Nat.le_refl _) _ _ _ _ _⟩
              exact ((((arow.setCell _ hCn).setCell _ hCn).setCell _ hCn).setCell _ hCn).setCell _ hCn

end Go.Proofs.Ytknjeajdiibafaa
