/-
  stable.Meet: the context that has just the dots that all of a list have.
-/
import Derived.Test.YtknjeajdiibafaaSLeast
import Derived.Test.YtknjeajdiibafaaCanon
namespace Go.Proofs.Ytknjeajdiibafaa
open Go.RowKit Go.Sort

/-- The first nodes' clocks and dots that all have. -/
def metN (l : List Cx) (x0 : Cx) : Nat → Ctx
  | 0 => zeroC
  | k + 1 => { setClk (metN l x0 k) k (clk (leastX x0 k l).c k) with l := (metN l x0 k).l ++ (leastX x0 k l).c.l.filter (shP l k) }
/-- What all have. -/
def meetF : List Cx → Ctx
  | [] => zeroC
  | x0 :: r => metN (x0 :: r) x0 4
/-- The error that Meet tells. -/
def meetE (l : List Cx) : Int := if errX l ≠ 0 then errX l else if 400 < (meetF l).l.length then 2 else 0
/-- The context that it tells. -/
def meetC (l : List Cx) : Ctx := if meetE l = 0 then meetF l else zeroC
theorem meet_bad {l : List Cx} (h : errX l ≠ 0) : meetE l = errX l ∧ meetC l = zeroC := by
  have : meetE l = errX l := by unfold meetE; rw [if_pos h]
  exact ⟨this, by unfold meetC; rw [this, if_neg h]⟩
theorem meet_large {l : List Cx} (h : errX l = 0) (hl : 400 < (meetF l).l.length) : meetE l = 2 ∧ meetC l = zeroC := by
  have : meetE l = 2 := by unfold meetE; rw [if_neg (by simp [h]), if_pos hl]
  exact ⟨this, by unfold meetC; rw [this, if_neg (by decide)]⟩
theorem meet_ok {l : List Cx} (h : errX l = 0) (hl : ¬ 400 < (meetF l).l.length) : meetE l = 0 ∧ meetC l = meetF l := by
  have : meetE l = 0 := by unfold meetE; rw [if_neg (by simp [h]), if_neg hl]
  exact ⟨this, by unfold meetC; rw [if_pos this]⟩
theorem meetF_pos {l : List Cx} (h : 0 < l.length) : meetF l = metN l l[0] 4 := by
  cases l with
  | nil => exact absurd h (by simp)
  | cons x r => rfl
theorem leastX_mem (n : Int) (l : List Cx) : ∀ x0, leastX x0 n l = x0 ∨ leastX x0 n l ∈ l := by
  induction l with
  | nil => intro x0; exact Or.inl rfl
  | cons y r ih =>
    intro x0
    show leastX (if clk y.c n < clk x0.c n then y else x0) n r = x0 ∨ leastX (if clk y.c n < clk x0.c n then y else x0) n r ∈ y :: r
    split
    · rcases ih y with h | h
      · rw [h]; exact Or.inr (List.mem_cons_self ..)
      · exact Or.inr (List.mem_cons_of_mem _ h)
    · rcases ih x0 with h | h
      · exact Or.inl h
      · exact Or.inr (List.mem_cons_of_mem _ h)
theorem leastX_in {n : Int} {l : List Cx} (h : 0 < l.length) : leastX l[0] n l ∈ l := by
  rcases leastX_mem n l l[0] with e | e
  · rw [e]; exact List.getElem_mem h
  · exact e
theorem metN_len {l : List Cx} {x0 : Cx} (h : ∀ k : Nat, (leastX x0 k l).c.l.length ≤ 400) : ∀ k, (metN l x0 k).l.length ≤ k * 400
  | 0 => by show ([] : List (Int × Int)).length ≤ _; simp
  | k + 1 => by
    show ((metN l x0 k).l ++ (leastX x0 k l).c.l.filter (shP l k)).length ≤ _
    rw [List.length_append]
    have h1 := metN_len h k
    have h2 := List.length_filter_le (shP l k) (leastX x0 k l).c.l
    have h3 := h k
    omega

theorem ZAt.belowB {w w' : World} {B base : Nat} (h : ZAt w B) (hB : B < base) (k : Below base w w') : ZAt w' B :=
  ⟨(k.cell (p := ⟨B, 0, none⟩) hB).trans h.k0, (k.cell (p := ⟨B, 1, none⟩) hB).trans h.k1, (k.cell (p := ⟨B, 2, none⟩) hB).trans h.k2, (k.cell (p := ⟨B, 3, none⟩) hB).trans h.k3, (k.cell (p := ⟨B, 4, none⟩) hB).trans h.k4, fun j => (k.frozen (p := ⟨B, j, none⟩) hB).trans (h.fz j), Nat.lt_of_lt_of_le h.lt k.size⟩

set_option maxHeartbeats 8000000 in
theorem meet_any (l : List Cx) (A : Option Addr) (cap : Nat) (w : World) (hl : l.length ≤ maxLen) (hr : Cxs w A l) :
    Calls Try.prog 5 #[.slice A l.length cap] w fun e w' => ∃ C cp, e = .returned (.tuple #[.agg #[.int .i64 (meetC l).c0, .int .i64 (meetC l).c1, .int .i64 (meetC l).c2, .int .i64 (meetC l).c3, .slice C (meetC l).l.length cp], .int .i64 (meetE l)]) ∧ Row w' C (meetC l).l ∧ (C = none → cp = 0) ∧ (∀ a, C = some a → w.heap.size ≤ a.block) ∧ Below w.heap.size w w' := by
  have hH : Hid (l.length ≤ maxLen ∧ Cxs w A l) := ⟨hl, hr⟩
  have hltH : Hid (CxsLt w.heap.size A l) := hr.lt
  unfold maxLen at hl
  have hg0 : Gr w (w.alloc (.cells #[.int .i64 0, .int .i64 0, .int .i64 0, .int .i64 0, .slice none 0 0] 25)) := (Gr.refl _).alloc _
  have hZ0 := ZAt.new w 25 rfl
  have hck := checkAll_any l A cap (w.alloc (.cells #[.int .i64 0, .int .i64 0, .int .i64 0, .int .i64 0, .slice none 0 0] 25)) hH.out.1 (hr.gr hg0)
  have hckH : Hid _ := hck
  clear hck hr
  go_enter Try.func5, Try.ntmps5
  go_wp2_with fail
  refine Calls.mono (show Calls _ _ _ _ _ from hckH.out) ?_
  rintro e w1 ⟨rfl, hg1⟩
  clear hckH
  have hZ1 := hZ0.gr hg1
  have hgw := hg0.trans hg1
  clear hZ0 hg0 hg1
  by_cases he : errX l = 0
  · have heb : (errX l != 0) = false := by simpa using he
    have heH : Hid (errX l = 0) := he
    have hpos : Hid (0 < l.length) := (errX_ok he).1
    obtain ⟨x0, hx0⟩ : ∃ x, l[0]'hpos.out = x := ⟨_, rfl⟩
    have hx0H : Hid (l[0]'hpos.out = x0) := hx0
    have hall : Hid (∀ x ∈ l, errC x.c = 0) := (errX_ok he).2
    have hin : Hid (∀ n : Int, leastX x0 n l ∈ l) := fun n => by rw [← hx0]; exact leastX_in hpos.out
    have hlen : Hid (∀ n : Int, (leastX x0 n l).c.l.length ≤ 400) := fun n => (errC_parts (hall.out _ (hin.out n))).2.1
    clear he hx0
    have hB0 := CB.start w1 (c := zeroC) rfl 25
    have hZ2 := hZ1.gr ((Gr.refl w1).alloc (.cells #[.int .i64 0, .int .i64 0, .int .i64 0, .int .i64 0, .slice none 0 0] 25))
    have hb0 : Below w1.heap.size w1 (w1.alloc (.cells #[.int .i64 0, .int .i64 0, .int .i64 0, .int .i64 0, .slice none 0 0] 25)) := (Below.refl _ _).alloc (Nat.le_refl _) _
    have hw1 : w.heap.size < w1.heap.size := Nat.lt_of_lt_of_le hZ1.lt (Nat.le_refl _)
    go_wp2
    go_loopw [14] (fun i wr => ∃ k : Nat, k ≤ 4 ∧ i = .int .i64 k ∧ CB wr w1.heap.size (w1.heap.size + 1) (metN l x0 k) ∧ ZAt wr w.heap.size ∧ Below w1.heap.size w1 wr) (fun i _ => 4 - (intOf i).toNat)
    case atStart => exact ⟨0, by omega, rfl, hB0, hZ2, hb0⟩
    case round =>
      clear hB0 hZ2 hb0
      obtain ⟨k, hk, rfl, hCB, hZ, hbel⟩ := hrel
      have hbw : Hid (Below w.heap.size w wr) := hgw.below.trans (hbel.mono (Nat.le_of_lt hw1))
      have hBlt := hCB.lt
      by_cases hlt : k < 4
      · have hltz : (k : Int) < 4 := by omega
        have hk0 : (0 : Int) ≤ (k : Int) := by omega
        have hle := leastAt_any l A cap (k : Int) wr hH.out.1 hpos.out hk0 hltz (hH.out.2.below hbw.out)
        have hleH : Hid _ := hle
        clear hle
        go_wp2_with fail
        refine Calls.mono (show Calls _ _ _ _ _ from hleH.out) ?_
        rintro e w2 ⟨m, rfl, hm, hg2⟩
        clear hleH
        rw [hx0H.out] at hm
        have hmH : Hid (m = leastX x0 (k : Int) l) := hm
        clear hm
        have hCr := (hH.out.2.below hbw.out).gr hg2
        obtain ⟨hrowm, hlenm, _⟩ := hCr.each m (by rw [hmH.out]; exact hin.out _)
        have hltm := hltH.out.2 m (by rw [hmH.out]; exact hin.out _)
        have hgX : Gr w2 (w2.alloc (.cells #[.int .i64 m.c.c0, .int .i64 m.c.c1, .int .i64 m.c.c2, .int .i64 m.c.c3, .slice m.p m.c.l.length m.n] 25)) := (Gr.refl _).alloc _
        have hmA : CtxAt (w2.alloc (.cells #[.int .i64 m.c.c0, .int .i64 m.c.c1, .int .i64 m.c.c2, .int .i64 m.c.c3, .slice m.p m.c.l.length m.n] 25)) w2.heap.size m.c m.p m.n := CtxAt.new 25 hrowm rfl
        have hCBX := hCB.gr (hg2.trans hgX)
        have hZX := hZ.gr (hg2.trans hgX)
        have hbelX := hbel.trans ((hg2.trans hgX).below.mono (Nat.le_of_lt hBlt))
        have hCrX := hCr.gr hgX
        have km := ctxClk hmA hk0 hltz
        rw [Int.toNat_natCast] at km
        have kc := hCBX.clk hk0 hltz
        have kf := hCBX.fz k
        rw [Int.toNat_natCast] at kc
        have hCBs := hCBX.setClk hk0 hltz (clk m.c (k : Int))
        rw [Int.toNat_natCast] at hCBs
        have hZs : ZAt ((w2.alloc (.cells #[.int .i64 m.c.c0, .int .i64 m.c.c1, .int .i64 m.c.c2, .int .i64 m.c.c3, .slice m.p m.c.l.length m.n] 25)).setCell ⟨w1.heap.size, k, none⟩ (.int .i64 (clk m.c (k : Int)))) w.heap.size := by
          have hc := hZX.ctx.other (.int .i64 (clk m.c (k : Int))) (B' := w1.heap.size) (j := k) (by omega) (fun a ha => by cases ha)
          exact ⟨hc.k0, hc.k1, hc.k2, hc.k3, hc.k4, fun j => by simp only [World.frozen?_setCell]; exact hZX.fz j, hc.lt⟩
        have hmS : CtxAt ((w2.alloc (.cells #[.int .i64 m.c.c0, .int .i64 m.c.c1, .int .i64 m.c.c2, .int .i64 m.c.c3, .slice m.p m.c.l.length m.n] 25)).setCell ⟨w1.heap.size, k, none⟩ (.int .i64 (clk m.c (k : Int)))) w2.heap.size m.c m.p m.n := hmA.other _ (by have := hg2.size; omega) (fun a h1 h2 => by have := hltm a h1 h2; omega)
        have hbelS := hbelX.setCell (p := ⟨w1.heap.size, k, none⟩) (Nat.le_refl _) (.int .i64 (clk m.c (k : Int)))
        have hCrS : Cxs ((w2.alloc (.cells #[.int .i64 m.c.c0, .int .i64 m.c.c1, .int .i64 m.c.c2, .int .i64 m.c.c3, .slice m.p m.c.l.length m.n] 25)).setCell ⟨w1.heap.size, k, none⟩ (.int .i64 (clk m.c (k : Int)))) A l := hCrX.belowB hltH.out ((Below.refl _ _).setCell (Nat.le_of_lt hw1) _)
        obtain ⟨v, k4, hovS⟩ := hCBs.v
        obtain ⟨C0, cp0, rfl, _, _, _⟩ := hovS.row
        have y4 := hmS.k4
        rw [setClk_l] at k4 hovS
        have hlN : Hid ((metN l x0 k).l.length ≤ 2000) := by
          have := metN_len (l := l) (x0 := x0) (fun k => hlen.out k) k
          show _ ≤ _
          omega
        have hl4 : Hid (m.c.l.length ≤ 400) := by show _ ≤ _; rw [hmH.out]; exact hlen.out _
        have hap := appShared_any (.slice C0 (metN l x0 k).l.length cp0) (metN l x0 k).l m.c.l m.p m.n (k : Int) l A cap (w1.heap.size + 1) ((w2.alloc (.cells #[.int .i64 m.c.c0, .int .i64 m.c.c1, .int .i64 m.c.c2, .int .i64 m.c.c3, .slice m.p m.c.l.length m.n] 25)).setCell ⟨w1.heap.size, k, none⟩ (.int .i64 (clk m.c (k : Int)))) hH.out.1 hlN.out hl4.out hCrS (hltH.out.mono (by omega)) hmS.row (fun a h1 h2 => by have := hltm a h1 h2; omega) hovS hCBs.lt
        have hapH : Hid _ := hap
        have f4 := hCBs.fz 4
        have hltS := hCBs.lt
        clear hap hovS hCr hrowm hCrX hZX hbelX hCBX hmA hCrS hmS
        go_wp2_with fail
        refine Calls.mono (show Calls _ _ _ _ _ from hapH.out) ?_
        rintro e w3 ⟨v3, rfl, hov3, hb3⟩
        clear hapH km kc kf
        obtain ⟨C3, cp3, rfl, _, _, _⟩ := hov3.row
        have c4 := (hb3.cell (p := ⟨w1.heap.size, 4, none⟩) (Nat.lt_succ_self _)).trans k4
        have g4 := (hb3.frozen (p := ⟨w1.heap.size, 4, none⟩) (Nat.lt_succ_self _)).trans f4
        have hCB3 := hCBs.setL hb3 hov3
        have hmet : Hid (metN l x0 (k + 1) = { setClk (metN l x0 k) (k : Int) (clk m.c (k : Int)) with l := (metN l x0 k).l ++ m.c.l.filter (shP l (k : Int)) }) := by
          show metN l x0 (k + 1) = _
          rw [hmH.out]
          rfl
        have hZ3 : ZAt (w3.setCell ⟨w1.heap.size, 4, none⟩ (.slice C3 ((metN l x0 k).l ++ m.c.l.filter (shP l (k : Int))).length cp3)) w.heap.size := by
          have hZb := hZs.belowB (by omega) hb3
          have hc := hZb.ctx.other (.slice C3 ((metN l x0 k).l ++ m.c.l.filter (shP l (k : Int))).length cp3) (B' := w1.heap.size) (j := 4) (by omega) (fun a ha => by cases ha)
          exact ⟨hc.k0, hc.k1, hc.k2, hc.k3, hc.k4, fun j => by simp only [World.frozen?_setCell]; exact hZb.fz j, hc.lt⟩
        have hbel3 := (hbelS.trans (hb3.mono (by omega))).setCell (p := ⟨w1.heap.size, 4, none⟩) (Nat.le_refl _) (.slice C3 ((metN l x0 k).l ++ m.c.l.filter (shP l (k : Int))).length cp3)
        rw [List.length_append] at hCB3 hZ3 hbel3
        clear hCBs hZs hbelS hb3 hov3 k4 f4 y4
        go_wp2
        go_roundw
        case rel => exact ⟨k + 1, by omega, by go_num, by rw [hmet.out]; exact hCB3, hZ3, hbel3⟩
        case measure => simp [intOf]; omega
      · obtain rfl : k = 4 := by omega
        have hF : Hid (meetF l = metN l x0 4) := by show _ = _; rw [meetF_pos hpos.out, hx0H.out]
        obtain ⟨c, hc⟩ : ∃ c, metN l x0 4 = c := ⟨_, rfl⟩
        rw [hc] at hCB
        have hcH : Hid (meetF l = c) := hF.out.trans hc
        clear hF hc
        obtain ⟨v, a0, a1, a2, a3, a4, hov, af, aBB, aBs⟩ := hCB
        obtain ⟨C, cp, rfl, hC, hrowC, hcC, hbC⟩ := hov.full
        obtain ⟨r0, r1, r2, r3, r4, rf, rlt⟩ := hZ
        clear hov hcC
        by_cases h400 : 400 < c.l.length
        · have h400z : (400 : Int) < (c.l.length : Int) := by omega
          have hfin : Hid (meetE l = 2 ∧ meetC l = zeroC) := meet_large heH.out (by rw [hcH.out]; exact h400)
          go_wp2
          rw [hfin.out.1, hfin.out.2]
          exact bodyPost_ret (v := .tuple #[.agg #[.int .i64 0, .int .i64 0, .int .i64 0, .int .i64 0, .slice none 0 0], .int .i64 2]) (by simp [results, Try.results5, go_sem, r0, r1, r2, r3, r4]) rfl ⟨none, 0, rfl, Or.inl rfl, fun _ => rfl, (fun a ha => by cases ha), below_set5 hbw.out (Nat.le_refl _) _ _ _ _ _⟩
        · have h400z : ¬ (400 : Int) < (c.l.length : Int) := by omega
          have hfin : Hid (meetE l = 0 ∧ meetC l = c) := by
            have := meet_ok heH.out (by rw [hcH.out]; exact h400)
            rw [hcH.out] at this
            exact this
          have hCn : ∀ a, C = some a → a.block ≠ w.heap.size := fun a ha => by have := (hbC a ha).1; omega
          go_wp2
          rw [hfin.out.1, hfin.out.2]
          refine bodyPost_ret (v := .tuple #[.agg #[.int .i64 c.c0, .int .i64 c.c1, .int .i64 c.c2, .int .i64 c.c3, .slice C c.l.length cp], .int .i64 0]) (by simp [results, Try.results5, go_sem, r0, r1, r2, r3, r4]) rfl ⟨C, cp, rfl, ?_, hC, fun a ha => by have := (hbC a ha).1; omega, below_set5 hbw.out (Nat.le_refl _) _ _ _ _ _⟩
          exact ((((hrowC.setCell _ hCn).setCell _ hCn).setCell _ hCn).setCell _ hCn).setCell _ hCn
  · have heb : (errX l != 0) = true := by simpa using he
    have hfin : Hid (meetE l = errX l ∧ meetC l = zeroC) := meet_bad he
    clear he
    obtain ⟨r0, r1, r2, r3, r4, rf, rlt⟩ := hZ1
    go_wp2
    rw [hfin.out.1, hfin.out.2]
    exact bodyPost_ret (v := .tuple #[.agg #[.int .i64 0, .int .i64 0, .int .i64 0, .int .i64 0, .slice none 0 0], .int .i64 (errX l)]) (by simp [results, Try.results5, go_sem, r0, r1, r2, r3, r4]) rfl ⟨none, 0, rfl, Or.inl rfl, fun _ => rfl, (fun a ha => by cases ha), below_set5 hgw.below (Nat.le_refl _) _ _ _ _ _⟩

end Go.Proofs.Ytknjeajdiibafaa
