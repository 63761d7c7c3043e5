/-
  table.Merge: two tables merged.
-/
import Derived.Test.YtjgefnipkaecgacTCells
import Derived.Test.YtjgefnipkaecgacJoin
namespace Go.Proofs.Ytjgefnipkaecgac
open Go.RowKit Go.Sort

/-- Two tables have different cells of one dot. -/
def clashB (a b : Tab) : Bool := a.e.any (clP b.e)
/-- What is wrong with a merge (an error's number). -/
def mergeE (a b : Tab) : Int := if errT a ≠ 0 then errT a else if errT b ≠ 0 then errT b else if clashB a b then 5 else if joinE a.c b.c ≠ 0 then joinE a.c b.c else if 400 < (mrg a b).length then 2 else 0
/-- The merged table. -/
def mergeT (a b : Tab) : Tab := if mergeE a b = 0 then ⟨joinC a.c b.c, mrg a b⟩ else ⟨zeroC, []⟩

theorem mergeT_no {a b : Tab} {E : Int} (h : mergeE a b = E) (h0 : E ≠ 0) : mergeE a b = E ∧ mergeT a b = ⟨zeroC, []⟩ := ⟨h, by unfold mergeT; rw [h, if_neg h0]⟩

/-- What Merge holds from its first step on. -/
structure MergeAt (w W : World) (a b : Tab) (A : Option Addr) (ca : Nat) (C : Option Addr) (cc : Nat) (B : Option Addr) (cb : Nat) (D : Option Addr) (cd : Nat) : Prop where
  ta : TabAt W w.heap.size a A ca C cc
  tb : TabAt W (w.heap.size + 1) b B cb D cd
  res : ZTab W (w.heap.size + 1 + 1)
  hw : Below w.heap.size w W
theorem MergeAt.below {w W W' : World} {a b : Tab} {A B C D : Option Addr} {ca cb cc cd : Nat} (h : MergeAt w W a b A ca C cc B cb D cd) (k : Below W.heap.size W W') : MergeAt w W' a b A ca C cc B cb D cd :=
  ⟨h.ta.below k, h.tb.below k, h.res.below k, h.hw.trans (k.mono h.hw.size)⟩
theorem MergeAt.gr {w W W' : World} {a b : Tab} {A B C D : Option Addr} {ca cb cc cd : Nat} (h : MergeAt w W a b A ca C cc B cb D cd) (k : Gr W W') : MergeAt w W' a b A ca C cc B cb D cd := h.below k.below

set_option maxRecDepth 100000 in
set_option maxHeartbeats 2000000 in
theorem merge_new (a b : Tab) (A B C D : Option Addr) (ca cb cc cd : Nat) (w : World) (hal : a.c.l.length ≤ maxLen) (hbl : b.c.l.length ≤ maxLen) (hael : a.e.length ≤ maxLen) (hbel : b.e.length ≤ maxLen) (hA : A = none → ca = 0) (hB : B = none → cb = 0) (hra : Row w A a.c.l) (hrb : Row w B b.c.l) (hrc : RowC w C a.e) (hrd : RowC w D b.e) :
    Calls Try.prog 7 #[.agg #[.int .i64 a.c.c0, .int .i64 a.c.c1, .int .i64 a.c.c2, .int .i64 a.c.c3, .slice A a.c.l.length ca, .slice C a.e.length cc], .agg #[.int .i64 b.c.c0, .int .i64 b.c.c1, .int .i64 b.c.c2, .int .i64 b.c.c3, .slice B b.c.l.length cb, .slice D b.e.length cd]] w fun e w' => ∃ E ce F cf, e = .returned (.tuple #[.agg #[.int .i64 (mergeT a b).c.c0, .int .i64 (mergeT a b).c.c1, .int .i64 (mergeT a b).c.c2, .int .i64 (mergeT a b).c.c3, .slice E (mergeT a b).c.l.length ce, .slice F (mergeT a b).e.length cf], .int .i64 (mergeE a b)]) ∧ Row w' E (mergeT a b).c.l ∧ RowC w' F (mergeT a b).e ∧ (E = none → ce = 0) ∧ (F = none → cf = 0) ∧ (∀ x, E = some x → w.heap.size ≤ x.block) ∧ (∀ x, F = some x → w.heap.size ≤ x.block) ∧ Below w.heap.size w w' := by
  have hF0 : MergeAt w (((w.alloc (.cells #[.int .i64 a.c.c0, .int .i64 a.c.c1, .int .i64 a.c.c2, .int .i64 a.c.c3, .slice A a.c.l.length ca, .slice C a.e.length cc] 28)).alloc (.cells #[.int .i64 b.c.c0, .int .i64 b.c.c1, .int .i64 b.c.c2, .int .i64 b.c.c3, .slice B b.c.l.length cb, .slice D b.e.length cd] 28)).alloc (.cells #[.int .i64 0, .int .i64 0, .int .i64 0, .int .i64 0, .slice none 0 0, .slice none 0 0] 28)) a b A ca C cc B cb D cd :=
    ⟨(TabAt.new 28 hra hrc rfl).gr (((Gr.refl _).alloc _).alloc _), (TabAt.new 28 (hrb.gr ((Gr.refl _).alloc _)) (hrd.gr ((Gr.refl _).alloc _)) (by simp)).gr ((Gr.refl _).alloc _), Six.new _ _ _ _ _ _ _ 28 (by simp), ((((Gr.refl w).alloc _).alloc _).alloc _).below⟩
  have hlH : Hid (a.c.l.length ≤ maxLen ∧ b.c.l.length ≤ maxLen ∧ a.e.length ≤ maxLen ∧ b.e.length ≤ maxLen) := ⟨hal, hbl, hael, hbel⟩
  have hAH : Hid ((A = none → ca = 0) ∧ (B = none → cb = 0)) := ⟨hA, hB⟩
  have hck := checkT_any a A ca C cc _ hal hael hF0.ta.row hF0.ta.rowC
  have hckH : Hid _ := hck
  clear hck hal hbl hael hbel hra hrb hrc hrd hA hB
  go_enter Try.func7, Try.ntmps7
  go_wp2_with fail
  refine Calls.mono (show Calls _ _ _ _ _ from hckH.out) ?_
  rintro e w1 ⟨rfl, hg1⟩
  clear hckH
  have hF1 := hF0.gr hg1
  clear hF0 hg1
  obtain ⟨E1, hE1⟩ : ∃ E, errT a = E := ⟨_, rfl⟩
  rw [hE1]
  by_cases h1 : E1 = 0
  · subst h1
    have heA : Hid (errT a = 0) := hE1
    clear hE1
    obtain ⟨b0, b1, b2, b3, b4, b5, blt, brow, browC⟩ := (show TabAt _ _ _ _ _ _ _ from hF1.tb)
    have hck := checkT_any b B cb D cd w1 hlH.out.2.1 hlH.out.2.2.2 brow browC
    have hckH : Hid _ := hck
    clear hck brow browC
    go_wp2_with fail
    refine Calls.mono (show Calls _ _ _ _ _ from hckH.out) ?_
    rintro e w2 ⟨rfl, hg2⟩
    clear hckH b0 b1 b2 b3 b4 b5 blt
    have hF2 := hF1.gr hg2
    clear hF1 hg2
    obtain ⟨E2, hE2⟩ : ∃ E, errT b = E := ⟨_, rfl⟩
    rw [hE2]
    by_cases h2 : E2 = 0
    · subst h2
      have heB : Hid (errT b = 0) := hE2
      clear hE2
      have a5 := hF2.ta.k5
      have b5 := hF2.tb.k5
      have hcl := clash_any a.e b.e C D cc cd w2 (errT_parts heA.out).2.1 (errT_parts heB.out).2.1 hF2.ta.rowC hF2.tb.rowC (errT_asc heB.out)
      have hclH : Hid _ := hcl
      clear hcl
      go_wp2_with fail
      refine Calls.mono (show Calls _ _ _ _ _ from hclH.out) ?_
      rintro e w3 ⟨rfl, hg3⟩
      clear hclH a5 b5
      have hF3 := hF2.gr hg3
      clear hF2 hg3
      obtain ⟨K, hK⟩ : ∃ K, a.e.any (clP b.e) = K := ⟨_, rfl⟩
      rw [hK]
      cases K
      · have hKH : Hid (clashB a b = false) := hK
        clear hK
        obtain ⟨a0, a1, a2, a3, a4, a5, alt, arow, arowC⟩ := (show TabAt _ _ _ _ _ _ _ from hF3.ta)
        obtain ⟨b0, b1, b2, b3, b4, b5, blt, brow, browC⟩ := (show TabAt _ _ _ _ _ _ _ from hF3.tb)
        have hjo := join_any a.c b.c A B ca cb w3 hlH.out.1 hlH.out.2.1 arow brow hAH.out.1 hAH.out.2
        have hjoH : Hid _ := hjo
        clear hjo arow brow arowC browC alt blt
        go_wp2_with fail
        refine Calls.mono (show Calls _ _ _ _ _ from hjoH.out) ?_
        rintro e w4 ⟨C4, p4, rfl, hr4, hC4, hCb4, hb4⟩
        clear hjoH a0 a1 a2 a3 a4 a5 b0 b1 b2 b3 b4 b5
        have hF4 := hF3.below hb4
        have hs3 := hF3.res.lt
        have hCw4 : Hid (∀ x, C4 = some x → w.heap.size ≤ x.block) := fun x hx => by have := hCb4 x hx; omega
        have hCn4 : Hid (∀ x, C4 = some x → x.block ≠ w.heap.size + 1 + 1) := fun x hx => by have := hCb4 x hx; omega
        clear hF3 hb4 hCb4
        obtain ⟨J, hJ⟩ : ∃ J, joinC a.c b.c = J := ⟨_, rfl⟩
        obtain ⟨E4, hE4⟩ : ∃ E, joinE a.c b.c = E := ⟨_, rfl⟩
        rw [hJ] at hr4 ⊢
        rw [hE4]
        have hJH : Hid (joinC a.c b.c = J ∧ joinE a.c b.c = E4) := ⟨hJ, hE4⟩
        clear hJ hE4
        have hgC : Gr w4 (w4.alloc (.cells #[.int .i64 J.c0, .int .i64 J.c1, .int .i64 J.c2, .int .i64 J.c3, .slice C4 J.l.length p4] 25)) := (Gr.refl _).alloc _
        have hF5 := hF4.gr hgC
        have hc5 : CtxAt (w4.alloc (.cells #[.int .i64 J.c0, .int .i64 J.c1, .int .i64 J.c2, .int .i64 J.c3, .slice C4 J.l.length p4] 25)) w4.heap.size J C4 p4 := CtxAt.new (c := J) 25 hr4 rfl
        have hs4 := hF4.res.lt
        clear hF4 hgC hr4
        by_cases h4 : E4 = 0
        · subst h4
          obtain ⟨a0, a1, a2, a3, a4, a5, alt, arow, arowC⟩ := (show TabAt _ _ _ _ _ _ _ from hF5.ta)
          obtain ⟨b0, b1, b2, b3, b4, b5, blt, brow, browC⟩ := (show TabAt _ _ _ _ _ _ _ from hF5.tb)
          have hmc := mergeCells_any a b A B C D ca cb cc cd _ heA.out heB.out arow brow arowC browC
          have hmcH : Hid _ := hmc
          clear hmc arow brow arowC browC alt blt
          go_wp2_with fail
          refine Calls.mono (show Calls _ _ _ _ _ from hmcH.out) ?_
          rintro e w6 ⟨F, cf, rfl, hrF, hF0, hFb, hb6⟩
          clear hmcH a0 a1 a2 a3 a4 a5 b0 b1 b2 b3 b4 b5
          have hF6 := hF5.below hb6
          have hc6 := hc5.below hb6
          have hFw : Hid (∀ x, F = some x → w.heap.size ≤ x.block) := fun x hx => by have := hFb x hx; simp at this; omega
          have hFn : Hid (∀ x, F = some x → x.block ≠ w.heap.size + 1 + 1) := fun x hx => by have := hFb x hx; simp at this; omega
          clear hF5 hc5 hb6 hFb
          obtain ⟨M, hM⟩ : ∃ M, mrg a b = M := ⟨_, rfl⟩
          rw [hM] at hrF ⊢
          have hMl : M.length ≤ 800 := by
            rw [← hM]
            unfold mrg
            rw [srtC_length]
            have h1 := both_len a b
            have h2 := (errT_parts heA.out).2.1
            have h3 := (errT_parts heB.out).2.1
            omega
          have hMH : Hid (mrg a b = M) := hM
          clear hM
          by_cases h400 : 400 < M.length
          · have h400z : (400 : Int) < (M.length : Int) := by omega
            have hfin : Hid (mergeE a b = 2 ∧ mergeT a b = ⟨zeroC, []⟩) := mergeT_no (by unfold mergeE; rw [heA.out, heB.out, hKH.out, hJH.out.2, hMH.out]; simp [h400]) (by decide)
            obtain ⟨z0, z1, z2, z3, z4, z5, zf, zlt⟩ := (show Six _ _ _ _ _ _ _ _ from hF6.res)
            have hbw : Hid (Below w.heap.size w _) := hF6.hw
            go_wp2
            rw [hfin.out.1, hfin.out.2]
            exact bodyPost_ret (v := .tuple #[.agg #[.int .i64 0, .int .i64 0, .int .i64 0, .int .i64 0, .slice none 0 0, .slice none 0 0], .int .i64 2]) (by simp [results, Try.results7, go_sem, z0, z1, z2, z3, z4, z5]) rfl ⟨none, 0, none, 0, rfl, Or.inl rfl, Or.inl rfl, fun _ => rfl, fun _ => rfl, (fun x hx => by cases hx), (fun x hx => by cases hx), below_set6 hbw.out (by omega) _ _ _ _ _ _⟩
          · have h400z : ¬ (400 : Int) < (M.length : Int) := by omega
            have hfin : Hid (mergeE a b = 0 ∧ mergeT a b = ⟨J, M⟩) := by
              have h0 : mergeE a b = 0 := by unfold mergeE; rw [heA.out, heB.out, hKH.out, hJH.out.2, hMH.out]; simp; omega
              exact ⟨h0, by unfold mergeT; rw [h0, if_pos rfl, hJH.out.1, hMH.out]⟩
            obtain ⟨z0, z1, z2, z3, z4, z5, zf, zlt⟩ := (show Six _ _ _ _ _ _ _ _ from hF6.res)
            obtain ⟨c0, c1, c2, c3, c4, clt, crow⟩ := (show CtxAt _ _ _ _ _ from hc6)
            have hbw : Hid (Below w.heap.size w _) := hF6.hw
            have hcrow : Hid (Row _ C4 J.l) := crow
            have hrFH : Hid (RowC _ F M) := hrF
            clear crow hrF h400
            go_wp2
            rw [hfin.out.1, hfin.out.2]
            have h1 := hCn4.out
            have h2 := hFn.out
            exact bodyPost_ret (v := .tuple #[.agg #[.int .i64 J.c0, .int .i64 J.c1, .int .i64 J.c2, .int .i64 J.c3, .slice C4 J.l.length p4, .slice F M.length cf], .int .i64 0]) (by simp [results, Try.results7, go_sem, z0, z1, z2, z3, z4, z5]) rfl ⟨C4, p4, F, cf, rfl, (((((hcrow.out.setCell _ h1).setCell _ h1).setCell _ h1).setCell _ h1).setCell _ h1).setCell _ h1, (((((hrFH.out.setCell _ h2).setCell _ h2).setCell _ h2).setCell _ h2).setCell _ h2).setCell _ h2, hC4, hF0, hCw4.out, hFw.out, below_set6 hbw.out (by omega) _ _ _ _ _ _⟩
        · have hfin : Hid (mergeE a b = E4 ∧ mergeT a b = ⟨zeroC, []⟩) := mergeT_no (by unfold mergeE; rw [heA.out, heB.out, hKH.out, hJH.out.2]; simp [h4]) h4
          have heb : (E4 != 0) = true := by simpa using h4
          clear h4
          obtain ⟨z0, z1, z2, z3, z4, z5, zf, zlt⟩ := (show Six _ _ _ _ _ _ _ _ from hF5.res)
          have hbw : Hid (Below w.heap.size w _) := hF5.hw
          go_upto_region 11 with fail
          generalize w4.alloc (.cells #[.int .i64 J.c0, .int .i64 J.c1, .int .i64 J.c2, .int .i64 J.c3, .slice C4 J.l.length p4] 25) = V at z0 z1 z2 z3 z4 z5 zf zlt hbw ⊢
          go_wp2
          rw [hfin.out.1, hfin.out.2]
          exact bodyPost_ret (v := .tuple #[.agg #[.int .i64 0, .int .i64 0, .int .i64 0, .int .i64 0, .slice none 0 0, .slice none 0 0], .int .i64 E4]) (by simp [results, Try.results7, go_sem, z0, z1, z2, z3, z4, z5]) rfl ⟨none, 0, none, 0, rfl, Or.inl rfl, Or.inl rfl, fun _ => rfl, fun _ => rfl, (fun x hx => by cases hx), (fun x hx => by cases hx), below_set6 hbw.out (by omega) _ _ _ _ _ _⟩
      · have hfin : Hid (mergeE a b = 5 ∧ mergeT a b = ⟨zeroC, []⟩) := mergeT_no (by unfold mergeE clashB; rw [heA.out, heB.out, hK]; simp) (by decide)
        clear hK
        obtain ⟨z0, z1, z2, z3, z4, z5, zf, zlt⟩ := (show Six _ _ _ _ _ _ _ _ from hF3.res)
        have hbw : Hid (Below w.heap.size w _) := hF3.hw
        go_wp2
        rw [hfin.out.1, hfin.out.2]
        exact bodyPost_ret (v := .tuple #[.agg #[.int .i64 0, .int .i64 0, .int .i64 0, .int .i64 0, .slice none 0 0, .slice none 0 0], .int .i64 5]) (by simp [results, Try.results7, go_sem, z0, z1, z2, z3, z4, z5]) rfl ⟨none, 0, none, 0, rfl, Or.inl rfl, Or.inl rfl, fun _ => rfl, fun _ => rfl, (fun x hx => by cases hx), (fun x hx => by cases hx), below_set6 hbw.out (by omega) _ _ _ _ _ _⟩
    · have hfin : Hid (mergeE a b = E2 ∧ mergeT a b = ⟨zeroC, []⟩) := mergeT_no (by unfold mergeE; rw [heA.out, hE2]; simp [h2]) h2
      have heb : (E2 != 0) = true := by simpa using h2
      clear h2 hE2
      obtain ⟨z0, z1, z2, z3, z4, z5, zf, zlt⟩ := (show Six _ _ _ _ _ _ _ _ from hF2.res)
      have hbw : Hid (Below w.heap.size w _) := hF2.hw
      go_wp2
      rw [hfin.out.1, hfin.out.2]
      exact bodyPost_ret (v := .tuple #[.agg #[.int .i64 0, .int .i64 0, .int .i64 0, .int .i64 0, .slice none 0 0, .slice none 0 0], .int .i64 E2]) (by simp [results, Try.results7, go_sem, z0, z1, z2, z3, z4, z5]) rfl ⟨none, 0, none, 0, rfl, Or.inl rfl, Or.inl rfl, fun _ => rfl, fun _ => rfl, (fun x hx => by cases hx), (fun x hx => by cases hx), below_set6 hbw.out (by omega) _ _ _ _ _ _⟩
  · have hfin : Hid (mergeE a b = E1 ∧ mergeT a b = ⟨zeroC, []⟩) := mergeT_no (by unfold mergeE; rw [hE1]; simp [h1]) h1
    have heb : (E1 != 0) = true := by simpa using h1
    clear h1 hE1
    obtain ⟨z0, z1, z2, z3, z4, z5, zf, zlt⟩ := (show Six _ _ _ _ _ _ _ _ from hF1.res)
    have hbw : Hid (Below w.heap.size w _) := hF1.hw
    go_wp2
    rw [hfin.out.1, hfin.out.2]
    exact bodyPost_ret (v := .tuple #[.agg #[.int .i64 0, .int .i64 0, .int .i64 0, .int .i64 0, .slice none 0 0, .slice none 0 0], .int .i64 E1]) (by simp [results, Try.results7, go_sem, z0, z1, z2, z3, z4, z5]) rfl ⟨none, 0, none, 0, rfl, Or.inl rfl, Or.inl rfl, fun _ => rfl, fun _ => rfl, (fun x hx => by cases hx), (fun x hx => by cases hx), below_set6 hbw.out (by omega) _ _ _ _ _ _⟩

theorem merge_any (a b : Tab) (A B C D : Option Addr) (ca cb cc cd : Nat) (w : World) (hal : a.c.l.length ≤ maxLen) (hbl : b.c.l.length ≤ maxLen) (hael : a.e.length ≤ maxLen) (hbel : b.e.length ≤ maxLen) (hA : A = none → ca = 0) (hB : B = none → cb = 0) (hra : Row w A a.c.l) (hrb : Row w B b.c.l) (hrc : RowC w C a.e) (hrd : RowC w D b.e) :
    Calls Try.prog 7 #[.agg #[.int .i64 a.c.c0, .int .i64 a.c.c1, .int .i64 a.c.c2, .int .i64 a.c.c3, .slice A a.c.l.length ca, .slice C a.e.length cc], .agg #[.int .i64 b.c.c0, .int .i64 b.c.c1, .int .i64 b.c.c2, .int .i64 b.c.c3, .slice B b.c.l.length cb, .slice D b.e.length cd]] w fun e w' => ∃ E ce F cf, e = .returned (.tuple #[.agg #[.int .i64 (mergeT a b).c.c0, .int .i64 (mergeT a b).c.c1, .int .i64 (mergeT a b).c.c2, .int .i64 (mergeT a b).c.c3, .slice E (mergeT a b).c.l.length ce, .slice F (mergeT a b).e.length cf], .int .i64 (mergeE a b)]) ∧ Row w' E (mergeT a b).c.l ∧ RowC w' F (mergeT a b).e ∧ (E = none → ce = 0) ∧ (F = none → cf = 0) ∧ Below w.heap.size w w' :=
  (merge_new a b A B C D ca cb cc cd w hal hbl hael hbel hA hB hra hrb hrc hrd).mono fun _ _ ⟨E, ce, F, cf, h1, h2, h3, h4, h5, _, _, h8⟩ => ⟨E, ce, F, cf, h1, h2, h3, h4, h5, h8⟩

end Go.Proofs.Ytjgefnipkaecgac
