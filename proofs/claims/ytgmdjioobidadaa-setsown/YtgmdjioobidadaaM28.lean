/-
  Views: what is told of what is fed, on plain lists.
  plain.CheckTables.
-/
import Derived.Test.YtgmdjioobidadaaM27
namespace Go.Proofs.Ytgmdjioobidadaa

theorem tot_cons {l m : List Zit} {x : Zit} (hx : x.2 ≠ 0) (hlt : ∀ y ∈ m, cmpL x.1 y.1 < 0) (hw : ∀ r, wt l r = (if x.1 = r then x.2 else 0) + wt m r) : totL l = x :: totL m := by
  refine (totL_is l).uniq (m := l) (T := x :: totL m) ⟨?_, ?_, ?_⟩ (fun _ => rfl)
  · unfold Rise
    rw [List.pairwise_cons]
    exact ⟨fun y hy => by
      obtain ⟨z, hz, e⟩ := (totL_is m).row hy
      rw [← e]; exact hlt z hz, (totL_is m).rise⟩
  · intro y hy
    rcases List.mem_cons.1 hy with e | e
    · rw [e]; exact hx
    · exact (totL_is m).noz y e
  · intro r
    show (if x.1 = r then x.2 else 0) + wt (totL m) r = _
    rw [(totL_is m).same, hw]
/-- What is to be added to b to have a. -/
def difL (a b : List Zit) : List Zit := totL (a ++ negP b)
theorem wt_dif (a b : List Zit) (r : List Int) : wt (a ++ negP b) r = wt a r - wt b r := by
  rw [wt_append]
  have := wt_neg b r
  unfold negP
  omega
theorem mem_neg {b : List Zit} {z : Zit} (h : z ∈ negP b) : ∃ y ∈ b, y.1 = z.1 := by
  obtain ⟨y, hy, rfl⟩ := List.mem_map.1 h
  exact ⟨y, hy, rfl⟩
theorem dif_nil : difL [] [] = [] := rfl
/-- The first of a is ahead. -/
theorem dif_lt {x : Zit} {t b : List Zit} (ha : Rise (x :: t)) (hx : x.2 ≠ 0) (hb : ∀ y ∈ b, cmpL x.1 y.1 < 0) : difL (x :: t) b = x :: difL t b := by
  refine tot_cons hx (fun z hz => ?_) (fun r => ?_)
  · rcases List.mem_append.1 hz with e | e
    · exact (List.pairwise_cons.1 ha).1 z e
    · obtain ⟨y, hy, e2⟩ := mem_neg e
      rw [← e2]; exact hb y hy
  · rw [wt_dif, wt_dif]
    simp only [wt]
    omega
/-- The first of b is ahead. -/
theorem dif_gt {y : Zit} {a u : List Zit} (hb : Rise (y :: u)) (hy : y.2 ≠ 0) (ha : ∀ x ∈ a, cmpL y.1 x.1 < 0) : difL a (y :: u) = (y.1, -y.2) :: difL a u := by
  refine tot_cons (x := (y.1, -y.2)) (by show -y.2 ≠ 0; omega) (fun z hz => ?_) (fun r => ?_)
  · rcases List.mem_append.1 hz with e | e
    · exact ha z e
    · obtain ⟨v, hv, e2⟩ := mem_neg e
      rw [← e2]; exact (List.pairwise_cons.1 hb).1 v hv
  · rw [wt_dif, wt_dif]
    simp only [wt]
    by_cases e : y.1 = r
    · simp only [if_pos e]; omega
    · simp only [if_neg e]; omega
/-- Both begin with one row. -/
theorem dif_eq {x y : Zit} {t u : List Zit} (ha : Rise (x :: t)) (hb : Rise (y :: u)) (h : x.1 = y.1) : difL (x :: t) (y :: u) = if x.2 - y.2 = 0 then difL t u else (y.1, x.2 - y.2) :: difL t u := by
  have hw : ∀ r, wt ((x :: t) ++ negP (y :: u)) r = (if y.1 = r then x.2 - y.2 else 0) + wt (t ++ negP u) r := fun r => by
    rw [wt_dif, wt_dif]
    simp only [wt, h]
    by_cases e : y.1 = r
    · rw [if_pos e, if_pos e]; simp only [if_pos e]; omega
    · rw [if_neg e, if_neg e]; simp only [if_neg e]; omega
  by_cases h0 : x.2 - y.2 = 0
  · rw [if_pos h0]
    refine totL_same fun r => ?_
    rw [hw r, h0]
    by_cases e : y.1 = r
    · rw [if_pos e]; omega
    · rw [if_neg e]; omega
  · rw [if_neg h0]
    refine tot_cons (x := (y.1, x.2 - y.2)) h0 (fun z hz => ?_) hw
    rcases List.mem_append.1 hz with e | e
    · show cmpL y.1 z.1 < 0
      rw [← h]; exact (List.pairwise_cons.1 ha).1 z e
    · obtain ⟨v, hv, e2⟩ := mem_neg e
      rw [← e2]; exact (List.pairwise_cons.1 hb).1 v hv
/-- What was, and what is to be added, are what is. -/
theorem dif_back {a b : List Zit} (ha : errZ a = 0) : totL (b ++ difL a b) = a := by
  have h := (errZ_iff a).1 ha
  have h1 : IsTot a a := ⟨h.2.2, okZ_noz h.2.1, fun _ => rfl⟩
  refine (totL_is _).uniq h1 fun r => ?_
  rw [wt_append]
  unfold difL
  rw [(totL_is _).same, wt_dif]
  omega
theorem tot_self {a : List Zit} (ha : errZ a = 0) : totL a = a := by
  have h := (errZ_iff a).1 ha
  exact (totL_is _).uniq (⟨h.2.2, okZ_noz h.2.1, fun _ => rfl⟩ : IsTot a a) fun _ => rfl
theorem add_nil_left {a : List Zit} (ha : errZ a = 0) : addE [] a = 0 ∧ addL [] a = a := by
  have h := (errZ_iff a).1 ha
  have hbad : ¬ BadT a := by
    rintro ⟨r, hr⟩
    by_cases h0 : wt a r = 0
    · rw [h0] at hr; cases hr
    · obtain ⟨x, hx, e⟩ := wt_some h0
      rw [← e, h.2.2.wt hx, (okZ_parts (h.2.1 x hx)).2.1] at hr; cases hr
  have e0 : errZ [] = 0 := by decide
  have e1 : totE ([] ++ a) = 0 := totE_ok hbad
  have e2 : totL ([] ++ a) = a := tot_self ha
  have e3 : addE [] a = 0 := by
    unfold addE
    rw [if_pos e0, if_pos ha, if_pos e1, if_neg (by rw [e2]; omega)]
  exact ⟨e3, by unfold addL; rw [if_pos e3, e2]⟩

/-- What is wrong with the sets of both tables. -/
def tblE (a b : List Zit) : Int := if errZ a = 0 then (if errZ b = 0 then (if (a ++ b).all (fun x => decide (x.1.length = 4)) = true then 0 else 5) else errZ b) else errZ a
theorem ahd_tbl (q : List Stp) (a b : List Zit) : ahdE q a b = if errQ q = 0 then tblE a b else errQ q := rfl
theorem tblE_parts {a b : List Zit} (h : tblE a b = 0) : errZ a = 0 ∧ errZ b = 0 ∧ Wide 4 a ∧ Wide 4 b := by
  unfold tblE at h
  by_cases h1 : errZ a = 0
  · rw [if_pos h1] at h
    by_cases h2 : errZ b = 0
    · rw [if_pos h2] at h
      by_cases h3 : (a ++ b).all (fun x => decide (x.1.length = 4)) = true
      · have h4 := List.all_eq_true.1 h3
        exact ⟨h1, h2, fun x hx => by have := of_decide_eq_true (h4 x (List.mem_append.2 (Or.inl hx))); omega, fun x hx => by have := of_decide_eq_true (h4 x (List.mem_append.2 (Or.inr hx))); omega⟩
      · rw [if_neg h3] at h; cases h
    · rw [if_neg h2] at h; exact absurd h h2
  · rw [if_neg h1] at h; exact absurd h h1
theorem tblE_ok {a b : List Zit} (h1 : errZ a = 0) (h2 : errZ b = 0) (h3 : Wide 4 a) (h4 : Wide 4 b) : tblE a b = 0 := by
  unfold tblE
  rw [if_pos h1, if_pos h2, if_pos]
  rw [List.all_eq_true]
  intro x hx
  rcases List.mem_append.1 hx with e | e
  · exact decide_eq_true (by have := h3 x e; omega)
  · exact decide_eq_true (by have := h4 x e; omega)
/-- What Feed's error is: the query q, the tables s and t, what comes a and b. -/
def fedE (q : List Stp) (s t a b : List Zit) : Int := if tblE a b = 0 then (if addE s a = 0 then (if addE t b = 0 then plnE q (addL s a) (addL t b) else addE t b) else addE s a) else tblE a b
theorem fedE_parts {q : List Stp} {s t a b : List Zit} (h : fedE q s t a b = 0) : tblE a b = 0 ∧ addE s a = 0 ∧ addE t b = 0 ∧ plnE q (addL s a) (addL t b) = 0 := by
  unfold fedE at h
  by_cases h1 : tblE a b = 0
  · rw [if_pos h1] at h
    by_cases h2 : addE s a = 0
    · rw [if_pos h2] at h
      by_cases h3 : addE t b = 0
      · rw [if_pos h3] at h; exact ⟨h1, h2, h3, h⟩
      · rw [if_neg h3] at h; exact absurd h h3
    · rw [if_neg h2] at h; exact absurd h h2
  · rw [if_neg h1] at h; exact absurd h h1
theorem fedE_ok {q : List Stp} {s t a b : List Zit} (h1 : tblE a b = 0) (h2 : addE s a = 0) (h3 : addE t b = 0) (h4 : plnE q (addL s a) (addL t b) = 0) : fedE q s t a b = 0 := by
  unfold fedE
  rw [if_pos h1, if_pos h2, if_pos h3, h4]

/-- A step, but for where its list lies. -/
def bare (s : Stp) : Stp := { s with p := none, n := 0 }
theorem wid_bare (s : Stp) (ah : List Int) : widW (bare s) ah = widW s ah := rfl
theorem wids_bare : ∀ (q : List Stp) (ah : List Int), widsF (q.map bare) ah = widsF q ah
  | [], _ => rfl
  | s :: q, ah => by
    show (if widW (bare s) ah = 0 then none else widsF (q.map bare) (ah ++ [widW (bare s) ah])) = _
    rw [wid_bare, wids_bare q]
    rfl
theorem errQ_bare (q : List Stp) : errQ (q.map bare) = errQ q := by
  unfold errQ
  rw [List.length_map, wids_bare]
theorem tellE_bare (s : Stp) (a b : List Zit) (S : List (List Zit)) : tellE (bare s) a b S = tellE s a b S := rfl
theorem tellF_bare (s : Stp) (a b : List Zit) (S : List (List Zit)) : tellF (bare s) a b S = tellF s a b S := rfl
theorem allE_bare (a b : List Zit) : ∀ (q : List Stp) (S : List (List Zit)), allE a b (q.map bare) S = allE a b q S
  | [], _ => rfl
  | s :: q, S => by
    show (if tellE (bare s) a b S = 0 then allE a b (q.map bare) (S ++ [tellF (bare s) a b S]) else tellE (bare s) a b S) = _
    rw [tellE_bare, tellF_bare, allE_bare a b q]
    rfl
theorem allF_bare (a b : List Zit) : ∀ (q : List Stp) (S : List (List Zit)), allF a b (q.map bare) S = allF a b q S
  | [], _ => rfl
  | s :: q, S => by
    show (if tellE (bare s) a b S = 0 then allF a b (q.map bare) (S ++ [tellF (bare s) a b S]) else []) = _
    rw [tellE_bare, tellF_bare, allF_bare a b q]
    rfl
theorem plnE_bare (q : List Stp) (a b : List Zit) : plnE (q.map bare) a b = plnE q a b := by
  unfold plnE
  rw [ahd_tbl, ahd_tbl, errQ_bare, allE_bare]
theorem evlF_bare (q : List Stp) (a b : List Zit) : evlF (q.map bare) a b = evlF q a b := by
  unfold evlF plnF
  rw [plnE_bare, allF_bare, List.length_map]
theorem fedE_bare (q : List Stp) (s t a b : List Zit) : fedE (q.map bare) s t a b = fedE q s t a b := by
  unfold fedE
  rw [plnE_bare]
theorem same_plnE {q r : List Stp} (h : q.map bare = r.map bare) (a b : List Zit) : plnE q a b = plnE r a b := by rw [← plnE_bare q, h, plnE_bare]
theorem same_evlF {q r : List Stp} (h : q.map bare = r.map bare) (a b : List Zit) : evlF q a b = evlF r a b := by rw [← evlF_bare q, h, evlF_bare]
theorem same_fedE {q r : List Stp} (h : q.map bare = r.map bare) (s t a b : List Zit) : fedE q s t a b = fedE r s t a b := by rw [← fedE_bare q, h, fedE_bare]
/-- Of no rows nothing is told. -/
theorem normL_nil : normL [] = [] := by decide
theorem addL_nil : addL [] [] = [] := by decide
theorem minF_nil : minF [] [] = [] := by decide
theorem joinF_nil (c v : Int) : joinF [] [] c v = [] := by
  unfold joinF
  split
  · show normL ((pairL [] [] c v).take 401) = []
    exact normL_nil
  · rfl
theorem oneF_nil (s : Stp) : oneF s [] = [] := by
  unfold oneF
  repeat' split
  all_goals rfl
theorem getS_nil {S : List (List Zit)} (h : ∀ x ∈ S, x = []) (i : Int) : getS S i = [] := by
  unfold getS
  rw [List.getD_eq_getElem?_getD]
  cases e : S[i.toNat]? with
  | none => rfl
  | some x => exact h x (List.mem_of_getElem? e)
theorem tellF_nil (s : Stp) {S : List (List Zit)} (h : ∀ x ∈ S, x = []) : tellF s [] [] S = [] := by
  unfold tellF tabF
  rw [getS_nil h, getS_nil h, addL_nil, minF_nil, joinF_nil, oneF_nil]
  repeat' split
  all_goals first | rfl | exact normL_nil
theorem allF_nil : ∀ (q : List Stp) (S : List (List Zit)), (∀ x ∈ S, x = []) → ∀ y ∈ allF [] [] q S, y = []
  | [], S, h, y, hy => h y hy
  | s :: q, S, h, y, hy => by
    have hy' : y ∈ (if tellE s [] [] S = 0 then allF [] [] q (S ++ [tellF s [] [] S]) else []) := hy
    by_cases e : tellE s [] [] S = 0
    · rw [if_pos e] at hy'
      refine allF_nil q _ (fun x hx => ?_) y hy'
      rcases List.mem_append.1 hx with k | k
      · exact h x k
      · rw [List.mem_singleton.1 k]; exact tellF_nil s h
    · rw [if_neg e] at hy'; cases hy'
theorem evlF_nil (q : List Stp) : evlF q [] [] = [] := by
  unfold evlF plnF
  split
  · rw [List.getD_eq_getElem?_getD]
    cases e : (allF [] [] q [])[q.length - 1]? with
    | none => rfl
    | some x => exact allF_nil q [] (fun x hx => by cases hx) x (List.mem_of_getElem? e)
  · rfl
end Go.Proofs.Ytgmdjioobidadaa

namespace Go.Proofs.Ytgmdjioobidadaa
open Go.RowKit Go.Sort Go.Maps

theorem checkQV {q : List Stp} {A : Option Addr} {ca : Nat} {w : World} {E : Int} (hE : errQ q = E) (hl : q.length ≤ maxLen) (hq : Stps w A q) :
    Calls Try.prog 16 #[.slice A q.length ca] w fun e w' => e = .returned (.int .i64 E) ∧ Below w.heap.size w w' := by rw [← hE]; exact checkQ_any q A ca w hl hq
theorem idx0 (x y : Value) (w : World) : (Instr.index 49 (.agg #[x, y]) (.int .i64 0)).run Try.prog w = .ok x w := by kernel_rfl
theorem idx1 (x y : Value) (w : World) : (Instr.index 49 (.agg #[x, y]) (.int .i64 1)).run Try.prog w = .ok y w := by kernel_rfl
set_option maxRecDepth 100000 in
set_option maxHeartbeats 1000000 in
theorem tables_any (a b : List Itm) (A B : Option Addr) (ca cb : Nat) (w : World) (ha : Lv w A ca a) (hb : Lv w B cb b) :
    Calls Try.prog 17 #[.slice A a.length ca, .slice B b.length cb] w fun e w' => e = .returned (.int .i64 (tblE (a.map Itm.z) (b.map Itm.z))) ∧ Gr w w' := by
  have hgX : Hid (Gr w (w.alloc (.cells #[.slice A a.length ca, .slice B b.length cb] 49))) := (Gr.refl _).alloc _
  obtain ⟨w1, hWX⟩ : ∃ WX, (w.alloc (.cells #[.slice A a.length ca, .slice B b.length cb] 49)) = WX := ⟨_, rfl⟩
  have s0 : w1.cell? ⟨w.heap.size, 0, none⟩ = some (.slice A a.length ca) := by rw [← hWX]; exact box1 (w := w) (Gr.refl _) rfl
  have s1 : w1.cell? ⟨w.heap.size, 1, none⟩ = some (.slice B b.length cb) := by rw [← hWX]; exact box1 (w := w) (Gr.refl _) rfl
  have hst1 : w.heap.size < w1.heap.size := by rw [← hWX]; simp
  rw [hWX] at hgX
  obtain ⟨E2, hE2⟩ : ∃ E, errZ (a.map Itm.z) = E := ⟨_, rfl⟩
  obtain ⟨E3, hE3⟩ : ∃ E, errZ (b.map Itm.z) = E := ⟨_, rfl⟩
  obtain ⟨E, hE⟩ : ∃ E, tblE (a.map Itm.z) (b.map Itm.z) = E := ⟨_, rfl⟩
  have hEs : Hid (tblE (a.map Itm.z) (b.map Itm.z) = E ∧ True ∧ errZ (a.map Itm.z) = E2 ∧ errZ (b.map Itm.z) = E3) := ⟨hE, trivial, hE2, hE3⟩
  rw [hE]
  have hbW : Hid (Gr w w1 ∧ Lv w1 A ca a ∧ Lv w1 B cb b) := ⟨hgX.out, ha.gr hgX.out, hb.gr hgX.out⟩
  clear ha hb hE2 hE3 hE hgX
  have i0 := idx0 (.slice A a.length ca) (.slice B b.length cb)
  have i1 := idx1 (.slice A a.length ca) (.slice B b.length cb)
  go_enter Try.func17, Try.ntmps17
  go_wp2
  clear hWX
  refine wp_loop_rounds 3 ?_
  rw [rounds_succ]
  have hZa : Hid (∀ W, Gr w1 W → Calls Try.prog 19 #[.slice A a.length ca] W fun e w' => e = .returned (.int .i64 E2) ∧ Gr W w') := fun W h => by rw [← hEs.out.2.2.1]; exact checkV (hbW.out.2.1.gr h) rfl
  have hZb : Hid (∀ W, Gr w1 W → Calls Try.prog 19 #[.slice B b.length cb] W fun e w' => e = .returned (.int .i64 E3) ∧ Gr W w') := fun W h => by rw [← hEs.out.2.2.2]; exact checkV (hbW.out.2.2.gr h) rfl
  cases h2 : (E2 != 0)
  · have hE20 : E2 = 0 := by simpa using h2
    go_wp2_with (go_at_call 19; refine Calls.mono (hZa.out w1 (Gr.refl _)) ?_; rintro e w2 ⟨rfl, hg2⟩)
    rw [rounds_succ]
    cases h3 : (E3 != 0)
    · have hE30 : E3 = 0 := by simpa using h3
      go_wp2_with (go_at_call 19; refine Calls.mono (hZb.out w2 hg2) ?_; rintro e w3 ⟨rfl, hg3⟩)
      rw [rounds_succ]
      have hg3' : Hid (Gr w1 w3) := hg2.trans hg3
      have z0 : w3.cell? ⟨w.heap.size, 0, none⟩ = some (.slice A a.length ca) := (hg3'.out.below.cell (p := ⟨w.heap.size, 0, none⟩) hst1).trans s0
      have z1 : w3.cell? ⟨w.heap.size, 1, none⟩ = some (.slice B b.length cb) := (hg3'.out.below.cell (p := ⟨w.heap.size, 1, none⟩) hst1).trans s1
      clear hg2 hg3 hZa hZb
      go_wp2
      refine wp_loop_rounds 3 ?_
      rw [rounds_succ]
      go_wp2
      have hB3 : Hid (Gr w w3 ∧ Lv w3 A ca a ∧ Lv w3 B cb b) := ⟨hbW.out.1.trans hg3'.out, hbW.out.2.1.gr hg3'.out, hbW.out.2.2.gr hg3'.out⟩
      have hla : a.length ≤ 400 := (errZ_okW (by rw [hEs.out.2.2.1]; exact hE20)).1
      have hlb : b.length ≤ 400 := (errZ_okW (by rw [hEs.out.2.2.2]; exact hE30)).1
      have hahd : Hid (E = if (a.map Itm.z ++ b.map Itm.z).all (fun x => decide (x.1.length = 4)) = true then 0 else 5) := by
        show _ = _; rw [← hEs.out.1]; unfold tblE; rw [if_pos (by rw [hEs.out.2.2.1]; exact hE20), if_pos (by rw [hEs.out.2.2.2]; exact hE30)]
      have hbad : Hid (∀ x ∈ a ++ b, ¬ x.r.length = 4 → E = 5) := fun x hx hn => by
        rw [hahd.out, if_neg]
        intro h
        rw [← List.map_append] at h
        have := List.all_eq_true.1 h x.z (List.mem_map.2 ⟨x, hx, rfl⟩)
        exact hn (of_decide_eq_true this)
      have hgood : Hid ((∀ x ∈ a, x.r.length = 4) → (∀ x ∈ b, x.r.length = 4) → E = 0) := fun ha hb => by
        rw [hahd.out, if_pos]
        rw [← List.map_append, List.all_eq_true]
        intro y hy
        obtain ⟨x, hx, rfl⟩ := List.mem_map.1 hy
        rcases List.mem_append.1 hx with e | e
        · exact decide_eq_true (ha x e)
        · exact decide_eq_true (hb x e)
      clear z0 z1 s0 s1
      go_loopw [32] (fun i wr => ∃ k : Nat, k ≤ a.length ∧ i = .int .i64 k ∧ Hid ((∀ x ∈ a.take k, x.r.length = 4) ∧ Gr w3 wr)) (fun i _ => a.length - (intOf i).toNat)
      case atStart => exact ⟨0, Nat.zero_le _, rfl, fun x hx => (by simp at hx), Gr.refl _⟩
      case round =>
        obtain ⟨k, hk, rfl, hR⟩ := hrel
        by_cases hlt : k < a.length
        · have hltz : (k : Int) < (a.length : Int) := by omega
          obtain ⟨bb, off, rfl, hb, hcs⟩ := (hB3.out.2.1.gr hR.out.2).items.at hlt
          obtain ⟨x, hx⟩ : ∃ x, a[k] = x := ⟨_, rfl⟩
          obtain ⟨e0, e1⟩ := hcs k hlt
          rw [hx] at e0 e1
          have hxm : Hid (x ∈ a) := by show _ ∈ _; rw [← hx]; exact List.getElem_mem hlt
          have htk : Hid (a.take (k + 1) = a.take k ++ [x]) := by show _ = _; rw [List.take_succ_eq_append_getElem hlt, hx]
          clear hcs hx
          cases h4 : ((x.r.length : Int) != 4)
          · have h4' : x.r.length = 4 := by have : (x.r.length : Int) = 4 := by simpa using h4
                                            omega
            have hfin : Hid ((∀ y ∈ a.take (k + 1), y.r.length = 4) ∧ Gr w3 (wr.alloc (.cells #[.slice x.p x.r.length x.c, .int .i64 x.n] 45))) := ⟨fun y hy => by
              rw [htk.out] at hy
              rcases List.mem_append.1 hy with e | e
              · exact hR.out.1 y e
              · rw [List.mem_singleton.1 e]; exact h4', hR.out.2.alloc _⟩
            clear h4'
            go_wp2
            go_roundw
            case rel => exact ⟨k + 1, by omega, by go_num, hfin⟩
            case measure => simp [intOf]; omega
          · have h4' : ¬ x.r.length = 4 := by have : ¬ (x.r.length : Int) = 4 := by simpa using h4
                                              omega
            have hfin : Hid (E = 5) := hbad.out x (by simp [hxm.out]) h4'
            have hfB : Hid (Gr w (wr.alloc (.cells #[.slice x.p x.r.length x.c, .int .i64 x.n] 45))) := hB3.out.1.trans (hR.out.2.alloc _)
            clear h4'
            go_wp2
            go_ret
            exact ⟨by rw [hfin.out]; rfl, hfB.out⟩
        · have hltz : ¬ (k : Int) < (a.length : Int) := by omega
          have hall : Hid (∀ x ∈ a, x.r.length = 4) := by
            have := hR.out.1
            rw [List.take_of_length_le (by omega)] at this
            exact this
          go_wp2
          rw [rounds_succ]
          have hallA : Hid (∀ x ∈ a, x.r.length = 4) := hall
          have hB4 : Hid (Gr w wr ∧ Lv wr B cb b) := ⟨hB3.out.1.trans hR.out.2, hB3.out.2.2.gr hR.out.2⟩
          clear hall hR hB3
          go_wp2
          generalize wr = w5 at hB4 ⊢
          go_loopw [32] (fun i wr => ∃ k : Nat, k ≤ b.length ∧ i = .int .i64 k ∧ Hid ((∀ x ∈ b.take k, x.r.length = 4) ∧ Gr w5 wr)) (fun i _ => b.length - (intOf i).toNat)
          case atStart => exact ⟨0, Nat.zero_le _, rfl, fun x hx => (by simp at hx), Gr.refl _⟩
          case round =>
            obtain ⟨k, hk, rfl, hR⟩ := hrel
            by_cases hlt : k < b.length
            · have hltz : (k : Int) < (b.length : Int) := by omega
              obtain ⟨bb, off, rfl, hb, hcs⟩ := (hB4.out.2.gr hR.out.2).items.at hlt
              obtain ⟨x, hx⟩ : ∃ x, b[k] = x := ⟨_, rfl⟩
              obtain ⟨e0, e1⟩ := hcs k hlt
              rw [hx] at e0 e1
              have hxm : Hid (x ∈ b) := by show _ ∈ _; rw [← hx]; exact List.getElem_mem hlt
              have htk : Hid (b.take (k + 1) = b.take k ++ [x]) := by show _ = _; rw [List.take_succ_eq_append_getElem hlt, hx]
              clear hcs hx
              cases h4 : ((x.r.length : Int) != 4)
              · have h4' : x.r.length = 4 := by have : (x.r.length : Int) = 4 := by simpa using h4
                                                omega
                have hfin : Hid ((∀ y ∈ b.take (k + 1), y.r.length = 4) ∧ Gr w5 (wr.alloc (.cells #[.slice x.p x.r.length x.c, .int .i64 x.n] 45))) := ⟨fun y hy => by
                  rw [htk.out] at hy
                  rcases List.mem_append.1 hy with e | e
                  · exact hR.out.1 y e
                  · rw [List.mem_singleton.1 e]; exact h4', hR.out.2.alloc _⟩
                clear h4'
                go_wp2
                go_roundw
                case rel => exact ⟨k + 1, by omega, by go_num, hfin⟩
                case measure => simp [intOf]; omega
              · have h4' : ¬ x.r.length = 4 := by have : ¬ (x.r.length : Int) = 4 := by simpa using h4
                                                  omega
                have hfin : Hid (E = 5) := hbad.out x (by simp [hxm.out]) h4'
                have hfB : Hid (Gr w (wr.alloc (.cells #[.slice x.p x.r.length x.c, .int .i64 x.n] 45))) := hB4.out.1.trans (hR.out.2.alloc _)
                clear h4'
                go_wp2
                go_ret
                exact ⟨by rw [hfin.out]; rfl, hfB.out⟩
            · have hltz : ¬ (k : Int) < (b.length : Int) := by omega
              have hallB : Hid (∀ x ∈ b, x.r.length = 4) := by
                have := hR.out.1
                rw [List.take_of_length_le (by omega)] at this
                exact this
              go_wp2
              rw [rounds_succ]
              go_wp2
              go_ret
              exact ⟨by rw [hgood.out hallA.out hallB.out]; rfl, hB4.out.1.trans hR.out.2⟩
    · have hfin : Hid (E3 = E) := by
        have hn : ¬ errZ (b.map Itm.z) = 0 := by rw [hEs.out.2.2.2]; simpa using h3
        show _ = _; rw [← hEs.out.1]; unfold tblE; rw [if_pos (by rw [hEs.out.2.2.1]; exact hE20), if_neg hn]; exact hEs.out.2.2.2.symm
      go_wp2_with (go_at_call 19; refine Calls.mono (hZb.out w2 hg2) ?_; rintro e w3 ⟨rfl, hg3⟩)
      go_ret
      exact ⟨by rw [← hfin.out]; rfl, hbW.out.1.trans (hg2.trans hg3)⟩
  · have hfin : Hid (E2 = E) := by
      have hn : ¬ errZ (a.map Itm.z) = 0 := by rw [hEs.out.2.2.1]; simpa using h2
      show _ = _; rw [← hEs.out.1]; unfold tblE; rw [if_neg hn]; exact hEs.out.2.2.1.symm
    go_wp2_with (go_at_call 19; refine Calls.mono (hZa.out w1 (Gr.refl _)) ?_; rintro e w2 ⟨rfl, hg2⟩)
    go_ret
    exact ⟨by rw [← hfin.out]; rfl, hbW.out.1.trans hg2⟩
end Go.Proofs.Ytgmdjioobidadaa
