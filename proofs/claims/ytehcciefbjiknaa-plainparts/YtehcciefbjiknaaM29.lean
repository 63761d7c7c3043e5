/-
  plain.Eval.
  The first steps of a query tell what they do alone; one more step.
-/
import Derived.Test.YtehcciefbjiknaaM28
namespace Go.Proofs.Ytehcciefbjiknaa
open Go.RowKit Go.Sort Go.Maps

theorem plnF_len {q : List Stp} {a b : List Zit} (h : plnE q a b = 0) : (plnF q a b).length = q.length ∧ 0 < q.length := by
  obtain ⟨h1, h2, h3⟩ := plnE_parts h
  obtain ⟨k1, _, _, k4, k5⟩ := ahdE_parts h1
  obtain ⟨q1, _, q3⟩ := errQ_wids k1
  obtain ⟨ah', m1, m2⟩ := all_right k4 k5 q [] [] q3 Ahd.nil h2
  rw [h3, m2]
  exact ⟨by simp, List.length_pos_iff.2 q1⟩
theorem evl_no {q : List Stp} {a b : List Zit} (h : ¬ plnE q a b = 0) : evlF q a b = [] := by
  unfold evlF plnF
  rw [if_neg h]
  rfl
set_option maxRecDepth 100000 in
set_option maxHeartbeats 1000000 in
theorem eval_any (q : List Stp) (QA : Option Addr) (cq : Nat) (a b : List Itm) (A B : Option Addr) (ca cb : Nat) (w : World) (hl : q.length ≤ maxLen) (hq : Stps w QA q) (ha : Lv w A ca a) (hb : Lv w B cb b) :
    Calls Try.prog 6 #[.slice QA q.length cq, .slice A a.length ca, .slice B b.length cb] w fun e w' => ∃ (L : List Itm) (C : Option Addr) (k : Nat), e = .returned (.tuple #[.slice C L.length k, .int .i64 (plnE q (a.map Itm.z) (b.map Itm.z))]) ∧ L.map Itm.z = evlF q (a.map Itm.z) (b.map Itm.z) ∧ Lv w' C k L ∧ Below w.heap.size w w' := by
  have hC0 := all_any q QA cq a b A B ca cb w hl hq ha hb
  obtain ⟨P, hP⟩ : ∃ P, plnE q (a.map Itm.z) (b.map Itm.z) = P := ⟨_, rfl⟩
  have hPH : Hid (plnE q (a.map Itm.z) (b.map Itm.z) = P) := hP
  rw [hP] at hC0 ⊢
  have hC : Hid _ := hC0
  clear hC0 hP hl hq ha hb
  go_enter Try.func6, Try.ntmps6
  go_wp2_with fail
  refine Calls.mono (show Calls _ _ _ _ _ from hC.out) ?_
  rintro e w1 ⟨ss, C, k, rfl, hS0, hb0⟩
  have hS : Hid (Sts w1 C ss (plnF q (a.map Itm.z) (b.map Itm.z)) ∧ Below w.heap.size w w1) := ⟨hS0, hb0⟩
  clear hC hS0 hb0
  cases h1 : (P != 0)
  · have hP0 : P = 0 := by simpa using h1
    have h0 : plnE q (a.map Itm.z) (b.map Itm.z) = 0 := by rw [hPH.out, hP0]
    have hlen := plnF_len h0
    have hsl : ss.length = q.length := by
      have := congrArg List.length hS.out.1.z
      simp at this
      omega
    obtain ⟨bb, off, n, x, rfl, hbb, hn, hnl, hxc, hxl, hxz⟩ := hS.out.1.at (i := ((q.length - 1 : Nat) : Int)) (by omega) (by rw [hlen.1]; omega)
    have hn' : n = q.length - 1 := by omega
    have hfin : Hid (x.l.map Itm.z = evlF q (a.map Itm.z) (b.map Itm.z) ∧ Lv w1 x.A x.cap x.l) := ⟨hxz, hxl⟩
    have hq8 := (errQ_wids (ahdE_parts (plnE_parts h0).1).1).2.1
    have hn8 : (n : Int) ≤ 8 := by omega
    have hwn : wrap64 (n : Int) = (n : Int) := by unfold wrap64; omega
    have hi2 : (ss.length : Int) - 1 = (n : Int) := by omega
    have hnz : (n : Int) < (ss.length : Int) := by omega
    clear hxl hxz hn hn' hsl hlen h0 hq8
    go_wp2
    go_ret2
    exact ⟨x.l, x.A, x.cap, by rw [hP0]; rfl, hfin.out.1, hfin.out.2, hS.out.2⟩
  · have hfin : Hid (evlF q (a.map Itm.z) (b.map Itm.z) = []) := evl_no (by rw [hPH.out]; simpa using h1)
    go_wp2
    go_ret2
    exact ⟨[], none, 0, rfl, by rw [hfin.out]; rfl, ⟨⟨Or.inl rfl, fun x hx => (by cases hx)⟩, fun _ => rfl, Nat.zero_le _⟩, hS.out.2⟩
end Go.Proofs.Ytehcciefbjiknaa

namespace Go.Proofs.Ytehcciefbjiknaa

theorem allE_append {a b : List Zit} : ∀ (q r : List Stp) (S : List (List Zit)), allE a b q S = 0 → allE a b (q ++ r) S = allE a b r (allF a b q S)
  | [], _, _, _ => rfl
  | s :: t, r, S, h => by
    obtain ⟨h1, h2, h3⟩ := allE_cons h
    rw [h3, ← allE_append t r _ h2]
    show (if tellE s a b S = 0 then _ else _) = _
    rw [if_pos h1]
    rfl
theorem allF_append {a b : List Zit} : ∀ (q r : List Stp) (S : List (List Zit)), allE a b q S = 0 → allF a b (q ++ r) S = allF a b r (allF a b q S)
  | [], _, _, _ => rfl
  | s :: t, r, S, h => by
    obtain ⟨h1, h2, h3⟩ := allE_cons h
    rw [h3, ← allF_append t r _ h2]
    show (if tellE s a b S = 0 then _ else _) = _
    rw [if_pos h1]
    rfl
theorem allE_left {a b : List Zit} : ∀ (q r : List Stp) (S : List (List Zit)), allE a b (q ++ r) S = 0 → allE a b q S = 0
  | [], _, _, _ => rfl
  | s :: t, r, S, h => by
    obtain ⟨h1, h2, _⟩ := allE_cons (t := t ++ r) h
    show (if tellE s a b S = 0 then _ else _) = _
    rw [if_pos h1]
    exact allE_left t r _ h2
theorem allF_pre {a b : List Zit} : ∀ (r : List Stp) (S : List (List Zit)), allE a b r S = 0 → ∀ i, i < S.length → (allF a b r S).getD i [] = S.getD i []
  | [], _, _, _, _ => rfl
  | s :: t, S, h, i, hi => by
    obtain ⟨_, h2, h3⟩ := allE_cons h
    rw [h3, allF_pre t _ h2 i (by simp; omega), getD_snoc, if_pos hi]
theorem widsF_append : ∀ (q r : List Stp) (ah : List Int), widsF (q ++ r) ah = (widsF q ah).bind (widsF r)
  | [], _, _ => rfl
  | s :: t, r, ah => by
    show (if widW s ah = 0 then none else widsF (t ++ r) (ah ++ [widW s ah])) = (if widW s ah = 0 then none else widsF t (ah ++ [widW s ah])).bind (widsF r)
    by_cases e : widW s ah = 0
    · rw [if_pos e, if_pos e]; rfl
    · rw [if_neg e, if_neg e]; exact widsF_append t r _
theorem widsF_left {q r : List Stp} (h : (widsF (q ++ r) []).isSome = true) : (widsF q []).isSome = true := by
  rw [widsF_append] at h
  cases e : widsF q [] with
  | none => rw [e] at h; cases h
  | some l => rfl
theorem errQ_ok {q : List Stp} (h1 : q ≠ []) (h2 : q.length ≤ 8) (h3 : (widsF q []).isSome = true) : errQ q = 0 := by
  unfold errQ
  rw [if_neg (by have := List.length_pos_iff.2 h1; omega), if_neg (by omega), if_pos h3]
theorem ahdE_q {q q' : List Stp} {a b : List Zit} (h : ahdE q a b = 0) (hq : errQ q' = 0) : ahdE q' a b = 0 := by
  unfold ahdE at h ⊢
  rw [if_pos hq]
  have h1 := (ahdE_parts (q := q) (a := a) (b := b) (by unfold ahdE; exact h)).1
  rw [if_pos h1] at h
  exact h
/-- The first steps. -/
theorem first_steps {q : List Stp} {a b : List Zit} (h : plnE q a b = 0) {k : Nat} (hk : k < q.length) : plnE (q.take (k + 1)) a b = 0 ∧ evlF (q.take (k + 1)) a b = (plnF q a b).getD k [] := by
  obtain ⟨h1, h2, h3⟩ := plnE_parts h
  obtain ⟨q1, q2, q3⟩ := errQ_wids (ahdE_parts h1).1
  have hq : q = q.take (k + 1) ++ q.drop (k + 1) := (List.take_append_drop _ _).symm
  have hl : (q.take (k + 1)).length = k + 1 := by simp; omega
  have e1 : allE a b (q.take (k + 1)) [] = 0 := allE_left _ (q.drop (k + 1)) [] (by rw [← hq]; exact h2)
  have e2 : errQ (q.take (k + 1)) = 0 := errQ_ok (fun e => by rw [e] at hl; cases hl) (by omega) (widsF_left (r := q.drop (k + 1)) (by rw [← hq]; exact q3))
  have e3 : ahdE (q.take (k + 1)) a b = 0 := ahdE_q h1 e2
  have e4 : plnE (q.take (k + 1)) a b = 0 := by unfold plnE; rw [if_pos e3]; exact e1
  refine ⟨e4, ?_⟩
  obtain ⟨_, _, e5⟩ := plnE_parts e4
  have hw := (ahdE_parts h1).2.2.2
  obtain ⟨_, m1, m2⟩ := all_right hw.1 hw.2 (q.take (k + 1)) [] [] (errQ_wids e2).2.2 Ahd.nil e1
  unfold evlF
  rw [e5, h3, hl]
  have : allF a b q [] = allF a b (q.drop (k + 1)) (allF a b (q.take (k + 1)) []) := by rw [← allF_append _ _ _ e1, ← hq]
  rw [this, allF_pre _ _ (by rw [← allE_append _ _ _ e1, ← hq]; exact h2) k (by rw [m2, hl]; simp)]
  simp
/-- The widths behind a query's steps. -/
theorem ahd_of {q : List Stp} {a b : List Zit} (h : plnE q a b = 0) : ∃ ah, widsF q [] = some ah ∧ Ahd (plnF q a b) ah ∧ (∀ x ∈ ah, x ≠ 0) := by
  obtain ⟨h1, h2, h3⟩ := plnE_parts h
  obtain ⟨q1, q2, q3⟩ := errQ_wids (ahdE_parts h1).1
  have hw := (ahdE_parts h1).2.2.2
  rw [h3]
  have key : ∀ (r : List Stp) (S : List (List Zit)) (ah : List Int), (widsF r ah).isSome = true → Ahd S ah → (∀ x ∈ ah, x ≠ 0) → allE a b r S = 0 → ∃ ah', widsF r ah = some ah' ∧ Ahd (allF a b r S) ah' ∧ ∀ x ∈ ah', x ≠ 0 := by
    intro r
    induction r with
    | nil => intro S ah _ hS hn _; exact ⟨ah, rfl, hS, hn⟩
    | cons s t ih =>
      intro S ah hw' hS hn he
      obtain ⟨w1, w2⟩ := widsF_cons hw'
      obtain ⟨e1, e2, e3⟩ := allE_cons he
      obtain ⟨r1, r2⟩ := tell_right w1 hS hw.1 hw.2 e1
      obtain ⟨ah', k1, k2, k3⟩ := ih _ _ w2 (hS.snoc r1 r2) (fun x hx => by
        rcases List.mem_append.1 hx with e | e
        · exact hn x e
        · rw [List.mem_singleton.1 e]; exact w1) e2
      refine ⟨ah', ?_, by rw [e3]; exact k2, k3⟩
      show (if widW s ah = 0 then none else widsF t (ah ++ [widW s ah])) = _
      rw [if_neg w1]; exact k1
  exact key q [] [] q3 Ahd.nil (fun x hx => by cases hx) h2
/-- One more step. -/
theorem one_more {q : List Stp} {a b : List Zit} (h : plnE q a b = 0) (h7 : q.length ≤ 7) {ah : List Int} (hah : widsF q [] = some ah) {s : Stp} (hw : widW s ah ≠ 0) (ht : tellE s a b (plnF q a b) = 0) : plnE (q ++ [s]) a b = 0 ∧ plnF (q ++ [s]) a b = plnF q a b ++ [tellF s a b (plnF q a b)] ∧ evlF (q ++ [s]) a b = tellF s a b (plnF q a b) := by
  obtain ⟨h1, h2, h3⟩ := plnE_parts h
  have hw2 : (widsF (q ++ [s]) []).isSome = true := by
    rw [widsF_append, hah]
    show (if widW s ah = 0 then none else widsF [] (ah ++ [widW s ah])).isSome = true
    rw [if_neg hw]; rfl
  have e2 : errQ (q ++ [s]) = 0 := errQ_ok (by simp) (by simp; omega) hw2
  have e3 := ahdE_q h1 e2
  have e4 : allE a b (q ++ [s]) [] = 0 := by
    rw [allE_append _ _ _ h2, ← h3]
    show (if tellE s a b (plnF q a b) = 0 then 0 else _) = 0
    rw [if_pos ht]
  have e5 : plnE (q ++ [s]) a b = 0 := by unfold plnE; rw [if_pos e3]; exact e4
  have e6 : plnF (q ++ [s]) a b = plnF q a b ++ [tellF s a b (plnF q a b)] := by
    obtain ⟨_, _, k⟩ := plnE_parts e5
    rw [k, allF_append _ _ _ h2, ← h3]
    show (if tellE s a b (plnF q a b) = 0 then _ else _) = _
    rw [if_pos ht]; rfl
  refine ⟨e5, e6, ?_⟩
  have hl := (plnF_len h).1
  unfold evlF
  rw [e6, getD_snoc, hl]
  simp
theorem dist_right {l : List Zit} (h : errZ l = 0) : normE (distL l) = 0 ∧ normL (distL l) = distL l ∧ errZ (distL l) = 0 ∧ distL (distL l) = distL l := by
  obtain ⟨h1, h2, h3⟩ := (errZ_iff l).1 h
  have hrise : Rise (distL l) := by
    unfold distL Rise
    rw [List.pairwise_map]
    exact (h3.filter _)
  have hmem : ∀ x ∈ distL l, okR x.1 = true ∧ x.2 = 1 := fun x hx => by
    unfold distL at hx
    obtain ⟨y, hy, rfl⟩ := List.mem_map.1 hx
    exact ⟨(okZ_parts (h2 y (List.mem_filter.1 hy).1)).1, rfl⟩
  have hok : ∀ x ∈ distL l, okZ x = true := fun x hx => by
    obtain ⟨k1, k2⟩ := hmem x hx
    unfold okZ
    rw [k1, k2]; rfl
  have hlen : (distL l).length ≤ 400 := by
    unfold distL
    rw [List.length_map]
    exact Nat.le_trans (List.length_filter_le _ _) h1
  have herr : errZ (distL l) = 0 := (errZ_iff _).2 ⟨hlen, hok, hrise⟩
  have htot : distL l = totL (distL l) := IsTot.eq ⟨hrise, okZ_noz hok, fun _ => rfl⟩
  have hE : normE (distL l) = 0 := by
    unfold normE
    rw [if_neg (by omega), if_pos]
    · unfold totE
      rw [← htot, if_pos]
      rw [List.all_eq_true]
      intro x hx
      rw [(hmem x hx).2]; rfl
    · rw [List.all_eq_true]
      intro x hx
      rw [(hmem x hx).1, (hmem x hx).2]; rfl
  refine ⟨hE, ?_, herr, ?_⟩
  · unfold normL; rw [if_pos hE, ← htot]
  · have key : ∀ m : List Zit, (∀ x ∈ m, x.2 = 1) → distL m = m := fun m hm => by
      unfold distL
      rw [List.filter_eq_self.2 (fun x hx => by rw [hm x hx]; rfl)]
      have : m.map (fun x => (x.1, (1 : Int))) = m.map id := List.map_congr_left fun x hx => by
        have := hm x hx
        cases x
        simp at this
        simp [this]
      rw [this, List.map_id]
    exact key _ fun x hx => (hmem x hx).2
end Go.Proofs.Ytehcciefbjiknaa
