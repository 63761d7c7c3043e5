/-
  plain.Eval.
  Rows in an order, on plain lists.
-/
import Derived.Test.YtgmdjioobidadaaM29
import Derived.Test.YtgmdjioobidadaaM06
namespace Go.Proofs.Ytgmdjioobidadaa
open Go.RowKit Go.Sort Go.Maps

theorem plnF_len {q : List Stp} {a b : List Zit} (h : plnE q a b = 0) : (plnF q a b).length = q.length ∧ 0 < q.length := by
  obtain ⟨h1, h2, h3⟩ := plnE_parts h
  obtain ⟨k1, _, _, k4, k5⟩ := ahdE_parts h1
  obtain ⟨q1, _, q3⟩ := errQ_wids k1
  obtain ⟨ah', m1, m2⟩ := all_right k4 k5 q [] [] q3 Ahd.nil h2
  rw [h3, m2]
  exact ⟨by simp, List.length_pos_iff.2 q1⟩
theorem evl_no {q : List Stp} {a b : List Zit} (h : ¬ plnE q a b = 0) : evlF q a b = [] := by
  unfold evlF plnF
  rw [if_neg h]
  rfl
theorem Sts.atm {w : World} {A : Option Addr} {ss : List Sl} {S : List (List Zit)} (h : Sts w A ss S) {i : Int} (h0 : 0 ≤ i) (hi : i.toNat < S.length) : ∃ (b off n : Nat) (x : Sl), A = some ⟨b, off, none⟩ ∧ b < w.heap.size ∧ i = n ∧ n < ss.length ∧ w.cell? ⟨b, off + n, none⟩ = some (.slice x.A x.l.length x.cap) ∧ Lv w x.A x.cap x.l ∧ x.l.map Itm.z = getS S i ∧ ss[n]? = some x := by
  have hl : i.toNat < ss.length := by
    have := congrArg List.length h.z
    simp at this
    omega
  obtain ⟨b, off, hA, hb, hc⟩ := h.row.at hl
  refine ⟨b, off, i.toNat, ss[i.toNat], hA, hb, by omega, hl, ?_, h.each _ (List.getElem_mem hl), ?_, List.getElem?_eq_getElem hl⟩
  · have := hc i.toNat hl 0 (by omega)
    simpa [encS] using this
  · unfold getS
    rw [← h.z, List.getD_eq_getElem?_getD, List.getElem?_map, List.getElem?_eq_getElem hl]
    rfl
set_option maxRecDepth 100000 in
set_option maxHeartbeats 1000000 in
theorem eval_new (q : List Stp) (QA : Option Addr) (cq : Nat) (a b : List Itm) (A B : Option Addr) (ca cb : Nat) (w : World) (hl : q.length ≤ maxLen) (hq : Stps w QA q) (ha : Lv w A ca a) (hb : Lv w B cb b) :
    Calls Try.prog 7 #[.slice QA q.length cq, .slice A a.length ca, .slice B b.length cb] w fun e w' => ∃ (L : List Itm) (C : Option Addr) (k : Nat), e = .returned (.tuple #[.slice C L.length k, .int .i64 (plnE q (a.map Itm.z) (b.map Itm.z))]) ∧ L.map Itm.z = evlF q (a.map Itm.z) (b.map Itm.z) ∧ Lv w' C k L ∧ Below w.heap.size w w' ∧ NwT w' k w.heap.size C L := by
  have hC0 := all_new q QA cq a b A B ca cb w hl hq ha hb
  obtain ⟨P, hP⟩ : ∃ P, plnE q (a.map Itm.z) (b.map Itm.z) = P := ⟨_, rfl⟩
  have hPH : Hid (plnE q (a.map Itm.z) (b.map Itm.z) = P) := hP
  rw [hP] at hC0 ⊢
  have hC : Hid _ := hC0
  clear hC0 hP hl hq ha hb
  go_enter Try.func7, Try.ntmps7
  go_wp2_with fail
  refine Calls.mono (show Calls _ _ _ _ _ from hC.out) ?_
  rintro e w1 ⟨ss, C, k, rfl, hS0, hb0, hn0⟩
  have hS : Hid (Sts w1 C ss (plnF q (a.map Itm.z) (b.map Itm.z)) ∧ Below w.heap.size w w1) := ⟨hS0, hb0⟩
  have hNS : Hid (NewS w1 w.heap.size C k ss) := hn0
  clear hC hS0 hb0 hn0
  cases h1 : (P != 0)
  · have hP0 : P = 0 := by simpa using h1
    have h0 : plnE q (a.map Itm.z) (b.map Itm.z) = 0 := by rw [hPH.out, hP0]
    have hlen := plnF_len h0
    have hsl : ss.length = q.length := by
      have := congrArg List.length hS.out.1.z
      simp at this
      omega
    obtain ⟨bb, off, n, x, rfl, hbb, hn, hnl, hxc, hxl, hxz, hxm⟩ := hS.out.1.atm (i := ((q.length - 1 : Nat) : Int)) (by omega) (by rw [hlen.1]; omega)
    have hn' : n = q.length - 1 := by omega
    have hfin : Hid (x.l.map Itm.z = evlF q (a.map Itm.z) (b.map Itm.z) ∧ Lv w1 x.A x.cap x.l) := ⟨hxz, hxl⟩
    have hNw : Hid (NwT w1 x.cap w.heap.size x.A x.l) := hNS.out.each x (List.mem_of_getElem? hxm)
    have hq8 := (errQ_wids (ahdE_parts (plnE_parts h0).1).1).2.1
    have hn8 : (n : Int) ≤ 8 := by omega
    have hwn : wrap64 (n : Int) = (n : Int) := by unfold wrap64; omega
    have hi2 : (ss.length : Int) - 1 = (n : Int) := by omega
    have hnz : (n : Int) < (ss.length : Int) := by omega
    clear hxl hxz hxm hn hn' hsl hlen h0 hq8
    go_wp2
    go_ret2
    exact ⟨x.l, x.A, x.cap, by rw [hP0]; rfl, hfin.out.1, hfin.out.2, hS.out.2, hNw.out⟩
  · have hfin : Hid (evlF q (a.map Itm.z) (b.map Itm.z) = []) := evl_no (by rw [hPH.out]; simpa using h1)
    go_wp2
    go_ret2
    exact ⟨[], none, 0, rfl, by rw [hfin.out]; rfl, ⟨⟨Or.inl rfl, fun x hx => (by cases hx)⟩, fun _ => rfl, Nat.zero_le _⟩, hS.out.2, NwT.none _ _⟩
theorem eval_any (q : List Stp) (QA : Option Addr) (cq : Nat) (a b : List Itm) (A B : Option Addr) (ca cb : Nat) (w : World) (hl : q.length ≤ maxLen) (hq : Stps w QA q) (ha : Lv w A ca a) (hb : Lv w B cb b) :
    Calls Try.prog 7 #[.slice QA q.length cq, .slice A a.length ca, .slice B b.length cb] w fun e w' => ∃ (L : List Itm) (C : Option Addr) (k : Nat), e = .returned (.tuple #[.slice C L.length k, .int .i64 (plnE q (a.map Itm.z) (b.map Itm.z))]) ∧ L.map Itm.z = evlF q (a.map Itm.z) (b.map Itm.z) ∧ Lv w' C k L ∧ Below w.heap.size w w' :=
  (eval_new q QA cq a b A B ca cb w hl hq ha hb).mono fun _ _ ⟨L, C, k, h1, h2, h3, h4, _⟩ => ⟨L, C, k, h1, h2, h3, h4⟩
end Go.Proofs.Ytgmdjioobidadaa

namespace Go.Proofs.Ytgmdjioobidadaa

/-- The column that a number speaks of. -/
def colB (n : Int) : Nat := (if n < 0 then -n - 1 else n - 1).toNat
def sgnB (n : Int) : Int := if n < 0 then -1 else 1
theorem sgnB_cases (n : Int) : sgnB n = -1 ∧ n < 0 ∨ sgnB n = 1 ∧ 0 ≤ n := by
  unfold sgnB
  by_cases h : n < 0
  · rw [if_pos h]; exact Or.inl ⟨rfl, h⟩
  · rw [if_neg h]; exact Or.inr ⟨rfl, by omega⟩
/-- The order by some columns. -/
def cmpB : List Int → List Int → List Int → Int
  | [], a, b => cmpL a b
  | n :: t, a, b => if cmpI (a.getD (colB n) 0) (b.getD (colB n) 0) = 0 then cmpB t a b else sgnB n * cmpI (a.getD (colB n) 0) (b.getD (colB n) 0)
theorem cmpI_flip (x y : Int) : cmpI y x = -cmpI x y := by
  rcases cmpI_cases x y with ⟨e, h⟩ | ⟨e, h⟩ | ⟨e, h⟩ <;> rcases cmpI_cases y x with ⟨f, k⟩ | ⟨f, k⟩ | ⟨f, k⟩ <;> omega
theorem cmpB_flip : ∀ (cs a b : List Int), cmpB cs b a = -cmpB cs a b
  | [], a, b => cmpL_flip a b
  | n :: t, a, b => by
    unfold cmpB
    rw [cmpI_flip (a.getD (colB n) 0)]
    by_cases h : cmpI (a.getD (colB n) 0) (b.getD (colB n) 0) = 0
    · rw [if_pos (by omega), if_pos h]; exact cmpB_flip t a b
    · rw [if_neg (by omega), if_neg h, Int.mul_neg]
theorem cmpB_self (cs a : List Int) : cmpB cs a a = 0 := by have := cmpB_flip cs a a; omega
theorem cmpB_eq : ∀ (cs a b : List Int), cmpB cs a b = 0 → a = b
  | [], a, b, h => cmpL_eq a b h
  | n :: t, a, b, h => by
    unfold cmpB at h
    by_cases k : cmpI (a.getD (colB n) 0) (b.getD (colB n) 0) = 0
    · rw [if_pos k] at h; exact cmpB_eq t a b h
    · rw [if_neg k] at h
      rcases sgnB_cases n with ⟨e, _⟩ | ⟨e, _⟩ <;> rw [e] at h <;> omega
theorem cmpB_trans : ∀ (cs a b c : List Int), cmpB cs a b ≤ 0 → cmpB cs b c ≤ 0 → cmpB cs a c ≤ 0 ∧ (cmpB cs a b < 0 ∨ cmpB cs b c < 0 → cmpB cs a c < 0)
  | [], a, b, c, h, k => cmpL_trans a b c h k
  | n :: t, a, b, c, h, k => by
    unfold cmpB at h k ⊢
    generalize a.getD (colB n) 0 = x at *
    generalize b.getD (colB n) 0 = y at *
    generalize c.getD (colB n) 0 = z at *
    rcases cmpI_cases x y with ⟨e1, h1⟩ | ⟨e1, h1⟩ | ⟨e1, h1⟩ <;> rcases cmpI_cases y z with ⟨e2, h2⟩ | ⟨e2, h2⟩ | ⟨e2, h2⟩ <;> rcases cmpI_cases x z with ⟨e3, h3⟩ | ⟨e3, h3⟩ | ⟨e3, h3⟩ <;> (try omega) <;> rw [e1] at h ⊢ <;> rw [e2] at k ⊢ <;> rw [e3] <;> simp only [if_pos, Int.reduceNeg, Int.reduceEq, if_false] at h k ⊢ <;> first
      | exact cmpB_trans t a b c h k
      | (rcases sgnB_cases n with ⟨es, _⟩ | ⟨es, _⟩ <;> rw [es] at h k ⊢ <;> omega)
      | (rcases sgnB_cases n with ⟨es, _⟩ | ⟨es, _⟩ <;> rw [es] at h ⊢ <;> omega)
      | (rcases sgnB_cases n with ⟨es, _⟩ | ⟨es, _⟩ <;> rw [es] at k ⊢ <;> omega)
/-- Each row as many times as it is there. -/
def expL (l : List Zit) : List (List Int) := l.flatMap fun x => List.replicate x.2.toNat x.1
def leB (cs a b : List Int) : Prop := cmpB cs a b ≤ 0
/-- The rows, in order. -/
def rowsB (cs : List Int) (l : List Zit) : List (List Int) := (expL l).mergeSort fun a b => decide (cmpB cs a b ≤ 0)
theorem rowsB_sorted (cs : List Int) (l : List Zit) : (rowsB cs l).Pairwise (leB cs) := by
  have h := List.pairwise_mergeSort (le := fun a b => decide (cmpB cs a b ≤ 0)) (fun a b c h k => by
    simp only [decide_eq_true_eq] at *
    exact (cmpB_trans cs a b c h k).1) (fun a b => by
    have := cmpB_flip cs a b
    simp only [Bool.or_eq_true, decide_eq_true_eq]
    omega) (expL l)
  exact h.imp fun h => by simpa [leB] using h
theorem rowsB_perm (cs : List Int) (l : List Zit) : (rowsB cs l).Perm (expL l) := List.mergeSort_perm _ _
theorem leB_anti {cs a b : List Int} (h : leB cs a b) (k : leB cs b a) : a = b := by
  unfold leB at h k
  have := cmpB_flip cs a b
  exact cmpB_eq cs a b (by omega)
theorem sortedB_eq {cs : List Int} {l m : List (List Int)} (h : l.Pairwise (leB cs)) (k : m.Pairwise (leB cs)) (p : l.Perm m) : l = m :=
  p.eq_of_pairwise (fun _ _ _ _ => leB_anti) h k
theorem rowsB_is {cs : List Int} {l : List Zit} {R : List (List Int)} (hp : R.Perm (expL l)) (hs : R.Pairwise (leB cs)) : R = rowsB cs l := sortedB_eq hs (rowsB_sorted cs l) (hp.trans (rowsB_perm cs l).symm)
theorem expL_cons (x : Zit) (l : List Zit) : expL (x :: l) = List.replicate x.2.toNat x.1 ++ expL l := rfl
theorem expL_append (a b : List Zit) : expL (a ++ b) = expL a ++ expL b := List.flatMap_append
theorem expL_perm {a b : List Zit} (h : a.Perm b) : (expL a).Perm (expL b) := h.flatMap_right _
theorem mem_expL {l : List Zit} {r : List Int} (h : r ∈ expL l) : ∃ x ∈ l, x.1 = r ∧ 0 < x.2 := by
  obtain ⟨x, hx, h2⟩ := List.mem_flatMap.1 h
  obtain ⟨h3, h4⟩ := List.mem_replicate.1 h2
  exact ⟨x, hx, h4.symm, by omega⟩
theorem expL_sorted {cs : List Int} : ∀ {l : List Zit}, l.Pairwise (fun x y => cmpB cs x.1 y.1 ≤ 0) → (expL l).Pairwise (leB cs)
  | [], _ => List.Pairwise.nil
  | x :: l, h => by
    rw [expL_cons, List.pairwise_append]
    obtain ⟨h1, h2⟩ := List.pairwise_cons.1 h
    refine ⟨?_, expL_sorted h2, fun a ha b hb => ?_⟩
    · exact List.pairwise_replicate.2 (Or.inr (by unfold leB; rw [cmpB_self]; omega))
    · obtain ⟨_, rfl⟩ := List.mem_replicate.1 ha
      obtain ⟨y, hy, rfl, _⟩ := mem_expL hb
      exact h1 y hy
/-- What a sorted list of items tells. -/
theorem rowsB_of {cs : List Int} {l S : List Zit} (hp : S.Perm l) (hs : S.Pairwise (fun x y => cmpB cs x.1 y.1 ≤ 0)) : expL S = rowsB cs l := rowsB_is (expL_perm hp) (expL_sorted hs)
/-- Copies of a row are put where it belongs. -/
theorem ins_sorted {cs : List Int} {R : List (List Int)} {r : List Int} {k n : Nat} (hR : R.Pairwise (leB cs)) (hk : k ≤ R.length) (h1 : ∀ j (h : j < R.length), j < k → ¬ cmpB cs r R[j] < 0) (h2 : ∀ h : k < R.length, cmpB cs r R[k] < 0) :
    (R.take k ++ (List.replicate n r ++ R.drop k)).Pairwise (leB cs) := by
  have hsplit : R.take k ++ R.drop k = R := List.take_append_drop k R
  have hp := hR
  rw [← hsplit, List.pairwise_append] at hp
  obtain ⟨p1, p2, p3⟩ := hp
  have hd : ∀ b ∈ R.drop k, leB cs r b := fun b hb => by
    obtain ⟨j, hj, rfl⟩ := List.getElem_of_mem hb
    rw [List.length_drop] at hj
    have h0 := h2 (by omega)
    rw [List.getElem_drop]
    by_cases e : j = 0
    · subst e; unfold leB; simp only [Nat.add_zero]; omega
    · have h3 := List.pairwise_iff_getElem.1 hR k (k + j) (by omega) (by omega) (by omega)
      exact (cmpB_trans cs r R[k] R[k + j] (by omega) h3).1
  rw [List.pairwise_append]
  refine ⟨p1, ?_, fun a ha b hb => ?_⟩
  · rw [List.pairwise_append]
    exact ⟨List.pairwise_replicate.2 (Or.inr (by unfold leB; rw [cmpB_self]; omega)), p2, fun a ha b hb => by obtain ⟨_, rfl⟩ := List.mem_replicate.1 ha; exact hd b hb⟩
  · rcases List.mem_append.1 hb with e | e
    · obtain ⟨_, rfl⟩ := List.mem_replicate.1 e
      obtain ⟨j, hj, rfl⟩ := List.getElem_of_mem ha
      rw [List.length_take] at hj
      rw [List.getElem_take]
      have h3 := h1 j (by omega) (by omega)
      have := cmpB_flip cs b R[j]
      unfold leB
      omega
    · exact p3 a ha b e
theorem ins_perm {R : List (List Int)} {l : List Zit} {x : Zit} {k : Nat} (h : R.Perm (expL l)) : (R.take k ++ (List.replicate x.2.toNat x.1 ++ R.drop k)).Perm (expL (l ++ [x])) := by
  rw [expL_append]
  have e : expL [x] = List.replicate x.2.toNat x.1 := by show _ ++ [] = _; rw [List.append_nil]
  rw [e]
  refine (List.perm_append_comm_assoc _ _ _).trans ?_
  rw [List.take_append_drop]
  exact List.perm_append_comm.trans (h.append_right _)

/-- Is a list of items one whose rows can be put in an order one by one? -/
def fitB (l : List Zit) : Bool := l.all fun x => decide (0 ≤ x.2) && decide (x.2 ≤ 400) && decide (x.1.length = (l.headD ([], 0)).1.length)
def widB (l : List Zit) : Int := if l = [] then 8 else ((l.headD ([], 0)).1.length : Int)
def colsB (cs : List Int) (w : Int) : Bool := decide (cs.length ≤ 8) && cs.all fun n => decide (n ≠ 0) && decide (-w ≤ n) && decide (n ≤ w)
/-- What Rows's error is. -/
def rnkE (l : List Zit) (cs : List Int) (most : Int) : Int := if errZ l = 0 then (if fitB l = true then (if (colsB cs (widB l) && inB most 0 400) = true then 0 else 1) else 5) else errZ l
/-- What Rows tells. -/
def rnkL (l : List Zit) (cs : List Int) (most : Int) : List (List Int) := if rnkE l cs most = 0 then (rowsB cs l).take most.toNat else []
theorem rnkE_parts {l : List Zit} {cs : List Int} {most : Int} (h : rnkE l cs most = 0) : errZ l = 0 ∧ fitB l = true ∧ colsB cs (widB l) = true ∧ inB most 0 400 = true := by
  unfold rnkE at h
  by_cases h1 : errZ l = 0
  · rw [if_pos h1] at h
    by_cases h2 : fitB l = true
    · rw [if_pos h2] at h
      by_cases h3 : (colsB cs (widB l) && inB most 0 400) = true
      · rw [Bool.and_eq_true] at h3; exact ⟨h1, h2, h3⟩
      · rw [if_neg h3] at h; cases h
    · rw [if_neg h2] at h; cases h
  · rw [if_neg h1] at h; exact absurd h h1
theorem fitB_parts {l : List Zit} (h : fitB l = true) : ∀ x ∈ l, 0 ≤ x.2 ∧ x.2 ≤ 400 ∧ x.1.length = (l.headD ([], 0)).1.length := fun x hx => by
  have := List.all_eq_true.1 h x hx
  simp only [Bool.and_eq_true, decide_eq_true_eq] at this
  exact ⟨this.1.1, this.1.2, this.2⟩
/-- A column that may be asked of each row. -/
theorem cols_in {l : List Zit} {cs : List Int} (hf : fitB l = true) (hc : colsB cs (widB l) = true) : ∀ n ∈ cs, ∀ x ∈ l, n ≠ 0 ∧ -(x.1.length : Int) ≤ n ∧ n ≤ (x.1.length : Int) ∧ colB n < x.1.length := by
  intro n hn x hx
  unfold colsB at hc
  rw [Bool.and_eq_true] at hc
  have h1 := List.all_eq_true.1 hc.2 n hn
  have h2 := (fitB_parts hf x hx).2.2
  have h3 : l ≠ [] := fun e => by rw [e] at hx; cases hx
  unfold widB at h1
  rw [if_neg h3, ← h2] at h1
  simp only [Bool.and_eq_true, decide_eq_true_eq] at h1
  refine ⟨h1.1.1, h1.1.2, h1.2, ?_⟩
  unfold colB
  split <;> omega
theorem expL_len (l : List Zit) : ((expL l).length : Int) = (l.map fun x => (x.2.toNat : Int)).sum := by
  induction l with
  | nil => rfl
  | cons x t ih => rw [expL_cons, List.length_append, List.length_replicate, List.map_cons, List.sum_cons, ← ih]; omega
theorem expL_small {l : List Zit} (hl : l.length ≤ 400) (h : ∀ x ∈ l, x.2 ≤ 400) : (expL l).length ≤ 160000 := by
  have : ∀ (m : List Zit), (∀ x ∈ m, x.2 ≤ 400) → (expL m).length ≤ m.length * 400 := fun m hm => by
    induction m with
    | nil => simp [expL]
    | cons x t ih =>
      have h1 := ih fun y hy => hm y (List.mem_cons_of_mem _ hy)
      have h2 := hm x (List.mem_cons_self ..)
      rw [expL_cons, List.length_append, List.length_replicate, List.length_cons]
      omega
  have := this l h
  omega
end Go.Proofs.Ytgmdjioobidadaa
