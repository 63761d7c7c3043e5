/-
  Plain facts: dots sorted; what fold makes of sorted dots, told dot by dot.
-/
import Derived.Test.YtknjeajdiibafaaMake
namespace Go.Proofs.Ytknjeajdiibafaa
open Go.RowKit Go.Sort

/-- x does not stand behind y. -/
def leD (x y : Int × Int) : Prop := befB y x = false
theorem leD_iff (x y : Int × Int) : leD x y ↔ x.1 < y.1 ∨ (x.1 = y.1 ∧ x.2 ≤ y.2) := by
  unfold leD
  rw [befB_not]
  omega
theorem leD_refl (x : Int × Int) : leD x x := by rw [leD_iff]; omega
theorem leD_trans {x y z : Int × Int} (h : leD x y) (k : leD y z) : leD x z := by rw [leD_iff] at *; omega
theorem leD_anti {x y : Int × Int} (h : leD x y) (k : leD y x) : x = y := by rw [leD_iff] at *; exact Prod.ext (by omega) (by omega)
theorem leD_total (x y : Int × Int) : leD x y ∨ leD y x := by rw [leD_iff, leD_iff]; omega

theorem srt_sorted (l : List (Int × Int)) : (srt l).Pairwise leD := by
  unfold srt
  have h := List.pairwise_mergeSort (le := fun x y : Int × Int => !ltOf ordI y x) (by
    intro a b c h1 h2
    simp only [ltD, Bool.not_eq_true'] at *
    exact leD_trans (x := a) (y := b) (z := c) h1 h2) (by
    intro a b
    simp only [ltD, Bool.or_eq_true, Bool.not_eq_true']
    exact leD_total a b) l
  refine h.imp ?_
  intro a b hab
  simp only [ltD, Bool.not_eq_true'] at hab
  exact hab
theorem srt_perm (l : List (Int × Int)) : (srt l).Perm l := List.mergeSort_perm l _
theorem sorted_eq {l m : List (Int × Int)} (h : l.Pairwise leD) (k : m.Pairwise leD) (p : l.Perm m) : l = m :=
  List.Perm.eq_of_pairwise (fun _ _ _ _ h1 h2 => leD_anti h1 h2) h k p
theorem srt_eq {l m : List (Int × Int)} (p : l.Perm m) : srt l = srt m := sorted_eq (srt_sorted l) (srt_sorted m) (((srt_perm l).trans p).trans (srt_perm m).symm)
theorem srt_self {l : List (Int × Int)} (h : l.Pairwise leD) : srt l = l := sorted_eq (srt_sorted l) h (srt_perm l)

/-- fold, dot by dot. -/
def foldP (c : Ctx) (p : Option (Int × Int)) : List (Int × Int) → Ctx
  | [] => c
  | x :: r => foldP (step c p x) (some x) r

theorem foldP_snoc (l : List (Int × Int)) : ∀ (c : Ctx) (p : Option (Int × Int)) (x : Int × Int), foldP c p (l ++ [x]) = step (foldP c p l) (l.getLast?.or p) x := by
  induction l with
  | nil => intro c p x; rfl
  | cons y l ih =>
    intro c p x
    show foldP (step c p y) (some y) (l ++ [x]) = _
    rw [ih]
    show _ = step (foldP (step c p y) (some y) l) ((y :: l).getLast?.or p) x
    congr 1
    cases h : l.getLast? with
    | none =>
      obtain rfl : l = [] := by simpa using h
      rfl
    | some z => simp [List.getLast?_cons, h]

theorem foldTo_take (c : Ctx) (l : List (Int × Int)) : ∀ k, k ≤ l.length → foldTo c l k = foldP c none (l.take k) := by
  intro k
  induction k with
  | zero => intro _; rfl
  | succ k ih =>
    intro hk
    have hk' : k < l.length := by omega
    rw [List.take_succ_eq_append_getElem hk', foldP_snoc, ← ih (by omega)]
    show step (foldTo c l k) _ _ = _
    have e1 : l.getD k (0, 0) = l[k] := by simp [hk']
    have e2 : (if k = 0 then none else some (l.getD (k - 1) (0, 0))) = (l.take k).getLast?.or none := by
      cases k with
      | zero => rfl
      | succ m =>
        have hm : m < l.length := by omega
        have e3 : (l.take (m + 1)).getLast? = some l[m] := by rw [List.take_succ_eq_append_getElem hm]; exact List.getLast?_concat
        rw [e3]
        simp [hm]
    rw [e1, e2]
theorem foldTo_all (c : Ctx) (l : List (Int × Int)) : foldTo c l l.length = foldP c none l := by
  rw [foldTo_take c l l.length (Nat.le_refl _), List.take_length]

/-- One dot more. -/
def pstep (c : Ctx) (x : Int × Int) : Ctx := if hasB c x = true then c else if x.2 = clk c x.1 + 1 then setClk c x.1 x.2 else { c with l := c.l ++ [x] }

/-- What holds of a context that is being made of sorted dots, the last one being p. -/
structure Mid (c : Ctx) (p : Option (Int × Int)) (r : List (Int × Int)) : Prop where
  above : ∀ y ∈ c.l, clk c y.1 + 1 < y.2
  node : ∀ y ∈ c.l, 0 ≤ y.1 ∧ y.1 < 4
  last : ∀ y ∈ c.l, ∃ q, p = some q ∧ leD y q
  has : ∀ q, p = some q → hasB c q = true
  rest : ∀ q, p = some q → ∀ x ∈ r, leD q x

theorem hasB_iff (c : Ctx) (x : Int × Int) : hasB c x = true ↔ x ∈ c.l ∨ (0 ≤ x.1 ∧ x.1 ≤ 3 ∧ 1 ≤ x.2 ∧ x.2 ≤ clk c x.1) := by
  simp [hasB, inB, and_assoc]

theorem mid_step {c : Ctx} {p : Option (Int × Int)} {x : Int × Int} {r : List (Int × Int)} (h : Mid c p (x :: r)) (hx : rightB x = true) (hs : ∀ y ∈ r, leD x y) : pstep c x = step c p x ∧ Mid (step c p x) (some x) r := by
  have hn := rightB_node hx
  have hle : ∀ y ∈ c.l, leD y x := fun y hy => by
    obtain ⟨q, hq, hyq⟩ := h.last y hy
    exact leD_trans hyq (h.rest q hq x (List.mem_cons_self ..))
  by_cases h1 : x.2 ≤ clk c x.1
  · have hh : hasB c x = true := (hasB_iff c x).2 (Or.inr ⟨hn.1, by omega, hn.2.2.1, h1⟩)
    have e1 : pstep c x = c := by simp [pstep, hh]
    have e2 : step c p x = c := by simp [step, h1]
    rw [e1, e2]
    exact ⟨rfl, h.above, h.node, fun y hy => ⟨x, rfl, hle y hy⟩, fun q hq => by cases hq; exact hh, fun q hq y hy => by cases hq; exact hs y hy⟩
  · by_cases h2 : x.2 = clk c x.1 + 1
    · have hmem : x ∉ c.l := fun hm => by have := h.above x hm; omega
      have hh : ¬ hasB c x = true := by
        rw [hasB_iff]
        rintro (hm | hm)
        · exact hmem hm
        · omega
      have e1 : pstep c x = setClk c x.1 x.2 := by unfold pstep; rw [if_neg hh, if_pos h2]
      have e2 : step c p x = setClk c x.1 x.2 := by unfold step; rw [if_neg h1, if_pos h2]
      rw [e1, e2]
      refine ⟨rfl, ?_, ?_, ?_, ?_, fun q hq y hy => by cases hq; exact hs y hy⟩
      · intro y hy
        rw [setClk_l] at hy
        have hyn := h.node y hy
        rw [clk_setClk c x.1 x.2 y.1 hn.1 hn.2.1 hyn.1 hyn.2]
        have hya := h.above y hy
        split
        · rename_i hyx
          have hl := (leD_iff y x).1 (hle y hy)
          rw [hyx] at hya
          omega
        · exact hya
      · intro y hy; rw [setClk_l] at hy; exact h.node y hy
      · intro y hy; rw [setClk_l] at hy; exact ⟨x, rfl, hle y hy⟩
      · intro q hq
        cases hq
        refine (hasB_iff _ _).2 (Or.inr ⟨hn.1, by omega, hn.2.2.1, ?_⟩)
        rw [clk_setClk c x.1 x.2 x.1 hn.1 hn.2.1 hn.1 hn.2.1, if_pos rfl]
        exact Int.le_refl _
    · by_cases h3 : p = some x
      · have hh : hasB c x = true := h.has x h3
        have e1 : pstep c x = c := by simp [pstep, hh]
        have e2 : step c p x = c := by unfold step; rw [if_neg h1, if_neg h2, if_pos h3]
        rw [e1, e2]
        exact ⟨rfl, h.above, h.node, fun y hy => ⟨x, rfl, hle y hy⟩, fun q hq => by cases hq; exact hh, fun q hq y hy => by cases hq; exact hs y hy⟩
      · have hmem : x ∉ c.l := fun hm => by
          obtain ⟨q, hq, hxq⟩ := h.last x hm
          have := leD_anti hxq (h.rest q hq x (List.mem_cons_self ..))
          exact h3 (by rw [hq, this])
        have hh : ¬ hasB c x = true := by
          rw [hasB_iff]
          rintro (hm | hm)
          · exact hmem hm
          · omega
        have e1 : pstep c x = { c with l := c.l ++ [x] } := by unfold pstep; rw [if_neg hh, if_neg h2]
        have e2 : step c p x = { c with l := c.l ++ [x] } := by unfold step; rw [if_neg h1, if_neg h2, if_neg h3]
        rw [e1, e2]
        have hclk : ∀ a, clk { c with l := c.l ++ [x] } a = clk c a := fun _ => rfl
        refine ⟨rfl, ?_, ?_, ?_, ?_, fun q hq y hy => by cases hq; exact hs y hy⟩
        · intro y hy
          rw [hclk]
          rcases List.mem_append.1 hy with hy | hy
          · exact h.above y hy
          · obtain rfl : y = x := by simpa using hy
            omega
        · intro y hy
          rcases List.mem_append.1 hy with hy | hy
          · exact h.node y hy
          · obtain rfl : y = x := by simpa using hy
            exact ⟨hn.1, hn.2.1⟩
        · intro y hy
          rcases List.mem_append.1 hy with hy | hy
          · exact ⟨x, rfl, hle y hy⟩
          · obtain rfl : y = x := by simpa using hy
            exact ⟨y, rfl, leD_refl y⟩
        · intro q hq
          cases hq
          exact (hasB_iff _ _).2 (Or.inl (List.mem_append.2 (Or.inr (by simp))))

theorem foldP_pstep (l : List (Int × Int)) : ∀ (c : Ctx) (p : Option (Int × Int)), Mid c p l → l.Pairwise leD → (∀ x ∈ l, rightB x = true) → l.foldl pstep c = foldP c p l := by
  induction l with
  | nil => intro c p _ _ _; rfl
  | cons x l ih =>
    intro c p h hs hr
    have hp := List.pairwise_cons.1 hs
    have hm := mid_step h (hr x (List.mem_cons_self ..)) hp.1
    show l.foldl pstep (pstep c x) = foldP (step c p x) (some x) l
    rw [hm.1]
    exact ih _ _ hm.2 hp.2 (fun y hy => hr y (List.mem_cons_of_mem _ hy))

theorem mid_start {c : Ctx} (hc : c.l = []) (l : List (Int × Int)) : Mid c none l where
  above y hy := by rw [hc] at hy; cases hy
  node y hy := by rw [hc] at hy; cases hy
  last y hy := by rw [hc] at hy; cases hy
  has q hq := by cases hq
  rest q hq := by cases hq

/-- What fold makes of dots, sorted: dot by dot, the least that is left. -/
theorem foldS_pstep {c : Ctx} (hc : c.l = []) {l : List (Int × Int)} (hr : ∀ x ∈ l, rightB x = true) : foldS c l = (srt l).foldl pstep c := by
  unfold foldS
  rw [foldTo_all]
  exact (foldP_pstep (srt l) c none (mid_start hc _) (srt_sorted l) (fun x hx => hr x (srt_mem hx))).symm

end Go.Proofs.Ytknjeajdiibafaa
