/-
  The set of a list, row by row put in; what Norm and Add tell.
-/
import Derived.Test.YteobmedkngdnkaaZTotMath
namespace Go.Proofs.Yteobmedkngdnkaa

/-- One more item. -/
def insZ (x : Zit) : List Zit → List Zit
  | [] => if x.2 = 0 then [] else [x]
  | y :: t => if cmpL x.1 y.1 < 0 then (if x.2 = 0 then y :: t else x :: y :: t) else if cmpL x.1 y.1 = 0 then (if x.2 + y.2 = 0 then t else (y.1, x.2 + y.2) :: t) else y :: insZ x t
/-- The set of a list. -/
def totL : List Zit → List Zit
  | [] => []
  | x :: t => insZ x (totL t)
theorem insZ_mem {x : Zit} : ∀ {S : List Zit} {z : Zit}, z ∈ insZ x S → z.1 = x.1 ∨ ∃ y ∈ S, z.1 = y.1
  | [], z, h => by
    unfold insZ at h
    by_cases e : x.2 = 0
    · rw [if_pos e] at h; cases h
    · rw [if_neg e] at h; exact Or.inl (by rw [List.mem_singleton.1 h])
  | y :: t, z, h => by
    unfold insZ at h
    by_cases h1 : cmpL x.1 y.1 < 0
    · rw [if_pos h1] at h
      by_cases e : x.2 = 0
      · rw [if_pos e] at h; exact Or.inr ⟨z, h, rfl⟩
      · rw [if_neg e] at h
        rcases List.mem_cons.1 h with k | k
        · exact Or.inl (by rw [k])
        · exact Or.inr ⟨z, k, rfl⟩
    · rw [if_neg h1] at h
      by_cases h2 : cmpL x.1 y.1 = 0
      · rw [if_pos h2] at h
        by_cases e : x.2 + y.2 = 0
        · rw [if_pos e] at h; exact Or.inr ⟨z, List.mem_cons_of_mem _ h, rfl⟩
        · rw [if_neg e] at h
          rcases List.mem_cons.1 h with k | k
          · exact Or.inr ⟨y, List.mem_cons_self .., by rw [k]⟩
          · exact Or.inr ⟨z, List.mem_cons_of_mem _ k, rfl⟩
      · rw [if_neg h2] at h
        rcases List.mem_cons.1 h with k | k
        · exact Or.inr ⟨y, List.mem_cons_self .., by rw [k]⟩
        · rcases insZ_mem k with k | ⟨u, hu, k⟩
          · exact Or.inl k
          · exact Or.inr ⟨u, List.mem_cons_of_mem _ hu, k⟩
theorem insZ_rise {x : Zit} : ∀ {S : List Zit}, Rise S → Rise (insZ x S)
  | [], _ => by
    unfold insZ
    by_cases e : x.2 = 0
    · rw [if_pos e]; exact List.Pairwise.nil
    · rw [if_neg e]; exact List.pairwise_singleton _ _
  | y :: t, h => by
    have h' := List.pairwise_cons.1 h
    unfold insZ
    by_cases h1 : cmpL x.1 y.1 < 0
    · rw [if_pos h1]
      by_cases e : x.2 = 0
      · rw [if_pos e]; exact h
      · rw [if_neg e]
        refine List.pairwise_cons.2 ⟨fun z hz => ?_, h⟩
        rcases List.mem_cons.1 hz with k | k
        · rw [k]; exact h1
        · exact cmpL_lt_trans h1 (h'.1 z k)
    · rw [if_neg h1]
      by_cases h2 : cmpL x.1 y.1 = 0
      · rw [if_pos h2]
        by_cases e : x.2 + y.2 = 0
        · rw [if_pos e]; exact h'.2
        · rw [if_neg e]; exact List.pairwise_cons.2 ⟨fun z hz => h'.1 z hz, h'.2⟩
      · rw [if_neg h2]
        refine List.pairwise_cons.2 ⟨fun z hz => ?_, insZ_rise h'.2⟩
        rcases insZ_mem hz with k | ⟨u, hu, k⟩
        · rw [k]; have := cmpL_flip x.1 y.1; omega
        · rw [k]; exact h'.1 u hu
theorem insZ_noz {x : Zit} : ∀ {S : List Zit}, NoZ S → NoZ (insZ x S)
  | [], _ => by
    unfold insZ
    by_cases e : x.2 = 0
    · rw [if_pos e]; exact fun z hz => absurd hz (by simp)
    · rw [if_neg e]; intro z hz; rw [List.mem_singleton.1 hz]; exact e
  | y :: t, h => by
    have ht : NoZ t := fun z hz => h z (List.mem_cons_of_mem _ hz)
    unfold insZ
    by_cases h1 : cmpL x.1 y.1 < 0
    · rw [if_pos h1]
      by_cases e : x.2 = 0
      · rw [if_pos e]; exact h
      · rw [if_neg e]
        intro z hz
        rcases List.mem_cons.1 hz with k | k
        · rw [k]; exact e
        · exact h z k
    · rw [if_neg h1]
      by_cases h2 : cmpL x.1 y.1 = 0
      · rw [if_pos h2]
        by_cases e : x.2 + y.2 = 0
        · rw [if_pos e]; exact ht
        · rw [if_neg e]
          intro z hz
          rcases List.mem_cons.1 hz with k | k
          · rw [k]; exact e
          · exact ht z k
      · rw [if_neg h2]
        intro z hz
        rcases List.mem_cons.1 hz with k | k
        · rw [k]; exact h y (List.mem_cons_self ..)
        · exact insZ_noz ht z k
theorem insZ_wt {x : Zit} (r : List Int) : ∀ {S : List Zit}, wt (insZ x S) r = (if x.1 = r then x.2 else 0) + wt S r
  | [] => by
    unfold insZ
    by_cases e : x.2 = 0
    · rw [if_pos e, e]; simp [wt]
    · rw [if_neg e]; simp only [wt]
  | y :: t => by
    unfold insZ
    by_cases h1 : cmpL x.1 y.1 < 0
    · rw [if_pos h1]
      by_cases e : x.2 = 0
      · rw [if_pos e, e]; simp
      · rw [if_neg e]; simp only [wt]
    · rw [if_neg h1]
      by_cases h2 : cmpL x.1 y.1 = 0
      · rw [if_pos h2]
        have e1 := cmpL_eq _ _ h2
        by_cases e : x.2 + y.2 = 0
        · rw [if_pos e]
          simp only [wt]
          rw [e1]
          by_cases k : y.1 = r
          · rw [if_pos k, if_pos k]; omega
          · rw [if_neg k, if_neg k]; omega
        · rw [if_neg e]
          simp only [wt]
          rw [e1]
          by_cases k : y.1 = r
          · rw [if_pos k, if_pos k, if_pos k]; omega
          · rw [if_neg k, if_neg k, if_neg k]; omega
      · rw [if_neg h2]
        simp only [wt]
        rw [insZ_wt r]; omega
theorem totL_is : ∀ l : List Zit, IsTot l (totL l)
  | [] => ⟨List.Pairwise.nil, fun z hz => absurd hz (by simp [totL]), fun r => rfl⟩
  | x :: t => by
    have h := totL_is t
    exact ⟨insZ_rise h.rise, insZ_noz h.noz, fun r => by show wt (insZ x (totL t)) r = wt (x :: t) r; rw [insZ_wt, h.same]; rfl⟩
theorem IsTot.eq {l S : List Zit} (h : IsTot l S) : S = totL l := h.uniq (totL_is l) fun _ => rfl
/-- What total answers. -/
def totE (l : List Zit) : Int := if (totL l).all (fun x => okW x.2) then 0 else 5
/-- The set that total tells. -/
def totR (l : List Zit) : List Zit := if totE l = 0 then totL l else []
theorem totR_bad {l : List Zit} (h : totE l = 5) : totR l = [] := by unfold totR; rw [h]; rfl
theorem totR_ok {l : List Zit} (h : totE l = 0) : totR l = totL l := by unfold totR; rw [if_pos h]
theorem totE_bad (l : List Zit) : totE l = 5 ↔ BadT l := by
  unfold totE
  constructor
  · intro h
    by_cases e : (totL l).all (fun x => okW x.2) = true
    · rw [if_pos e] at h; cases h
    · simp only [List.all_eq_true, Classical.not_forall] at e
      obtain ⟨x, hx, hw⟩ := e
      exact ⟨x.1, by rw [← (totL_is l).same, (totL_is l).rise.wt hx]; simpa using hw⟩
  · rintro ⟨r, hr⟩
    rw [if_neg]
    intro h
    have h0 : wt l r ≠ 0 := fun e => by rw [e] at hr; exact absurd hr (by decide)
    rw [← (totL_is l).same] at h0 hr
    obtain ⟨x, hx, rfl⟩ := wt_some h0
    rw [(totL_is l).rise.wt hx] at hr
    have := List.all_eq_true.1 h x hx
    rw [hr] at this; cases this
theorem totE_ok {l : List Zit} (h : ¬ BadT l) : totE l = 0 := by
  by_cases e : totE l = 5
  · exact absurd ((totE_bad l).1 e) h
  · unfold totE at e ⊢
    by_cases k : (totL l).all (fun x => okW x.2) = true
    · rw [if_pos k]
    · rw [if_neg k] at e; exact absurd rfl e
theorem totE_zero {l : List Zit} (h : totE l = 0) : ¬ BadT l := fun k => by rw [(totE_bad l).2 k] at h; cases h
/-- What Norm answers. -/
def normE (l : List Zit) : Int := if 400 < l.length then 2 else if l.all (fun x => okR x.1 && okW x.2) then totE l else 5
def normL (l : List Zit) : List Zit := if normE l = 0 then totL l else []
/-- What Add answers. -/
def addE (a b : List Zit) : Int := if errZ a = 0 then (if errZ b = 0 then (if totE (a ++ b) = 0 then (if 400 < (totL (a ++ b)).length then 2 else 0) else totE (a ++ b)) else errZ b) else errZ a
def addL (a b : List Zit) : List Zit := if addE a b = 0 then totL (a ++ b) else []
theorem totL_same {l m : List Zit} (h : ∀ r, wt l r = wt m r) : totL l = totL m := (totL_is l).uniq (totL_is m) h
theorem totE_same {l m : List Zit} (h : ∀ r, wt l r = wt m r) : totE l = totE m := by unfold totE; rw [totL_same h]

end Go.Proofs.Yteobmedkngdnkaa
