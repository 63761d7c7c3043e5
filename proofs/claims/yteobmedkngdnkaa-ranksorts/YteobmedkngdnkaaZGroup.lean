/-
  Sets with weights are a group.
-/
import Derived.Test.YteobmedkngdnkaaZTotL
namespace Go.Proofs.Yteobmedkngdnkaa

theorem insZ_len {x : Zit} : ∀ {S : List Zit}, (insZ x S).length ≤ S.length + 1
  | [] => by
    unfold insZ
    by_cases e : x.2 = 0
    · rw [if_pos e]; simp
    · rw [if_neg e]; simp
  | y :: t => by
    unfold insZ
    by_cases h1 : cmpL x.1 y.1 < 0
    · rw [if_pos h1]
      by_cases e : x.2 = 0
      · rw [if_pos e]; simp
      · rw [if_neg e]; simp
    · rw [if_neg h1]
      by_cases h2 : cmpL x.1 y.1 = 0
      · rw [if_pos h2]
        by_cases e : x.2 + y.2 = 0
        · rw [if_pos e]; simp; omega
        · rw [if_neg e]; simp
      · rw [if_neg h2]
        have := @insZ_len x t
        simp; omega
theorem totL_len : ∀ l : List Zit, (totL l).length ≤ l.length
  | [] => by simp [totL]
  | x :: t => by
    have h1 := totL_len t
    have h2 := @insZ_len x (totL t)
    show (insZ x (totL t)).length ≤ _
    simp; omega
theorem normE_parts {l : List Zit} (h : normE l = 0) : l.length ≤ 400 ∧ (∀ x ∈ l, okR x.1 = true ∧ okW x.2 = true) ∧ totE l = 0 := by
  unfold normE at h
  by_cases h4 : 400 < l.length
  · rw [if_pos h4] at h; cases h
  · rw [if_neg h4] at h
    by_cases ha : l.all (fun x => okR x.1 && okW x.2) = true
    · rw [if_pos ha] at h
      exact ⟨by omega, fun x hx => by simpa using List.all_eq_true.1 ha x hx, h⟩
    · rw [if_neg ha] at h; cases h
theorem norm_ok {l : List Zit} (h : normE l = 0) : normL l = totL l ∧ errZ (totL l) = 0 := by
  have p := normE_parts h
  refine ⟨by unfold normL; rw [if_pos h], (errZ_iff _).2 ⟨Nat.le_trans (totL_len l) p.1, ?_, (totL_is l).rise⟩⟩
  exact (totL_is l).okZ (totE_zero p.2.2) fun x hx => (p.2.1 x hx).1
theorem tot_none (a : List Zit) : totL (a ++ a.map fun x => (x.1, -x.2)) = [] := by
  refine totL_same (m := []) fun r => ?_
  rw [wt_append, wt_neg]
  show wt a r + -wt a r = 0
  omega
theorem add_neg {a : List Zit} (h : errZ a = 0) : addE a (a.map fun x => (x.1, -x.2)) = 0 ∧ addL a (a.map fun x => (x.1, -x.2)) = [] := by
  have e : addE a (a.map fun x => (x.1, -x.2)) = 0 := by
    unfold addE
    rw [if_pos h, if_pos (negL_ok h)]
    unfold totE
    rw [tot_none a]; rfl
  exact ⟨e, by unfold addL; rw [if_pos e, tot_none a]⟩
theorem add_comm {a b : List Zit} (h : addE a b = 0) : addE b a = 0 ∧ addL a b = addL b a := by
  have hs : ∀ r, wt (b ++ a) r = wt (a ++ b) r := fun r => by rw [wt_append, wt_append]; omega
  have e : addE b a = 0 := by
    unfold addE at h ⊢
    by_cases ha : errZ a = 0
    · rw [if_pos ha] at h
      by_cases hb : errZ b = 0
      · rw [if_pos hb] at h
        rw [if_pos hb, if_pos ha, totE_same hs, totL_same hs]; exact h
      · rw [if_neg hb] at h; exact absurd h hb
    · rw [if_neg ha] at h; exact absurd h ha
  refine ⟨e, ?_⟩
  unfold addL
  rw [if_pos h, if_pos e, totL_same hs]
theorem add_is {a b : List Zit} (h : addE a b = 0) : addL a b = totL (a ++ b) := by unfold addL; rw [if_pos h]
theorem add_assoc {a b c : List Zit} (h1 : addE a b = 0) (h2 : addE b c = 0) (h : addE (addL a b) c = addE a (addL b c)) : addL (addL a b) c = addL a (addL b c) := by
  have hs : ∀ r, wt (addL a b ++ c) r = wt (a ++ addL b c) r := fun r => by
    rw [add_is h1, add_is h2, wt_append, wt_append, (totL_is _).same, (totL_is _).same, wt_append, wt_append]; omega
  have e : ∀ x y, addL x y = if addE x y = 0 then totL (x ++ y) else [] := fun _ _ => rfl
  rw [e (addL a b) c, e a (addL b c), h, totL_same hs]

end Go.Proofs.Yteobmedkngdnkaa
