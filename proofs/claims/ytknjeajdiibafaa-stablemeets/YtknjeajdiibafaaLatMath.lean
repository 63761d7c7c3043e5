/-
  Plain facts: joining is a lattice's.
-/
import Derived.Test.YtknjeajdiibafaaMissMath
namespace Go.Proofs.Ytknjeajdiibafaa
open Go.RowKit Go.Sort

theorem sameB_iff (c d : Ctx) : sameB c d = true ↔ c = d := by
  constructor
  · intro h
    obtain ⟨c0, c1, c2, c3, cl⟩ := c
    obtain ⟨d0, d1, d2, d3, dl⟩ := d
    simp [sameB, clkEq, eqL] at h
    obtain ⟨⟨h0, h1, h2, h3⟩, h4⟩ := h
    subst h0 h1 h2 h3 h4
    rfl
  · rintro rfl; exact sameB_self c

theorem make_three : makeE [(0, 1), (0, 2), (1, 3)] = 0 ∧ makeC [(0, 1), (0, 2), (1, 3)] = ⟨2, 0, 0, 0, [(1, 3)]⟩ := by
  have h : makeE [(0, 1), (0, 2), (1, 3)] = 0 := by decide +kernel
  refine ⟨h, ?_⟩
  unfold makeC
  rw [if_pos h]
  unfold foldS
  rw [srt_self (by simp [leD_iff])]
  kernel_rfl

theorem err_can {a b : Ctx} (h : joinE a b = 0) : errC a = 0 ∧ errC b = 0 := errB_ok (joinE_ok h).2.2.1
theorem join_sym {a b : Ctx} (h : joinE a b = 0) : joinE b a = 0 ∧ joinC b a = joinC a b := by
  obtain ⟨ha, hb, _, hc, hl⟩ := joinE_ok h
  have he := err_can h
  have h2 : joinE b a = 0 := joinE_of he.2 he.1 (by rw [joinF_comm hb ha]; exact hl)
  refine ⟨h2, ?_⟩
  rw [hc, (joinE_ok h2).2.2.2.1, joinF_comm hb ha]
theorem join_same {a b : Ctx} {e f : Int} (he : joinE a b = e) (hf : joinE b a = f) : (e == 0) = (f == 0) := by
  subst he hf
  by_cases h : joinE a b = 0
  · rw [h, (join_sym h).1]
  · have h' : joinE b a ≠ 0 := fun k => h (join_sym k).1
    rw [beq_false_of_ne h, beq_false_of_ne h']
theorem join_can {a b : Ctx} (h : joinE a b = 0) : Can (joinC a b) ∧ errC (joinC a b) = 0 ∧ (joinC a b).l.length ≤ 400 ∧ ∀ x, hasB (joinC a b) x = true ↔ hasB a x = true ∨ hasB b x = true := by
  obtain ⟨ha, hb, _, hc, hl⟩ := joinE_ok h
  rw [hc]
  exact ⟨joinF_can ha hb, err_of_can (joinF_can ha hb) hl, hl, joinF_has ha hb⟩
theorem join_has {a b : Ctx} (h : joinE a b = 0) (x : Int × Int) : hasB (joinC a b) x = (hasB a x || hasB b x) := by
  rw [Bool.eq_iff_iff, (join_can h).2.2.2 x, Bool.or_eq_true]
theorem join_less {a b : Ctx} (h : joinE a b = 0) : lessR a (joinC a b) = true ∧ errB a (joinC a b) = 0 := by
  have he : errB a (joinC a b) = 0 := by unfold errB; rw [if_pos (err_can h).1]; exact (join_can h).2.1
  refine ⟨?_, he⟩
  unfold lessR
  rw [if_pos he, less_iff (joinE_ok h).1 (join_can h).1]
  exact fun x hx => ((join_can h).2.2.2 x).2 (Or.inl hx)
theorem join_top {a b : Ctx} (h : joinE a b = 0) : lessR a b = sameB (joinC a b) b := by
  obtain ⟨ha, hb, he, _, _⟩ := joinE_ok h
  have hj := join_can h
  rw [Bool.eq_iff_iff, sameB_iff]
  unfold lessR
  rw [if_pos he, less_iff ha hb]
  constructor
  · intro hl
    refine can_eq hj.1 hb fun x => ?_
    rw [hj.2.2.2 x]
    exact ⟨fun k => k.elim (hl x) id, Or.inr⟩
  · intro e x hx
    rw [← e]
    exact (hj.2.2.2 x).2 (Or.inl hx)
theorem join_assoc {a b c : Ctx} (h1 : joinE a b = 0) (h2 : joinE (joinC a b) c = 0) (h3 : joinE b c = 0) (h4 : joinE a (joinC b c) = 0) : joinC (joinC a b) c = joinC a (joinC b c) := by
  refine can_eq (join_can h2).1 (join_can h4).1 fun x => ?_
  rw [(join_can h2).2.2.2 x, (join_can h4).2.2.2 x, (join_can h1).2.2.2 x, (join_can h3).2.2.2 x, or_assoc]

end Go.Proofs.Ytknjeajdiibafaa
