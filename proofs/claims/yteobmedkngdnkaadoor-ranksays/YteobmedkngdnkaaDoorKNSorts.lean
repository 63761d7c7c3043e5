/-
  viewkeep.RankSorts.
-/
import Derived.Test.YteobmedkngdnkaaDoorNEqual
namespace Go.Proofs.YteobmedkngdnkaaDoor
open Go.RowKit Go.Sort

/-- The world of the first two items and their column. -/
def nlW (w : World) : World := ((((w.alloc (.cells #[.int .i64 1, .int .i64 5] 3)).alloc (.cells #[.int .i64 2, .int .i64 3] 3)).alloc (.cells #[.slice (some ⟨w.heap.size, 0, none⟩) 2 2, .int .i64 2, .slice (some ⟨w.heap.size + 1, 0, none⟩) 2 2, .int .i64 1] 41)).alloc (.cells #[.int .i64 2] 3))
def nlL (n : Nat) : List Itm := [⟨some ⟨n, 0, none⟩, 2, [1, 5], 2⟩, ⟨some ⟨n + 1, 0, none⟩, 2, [2, 3], 1⟩]
theorem nl_gr (w : World) : Gr w (nlW w) := ((((Gr.refl _).alloc _).alloc _).alloc _).alloc _
theorem rowNewI2 {W : World} {n : Nat} (hn : W.heap.size = n) (x y : Int) (T : TypeId) : RowI (W.alloc (.cells #[.int .i64 x, .int .i64 y] T)) (some ⟨n, 0, none⟩) [x, y] := by
  subst hn
  refine Or.inr ⟨W.heap.size, 0, rfl, by simp, fun j hj i hi => ?_⟩
  obtain rfl : i = 0 := by omega
  have hj' : j < 2 := hj
  match j, hj' with
  | 0, _ => exact box1 (w := W) (Gr.refl _) (j := 0) rfl
  | 1, _ => exact box1 (w := W) (Gr.refl _) (j := 1) rfl
theorem nl_by (w : World) : RowI (nlW w) (some ⟨w.heap.size + 1 + 1 + 1, 0, none⟩) [2] := rowNewI (by simp) 2 _
theorem nl_lv (w : World) : Lv (nlW w) (some ⟨w.heap.size + 1 + 1, 0, none⟩) 2 (nlL w.heap.size) := by
  refine ⟨⟨Or.inr ⟨w.heap.size + 1 + 1, 0, rfl, by simp [nlW], fun j hj i hi => ?_⟩, fun x hx => ?_⟩, NilC.mk (fun h => by cases h) (by simp [nlL]), by simp [nlL, maxLen]⟩
  · have hs : ((w.alloc (.cells #[.int .i64 1, .int .i64 5] 3)).alloc (.cells #[.int .i64 2, .int .i64 3] 3)).heap.size = w.heap.size + 1 + 1 := by simp
    have hj' : j < 2 := hj
    have hb : ∀ k v, (#[.slice (some ⟨w.heap.size, 0, none⟩) 2 2, .int .i64 2, .slice (some ⟨w.heap.size + 1, 0, none⟩) 2 2, .int .i64 1] : Array Value)[k]? = some v → (nlW w).cell? ⟨w.heap.size + 1 + 1, k, none⟩ = some v := fun k v hv => by
      have := box1 (w := ((w.alloc (.cells #[.int .i64 1, .int .i64 5] 3)).alloc (.cells #[.int .i64 2, .int .i64 3] 3))) (T1 := 41) (wr := nlW w) ((Gr.refl _).alloc _) (j := k) hv
      rw [hs] at this
      exact this
    match j, hj', i, hi with
    | 0, _, 0, _ => exact hb 0 _ rfl
    | 0, _, 1, _ => exact hb 1 _ rfl
    | 1, _, 0, _ => exact hb 2 _ rfl
    | 1, _, 1, _ => exact hb 3 _ rfl
  · unfold nlL at hx
    simp only [List.mem_cons, List.not_mem_nil, or_false] at hx
    rcases hx with rfl | rfl
    · exact ⟨(rowNewI2 rfl 1 5 3).gr ((((Gr.refl _).alloc _).alloc _).alloc _), by simp [maxLen], fun h => by cases h⟩
    · exact ⟨(rowNewI2 (by simp) 2 3 3).gr (((Gr.refl _).alloc _).alloc _), by simp [maxLen], fun h => by cases h⟩
theorem nl_e (n : Nat) : rnkE ((nlL n).map Itm.z) [2] 2 = 0 ∧ rnkL ((nlL n).map Itm.z) [2] 2 = [[2, 3], [1, 5]] := by
  have e : rnkE [([1, 5], 2), ([2, 3], 1)] [2] 2 = 0 := by decide
  have h : [[2, 3], [1, 5], [1, 5]] = rowsB [2] [([1, 5], 2), ([2, 3], 1)] := rowsB_is (by decide) (by
    refine List.Pairwise.cons ?_ (List.Pairwise.cons ?_ (List.Pairwise.cons ?_ List.Pairwise.nil))
    · intro a ha
      simp only [List.mem_cons, List.not_mem_nil, or_false, or_self] at ha
      subst ha
      unfold leB; decide
    · intro a ha
      simp only [List.mem_cons, List.not_mem_nil, or_false] at ha
      subst ha
      unfold leB; decide
    · intro a ha; cases ha)
  refine ⟨e, ?_⟩
  show (if rnkE [([1, 5], 2), ([2, 3], 1)] [2] 2 = 0 then (rowsB [2] [([1, 5], 2), ([2, 3], 1)]).take (Int.toNat 2) else []) = _
  rw [if_pos e, ← h]
  rfl
/-- The rows of a list of two, as they lie. -/
theorem two_rows {w : World} {base : Nat} {v : Value} (h : Rws w base v [[2, 3], [1, 5]]) : ∃ (b off : Nat) (cap : Nat) (p q : Nat) (po qo : Nat) (c d : Nat), v = .slice (some ⟨b, off, none⟩) 2 cap ∧ w.cell? ⟨b, off, none⟩ = some (.slice (some ⟨p, po, none⟩) 2 c) ∧ w.cell? ⟨b, off + 1, none⟩ = some (.slice (some ⟨q, qo, none⟩) 2 d) ∧ w.cell? ⟨p, po, none⟩ = some (.int .i64 2) ∧ w.cell? ⟨q, qo, none⟩ = some (.int .i64 1) := by
  obtain ⟨L, h1, h2⟩ := h.has
  have hl : L.length = 2 := by have := congrArg List.length h2; simpa using this
  obtain ⟨A, cap, rfl, _, hr⟩ := h1.read
  match L, hl with
  | [x, y], _ =>
    have hx : x.r = [2, 3] := by have := congrArg (·[0]?) h2; simpa using this
    have hy : y.r = [1, 5] := by have := congrArg (·[1]?) h2; simpa using this
    obtain ⟨b, off, rfl, _, c0⟩ := hr.at (k := 0) (by simp) rfl
    obtain ⟨b', off', hA, _, c1⟩ := hr.at (k := 1) (by simp) rfl
    injection hA with hA
    injection hA with e1 e2
    subst e1 e2
    have rx := (hr.each x (by simp)).1
    have ry := (hr.each y (by simp)).1
    obtain ⟨p, po, hp, _, pc⟩ := rx.at (m := 0) (by rw [hx]; simp)
    obtain ⟨q, qo, hq, _, qc⟩ := ry.at (m := 0) (by rw [hy]; simp)
    have pc0 := pc 0 (by rw [hx]; simp) 0 (by omega)
    have qc0 := qc 0 (by rw [hy]; simp) 0 (by omega)
    refine ⟨b, off, cap, p, q, po, qo, x.c, y.c, rfl, ?_, ?_, ?_, ?_⟩
    · have := c0
      simp only [List.getElem_cons_zero, Nat.add_zero] at this
      rw [this, hp, hx]; rfl
    · have := c1
      simp only [List.getElem_cons_succ, List.getElem_cons_zero] at this
      rw [this, hq, hy]; rfl
    · simp only [hx, encI] at pc0
      simpa using pc0
    · simp only [hy, encI] at qc0
      simpa using qc0
theorem sum_take {l : List Itm} {k : Nat} (h : k < l.length) : ((l.take (k + 1)).map Itm.n).sum = ((l.take k).map Itm.n).sum + l[k].n := by
  rw [List.take_succ_eq_append_getElem h, List.map_append, List.sum_append]
  simp
theorem sum_exp {l : List Itm} (h : ∀ x ∈ l, 0 ≤ x.n) : (l.map Itm.n).sum = ((expL (l.map Itm.z)).length : Int) := by
  induction l with
  | nil => rfl
  | cons x t ih =>
    rw [List.map_cons, List.map_cons, List.sum_cons, expL_cons, List.length_append, List.length_replicate, ih fun y hy => h y (List.mem_cons_of_mem _ hy)]
    have := h x (List.mem_cons_self ..)
    show x.n + _ = ((x.n.toNat + _ : Nat) : Int)
    omega
theorem sum_bnd {l : List Itm} (h : ∀ x ∈ l, 0 ≤ x.n ∧ x.n ≤ 400) : 0 ≤ (l.map Itm.n).sum ∧ (l.map Itm.n).sum ≤ (l.length : Int) * 400 := by
  induction l with
  | nil => exact ⟨Int.le_refl _, Int.le_refl _⟩
  | cons x t ih =>
    have h1 := ih fun y hy => h y (List.mem_cons_of_mem _ hy)
    have h2 := h x (List.mem_cons_self ..)
    rw [List.map_cons, List.sum_cons, List.length_cons]
    omega
/-- What both answers are. -/
theorem rnk_both {l : List Zit} {cs : List Int} {most : Int} (h1 : rnkE l cs 400 = 0) (h2 : rnkE l cs most = 0) : (rnkL l cs 400).take (rnkL l cs most).length = rnkL l cs most ∧ ((rnkL l cs 400).length : Int) = min ((expL l).length : Int) 400 ∧ ((rnkL l cs most).length : Int) = min ((expL l).length : Int) most ∧ (rnkL l cs 400).Pairwise (leB cs) := by
  obtain ⟨_, _, _, hm⟩ := rnkE_parts h2
  simp only [inB, Bool.and_eq_true, decide_eq_true_eq] at hm
  have e1 : rnkL l cs 400 = (rowsB cs l).take 400 := by unfold rnkL; rw [if_pos h1]; rfl
  have e2 : rnkL l cs most = (rowsB cs l).take most.toNat := by unfold rnkL; rw [if_pos h2]
  have e3 : (rowsB cs l).length = (expL l).length := (rowsB_perm cs l).length_eq
  rw [e1, e2]
  refine ⟨?_, by rw [List.length_take, e3]; omega, by rw [List.length_take, e3]; omega, (rowsB_sorted cs l).sublist (List.take_sublist _ _)⟩
  rw [List.take_take, List.length_take, e3]
  rw [show min (min most.toNat (expL l).length) 400 = min most.toNat (expL l).length by omega, ← e3]
  have := List.take_eq_take_iff (l := rowsB cs l) (i := min most.toNat (rowsB cs l).length) (j := most.toNat)
  rw [this]
  omega
theorem rnk_mem {l : List Zit} {cs : List Int} {most : Int} {r : List Int} (h : r ∈ rnkL l cs most) : ∃ x ∈ l, x.1 = r := by
  unfold rnkL at h
  split at h
  · obtain ⟨x, hx, e, _⟩ := mem_expL ((rowsB_perm cs l).mem_iff.1 (List.mem_of_mem_take h))
    exact ⟨x, hx, e⟩
  · cases h
theorem rnk_bad {l : List Zit} {cs : List Int} {most : Int} (h : ¬ rnkE l cs most = 0) : rnkL l cs most = [] := if_neg h
theorem cmpB_drop {cs a b : List Int} {j : Nat} (hj : j < cs.length) {n : Int} (hn : cs[j] = n) : cmpB (cs.drop j) a b = if cmpI (a.getD (colB n) 0) (b.getD (colB n) 0) = 0 then cmpB (cs.drop (j + 1)) a b else sgnB n * cmpI (a.getD (colB n) 0) (b.getD (colB n) 0) := by
  rw [List.drop_eq_getElem_cons hj, hn]
  rfl
end Go.Proofs.YteobmedkngdnkaaDoor
