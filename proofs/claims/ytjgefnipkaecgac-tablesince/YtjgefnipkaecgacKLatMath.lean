/-
  Merging is a lattice: which cells a merged table has; that it doesn't matter in which order, nor how often.
-/
import Derived.Test.YtjgefnipkaecgacKEdited
import Derived.Test.YtjgefnipkaecgacLatMath
namespace Go.Proofs.Ytjgefnipkaecgac
open Go.RowKit Go.Sort

theorem memD_iffK {l : List Cel} {d : Int × Int} : memD l d = true ↔ ∃ y ∈ l, y.1 = d := by
  unfold memD
  rw [List.any_eq_true]
  constructor
  · rintro ⟨y, hy, h⟩; exact ⟨y, hy, by simpa using h⟩
  · rintro ⟨y, hy, h⟩; exact ⟨y, hy, by simpa using h⟩
theorem asc_extK {l m : List Cel} (hl : Asc l) (hm : Asc m) (h : ∀ x, x ∈ l ↔ x ∈ m) : l = m := by
  unfold Asc at hl hm
  have nl : l.Nodup := List.Pairwise.imp (fun {a b} (h : befB a.1 b.1 = true) (e : a = b) => befT_ne h (by rw [e])) hl
  have nm : m.Nodup := List.Pairwise.imp (fun {a b} (h : befB a.1 b.1 = true) (e : a = b) => befT_ne h (by rw [e])) hm
  have hp : l.Perm m := (List.perm_ext_iff_of_nodup nl nm).2 h
  refine List.Perm.eq_of_pairwise (le := fun x y => befB x.1 y.1 = true) ?_ hl hm hp
  intro x y _ _ h1 h2
  have := befT_trans h1 h2
  rw [befT_irr] at this
  cases this
theorem noclash {a b : Tab} : clashB a b = false ↔ ∀ x ∈ a.e, ∀ y ∈ b.e, y.1 = x.1 → y = x := by
  unfold clashB
  rw [List.any_eq_false]
  constructor
  · intro h x hx y hy e
    cases h4 : celEq y x
    · refine absurd ?_ (h x hx)
      unfold clP
      rw [List.any_eq_true]
      exact ⟨y, hy, by simp [e, h4]⟩
    · exact celEq_iff.1 h4
  · intro h x hx hcl
    unfold clP at hcl
    rw [List.any_eq_true] at hcl
    obtain ⟨y, hy, h2⟩ := hcl
    simp only [Bool.and_eq_true, decide_eq_true_eq, Bool.not_eq_true'] at h2
    have h3 := h x hx y hy h2.1
    have h4 := h2.2
    rw [h3, celEq_iff.2 rfl] at h4
    cases h4
theorem uniqT {t : Tab} (h : errT t = 0) : ∀ x ∈ t.e, ∀ y ∈ t.e, y.1 = x.1 → y = x := fun x hx y hy e => (nodup_uniq (asc_nodup (errT_asc h))) y hy x hx e
theorem mem_mrg {a b : Tab} (hc : clashB a b = false) {x : Cel} : x ∈ mrg a b ↔ (x ∈ a.e ∧ x ∈ b.e) ∨ (x ∈ a.e ∧ hasB b.c x.1 = false) ∨ (x ∈ b.e ∧ hasB a.c x.1 = false) := by
  unfold mrg
  rw [(srtC_perm _).mem_iff]
  unfold both
  rw [List.mem_append, List.mem_filter, List.mem_filter]
  unfold stayA stayB
  simp only [Bool.or_eq_true, Bool.not_eq_true']
  have hb : x ∈ a.e → (memD b.e x.1 = true ↔ x ∈ b.e) := by
    intro hx
    rw [memD_iffK]
    constructor
    · rintro ⟨y, hy, e⟩
      rw [← noclash.1 hc x hx y hy e]; exact hy
    · intro h; exact ⟨x, h, rfl⟩
  constructor
  · rintro (⟨h1, h2 | h2⟩ | h1)
    · exact Or.inl ⟨h1, (hb h1).1 h2⟩
    · exact Or.inr (Or.inl ⟨h1, h2⟩)
    · exact Or.inr (Or.inr h1)
  · rintro (⟨h1, h2⟩ | ⟨h1, h2⟩ | h1)
    · exact Or.inl ⟨h1, Or.inl ((hb h1).2 h2)⟩
    · exact Or.inl ⟨h1, Or.inr h2⟩
    · exact Or.inr h1
theorem mergeE_of {a b : Tab} (h1 : errT a = 0) (h2 : errT b = 0) (h3 : clashB a b = false) (h4 : joinE a.c b.c = 0) (h5 : (mrg a b).length ≤ 400) : mergeE a b = 0 := by
  unfold mergeE
  rw [h1, h2, h3, h4]
  simp
  omega
theorem mergeT_ok {a b : Tab} (h : mergeE a b = 0) : mergeT a b = ⟨joinC a.c b.c, mrg a b⟩ := by unfold mergeT; rw [if_pos h]
theorem errT_place {t : Tab} (h : errT t = 0) {x : Cel} (hx : x ∈ t.e) : okPlace x.2.1 x.2.2.1 x.2.2.2 = true := by
  obtain ⟨j, hj, rfl⟩ := List.getElem_of_mem hx
  have hk := (errT_parts h).2.2 j hj
  have hg : t.e.getD j ((0, 0), 0, 0, 0) = t.e[j] := by simp [hj]
  unfold okCel at hk
  rw [hg] at hk
  simp only [Bool.and_eq_true] at hk
  exact hk.1.2
theorem errT_of {c : Ctx} {e : List Cel} (hc : errC c = 0) (hl : e.length ≤ 400) (ha : Asc e) (h : ∀ x ∈ e, hasB c x.1 = true ∧ okPlace x.2.1 x.2.2.1 x.2.2.2 = true) : errT ⟨c, e⟩ = 0 := by
  refine errT_ok hc hl fun k hk => ?_
  have hk' : k < e.length := hk
  cases k with
  | zero =>
    rw [okCel_zero (t := ⟨c, e⟩) hk rfl]
    have := h e[0] (List.getElem_mem hk')
    simp [this.1, this.2]
  | succ m =>
    rw [okCel_succ (t := ⟨c, e⟩) hk rfl rfl]
    have := h e[m + 1] (List.getElem_mem hk')
    have h2 := (List.pairwise_iff_getElem.1 ha) m (m + 1) (by omega) hk' (by omega)
    simp [this.1, this.2, h2]
theorem mem_cases {a b : Tab} (hc : clashB a b = false) {x : Cel} (h : x ∈ mrg a b) : x ∈ a.e ∨ x ∈ b.e := by
  rcases (mem_mrg hc).1 h with h | h | h
  · exact Or.inl h.1
  · exact Or.inl h.1
  · exact Or.inr h.1
/-- A merged table is right. -/
theorem errT_merge {a b : Tab} (h : mergeE a b = 0) : errT (mergeT a b) = 0 := by
  obtain ⟨h1, h2, h3, h4, h5⟩ := mergeE_parts h
  rw [mergeT_ok h]
  refine errT_of (join_can h4).2.1 h5 (mrg_asc h1 h2) fun x hx => ?_
  rw [join_has h4]
  rcases mem_cases h3 hx with hx | hx
  · exact ⟨by rw [errT_has h1 hx]; rfl, errT_place h1 hx⟩
  · exact ⟨by rw [errT_has h2 hx]; simp, errT_place h2 hx⟩
theorem clash_comm {a b : Tab} (h : clashB a b = false) : clashB b a = false := noclash.2 fun x hx y hy e => (noclash.1 h y hy x hx e.symm).symm
/-- It doesn't matter in which order two are merged. -/
theorem merge_sym {a b : Tab} (h : mergeE a b = 0) : mergeE b a = 0 ∧ mergeT b a = mergeT a b := by
  obtain ⟨h1, h2, h3, h4, h5⟩ := mergeE_parts h
  have h3' := clash_comm h3
  have hm : mrg b a = mrg a b := by
    refine asc_extK (mrg_asc h2 h1) (mrg_asc h1 h2) fun x => ?_
    rw [mem_mrg h3', mem_mrg h3]
    constructor
    · rintro (⟨k1, k2⟩ | k | k)
      · exact Or.inl ⟨k2, k1⟩
      · exact Or.inr (Or.inr k)
      · exact Or.inr (Or.inl k)
    · rintro (⟨k1, k2⟩ | k | k)
      · exact Or.inl ⟨k2, k1⟩
      · exact Or.inr (Or.inr k)
      · exact Or.inr (Or.inl k)
  have hj := join_sym h4
  have h0 : mergeE b a = 0 := mergeE_of h2 h1 h3' hj.1 (by rw [hm]; exact h5)
  exact ⟨h0, by rw [mergeT_ok h0, mergeT_ok h, hm, hj.2]⟩
theorem merge_same {a b : Tab} {e f : Int} (he : mergeE a b = e) (hf : mergeE b a = f) : (e == 0) = (f == 0) := by
  by_cases h : e = 0
  · subst h
    have := (merge_sym he).1
    rw [hf] at this
    rw [this]
  · by_cases h2 : f = 0
    · subst h2
      have := (merge_sym hf).1
      rw [he] at this
      exact absurd this h
    · have h1 : (e == 0) = false := by simpa using h
      have h3 : (f == 0) = false := by simpa using h2
      rw [h1, h3]
/-- What was merged once more brings nothing new. -/
theorem join_in {m a : Ctx} (hm : errC m = 0) (ha : errC a = 0) (h : ∀ x, hasB a x = true → hasB m x = true) : joinE m a = 0 ∧ joinC m a = m := by
  have hcm := can_of_err hm
  have hca := can_of_err ha
  have hF : joinF m a = m := can_eq (joinF_can hcm hca) hcm fun x => by
    rw [joinF_has hcm hca]
    constructor
    · rintro (k | k)
      · exact k
      · exact h x k
    · exact Or.inl
  have h0 : joinE m a = 0 := joinE_of hm ha (by rw [hF]; exact (errC_parts hm).2.1)
  exact ⟨h0, by rw [(joinE_ok h0).2.2.2.1, hF]⟩
theorem merge_in {m a : Tab} (hm : errT m = 0) (ha : errT a = 0) (hcl : clashB m a = false) (h : ∀ x, hasB a.c x = true → hasB m.c x = true) (hx : ∀ x ∈ m.e, x ∈ a.e ∨ hasB a.c x.1 = false) : mergeE m a = 0 ∧ mergeT m a = m := by
  have hj := join_in (errT_parts hm).1 (errT_parts ha).1 h
  have hme : mrg m a = m.e := by
    refine asc_extK (mrg_asc hm ha) (errT_asc hm) fun x => ?_
    rw [mem_mrg hcl]
    constructor
    · rintro (k | k | k)
      · exact k.1
      · exact k.1
      · rw [h x.1 (errT_has ha k.1)] at k
        cases k.2
    · intro k
      rcases hx x k with k2 | k2
      · exact Or.inl ⟨k, k2⟩
      · exact Or.inr (Or.inl ⟨k, k2⟩)
  have h0 : mergeE m a = 0 := mergeE_of hm ha hcl hj.1 (by rw [hme]; exact (errT_parts hm).2.1)
  exact ⟨h0, by rw [mergeT_ok h0, hme, hj.2]⟩
theorem merge_again {a b : Tab} (h : mergeE a b = 0) : mergeE (mergeT a b) a = 0 ∧ mergeT (mergeT a b) a = mergeT a b := by
  obtain ⟨h1, h2, h3, h4, h5⟩ := mergeE_parts h
  have hm := errT_merge h
  rw [mergeT_ok h] at hm ⊢
  refine merge_in hm h1 ?_ ?_ ?_
  · refine noclash.2 fun x hx y hy e => ?_
    rcases mem_cases h3 (show x ∈ mrg a b from hx) with k | k
    · exact uniqT h1 x k y hy e
    · exact (noclash.1 h3 y hy x k e.symm).symm
  · intro x hx
    show hasB (joinC a.c b.c) x = true
    rw [join_has h4, hx]; rfl
  · intro x hx
    rcases (mem_mrg h3).1 (show x ∈ mrg a b from hx) with k | k | k
    · exact Or.inl k.1
    · exact Or.inl k.1
    · exact Or.inr k.2
theorem merge_self {m : Tab} (hm : errT m = 0) : mergeE m m = 0 ∧ mergeT m m = m :=
  merge_in hm hm (noclash.2 fun x hx y hy e => uniqT hm x hx y hy e) (fun _ h => h) (fun _ h => Or.inl h)
/-- It doesn't matter in which order three are merged. -/
theorem merge_assoc {a b c : Tab} (h1 : mergeE a b = 0) (h2 : mergeE (mergeT a b) c = 0) (h3 : mergeE b c = 0) (h4 : mergeE a (mergeT b c) = 0) : mergeT (mergeT a b) c = mergeT a (mergeT b c) := by
  obtain ⟨a1, b1, k1, j1, _⟩ := mergeE_parts h1
  obtain ⟨a2, c2, k2, j2, _⟩ := mergeE_parts h2
  obtain ⟨b3, c3, k3, j3, _⟩ := mergeE_parts h3
  obtain ⟨a4, bc4, k4, j4, _⟩ := mergeE_parts h4
  have hE : mrg (mergeT a b) c = mrg a (mergeT b c) := by
    refine asc_extK (mrg_asc a2 c2) (mrg_asc a4 bc4) fun x => ?_
    rw [mem_mrg k2, mem_mrg k4]
    have e1 : x ∈ (mergeT a b).e ↔ (x ∈ a.e ∧ x ∈ b.e) ∨ (x ∈ a.e ∧ hasB b.c x.1 = false) ∨ (x ∈ b.e ∧ hasB a.c x.1 = false) := by rw [mergeT_ok h1]; exact mem_mrg k1
    have e2 : x ∈ (mergeT b c).e ↔ (x ∈ b.e ∧ x ∈ c.e) ∨ (x ∈ b.e ∧ hasB c.c x.1 = false) ∨ (x ∈ c.e ∧ hasB b.c x.1 = false) := by rw [mergeT_ok h3]; exact mem_mrg k3
    have s1 : hasB (mergeT a b).c x.1 = (hasB a.c x.1 || hasB b.c x.1) := by rw [mergeT_ok h1]; exact join_has j1 _
    have s2 : hasB (mergeT b c).c x.1 = (hasB b.c x.1 || hasB c.c x.1) := by rw [mergeT_ok h3]; exact join_has j3 _
    rw [e1, e2, s1, s2]
    have ia : x ∈ a.e → hasB a.c x.1 = true := errT_has a1
    have ib : x ∈ b.e → hasB b.c x.1 = true := errT_has b1
    have ic : x ∈ c.e → hasB c.c x.1 = true := errT_has c2
    clear e1 e2 s1 s2
    generalize hasB a.c x.1 = sa at *
    generalize hasB b.c x.1 = sb at *
    generalize hasB c.c x.1 = sc at *
    by_cases pa : x ∈ a.e <;> by_cases pb : x ∈ b.e <;> by_cases pc : x ∈ c.e <;> cases sa <;> cases sb <;> cases sc <;> simp_all
  rw [mergeT_ok h2, mergeT_ok h4, hE]
  have := join_assoc (a := a.c) (b := b.c) (c := c.c) j1 (by rw [mergeT_ok h1] at j2; exact j2) j3 (by rw [mergeT_ok h3] at j4; exact j4)
  rw [show (mergeT a b).c = joinC a.c b.c from by rw [mergeT_ok h1], show (mergeT b c).c = joinC b.c c.c from by rw [mergeT_ok h3], this]

end Go.Proofs.Ytjgefnipkaecgac
