/-
  Sets with weights: rows in order, how often each is there; two sets in which each row is as often are one.
-/
import Derived.Test.YteobmedkngdnkaaDoorZBase
namespace Go.Proofs.YteobmedkngdnkaaDoor

theorem cmpI_cases (x y : Int) : (cmpI x y = -1 ∧ x < y) ∨ (cmpI x y = 0 ∧ x = y) ∨ (cmpI x y = 1 ∧ y < x) := by
  unfold cmpI
  by_cases h : x < y
  · rw [if_pos h]; exact Or.inl ⟨rfl, h⟩
  · rw [if_neg h]
    by_cases k : y < x
    · rw [if_pos k]; exact Or.inr (Or.inr ⟨rfl, k⟩)
    · rw [if_neg k]; exact Or.inr (Or.inl ⟨rfl, by omega⟩)
theorem cmpL_flip : ∀ a b : List Int, cmpL b a = -cmpL a b
  | [], [] => rfl
  | [], _ :: _ => rfl
  | _ :: _, [] => rfl
  | x :: a, y :: b => by
    have h1 := cmpI_cases x y
    have h2 := cmpI_cases y x
    show (if cmpI y x = 0 then cmpL b a else cmpI y x) = -(if cmpI x y = 0 then cmpL a b else cmpI x y)
    by_cases e : x = y
    · subst e
      have : cmpI x x = 0 := by omega
      rw [if_pos this, if_pos this]; exact cmpL_flip a b
    · rw [if_neg (by omega), if_neg (by omega)]; omega
theorem cmpL_self : ∀ a : List Int, cmpL a a = 0
  | [] => rfl
  | x :: a => by
    have h1 := cmpI_cases x x
    show (if cmpI x x = 0 then cmpL a a else cmpI x x) = 0
    rw [if_pos (by omega)]; exact cmpL_self a
theorem cmpL_eq : ∀ a b : List Int, cmpL a b = 0 → a = b
  | [], [], _ => rfl
  | [], _ :: _, h => by cases h
  | _ :: _, [], h => by cases h
  | x :: a, y :: b, h => by
    have h1 := cmpI_cases x y
    have h' : (if cmpI x y = 0 then cmpL a b else cmpI x y) = 0 := h
    by_cases e : cmpI x y = 0
    · rw [if_pos e] at h'
      obtain rfl : x = y := by omega
      rw [cmpL_eq a b h']
    · rw [if_neg e] at h'; exact absurd h' e
theorem cmpL_trans : ∀ a b c : List Int, cmpL a b ≤ 0 → cmpL b c ≤ 0 → cmpL a c ≤ 0 ∧ (cmpL a b < 0 ∨ cmpL b c < 0 → cmpL a c < 0)
  | [], b, [], h1, h2 => by
    cases b with
    | nil => exact ⟨by decide, fun h => by rcases h with h | h <;> cases h⟩
    | cons => exact absurd h2 (by show ¬ ((1 : Int) ≤ 0); decide)
  | [], _, _ :: _, _, _ => ⟨by show (-1 : Int) ≤ 0; decide, fun _ => by show (-1 : Int) < 0; decide⟩
  | _ :: _, [], _, h, _ => absurd h (by show ¬ ((1 : Int) ≤ 0); decide)
  | _ :: _, _ :: _, [], _, h => absurd h (by show ¬ ((1 : Int) ≤ 0); decide)
  | x :: a, y :: b, z :: c, h1, h2 => by
    have k1 := cmpI_cases x y
    have k2 := cmpI_cases y z
    have k3 := cmpI_cases x z
    have h1' : (if cmpI x y = 0 then cmpL a b else cmpI x y) ≤ 0 := h1
    have h2' : (if cmpI y z = 0 then cmpL b c else cmpI y z) ≤ 0 := h2
    show (if cmpI x z = 0 then cmpL a c else cmpI x z) ≤ 0 ∧ ((if cmpI x y = 0 then cmpL a b else cmpI x y) < 0 ∨ (if cmpI y z = 0 then cmpL b c else cmpI y z) < 0 → (if cmpI x z = 0 then cmpL a c else cmpI x z) < 0)
    by_cases e1 : cmpI x y = 0
    · rw [if_pos e1] at h1' ⊢
      by_cases e2 : cmpI y z = 0
      · rw [if_pos e2] at h2' ⊢
        rw [if_pos (by omega)]
        exact cmpL_trans a b c h1' h2'
      · rw [if_neg e2] at h2' ⊢
        rw [if_neg (by omega)]
        exact ⟨by omega, fun _ => by omega⟩
    · rw [if_neg e1] at h1' ⊢
      have e3 : cmpI y z = 0 ∨ cmpI y z = -1 := by
        by_cases e2 : cmpI y z = 0
        · exact Or.inl e2
        · rw [if_neg e2] at h2'; omega
      rw [if_neg (by omega)]
      exact ⟨by omega, fun _ => by omega⟩
theorem cmpL_lt_trans {a b c : List Int} (h1 : cmpL a b < 0) (h2 : cmpL b c < 0) : cmpL a c < 0 := (cmpL_trans a b c (by omega) (by omega)).2 (Or.inl h1)
theorem cmpL_ne {a b : List Int} (h : cmpL a b < 0) : a ≠ b := fun e => by rw [e, cmpL_self] at h; omega

/-- How often a row is there in all. -/
def wt : List Zit → List Int → Int
  | [], _ => 0
  | x :: t, r => (if x.1 = r then x.2 else 0) + wt t r
theorem wt_append (a b : List Zit) (r : List Int) : wt (a ++ b) r = wt a r + wt b r := by
  induction a with
  | nil => simp [wt]
  | cons x a ih => simp only [List.cons_append, wt, ih]; omega
theorem wt_perm {a b : List Zit} (h : a.Perm b) (r : List Int) : wt a r = wt b r := by
  induction h with
  | nil => rfl
  | cons x _ ih => simp only [wt, ih]
  | swap x y l => simp only [wt]; omega
  | trans _ _ h1 h2 => rw [h1, h2]
theorem wt_none {l : List Zit} {r : List Int} (h : ∀ x ∈ l, x.1 ≠ r) : wt l r = 0 := by
  induction l with
  | nil => rfl
  | cons x l ih =>
    simp only [wt]
    rw [if_neg (h x (by simp)), ih fun y hy => h y (by simp [hy])]; rfl
theorem wt_some {l : List Zit} {r : List Int} (h : wt l r ≠ 0) : ∃ x ∈ l, x.1 = r := by
  induction l with
  | nil => exact absurd rfl h
  | cons x l ih =>
    by_cases e : x.1 = r
    · exact ⟨x, by simp, e⟩
    · simp only [wt] at h
      rw [if_neg e] at h
      obtain ⟨y, hy, hr⟩ := ih (by omega)
      exact ⟨y, by simp [hy], hr⟩
theorem wt_neg (l : List Zit) (r : List Int) : wt (l.map fun x => (x.1, -x.2)) r = -wt l r := by
  induction l with
  | nil => rfl
  | cons x l ih =>
    simp only [List.map_cons, wt, ih]
    by_cases e : x.1 = r
    · rw [if_pos e, if_pos e]; omega
    · rw [if_neg e, if_neg e]; omega

/-- The rows are in order, each once. -/
def Rise (l : List Zit) : Prop := l.Pairwise fun x y => cmpL x.1 y.1 < 0
/-- No row is there not at all. -/
def NoZ (l : List Zit) : Prop := ∀ x ∈ l, x.2 ≠ 0
theorem Rise.wt {l : List Zit} (h : Rise l) {x : Zit} (hx : x ∈ l) : wt l x.1 = x.2 := by
  induction l with
  | nil => cases hx
  | cons y l ih =>
    have h' := List.pairwise_cons.1 h
    simp only [Go.Proofs.YteobmedkngdnkaaDoor.wt]
    rcases List.mem_cons.1 hx with e | e
    · subst e
      rw [if_pos rfl, wt_none fun z hz k => cmpL_ne (h'.1 z hz) k.symm]; omega
    · rw [if_neg (cmpL_ne (h'.1 x e)), ih h'.2 e]; omega
theorem riseZ_ext : ∀ {a b : List Zit}, Rise a → Rise b → NoZ a → NoZ b → (∀ r, wt a r = wt b r) → a = b
  | [], [], _, _, _, _, _ => rfl
  | [], y :: b, _, hb, _, nb, h => by
    have h1 := h y.1
    rw [hb.wt (List.mem_cons_self ..)] at h1
    exact absurd h1.symm (nb y (List.mem_cons_self ..))
  | x :: a, [], ha, _, na, _, h => by
    have h1 := h x.1
    rw [ha.wt (List.mem_cons_self ..)] at h1
    exact absurd h1 (na x (List.mem_cons_self ..))
  | x :: a, y :: b, ha, hb, na, nb, h => by
    have ha' := List.pairwise_cons.1 ha
    have hb' := List.pairwise_cons.1 hb
    have hx := h x.1
    have hy := h y.1
    rw [ha.wt (List.mem_cons_self ..)] at hx
    rw [hb.wt (List.mem_cons_self ..)] at hy
    have e : cmpL x.1 y.1 = 0 := by
      by_cases l1 : cmpL x.1 y.1 < 0
      · exfalso
        refine na x (List.mem_cons_self ..) (hx.trans (wt_none fun z hz k => ?_))
        rcases List.mem_cons.1 hz with e | e
        · subst e; exact cmpL_ne l1 k.symm
        · exact cmpL_ne (cmpL_lt_trans l1 (hb'.1 z e)) k.symm
      · by_cases l2 : cmpL y.1 x.1 < 0
        · exfalso
          refine nb y (List.mem_cons_self ..) (hy.symm.trans (wt_none fun z hz k => ?_))
          rcases List.mem_cons.1 hz with e | e
          · subst e; exact cmpL_ne l2 k.symm
          · exact cmpL_ne (cmpL_lt_trans l2 (ha'.1 z e)) k.symm
        · have := cmpL_flip x.1 y.1; omega
    have e1 := cmpL_eq _ _ e
    have e2 : x.2 = y.2 := by rw [hx, e1, hb.wt (List.mem_cons_self ..)]
    obtain rfl : x = y := Prod.ext e1 e2
    rw [riseZ_ext ha'.2 hb'.2 (fun z hz => na z (List.mem_cons_of_mem _ hz)) (fun z hz => nb z (List.mem_cons_of_mem _ hz)) fun r => by
      have := h r
      simp only [Go.Proofs.YteobmedkngdnkaaDoor.wt] at this
      omega]

theorem getZ_lt {l : List Zit} {k : Nat} (h : k < l.length) : l.getD k ([], 0) = l[k] := by
  rw [List.getD_eq_getElem?_getD, List.getElem?_eq_getElem h]; rfl
/-- What Check takes. -/
theorem errZ_iff (l : List Zit) : errZ l = 0 ↔ l.length ≤ 400 ∧ (∀ x ∈ l, okZ x = true) ∧ Rise l := by
  unfold errZ
  by_cases h4 : 400 < l.length
  · rw [if_pos h4]
    exact ⟨fun h => absurd h (by decide), fun h => absurd h.1 (by omega)⟩
  · rw [if_neg h4]
    constructor
    · intro h
      have hall : ∀ k, k < l.length → okZ (l.getD k ([], 0)) = true ∧ incZ l k = true := by
        intro k hk
        have : (okZ (l.getD k ([], 0)) && incZ l k) = true := by
          cases e : (okZ (l.getD k ([], 0)) && incZ l k)
          · rw [if_pos ⟨k, hk, e⟩] at h; cases h
          · rfl
        simpa using this
      have hstep : ∀ k (h : k + 1 < l.length), cmpL l[k].1 l[k + 1].1 < 0 := by
        intro k hk
        have := (hall (k + 1) hk).2
        unfold incZ at this
        rw [Nat.add_sub_cancel, getZ_lt hk, getZ_lt (show k < l.length by omega)] at this
        simpa using this
      refine ⟨by omega, ?_, ?_⟩
      · intro x hx
        obtain ⟨k, hk, rfl⟩ := List.mem_iff_getElem.1 hx
        have := (hall k hk).1
        rwa [getZ_lt hk] at this
      · have : ∀ d i (hi : i + d + 1 < l.length), cmpL (l[i]'(by omega)).1 (l[i + d + 1]'hi).1 < 0 := by
          intro d
          induction d with
          | zero => intro i hi; exact hstep i hi
          | succ d ih => intro i hi; exact cmpL_lt_trans (ih i (by omega)) (hstep (i + d + 1) hi)
        unfold Rise
        rw [List.pairwise_iff_getElem]
        intro i j hi hj hij
        have h' := this (j - i - 1) i (by omega)
        have e : i + (j - i - 1) + 1 = j := by omega
        simpa only [e] using h'
    · rintro ⟨_, h1, h2⟩
      rw [if_neg]
      rintro ⟨k, hk, hf⟩
      have h3 : okZ (l.getD k ([], 0)) = true := by rw [getZ_lt hk]; exact h1 _ (List.getElem_mem hk)
      have h5 : incZ l k = true := by
        unfold incZ
        by_cases e : k = 0
        · simp [e]
        · rw [getZ_lt hk, getZ_lt (show k - 1 < l.length by omega)]
          have := (List.pairwise_iff_getElem.1 h2) (k - 1) k (by omega) hk (by omega)
          simp [this]
      rw [h3, h5] at hf; cases hf

/-- Is a row there too often? -/
def BadT (l : List Zit) : Prop := ∃ r, okW (wt l r) = false
/-- S is the set in which each row is as often as in l. -/
structure IsTot (l S : List Zit) : Prop where
  rise : Rise S
  noz : NoZ S
  same : ∀ r, wt S r = wt l r
theorem IsTot.uniq {l m S T : List Zit} (h : IsTot l S) (k : IsTot m T) (e : ∀ r, wt l r = wt m r) : S = T := riseZ_ext h.rise k.rise h.noz k.noz fun r => by rw [h.same, k.same, e]
theorem okZ_noz {l : List Zit} (h : ∀ x ∈ l, okZ x = true) : NoZ l := fun x hx => by
  have := h x hx
  unfold okZ at this
  simp at this
  exact this.2
theorem IsTot.row {l S : List Zit} (h : IsTot l S) {x : Zit} (hx : x ∈ S) : ∃ y ∈ l, y.1 = x.1 := wt_some (by rw [← h.same, h.rise.wt hx]; exact h.noz x hx)
/-- Such a set is right, if it has room. -/
theorem IsTot.okZ {l S : List Zit} (h : IsTot l S) (hb : ¬ BadT l) (hr : ∀ x ∈ l, okR x.1 = true) : ∀ x ∈ S, okZ x = true := by
  intro x hx
  obtain ⟨y, hy, e⟩ := h.row hx
  have h1 := hr y hy
  have h2 : okW x.2 = true := by
    cases e2 : okW x.2
    · exact absurd ⟨x.1, by rw [← h.same, h.rise.wt hx]; exact e2⟩ hb
    · rfl
  unfold Go.Proofs.YteobmedkngdnkaaDoor.okZ
  rw [← e, h1, h2]
  simp [h.noz x hx]
theorem okZ_parts {x : Zit} (h : okZ x = true) : okR x.1 = true ∧ okW x.2 = true ∧ x.2 ≠ 0 := by
  unfold okZ at h
  simp only [Bool.and_eq_true, decide_eq_true_eq] at h
  exact ⟨h.1.1, h.1.2, h.2⟩
theorem okW_neg (n : Int) : okW (-n) = okW n := by
  unfold okW inB
  rw [Bool.eq_iff_iff]
  simp only [Bool.and_eq_true, decide_eq_true_eq]
  omega
theorem negL_ok {l : List Zit} (h : errZ l = 0) : errZ (l.map fun x => (x.1, -x.2)) = 0 := by
  rw [errZ_iff] at h ⊢
  refine ⟨by simpa using h.1, ?_, ?_⟩
  · intro x hx
    obtain ⟨y, hy, rfl⟩ := List.mem_map.1 hx
    have := okZ_parts (h.2.1 y hy)
    unfold okZ
    simp only [Bool.and_eq_true, decide_eq_true_eq]
    exact ⟨⟨this.1, by rw [okW_neg]; exact this.2.1⟩, by omega⟩
  · unfold Rise
    rw [List.pairwise_map]
    exact h.2.2

end Go.Proofs.YteobmedkngdnkaaDoor
