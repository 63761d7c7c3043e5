/-
  What is told since another one's context: which dots it has; that it is right; that it brings what all would.
-/
import Derived.Test.YtjgefnipkaecgacRSinceM
import Derived.Test.YtjgefnipkaecgacKLatMath
namespace Go.Proofs.Ytjgefnipkaecgac
open Go.RowKit Go.Sort

theorem downTo_lt {q : Int} {K : List (Int × Int)} : ∀ {n : Int} {d : Int × Int}, d ∈ K → d.1 = q → downTo q K n ≤ d.2 - 1 := by
  induction K with
  | nil => intro n d h; cases h
  | cons x K ih =>
    intro n d h e
    rw [downTo_cons]
    rcases List.mem_cons.1 h with rfl | h
    · have h1 := downTo_le q K (downBy q n d)
      have h2 : downBy q n d ≤ d.2 - 1 := by rw [downBy_min, if_pos e]; omega
      omega
    · exact ih h e
theorem downTo_at {q : Int} {K : List (Int × Int)} : ∀ {n : Int}, downTo q K n = n ∨ ∃ d ∈ K, d.1 = q ∧ downTo q K n = d.2 - 1 := by
  induction K with
  | nil => intro n; exact Or.inl rfl
  | cons x K ih =>
    intro n
    rw [downTo_cons]
    rcases ih (n := downBy q n x) with h | ⟨d, hd, h1, h2⟩
    · rw [h, downBy_min]
      by_cases e : x.1 = q
      · rw [if_pos e]
        by_cases h2 : n ≤ x.2 - 1
        · exact Or.inl (by omega)
        · exact Or.inr ⟨x, by simp, e, by omega⟩
      · rw [if_neg e]; exact Or.inl rfl
    · exact Or.inr ⟨d, by simp [hd], h1, h2⟩

theorem miss1_rise (b : Ctx) (node top : Int) : ∀ (n : Nat) (l : List (Int × Int)) (s : Int), l.Pairwise (fun x y => befB x y = true) → (∀ x ∈ l, x.1 < node ∨ (x.1 = node ∧ x.2 < s)) →
    (miss1 b node top n l s).Pairwise (fun x y => befB x y = true) := by
  intro n
  induction n with
  | zero => intro l s h _; exact h
  | succ n ih =>
    intro l s h hl
    simp only [miss1]
    by_cases hc : s ≤ top ∧ l.length ≤ 400
    · rw [if_pos hc]
      by_cases hh : hasB b (node, s) = true
      · rw [if_pos hh]
        exact ih l (s + 1) h fun x hx => by rcases hl x hx with k | k <;> omega
      · rw [if_neg hh]
        refine ih _ (s + 1) ?_ ?_
        · rw [List.pairwise_append]
          refine ⟨h, by simp, ?_⟩
          intro x hx y hy
          have hy' : y = (node, s) := by simpa using hy
          subst hy'
          rw [befT_iff]
          rcases hl x hx with k | k
          · exact Or.inl k
          · exact Or.inr k
        · intro x hx
          rcases List.mem_append.1 hx with hx | hx
          · rcases hl x hx with k | k <;> omega
          · have hx' : x = (node, s) := by simpa using hx
            subst hx'
            exact Or.inr ⟨rfl, by show s < s + 1; omega⟩
    · rw [if_neg hc]; exact h
theorem miss2_rise (b : Ctx) (node : Int) (ds : List (Int × Int)) : ∀ (l : List (Int × Int)), ds.Pairwise (fun x y => befB x y = true) → l.Pairwise (fun x y => befB x y = true) → (∀ x ∈ l, ∀ y ∈ ds, y.1 = node → befB x y = true) →
    (miss2 b node ds l).Pairwise (fun x y => befB x y = true) := by
  induction ds with
  | nil => intro l _ h _; exact h
  | cons d ds ih =>
    intro l hd hl hx
    show (miss2 b node ds (if d.1 = node ∧ hasB b d = false then l ++ [d] else l)).Pairwise _
    have hd2 := List.pairwise_cons.1 hd
    by_cases hc : d.1 = node ∧ hasB b d = false
    · rw [if_pos hc]
      refine ih _ hd2.2 ?_ ?_
      · rw [List.pairwise_append]
        refine ⟨hl, by simp, ?_⟩
        intro x hx' y hy
        have hy' : y = d := by simpa using hy
        subst hy'
        exact hx x hx' y (by simp) hc.1
      · intro x hx' y hy e
        rcases List.mem_append.1 hx' with hx' | hx'
        · exact hx x hx' y (by simp [hy]) e
        · have hx2 : x = d := by simpa using hx'
          subst hx2
          exact hd2.1 y hy
    · rw [if_neg hc]
      exact ih _ hd2.2 hl fun x hx' y hy e => hx x hx' y (by simp [hy]) e
theorem missN_soundS {a b : Ctx} {node : Int} (h0 : 0 ≤ node) (h4 : node < 4) (hb : 0 ≤ clk b node) {l : List (Int × Int)} {x : Int × Int} (h : x ∈ missN a b node l) : x ∈ l ∨ (x.1 = node ∧ hasB a x = true ∧ hasB b x = false) := by
  unfold missN at h
  rcases (miss2_mem b node a.l _ x).1 h with h | h
  · rcases miss1_sound b node _ _ _ _ x h with h | ⟨h1, h2, h3, h5⟩
    · exact Or.inl h
    · refine Or.inr ⟨h1, (hasB_iff a x).2 (Or.inr ⟨by omega, by omega, by omega, by rw [h1]; exact h3⟩), h5⟩
  · exact Or.inr ⟨h.2.1, (hasB_iff a x).2 (Or.inl h.1), h.2.2⟩
theorem missK_soundS {a b : Ctx} (hb : ∀ q : Int, 0 ≤ q → q < 4 → 0 ≤ clk b q) : ∀ k, k ≤ 4 → ∀ x ∈ missK a b k, (0 ≤ x.1 ∧ x.1 < (k : Int)) ∧ hasB a x = true ∧ hasB b x = false := by
  intro k
  induction k with
  | zero => intro _ x hx; cases hx
  | succ k ih =>
    intro hk x hx
    rcases missN_soundS (by omega) (by omega) (hb k (by omega) (by omega)) (show x ∈ missN a b k (missK a b k) from hx) with h | h
    · have := ih (by omega) x h
      exact ⟨⟨this.1.1, by have := this.1.2; omega⟩, this.2⟩
    · exact ⟨⟨by rw [h.1]; omega, by rw [h.1]; omega⟩, h.2⟩
theorem missK_rise {a b : Ctx} (ha : Can a) (hb : ∀ q : Int, 0 ≤ q → q < 4 → 0 ≤ clk b q) : ∀ k, k ≤ 4 → (missK a b k).Pairwise (fun x y => befB x y = true) := by
  intro k
  induction k with
  | zero => intro _; exact List.Pairwise.nil
  | succ k ih =>
    intro hk
    have ih' := ih (by omega)
    have hs := missK_soundS (a := a) hb k (by omega)
    show (missN a b k (missK a b k)).Pairwise _
    unfold missN
    refine miss2_rise b k a.l _ ha.rise (miss1_rise b k _ _ _ _ ih' fun x hx => Or.inl (hs x hx).1.2) ?_
    intro x hx y hy e
    have hya := ha.above y hy
    rw [e] at hya
    rw [befT_iff]
    rcases miss1_sound b k _ _ _ _ x hx with h | h
    · exact Or.inl (by rw [e]; exact (hs x h).1.2)
    · exact Or.inr ⟨by rw [h.1, e], by omega⟩

/-- What Without tells has what c has, but the dots of K; and it is right. -/
theorem wo_ok {c : Ctx} {K : List (Int × Int)} (hK : ∀ x ∈ K, rightB x = true) (h : woE c K = 0) : errC c = 0 ∧ errC (woC c K) = 0 ∧ ∀ x, hasB (woC c K) x = true ↔ hasB c x = true ∧ x ∉ K := by
  have hc : errC c = 0 := by
    by_cases h1 : errC c = 0
    · exact h1
    · unfold woE at h; rw [if_pos h1] at h; exact h
  have hm : missE c (lowC c K) = 0 := by
    unfold woE at h; rw [hc] at h; simpa using h
  have hl : (missK c (lowC c K) 4).length ≤ 400 := by
    unfold missE at hm
    by_cases h4 : 400 < (missK c (lowC c K) 4).length
    · rw [if_pos h4] at hm; cases hm
    · omega
  have hL : missL c (lowC c K) = missK c (lowC c K) 4 := by unfold missL; rw [if_neg (by omega)]
  have hcan := can_of_err hc
  have hw : woC c K = ⟨(lowC c K).c0, (lowC c K).c1, (lowC c K).c2, (lowC c K).c3, missK c (lowC c K) 4⟩ := by unfold woC; rw [if_pos h, hL]
  have hok := lowC_ok hcan.ck hK
  have hn : ∀ q : Int, 0 ≤ q → q < 4 → 0 ≤ clk (lowC c K) q := fun q h0 h4 => (clk_of_ok hok q h0 h4).1
  have hck : ∀ q : Int, clk (woC c K) q = clk (lowC c K) q := fun q => by rw [hw]; rfl
  have hdn : ∀ q : Int, 0 ≤ q → q < 4 → clk (lowC c K) q = downTo q K (clk c q) := fun q h0 h4 => clk_lowC hK h0 h4
  have hsnd := missK_soundS (a := c) hn 4 (Nat.le_refl _)
  have hgt : ∀ x, hasB (lowC c K) x = false → x ∉ K ∧ (0 ≤ x.1 → x.1 < 4 → 1 ≤ x.2 → clk (lowC c K) x.1 < x.2) := by
    intro x hx
    unfold hasB at hx
    rw [lowC_l, Bool.or_eq_false_iff] at hx
    refine ⟨by simpa using hx.1, fun h0 h4 h1 => ?_⟩
    have h2 := hx.2
    by_cases h3 : clk (lowC c K) x.1 < x.2
    · exact h3
    · have : (inB x.1 0 3 && decide (1 ≤ x.2) && decide (x.2 ≤ clk (lowC c K) x.1)) = true := by
        simp [inB]; omega
      rw [this] at h2; cases h2
  have hC : Can (woC c K) := by
    refine ⟨?_, ?_, ?_, ?_⟩
    · rw [hw]; exact hok
    · intro y hy
      rw [hw] at hy
      exact has_right hcan (hsnd y hy).2.1
    · intro y hy
      rw [hck]
      rw [hw] at hy
      have hs := hsnd y hy
      have hr := has_range hcan hs.2.1
      have hg := hgt y hs.2.2
      have hlt := hg.2 hr.1 hr.2.1 hr.2.2
      have hd := hdn y.1 hr.1 hr.2.1
      by_cases he : y.2 = clk (lowC c K) y.1 + 1
      · exfalso
        rcases downTo_at (q := y.1) (K := K) (n := clk c y.1) with k | ⟨d, hd1, hd2, hd3⟩
        · rw [hd, k] at he
          rcases (hasB_iff c y).1 hs.2.1 with m | m
          · have := hcan.above y m
            omega
          · have := m.2.2.2
            omega
        · rw [hd, hd3] at he
          refine hg.1 ?_
          have : y = d := Prod.ext hd2.symm (by omega)
          rw [this]; exact hd1
      · omega
    · rw [hw]; exact missK_rise hcan hn 4 (Nat.le_refl _)
  refine ⟨hc, err_of_can hC (by rw [hw]; exact hl), fun x => ?_⟩
  rw [hasB_iff]
  constructor
  · rintro (k | k)
    · rw [hw] at k
      have hs := hsnd x k
      exact ⟨hs.2.1, (hgt x hs.2.2).1⟩
    · rw [hck] at k
      have h4 : x.1 < 4 := by omega
      have hd := hdn x.1 k.1 h4
      have hle := downTo_le x.1 K (clk c x.1)
      refine ⟨(hasB_iff c x).2 (Or.inr ⟨k.1, k.2.1, k.2.2.1, by omega⟩), fun hx => ?_⟩
      have := downTo_lt (n := clk c x.1) hx rfl
      omega
  · rintro ⟨h1, h2⟩
    have hr := has_range hcan h1
    by_cases hx : x.2 ≤ clk (lowC c K) x.1
    · exact Or.inr ⟨hr.1, by omega, hr.2.2, by rw [hck]; exact hx⟩
    · refine Or.inl ?_
      rw [hw]
      refine missK_all hr.1 h1 ?_ 4 hl (by omega)
      rw [has_low (by omega), has_bare]
      simpa using h2

end Go.Proofs.Ytjgefnipkaecgac
