/-
  Plain facts of Minus, Less and Next: what is missing is what a has and b hasn't; joined, it is no more missing.
-/
import Derived.Test.YtknjeajdiibafaaCanon
import Derived.Test.YtknjeajdiibafaaMinus
import Derived.Test.YtknjeajdiibafaaLess
import Derived.Test.YtknjeajdiibafaaNext
import Derived.Test.YtknjeajdiibafaaGs
namespace Go.Proofs.Ytknjeajdiibafaa
open Go.RowKit Go.Sort

theorem has_right {c : Ctx} (h : Can c) {x : Int × Int} (hx : hasB c x = true) : rightB x = true := by
  rcases (hasB_iff c x).1 hx with hm | hm
  · exact h.right x hm
  · have := clk_of_ok h.ck x.1 hm.1 (by omega)
    simp [rightB, inB]
    omega

theorem miss1_sound (b : Ctx) (node top : Int) : ∀ (n : Nat) (l : List (Int × Int)) (s : Int) (x : Int × Int), x ∈ miss1 b node top n l s → x ∈ l ∨ (x.1 = node ∧ s ≤ x.2 ∧ x.2 ≤ top ∧ hasB b x = false) := by
  intro n
  induction n with
  | zero => intro l s x h; exact Or.inl h
  | succ n ih =>
    intro l s x h
    by_cases hc : s ≤ top ∧ l.length ≤ 400
    · simp only [miss1, if_pos hc] at h
      rcases ih _ _ x h with h | h
      · by_cases hh : hasB b (node, s) = true
        · rw [if_pos hh] at h; exact Or.inl h
        · rw [if_neg hh] at h
          rcases List.mem_append.1 h with h | h
          · exact Or.inl h
          · obtain rfl : x = (node, s) := by simpa using h
            exact Or.inr ⟨rfl, Int.le_refl _, hc.1, by simpa using hh⟩
      · exact Or.inr ⟨h.1, by omega, h.2.2.1, h.2.2.2⟩
    · simp only [miss1, if_neg hc] at h; exact Or.inl h

theorem miss1_all (b : Ctx) (node top : Int) : ∀ (n : Nat) (l : List (Int × Int)) (s : Int), (top + 1 - s).toNat ≤ n → (miss1 b node top n l s).length ≤ 400 → ∀ x : Int × Int, x ∈ l ∨ (x.1 = node ∧ s ≤ x.2 ∧ x.2 ≤ top ∧ hasB b x = false) → x ∈ miss1 b node top n l s := by
  intro n
  induction n with
  | zero =>
    intro l s hn _ x h
    rcases h with h | h
    · exact h
    · omega
  | succ n ih =>
    intro l s hn hl x h
    by_cases hc : s ≤ top ∧ l.length ≤ 400
    · simp only [miss1, if_pos hc] at hl ⊢
      refine ih _ _ (by omega) hl x ?_
      rcases h with h | h
      · left
        by_cases hh : hasB b (node, s) = true
        · rw [if_pos hh]; exact h
        · rw [if_neg hh]; exact List.mem_append_left _ h
      · by_cases hs : x.2 = s
        · left
          obtain rfl : x = (node, s) := Prod.ext h.1 hs
          rw [h.2.2.2]
          simp
        · exact Or.inr ⟨h.1, by omega, h.2.2.1, h.2.2.2⟩
    · simp only [miss1, if_neg hc] at hl ⊢
      rcases h with h | h
      · exact h
      · omega

theorem miss2_mem (b : Ctx) (node : Int) (ds : List (Int × Int)) : ∀ (l : List (Int × Int)) (x : Int × Int), x ∈ miss2 b node ds l ↔ x ∈ l ∨ (x ∈ ds ∧ x.1 = node ∧ hasB b x = false) := by
  induction ds with
  | nil => intro l x; simp [miss2]
  | cons y ds ih =>
    intro l x
    show x ∈ miss2 b node ds (if y.1 = node ∧ hasB b y = false then l ++ [y] else l) ↔ _
    rw [ih]
    by_cases hc : y.1 = node ∧ hasB b y = false
    · rw [if_pos hc, List.mem_append, List.mem_singleton, List.mem_cons]
      constructor
      · rintro ((h | h) | h)
        · exact Or.inl h
        · exact Or.inr ⟨Or.inl h, by rw [h]; exact hc⟩
        · exact Or.inr ⟨Or.inr h.1, h.2⟩
      · rintro (h | ⟨h | h, k⟩)
        · exact Or.inl (Or.inl h)
        · exact Or.inl (Or.inr h)
        · exact Or.inr ⟨h, k⟩
    · rw [if_neg hc, List.mem_cons]
      constructor
      · rintro (h | h)
        · exact Or.inl h
        · exact Or.inr ⟨Or.inr h.1, h.2⟩
      · rintro (h | ⟨h | h, k⟩)
        · exact Or.inl h
        · subst h; exact absurd k hc
        · exact Or.inr ⟨h, k⟩

theorem missN_sound {a b : Ctx} (hb : Can b) {node : Int} (h0 : 0 ≤ node) (h4 : node < 4) {l : List (Int × Int)} {x : Int × Int} (h : x ∈ missN a b node l) : x ∈ l ∨ (x.1 = node ∧ hasB a x = true ∧ hasB b x = false) := by
  rcases (miss2_mem b node a.l _ x).1 h with h | h
  · rcases miss1_sound b node _ _ _ _ x h with h | h
    · exact Or.inl h
    · have := clk_of_ok hb.ck node h0 h4
      refine Or.inr ⟨h.1, (hasB_iff a x).2 (Or.inr ⟨by omega, by omega, by omega, ?_⟩), h.2.2.2⟩
      rw [h.1]; exact h.2.2.1
  · exact Or.inr ⟨h.2.1, (hasB_iff a x).2 (Or.inl h.1), h.2.2⟩

theorem missN_all {a b : Ctx} {node : Int} {l : List (Int × Int)} (hl : (missN a b node l).length ≤ 400) {x : Int × Int} (h : x ∈ l ∨ (x.1 = node ∧ hasB a x = true ∧ hasB b x = false)) : x ∈ missN a b node l := by
  have h1 : (miss1 b node (clk a node) (clk a node - clk b node).toNat l (clk b node + 1)).length ≤ 400 := Nat.le_trans (miss2_ge b node a.l _) hl
  have hall := miss1_all b node (clk a node) _ l (clk b node + 1) (by omega) h1
  refine (miss2_mem b node a.l _ x).2 ?_
  rcases h with h | ⟨hn, ha, hb⟩
  · exact Or.inl (hall x (Or.inl h))
  · rcases (hasB_iff a x).1 ha with hm | hm
    · exact Or.inr ⟨hm, hn, hb⟩
    · refine Or.inl (hall x (Or.inr ⟨hn, ?_, by rw [← hn]; exact hm.2.2.2, hb⟩))
      rcases Int.lt_or_le (clk b node) x.2 with hlt | hle
      · omega
      · exact absurd ((hasB_iff b x).2 (Or.inr ⟨hm.1, hm.2.1, hm.2.2.1, by rw [hn]; exact hle⟩)) (by rw [hb]; simp)

theorem missK_sound {a b : Ctx} (hb : Can b) : ∀ k, k ≤ 4 → ∀ x ∈ missK a b k, hasB a x = true ∧ hasB b x = false := by
  intro k
  induction k with
  | zero => intro _ x hx; cases hx
  | succ k ih =>
    intro hk x hx
    rcases missN_sound hb (by omega) (by omega) hx with h | h
    · exact ih (by omega) x h
    · exact h.2

theorem missK_all {a b : Ctx} {x : Int × Int} (h0 : 0 ≤ x.1) (ha : hasB a x = true) (hb : hasB b x = false) : ∀ k : Nat, (missK a b k).length ≤ 400 → x.1 < k → x ∈ missK a b k := by
  intro k
  induction k with
  | zero => intro _ h; omega
  | succ k ih =>
    intro hl hx
    refine missN_all hl ?_
    by_cases e : x.1 = (k : Int)
    · exact Or.inr ⟨e, ha, hb⟩
    · exact Or.inl (ih (Nat.le_trans (missK_ge a b k) hl) (by omega))

theorem minus_ok {a b : Ctx} (h : minusE a b = 0) : Can a ∧ Can b ∧ minusL a b = missK a b 4 ∧ (missK a b 4).length ≤ 400 := by
  have he : errB a b = 0 := by
    unfold minusE at h
    by_cases he : errB a b = 0
    · exact he
    · rw [if_neg he] at h; exact absurd h he
  have hl : (missK a b 4).length ≤ 400 := by
    unfold minusE at h
    rw [if_pos he] at h
    by_cases hl : 400 < (missK a b 4).length
    · rw [if_pos hl] at h; cases h
    · omega
  exact ⟨can_of_err (errB_ok he).1, can_of_err (errB_ok he).2, by simp [minusL, h], hl⟩

theorem minus_has {a b : Ctx} (h : minusE a b = 0) : ∀ x ∈ minusL a b, hasB a x = true ∧ hasB b x = false := by
  obtain ⟨_, hb, he, _⟩ := minus_ok h
  rw [he]
  exact missK_sound hb 4 (Nat.le_refl _)

theorem minus_mem {a b : Ctx} (h : minusE a b = 0) (x : Int × Int) : x ∈ minusL a b ↔ hasB a x = true ∧ hasB b x = false := by
  constructor
  · exact minus_has h x
  · rintro ⟨h1, h2⟩
    obtain ⟨ha, _, he, hl⟩ := minus_ok h
    have := has_range ha h1
    rw [he]
    exact missK_all this.1 h1 h2 4 hl (by omega)

theorem minus_right {a b : Ctx} (h : minusE a b = 0) : ∀ x ∈ minusL a b, rightB x = true := fun x hx => has_right (minus_ok h).1 (minus_has h x hx).1

theorem minus_make {a b : Ctx} (h : minusE a b = 0) : makeE (minusL a b) = 0 := by
  obtain ⟨_, _, he, hl⟩ := minus_ok h
  unfold makeE
  rw [if_neg (by rw [he]; omega), badL_not fun j hj => minus_right h _ (List.getElem_mem hj)]
  rfl

theorem minus_join {a b : Ctx} (h : minusE a b = 0) (h1 : joinE b (makeC (minusL a b)) = 0) (h2 : joinE a b = 0) : joinC b (makeC (minusL a b)) = joinC a b := by
  obtain ⟨hb, hm, _, e1, _⟩ := joinE_ok h1
  obtain ⟨ha, _, _, e2, _⟩ := joinE_ok h2
  rw [e1, e2]
  refine can_eq (joinF_can hb hm) (joinF_can ha hb) fun x => ?_
  rw [joinF_has hb hm, joinF_has ha hb]
  have hmk : makeC (minusL a b) = foldS zeroC (minusL a b) := by unfold makeC; rw [if_pos (minus_make h)]
  have hz : hasB zeroC x = false := by
    cases hc : hasB zeroC x
    · rfl
    · rcases (hasB_iff zeroC x).1 hc with hk | hk
      · cases hk
      · have hk0 : clk zeroC x.1 = 0 := by simp [clk, zeroC]
        omega
  rw [hmk, foldS_has rfl (minus_right h) x, minus_mem h, hz]
  constructor
  · rintro (k | k | k)
    · exact Or.inr k
    · cases k
    · exact Or.inl k.1
  · rintro (k | k)
    · cases hb' : hasB b x
      · exact Or.inr (Or.inr ⟨k, rfl⟩)
      · exact Or.inl rfl
    · exact Or.inl k

theorem topS_hi (c : Ctx) (n : Int) : ∀ (l : List (Int × Int)) (x : Int × Int), x ∈ l → x.1 = n → x.2 ≤ topS c n l := by
  have hmono : ∀ (l : List (Int × Int)) (m : Int), m ≤ l.foldl (fun m x => if x.1 = n then max m x.2 else m) m := by
    intro l
    induction l with
    | nil => intro m; simp
    | cons x l ih =>
      intro m
      simp only [List.foldl_cons]
      refine Int.le_trans ?_ (ih (if x.1 = n then max m x.2 else m))
      split <;> omega
  intro l x hx hn
  unfold topS
  suffices h : ∀ (l : List (Int × Int)) (m : Int), x ∈ l → x.2 ≤ l.foldl (fun m x => if x.1 = n then max m x.2 else m) m from h l _ hx
  intro l
  induction l with
  | nil => intro m h; cases h
  | cons y l ih =>
    intro m h
    simp only [List.foldl_cons]
    rcases List.mem_cons.1 h with rfl | h
    · refine Int.le_trans ?_ (hmono l _)
      rw [if_pos hn]; omega
    · exact ih _ h

/-- The next dot is a new one, of that node. -/
theorem next_new {c : Ctx} {n : Int} (h : (nextA c n).2 = 0) : (nextA c n).1.1 = n ∧ hasB c (nextA c n).1 = false := by
  unfold nextA at h ⊢
  by_cases he : errC c = 0
  · rw [if_pos he] at h ⊢
    cases hin : inB n 0 3
    · rw [hin] at h; cases h
    · rw [hin] at h
      rw [if_pos rfl] at h ⊢
      change nextE c n = 0 at h
      show (nextD c n).1 = n ∧ hasB c (nextD c n) = false
      unfold nextE at h
      by_cases ht : 1099511627776 ≤ topS c n c.l
      · rw [if_pos ht] at h; cases h
      · unfold nextD
        rw [if_neg ht]
        refine ⟨rfl, ?_⟩
        cases hh : hasB c (n, topS c n c.l + 1)
        · rfl
        · rcases (hasB_iff _ _).1 hh with k | k
          · have : topS c n c.l + 1 ≤ topS c n c.l := topS_hi c n c.l _ k rfl
            omega
          · have h1 : topS c n c.l + 1 ≤ clk c n := k.2.2.2
            have h2 := topS_lo c n c.l
            omega
  · rw [if_neg he] at h; exact absurd h he

/-- Less, of right contexts: has b all that a has? -/
theorem less_iff {a b : Ctx} (ha : Can a) (hb : Can b) : lessB a b = true ↔ ∀ x, hasB a x = true → hasB b x = true := by
  unfold lessB
  rw [Bool.and_eq_true, List.all_eq_true]
  constructor
  · rintro ⟨h1, h2⟩ x hx
    rcases (hasB_iff a x).1 hx with k | k
    · exact h2 x k
    · refine (hasB_iff b x).2 (Or.inr ⟨k.1, k.2.1, k.2.2.1, ?_⟩)
      rcases Int.lt_or_le (clk b x.1) (clk a x.1) with hlt | hle
      · rw [clkLe_not k.1 (by omega) hlt] at h1; cases h1
      · omega
  · intro h
    exact ⟨clkLe_of fun n h0 h4 => clk_le_of ha hb h n h0 h4, fun x hx => h x ((hasB_iff a x).2 (Or.inl hx))⟩

end Go.Proofs.Ytknjeajdiibafaa
