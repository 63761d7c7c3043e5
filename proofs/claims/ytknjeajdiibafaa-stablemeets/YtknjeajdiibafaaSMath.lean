/-
  Plain facts: what Meet tells has just the dots that all have; what viewref.Common gathers makes the same.
-/
import Derived.Test.YtknjeajdiibafaaSMeet
namespace Go.Proofs.Ytknjeajdiibafaa
open Go.RowKit Go.Sort

theorem allB_iff {l : List Cx} {x : Int × Int} : allB l x = true ↔ ∀ y ∈ l, hasB y.c x = true := by
  unfold allB
  rw [List.all_eq_true]
theorem leastX_le (n : Int) (l : List Cx) : ∀ x0 : Cx, clk (leastX x0 n l).c n ≤ clk x0.c n ∧ ∀ y ∈ l, clk (leastX x0 n l).c n ≤ clk y.c n := by
  induction l with
  | nil => intro x0; exact ⟨Int.le_refl _, fun y hy => by cases hy⟩
  | cons z r ih =>
    intro x0
    have h := ih (if clk z.c n < clk x0.c n then z else x0)
    show clk (leastX (if clk z.c n < clk x0.c n then z else x0) n r).c n ≤ _ ∧ ∀ y ∈ z :: r, clk (leastX (if clk z.c n < clk x0.c n then z else x0) n r).c n ≤ _
    by_cases hz : clk z.c n < clk x0.c n
    · rw [if_pos hz] at h ⊢
      refine ⟨by omega, fun y hy => ?_⟩
      rcases List.mem_cons.1 hy with rfl | hy
      · exact h.1
      · exact h.2 y hy
    · rw [if_neg hz] at h ⊢
      refine ⟨h.1, fun y hy => ?_⟩
      rcases List.mem_cons.1 hy with rfl | hy
      · omega
      · exact h.2 y hy
theorem clk_setL (c : Ctx) (m : List (Int × Int)) (a : Int) : clk { c with l := m } a = clk c a := rfl
theorem clk_zeroC (a : Int) : clk zeroC a = 0 := by unfold clk zeroC; split <;> (try rfl); split <;> (try rfl); split <;> rfl

/-- What is known of the first nodes' part. -/
structure Met (l : List Cx) (x0 : Cx) (k : Nat) : Prop where
  clk : ∀ a : Int, 0 ≤ a → a < 4 → Proofs.Ytknjeajdiibafaa.clk (metN l x0 k) a = if a < k then Proofs.Ytknjeajdiibafaa.clk (leastX x0 a l).c a else 0
  mem : ∀ x, x ∈ (metN l x0 k).l ↔ 0 ≤ x.1 ∧ x.1 < k ∧ allB l x = true ∧ x ∈ (leastX x0 x.1 l).c.l
  rise : (metN l x0 k).l.Pairwise fun x y => befB x y = true

theorem met_all {l : List Cx} {x0 : Cx} (hin : ∀ n : Int, leastX x0 n l ∈ l) (hall : ∀ x ∈ l, errC x.c = 0) : ∀ k : Nat, k ≤ 4 → Met l x0 k
  | 0, _ => ⟨fun a h0 _ => by rw [if_neg (by omega)]; exact clk_zeroC a, fun x => ⟨fun h => (by cases h), fun h => by omega⟩, List.Pairwise.nil⟩
  | k + 1, hk => by
    have ih := met_all hin hall k (by omega)
    have hcan := can_of_err (hall _ (hin (k : Int)))
    refine ⟨fun a h0 h4 => ?_, fun x => ?_, ?_⟩
    · show Proofs.Ytknjeajdiibafaa.clk (setClk (metN l x0 k) (k : Int) (Proofs.Ytknjeajdiibafaa.clk (leastX x0 (k : Int) l).c (k : Int))) a = _
      rw [clk_setClk _ _ _ _ (by omega) (by omega) h0 h4]
      by_cases ha : a = (k : Int)
      · rw [if_pos ha, if_pos (by omega), ha]
      · rw [if_neg ha, ih.clk a h0 h4]
        by_cases hak : a < (k : Int)
        · rw [if_pos hak, if_pos (by omega)]
        · rw [if_neg hak, if_neg (by omega)]
    · show x ∈ (metN l x0 k).l ++ (leastX x0 (k : Int) l).c.l.filter (shP l (k : Int)) ↔ _
      rw [List.mem_append, ih.mem, List.mem_filter]
      unfold shP
      constructor
      · rintro (h | ⟨h1, h2⟩)
        · exact ⟨h.1, by omega, h.2.2⟩
        · simp only [Bool.and_eq_true, decide_eq_true_eq] at h2
          rw [h2.1]
          exact ⟨by omega, by omega, h2.2, h1⟩
      · rintro ⟨h0, h1, h2, h3⟩
        by_cases hx : x.1 < (k : Int)
        · exact Or.inl ⟨h0, hx, h2, h3⟩
        · have e : x.1 = (k : Int) := by omega
          rw [e] at h3
          exact Or.inr ⟨h3, by simp [e, h2]⟩
    · show ((metN l x0 k).l ++ (leastX x0 (k : Int) l).c.l.filter (shP l (k : Int))).Pairwise _
      refine List.pairwise_append.2 ⟨ih.rise, hcan.rise.filter _, fun x hx y hy => ?_⟩
      have h1 := (ih.mem x).1 hx
      have h2 := (List.mem_filter.1 hy).2
      unfold shP at h2
      simp only [Bool.and_eq_true, decide_eq_true_eq] at h2
      rw [befB_iff]
      omega

theorem meetF_can {l : List Cx} (h : errX l = 0) : Can (meetF l) := by
  obtain ⟨hpos, hall⟩ := errX_ok h
  have hin : ∀ n : Int, leastX l[0] n l ∈ l := fun n => leastX_in hpos
  rw [meetF_pos hpos]
  have hm := met_all hin hall 4 (Nat.le_refl _)
  refine ⟨okClk_of fun a h0 h4 => ?_, fun y hy => ?_, fun y hy => ?_, hm.rise⟩
  · rw [hm.clk a h0 h4, if_pos (by omega)]
    have := clk_of_ok (can_of_err (hall _ (hin a))).ck a h0 h4
    simp [inB]; omega
  · have h1 := (hm.mem y).1 hy
    exact (can_of_err (hall _ (hin y.1))).right y h1.2.2.2
  · have h1 := (hm.mem y).1 hy
    rw [hm.clk y.1 h1.1 (by omega), if_pos (by omega)]
    exact (can_of_err (hall _ (hin y.1))).above y h1.2.2.2
theorem meetF_has {l : List Cx} (h : errX l = 0) (x : Int × Int) : hasB (meetF l) x = true ↔ allB l x = true := by
  obtain ⟨hpos, hall⟩ := errX_ok h
  have hin : ∀ n : Int, leastX l[0] n l ∈ l := fun n => leastX_in hpos
  rw [meetF_pos hpos]
  have hm := met_all hin hall 4 (Nat.le_refl _)
  rw [hasB_iff]
  constructor
  · rintro (hx | hx)
    · exact ((hm.mem x).1 hx).2.2.1
    · rw [hm.clk x.1 hx.1 (by omega), if_pos (by omega)] at hx
      refine allB_iff.2 fun y hy => (hasB_iff _ _).2 (Or.inr ⟨hx.1, hx.2.1, hx.2.2.1, ?_⟩)
      have := (leastX_le x.1 l l[0]).2 y hy
      omega
  · intro ha
    have h1 := allB_iff.1 ha _ (hin x.1)
    have hr := has_range (can_of_err (hall _ (hin x.1))) h1
    rcases (hasB_iff _ _).1 h1 with h2 | h2
    · exact Or.inl ((hm.mem x).2 ⟨hr.1, by omega, ha, h2⟩)
    · exact Or.inr ⟨h2.1, h2.2.1, h2.2.2.1, by rw [hm.clk x.1 h2.1 (by omega), if_pos (by omega)]; exact h2.2.2.2⟩
theorem meetF_len {l : List Cx} (h : errX l = 0) : (meetF l).l.length ≤ 1600 := by
  obtain ⟨hpos, hall⟩ := errX_ok h
  rw [meetF_pos hpos]
  have := metN_len (l := l) (x0 := l[0]) (fun k => (errC_parts (hall _ (leastX_in hpos))).2.1) 4
  omega

theorem nodup_len {l : List (Int × Int)} : ∀ {m : List (Int × Int)}, l.Nodup → (∀ x ∈ l, x ∈ m) → l.length ≤ m.length := by
  induction l with
  | nil => intro m _ _; exact Nat.zero_le _
  | cons x r ih =>
    intro m h hs
    have hx := hs x (List.mem_cons_self ..)
    have h2 := List.nodup_cons.1 h
    have h3 := ih (m := m.erase x) h2.2 fun y hy => (List.mem_erase_of_ne (fun e => h2.1 (by rw [← e]; exact hy))).2 (hs y (List.mem_cons_of_mem _ hy))
    rw [List.length_erase_of_mem hx] at h3
    have : 0 < m.length := List.length_pos_of_mem hx
    simp only [List.length_cons]
    omega

/-- D: those of s that all have, each once. -/
structure ShD (l : List Cx) (s D : List (Int × Int)) : Prop where
  nd : D.Nodup
  mem : ∀ x, x ∈ D ↔ x ∈ s ∧ allB l x = true
theorem ShD.nil (l : List Cx) : ShD l [] [] := ⟨List.nodup_nil, fun x => by simp⟩
theorem ShD.no {l : List Cx} {s D : List (Int × Int)} (h : ShD l s D) {x : Int × Int} (hx : allB l x = false) : ShD l (s ++ [x]) D := by
  refine ⟨h.nd, fun y => ?_⟩
  rw [h.mem, List.mem_append, List.mem_singleton]
  constructor
  · exact fun g => ⟨Or.inl g.1, g.2⟩
  · rintro ⟨g | rfl, g2⟩
    · exact ⟨g, g2⟩
    · rw [hx] at g2; cases g2
theorem ShD.old {l : List Cx} {s D : List (Int × Int)} (h : ShD l s D) {x : Int × Int} (hx : memB D x = true) : ShD l (s ++ [x]) D := by
  have hx' : x ∈ D := by simpa [memB] using hx
  refine ⟨h.nd, fun y => ?_⟩
  rw [h.mem, List.mem_append, List.mem_singleton]
  constructor
  · exact fun g => ⟨Or.inl g.1, g.2⟩
  · rintro ⟨g | rfl, g2⟩
    · exact ⟨g, g2⟩
    · exact (h.mem _).1 hx'
theorem ShD.new {l : List Cx} {s D : List (Int × Int)} (h : ShD l s D) {x : Int × Int} (ha : allB l x = true) (hx : memB D x = false) : ShD l (s ++ [x]) (D ++ [x]) := by
  have hx' : x ∉ D := by simpa [memB] using hx
  refine ⟨?_, fun y => ?_⟩
  · rw [List.nodup_append]
    refine ⟨h.nd, by simp, fun a hin b hb e => ?_⟩
    rw [List.mem_singleton] at hb
    subst hb
    exact hx' (e ▸ hin)
  · rw [List.mem_append, List.mem_append, List.mem_singleton, h.mem]
    constructor
    · rintro (g | rfl)
      · exact ⟨Or.inl g.1, g.2⟩
      · exact ⟨Or.inr rfl, ha⟩
    · rintro ⟨g | rfl, g2⟩
      · exact Or.inl ⟨g, g2⟩
      · exact Or.inr rfl

/-- All clouds, one behind the other. -/
def clouds (l : List Cx) : List (Int × Int) := l.flatMap fun y => y.c.l
theorem clouds_take {l : List Cx} {k : Nat} (h : k < l.length) {y : Cx} (hy : l[k] = y) : clouds (l.take (k + 1)) = clouds (l.take k) ++ y.c.l := by
  unfold clouds
  rw [List.take_succ_eq_append_getElem h, List.flatMap_append, hy]
  simp
/-- What is gathered stands in Meet's cloud. -/
theorem shD_in {l : List Cx} (h : errX l = 0) {s D : List (Int × Int)} (hD : ShD l s D) (hs : ∀ x ∈ s, x ∈ clouds l) : ∀ x ∈ D, x ∈ (meetF l).l := by
  intro x hx
  obtain ⟨hpos, hall⟩ := errX_ok h
  obtain ⟨h1, h2⟩ := (hD.mem x).1 hx
  obtain ⟨y, hy, hxy⟩ := List.mem_flatMap.1 (hs x h1)
  have hab := (can_of_err (hall y hy)).above x hxy
  rcases (hasB_iff _ _).1 ((meetF_has h x).2 h2) with g | g
  · exact g
  · have hin : ∀ n : Int, leastX l[0] n l ∈ l := fun n => leastX_in hpos
    rw [meetF_pos hpos, (met_all hin hall 4 (Nat.le_refl _)).clk x.1 g.1 (by omega), if_pos (by omega)] at g
    have := (leastX_le x.1 l l[0]).2 y hy
    omega
theorem shD_len {l : List Cx} (h : errX l = 0) {s D : List (Int × Int)} (hD : ShD l s D) (hs : ∀ x ∈ s, x ∈ clouds l) : D.length ≤ 1600 :=
  Nat.le_trans (nodup_len hD.nd (shD_in h hD hs)) (meetF_len h)
theorem shD_right {l : List Cx} (h : errX l = 0) {s D : List (Int × Int)} (hD : ShD l s D) (hs : ∀ x ∈ s, x ∈ clouds l) : ∀ x ∈ D, rightB x = true := fun x hx => (meetF_can h).right x (shD_in h hD hs x hx)

/-- The least clocks, and what was gathered: it is what Meet tells. -/
theorem common_eq {l : List Cx} (h : errX l = 0) {c : Ctx} (hc : c.l = []) (hk : ∀ a : Int, 0 ≤ a → a < 4 → clk c a = clk (leastX (l[0]'(errX_ok h).1) a l).c a) {D : List (Int × Int)} (hD : ShD l (clouds l) D) : okClk c = true ∧ foldS c D = meetF l := by
  obtain ⟨hpos, hall⟩ := errX_ok h
  have hin : ∀ n : Int, leastX l[0] n l ∈ l := fun n => leastX_in hpos
  have hm := met_all hin hall 4 (Nat.le_refl _)
  have hok : okClk c = true := okClk_of fun a h0 h4 => by
    rw [hk a h0 h4]
    have := clk_of_ok (can_of_err (hall _ (hin a))).ck a h0 h4
    simp [inB]; omega
  have hr := shD_right h hD (fun x hx => hx)
  refine ⟨hok, can_eq (foldS_can hc hok hr) (meetF_can h) fun x => ?_⟩
  rw [foldS_has hc hr x, meetF_has h x]
  constructor
  · rintro (g | g)
    · rcases (hasB_iff _ _).1 g with g | g
      · rw [hc] at g; cases g
      · refine allB_iff.2 fun y hy => (hasB_iff _ _).2 (Or.inr ⟨g.1, g.2.1, g.2.2.1, ?_⟩)
        rw [hk x.1 g.1 (by omega)] at g
        have := (leastX_le x.1 l l[0]).2 y hy
        omega
    · exact ((hD.mem x).1 g).2
  · intro ha
    have h1 := allB_iff.1 ha _ (hin x.1)
    rcases (hasB_iff _ _).1 h1 with h2 | h2
    · exact Or.inr ((hD.mem x).2 ⟨List.mem_flatMap.2 ⟨_, hin x.1, h2⟩, ha⟩)
    · exact Or.inl ((hasB_iff _ _).2 (Or.inr ⟨h2.1, h2.2.1, h2.2.2.1, by rw [hk x.1 h2.1 (by omega)]; exact h2.2.2.2⟩))

theorem meetC_len (l : List Cx) : (meetC l).l.length ≤ 400 := by
  unfold meetC
  by_cases h : meetE l = 0
  · rw [if_pos h]
    by_cases hx : errX l = 0
    · by_cases hl : 400 < (meetF l).l.length
      · rw [(meet_large hx hl).1] at h; cases h
      · omega
    · rw [(meet_bad hx).1] at h; exact absurd h hx
  · rw [if_neg h]; simp [zeroC]

end Go.Proofs.Ytknjeajdiibafaa
