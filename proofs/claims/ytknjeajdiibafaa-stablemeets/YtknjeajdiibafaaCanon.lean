/-
  Plain facts: a right context is told by the dots that it has; what fold makes has just what went in.
-/
import Derived.Test.YtknjeajdiibafaaJoin
namespace Go.Proofs.Ytknjeajdiibafaa
open Go.RowKit Go.Sort

/-- A right context, but for its size. -/
structure Can (c : Ctx) : Prop where
  ck : okClk c = true
  right : ∀ y ∈ c.l, rightB y = true
  above : ∀ y ∈ c.l, clk c y.1 + 1 < y.2
  rise : c.l.Pairwise fun x y => befB x y = true

theorem bef_irr (x : Int × Int) : befB x x = false := by simp [befB]
theorem bef_trans {x y z : Int × Int} (h : befB x y = true) (k : befB y z = true) : befB x z = true := by rw [befB_iff] at *; omega
theorem bef_asym {x y : Int × Int} (h : befB x y = true) (k : befB y x = true) : x = y := by rw [befB_iff] at *; omega
theorem bef_of {x y : Int × Int} (h : leD x y) (k : x ≠ y) : befB x y = true := by
  rw [befB_iff]
  rw [leD_iff] at h
  by_cases h1 : x.1 = y.1
  · have : x.2 ≠ y.2 := fun h2 => k (Prod.ext h1 h2)
    omega
  · omega

theorem can_of_err {c : Ctx} (h : errC c = 0) : Can c := by
  have hp := errC_parts h
  have hr := errC_right h
  refine ⟨hp.1, hr, ?_, ?_⟩
  · intro y hy
    obtain ⟨j, hj, rfl⟩ := List.getElem_of_mem hy
    have := hp.2.2 j hj
    cases j with
    | zero => rw [okAt_zero hj rfl] at this; simp at this; omega
    | succ m => rw [okAt_succ hj rfl rfl] at this; simp at this; omega
  · have step : ∀ m (hm : m + 1 < c.l.length), befB c.l[m] c.l[m + 1] = true := by
      intro m hm
      have := hp.2.2 (m + 1) hm
      rw [okAt_succ hm rfl rfl] at this
      simp at this
      exact this.1.2
    rw [List.pairwise_iff_getElem]
    intro i j hi hj hij
    obtain ⟨d, rfl⟩ : ∃ d, j = i + d + 1 := ⟨j - i - 1, by omega⟩
    clear hij
    induction d with
    | zero => exact step i hj
    | succ d ih => exact bef_trans (ih (by omega)) (step (i + d + 1) hj)

theorem err_of_can {c : Ctx} (h : Can c) (hl : c.l.length ≤ 400) : errC c = 0 := by
  refine errC_ok h.ck hl fun k hk => ?_
  have hr := h.right _ (List.getElem_mem hk)
  have ha := h.above _ (List.getElem_mem hk)
  cases k with
  | zero => rw [okAt_zero hk rfl, hr]; simp; omega
  | succ m =>
    have hb := (List.pairwise_iff_getElem.1 h.rise) m (m + 1) (by omega) hk (by omega)
    rw [okAt_succ hk rfl rfl, hr, hb]; simp; omega

theorem has_range {c : Ctx} (h : Can c) {x : Int × Int} (hx : hasB c x = true) : 0 ≤ x.1 ∧ x.1 < 4 ∧ 1 ≤ x.2 := by
  rcases (hasB_iff c x).1 hx with hm | hm
  · have := rightB_node (h.right x hm); omega
  · omega

theorem clk_le_of {c d : Ctx} (hc : Can c) (hd : Can d) (h : ∀ x, hasB c x = true → hasB d x = true) (n : Int) (h0 : 0 ≤ n) (h4 : n < 4) : clk c n ≤ clk d n := by
  have hk := clk_of_ok hc.ck n h0 h4
  have hk' := clk_of_ok hd.ck n h0 h4
  rcases Int.lt_or_le (clk d n) (clk c n) with hlt | hle
  · have h1 : hasB c (n, clk d n + 1) = true := (hasB_iff _ _).2 (Or.inr ⟨h0, by show n ≤ 3; omega, by show 1 ≤ clk d n + 1; omega, by show clk d n + 1 ≤ clk c n; omega⟩)
    rcases (hasB_iff _ _).1 (h _ h1) with hm | hm
    · have : clk d n + 1 < clk d n + 1 := hd.above _ hm
      omega
    · have : clk d n + 1 ≤ clk d n := hm.2.2.2
      omega
  · exact hle

theorem can_eq {c d : Ctx} (hc : Can c) (hd : Can d) (h : ∀ x, hasB c x = true ↔ hasB d x = true) : c = d := by
  have hk : ∀ n, 0 ≤ n → n < 4 → clk c n = clk d n := fun n h0 h4 => Int.le_antisymm (clk_le_of hc hd (fun x => (h x).1) n h0 h4) (clk_le_of hd hc (fun x => (h x).2) n h0 h4)
  have hm : ∀ {c d : Ctx}, Can c → Can d → (∀ x, hasB c x = true ↔ hasB d x = true) → (∀ n, 0 ≤ n → n < 4 → clk c n = clk d n) → ∀ x ∈ c.l, x ∈ d.l := by
    intro c d hc hd h hk x hx
    have h1 := (h x).1 ((hasB_iff c x).2 (Or.inl hx))
    rcases (hasB_iff d x).1 h1 with hm | hm
    · exact hm
    · have := hc.above x hx
      have := hk x.1 hm.1 (by omega)
      omega
  have hl : c.l = d.l := by
    refine List.Perm.eq_of_pairwise (fun a b _ _ h1 h2 => bef_asym h1 h2) hc.rise hd.rise ?_
    have nd : ∀ {c : Ctx}, Can c → c.l.Nodup := fun hc => hc.rise.imp fun hxy e => by rw [e, bef_irr] at hxy; cases hxy
    exact (List.perm_ext_iff_of_nodup (nd hc) (nd hd)).2 fun x => ⟨hm hc hd h hk x, hm hd hc (fun x => (h x).symm) (fun n h0 h4 => (hk n h0 h4).symm) x⟩
  have k0 := hk 0 (by omega) (by omega)
  have k1 := hk 1 (by omega) (by omega)
  have k2 := hk 2 (by omega) (by omega)
  have k3 := hk 3 (by omega) (by omega)
  simp [clk] at k0 k1 k2 k3
  obtain ⟨c0, c1, c2, c3, cl⟩ := c
  obtain ⟨d0, d1, d2, d3, dl⟩ := d
  simp only at k0 k1 k2 k3 hl
  subst k0 k1 k2 k3 hl
  rfl

/-- One dot more: it has that dot more. -/
theorem has_pstep {c : Ctx} {x : Int × Int} (hx : rightB x = true) (z : Int × Int) : hasB (pstep c x) z = true ↔ hasB c z = true ∨ z = x := by
  have hn := rightB_node hx
  unfold pstep
  by_cases hh : hasB c x = true
  · rw [if_pos hh]
    constructor
    · exact Or.inl
    · rintro (h | rfl)
      · exact h
      · exact hh
  · rw [if_neg hh]
    by_cases h2 : x.2 = clk c x.1 + 1
    · rw [if_pos h2, hasB_iff, hasB_iff, setClk_l]
      constructor
      · rintro (h | h)
        · exact Or.inl (Or.inl h)
        · rw [clk_setClk c x.1 x.2 z.1 hn.1 hn.2.1 h.1 (by omega)] at h
          by_cases hz : z.1 = x.1
          · rw [if_pos hz] at h
            by_cases hz2 : z.2 = x.2
            · exact Or.inr (Prod.ext hz hz2)
            · exact Or.inl (Or.inr ⟨h.1, h.2.1, h.2.2.1, by rw [hz]; omega⟩)
          · rw [if_neg hz] at h
            exact Or.inl (Or.inr h)
      · rintro ((h | h) | rfl)
        · exact Or.inl h
        · refine Or.inr ⟨h.1, h.2.1, h.2.2.1, ?_⟩
          rw [clk_setClk c x.1 x.2 z.1 hn.1 hn.2.1 h.1 (by omega)]
          by_cases hz : z.1 = x.1
          · rw [if_pos hz]
            have := h.2.2.2
            rw [hz] at this
            omega
          · rw [if_neg hz]; exact h.2.2.2
        · refine Or.inr ⟨hn.1, by omega, hn.2.2.1, ?_⟩
          rw [clk_setClk c z.1 z.2 z.1 hn.1 hn.2.1 hn.1 hn.2.1, if_pos rfl]
          exact Int.le_refl _
    · rw [if_neg h2, hasB_iff, hasB_iff]
      show (z ∈ c.l ++ [x] ∨ _) ↔ _
      rw [List.mem_append]
      constructor
      · rintro ((h | h) | h)
        · exact Or.inl (Or.inl h)
        · exact Or.inr (by simpa using h)
        · exact Or.inl (Or.inr h)
      · rintro ((h | h) | h)
        · exact Or.inl (Or.inl h)
        · exact Or.inr h
        · exact Or.inl (Or.inr (by simp [h]))

theorem has_fold (l : List (Int × Int)) : ∀ (c : Ctx), (∀ x ∈ l, rightB x = true) → ∀ z, hasB (l.foldl pstep c) z = true ↔ hasB c z = true ∨ z ∈ l := by
  induction l with
  | nil => intro c _ z; simp
  | cons x l ih =>
    intro c hr z
    show hasB (l.foldl pstep (pstep c x)) z = true ↔ _
    rw [ih (pstep c x) (fun y hy => hr y (List.mem_cons_of_mem _ hy)) z, has_pstep (hr x (List.mem_cons_self ..)), List.mem_cons]
    constructor
    · rintro ((h | h) | h)
      · exact Or.inl h
      · exact Or.inr (Or.inl h)
      · exact Or.inr (Or.inr h)
    · rintro (h | h | h)
      · exact Or.inl (Or.inl h)
      · exact Or.inl (Or.inr h)
      · exact Or.inr h

theorem can_pstep {c : Ctx} {p : Option (Int × Int)} {x : Int × Int} {r : List (Int × Int)} (hc : Can c) (h : Mid c p (x :: r)) (hx : rightB x = true) (hs : ∀ y ∈ r, leD x y) : Can (pstep c x) := by
  have hm := mid_step h hx hs
  have hle : ∀ y ∈ c.l, leD y x := fun y hy => by
    obtain ⟨q, hq, hyq⟩ := h.last y hy
    exact leD_trans hyq (h.rest q hq x (List.mem_cons_self ..))
  have hmid := hm.2
  rw [← hm.1] at hmid
  have hclk : okClk (pstep c x) = true := by rw [hm.1]; exact step_clk hc.ck hx
  refine ⟨hclk, ?_, hmid.above, ?_⟩
  · unfold pstep
    by_cases hh : hasB c x = true
    · rw [if_pos hh]; exact hc.right
    · rw [if_neg hh]
      by_cases h2 : x.2 = clk c x.1 + 1
      · rw [if_pos h2, setClk_l]; exact hc.right
      · rw [if_neg h2]
        intro y hy
        rcases List.mem_append.1 hy with hy | hy
        · exact hc.right y hy
        · obtain rfl : y = x := by simpa using hy
          exact hx
  · unfold pstep
    by_cases hh : hasB c x = true
    · rw [if_pos hh]; exact hc.rise
    · rw [if_neg hh]
      by_cases h2 : x.2 = clk c x.1 + 1
      · rw [if_pos h2, setClk_l]; exact hc.rise
      · rw [if_neg h2]
        refine List.pairwise_append.2 ⟨hc.rise, List.pairwise_singleton _ _, ?_⟩
        intro y hy z hz
        obtain rfl : z = x := by simpa using hz
        exact bef_of (hle y hy) fun e => hh ((hasB_iff _ _).2 (Or.inl (by rw [← e]; exact hy)))

theorem can_fold (l : List (Int × Int)) : ∀ (c : Ctx) (p : Option (Int × Int)), Can c → Mid c p l → l.Pairwise leD → (∀ x ∈ l, rightB x = true) → Can (l.foldl pstep c) := by
  induction l with
  | nil => intro c p hc _ _ _; exact hc
  | cons x l ih =>
    intro c p hc h hs hr
    have hp := List.pairwise_cons.1 hs
    have hm := mid_step h (hr x (List.mem_cons_self ..)) hp.1
    have hmid := hm.2
    rw [← hm.1] at hmid
    exact ih (pstep c x) (some x) (can_pstep hc h (hr x (List.mem_cons_self ..)) hp.1) hmid hp.2 (fun y hy => hr y (List.mem_cons_of_mem _ hy))

theorem can_none {c : Ctx} (hc : c.l = []) (hk : okClk c = true) : Can c :=
  ⟨hk, (fun y hy => by rw [hc] at hy; cases hy), (fun y hy => by rw [hc] at hy; cases hy), by rw [hc]; exact List.Pairwise.nil⟩

theorem foldS_can {c : Ctx} (hc : c.l = []) (hk : okClk c = true) {l : List (Int × Int)} (hr : ∀ x ∈ l, rightB x = true) : Can (foldS c l) := by
  rw [foldS_pstep hc hr]
  exact can_fold (srt l) c none (can_none hc hk) (mid_start hc _) (srt_sorted l) (fun x hx => hr x (srt_mem hx))
theorem foldS_has {c : Ctx} (hc : c.l = []) {l : List (Int × Int)} (hr : ∀ x ∈ l, rightB x = true) (z : Int × Int) : hasB (foldS c l) z = true ↔ hasB c z = true ∨ z ∈ l := by
  rw [foldS_pstep hc hr, has_fold (srt l) c (fun x hx => hr x (srt_mem hx)) z, (srt_perm l).mem_iff]

theorem joinF_can {a b : Ctx} (ha : Can a) (hb : Can b) : Can (joinF a b) :=
  foldS_can rfl (joinK_ok ha.ck hb.ck) fun x hx => by
    rcases List.mem_append.1 hx with h | h
    · exact ha.right x h
    · exact hb.right x h
theorem joinF_has {a b : Ctx} (ha : Can a) (hb : Can b) (z : Int × Int) : hasB (joinF a b) z = true ↔ hasB a z = true ∨ hasB b z = true := by
  unfold joinF
  rw [foldS_has rfl (fun x hx => by
    rcases List.mem_append.1 hx with h | h
    · exact ha.right x h
    · exact hb.right x h) z, List.mem_append]
  have hz : hasB (joinK a b) z = true ↔ 0 ≤ z.1 ∧ z.1 ≤ 3 ∧ 1 ≤ z.2 ∧ z.2 ≤ max (clk a z.1) (clk b z.1) := by
    rw [hasB_iff, clk_joinK]
    constructor
    · rintro (h | h)
      · cases h
      · exact h
    · exact Or.inr
  rw [hz, hasB_iff, hasB_iff]
  constructor
  · rintro (h | h | h)
    · by_cases h1 : z.2 ≤ clk a z.1
      · exact Or.inl (Or.inr ⟨h.1, h.2.1, h.2.2.1, h1⟩)
      · exact Or.inr (Or.inr ⟨h.1, h.2.1, h.2.2.1, by omega⟩)
    · exact Or.inl (Or.inl h)
    · exact Or.inr (Or.inl h)
  · rintro ((h | h) | (h | h))
    · exact Or.inr (Or.inl h)
    · exact Or.inl ⟨h.1, h.2.1, h.2.2.1, by omega⟩
    · exact Or.inr (Or.inr h)
    · exact Or.inl ⟨h.1, h.2.1, h.2.2.1, by omega⟩

theorem joinE_ok {a b : Ctx} (h : joinE a b = 0) : Can a ∧ Can b ∧ errB a b = 0 ∧ joinC a b = joinF a b ∧ (joinF a b).l.length ≤ 400 := by
  have he : errB a b = 0 := by
    unfold joinE at h
    by_cases he : errB a b = 0
    · exact he
    · rw [if_neg he] at h; exact absurd h he
  have hl : (joinF a b).l.length ≤ 400 := by
    unfold joinE at h
    rw [if_pos he] at h
    by_cases hl : 400 < (joinF a b).l.length
    · rw [if_pos hl] at h; cases h
    · omega
  exact ⟨can_of_err (errB_ok he).1, can_of_err (errB_ok he).2, he, by simp [joinC, h], hl⟩
theorem joinE_of {a b : Ctx} (ha : errC a = 0) (hb : errC b = 0) (hl : (joinF a b).l.length ≤ 400) : joinE a b = 0 := by
  have he : errB a b = 0 := by unfold errB; rw [if_pos ha]; exact hb
  unfold joinE
  rw [if_pos he, if_neg (by omega)]
theorem joinF_comm {a b : Ctx} (ha : Can a) (hb : Can b) : joinF a b = joinF b a :=
  can_eq (joinF_can ha hb) (joinF_can hb ha) fun x => by rw [joinF_has ha hb, joinF_has hb ha, or_comm]

end Go.Proofs.Ytknjeajdiibafaa
