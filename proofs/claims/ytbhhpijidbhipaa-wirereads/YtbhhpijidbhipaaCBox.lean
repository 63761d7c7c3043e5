/-
  A context that a call builds in a block of its own: its clocks, its cloud; what a store and an append make of it. And what fold makes, step by step.
-/
import Derived.Test.YtbhhpijidbhipaaOwn
namespace Go.Proofs.Ytbhhpijidbhipaa
open Go.RowKit Go.Sort

/-- A context with one clock turned. -/
def setClk (c : Ctx) (n s : Int) : Ctx := if n = 0 then { c with c0 := s } else if n = 1 then { c with c1 := s } else if n = 2 then { c with c2 := s } else { c with c3 := s }

theorem setClk_l (c : Ctx) (n s : Int) : (setClk c n s).l = c.l := by
  unfold setClk
  by_cases h0 : n = 0
  · simp [h0]
  · by_cases h1 : n = 1
    · simp [h1]
    · by_cases h2 : n = 2
      · simp [h2]
      · simp [h0, h1, h2]
theorem clk_setClk (c : Ctx) (n s a : Int) (h0 : 0 ≤ n) (h4 : n < 4) (g0 : 0 ≤ a) (g4 : a < 4) : clk (setClk c n s) a = if a = n then s else clk c a := by
  have hn : n = 0 ∨ n = 1 ∨ n = 2 ∨ n = 3 := by omega
  have ha : a = 0 ∨ a = 1 ∨ a = 2 ∨ a = 3 := by omega
  rcases hn with rfl | rfl | rfl | rfl <;> rcases ha with rfl | rfl | rfl | rfl <;> simp [setClk, clk]

/-- Block B holds the context c, whose cloud lies from block 'base' on. -/
def CB (w : World) (B base : Nat) (c : Ctx) : Prop := ∃ v, w.cell? ⟨B, 0, none⟩ = some (.int .i64 c.c0) ∧ w.cell? ⟨B, 1, none⟩ = some (.int .i64 c.c1) ∧ w.cell? ⟨B, 2, none⟩ = some (.int .i64 c.c2) ∧ w.cell? ⟨B, 3, none⟩ = some (.int .i64 c.c3) ∧
  w.cell? ⟨B, 4, none⟩ = some v ∧ Own w base v c.l ∧ (∀ j, w.frozen? ⟨B, j, none⟩ = false) ∧ B < base ∧ B < w.heap.size

theorem CB.below {w w' : World} {B base : Nat} {c : Ctx} (h : CB w B base c) (k : Below w.heap.size w w') : CB w' B base c := by
  obtain ⟨v, h0, h1, h2, h3, h4, ho, hf, hB, hs⟩ := h
  exact ⟨v, (k.cell (p := ⟨B, 0, none⟩) hs).trans h0, (k.cell (p := ⟨B, 1, none⟩) hs).trans h1, (k.cell (p := ⟨B, 2, none⟩) hs).trans h2, (k.cell (p := ⟨B, 3, none⟩) hs).trans h3, (k.cell (p := ⟨B, 4, none⟩) hs).trans h4, ho.below k, fun j => (k.frozen (p := ⟨B, j, none⟩) hs).trans (hf j), hB, Nat.lt_of_lt_of_le hs k.size⟩
theorem CB.gr {w w' : World} {B base : Nat} {c : Ctx} (h : CB w B base c) (k : Gr w w') : CB w' B base c := h.below k.below

theorem CB.clk {w : World} {B base : Nat} {c : Ctx} (h : CB w B base c) {a : Int} (h0 : 0 ≤ a) (h4 : a < 4) : w.cell? ⟨B, a.toNat, none⟩ = some (.int .i64 (clk c a)) := by
  obtain ⟨v, k0, k1, k2, k3, _⟩ := h
  have ha : a = 0 ∨ a = 1 ∨ a = 2 ∨ a = 3 := by omega
  rcases ha with rfl | rfl | rfl | rfl
  · exact k0
  · exact k1
  · exact k2
  · exact k3

theorem cell_set {w : World} {B j j' : Nat} {u x : Value} (hx : w.cell? ⟨B, j', none⟩ = some x) : (w.setCell ⟨B, j, none⟩ u).cell? ⟨B, j', none⟩ = some (if j' = j then u else x) := by
  by_cases h : j' = j
  · subst h; rw [if_pos rfl]; exact World.cell?_setCell_same _ _ _ hx
  · rw [if_neg h, World.cell?_setCell_other _ _ _ _ (by intro e; injection e with e1 e2; exact h e2.symm)]; exact hx

theorem CB.setClk {w : World} {B base : Nat} {c : Ctx} (h : CB w B base c) {n : Int} (h0 : 0 ≤ n) (h4 : n < 4) (s : Int) : CB (w.setCell ⟨B, n.toNat, none⟩ (.int .i64 s)) B base (setClk c n s) := by
  obtain ⟨v, k0, k1, k2, k3, k4, ho, hf, hB, hs⟩ := h
  have hn : n = 0 ∨ n = 1 ∨ n = 2 ∨ n = 3 := by omega
  refine ⟨v, ?_, ?_, ?_, ?_, ?_, ?_, ?_, hB, by simpa [World.setCell] using hs⟩
  · rw [cell_set k0]; rcases hn with rfl | rfl | rfl | rfl <;> rfl
  · rw [cell_set k1]; rcases hn with rfl | rfl | rfl | rfl <;> rfl
  · rw [cell_set k2]; rcases hn with rfl | rfl | rfl | rfl <;> rfl
  · rw [cell_set k3]; rcases hn with rfl | rfl | rfl | rfl <;> rfl
  · rw [cell_set k4]; rcases hn with rfl | rfl | rfl | rfl <;> rfl
  · rw [setClk_l]; exact ho.setCell hB _
  · intro j; rw [World.frozen?_setCell]; exact hf j

/-- The cloud's value turned, behind whatever has left the block alone. -/
theorem CB.setL {w w1 : World} {B base : Nat} {c : Ctx} (h : CB w B base c) (k : Below base w w1) {v : Value} {l : List (Int × Int)} (ho : Own w1 base v l) : CB (w1.setCell ⟨B, 4, none⟩ v) B base { c with l := l } := by
  obtain ⟨v0, k0, k1, k2, k3, k4, _, hf, hB, hs⟩ := h
  have e0 := (k.cell (p := ⟨B, 0, none⟩) hB).trans k0
  have e1 := (k.cell (p := ⟨B, 1, none⟩) hB).trans k1
  have e2 := (k.cell (p := ⟨B, 2, none⟩) hB).trans k2
  have e3 := (k.cell (p := ⟨B, 3, none⟩) hB).trans k3
  have e4 := (k.cell (p := ⟨B, 4, none⟩) hB).trans k4
  refine ⟨v, ?_, ?_, ?_, ?_, ?_, ho.setCell hB _, ?_, hB, ?_⟩
  · rw [cell_set e0]; rfl
  · rw [cell_set e1]; rfl
  · rw [cell_set e2]; rfl
  · rw [cell_set e3]; rfl
  · rw [cell_set e4]; rfl
  · intro j; rw [World.frozen?_setCell]; exact (k.frozen (p := ⟨B, j, none⟩) hB).trans (hf j)
  · have := k.size
    simp only [World.setCell, Array.size_modify]
    omega

theorem CB.start (W : World) {c : Ctx} (hc : c.l = []) (T : TypeId) : CB (W.alloc (.cells #[.int .i64 c.c0, .int .i64 c.c1, .int .i64 c.c2, .int .i64 c.c3, .slice none 0 0] T)) W.heap.size (W.heap.size + 1) c :=
  ⟨.slice none 0 0, box1 (Gr.refl _) rfl, box1 (Gr.refl _) rfl, box1 (Gr.refl _) rfl, box1 (Gr.refl _) rfl, box1 (Gr.refl _) rfl, by rw [hc]; exact Own.nil _ _, fun j => box1f (Gr.refl _) j, by omega, by simp⟩

theorem CB.lt {w : World} {B base : Nat} {c : Ctx} (h : CB w B base c) : B < w.heap.size := by
  obtain ⟨_, _, _, _, _, _, _, _, _, h⟩ := h
  exact h
theorem CB.fz {w : World} {B base : Nat} {c : Ctx} (h : CB w B base c) (j : Nat) : w.frozen? ⟨B, j, none⟩ = false := by
  obtain ⟨_, _, _, _, _, _, _, h, _⟩ := h
  exact h j
theorem CB.v {w : World} {B base : Nat} {c : Ctx} (h : CB w B base c) : ∃ v, w.cell? ⟨B, 4, none⟩ = some v ∧ Own w base v c.l := by
  obtain ⟨v, _, _, _, _, h4, ho, _⟩ := h
  exact ⟨v, h4, ho⟩

/-- A dot that was laid for an append, behind another block. -/
theorem rowOne (w : World) (o : Obj) (x y : Int) (T : TypeId) : Row ((w.alloc o).alloc (.cells #[.int .i64 x, .int .i64 y] T)) (some ⟨w.heap.size + 1, 0, none⟩) [(x, y)] := by
  refine Or.inr ⟨w.heap.size + 1, 0, rfl, by simp, fun j hj => ?_⟩
  have h0 := box1 (w := w.alloc o) (Gr.refl ((w.alloc o).alloc (.cells #[.int .i64 x, .int .i64 y] T))) (j := 0) rfl
  have h1 := box1 (w := w.alloc o) (Gr.refl ((w.alloc o).alloc (.cells #[.int .i64 x, .int .i64 y] T))) (j := 1) rfl
  rw [show (w.alloc o).heap.size = w.heap.size + 1 from by simp] at h0 h1
  obtain rfl : j = 0 := by simpa using hj
  exact ⟨h0, h1⟩

theorem Row.setCell0 {w : World} {A : Option Addr} {l : List (Int × Int)} (h : Row w A l) {B j : Nat} (u : Value) (hB : ∀ a, A = some a → l ≠ [] → a.block ≠ B) : Row (w.setCell ⟨B, j, none⟩ u) A l := by
  by_cases h0 : l = []
  · exact Or.inl h0
  · rcases h with h | ⟨b, off, rfl, hb, hc⟩
    · exact Or.inl h
    · have hne := hB _ rfl h0
      refine Or.inr ⟨b, off, rfl, by simpa [World.setCell] using hb, fun i hi => ?_⟩
      rw [World.cell?_setCell_other _ _ _ _ (by intro e; injection e with e1; exact hne e1.symm), World.cell?_setCell_other _ _ _ _ (by intro e; injection e with e1; exact hne e1.symm)]
      exact hc i hi
theorem rowNew {W : World} {n : Nat} (hn : W.heap.size = n) (x y : Int) (T : TypeId) : Row (W.alloc (.cells #[.int .i64 x, .int .i64 y] T)) (some ⟨n, 0, none⟩) [(x, y)] := by
  subst hn
  refine Or.inr ⟨W.heap.size, 0, rfl, by simp, fun j hj => ?_⟩
  have h0 := box1 (w := W) (Gr.refl (W.alloc (.cells #[.int .i64 x, .int .i64 y] T))) (j := 0) rfl
  have h1 := box1 (w := W) (Gr.refl (W.alloc (.cells #[.int .i64 x, .int .i64 y] T))) (j := 1) rfl
  obtain rfl : j = 0 := by simpa using hj
  exact ⟨h0, h1⟩
theorem Gr.drewN {a b : World} (h : Gr a b) (n : Nat) : Gr a (b.drewN n) := h.trans ⟨n, #[], by rw [grow_empty]⟩

theorem Row.setCell {w : World} {A : Option Addr} {l : List (Int × Int)} (h : Row w A l) {B j : Nat} (u : Value) (hB : ∀ a, A = some a → a.block ≠ B) : Row (w.setCell ⟨B, j, none⟩ u) A l := by
  rcases h with h | ⟨b, off, rfl, hb, hc⟩
  · exact Or.inl h
  · have hne := hB _ rfl
    refine Or.inr ⟨b, off, rfl, by simpa [World.setCell] using hb, fun i hi => ?_⟩
    rw [World.cell?_setCell_other _ _ _ _ (by intro e; injection e with e1; exact hne e1.symm), World.cell?_setCell_other _ _ _ _ (by intro e; injection e with e1; exact hne e1.symm)]
    exact hc i hi

/-- One step of fold: the dot x, behind the dot p. -/
def step (c : Ctx) (p : Option (Int × Int)) (x : Int × Int) : Ctx :=
  if x.2 ≤ clk c x.1 then c else if x.2 = clk c x.1 + 1 then setClk c x.1 x.2 else if p = some x then c else { c with l := c.l ++ [x] }

/-- What fold has made of the first k dots. -/
def foldTo (c : Ctx) (l : List (Int × Int)) : Nat → Ctx
  | 0 => c
  | k + 1 => step (foldTo c l k) (if k = 0 then none else some (l.getD (k - 1) (0, 0))) (l.getD k (0, 0))

theorem foldTo_zero {c : Ctx} {l : List (Int × Int)} (h : 0 < l.length) {x : Int × Int} (hx : l[0] = x) : foldTo c l 1 = step c none x := by
  subst hx
  simp [foldTo, h]
theorem foldTo_succ {c : Ctx} {l : List (Int × Int)} {m : Nat} (h : m + 1 < l.length) {x y : Int × Int} (hx : l[m + 1] = x) (hy : l[m] = y) : foldTo c l (m + 2) = step (foldTo c l (m + 1)) (some y) x := by
  subst hx hy
  have h' : m < l.length := by omega
  show step (foldTo c l (m + 1)) _ _ = _
  simp [h, h']

theorem step_le {c : Ctx} {p : Option (Int × Int)} {x y : Int} (h : y ≤ clk c x) : step c p (x, y) = c := by simp [step, h]
theorem step_eq {c : Ctx} {p : Option (Int × Int)} {x y : Int} (h : y = clk c x + 1) : step c p (x, y) = setClk c x y := by
  have : ¬ y ≤ clk c x := by omega
  unfold step
  rw [if_neg this, if_pos h]
theorem step_dup {c : Ctx} {x y : Int} (h1 : ¬ y ≤ clk c x) (h2 : ¬ y = clk c x + 1) : step c (some (x, y)) (x, y) = c := by simp [step, h1, h2]
theorem step_new {c : Ctx} {p : Option (Int × Int)} {x y : Int} (h1 : ¬ y ≤ clk c x) (h2 : ¬ y = clk c x + 1) (h3 : p ≠ some (x, y)) : step c p (x, y) = { c with l := c.l ++ [(x, y)] } := by simp [step, h1, h2, h3]

theorem step_clk {c : Ctx} {p : Option (Int × Int)} {x : Int × Int} (hc : okClk c = true) (hx : rightB x = true) : okClk (step c p x) = true := by
  have hn := rightB_node hx
  unfold step
  by_cases h1 : x.2 ≤ clk c x.1
  · simpa [h1] using hc
  · by_cases h2 : x.2 = clk c x.1 + 1
    · rw [if_neg h1, if_pos h2]
      refine okClk_of fun a h0 h4 => ?_
      rw [clk_setClk c x.1 x.2 a hn.1 hn.2.1 h0 h4]
      have := clk_of_ok hc a h0 h4
      split <;> simp [inB] <;> omega
    · rw [if_neg h1, if_neg h2]
      split
      · exact hc
      · exact hc
theorem foldTo_clk {c : Ctx} {l : List (Int × Int)} (hc : okClk c = true) (hl : ∀ x ∈ l, rightB x = true) : ∀ k, k ≤ l.length → okClk (foldTo c l k) = true := by
  intro k
  induction k with
  | zero => intro _; exact hc
  | succ k ih =>
    intro hk
    have hk' : k < l.length := by omega
    refine step_clk (ih (by omega)) ?_
    have : l.getD k (0, 0) = l[k] := by simp [hk']
    rw [this]
    exact hl _ (List.getElem_mem hk')
theorem step_len (c : Ctx) (p : Option (Int × Int)) (x : Int × Int) : (step c p x).l.length ≤ c.l.length + 1 := by
  unfold step
  split
  · omega
  · split
    · rw [setClk_l]; omega
    · split
      · omega
      · simp
theorem foldTo_len (c : Ctx) (l : List (Int × Int)) : ∀ k, (foldTo c l k).l.length ≤ c.l.length + k := by
  intro k
  induction k with
  | zero => exact Nat.le_refl _
  | succ k ih =>
    have := step_len (foldTo c l k) (if k = 0 then none else some (l.getD (k - 1) (0, 0))) (l.getD k (0, 0))
    show (step _ _ _).l.length ≤ _
    omega

end Go.Proofs.Ytbhhpijidbhipaa
