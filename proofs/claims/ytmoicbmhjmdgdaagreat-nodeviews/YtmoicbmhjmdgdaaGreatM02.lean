/-
  A context that a call builds in a block of its own: its clocks, its cloud; what a store and an append make of it. And what fold makes, step by step.
  A context, a dot, as they lie in a block.
  Cells and tables: the plain notions that the contracts of package table speak of.
-/
import Derived.Test.YtmoicbmhjmdgdaaGreatM01
namespace Go.Proofs.YtmoicbmhjmdgdaaGreat
open Go.RowKit Go.Sort

/-- A context with one clock turned. -/
def setClk (c : Ctx) (n s : Int) : Ctx := if n = 0 then { c with c0 := s } else if n = 1 then { c with c1 := s } else if n = 2 then { c with c2 := s } else { c with c3 := s }

theorem setClk_l (c : Ctx) (n s : Int) : (setClk c n s).l = c.l := by
 unfold setClk
 by_cases h0 : n = 0
 ·simp [h0]
 ·by_cases h1 : n = 1
  ·simp [h1]
  ·by_cases h2 : n = 2
   ·simp [h2]
   ·simp [h0, h1, h2]
theorem clk_setClk (c : Ctx) (n s a : Int) (h0 : 0 ≤ n) (h4 : n < 4) (g0 : 0 ≤ a) (g4 : a < 4) : clk (setClk c n s) a = if a = n then s else clk c a := by
 have hn : n = 0 ∨ n = 1 ∨ n = 2 ∨ n = 3 := by omega
 have ha : a = 0 ∨ a = 1 ∨ a = 2 ∨ a = 3 := by omega
 rcases hn with rfl | rfl | rfl | rfl <;> rcases ha with rfl | rfl | rfl | rfl <;> simp [setClk, clk]

/-- Block B holds the context c, whose cloud lies from block 'base' on. -/
def CB (w : World) (B base : Nat) (c : Ctx) : Prop := ∃ v, w.cell? ⟨B, 0, none⟩ = some (.int .i64 c.c0) ∧ w.cell? ⟨B, 1, none⟩ = some (.int .i64 c.c1) ∧ w.cell? ⟨B, 2, none⟩ = some (.int .i64 c.c2) ∧ w.cell? ⟨B, 3, none⟩ = some (.int .i64 c.c3) ∧
 w.cell? ⟨B, 4, none⟩ = some v ∧ Own w base v c.l ∧ (∀ j, w.frozen? ⟨B, j, none⟩ = false) ∧ B < base ∧ B < w.heap.size

theorem CB.below {w w' : World} {B base : Nat} {c : Ctx} (h : CB w B base c) (k : Below w.heap.size w w') : CB w' B base c := by
 obtain ⟨v, h0, h1, h2, h3, h4, ho, hf, hB, hs⟩ := h
 exact ⟨v, (k.cell (p := ⟨B, 0, none⟩) hs).trans h0, (k.cell (p := ⟨B, 1, none⟩) hs).trans h1, (k.cell (p := ⟨B, 2, none⟩) hs).trans h2, (k.cell (p := ⟨B, 3, none⟩) hs).trans h3, (k.cell (p := ⟨B, 4, none⟩) hs).trans h4, ho.below k, fun j => (k.frozen (p := ⟨B, j, none⟩) hs).trans (hf j), hB, Nat.lt_of_lt_of_le hs k.size⟩
theorem CB.gr {w w' : World} {B base : Nat} {c : Ctx} (h : CB w B base c) (k : Gr w w') : CB w' B base c := h.below k.below

theorem CB.clk {w : World} {B base : Nat} {c : Ctx} (h : CB w B base c) {a : Int} (h0 : 0 ≤ a) (h4 : a < 4) : w.cell? ⟨B, a.toNat, none⟩ = some (.int .i64 (clk c a)) := by
 obtain ⟨v, k0, k1, k2, k3, _⟩ := h
 have ha : a = 0 ∨ a = 1 ∨ a = 2 ∨ a = 3 := by omega
 rcases ha with rfl | rfl | rfl | rfl
 ·exact k0
 ·exact k1
 ·exact k2
 ·exact k3

theorem cell_set {w : World} {B j j' : Nat} {u x : Value} (hx : w.cell? ⟨B, j', none⟩ = some x) : (w.setCell ⟨B, j, none⟩ u).cell? ⟨B, j', none⟩ = some (if j' = j then u else x) := by
 by_cases h : j' = j
 ·subst h; rw [if_pos rfl]; exact World.cell?_setCell_same _ _ _ hx
 ·rw [if_neg h, World.cell?_setCell_other _ _ _ _ (by intro e; injection e with e1 e2; exact h e2.symm)]; exact hx

theorem CB.setClk {w : World} {B base : Nat} {c : Ctx} (h : CB w B base c) {n : Int} (h0 : 0 ≤ n) (h4 : n < 4) (s : Int) : CB (w.setCell ⟨B, n.toNat, none⟩ (.int .i64 s)) B base (setClk c n s) := by
 obtain ⟨v, k0, k1, k2, k3, k4, ho, hf, hB, hs⟩ := h
 have hn : n = 0 ∨ n = 1 ∨ n = 2 ∨ n = 3 := by omega
 refine ⟨v, ?_, ?_, ?_, ?_, ?_, ?_, ?_, hB, by simpa [World.setCell] using hs⟩
 ·rw [cell_set k0]; rcases hn with rfl | rfl | rfl | rfl <;> rfl
 ·rw [cell_set k1]; rcases hn with rfl | rfl | rfl | rfl <;> rfl
 ·rw [cell_set k2]; rcases hn with rfl | rfl | rfl | rfl <;> rfl
 ·rw [cell_set k3]; rcases hn with rfl | rfl | rfl | rfl <;> rfl
 ·rw [cell_set k4]; rcases hn with rfl | rfl | rfl | rfl <;> rfl
 ·rw [setClk_l]; exact ho.setCell hB _
 ·intro j; rw [World.frozen?_setCell]; exact hf j

/-- The cloud's value turned, behind whatever has left the block alone. -/
theorem CB.setL {w w1 : World} {B base : Nat} {c : Ctx} (h : CB w B base c) (k : Below base w w1) {v : Value} {l : List (Int × Int)} (ho : Own w1 base v l) : CB (w1.setCell ⟨B, 4, none⟩ v) B base { c with l := l } := by
 obtain ⟨v0, k0, k1, k2, k3, k4, _, hf, hB, hs⟩ := h
 have e0 := (k.cell (p := ⟨B, 0, none⟩) hB).trans k0
 have e1 := (k.cell (p := ⟨B, 1, none⟩) hB).trans k1
 have e2 := (k.cell (p := ⟨B, 2, none⟩) hB).trans k2
 have e3 := (k.cell (p := ⟨B, 3, none⟩) hB).trans k3
 have e4 := (k.cell (p := ⟨B, 4, none⟩) hB).trans k4
 refine ⟨v, ?_, ?_, ?_, ?_, ?_, ho.setCell hB _, ?_, hB, ?_⟩
 ·rw [cell_set e0]; rfl
 ·rw [cell_set e1]; rfl
 ·rw [cell_set e2]; rfl
 ·rw [cell_set e3]; rfl
 ·rw [cell_set e4]; rfl
 ·intro j; rw [World.frozen?_setCell]; exact (k.frozen (p := ⟨B, j, none⟩) hB).trans (hf j)
 ·have := k.size
  simp only [World.setCell, Array.size_modify]
  omega

theorem CB.start (W : World) {c : Ctx} (hc : c.l = []) (T : TypeId) : CB (W.alloc (.cells #[.int .i64 c.c0, .int .i64 c.c1, .int .i64 c.c2, .int .i64 c.c3, .slice none 0 0] T)) W.heap.size (W.heap.size + 1) c :=
 ⟨.slice none 0 0, box1 (Gr.refl _) rfl, box1 (Gr.refl _) rfl, box1 (Gr.refl _) rfl, box1 (Gr.refl _) rfl, box1 (Gr.refl _) rfl, by rw [hc]; exact Own.nil _ _, fun j => box1f (Gr.refl _) j, by omega, by simp⟩

theorem CB.lt {w : World} {B base : Nat} {c : Ctx} (h : CB w B base c) : B < w.heap.size := by
 obtain ⟨_, _, _, _, _, _, _, _, _, h⟩ := h
 exact h
theorem CB.fz {w : World} {B base : Nat} {c : Ctx} (h : CB w B base c) (j : Nat) : w.frozen? ⟨B, j, none⟩ = false := by
 obtain ⟨_, _, _, _, _, _, _, h, _⟩ := h
 exact h j
theorem CB.v {w : World} {B base : Nat} {c : Ctx} (h : CB w B base c) : ∃ v, w.cell? ⟨B, 4, none⟩ = some v ∧ Own w base v c.l := by
 obtain ⟨v, _, _, _, _, h4, ho, _⟩ := h
 exact ⟨v, h4, ho⟩

theorem Row.setCell0 {w : World} {A : Option Addr} {l : List (Int × Int)} (h : Row w A l) {B j : Nat} (u : Value) (hB : ∀ a, A = some a → l ≠ [] → a.block ≠ B) : Row (w.setCell ⟨B, j, none⟩ u) A l := by
 by_cases h0 : l = []
 ·exact Or.inl h0
 ·rcases h with h | ⟨b, off, rfl, hb, hc⟩
  ·exact Or.inl h
  ·have hne := hB _ rfl h0
   refine Or.inr ⟨b, off, rfl, by simpa [World.setCell] using hb, fun i hi => ?_⟩
   rw [World.cell?_setCell_other _ _ _ _ (by intro e; injection e with e1; exact hne e1.symm), World.cell?_setCell_other _ _ _ _ (by intro e; injection e with e1; exact hne e1.symm)]
   exact hc i hi
theorem rowNew {W : World} {n : Nat} (hn : W.heap.size = n) (x y : Int) (T : TypeId) : Row (W.alloc (.cells #[.int .i64 x, .int .i64 y] T)) (some ⟨n, 0, none⟩) [(x, y)] := by
 subst hn
 refine Or.inr ⟨W.heap.size, 0, rfl, by simp, fun j hj => ?_⟩
 have h0 := box1 (w := W) (Gr.refl (W.alloc (.cells #[.int .i64 x, .int .i64 y] T))) (j := 0) rfl
 have h1 := box1 (w := W) (Gr.refl (W.alloc (.cells #[.int .i64 x, .int .i64 y] T))) (j := 1) rfl
 obtain rfl : j = 0 := by simpa using hj
 exact ⟨h0, h1⟩
theorem Gr.drewN {a b : World} (h : Gr a b) (n : Nat) : Gr a (b.drewN n) := h.trans ⟨n, #[], by rw [grow_empty]⟩

theorem Row.setCell {w : World} {A : Option Addr} {l : List (Int × Int)} (h : Row w A l) {B j : Nat} (u : Value) (hB : ∀ a, A = some a → a.block ≠ B) : Row (w.setCell ⟨B, j, none⟩ u) A l := by
 rcases h with h | ⟨b, off, rfl, hb, hc⟩
 ·exact Or.inl h
 ·have hne := hB _ rfl
  refine Or.inr ⟨b, off, rfl, by simpa [World.setCell] using hb, fun i hi => ?_⟩
  rw [World.cell?_setCell_other _ _ _ _ (by intro e; injection e with e1; exact hne e1.symm), World.cell?_setCell_other _ _ _ _ (by intro e; injection e with e1; exact hne e1.symm)]
  exact hc i hi

/-- One step of fold: the dot x, behind the dot p. -/
def step (c : Ctx) (p : Option (Int × Int)) (x : Int × Int) : Ctx :=
 if x.2 ≤ clk c x.1 then c else if x.2 = clk c x.1 + 1 then setClk c x.1 x.2 else if p = some x then c else { c with l := c.l ++ [x] }

/-- What fold has made of the first k dots. -/
def foldTo (c : Ctx) (l : List (Int × Int)) : Nat → Ctx
 | 0 => c
 | k + 1 => step (foldTo c l k) (if k = 0 then none else some (l.getD (k - 1) (0, 0))) (l.getD k (0, 0))

theorem foldTo_zero {c : Ctx} {l : List (Int × Int)} (h : 0 < l.length) {x : Int × Int} (hx : l[0] = x) : foldTo c l 1 = step c none x := by
 subst hx
 simp [foldTo, h]
theorem foldTo_succ {c : Ctx} {l : List (Int × Int)} {m : Nat} (h : m + 1 < l.length) {x y : Int × Int} (hx : l[m + 1] = x) (hy : l[m] = y) : foldTo c l (m + 2) = step (foldTo c l (m + 1)) (some y) x := by
 subst hx hy
 have h' : m < l.length := by omega
 show step (foldTo c l (m + 1)) _ _ = _
 simp [h, h']

theorem step_le {c : Ctx} {p : Option (Int × Int)} {x y : Int} (h : y ≤ clk c x) : step c p (x, y) = c := by simp [step, h]
theorem step_eq {c : Ctx} {p : Option (Int × Int)} {x y : Int} (h : y = clk c x + 1) : step c p (x, y) = setClk c x y := by
 have : ¬ y ≤ clk c x := by omega
 unfold step
 rw [if_neg this, if_pos h]
theorem step_dup {c : Ctx} {x y : Int} (h1 : ¬ y ≤ clk c x) (h2 : ¬ y = clk c x + 1) : step c (some (x, y)) (x, y) = c := by simp [step, h1, h2]
theorem step_new {c : Ctx} {p : Option (Int × Int)} {x y : Int} (h1 : ¬ y ≤ clk c x) (h2 : ¬ y = clk c x + 1) (h3 : p ≠ some (x, y)) : step c p (x, y) = { c with l := c.l ++ [(x, y)] } := by simp [step, h1, h2, h3]

theorem step_clk {c : Ctx} {p : Option (Int × Int)} {x : Int × Int} (hc : okClk c = true) (hx : rightB x = true) : okClk (step c p x) = true := by
 have hn := rightB_node hx
 unfold step
 by_cases h1 : x.2 ≤ clk c x.1
 ·simpa [h1] using hc
 ·by_cases h2 : x.2 = clk c x.1 + 1
  ·rw [if_neg h1, if_pos h2]
   refine okClk_of fun a h0 h4 => ?_
   rw [clk_setClk c x.1 x.2 a hn.1 hn.2.1 h0 h4]
   have := clk_of_ok hc a h0 h4
   split <;> simp [inB] <;> omega
  ·rw [if_neg h1, if_neg h2]
   split
   ·exact hc
   ·exact hc
theorem foldTo_clk {c : Ctx} {l : List (Int × Int)} (hc : okClk c = true) (hl : ∀ x ∈ l, rightB x = true) : ∀ k, k ≤ l.length → okClk (foldTo c l k) = true := by
 intro k
 induction k with
 | zero => intro _; exact hc
 | succ k ih =>
  intro hk
  have hk' : k < l.length := by omega
  refine step_clk (ih (by omega)) ?_
  have : l.getD k (0, 0) = l[k] := by simp [hk']
  rw [this]
  exact hl _ (List.getElem_mem hk')
theorem step_len (c : Ctx) (p : Option (Int × Int)) (x : Int × Int) : (step c p x).l.length ≤ c.l.length + 1 := by
 unfold step
 split
 ·omega
 ·split
  ·rw [setClk_l]; omega
  ·split
   ·omega
   ·simp
theorem foldTo_len (c : Ctx) (l : List (Int × Int)) : ∀ k, (foldTo c l k).l.length ≤ c.l.length + k := by
 intro k
 induction k with
 | zero => exact Nat.le_refl _
 | succ k ih =>
  have := step_len (foldTo c l k) (if k = 0 then none else some (l.getD (k - 1) (0, 0))) (l.getD k (0, 0))
  show (step _ _ _).l.length ≤ _
  omega

end Go.Proofs.YtmoicbmhjmdgdaaGreat

namespace Go.Proofs.YtmoicbmhjmdgdaaGreat
open Go.RowKit Go.Sort

/-- Block B holds the context c, whose cloud is the slice at A. -/
structure CtxAt (w : World) (B : Nat) (c : Ctx) (A : Option Addr) (cap : Nat) : Prop where
 k0 : w.cell? ⟨B, 0, none⟩ = some (.int .i64 c.c0)
 k1 : w.cell? ⟨B, 1, none⟩ = some (.int .i64 c.c1)
 k2 : w.cell? ⟨B, 2, none⟩ = some (.int .i64 c.c2)
 k3 : w.cell? ⟨B, 3, none⟩ = some (.int .i64 c.c3)
 k4 : w.cell? ⟨B, 4, none⟩ = some (.slice A c.l.length cap)
 lt : B < w.heap.size
 row : Row w A c.l

theorem CtxAt.below {w w' : World} {B : Nat} {c : Ctx} {A : Option Addr} {cap : Nat} (h : CtxAt w B c A cap) (k : Below w.heap.size w w') : CtxAt w' B c A cap :=
 ⟨(k.cell (p := ⟨B, 0, none⟩) h.lt).trans h.k0, (k.cell (p := ⟨B, 1, none⟩) h.lt).trans h.k1, (k.cell (p := ⟨B, 2, none⟩) h.lt).trans h.k2, (k.cell (p := ⟨B, 3, none⟩) h.lt).trans h.k3, (k.cell (p := ⟨B, 4, none⟩) h.lt).trans h.k4, Nat.lt_of_lt_of_le h.lt k.size, h.row.below k⟩
theorem CtxAt.gr {w w' : World} {B : Nat} {c : Ctx} {A : Option Addr} {cap : Nat} (h : CtxAt w B c A cap) (k : Gr w w') : CtxAt w' B c A cap := h.below k.below
theorem CtxAt.new {w : World} {c : Ctx} {A : Option Addr} {cap : Nat} (T : TypeId) (h : Row w A c.l) {B : Nat} (hB : w.heap.size = B) : CtxAt (w.alloc (.cells #[.int .i64 c.c0, .int .i64 c.c1, .int .i64 c.c2, .int .i64 c.c3, .slice A c.l.length cap] T)) B c A cap := by
 subst hB
 exact ⟨box1 (Gr.refl _) rfl, box1 (Gr.refl _) rfl, box1 (Gr.refl _) rfl, box1 (Gr.refl _) rfl, box1 (Gr.refl _) rfl, by simp, h.gr ((Gr.refl _).alloc _)⟩

/-- Block B holds the dot (x, y). -/
structure DotAt (w : World) (B : Nat) (x y : Int) : Prop where
 k0 : w.cell? ⟨B, 0, none⟩ = some (.int .i64 x)
 k1 : w.cell? ⟨B, 1, none⟩ = some (.int .i64 y)
 lt : B < w.heap.size
theorem DotAt.below {w w' : World} {B : Nat} {x y : Int} (h : DotAt w B x y) (k : Below w.heap.size w w') : DotAt w' B x y :=
 ⟨(k.cell (p := ⟨B, 0, none⟩) h.lt).trans h.k0, (k.cell (p := ⟨B, 1, none⟩) h.lt).trans h.k1, Nat.lt_of_lt_of_le h.lt k.size⟩
theorem DotAt.gr {w w' : World} {B : Nat} {x y : Int} (h : DotAt w B x y) (k : Gr w w') : DotAt w' B x y := h.below k.below
theorem DotAt.new {w : World} {x y : Int} (T : TypeId) {B : Nat} (hB : w.heap.size = B) : DotAt (w.alloc (.cells #[.int .i64 x, .int .i64 y] T)) B x y := by
 subst hB
 exact ⟨box1 (Gr.refl _) rfl, box1 (Gr.refl _) rfl, by simp⟩

/-- Five stores into a block: the context that it holds. -/
theorem CtxAt.set {w : World} {B : Nat} {d : Ctx} {D : Option Addr} {dp : Nat} (h : CtxAt w B d D dp) {c : Ctx} {A : Option Addr} {cap : Nat} (hr : Row w A c.l) (hA : ∀ a, A = some a → a.block ≠ B) :
  CtxAt (((((w.setCell ⟨B, 0, none⟩ (.int .i64 c.c0)).setCell ⟨B, 1, none⟩ (.int .i64 c.c1)).setCell ⟨B, 2, none⟩ (.int .i64 c.c2)).setCell ⟨B, 3, none⟩ (.int .i64 c.c3)).setCell ⟨B, 4, none⟩ (.slice A c.l.length cap)) B c A cap := by
 have e0 := h.k0
 have e1 := h.k1
 have e2 := h.k2
 have e3 := h.k3
 have e4 := h.k4
 refine ⟨?_, ?_, ?_, ?_, ?_, by simpa [World.setCell] using h.lt, ((((hr.setCell _ hA).setCell _ hA).setCell _ hA).setCell _ hA).setCell _ hA⟩
 ·exact cell_set (cell_set (cell_set (cell_set (cell_set e0))))
 ·exact cell_set (cell_set (cell_set (cell_set (cell_set e1))))
 ·exact cell_set (cell_set (cell_set (cell_set (cell_set e2))))
 ·exact cell_set (cell_set (cell_set (cell_set (cell_set e3))))
 ·exact cell_set (cell_set (cell_set (cell_set (cell_set e4))))

/-- Two stores into a block: the dot that it holds. -/
theorem DotAt.set {w : World} {B : Nat} {x y x' y' : Int} (h : DotAt w B x y) : DotAt ((w.setCell ⟨B, 0, none⟩ (.int .i64 x')).setCell ⟨B, 1, none⟩ (.int .i64 y')) B x' y' := by
 refine ⟨?_, ?_, by simpa [World.setCell] using h.lt⟩
 ·exact cell_set (cell_set h.k0)
 ·exact cell_set (cell_set h.k1)

/-- A store elsewhere. -/
theorem CtxAt.other {w : World} {B : Nat} {c : Ctx} {A : Option Addr} {cap : Nat} (h : CtxAt w B c A cap) {B' j : Nat} (u : Value) (hB : B ≠ B') (hA : ∀ a, A = some a → c.l ≠ [] → a.block ≠ B') : CtxAt (w.setCell ⟨B', j, none⟩ u) B c A cap := by
 have ho : ∀ i, (w.setCell ⟨B', j, none⟩ u).cell? ⟨B, i, none⟩ = w.cell? ⟨B, i, none⟩ := fun i => World.cell?_setCell_other _ _ _ _ (by intro e; injection e with e1; exact hB e1.symm)
 exact ⟨(ho 0).trans h.k0, (ho 1).trans h.k1, (ho 2).trans h.k2, (ho 3).trans h.k3, (ho 4).trans h.k4, by simpa [World.setCell] using h.lt, h.row.setCell0 _ hA⟩
theorem DotAt.other {w : World} {B : Nat} {x y : Int} (h : DotAt w B x y) {B' j : Nat} (u : Value) (hB : B ≠ B') : DotAt (w.setCell ⟨B', j, none⟩ u) B x y := by
 have ho : ∀ i, (w.setCell ⟨B', j, none⟩ u).cell? ⟨B, i, none⟩ = w.cell? ⟨B, i, none⟩ := fun i => World.cell?_setCell_other _ _ _ _ (by intro e; injection e with e1; exact hB e1.symm)
 exact ⟨(ho 0).trans h.k0, (ho 1).trans h.k1, by simpa [World.setCell] using h.lt⟩

/-- Five stores elsewhere. -/
theorem CtxAt.other5 {w : World} {B : Nat} {c : Ctx} {A : Option Addr} {cap : Nat} (h : CtxAt w B c A cap) {B' : Nat} (u0 u1 u2 u3 u4 : Value) (hB : B ≠ B') (hA : ∀ a, A = some a → c.l ≠ [] → a.block ≠ B') :
  CtxAt (((((w.setCell ⟨B', 0, none⟩ u0).setCell ⟨B', 1, none⟩ u1).setCell ⟨B', 2, none⟩ u2).setCell ⟨B', 3, none⟩ u3).setCell ⟨B', 4, none⟩ u4) B c A cap :=
 ((((h.other u0 hB hA).other u1 hB hA).other u2 hB hA).other u3 hB hA).other u4 hB hA
theorem DotAt.other5 {w : World} {B : Nat} {x y : Int} (h : DotAt w B x y) {B' : Nat} (u0 u1 u2 u3 u4 : Value) (hB : B ≠ B') :
  DotAt (((((w.setCell ⟨B', 0, none⟩ u0).setCell ⟨B', 1, none⟩ u1).setCell ⟨B', 2, none⟩ u2).setCell ⟨B', 3, none⟩ u3).setCell ⟨B', 4, none⟩ u4) B x y :=
 ((((h.other u0 hB).other u1 hB).other u2 hB).other u3 hB).other u4 hB
theorem below_set5 {B : Nat} {a w : World} (h : Below B a w) {B' : Nat} (hB : B ≤ B') (u0 u1 u2 u3 u4 : Value) : Below B a (((((w.setCell ⟨B', 0, none⟩ u0).setCell ⟨B', 1, none⟩ u1).setCell ⟨B', 2, none⟩ u2).setCell ⟨B', 3, none⟩ u3).setCell ⟨B', 4, none⟩ u4) :=
 ((((h.setCell hB u0).setCell hB u1).setCell hB u2).setCell hB u3).setCell hB u4

/-- Block B holds a context of nothing, that may be written. -/
structure ZAt (w : World) (B : Nat) : Prop where
 k0 : w.cell? ⟨B, 0, none⟩ = some (.int .i64 0)
 k1 : w.cell? ⟨B, 1, none⟩ = some (.int .i64 0)
 k2 : w.cell? ⟨B, 2, none⟩ = some (.int .i64 0)
 k3 : w.cell? ⟨B, 3, none⟩ = some (.int .i64 0)
 k4 : w.cell? ⟨B, 4, none⟩ = some (.slice none 0 0)
 fz : ∀ j, w.frozen? ⟨B, j, none⟩ = false
 lt : B < w.heap.size
theorem ZAt.new (W : World) (T : TypeId) {B : Nat} (hB : W.heap.size = B) : ZAt (W.alloc (.cells #[.int .i64 0, .int .i64 0, .int .i64 0, .int .i64 0, .slice none 0 0] T)) B := by
 subst hB
 exact ⟨box1 (Gr.refl _) rfl, box1 (Gr.refl _) rfl, box1 (Gr.refl _) rfl, box1 (Gr.refl _) rfl, box1 (Gr.refl _) rfl, fun j => box1f (Gr.refl _) j, by simp⟩
theorem ZAt.below {w w' : World} {B : Nat} (h : ZAt w B) (k : Below w.heap.size w w') : ZAt w' B :=
 ⟨(k.cell (p := ⟨B, 0, none⟩) h.lt).trans h.k0, (k.cell (p := ⟨B, 1, none⟩) h.lt).trans h.k1, (k.cell (p := ⟨B, 2, none⟩) h.lt).trans h.k2, (k.cell (p := ⟨B, 3, none⟩) h.lt).trans h.k3, (k.cell (p := ⟨B, 4, none⟩) h.lt).trans h.k4, fun j => (k.frozen (p := ⟨B, j, none⟩) h.lt).trans (h.fz j), Nat.lt_of_lt_of_le h.lt k.size⟩
theorem ZAt.ctx {w : World} {B : Nat} (h : ZAt w B) : CtxAt w B ⟨0, 0, 0, 0, []⟩ none 0 := ⟨h.k0, h.k1, h.k2, h.k3, h.k4, h.lt, Or.inl rfl⟩
theorem ZAt.other5 {w : World} {B : Nat} (h : ZAt w B) {B' : Nat} (u0 u1 u2 u3 u4 : Value) (hB : B ≠ B') :
  ZAt (((((w.setCell ⟨B', 0, none⟩ u0).setCell ⟨B', 1, none⟩ u1).setCell ⟨B', 2, none⟩ u2).setCell ⟨B', 3, none⟩ u3).setCell ⟨B', 4, none⟩ u4) B := by
 have hc := h.ctx.other5 u0 u1 u2 u3 u4 hB (fun a ha => by cases ha)
 exact ⟨hc.k0, hc.k1, hc.k2, hc.k3, hc.k4, fun j => by simp only [World.frozen?_setCell]; exact h.fz j, hc.lt⟩

end Go.Proofs.YtmoicbmhjmdgdaaGreat

namespace Go.Proofs.YtmoicbmhjmdgdaaGreat
open Go.RowKit Go.Sort

/-- A cell: its dot, its key, its column, its value. -/
abbrev Cel := (Int × Int) × Int × Int × Int
/-- Its five values. -/
def encC (x : Cel) : List Value := [.int .i64 x.1.1, .int .i64 x.1.2, .int .i64 x.2.1, .int .i64 x.2.2.1, .int .i64 x.2.2.2]
theorem encC_len (x : Cel) : (encC x).length = 5 := rfl
theorem encC_one (x : Cel) : ∀ u ∈ encC x, u.oneCell' = true := by
 intro u hu
 simp [encC] at hu
 rcases hu with rfl | rfl | rfl | rfl | rfl <;> rfl

/-- A table: a context and cells. -/
structure Tab where
 c : Ctx
 e : List Cel

/-- The slice at A reads as these cells. -/
abbrev RowC (w : World) (A : Option Addr) (l : List Cel) : Prop := RowG encC 5 w A l

theorem RowC.get {w : World} {A : Option Addr} {l : List Cel} (h : RowC w A l) {k : Nat} (hk : k < l.length) : ∃ b off, A = some ⟨b, off, none⟩ ∧ b < w.heap.size ∧ ∀ j (h : j < l.length),
  w.cell? ⟨b, off + j * 5, none⟩ = some (.int .i64 l[j].1.1) ∧ w.cell? ⟨b, off + j * 5 + 1, none⟩ = some (.int .i64 l[j].1.2) ∧ w.cell? ⟨b, off + j * 5 + 2, none⟩ = some (.int .i64 l[j].2.1) ∧ w.cell? ⟨b, off + j * 5 + 3, none⟩ = some (.int .i64 l[j].2.2.1) ∧ w.cell? ⟨b, off + j * 5 + 4, none⟩ = some (.int .i64 l[j].2.2.2) := by
 obtain ⟨b, off, hA, hb, hc⟩ := h.at hk
 exact ⟨b, off, hA, hb, fun j hj => ⟨hc j hj 0 (by omega), hc j hj 1 (by omega), hc j hj 2 (by omega), hc j hj 3 (by omega), hc j hj 4 (by omega)⟩⟩

/-- Key, column and value in range. -/
def okPlace (k c v : Int) : Bool := inB k 0 49 && inB c 0 2 && inB v (-1000) 1000
/-- Is the cell at k one of the context's, in range, and behind the one ahead of it? -/
def okCel (t : Tab) (k : Nat) : Bool :=
 hasB t.c (t.e.getD k ((0, 0), 0, 0, 0)).1 && okPlace (t.e.getD k ((0, 0), 0, 0, 0)).2.1 (t.e.getD k ((0, 0), 0, 0, 0)).2.2.1 (t.e.getD k ((0, 0), 0, 0, 0)).2.2.2 && (k == 0 || befB (t.e.getD (k - 1) ((0, 0), 0, 0, 0)).1 (t.e.getD k ((0, 0), 0, 0, 0)).1)

/-- What is wrong with a table (an error's number). -/
def errT (t : Tab) : Int := if errC t.c ≠ 0 then errC t.c else if 400 < t.e.length then 2 else if (List.range t.e.length).all (okCel t) then 0 else 5

theorem errT_ctx {t : Tab} (h : errC t.c ≠ 0) : errT t = errC t.c := by simp [errT, h]
theorem errT_large {t : Tab} (h : errC t.c = 0) (hl : 400 < t.e.length) : errT t = 2 := by simp [errT, h, hl]
theorem errT_form {t : Tab} (h : errC t.c = 0) (hl : t.e.length ≤ 400) {k : Nat} (hk : k < t.e.length) (hb : okCel t k = false) : errT t = 5 := by
 have h1 : ¬ 400 < t.e.length := by omega
 have h2 : (List.range t.e.length).all (okCel t) = false := by
  rw [List.all_eq_false]
  exact ⟨k, by simpa using hk, by simp [hb]⟩
 simp [errT, h, h1, h2]
theorem errT_ok {t : Tab} (h : errC t.c = 0) (hl : t.e.length ≤ 400) (ha : ∀ k, k < t.e.length → okCel t k = true) : errT t = 0 := by
 have h1 : ¬ 400 < t.e.length := by omega
 have h2 : (List.range t.e.length).all (okCel t) = true := by
  rw [List.all_eq_true]
  intro k hk
  exact ha k (by simpa using hk)
 simp [errT, h, h1, h2]
theorem errT_parts {t : Tab} (h : errT t = 0) : errC t.c = 0 ∧ t.e.length ≤ 400 ∧ ∀ k, k < t.e.length → okCel t k = true := by
 unfold errT at h
 by_cases h1 : errC t.c = 0
 ·by_cases h2 : 400 < t.e.length
  ·simp [h1, h2] at h
  ·by_cases h3 : (List.range t.e.length).all (okCel t) = true
   ·refine ⟨h1, by omega, fun k hk => ?_⟩
    rw [List.all_eq_true] at h3
    exact h3 k (by simpa using hk)
   ·simp [h1, h2, h3] at h
 ·simp [h1] at h

theorem okCel_zero {t : Tab} (h : 0 < t.e.length) {x : Cel} (hx : t.e[0] = x) : okCel t 0 = (hasB t.c x.1 && okPlace x.2.1 x.2.2.1 x.2.2.2) := by
 subst hx
 simp [okCel, h]
theorem okCel_succ {t : Tab} {m : Nat} (h : m + 1 < t.e.length) {x y : Cel} (hx : t.e[m + 1] = x) (hy : t.e[m] = y) : okCel t (m + 1) = (hasB t.c x.1 && okPlace x.2.1 x.2.2.1 x.2.2.2 && befB y.1 x.1) := by
 subst hx hy
 have h' : m < t.e.length := by omega
 simp [okCel, h, h']

/-- Block B holds the table t, whose cloud is the slice at A, whose cells are the slice at D. -/
structure TabAt (w : World) (B : Nat) (t : Tab) (A : Option Addr) (ca : Nat) (D : Option Addr) (cd : Nat) : Prop where
 k0 : w.cell? ⟨B, 0, none⟩ = some (.int .i64 t.c.c0)
 k1 : w.cell? ⟨B, 1, none⟩ = some (.int .i64 t.c.c1)
 k2 : w.cell? ⟨B, 2, none⟩ = some (.int .i64 t.c.c2)
 k3 : w.cell? ⟨B, 3, none⟩ = some (.int .i64 t.c.c3)
 k4 : w.cell? ⟨B, 4, none⟩ = some (.slice A t.c.l.length ca)
 k5 : w.cell? ⟨B, 5, none⟩ = some (.slice D t.e.length cd)
 lt : B < w.heap.size
 row : Row w A t.c.l
 rowC : RowC w D t.e

theorem TabAt.belowB {w w' : World} {B N : Nat} {t : Tab} {A : Option Addr} {ca : Nat} {D : Option Addr} {cd : Nat} (h : TabAt w B t A ca D cd) (k : Below N w w') (hB : B < N) (hA : ∀ a, A = some a → t.c.l ≠ [] → a.block < N) (hD : ∀ a, D = some a → t.e ≠ [] → a.block < N) : TabAt w' B t A ca D cd :=
 ⟨(k.cell (p := ⟨B, 0, none⟩) hB).trans h.k0, (k.cell (p := ⟨B, 1, none⟩) hB).trans h.k1, (k.cell (p := ⟨B, 2, none⟩) hB).trans h.k2, (k.cell (p := ⟨B, 3, none⟩) hB).trans h.k3, (k.cell (p := ⟨B, 4, none⟩) hB).trans h.k4, (k.cell (p := ⟨B, 5, none⟩) hB).trans h.k5, Nat.lt_of_lt_of_le h.lt k.size, h.row.belowB hA k, h.rowC.belowB hD k⟩
theorem TabAt.below {w w' : World} {B : Nat} {t : Tab} {A : Option Addr} {ca : Nat} {D : Option Addr} {cd : Nat} (h : TabAt w B t A ca D cd) (k : Below w.heap.size w w') : TabAt w' B t A ca D cd := h.belowB k h.lt h.row.lt h.rowC.lt
theorem TabAt.gr {w w' : World} {B : Nat} {t : Tab} {A : Option Addr} {ca : Nat} {D : Option Addr} {cd : Nat} (h : TabAt w B t A ca D cd) (k : Gr w w') : TabAt w' B t A ca D cd := h.below k.below
theorem TabAt.new {w : World} {t : Tab} {A : Option Addr} {ca : Nat} {D : Option Addr} {cd : Nat} (T : TypeId) (hr : Row w A t.c.l) (hd : RowC w D t.e) {B : Nat} (hB : B = w.heap.size) : TabAt (w.alloc (.cells #[.int .i64 t.c.c0, .int .i64 t.c.c1, .int .i64 t.c.c2, .int .i64 t.c.c3, .slice A t.c.l.length ca, .slice D t.e.length cd] T)) B t A ca D cd := by
 subst hB
 have hg : Gr w (w.alloc (.cells #[.int .i64 t.c.c0, .int .i64 t.c.c1, .int .i64 t.c.c2, .int .i64 t.c.c3, .slice A t.c.l.length ca, .slice D t.e.length cd] T)) := (Gr.refl w).alloc _
 exact ⟨box1 (Gr.refl _) rfl, box1 (Gr.refl _) rfl, box1 (Gr.refl _) rfl, box1 (Gr.refl _) rfl, box1 (Gr.refl _) rfl, box1 (Gr.refl _) rfl, by simp, hr.gr hg, hd.gr hg⟩

/-- Block B holds the cell x. -/
structure CelAt (w : World) (B : Nat) (x : Cel) : Prop where
 k0 : w.cell? ⟨B, 0, none⟩ = some (.int .i64 x.1.1)
 k1 : w.cell? ⟨B, 1, none⟩ = some (.int .i64 x.1.2)
 k2 : w.cell? ⟨B, 2, none⟩ = some (.int .i64 x.2.1)
 k3 : w.cell? ⟨B, 3, none⟩ = some (.int .i64 x.2.2.1)
 k4 : w.cell? ⟨B, 4, none⟩ = some (.int .i64 x.2.2.2)
 lt : B < w.heap.size
theorem CelAt.belowB {w w' : World} {B N : Nat} {x : Cel} (h : CelAt w B x) (k : Below N w w') (hB : B < N) : CelAt w' B x :=
 ⟨(k.cell (p := ⟨B, 0, none⟩) hB).trans h.k0, (k.cell (p := ⟨B, 1, none⟩) hB).trans h.k1, (k.cell (p := ⟨B, 2, none⟩) hB).trans h.k2, (k.cell (p := ⟨B, 3, none⟩) hB).trans h.k3, (k.cell (p := ⟨B, 4, none⟩) hB).trans h.k4, Nat.lt_of_lt_of_le h.lt k.size⟩
theorem CelAt.below {w w' : World} {B : Nat} {x : Cel} (h : CelAt w B x) (k : Below w.heap.size w w') : CelAt w' B x := h.belowB k h.lt
theorem CelAt.gr {w w' : World} {B : Nat} {x : Cel} (h : CelAt w B x) (k : Gr w w') : CelAt w' B x := h.below k.below
theorem CelAt.new {w : World} (x : Cel) (T : TypeId) {B : Nat} (hB : B = w.heap.size) : CelAt (w.alloc (.cells #[.int .i64 x.1.1, .int .i64 x.1.2, .int .i64 x.2.1, .int .i64 x.2.2.1, .int .i64 x.2.2.2] T)) B x := by
 subst hB
 exact ⟨box1 (Gr.refl _) rfl, box1 (Gr.refl _) rfl, box1 (Gr.refl _) rfl, box1 (Gr.refl _) rfl, box1 (Gr.refl _) rfl, by simp⟩

end Go.Proofs.YtmoicbmhjmdgdaaGreat
