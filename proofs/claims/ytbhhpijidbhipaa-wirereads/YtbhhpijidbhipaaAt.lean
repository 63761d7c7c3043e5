/-
  A context, a dot, as they lie in a block.
-/
import Derived.Test.YtbhhpijidbhipaaCBox
namespace Go.Proofs.Ytbhhpijidbhipaa
open Go.RowKit Go.Sort

/-- Block B holds the context c, whose cloud is the slice at A. -/
structure CtxAt (w : World) (B : Nat) (c : Ctx) (A : Option Addr) (cap : Nat) : Prop where
  k0 : w.cell? ⟨B, 0, none⟩ = some (.int .i64 c.c0)
  k1 : w.cell? ⟨B, 1, none⟩ = some (.int .i64 c.c1)
  k2 : w.cell? ⟨B, 2, none⟩ = some (.int .i64 c.c2)
  k3 : w.cell? ⟨B, 3, none⟩ = some (.int .i64 c.c3)
  k4 : w.cell? ⟨B, 4, none⟩ = some (.slice A c.l.length cap)
  lt : B < w.heap.size
  row : Row w A c.l

theorem CtxAt.below {w w' : World} {B : Nat} {c : Ctx} {A : Option Addr} {cap : Nat} (h : CtxAt w B c A cap) (k : Below w.heap.size w w') : CtxAt w' B c A cap :=
  ⟨(k.cell (p := ⟨B, 0, none⟩) h.lt).trans h.k0, (k.cell (p := ⟨B, 1, none⟩) h.lt).trans h.k1, (k.cell (p := ⟨B, 2, none⟩) h.lt).trans h.k2, (k.cell (p := ⟨B, 3, none⟩) h.lt).trans h.k3, (k.cell (p := ⟨B, 4, none⟩) h.lt).trans h.k4, Nat.lt_of_lt_of_le h.lt k.size, h.row.below k⟩
theorem CtxAt.gr {w w' : World} {B : Nat} {c : Ctx} {A : Option Addr} {cap : Nat} (h : CtxAt w B c A cap) (k : Gr w w') : CtxAt w' B c A cap := h.below k.below
theorem CtxAt.new {w : World} {c : Ctx} {A : Option Addr} {cap : Nat} (T : TypeId) (h : Row w A c.l) {B : Nat} (hB : w.heap.size = B) : CtxAt (w.alloc (.cells #[.int .i64 c.c0, .int .i64 c.c1, .int .i64 c.c2, .int .i64 c.c3, .slice A c.l.length cap] T)) B c A cap := by
  subst hB
  exact ⟨box1 (Gr.refl _) rfl, box1 (Gr.refl _) rfl, box1 (Gr.refl _) rfl, box1 (Gr.refl _) rfl, box1 (Gr.refl _) rfl, by simp, h.gr ((Gr.refl _).alloc _)⟩

/-- Block B holds the dot (x, y). -/
structure DotAt (w : World) (B : Nat) (x y : Int) : Prop where
  k0 : w.cell? ⟨B, 0, none⟩ = some (.int .i64 x)
  k1 : w.cell? ⟨B, 1, none⟩ = some (.int .i64 y)
  lt : B < w.heap.size
theorem DotAt.below {w w' : World} {B : Nat} {x y : Int} (h : DotAt w B x y) (k : Below w.heap.size w w') : DotAt w' B x y :=
  ⟨(k.cell (p := ⟨B, 0, none⟩) h.lt).trans h.k0, (k.cell (p := ⟨B, 1, none⟩) h.lt).trans h.k1, Nat.lt_of_lt_of_le h.lt k.size⟩
theorem DotAt.gr {w w' : World} {B : Nat} {x y : Int} (h : DotAt w B x y) (k : Gr w w') : DotAt w' B x y := h.below k.below
theorem DotAt.new {w : World} {x y : Int} (T : TypeId) {B : Nat} (hB : w.heap.size = B) : DotAt (w.alloc (.cells #[.int .i64 x, .int .i64 y] T)) B x y := by
  subst hB
  exact ⟨box1 (Gr.refl _) rfl, box1 (Gr.refl _) rfl, by simp⟩

/-- Five stores into a block: the context that it holds. -/
theorem CtxAt.set {w : World} {B : Nat} {d : Ctx} {D : Option Addr} {dp : Nat} (h : CtxAt w B d D dp) {c : Ctx} {A : Option Addr} {cap : Nat} (hr : Row w A c.l) (hA : ∀ a, A = some a → a.block ≠ B) :
    CtxAt (((((w.setCell ⟨B, 0, none⟩ (.int .i64 c.c0)).setCell ⟨B, 1, none⟩ (.int .i64 c.c1)).setCell ⟨B, 2, none⟩ (.int .i64 c.c2)).setCell ⟨B, 3, none⟩ (.int .i64 c.c3)).setCell ⟨B, 4, none⟩ (.slice A c.l.length cap)) B c A cap := by
  have e0 := h.k0
  have e1 := h.k1
  have e2 := h.k2
  have e3 := h.k3
  have e4 := h.k4
  refine ⟨?_, ?_, ?_, ?_, ?_, by simpa [World.setCell] using h.lt, ((((hr.setCell _ hA).setCell _ hA).setCell _ hA).setCell _ hA).setCell _ hA⟩
  · exact cell_set (cell_set (cell_set (cell_set (cell_set e0))))
  · exact cell_set (cell_set (cell_set (cell_set (cell_set e1))))
  · exact cell_set (cell_set (cell_set (cell_set (cell_set e2))))
  · exact cell_set (cell_set (cell_set (cell_set (cell_set e3))))
  · exact cell_set (cell_set (cell_set (cell_set (cell_set e4))))

/-- Two stores into a block: the dot that it holds. -/
theorem DotAt.set {w : World} {B : Nat} {x y x' y' : Int} (h : DotAt w B x y) : DotAt ((w.setCell ⟨B, 0, none⟩ (.int .i64 x')).setCell ⟨B, 1, none⟩ (.int .i64 y')) B x' y' := by
  refine ⟨?_, ?_, by simpa [World.setCell] using h.lt⟩
  · exact cell_set (cell_set h.k0)
  · exact cell_set (cell_set h.k1)

/-- A store elsewhere. -/
theorem CtxAt.other {w : World} {B : Nat} {c : Ctx} {A : Option Addr} {cap : Nat} (h : CtxAt w B c A cap) {B' j : Nat} (u : Value) (hB : B ≠ B') (hA : ∀ a, A = some a → c.l ≠ [] → a.block ≠ B') : CtxAt (w.setCell ⟨B', j, none⟩ u) B c A cap := by
  have ho : ∀ i, (w.setCell ⟨B', j, none⟩ u).cell? ⟨B, i, none⟩ = w.cell? ⟨B, i, none⟩ := fun i => World.cell?_setCell_other _ _ _ _ (by intro e; injection e with e1; exact hB e1.symm)
  exact ⟨(ho 0).trans h.k0, (ho 1).trans h.k1, (ho 2).trans h.k2, (ho 3).trans h.k3, (ho 4).trans h.k4, by simpa [World.setCell] using h.lt, h.row.setCell0 _ hA⟩
theorem DotAt.other {w : World} {B : Nat} {x y : Int} (h : DotAt w B x y) {B' j : Nat} (u : Value) (hB : B ≠ B') : DotAt (w.setCell ⟨B', j, none⟩ u) B x y := by
  have ho : ∀ i, (w.setCell ⟨B', j, none⟩ u).cell? ⟨B, i, none⟩ = w.cell? ⟨B, i, none⟩ := fun i => World.cell?_setCell_other _ _ _ _ (by intro e; injection e with e1; exact hB e1.symm)
  exact ⟨(ho 0).trans h.k0, (ho 1).trans h.k1, by simpa [World.setCell] using h.lt⟩

/-- Five stores elsewhere. -/
theorem CtxAt.other5 {w : World} {B : Nat} {c : Ctx} {A : Option Addr} {cap : Nat} (h : CtxAt w B c A cap) {B' : Nat} (u0 u1 u2 u3 u4 : Value) (hB : B ≠ B') (hA : ∀ a, A = some a → c.l ≠ [] → a.block ≠ B') :
    CtxAt (((((w.setCell ⟨B', 0, none⟩ u0).setCell ⟨B', 1, none⟩ u1).setCell ⟨B', 2, none⟩ u2).setCell ⟨B', 3, none⟩ u3).setCell ⟨B', 4, none⟩ u4) B c A cap :=
  ((((h.other u0 hB hA).other u1 hB hA).other u2 hB hA).other u3 hB hA).other u4 hB hA
theorem DotAt.other5 {w : World} {B : Nat} {x y : Int} (h : DotAt w B x y) {B' : Nat} (u0 u1 u2 u3 u4 : Value) (hB : B ≠ B') :
    DotAt (((((w.setCell ⟨B', 0, none⟩ u0).setCell ⟨B', 1, none⟩ u1).setCell ⟨B', 2, none⟩ u2).setCell ⟨B', 3, none⟩ u3).setCell ⟨B', 4, none⟩ u4) B x y :=
  ((((h.other u0 hB).other u1 hB).other u2 hB).other u3 hB).other u4 hB
theorem below_set5 {B : Nat} {a w : World} (h : Below B a w) {B' : Nat} (hB : B ≤ B') (u0 u1 u2 u3 u4 : Value) : Below B a (((((w.setCell ⟨B', 0, none⟩ u0).setCell ⟨B', 1, none⟩ u1).setCell ⟨B', 2, none⟩ u2).setCell ⟨B', 3, none⟩ u3).setCell ⟨B', 4, none⟩ u4) :=
  ((((h.setCell hB u0).setCell hB u1).setCell hB u2).setCell hB u3).setCell hB u4

/-- Block B holds a context of nothing, that may be written. -/
structure ZAt (w : World) (B : Nat) : Prop where
  k0 : w.cell? ⟨B, 0, none⟩ = some (.int .i64 0)
  k1 : w.cell? ⟨B, 1, none⟩ = some (.int .i64 0)
  k2 : w.cell? ⟨B, 2, none⟩ = some (.int .i64 0)
  k3 : w.cell? ⟨B, 3, none⟩ = some (.int .i64 0)
  k4 : w.cell? ⟨B, 4, none⟩ = some (.slice none 0 0)
  fz : ∀ j, w.frozen? ⟨B, j, none⟩ = false
  lt : B < w.heap.size
theorem ZAt.new (W : World) (T : TypeId) {B : Nat} (hB : W.heap.size = B) : ZAt (W.alloc (.cells #[.int .i64 0, .int .i64 0, .int .i64 0, .int .i64 0, .slice none 0 0] T)) B := by
  subst hB
  exact ⟨box1 (Gr.refl _) rfl, box1 (Gr.refl _) rfl, box1 (Gr.refl _) rfl, box1 (Gr.refl _) rfl, box1 (Gr.refl _) rfl, fun j => box1f (Gr.refl _) j, by simp⟩
theorem ZAt.below {w w' : World} {B : Nat} (h : ZAt w B) (k : Below w.heap.size w w') : ZAt w' B :=
  ⟨(k.cell (p := ⟨B, 0, none⟩) h.lt).trans h.k0, (k.cell (p := ⟨B, 1, none⟩) h.lt).trans h.k1, (k.cell (p := ⟨B, 2, none⟩) h.lt).trans h.k2, (k.cell (p := ⟨B, 3, none⟩) h.lt).trans h.k3, (k.cell (p := ⟨B, 4, none⟩) h.lt).trans h.k4, fun j => (k.frozen (p := ⟨B, j, none⟩) h.lt).trans (h.fz j), Nat.lt_of_lt_of_le h.lt k.size⟩
theorem ZAt.ctx {w : World} {B : Nat} (h : ZAt w B) : CtxAt w B ⟨0, 0, 0, 0, []⟩ none 0 := ⟨h.k0, h.k1, h.k2, h.k3, h.k4, h.lt, Or.inl rfl⟩
theorem ZAt.other5 {w : World} {B : Nat} (h : ZAt w B) {B' : Nat} (u0 u1 u2 u3 u4 : Value) (hB : B ≠ B') :
    ZAt (((((w.setCell ⟨B', 0, none⟩ u0).setCell ⟨B', 1, none⟩ u1).setCell ⟨B', 2, none⟩ u2).setCell ⟨B', 3, none⟩ u3).setCell ⟨B', 4, none⟩ u4) B := by
  have hc := h.ctx.other5 u0 u1 u2 u3 u4 hB (fun a ha => by cases ha)
  exact ⟨hc.k0, hc.k1, hc.k2, hc.k3, hc.k4, fun j => by simp only [World.frozen?_setCell]; exact h.fz j, hc.lt⟩

end Go.Proofs.Ytbhhpijidbhipaa
