/-
  Cells and tables: the plain notions that the contracts of package table speak of.
-/
import Derived.Test.YtbhhpijidbhipaaGen
import Derived.Test.YtbhhpijidbhipaaAt
namespace Go.Proofs.Ytbhhpijidbhipaa
open Go.RowKit Go.Sort

/-- A cell: its dot, its key, its column, its value. -/
abbrev Cel := (Int × Int) × Int × Int × Int
/-- Its five values. -/
def encC (x : Cel) : List Value := [.int .i64 x.1.1, .int .i64 x.1.2, .int .i64 x.2.1, .int .i64 x.2.2.1, .int .i64 x.2.2.2]
theorem encC_len (x : Cel) : (encC x).length = 5 := rfl
theorem encC_one (x : Cel) : ∀ u ∈ encC x, u.oneCell' = true := by
  intro u hu
  simp [encC] at hu
  rcases hu with rfl | rfl | rfl | rfl | rfl <;> rfl

/-- A table: a context and cells. -/
structure Tab where
  c : Ctx
  e : List Cel

/-- The slice at A reads as these cells. -/
abbrev RowC (w : World) (A : Option Addr) (l : List Cel) : Prop := RowG encC 5 w A l

theorem RowC.get {w : World} {A : Option Addr} {l : List Cel} (h : RowC w A l) {k : Nat} (hk : k < l.length) : ∃ b off, A = some ⟨b, off, none⟩ ∧ b < w.heap.size ∧ ∀ j (h : j < l.length),
    w.cell? ⟨b, off + j * 5, none⟩ = some (.int .i64 l[j].1.1) ∧ w.cell? ⟨b, off + j * 5 + 1, none⟩ = some (.int .i64 l[j].1.2) ∧ w.cell? ⟨b, off + j * 5 + 2, none⟩ = some (.int .i64 l[j].2.1) ∧ w.cell? ⟨b, off + j * 5 + 3, none⟩ = some (.int .i64 l[j].2.2.1) ∧ w.cell? ⟨b, off + j * 5 + 4, none⟩ = some (.int .i64 l[j].2.2.2) := by
  obtain ⟨b, off, hA, hb, hc⟩ := h.at hk
  exact ⟨b, off, hA, hb, fun j hj => ⟨hc j hj 0 (by omega), hc j hj 1 (by omega), hc j hj 2 (by omega), hc j hj 3 (by omega), hc j hj 4 (by omega)⟩⟩

/-- A key in range. -/
def okKey (k : Int) : Bool := inB k 0 49
/-- Key, column and value in range. -/
def okPlace (k c v : Int) : Bool := inB k 0 49 && inB c 0 2 && inB v (-1000) 1000
/-- Is the cell at k one of the context's, in range, and behind the one ahead of it? -/
def okCel (t : Tab) (k : Nat) : Bool :=
  hasB t.c (t.e.getD k ((0, 0), 0, 0, 0)).1 && okPlace (t.e.getD k ((0, 0), 0, 0, 0)).2.1 (t.e.getD k ((0, 0), 0, 0, 0)).2.2.1 (t.e.getD k ((0, 0), 0, 0, 0)).2.2.2 && (k == 0 || befB (t.e.getD (k - 1) ((0, 0), 0, 0, 0)).1 (t.e.getD k ((0, 0), 0, 0, 0)).1)

/-- What is wrong with a table (an error's number). -/
def errT (t : Tab) : Int := if errC t.c ≠ 0 then errC t.c else if 400 < t.e.length then 2 else if (List.range t.e.length).all (okCel t) then 0 else 5

theorem errT_ctx {t : Tab} (h : errC t.c ≠ 0) : errT t = errC t.c := by simp [errT, h]
theorem errT_large {t : Tab} (h : errC t.c = 0) (hl : 400 < t.e.length) : errT t = 2 := by simp [errT, h, hl]
theorem errT_form {t : Tab} (h : errC t.c = 0) (hl : t.e.length ≤ 400) {k : Nat} (hk : k < t.e.length) (hb : okCel t k = false) : errT t = 5 := by
  have h1 : ¬ 400 < t.e.length := by omega
  have h2 : (List.range t.e.length).all (okCel t) = false := by
    rw [List.all_eq_false]
    exact ⟨k, by simpa using hk, by simp [hb]⟩
  simp [errT, h, h1, h2]
theorem errT_ok {t : Tab} (h : errC t.c = 0) (hl : t.e.length ≤ 400) (ha : ∀ k, k < t.e.length → okCel t k = true) : errT t = 0 := by
  have h1 : ¬ 400 < t.e.length := by omega
  have h2 : (List.range t.e.length).all (okCel t) = true := by
    rw [List.all_eq_true]
    intro k hk
    exact ha k (by simpa using hk)
  simp [errT, h, h1, h2]
theorem errT_parts {t : Tab} (h : errT t = 0) : errC t.c = 0 ∧ t.e.length ≤ 400 ∧ ∀ k, k < t.e.length → okCel t k = true := by
  unfold errT at h
  by_cases h1 : errC t.c = 0
  · by_cases h2 : 400 < t.e.length
    · simp [h1, h2] at h
    · by_cases h3 : (List.range t.e.length).all (okCel t) = true
      · refine ⟨h1, by omega, fun k hk => ?_⟩
        rw [List.all_eq_true] at h3
        exact h3 k (by simpa using hk)
      · simp [h1, h2, h3] at h
  · simp [h1] at h

theorem okCel_zero {t : Tab} (h : 0 < t.e.length) {x : Cel} (hx : t.e[0] = x) : okCel t 0 = (hasB t.c x.1 && okPlace x.2.1 x.2.2.1 x.2.2.2) := by
  subst hx
  simp [okCel, h]
theorem okCel_succ {t : Tab} {m : Nat} (h : m + 1 < t.e.length) {x y : Cel} (hx : t.e[m + 1] = x) (hy : t.e[m] = y) : okCel t (m + 1) = (hasB t.c x.1 && okPlace x.2.1 x.2.2.1 x.2.2.2 && befB y.1 x.1) := by
  subst hx hy
  have h' : m < t.e.length := by omega
  simp [okCel, h, h']

/-- Block B holds the table t, whose cloud is the slice at A, whose cells are the slice at D. -/
structure TabAt (w : World) (B : Nat) (t : Tab) (A : Option Addr) (ca : Nat) (D : Option Addr) (cd : Nat) : Prop where
  k0 : w.cell? ⟨B, 0, none⟩ = some (.int .i64 t.c.c0)
  k1 : w.cell? ⟨B, 1, none⟩ = some (.int .i64 t.c.c1)
  k2 : w.cell? ⟨B, 2, none⟩ = some (.int .i64 t.c.c2)
  k3 : w.cell? ⟨B, 3, none⟩ = some (.int .i64 t.c.c3)
  k4 : w.cell? ⟨B, 4, none⟩ = some (.slice A t.c.l.length ca)
  k5 : w.cell? ⟨B, 5, none⟩ = some (.slice D t.e.length cd)
  lt : B < w.heap.size
  row : Row w A t.c.l
  rowC : RowC w D t.e

theorem TabAt.belowB {w w' : World} {B N : Nat} {t : Tab} {A : Option Addr} {ca : Nat} {D : Option Addr} {cd : Nat} (h : TabAt w B t A ca D cd) (k : Below N w w') (hB : B < N) (hA : ∀ a, A = some a → t.c.l ≠ [] → a.block < N) (hD : ∀ a, D = some a → t.e ≠ [] → a.block < N) : TabAt w' B t A ca D cd :=
  ⟨(k.cell (p := ⟨B, 0, none⟩) hB).trans h.k0, (k.cell (p := ⟨B, 1, none⟩) hB).trans h.k1, (k.cell (p := ⟨B, 2, none⟩) hB).trans h.k2, (k.cell (p := ⟨B, 3, none⟩) hB).trans h.k3, (k.cell (p := ⟨B, 4, none⟩) hB).trans h.k4, (k.cell (p := ⟨B, 5, none⟩) hB).trans h.k5, Nat.lt_of_lt_of_le h.lt k.size, h.row.belowB hA k, h.rowC.belowB hD k⟩
theorem TabAt.below {w w' : World} {B : Nat} {t : Tab} {A : Option Addr} {ca : Nat} {D : Option Addr} {cd : Nat} (h : TabAt w B t A ca D cd) (k : Below w.heap.size w w') : TabAt w' B t A ca D cd := h.belowB k h.lt h.row.lt h.rowC.lt
theorem TabAt.gr {w w' : World} {B : Nat} {t : Tab} {A : Option Addr} {ca : Nat} {D : Option Addr} {cd : Nat} (h : TabAt w B t A ca D cd) (k : Gr w w') : TabAt w' B t A ca D cd := h.below k.below
theorem TabAt.new {w : World} {t : Tab} {A : Option Addr} {ca : Nat} {D : Option Addr} {cd : Nat} (T : TypeId) (hr : Row w A t.c.l) (hd : RowC w D t.e) {B : Nat} (hB : B = w.heap.size) : TabAt (w.alloc (.cells #[.int .i64 t.c.c0, .int .i64 t.c.c1, .int .i64 t.c.c2, .int .i64 t.c.c3, .slice A t.c.l.length ca, .slice D t.e.length cd] T)) B t A ca D cd := by
  subst hB
  have hg : Gr w (w.alloc (.cells #[.int .i64 t.c.c0, .int .i64 t.c.c1, .int .i64 t.c.c2, .int .i64 t.c.c3, .slice A t.c.l.length ca, .slice D t.e.length cd] T)) := (Gr.refl w).alloc _
  exact ⟨box1 (Gr.refl _) rfl, box1 (Gr.refl _) rfl, box1 (Gr.refl _) rfl, box1 (Gr.refl _) rfl, box1 (Gr.refl _) rfl, box1 (Gr.refl _) rfl, by simp, hr.gr hg, hd.gr hg⟩

/-- Block B holds the cell x. -/
structure CelAt (w : World) (B : Nat) (x : Cel) : Prop where
  k0 : w.cell? ⟨B, 0, none⟩ = some (.int .i64 x.1.1)
  k1 : w.cell? ⟨B, 1, none⟩ = some (.int .i64 x.1.2)
  k2 : w.cell? ⟨B, 2, none⟩ = some (.int .i64 x.2.1)
  k3 : w.cell? ⟨B, 3, none⟩ = some (.int .i64 x.2.2.1)
  k4 : w.cell? ⟨B, 4, none⟩ = some (.int .i64 x.2.2.2)
  lt : B < w.heap.size
theorem CelAt.belowB {w w' : World} {B N : Nat} {x : Cel} (h : CelAt w B x) (k : Below N w w') (hB : B < N) : CelAt w' B x :=
  ⟨(k.cell (p := ⟨B, 0, none⟩) hB).trans h.k0, (k.cell (p := ⟨B, 1, none⟩) hB).trans h.k1, (k.cell (p := ⟨B, 2, none⟩) hB).trans h.k2, (k.cell (p := ⟨B, 3, none⟩) hB).trans h.k3, (k.cell (p := ⟨B, 4, none⟩) hB).trans h.k4, Nat.lt_of_lt_of_le h.lt k.size⟩
theorem CelAt.below {w w' : World} {B : Nat} {x : Cel} (h : CelAt w B x) (k : Below w.heap.size w w') : CelAt w' B x := h.belowB k h.lt
theorem CelAt.gr {w w' : World} {B : Nat} {x : Cel} (h : CelAt w B x) (k : Gr w w') : CelAt w' B x := h.below k.below
theorem CelAt.new {w : World} (x : Cel) (T : TypeId) {B : Nat} (hB : B = w.heap.size) : CelAt (w.alloc (.cells #[.int .i64 x.1.1, .int .i64 x.1.2, .int .i64 x.2.1, .int .i64 x.2.2.1, .int .i64 x.2.2.2] T)) B x := by
  subst hB
  exact ⟨box1 (Gr.refl _) rfl, box1 (Gr.refl _) rfl, box1 (Gr.refl _) rfl, box1 (Gr.refl _) rfl, box1 (Gr.refl _) rfl, by simp⟩

end Go.Proofs.Ytbhhpijidbhipaa
