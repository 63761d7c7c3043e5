/-
  What is said of dots, contexts and worlds: the plain notions that the contracts speak of.
-/
import Derived.Test.YtoodkgmpggabdaaDoorProg
import Derived.KernelRfl
import Derived.RowKit
import GoSem.Claim
import GoSem.ClaimJoined
import GoSem.ClaimMapViews
import Derived.JoinedTies
import Derived.WalkKit
import Derived.WalkSpells
import Derived.WalkLawsBesides
import Derived.Shelf.SlSortCmp.QuietGrown
import Derived.BigQuiet
import Derived.BigRegion
import Derived.Laws.StructEq
import Derived.Shelf.SlicesE.Kit
namespace Go.Proofs.YtoodkgmpggabdaaDoor
open Go.RowKit Go.Sort

/-- A number from one to another one. -/
def inB (n lo hi : Int) : Bool := decide (lo ≤ n) && decide (n ≤ hi)
/-- A right dot. -/
def rightB (x : Int × Int) : Bool := inB x.1 0 3 && inB x.2 1 1099511627776
/-- One dot ahead of another. -/
def befB (x y : Int × Int) : Bool := decide (x.1 < y.1) || (decide (x.1 = y.1) && decide (x.2 < y.2))

/-- w' is w, some draws on, with some blocks behind it. -/
def Gr (w w' : World) : Prop := ∃ q os, w' = grow (w.drewN q) os

theorem Gr.refl (w : World) : Gr w w := ⟨0, #[], by simp [World.drewN]⟩
theorem Gr.trans {a b c : World} (h : Gr a b) (k : Gr b c) : Gr a c := by
  obtain ⟨q, os, rfl⟩ := h
  obtain ⟨q', os', rfl⟩ := k
  exact ⟨q + q', os ++ os', by show grow (grow ((a.drewN q).drewN q') os) os' = _; rw [grow_grow, World.drewN_drewN]⟩
theorem Gr.alloc {a b : World} (h : Gr a b) (o : Obj) : Gr a (b.alloc o) := h.trans ⟨0, #[o], by rw [alloc_eq_grow]; rfl⟩
theorem Gr.drew {a b : World} (h : Gr a b) : Gr a b.drew := h.trans ⟨1, #[], by rw [grow_empty]; rfl⟩
theorem Gr.below {a b : World} (h : Gr a b) : Below a.heap.size a b := by
  obtain ⟨q, os, rfl⟩ := h
  refine ⟨rfl, rfl, rfl, by simp [grow, World.drewN], fun k hk => ?_⟩
  show (a.heap ++ os)[k]? = _
  rw [Array.getElem?_append_left hk]
theorem Gr.cell {a b : World} (h : Gr a b) {p : Addr} (hp : p.block < a.heap.size) : b.cell? p = a.cell? p := h.below.cell hp

theorem Gr.size {a b : World} (h : Gr a b) : a.heap.size ≤ b.heap.size := h.below.size

theorem Gr.drawn {a b : World} (h : Gr a b) : a.drawn ≤ b.drawn := by
  obtain ⟨q, os, rfl⟩ := h
  show a.drawn ≤ a.drawn + q
  omega
theorem Gr.of {a b : World} (h : Below a.heap.size a b) (k : a.drawn ≤ b.drawn) : Gr a b := by
  refine ⟨b.drawn - a.drawn, b.heap.extract a.heap.size b.heap.size, ?_⟩
  have hh : b.heap = a.heap ++ b.heap.extract a.heap.size b.heap.size := by
    apply Array.ext_getElem?
    intro i
    by_cases hi : i < a.heap.size
    · rw [Array.getElem?_append_left hi]; exact h.block i hi
    · rw [Array.getElem?_append_right (by omega), Array.getElem?_extract]
      have e : a.heap.size + (i - a.heap.size) = i := by omega
      by_cases hb : i < b.heap.size
      · rw [if_pos (by omega), e]
      · rw [if_neg (by omega)]; exact Array.getElem?_eq_none (by omega)
  obtain ⟨bh, bt, bd, bo, bp⟩ := b
  obtain ⟨ah, at', ad, ao, ap⟩ := a
  have h1 := h.os
  have h2 := h.tape
  have h3 := h.output
  simp only at h1 h2 h3 hh k
  subst h1 h2 h3
  simp only [grow, World.drewN]
  rw [← hh]
  simp only [World.mk.injEq, true_and, and_true]
  omega
theorem Gr.setCell {a b : World} (h : Gr a b) {p : Addr} (hp : a.heap.size ≤ p.block) (u : Value) : Gr a (b.setCell p u) :=
  Gr.of (h.below.setCell hp u) h.drawn

/-- A context: four clocks and a cloud. -/
structure Ctx where
  c0 : Int
  c1 : Int
  c2 : Int
  c3 : Int
  l : List (Int × Int)

/-- The clock of a node. -/
def clk (c : Ctx) (n : Int) : Int := if n = 0 then c.c0 else if n = 1 then c.c1 else if n = 2 then c.c2 else c.c3

/-- A context has a dot. -/
def hasB (c : Ctx) (x : Int × Int) : Bool := c.l.contains x || (inB x.1 0 3 && decide (1 ≤ x.2) && decide (x.2 ≤ clk c x.1))

/-- The slice at A reads as the dots l. -/
def Row (w : World) (A : Option Addr) (l : List (Int × Int)) : Prop :=
  l = [] ∨ ∃ b off, A = some ⟨b, off, none⟩ ∧ b < w.heap.size ∧ ∀ j (h : j < l.length), w.cell? ⟨b, off + j * 2, none⟩ = some (.int .i64 l[j].1) ∧ w.cell? ⟨b, off + j * 2 + 1, none⟩ = some (.int .i64 l[j].2)

theorem Row.below {w w' : World} {A : Option Addr} {l : List (Int × Int)} (h : Row w A l) (k : Below w.heap.size w w') : Row w' A l := by
  rcases h with h | ⟨b, off, hA, hb, hc⟩
  · exact Or.inl h
  · exact Or.inr ⟨b, off, hA, Nat.lt_of_lt_of_le hb k.size, fun j hj => ⟨(k.cell (p := ⟨b, off + j * 2, none⟩) hb).trans (hc j hj).1, (k.cell (p := ⟨b, off + j * 2 + 1, none⟩) hb).trans (hc j hj).2⟩⟩

theorem Row.gr {w w' : World} {A : Option Addr} {l : List (Int × Int)} (h : Row w A l) (k : Gr w w') : Row w' A l := h.below k.below



/-- A list has a dot. -/
def memB (l : List (Int × Int)) (x : Int × Int) : Bool := l.contains x

/-- Two lists of dots are the same. -/
def eqL (l m : List (Int × Int)) : Bool := decide (l = m)



/-- The cells of a block that was laid, in whatever has grown of it. -/
theorem box1 {w wr : World} {C1 : Array Value} {T1 : TypeId} (h : Gr (w.alloc (.cells C1 T1)) wr) {j : Nat} {v : Value} (hv : C1[j]? = some v) : wr.cell? ⟨w.heap.size, j, none⟩ = some v := by
  rw [h.cell (p := ⟨w.heap.size, j, none⟩) (by simp), World.cell?_alloc_mark w C1 T1 (0, 0) j, hv]

theorem box2 {w wr : World} {C1 C2 : Array Value} {T1 T2 : TypeId} (h : Gr ((w.alloc (.cells C1 T1)).alloc (.cells C2 T2)) wr) {j : Nat} {v : Value} (hv : C2[j]? = some v) : wr.cell? ⟨w.heap.size + 1, j, none⟩ = some v := by
  have := box1 (w := w.alloc (.cells C1 T1)) h hv
  simpa using this

theorem unbox_in {w wr : World} {o1 o2 : Obj} (h : Gr ((w.alloc o1).alloc o2) wr) : Gr (w.alloc o1) wr := ((Gr.refl _).alloc o2).trans h

theorem unbox {w wr : World} {o1 : Obj} (h : Gr (w.alloc o1) wr) : Gr w wr := ((Gr.refl w).alloc o1).trans h

/-- A cell that was there, in whatever has grown of it, some draws and blocks on. -/
theorem Gr.cellG {w W : World} (h : Gr w W) {a : Addr} {v : Value} (hb : a.block < w.heap.size) (hc : w.cell? a = some v) (n : Nat) (os : Array Obj) : (grow (W.drewN n) os).cell? a = some v :=
  cell_grown (Nat.lt_of_lt_of_le hb h.size) ((h.cell hb).trans hc) n os

theorem box1G {w wr : World} {C1 : Array Value} {T1 : TypeId} (h : Gr (w.alloc (.cells C1 T1)) wr) {j : Nat} {v : Value} (hv : C1[j]? = some v) (n : Nat) (os : Array Obj) : (grow (wr.drewN n) os).cell? ⟨w.heap.size, j, none⟩ = some v :=
  cell_grown (Nat.lt_of_lt_of_le (show w.heap.size < (w.alloc (.cells C1 T1)).heap.size by simp) h.size) (box1 h hv) n os

theorem Row.at {w : World} {A : Option Addr} {l : List (Int × Int)} (h : Row w A l) {k : Nat} (hk : k < l.length) : ∃ b off, A = some ⟨b, off, none⟩ ∧ b < w.heap.size ∧ ∀ j (h : j < l.length), w.cell? ⟨b, off + j * 2, none⟩ = some (.int .i64 l[j].1) ∧ w.cell? ⟨b, off + j * 2 + 1, none⟩ = some (.int .i64 l[j].2) := by
  rcases h with h0 | h
  · exact absurd hk (by simp [h0])
  · exact h

/-- The clock's cells of a boxed context. -/
theorem clkCell {c : Ctx} {v : Value} {a : Int} (h0 : 0 ≤ a) (h3 : a < 4) : #[Value.int .i64 c.c0, .int .i64 c.c1, .int .i64 c.c2, .int .i64 c.c3, v][a.toNat]? = some (.int .i64 (clk c a)) := by
  have h4 : a = 0 ∨ a = 1 ∨ a = 2 ∨ a = 3 := by omega
  rcases h4 with rfl | rfl | rfl | rfl <;> rfl

/-- Is the cloud's dot at k right, behind the one ahead of it, and above the clock? -/
def okAt (c : Ctx) (k : Nat) : Bool := rightB (c.l.getD k (0, 0)) && (k == 0 || befB (c.l.getD (k - 1) (0, 0)) (c.l.getD k (0, 0))) && decide (clk c (c.l.getD k (0, 0)).1 + 2 ≤ (c.l.getD k (0, 0)).2)

/-- Are the clocks in range? -/
def okClk (c : Ctx) : Bool := inB c.c0 0 1099511627776 && inB c.c1 0 1099511627776 && inB c.c2 0 1099511627776 && inB c.c3 0 1099511627776

/-- What is wrong with a context (an error's number). -/
def errC (c : Ctx) : Int := if okClk c = false then 1 else if 400 < c.l.length then 2 else if (List.range c.l.length).all (okAt c) then 0 else 5

theorem errC_clk {c : Ctx} {a : Int} (h0 : 0 ≤ a) (h4 : a < 4) (h : inB (clk c a) 0 1099511627776 = false) : errC c = 1 := by
  have h4 : a = 0 ∨ a = 1 ∨ a = 2 ∨ a = 3 := by omega
  have : okClk c = false := by
    unfold okClk
    rcases h4 with rfl | rfl | rfl | rfl <;> simp only [clk] at h <;> simp_all
  simp [errC, this]

theorem okClk_of {c : Ctx} (h : ∀ a : Int, 0 ≤ a → a < 4 → inB (clk c a) 0 1099511627776 = true) : okClk c = true := by
  have h0 := h 0 (by omega) (by omega)
  have h1 := h 1 (by omega) (by omega)
  have h2 := h 2 (by omega) (by omega)
  have h3 := h 3 (by omega) (by omega)
  simp only [clk] at h0 h1 h2 h3
  simp_all [okClk]

theorem clk_of_ok {c : Ctx} (h : okClk c = true) (a : Int) (h0 : 0 ≤ a) (h4 : a < 4) : 0 ≤ clk c a ∧ clk c a ≤ 1099511627776 := by
  have h4 : a = 0 ∨ a = 1 ∨ a = 2 ∨ a = 3 := by omega
  simp [okClk, inB] at h
  rcases h4 with rfl | rfl | rfl | rfl <;> simp [clk] <;> omega

theorem errC_large {c : Ctx} (h : okClk c = true) (hl : 400 < c.l.length) : errC c = 2 := by simp [errC, h, hl]
theorem errC_form {c : Ctx} (h : okClk c = true) (hl : c.l.length ≤ 400) {k : Nat} (hk : k < c.l.length) (hb : okAt c k = false) : errC c = 5 := by
  have : ¬ 400 < c.l.length := by omega
  have h2 : (List.range c.l.length).all (okAt c) = false := by
    rw [List.all_eq_false]
    exact ⟨k, by simpa using hk, by simp [hb]⟩
  simp [errC, h, this, h2]
theorem errC_ok {c : Ctx} (h : okClk c = true) (hl : c.l.length ≤ 400) (ha : ∀ k, k < c.l.length → okAt c k = true) : errC c = 0 := by
  have : ¬ 400 < c.l.length := by omega
  have h2 : (List.range c.l.length).all (okAt c) = true := by
    rw [List.all_eq_true]
    intro k hk
    exact ha k (by simpa using hk)
  simp [errC, h, this, h2]

theorem okAt_zero {c : Ctx} (h : 0 < c.l.length) {x : Int × Int} (hx : c.l[0] = x) : okAt c 0 = (rightB x && decide (clk c x.1 + 2 ≤ x.2)) := by
  subst hx
  simp [okAt, h]
theorem okAt_succ {c : Ctx} {m : Nat} (h : m + 1 < c.l.length) {x y : Int × Int} (hx : c.l[m + 1] = x) (hy : c.l[m] = y) : okAt c (m + 1) = (rightB x && befB y x && decide (clk c x.1 + 2 ≤ x.2)) := by
  subst hx hy
  have h' : m < c.l.length := by omega
  simp [okAt, h, h']
theorem rightB_node {x : Int × Int} (h : rightB x = true) : 0 ≤ x.1 ∧ x.1 < 4 ∧ 1 ≤ x.2 ∧ x.2 ≤ 1099511627776 := by
  simp [rightB, inB] at h
  omega

theorem box1f {w wr : World} {C1 : Array Value} {T1 : TypeId} (h : Gr (w.alloc (.cells C1 T1)) wr) (j : Nat) : wr.frozen? ⟨w.heap.size, j, none⟩ = false := by
  rw [h.below.frozen (p := ⟨w.heap.size, j, none⟩) (by simp)]
  simp
theorem box2f {w wr : World} {o1 : Obj} {C2 : Array Value} {T2 : TypeId} (h : Gr ((w.alloc o1).alloc (.cells C2 T2)) wr) (j : Nat) : wr.frozen? ⟨w.heap.size + 1, j, none⟩ = false := by
  have := box1f (w := w.alloc o1) h j
  simpa using this

/-- The greatest number of a node's dots, among the clock and the first of the cloud. -/
def topS (c : Ctx) (n : Int) (l : List (Int × Int)) : Int := l.foldl (fun m x => if x.1 = n then max m x.2 else m) (clk c n)
theorem topS_snoc (c : Ctx) (n : Int) (l : List (Int × Int)) (x : Int × Int) : topS c n (l ++ [x]) = if x.1 = n then max (topS c n l) x.2 else topS c n l := by
  simp [topS, List.foldl_append]
theorem topS_take (c : Ctx) (n : Int) (k : Nat) (h : k < c.l.length) {x : Int × Int} (hx : c.l[k] = x) : topS c n (c.l.take (k + 1)) = if x.1 = n then max (topS c n (c.l.take k)) x.2 else topS c n (c.l.take k) := by
  rw [List.take_succ_eq_append_getElem h, topS_snoc, hx]
theorem topS_lo (c : Ctx) (n : Int) (l : List (Int × Int)) : clk c n ≤ topS c n l := by
  unfold topS
  suffices h : ∀ m, m ≤ l.foldl (fun m x => if x.1 = n then max m x.2 else m) m from h _
  induction l with
  | nil => intro m; simp
  | cons x l ih =>
    intro m
    simp only [List.foldl_cons]
    refine Int.le_trans ?_ (ih (if x.1 = n then max m x.2 else m))
    split <;> omega

/-- The error that Next tells of a right context and a node. -/
def nextE (c : Ctx) (n : Int) : Int := if 1099511627776 ≤ topS c n c.l then 2 else 0
/-- The dot that it tells. -/
def nextD (c : Ctx) (n : Int) : Int × Int := if 1099511627776 ≤ topS c n c.l then (0, 0) else (n, topS c n c.l + 1)

/-- One of a list is no right dot. -/
def badL (l : List (Int × Int)) : Bool := l.any fun x => !rightB x

theorem badL_at {l : List (Int × Int)} {k : Nat} (h : k < l.length) {x : Int × Int} (hx : l[k] = x) (hr : rightB x = false) : badL l = true := by
  simp only [badL, List.any_eq_true]
  exact ⟨l[k], List.getElem_mem h, by rw [hx, hr]; rfl⟩
theorem badL_not {l : List (Int × Int)} (h : ∀ j (h : j < l.length), rightB l[j] = true) : badL l = false := by
  simp only [badL, List.any_eq_false]
  intro x hx
  obtain ⟨j, hj, rfl⟩ := List.getElem_of_mem hx
  rw [h j hj]; simp
theorem badL_all {l : List (Int × Int)} (h : badL l = false) : ∀ x ∈ l, rightB x = true := by
  intro x hx
  simp only [badL, List.any_eq_false] at h
  have := h x hx
  cases hr : rightB x
  · simp [hr] at this
  · rfl

end Go.Proofs.YtoodkgmpggabdaaDoor
