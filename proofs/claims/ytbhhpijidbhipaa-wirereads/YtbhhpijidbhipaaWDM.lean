/-
  viewref.Decoded's memory, with the reader's state and what lies between.
-/
import Derived.Test.YtbhhpijidbhipaaWCel
import Derived.Test.YtbhhpijidbhipaaWDecode
namespace Go.Proofs.Ytbhhpijidbhipaa
open Go.RowKit Go.Sort

def zero12 : List Value := [.int .i64 0, .int .i64 0, .int .i64 0, .int .i64 0, .slice none 0 0, .slice none 0 0, .int .i64 0, .int .i64 0, .int .i64 0, .int .i64 0, .slice none 0 0, .slice none 0 0]
/-- The blocks from N + 6 on and below H are as they were. -/
structure Mid (N H : Nat) (w w' : World) : Prop where
  c : ∀ b j, N + 6 ≤ b → b < H → w'.cell? ⟨b, j, none⟩ = w.cell? ⟨b, j, none⟩
  sz : w.heap.size ≤ w'.heap.size
theorem Mid.refl (N H : Nat) (w : World) : Mid N H w w := ⟨fun _ _ _ _ => rfl, Nat.le_refl _⟩
theorem Mid.trans {N H : Nat} {a b c : World} (h : Mid N H a b) (k : Mid N H b c) : Mid N H a c := ⟨fun d j h1 h2 => (k.c d j h1 h2).trans (h.c d j h1 h2), Nat.le_trans h.sz k.sz⟩
theorem Mid.kept {N : Nat} (H : Nat) {w w' : World} (k : Kept N w w') : Mid N H w w' := ⟨fun b j h _ => k.cel b j h, Nat.le_of_eq k.sz.symm⟩
theorem Mid.below {N H K : Nat} {w w' : World} (k : Below K w w') (h : H ≤ K) : Mid N H w w' := ⟨fun b j _ h2 => k.cell (p := ⟨b, j, none⟩) (show b < K by omega), k.size⟩
theorem Mid.set {N H B : Nat} (w : World) (j : Nat) (u : Value) (h : B < N + 6 ∨ H ≤ B) : Mid N H w (w.setCell ⟨B, j, none⟩ u) := ⟨fun b i h1 h2 => World.cell?_setCell_far _ _ _ _ (show B ≠ b by omega), by simp⟩
theorem Row.mid {N H : Nat} {w w' : World} {A : Option Addr} {l : List (Int × Int)} (h : Row w A l) (k : Mid N H w w') (hb : ∀ a, A = some a → l ≠ [] → N + 6 ≤ a.block ∧ a.block < H) : Row w' A l := by
  by_cases h0 : l = []
  · exact Or.inl h0
  rcases h with h | ⟨b, off, hA, hlt, hc⟩
  · exact Or.inl h
  · have hq := hb _ hA h0
    exact Or.inr ⟨b, off, hA, Nat.lt_of_lt_of_le hlt k.sz, fun j hj => ⟨(k.c b _ hq.1 hq.2).trans (hc j hj).1, (k.c b _ hq.1 hq.2).trans (hc j hj).2⟩⟩
theorem RowG.mid {α : Type} {enc : α → List Value} {q N H : Nat} {w w' : World} {A : Option Addr} {l : List α} (h : RowG enc q w A l) (k : Mid N H w w') (hb : ∀ a, A = some a → l ≠ [] → N + 6 ≤ a.block ∧ a.block < H) : RowG enc q w' A l := by
  by_cases h0 : l = []
  · exact Or.inl h0
  rcases h with h | ⟨b, off, hA, hlt, hc⟩
  · exact Or.inl h
  · have hq := hb _ hA h0
    exact Or.inr ⟨b, off, hA, Nat.lt_of_lt_of_le hlt k.sz, fun j hj i hi => (k.c b _ hq.1 hq.2).trans (hc j hj i hi)⟩
/-- Decoded's own blocks in the reader's state; what lies between is as it was in V. -/
structure DM (w W : World) (N : Nat) (x : List UInt8) (s : RS) (P : List Value) (H : Nat) (V : World) : Prop where
  d : ∃ at_ ok, (x.drop at_, ok) = s ∧ Dec w W N x at_ ok zero12 P
  m : Mid N H V W
  hH : N + 6 ≤ H
  sz : H ≤ W.heap.size
theorem DM.n {w W V : World} {N H : Nat} {x : List UInt8} {s : RS} {P : List Value} (h : DM w W N x s P H V) : W.cell? ⟨N + 4, 0, none⟩ = some (.func (.func 29) #[] #[.pointer (some ⟨N + 3, 0, none⟩), .pointer (some ⟨N, 0, none⟩), .pointer (some ⟨N + 2, 0, none⟩)]) := by
  obtain ⟨_, _, _, h⟩ := h.d
  exact h.n
theorem DM.p {w W V : World} {N H : Nat} {x : List UInt8} {s : RS} {P : List Value} (h : DM w W N x s P H V) {j : Nat} (hj : j < 12) : W.cell? ⟨N + 5, j, none⟩ = P[j]? := by
  obtain ⟨_, _, _, h⟩ := h.d
  exact h.p j hj
theorem DM.fp {w W V : World} {N H : Nat} {x : List UInt8} {s : RS} {P : List Value} (h : DM w W N x s P H V) (j : Nat) : W.frozen? ⟨N + 5, j, none⟩ = false := by
  obtain ⟨_, _, _, h⟩ := h.d
  exact h.fp j
theorem DM.gr {w W W' V : World} {N H : Nat} {x : List UInt8} {s : RS} {P : List Value} (h : DM w W N x s P H V) (k : Gr W W') : DM w W' N x s P H V := by
  obtain ⟨⟨a, o, e, d⟩, m, hH, sz⟩ := h
  exact ⟨⟨a, o, e, d.grow k⟩, m.trans (Mid.below k.below sz), hH, Nat.le_trans sz k.size⟩
theorem DM.below {w W W' V : World} {N H K : Nat} {x : List UInt8} {s : RS} {P : List Value} (h : DM w W N x s P H V) (k : Below K W W') (hK : H ≤ K) : DM w W' N x s P H V := by
  obtain ⟨⟨a, o, e, d⟩, m, hH, sz⟩ := h
  exact ⟨⟨a, o, e, d.below (k.mono (by omega))⟩, m.trans (Mid.below k hK), hH, Nat.le_trans sz k.size⟩
theorem DM.put {w W V : World} {N H : Nat} {x : List UInt8} {s : RS} {P : List Value} (h : DM w W N x s P H V) {i : Nat} (hi : i < 12) (v : Value) : DM w (W.setCell ⟨N + 5, i, none⟩ v) N x s (P.set i v) H V := by
  obtain ⟨⟨a, o, e, d⟩, m, hH, sz⟩ := h
  exact ⟨⟨a, o, e, d.put hi v⟩, m.trans (Mid.set _ _ _ (Or.inl (by omega))), hH, by simpa using sz⟩
theorem DM.rebase {w W V : World} {N H K : Nat} {x : List UInt8} {s : RS} {P : List Value} (h : DM w W N x s P H V) (hK : W.heap.size = K) : DM w W N x s P K W := by
  subst hK
  exact ⟨h.d, Mid.refl _ _ _, Nat.le_trans h.hH h.sz, Nat.le_refl _⟩
theorem DM.asks {w W V : World} {N H : Nat} {x : List UInt8} {s : RS} {P : List Value} (h : DM w W N x s P H V) (hx : x.length ≤ maxLen) {n : Int} (hn : nxN s = n) {t : RS} (ht : nxS s = t) :
    Calls Try.prog 29 #[.pointer (some ⟨N + 3, 0, none⟩), .pointer (some ⟨N, 0, none⟩), .pointer (some ⟨N + 2, 0, none⟩)] W fun e w' => e = .returned (.int .i64 n) ∧ DM w w' N x t P H V ∧ Hid (Kept N W w') := by
  obtain ⟨⟨a, o, rfl, d⟩, m, hH, sz⟩ := h
  refine (d.asks hx hn).mono ?_
  rintro e w1 ⟨rfl, a1, o1, h1, d1, k1⟩
  exact ⟨rfl, ⟨⟨a1, o1, h1.out.trans ht, d1⟩, m.trans (Mid.kept H k1.out), hH, by rw [k1.out.sz]; exact sz⟩, k1⟩
theorem DM.counts {w W V : World} {N H : Nat} {x : List UInt8} {s : RS} {P : List Value} (h : DM w W N x s P H V) (hx : x.length ≤ maxLen) {n : Int} (hn : myN s = n) {t : RS} (ht : myS s = t) :
    Calls Try.prog 31 #[.pointer (some ⟨N + 4, 0, none⟩), .pointer (some ⟨N + 3, 0, none⟩)] W fun e w' => e = .returned (.int .i64 n) ∧ DM w w' N x t P H V ∧ Hid (Kept N W w') := by
  obtain ⟨⟨a, o, rfl, d⟩, m, hH, sz⟩ := h
  refine (d.counts hx hn).mono ?_
  rintro e w1 ⟨rfl, a1, o1, h1, d1, k1⟩
  exact ⟨rfl, ⟨⟨a1, o1, h1.out.trans ht, d1⟩, m.trans (Mid.kept H k1.out), hH, by rw [k1.out.sz]; exact sz⟩, k1⟩
theorem Bx.kept {w w' : World} {N B : Nat} {P : List Value} (h : Bx w B P) (k : Kept N w w') (hB : N + 6 ≤ B) : Bx w' B P :=
  ⟨fun j hj => (k.cel B j hB).trans (h.c j hj), fun j => (k.frz B j).trans (h.f j), by rw [k.sz]; exact h.lt⟩
/-- The same with a cell that is being read, and the cells that were. -/
structure CM (w W : World) (N : Nat) (x : List UInt8) (s : RS) (P : List Value) (H : Nat) (V : World) (B : Nat) (y : List Value) (v : Value) (l : List Cel) : Prop where
  d : DM w W N x s P H V
  b : Bx W B y
  o : OwnC W H v l
  hB : H ≤ B
  ne : v.ownBlock ≠ some B
theorem CM.asks {w W V : World} {N H : Nat} {x : List UInt8} {s : RS} {P : List Value} {B : Nat} {y : List Value} {v : Value} {l : List Cel} (h : CM w W N x s P H V B y v l) (hx : x.length ≤ maxLen) {n : Int} (hn : nxN s = n) {t : RS} (ht : nxS s = t) :
    Calls Try.prog 29 #[.pointer (some ⟨N + 3, 0, none⟩), .pointer (some ⟨N, 0, none⟩), .pointer (some ⟨N + 2, 0, none⟩)] W fun e w' => e = .returned (.int .i64 n) ∧ CM w w' N x t P H V B y v l := by
  refine (h.d.asks hx hn ht).mono ?_
  rintro e w1 ⟨rfl, d1, k1⟩
  exact ⟨rfl, d1, h.b.kept k1.out (Nat.le_trans h.d.hH h.hB), k1.out.ownC _ _ _ h.d.hH h.o, h.hB, h.ne⟩
theorem CM.put {w W V : World} {N H : Nat} {x : List UInt8} {s : RS} {P : List Value} {B : Nat} {y : List Value} {v : Value} {l : List Cel} (h : CM w W N x s P H V B y v l) {i : Nat} (hi : i < y.length) (u : Value) : CM w (W.setCell ⟨B, i, none⟩ u) N x s P H V B (y.set i u) v l := by
  refine ⟨?_, h.b.put hi u, OwnG.setCell_ne h.o h.ne u, h.hB, h.ne⟩
  exact h.d.below (K := H) ((Below.refl _ _).setCell (by show H ≤ B; exact h.hB) u) (Nat.le_refl _)
theorem CM.gr {w W W' V : World} {N H : Nat} {x : List UInt8} {s : RS} {P : List Value} {B : Nat} {y : List Value} {v : Value} {l : List Cel} (h : CM w W N x s P H V B y v l) (k : Gr W W') : CM w W' N x s P H V B y v l :=
  ⟨h.d.gr k, h.b.gr k, h.o.gr k, h.hB, h.ne⟩
end Go.Proofs.Ytbhhpijidbhipaa
