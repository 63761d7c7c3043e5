/-
  viewref.Decoded's memory: the reader's boxes, the packet that is read.
-/
import Derived.Test.YtbhhpijidbhipaaWNext
import Derived.Test.YtbhhpijidbhipaaTOwn
import Derived.Test.YtbhhpijidbhipaaCBox
namespace Go.Proofs.Ytbhhpijidbhipaa
open Go.RowKit Go.Sort

/-- The next number's function, as a value. -/
def nextF (N : Nat) : Value := .func (.func 29) #[] #[.pointer (some ⟨N + 3, 0, none⟩), .pointer (some ⟨N, 0, none⟩), .pointer (some ⟨N + 2, 0, none⟩)]
/-- What Decoded's own blocks hold: the text (N), the answer (N + 1), where it stands (N + 2), whether all is well (N + 3), the function (N + 4), the packet (N + 5). -/
structure Dec (w wr : World) (N : Nat) (x : List UInt8) (at_ : Nat) (ok : Bool) (Z P : List Value) : Prop where
  g : Below w.heap.size w wr
  n0 : w.heap.size = N
  sz : N + 6 ≤ wr.heap.size
  r : RdAt wr (N + 3) N (N + 2) x at_ ok
  n : wr.cell? ⟨N + 4, 0, none⟩ = some (nextF N)
  z : ∀ j, j < 12 → wr.cell? ⟨N + 1, j, none⟩ = Z[j]?
  fz : ∀ j, wr.frozen? ⟨N + 1, j, none⟩ = false
  p : ∀ j, j < 12 → wr.cell? ⟨N + 5, j, none⟩ = P[j]?
  fp : ∀ j, wr.frozen? ⟨N + 5, j, none⟩ = false
  pl : P.length = 12
/-- The world behind the next number. -/
def nextW (wr : World) (N m : Nat) (q : Bool) : World := (wr.setCell ⟨N + 3, 0, none⟩ (.bool q)).setCell ⟨N + 2, 0, none⟩ (.int .i64 (m : Int))
theorem Dec.next {w wr : World} {N : Nat} {x : List UInt8} {at_ : Nat} {ok : Bool} {Z P : List Value} (h : Dec w wr N x at_ ok Z P) {m : Nat} (hm : m ≤ x.length) (q : Bool) : Dec w (nextW wr N m q) N x m q Z P := by
  have far : ∀ b j, b ≠ N + 2 → b ≠ N + 3 → (nextW wr N m q).cell? ⟨b, j, none⟩ = wr.cell? ⟨b, j, none⟩ := by
    intro b j h1 h2
    unfold nextW
    rw [World.cell?_setCell_far _ _ _ _ (show N + 2 ≠ b from Ne.symm h1), World.cell?_setCell_far _ _ _ _ (show N + 3 ≠ b from Ne.symm h2)]
  exact ⟨(h.g.setCell (by show w.heap.size ≤ N + 3; have := h.n0; omega) _).setCell (by show w.heap.size ≤ N + 2; have := h.n0; omega) _, h.n0, by unfold nextW; simp; exact h.sz,
    h.r.put (by omega) (by omega) (by omega) hm q, by rw [far _ _ (by omega) (by omega)]; exact h.n,
    fun j hj => by rw [far _ _ (by omega) (by omega)]; exact h.z j hj, fun j => by unfold nextW; simp [h.fz j],
    fun j hj => by rw [far _ _ (by omega) (by omega)]; exact h.p j hj, fun j => by unfold nextW; simp [h.fp j], h.pl⟩
theorem Dec.put {w wr : World} {N : Nat} {x : List UInt8} {at_ : Nat} {ok : Bool} {Z P : List Value} (h : Dec w wr N x at_ ok Z P) {i : Nat} (hi : i < 12) (v : Value) : Dec w (wr.setCell ⟨N + 5, i, none⟩ v) N x at_ ok Z (P.set i v) := by
  have far : ∀ b j, b ≠ N + 5 → (wr.setCell ⟨N + 5, i, none⟩ v).cell? ⟨b, j, none⟩ = wr.cell? ⟨b, j, none⟩ := by
    intro b j h1
    rw [World.cell?_setCell_far _ _ _ _ (show N + 5 ≠ b from Ne.symm h1)]
  refine ⟨h.g.setCell (by show w.heap.size ≤ N + 5; have := h.n0; omega) _, h.n0, by simp; exact h.sz,
    ⟨by rw [far _ _ (by omega)]; exact h.r.o, by rw [far _ _ (by omega)]; exact h.r.s, by rw [far _ _ (by omega)]; exact h.r.a, by simp [h.r.fo], by simp [h.r.fa], h.r.le⟩, by rw [far _ _ (by omega)]; exact h.n,
    fun j hj => by rw [far _ _ (by omega)]; exact h.z j hj, fun j => by simp [h.fz j], fun j hj => ?_, fun j => by simp [h.fp j], by simp [h.pl]⟩
  have hpj := h.p j hj
  rw [List.getElem?_eq_getElem (by rw [h.pl]; exact hj)] at hpj
  rw [cell_set hpj, List.getElem?_set]
  by_cases hji : j = i
  · subst hji
    rw [if_pos rfl, if_pos rfl, if_pos (by rw [h.pl]; exact hj)]
  · rw [if_neg hji, if_neg (Ne.symm hji), List.getElem?_eq_getElem (by rw [h.pl]; exact hj)]
theorem Dec.below {w wr wn : World} {N : Nat} {x : List UInt8} {at_ : Nat} {ok : Bool} {Z P : List Value} (h : Dec w wr N x at_ ok Z P) (k : Below (N + 6) wr wn) : Dec w wn N x at_ ok Z P :=
  ⟨h.g.trans (k.mono (by have := h.n0; omega)), h.n0, Nat.le_trans h.sz k.size,
   ⟨(k.cell (p := ⟨N + 3, 0, none⟩) (by show N + 3 < N + 6; omega)).trans h.r.o, (k.cell (p := ⟨N, 0, none⟩) (by show N < N + 6; omega)).trans h.r.s, (k.cell (p := ⟨N + 2, 0, none⟩) (by show N + 2 < N + 6; omega)).trans h.r.a, (k.frozen (p := ⟨N + 3, 0, none⟩) (by show N + 3 < N + 6; omega)).trans h.r.fo, (k.frozen (p := ⟨N + 2, 0, none⟩) (by show N + 2 < N + 6; omega)).trans h.r.fa, h.r.le⟩,
   (k.cell (p := ⟨N + 4, 0, none⟩) (by show N + 4 < N + 6; omega)).trans h.n,
   fun j hj => (k.cell (p := ⟨N + 1, j, none⟩) (by show N + 1 < N + 6; omega)).trans (h.z j hj), fun j => (k.frozen (p := ⟨N + 1, j, none⟩) (by show N + 1 < N + 6; omega)).trans (h.fz j),
   fun j hj => (k.cell (p := ⟨N + 5, j, none⟩) (by show N + 5 < N + 6; omega)).trans (h.p j hj), fun j => (k.frozen (p := ⟨N + 5, j, none⟩) (by show N + 5 < N + 6; omega)).trans (h.fp j), h.pl⟩
theorem Dec.grow {w wr wn : World} {N : Nat} {x : List UInt8} {at_ : Nat} {ok : Bool} {Z P : List Value} (h : Dec w wr N x at_ ok Z P) (k : Gr wr wn) : Dec w wn N x at_ ok Z P :=
  h.below (k.below.mono h.sz)
theorem raw_far (wr : World) (N : Nat) {b : Nat} (j m : Nat) (q : Bool) (h1 : b ≠ N + 2) (h2 : b ≠ N + 3) : ((wr.setCell ⟨N + 3, 0, none⟩ (.bool q)).setCell ⟨N + 2, 0, none⟩ (.int .i64 (m : Int))).cell? ⟨b, j, none⟩ = wr.cell? ⟨b, j, none⟩ := by
  rw [World.cell?_setCell_far _ _ _ _ (show N + 2 ≠ b from Ne.symm h1), World.cell?_setCell_far _ _ _ _ (show N + 3 ≠ b from Ne.symm h2)]
theorem OwnG.setCell {α : Type} {enc : α → List Value} {k : Nat} {e : TypeId} {w : World} {base : Nat} {v : Value} {l : List α} (h : OwnG enc k e w base v l) {a : Addr} (ha : a.block < base) (u : Value) : OwnG enc k e (w.setCell a u) base v l := ownsRow_setCell_below h ha u
theorem RowG.setCell {α : Type} {enc : α → List Value} {k : Nat} {w : World} {A : Option Addr} {l : List α} (h : RowG enc k w A l) {B j : Nat} (u : Value) (hB : ∀ a, A = some a → a.block ≠ B) : RowG enc k (w.setCell ⟨B, j, none⟩ u) A l := by
  rcases h with h | ⟨b, off, hA, hb, hc⟩
  · exact Or.inl h
  · refine Or.inr ⟨b, off, hA, by simpa using hb, fun m hm i hi => ?_⟩
    rw [World.cell?_setCell_far _ _ _ _ (show B ≠ b from Ne.symm (hB _ hA))]
    exact hc m hm i hi
/-- What lies behind Decoded's own blocks is as it was. -/
structure Kept (N : Nat) (w w' : World) : Prop where
  sz : w'.heap.size = w.heap.size
  dr : w'.drawn = w.drawn
  own : ∀ base v l, N + 6 ≤ base → Own w base v l → Own w' base v l
  ownC : ∀ base v l, N + 6 ≤ base → OwnC w base v l → OwnC w' base v l
  row : ∀ A l, (∀ a, A = some a → N + 6 ≤ a.block) → Row w A l → Row w' A l
  rowC : ∀ A l, (∀ a, A = some a → N + 6 ≤ a.block) → RowC w A l → RowC w' A l
  cel : ∀ b j, N + 6 ≤ b → w'.cell? ⟨b, j, none⟩ = w.cell? ⟨b, j, none⟩
  frz : ∀ b j, w'.frozen? ⟨b, j, none⟩ = w.frozen? ⟨b, j, none⟩
theorem Kept.set (N : Nat) (w : World) {b j : Nat} (hb : b < N + 6) (u : Value) : Kept N w (w.setCell ⟨b, j, none⟩ u) :=
  ⟨by simp, rfl, fun _ _ _ h o => o.setCell (show b < _ by omega) u, fun _ _ _ h o => OwnG.setCell o (show b < _ by omega) u,
   fun _ _ h r => r.setCell u (fun a e => by have := h a e; omega), fun _ _ h r => RowG.setCell r u (fun a e => by have := h a e; omega),
   fun c _ h => World.cell?_setCell_far _ _ _ _ (show b ≠ c by omega), fun _ _ => by simp⟩
theorem Kept.trans {N : Nat} {a b c : World} (h : Kept N a b) (k : Kept N b c) : Kept N a c :=
  ⟨k.sz.trans h.sz, k.dr.trans h.dr, fun _ _ _ g o => k.own _ _ _ g (h.own _ _ _ g o), fun _ _ _ g o => k.ownC _ _ _ g (h.ownC _ _ _ g o), fun _ _ g o => k.row _ _ g (h.row _ _ g o), fun _ _ g o => k.rowC _ _ g (h.rowC _ _ g o), fun _ _ g => (k.cel _ _ g).trans (h.cel _ _ g), fun _ _ => (k.frz _ _).trans (h.frz _ _)⟩
/-- The next number, asked for in Decoded's memory. -/
theorem Dec.asks {w wr : World} {N : Nat} {x : List UInt8} {at_ : Nat} {ok : Bool} {Z P : List Value} (h : Dec w wr N x at_ ok Z P) (hx : x.length ≤ maxLen) {n : Int} (hn : nxN (x.drop at_, ok) = n) :
    Calls Try.prog 29 #[.pointer (some ⟨N + 3, 0, none⟩), .pointer (some ⟨N, 0, none⟩), .pointer (some ⟨N + 2, 0, none⟩)] wr fun e w' => e = .returned (.int .i64 n) ∧ ∃ (m : Nat) (q : Bool), Hid ((x.drop m, q) = nxS (x.drop at_, ok)) ∧ Dec w w' N x m q Z P ∧ Hid (Kept N wr w') := by
  refine (next_any x at_ ok (N + 3) N (N + 2) wr hx (by omega) h.r).mono ?_
  rintro e w1 ⟨rfl, k, hk, hS, rfl⟩
  rw [hn]
  exact ⟨rfl, at_ + k, (nxS (x.drop at_, ok)).2, hS.symm, h.next hk _, (Kept.set N wr (by omega) _).trans (Kept.set N _ (by omega) _)⟩
/-- How many there are, asked for in Decoded's memory. -/
theorem Dec.counts {w wr : World} {N : Nat} {x : List UInt8} {at_ : Nat} {ok : Bool} {Z P : List Value} (h : Dec w wr N x at_ ok Z P) (hx : x.length ≤ maxLen) {n : Int} (hn : myN (x.drop at_, ok) = n) :
    Calls Try.prog 31 #[.pointer (some ⟨N + 4, 0, none⟩), .pointer (some ⟨N + 3, 0, none⟩)] wr fun e w' => e = .returned (.int .i64 n) ∧ ∃ (m : Nat) (q : Bool), Hid ((x.drop m, q) = myS (x.drop at_, ok)) ∧ Dec w w' N x m q Z P ∧ Hid (Kept N wr w') := by
  refine (many_any x at_ ok (N + 3) N (N + 2) (N + 4) wr hx (by omega) (by omega) (by omega) h.r h.n).mono ?_
  rintro e w1 ⟨rfl, k, hk, hS, rfl⟩
  rw [hn]
  refine ⟨rfl, at_ + k, (myS (x.drop at_, ok)).2, hS.symm, ?_, ((Kept.set N wr (by omega) _).trans (Kept.set N _ (by omega) _)).trans (Kept.set N _ (by omega) _)⟩
  have h1 := h.next hk (nxS (x.drop at_, ok)).2
  have h2 := h1.next hk (myS (x.drop at_, ok)).2
  have e := setCell_id h2.r.a
  have hid : nextW (nextW wr N (at_ + k) (nxS (x.drop at_, ok)).2) N (at_ + k) (myS (x.drop at_, ok)).2 = ((wr.setCell ⟨N + 3, 0, none⟩ (.bool (nxS (x.drop at_, ok)).2)).setCell ⟨N + 2, 0, none⟩ (.int .i64 ((at_ + k : Nat) : Int))).setCell ⟨N + 3, 0, none⟩ (.bool (myS (x.drop at_, ok)).2) := by
    refine setCell_id ?_
    rw [World.cell?_setCell_far _ _ _ _ (show N + 3 ≠ N + 2 by omega)]
    exact h1.r.a
  rw [← hid]
  exact h2
end Go.Proofs.Ytbhhpijidbhipaa
