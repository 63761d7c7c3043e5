/-
  viewref.Decoded's memory: the cell that is being read, in a box of its own.
-/
import Derived.Test.YtbhhpijidbhipaaWMem
namespace Go.Proofs.Ytbhhpijidbhipaa
open Go.RowKit Go.Sort

def setC (y : Cel) (j : Nat) (v : Int) : Cel :=
  match j with
  | 0 => ((v, y.1.2), y.2)
  | 1 => ((y.1.1, v), y.2)
  | 2 => (y.1, v, y.2.2)
  | 3 => (y.1, y.2.1, v, y.2.2.2)
  | _ => (y.1, y.2.1, y.2.2.1, v)
theorem OwnG.setCell_ne {α : Type} {enc : α → List Value} {k : Nat} {e : TypeId} {w : World} {base : Nat} {v : Value} {l : List α} (h : OwnG enc k e w base v l) {B j : Nat} (hB : v.ownBlock ≠ some B) (u : Value) : OwnG enc k e (w.setCell ⟨B, j, none⟩ u) base v l := by
  obtain ⟨h1, h2⟩ := h
  refine ⟨h1, ?_⟩
  rcases h2 with h2 | ⟨g, cap, cur, hv, hg, hh, r⟩
  · exact Or.inl h2
  · exact Or.inr ⟨g, cap, cur, hv, hg, by rw [Below.heap_setCell _ _ _ _ (by intro e; apply hB; rw [hv]; exact congrArg some e)]; exact hh, r⟩
/-- What lies behind Decoded's own blocks, but for the box B, is as it was. -/
structure Ch (N B : Nat) (w w' : World) : Prop where
  sz : w'.heap.size = w.heap.size
  ownC : ∀ base v l, N + 6 ≤ base → v.ownBlock ≠ some B → OwnC w base v l → OwnC w' base v l
  row : ∀ A l, (∀ a, A = some a → N + 6 ≤ a.block ∧ a.block ≠ B) → Row w A l → Row w' A l
  rowC : ∀ A l, (∀ a, A = some a → N + 6 ≤ a.block ∧ a.block ≠ B) → RowC w A l → RowC w' A l
theorem Ch.refl (N B : Nat) (w : World) : Ch N B w w := ⟨rfl, fun _ _ _ _ _ h => h, fun _ _ _ h => h, fun _ _ _ h => h⟩
theorem Ch.trans {N B : Nat} {a b c : World} (h : Ch N B a b) (k : Ch N B b c) : Ch N B a c :=
  ⟨k.sz.trans h.sz, fun _ _ _ g i o => k.ownC _ _ _ g i (h.ownC _ _ _ g i o), fun _ _ g o => k.row _ _ g (h.row _ _ g o), fun _ _ g o => k.rowC _ _ g (h.rowC _ _ g o)⟩
theorem Kept.ch {N : Nat} {w w' : World} (h : Kept N w w') (B : Nat) : Ch N B w w' :=
  ⟨h.sz, fun _ _ _ g _ o => h.ownC _ _ _ g o, fun _ _ g o => h.row _ _ (fun a e => (g a e).1) o, fun _ _ g o => h.rowC _ _ (fun a e => (g a e).1) o⟩
theorem Ch.set (N B j : Nat) (w : World) (u : Value) : Ch N B w (w.setCell ⟨B, j, none⟩ u) :=
  ⟨by simp, fun _ _ _ _ i o => OwnG.setCell_ne o i u, fun _ _ g r => r.setCell u (fun a e => (g a e).2), fun _ _ g r => RowG.setCell r u (fun a e => (g a e).2)⟩
/-- Decoded's own blocks, and the cell that is being read. -/
structure DecC (w wr : World) (N : Nat) (x : List UInt8) (at_ : Nat) (ok : Bool) (Z P : List Value) (B : Nat) (y : Cel) : Prop where
  d : Dec w wr N x at_ ok Z P
  b : N + 6 ≤ B
  c : CelAt wr B y
  f : ∀ j, wr.frozen? ⟨B, j, none⟩ = false
theorem DecC.new {w wr : World} {N : Nat} {x : List UInt8} {at_ : Nat} {ok : Bool} {Z P : List Value} (h : Dec w wr N x at_ ok Z P) (y : Cel) (T : TypeId) {B : Nat} (hB : wr.heap.size = B) : DecC w (wr.alloc (.cells #[.int .i64 y.1.1, .int .i64 y.1.2, .int .i64 y.2.1, .int .i64 y.2.2.1, .int .i64 y.2.2.2] T)) N x at_ ok Z P B y := by
  subst hB
  exact ⟨h.grow ((Gr.refl _).alloc _), h.sz, CelAt.new y T rfl, fun j => box1f (Gr.refl _) j⟩
theorem DecC.put {w wr : World} {N : Nat} {x : List UInt8} {at_ : Nat} {ok : Bool} {Z P : List Value} {B : Nat} {y : Cel} (h : DecC w wr N x at_ ok Z P B y) {j : Nat} (hj : j < 5) (v : Int) : DecC w (wr.setCell ⟨B, j, none⟩ (.int .i64 v)) N x at_ ok Z P B (setC y j v) := by
  refine ⟨h.d.below ((Below.refl _ _).setCell h.b _), h.b, ?_, fun i => by simp [h.f i]⟩
  have hl : B < (wr.setCell ⟨B, j, none⟩ (.int .i64 v)).heap.size := by simpa using h.c.lt
  have hj5 : j = 0 ∨ j = 1 ∨ j = 2 ∨ j = 3 ∨ j = 4 := by omega
  rcases hj5 with rfl | rfl | rfl | rfl | rfl
  all_goals exact ⟨by rw [cell_set h.c.k0]; rfl, by rw [cell_set h.c.k1]; rfl, by rw [cell_set h.c.k2]; rfl, by rw [cell_set h.c.k3]; rfl, by rw [cell_set h.c.k4]; rfl, hl⟩
theorem DecC.asks {w wr : World} {N : Nat} {x : List UInt8} {at_ : Nat} {ok : Bool} {Z P : List Value} {B : Nat} {y : Cel} (h : DecC w wr N x at_ ok Z P B y) (hx : x.length ≤ maxLen) {n : Int} (hn : nxN (x.drop at_, ok) = n) :
    Calls Try.prog 29 #[.pointer (some ⟨N + 3, 0, none⟩), .pointer (some ⟨N, 0, none⟩), .pointer (some ⟨N + 2, 0, none⟩)] wr fun e w' => e = .returned (.int .i64 n) ∧ ∃ (m : Nat) (q : Bool), Hid ((x.drop m, q) = nxS (x.drop at_, ok)) ∧ DecC w w' N x m q Z P B y ∧ Hid (Ch N B wr w') := by
  refine (h.d.asks hx hn).mono ?_
  rintro e w1 ⟨rfl, m, q, h1, h2, h3⟩
  have k := h3.out
  refine ⟨rfl, m, q, h1, ⟨h2, h.b, ⟨(k.cel _ _ h.b).trans h.c.k0, (k.cel _ _ h.b).trans h.c.k1, (k.cel _ _ h.b).trans h.c.k2, (k.cel _ _ h.b).trans h.c.k3, (k.cel _ _ h.b).trans h.c.k4, by rw [k.sz]; exact h.c.lt⟩, fun j => (k.frz _ _).trans (h.f j)⟩, k.ch B⟩
theorem own_ne {α : Type} {enc : α → List Value} {k : Nat} {e : TypeId} {w : World} {base : Nat} {v : Value} {l : List α} (h : OwnG enc k e w base v l) {B : Nat} (hB : w.heap.size = B) : v.ownBlock ≠ some B := by
  obtain ⟨h1, h2⟩ := h
  rcases h2 with ⟨hv, _⟩ | ⟨g, cap, cur, hv, hg, hh, r⟩
  · rw [hv]; intro e; cases e
  · rw [hv]
    intro e
    have e : some g = some B := e
    injection e with e
    have : g < w.heap.size := by
      by_cases hlt : g < w.heap.size
      · exact hlt
      · rw [Array.getElem?_eq_none (by omega)] at hh; cases hh
    omega
theorem step_append_cel (w : World) {ops : Array Oper} {o : Oper} {a : Act} {K : Act → World → Prop} {Q : Exit → Act → World → Prop} {E : Prop} (hgd : o.guard = none) (s x : Operand)
    (ho : o.op = .call { callee := .builtin .append, args := #[s, x], argTypes := #[26, 26] })
    (base : Nat) (v : Value) (l m : List Cel) (n : Nat) (hn : m.length = n) (A : Option Addr) (cap : Nat) (hs : a.eval s = v) (hx : a.eval x = .slice A n cap) (hown : OwnC w base v l) (hr : RowC w A m) (hA : A = none → cap = 0)
    (hml : l.length + m.length ≤ maxLen) (hb : (l.length + m.length) * 40 ≤ 140737488355328) (hbase : base ≤ w.heap.size)
    (h : ∀ v' w', OwnC w' base v' (l ++ m) → w.grownBy w' v.ownBlock → K (a.put o.dst v') w') :
    if Region.wanted o (yielded ops a.tmps) = true then Oper.wp Try.prog o a w K Q else E := by
  subst hn
  have hw : Region.wanted o (yielded ops a.tmps) = true := by simp [Region.wanted, hgd]
  rw [if_pos hw]
  exact wp_append_g encC_len encC_one (by omega) 26 Try.underlying26 (.agg #[.int .i64 0, .int .i64 0, .int .i64 0, .int .i64 0, .int .i64 0]) 40 Try.infoC rfl w s x ho base v l m A cap hs hx hown hr hA hml hb hbase h
theorem row_past {W wA : World} {A : Option Addr} {l : List (Int × Int)} {H N j : Nat} (hb : ∀ a, A = some a → N + 6 ≤ a.block ∧ a.block < H ∨ l = []) (h : Row W A l) (hA : Below H W wA) (u : Value) : Row (wA.setCell ⟨N + 5, j, none⟩ u) A l := by
  by_cases h0 : l = []
  · exact Or.inl h0
  · refine Row.setCell0 (Row.belowB h (fun a e _ => ?_) hA) _ (fun a e _ => ?_)
    · rcases hb a e with h1 | h1
      · exact h1.2
      · exact absurd h1 h0
    · rcases hb a e with h1 | h1
      · omega
      · exact absurd h1 h0
end Go.Proofs.Ytbhhpijidbhipaa
