/-
  Package wire's reader: (*reader).fail, unfold, (*reader).number.
-/
import Derived.Test.YtbhhpijidbhipaaWPack
import Derived.Test.YtbhhpijidbhipaaCBox
import Derived.Laws.BitsAllLaws
namespace Go.Proofs.Ytbhhpijidbhipaa
open Go.RowKit Go.Sort

/-- The reader's block: the text, where it stands, whether something was wrong. -/
structure RdX (w : World) (R : Nat) (x : List UInt8) (at_ : Nat) (bad : Bool) : Prop where
  t : w.cell? ⟨R, 0, none⟩ = some (.string ⟨x.toArray⟩)
  a : w.cell? ⟨R, 1, none⟩ = some (.int .i64 at_)
  b : w.cell? ⟨R, 2, none⟩ = some (.bool bad)
  f : ∀ j, w.frozen? ⟨R, j, none⟩ = false
  lt : R < w.heap.size
  le : at_ ≤ x.length
theorem cell_same {w : World} {b j : Nat} {u : Value} (v : Value) (h : w.cell? ⟨b, j, none⟩ = some u) : (w.setCell ⟨b, j, none⟩ v).cell? ⟨b, j, none⟩ = some v := World.cell?_setCell_same _ _ _ h
theorem cell_off {w : World} {b i j : Nat} {u : Value} (v : Value) (hc : w.cell? ⟨b, j, none⟩ = some u) (h : i ≠ j) : (w.setCell ⟨b, i, none⟩ v).cell? ⟨b, j, none⟩ = some u := by rw [cell_set hc, if_neg (Ne.symm h)]
theorem grown_set (w : World) (b j : Nat) (u : Value) : w.grownBy (w.setCell ⟨b, j, none⟩ u) (some b) := by
  refine ⟨rfl, rfl, rfl, by simp, fun k _ hne => ?_⟩
  exact Below.heap_setCell _ _ _ _ (fun e => hne (by rw [e]))
theorem RdX.setAt {w : World} {R : Nat} {x : List UInt8} {at_ : Nat} {bad : Bool} (h : RdX w R x at_ bad) {m : Nat} (hm : m ≤ x.length) : RdX (w.setCell ⟨R, 1, none⟩ (.int .i64 m)) R x m bad :=
  ⟨cell_off _ h.t (by omega), cell_same _ h.a, cell_off _ h.b (by omega), fun j => by simp [h.f j], by simpa using h.lt, hm⟩
theorem RdX.setBad {w : World} {R : Nat} {x : List UInt8} {at_ : Nat} {bad : Bool} (h : RdX w R x at_ bad) (q : Bool) : RdX (w.setCell ⟨R, 2, none⟩ (.bool q)) R x at_ q :=
  ⟨cell_off _ h.t (by omega), cell_off _ h.a (by omega), cell_same _ h.b, fun j => by simp [h.f j], by simpa using h.lt, h.le⟩
theorem RdX.below {w w' : World} {R : Nat} {x : List UInt8} {at_ : Nat} {bad : Bool} (h : RdX w R x at_ bad) {N : Nat} (k : Below N w w') (hR : R < N) : RdX w' R x at_ bad :=
  ⟨(k.cell (p := ⟨R, 0, none⟩) hR).trans h.t, (k.cell (p := ⟨R, 1, none⟩) hR).trans h.a, (k.cell (p := ⟨R, 2, none⟩) hR).trans h.b, fun j => (k.frozen (p := ⟨R, j, none⟩) hR).trans (h.f j), Nat.lt_of_lt_of_le h.lt k.size, h.le⟩

set_option maxHeartbeats 2000000 in
theorem fail_any (R : Nat) (x : List UInt8) (at_ : Nat) (bad : Bool) (w : World) (h : RdX w R x at_ bad) :
    Calls Try.prog 49 #[.pointer (some ⟨R, 0, none⟩)] w fun e w' => e = .returned (.tuple #[]) ∧ RdX w' R x x.length true ∧ w.grownBy w' (some R) := by
  have h1 := h.setBad true
  have hfin : Hid (RdX ((w.setCell ⟨R, 2, none⟩ (.bool true)).setCell ⟨R, 1, none⟩ (.int .i64 x.length)) R x x.length true ∧ w.grownBy ((w.setCell ⟨R, 2, none⟩ (.bool true)).setCell ⟨R, 1, none⟩ (.int .i64 x.length)) (some R)) := ⟨h1.setAt (Nat.le_refl _), (grown_set _ _ _ _).trans (grown_set _ _ _ _)⟩
  have h0 := h.b
  have hf := h.f 2
  have k1 := h1.t
  have k2 := h1.a
  have k3 := h1.f 1
  clear h h1
  go_enter Try.func49, Try.ntmps49
  go_wp2
  go_end0
  exact ⟨rfl, hfin.out⟩
theorem unfold_any (u : Nat) (w : World) (hu : u < 9223372036854775808) : Calls Try.prog 48 #[.int .u64 u] w fun e w' => e = .returned (.int .i64 (unzig u)) ∧ w' = w := by
  unfold unzig
  by_cases h2 : u % 2 = 1
  · rw [if_pos h2]
    have h2z : (u : Int) % 2 ≠ 0 := by omega
    go_enter Try.func48, Try.ntmps48
    go_wp2
    go_ret
    exact ⟨by go_num, rfl⟩
  · rw [if_neg h2]
    have h2z : (u : Int) % 2 = 0 := by omega
    go_enter Try.func48, Try.ntmps48
    go_wp2
    go_ret
    exact ⟨by go_num, rfl⟩

theorem lebV_snoc : ∀ (l : List UInt8) (c : UInt8), lebV (l ++ [c]) = lebV l + c.toNat % 128 * 128 ^ l.length
  | [], c => by simp [lebV]
  | d :: t, c => by
    rw [List.cons_append, lebV, lebV, lebV_snoc t c, List.length_cons, Nat.pow_succ, Nat.add_mul, Nat.mul_assoc]
    omega
theorem lebV_take {y : List UInt8} {i : Nat} (h : i < y.length) {c : UInt8} (hc : y[i] = c) : lebV (y.take (i + 1)) = lebV (y.take i) + c.toNat % 128 * 128 ^ i := by
  rw [List.take_succ_eq_append_getElem h, lebV_snoc, hc, List.length_take, Nat.min_eq_left (by omega)]
theorem pow7 (i : Nat) : (128 : Nat) ^ i = 2 ^ (7 * i) := by rw [Nat.pow_mul]
theorem or_high {u c i : Nat} (hu : u < 128 ^ i) : u ||| c * 128 ^ i = u + c * 128 ^ i := by
  rw [pow7] at hu ⊢
  have := Nat.shiftLeft_add_eq_or_of_lt hu c
  rw [Nat.shiftLeft_eq] at this
  rw [Nat.or_comm, ← this, Nat.add_comm]
theorem hiN_at : ∀ (n : Nat) (y : List UInt8) (i : Nat), (∀ j (h : j < y.length), j < i → 128 ≤ y[j].toNat) → i ≤ n → i ≤ y.length → hiN n y = i + hiN (n - i) (y.drop i)
  | n, y, 0, _, _, _ => by simp
  | n + 1, c :: t, i + 1, h, hn, hl => by
    have h0 := h 0 (by simp) (by omega)
    have ih := hiN_at n t i (fun j hj hi => by have := h (j + 1) (by simpa using hj) (by omega); simpa using this) (by omega) (by simpa using hl)
    rw [hiN, if_pos (by simpa using h0), ih, List.drop_succ_cons, show n + 1 - (i + 1) = n - i by omega]
    omega
  | n + 1, [], i + 1, _, _, hl => by simp at hl
  | 0, _, i + 1, _, hn, _ => by omega
end Go.Proofs.Ytbhhpijidbhipaa
