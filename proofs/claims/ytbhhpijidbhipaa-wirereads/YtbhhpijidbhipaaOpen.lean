/-
  What is handed in, opened: a slice of dots, a dot, a context.
-/
import Derived.Test.YtbhhpijidbhipaaBase
import Derived.ProofKit
import Derived.OpenShut
import Derived.ChangeOld
import Derived.Deep.SlicePairs
import Derived.Lib.SmallJoins
namespace Go.Proofs.Ytbhhpijidbhipaa
open Go.ChangeShapes Go.WideShapes Go.ChangeAt Go.RowKit Go.Deep

theorem ownK : ownKnob Try.prog.godebug = none := by kernel_rfl
theorem laidAll : laidOutB Try.prog = true := by kernel_rfl


variable {H : Type} {enc : TypeId × Value → H} {W : World}

set_option maxRecDepth 100000 in
theorem open_dots {fuel : Nat} {cs : List Value} {x : DataW H × List MemPlace} (h : DataW.trod enc Try.prog W 0 (fun _ => true) true fuel 23 cs = some x) :
    ∃ A cap l, cs = [.slice A l.length cap] ∧ (A = none → cap = 0) ∧ Row W A l ∧ l.length ≤ maxLen := by
  rcases open_slice_pairs Try.underlying23 Try.underlying51 (by kernel_rfl) rfl rfl (by kernel_rfl) (by kernel_rfl) h with ⟨hcs, _⟩ | ⟨a, len, cap, m, n, V0, V1, D0, D1, P0, P1, hcs, _, hl, hm, hmm, _, hx⟩
  · exact ⟨none, 0, [], hcs, fun _ => rfl, Or.inl rfl, by simp⟩
  · have hlm : len ≤ m := by rw [hmm]; simp; exact hl
    obtain ⟨Z, hZ⟩ := choose_lt (α := Int × Int) (n := len) (p := fun i z => W.cell? (a.add (i * 2)) = some (.int .i64 z.1) ∧ W.cell? (a.add (i * 2 + 1)) = some (.int .i64 z.2)) (fun i hi => by
      obtain ⟨c0, c1, t0, t1⟩ := hx i (by omega)
      obtain ⟨z0, e0, _⟩ := DataW.trod_int Try.underlying3 t0
      obtain ⟨z1, e1, _⟩ := DataW.trod_int Try.underlying3 t1
      simp only [List.cons.injEq, and_true] at e0 e1
      exact ⟨(z0, z1), by rw [c0, e0], by rw [c1, e1]⟩)
    refine ⟨some a, cap, (List.range len).map Z, by rw [hcs]; simp, (fun h => by cases h), ?_, by simp; omega⟩
    by_cases h0 : len = 0
    · exact Or.inl (by rw [h0]; rfl)
    · have hc0 := (hZ 0 (by omega)).1
      obtain ⟨b, off, spot⟩ := a
      have hspot : spot = none := by simpa [Addr.add] using World.cell?_spot hc0
      subst hspot
      refine Or.inr ⟨b, off, rfl, ?_, fun j hj => ?_⟩
      · have := World.block_lt_of_cell? W _ hc0
        simpa [Addr.add_lit] using this
      · have hj' : j < len := by simpa using hj
        have := hZ j hj'
        simp only [Addr.add_lit, ← Nat.add_assoc] at this
        simpa using this

set_option maxRecDepth 100000 in
theorem open_dot {r : Reach} {b0 : Nat} {v : Value} {d : DataW H} {p : List MemPlace} (hv : Value.okWide Try.prog W r b0 51 v) (h : DataW.Trod enc Try.prog W 0 (fun _ => true) true 51 v d p) :
    ∃ x y, v = .agg #[.int .i64 x, .int .i64 y] := by
  obtain ⟨c0, c1, y0, y1, m, rfl, _, _, hy0, hy1⟩ := Go.Joins.open_agg2 Try.underlying51 (by kernel_rfl) (by kernel_rfl) hv h
  obtain ⟨a, e0, _, _⟩ := DataW.trod_int Try.underlying3 hy0
  obtain ⟨b, e1, _, _⟩ := DataW.trod_int Try.underlying3 hy1
  simp at e0 e1
  exact ⟨a, b, by rw [e0, e1]⟩

theorem array5 {cs : Array Value} (h : cs.size = 5) : ∃ a b c d e, cs = #[a, b, c, d, e] := by
  obtain ⟨l⟩ := cs
  match l, h with
  | [a, b, c, d, e], _ => exact ⟨a, b, c, d, e, rfl⟩

set_option maxRecDepth 100000 in
theorem open_ctx {r : Reach} {b0 : Nat} {v : Value} {d : DataW H} {p : List MemPlace} (hv : Value.okWide Try.prog W r b0 25 v) (h : DataW.Trod enc Try.prog W 0 (fun _ => true) true 25 v d p) :
    ∃ (c : Ctx) (A : Option Addr) (cap : Nat), v = .agg #[.int .i64 c.c0, .int .i64 c.c1, .int .i64 c.c2, .int .i64 c.c3, .slice A c.l.length cap] ∧ (A = none → cap = 0) ∧ Row W A c.l ∧ c.l.length ≤ maxLen := by
  obtain ⟨cs, rfl, hsz⟩ := okWide_struct Try.underlying25 hv
  obtain ⟨v0, v1, v2, v3, v4, rfl⟩ := array5 (hsz.trans (by kernel_rfl))
  obtain ⟨fuel, hf⟩ := h
  obtain ⟨y0, y1, n, _, _, t0, t1⟩ := trod_struct2 Try.underlying25 hf
  have c22 : Try.prog.cellsOf 22 = 4 := by kernel_rfl
  have c23 : Try.prog.cellsOf 23 = 1 := by kernel_rfl
  have c3 : Try.prog.cellsOf 3 = 1 := by kernel_rfl
  simp only [Value.cells, c22, c23] at t0 t1
  obtain ⟨A, cap, l, hl, hA, hr, hm⟩ := open_dots t1
  obtain ⟨xs, m, _, _, _, hlen, hi⟩ := DataW.trod_array Try.underlying22 t0
  have each : ∀ (i : Nat) (u : Value), i < 4 → ((([v0, v1, v2, v3, v4] : List Value).drop 0).take 4)[i]? = some u → ∃ z, u = .int .i64 z := by
    intro i u h4 hu
    have ht := hi i h4
    rw [c3] at ht
    obtain ⟨y, hy⟩ : ∃ y, xs[i]? = some y := ⟨xs[i]'(by omega), List.getElem?_eq_getElem (by omega)⟩
    rw [hy] at ht
    obtain ⟨z, e, _⟩ := DataW.trod_int Try.underlying3 ht
    refine ⟨z, ?_⟩
    match i, h4, hu, e with
    | 0, _, hu, e => simp at hu e; rw [← hu, e]
    | 1, _, hu, e => simp at hu e; rw [← hu, e]
    | 2, _, hu, e => simp at hu e; rw [← hu, e]
    | 3, _, hu, e => simp at hu e; rw [← hu, e]
  obtain ⟨z0, rfl⟩ := each 0 v0 (by omega) rfl
  obtain ⟨z1, rfl⟩ := each 1 v1 (by omega) rfl
  obtain ⟨z2, rfl⟩ := each 2 v2 (by omega) rfl
  obtain ⟨z3, rfl⟩ := each 3 v3 (by omega) rfl
  simp at hl
  exact ⟨⟨z0, z1, z2, z3, l⟩, A, cap, by rw [hl], hA, hr, hm⟩

end Go.Proofs.Ytbhhpijidbhipaa
