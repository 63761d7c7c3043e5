/-
  What is handed in, opened: a packet.
-/
import Derived.Test.YtbhhpijidbhipaaTOpen
import Derived.ChangeMaps5
namespace Go.Proofs.Ytbhhpijidbhipaa
open Go.ChangeShapes Go.WideShapes Go.ChangeAt Go.RowKit Go.Deep

variable {H : Type} {enc : TypeId × Value → H} {W : World}

set_option maxRecDepth 100000 in
theorem open_tabc {fuel : Nat} {v0 v1 v2 v3 v4 v5 : Value} {x : DataW H × List MemPlace} (hf : DataW.trod enc Try.prog W 0 (fun _ => true) true fuel 28 [v0, v1, v2, v3, v4, v5] = some x) :
    ∃ (t : Tab) (A : Option Addr) (ca : Nat) (D : Option Addr) (cd : Nat), [v0, v1, v2, v3, v4, v5] = [.int .i64 t.c.c0, .int .i64 t.c.c1, .int .i64 t.c.c2, .int .i64 t.c.c3, .slice A t.c.l.length ca, .slice D t.e.length cd] ∧ Row W A t.c.l ∧ RowC W D t.e ∧ t.c.l.length ≤ maxLen ∧ t.e.length ≤ maxLen := by
  obtain ⟨y0, y1, n, hx, _, t0, t1⟩ := trod_struct2 Try.underlying28 hf
  have c5 : Try.prog.cellsOf 25 = 5 := by kernel_rfl
  have c1 : Try.prog.cellsOf 26 = 1 := by kernel_rfl
  simp only [c5, c1] at t0 t1
  obtain ⟨c, A, ca, hc, hA, hr, hm⟩ := open_ctxc rfl t0
  obtain ⟨D, cd, l, hl, hD, hrd, hmd, _⟩ := open_cels t1
  simp at hc hl
  exact ⟨⟨c, l⟩, A, ca, D, cd, by rw [hc.1, hc.2.1, hc.2.2.1, hc.2.2.2.1, hc.2.2.2.2, hl], hr, hrd, hm, hmd⟩
theorem array12 {cs : Array Value} (h : cs.size = 12) : ∃ a b c d e f g i j k l m, cs = #[a, b, c, d, e, f, g, i, j, k, l, m] := by
  obtain ⟨l⟩ := cs
  match l, h with
  | [a, b, c, d, e, f, g, i, j, k, l, m], _ => exact ⟨a, b, c, d, e, f, g, i, j, k, l, m, rfl⟩

set_option maxRecDepth 100000 in
theorem open_packet {r : Reach} {b0 : Nat} {v : Value} {d : DataW H} {p : List MemPlace} (hv : Value.okWide Try.prog W r b0 31 v) (h : DataW.Trod enc Try.prog W 0 (fun _ => true) true 31 v d p) :
    ∃ (a b : Tab) (A : Option Addr) (ca : Nat) (C : Option Addr) (cc : Nat) (B : Option Addr) (cb : Nat) (D : Option Addr) (cd : Nat), v = .agg #[.int .i64 a.c.c0, .int .i64 a.c.c1, .int .i64 a.c.c2, .int .i64 a.c.c3, .slice A a.c.l.length ca, .slice C a.e.length cc, .int .i64 b.c.c0, .int .i64 b.c.c1, .int .i64 b.c.c2, .int .i64 b.c.c3, .slice B b.c.l.length cb, .slice D b.e.length cd] ∧ Row W A a.c.l ∧ RowC W C a.e ∧ Row W B b.c.l ∧ RowC W D b.e ∧ a.c.l.length ≤ maxLen ∧ a.e.length ≤ maxLen ∧ b.c.l.length ≤ maxLen ∧ b.e.length ≤ maxLen := by
  obtain ⟨cs, rfl, hsz⟩ := okWide_struct Try.underlying31 hv
  obtain ⟨v0, v1, v2, v3, v4, v5, v6, v7, v8, v9, v10, v11, rfl⟩ := array12 (hsz.trans (by kernel_rfl))
  obtain ⟨fuel, hf⟩ := h
  obtain ⟨xs, n, _, _, _, hxl, hfd⟩ := DataW.trod_struct Try.underlying31 hf
  have c6 : Try.prog.cellsOf 28 = 6 := by kernel_rfl
  have hx1 : xs.length = 1 := hxl
  match xs, hx1 with
  | [y0], _ =>
    have g0 := hfd 0 _ rfl
    simp only [Value.cells] at g0
    obtain ⟨ys, m, _, _, _, hyl, hi⟩ := DataW.trod_array Try.underlying29 g0
    have hy2 : ys.length = 2 := hyl
    match ys, hy2 with
    | [z0, z1], _ =>
      have t0 := hi 0 (by omega)
      have t1 := hi 1 (by omega)
      rw [c6] at t0 t1
      obtain ⟨a, A, ca, C, cc, ea, h1, h2, h3, h4⟩ := open_tabc t0
      obtain ⟨b, B, cb, D, cd, eb, k1, k2, k3, k4⟩ := open_tabc t1
      simp only [List.cons.injEq, and_true] at ea eb
      obtain ⟨rfl, rfl, rfl, rfl, rfl, rfl⟩ := ea
      obtain ⟨rfl, rfl, rfl, rfl, rfl, rfl⟩ := eb
      exact ⟨a, b, A, ca, C, cc, B, cb, D, cd, rfl, h1, h2, k1, k2, h3, h4, k3, k4⟩
end Go.Proofs.Ytbhhpijidbhipaa
