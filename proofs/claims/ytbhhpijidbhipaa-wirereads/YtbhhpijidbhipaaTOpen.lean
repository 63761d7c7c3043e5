/-
  What is handed in, opened: a slice of cells, a table.
-/
import Derived.Test.YtbhhpijidbhipaaOpen
import Derived.Test.YtbhhpijidbhipaaTBase
import Derived.SizedLaws
namespace Go.Proofs.Ytbhhpijidbhipaa
open Go.ChangeShapes Go.WideShapes Go.ChangeAt Go.RowKit Go.Deep

variable {H : Type} {enc : TypeId × Value → H} {W : World}

set_option maxRecDepth 100000 in
theorem open_cel {fuel : Nat} {cs : List Value} {x : DataW H × List MemPlace} (hl : cs.length = 5) (h : DataW.trod enc Try.prog W 0 (fun _ => true) true fuel 53 cs = some x) : ∃ y : Cel, cs = encC y := by
  match cs, hl with
  | [v0, v1, v2, v3, v4], _ =>
    obtain ⟨xs, n, _, _, _, hxl, hf⟩ := DataW.trod_struct Try.underlying53 h
    have c2 : Try.prog.cellsOf 51 = 2 := by kernel_rfl
    have c1 : Try.prog.cellsOf 3 = 1 := by kernel_rfl
    have hx4 : xs.length = 4 := hxl
    match xs, hx4 with
    | [y0, y1, y2, y3], _ =>
      have g0 := hf 0 _ rfl
      have g1 := hf 1 _ rfl
      have g2 := hf 2 _ rfl
      have g3 := hf 3 _ rfl
      simp [c1, c2] at g0 g1 g2 g3
      obtain ⟨z2, e2, _⟩ := DataW.trod_int Try.underlying3 g1
      obtain ⟨z3, e3, _⟩ := DataW.trod_int Try.underlying3 g2
      obtain ⟨z4, e4, _⟩ := DataW.trod_int Try.underlying3 g3
      obtain ⟨ys, m, _, _, _, hyl, hd⟩ := DataW.trod_struct Try.underlying51 g0
      have hy2 : ys.length = 2 := hyl
      match ys, hy2 with
      | [u0, u1], _ =>
        have k0 := hd 0 _ rfl
        have k1 := hd 1 _ rfl
        simp [c1] at k0 k1
        obtain ⟨z0, e0, _⟩ := DataW.trod_int Try.underlying3 k0
        obtain ⟨z1, e1, _⟩ := DataW.trod_int Try.underlying3 k1
        simp only [List.cons.injEq, and_true] at e0 e1 e2 e3 e4
        exact ⟨((z0, z1), z2, z3, z4), by rw [e0, e1, e2, e3, e4]; rfl⟩

set_option maxRecDepth 100000 in
theorem open_cels {fuel : Nat} {cs : List Value} {x : DataW H × List MemPlace} (h : DataW.trod enc Try.prog W 0 (fun _ => true) true fuel 26 cs = some x) :
    ∃ A cap l, cs = [.slice A l.length cap] ∧ (A = none → cap = 0) ∧ RowC W A l ∧ l.length ≤ maxLen ∧ ((∀ n ∈ x.1.weights Try.prog 26, n ≤ reachBytes) → l.length * 40 ≤ 140737488355328) := by
  rcases open_slice Try.underlying26 h with ⟨hcs, _⟩ | ⟨a, len, cap, m, n, D, Pl, hcs, _, hl, hm, hmm, hx, hi⟩
  · exact ⟨none, 0, [], hcs, fun _ => rfl, Or.inl rfl, by simp, fun _ => by simp⟩
  · have c5 : Try.prog.cellsOf 53 = 5 := by kernel_rfl
    have b40 : Try.prog.bytesOf 53 = 40 := by kernel_rfl
    have hlm : len ≤ m := by rw [hmm]; simp; exact hl
    obtain ⟨Z, hZ⟩ := choose_lt (α := Cel) (n := len) (p := fun i z => ∀ j, j < 5 → W.cell? (a.add (i * 5 + j)) = (encC z)[j]?) (fun i hi' => by
      obtain ⟨cs', h1, h2⟩ := hi i (by omega)
      rw [c5] at h1
      obtain ⟨_, hlen, hcell⟩ := World.cells?_some h1
      obtain ⟨y, hy⟩ := open_cel hlen h2
      refine ⟨y, fun j hj => ?_⟩
      have := hcell j (by omega)
      rw [add_add] at this
      rw [this, ← hy, List.getElem?_eq_getElem (by omega)])
    refine ⟨some a, cap, (List.range len).map Z, by rw [hcs]; simp, (fun h => by cases h), ?_, by simp; omega, fun hw => ?_⟩
    · by_cases h0 : len = 0
      · exact Or.inl (by rw [h0]; rfl)
      · have hc0 := hZ 0 (by omega) 0 (by omega)
        obtain ⟨b, off, spot⟩ := a
        have hc1 : W.cell? (Addr.add ⟨b, off, spot⟩ (0 * 5 + 0)) = some (.int .i64 (Z 0).1.1) := hc0
        have hspot : spot = none := by simpa [Addr.add] using World.cell?_spot hc1
        subst hspot
        refine Or.inr ⟨b, off, rfl, ?_, fun j hj i hi5 => ?_⟩
        · have := World.block_lt_of_cell? W _ hc1
          simpa [Addr.add_lit] using this
        · have hj' : j < len := by simpa using hj
          have := hZ j hj' i hi5
          simp only [Addr.add_lit, ← Nat.add_assoc] at this
          simpa using this
    · rw [hx] at hw
      have := hw ((((List.range len).map D).length + ((List.range (m - len)).map fun j => D (len + j)).length) * Try.prog.bytesOf 53) (by simp [DataW.weights, Try.underlying26])
      have hb := reachBytes_lt
      rw [b40] at this
      simp only [List.length_map, List.length_range] at this ⊢
      omega

theorem open_ctxc {fuel : Nat} {cs : List Value} {x : DataW H × List MemPlace} (hlen : cs.length = 5) (hf : DataW.trod enc Try.prog W 0 (fun _ => true) true fuel 25 cs = some x) :
    ∃ (c : Ctx) (A : Option Addr) (cap : Nat), cs = [.int .i64 c.c0, .int .i64 c.c1, .int .i64 c.c2, .int .i64 c.c3, .slice A c.l.length cap] ∧ (A = none → cap = 0) ∧ Row W A c.l ∧ c.l.length ≤ maxLen := by
  match cs, hlen with
  | [v0, v1, v2, v3, v4], _ =>
    obtain ⟨y0, y1, n, _, _, t0, t1⟩ := trod_struct2 Try.underlying25 hf
    have c22 : Try.prog.cellsOf 22 = 4 := by kernel_rfl
    have c23 : Try.prog.cellsOf 23 = 1 := by kernel_rfl
    have c3 : Try.prog.cellsOf 3 = 1 := by kernel_rfl
    simp only [c22, c23] at t0 t1
    obtain ⟨A, cap, l, hl, hA, hr, hm⟩ := open_dots t1
    obtain ⟨xs, m, _, _, _, hlen, hi⟩ := DataW.trod_array Try.underlying22 t0
    have each : ∀ (i : Nat) (u : Value), i < 4 → ((([v0, v1, v2, v3, v4] : List Value).drop 0).take 4)[i]? = some u → ∃ z, u = .int .i64 z := by
      intro i u h4 hu
      have ht := hi i h4
      rw [c3] at ht
      obtain ⟨y, hy⟩ : ∃ y, xs[i]? = some y := ⟨xs[i]'(by omega), List.getElem?_eq_getElem (by omega)⟩
      rw [hy] at ht
      obtain ⟨z, e, _⟩ := DataW.trod_int Try.underlying3 ht
      refine ⟨z, ?_⟩
      match i, h4, hu, e with
      | 0, _, hu, e => simp at hu e; rw [← hu, e]
      | 1, _, hu, e => simp at hu e; rw [← hu, e]
      | 2, _, hu, e => simp at hu e; rw [← hu, e]
      | 3, _, hu, e => simp at hu e; rw [← hu, e]
    obtain ⟨z0, rfl⟩ := each 0 v0 (by omega) rfl
    obtain ⟨z1, rfl⟩ := each 1 v1 (by omega) rfl
    obtain ⟨z2, rfl⟩ := each 2 v2 (by omega) rfl
    obtain ⟨z3, rfl⟩ := each 3 v3 (by omega) rfl
    simp at hl
    exact ⟨⟨z0, z1, z2, z3, l⟩, A, cap, by rw [hl], hA, hr, hm⟩

theorem array6 {cs : Array Value} (h : cs.size = 6) : ∃ a b c d e f, cs = #[a, b, c, d, e, f] := by
  obtain ⟨l⟩ := cs
  match l, h with
  | [a, b, c, d, e, f], _ => exact ⟨a, b, c, d, e, f, rfl⟩

set_option maxRecDepth 100000 in
theorem open_table {r : Reach} {b0 : Nat} {v : Value} {d : DataW H} {p : List MemPlace} (hv : Value.okWide Try.prog W r b0 28 v) (h : DataW.Trod enc Try.prog W 0 (fun _ => true) true 28 v d p) :
    ∃ (t : Tab) (A : Option Addr) (ca : Nat) (D : Option Addr) (cd : Nat), v = .agg #[.int .i64 t.c.c0, .int .i64 t.c.c1, .int .i64 t.c.c2, .int .i64 t.c.c3, .slice A t.c.l.length ca, .slice D t.e.length cd] ∧ (A = none → ca = 0) ∧ (D = none → cd = 0) ∧ Row W A t.c.l ∧ RowC W D t.e ∧ t.c.l.length ≤ maxLen ∧ t.e.length ≤ maxLen ∧ ((∀ n ∈ d.weights Try.prog 28, n ≤ reachBytes) → t.e.length * 40 ≤ 140737488355328) := by
  obtain ⟨cs, rfl, hsz⟩ := okWide_struct Try.underlying28 hv
  obtain ⟨v0, v1, v2, v3, v4, v5, rfl⟩ := array6 (hsz.trans (by kernel_rfl))
  obtain ⟨fuel, hf⟩ := h
  obtain ⟨y0, y1, n, hx, _, t0, t1⟩ := trod_struct2 Try.underlying28 hf
  have hd : d = .agg [y0.1, y1.1] := congrArg Prod.fst hx
  have c5 : Try.prog.cellsOf 25 = 5 := by kernel_rfl
  have c1 : Try.prog.cellsOf 26 = 1 := by kernel_rfl
  simp only [Value.cells, c5, c1] at t0 t1
  obtain ⟨c, A, ca, hc, hA, hr, hm⟩ := open_ctxc rfl t0
  obtain ⟨D, cd, l, hl, hD, hrd, hmd, hw⟩ := open_cels t1
  simp at hc hl
  refine ⟨⟨c, l⟩, A, ca, D, cd, by rw [hc.1, hc.2.1, hc.2.2.1, hc.2.2.2.1, hc.2.2.2.2, hl], hA, hD, hr, hrd, hm, hmd, fun hw0 => hw fun n hn => hw0 n ?_⟩
  rw [hd]
  simp only [DataW.weights, Try.underlying28, DataW.weightsEach, List.map_cons, List.mem_append]
  exact Or.inr (Or.inl hn)

end Go.Proofs.Ytbhhpijidbhipaa
