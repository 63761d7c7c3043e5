/-
  What is handed in, opened: a list of acts.
  viewkeep.counted.
  The law NodeViews: behind each act a node's views tell what their queries tell of its tables.
-/
import Derived.Test.YtmoicbmhjmdgdaaGreatM44
import Derived.ChangeMaps5
import Derived.Test.YtmoicbmhjmdgdaaGreatM33
import Derived.Test.YtmoicbmhjmdgdaaGreatM43
import Derived.Test.YtmoicbmhjmdgdaaGreatM19
import Derived.Deep.Cut
import Derived.Deep.CutRange
import Derived.Deep.CutBlock
import Derived.Deep.MidRow
namespace Go.Proofs.YtmoicbmhjmdgdaaGreat
open Go.ChangeShapes Go.WideShapes Go.ChangeAt Go.RowKit Go.Deep

/-- An act: its kind, an edit, a packet of two tables, a query. -/
structure Actm where
 k : Int
 x1 : Int
 x2 : Int
 x3 : Int
 x4 : Int
 x5 : Int
 a : Tab
 A : Option Addr
 ca : Nat
 C : Option Addr
 cc : Nat
 b : Tab
 B : Option Addr
 cb : Nat
 D : Option Addr
 cd : Nat
 q : List Stp
 Q : Option Addr
 cq : Nat
def encA (x : Actm) : List Value := [.int .i64 x.k, .int .i64 x.x1, .int .i64 x.x2, .int .i64 x.x3, .int .i64 x.x4, .int .i64 x.x5, .int .i64 x.a.c.c0, .int .i64 x.a.c.c1, .int .i64 x.a.c.c2, .int .i64 x.a.c.c3, .slice x.A x.a.c.l.length x.ca, .slice x.C x.a.e.length x.cc, .int .i64 x.b.c.c0, .int .i64 x.b.c.c1, .int .i64 x.b.c.c2, .int .i64 x.b.c.c3, .slice x.B x.b.c.l.length x.cb, .slice x.D x.b.e.length x.cd, .slice x.Q x.q.length x.cq]
/-- What an act names, in memory. -/
structure ActIn (w : World) (x : Actm) : Prop where
 ra : Row w x.A x.a.c.l
 rc : RowC w x.C x.a.e
 rb : Row w x.B x.b.c.l
 rd : RowC w x.D x.b.e
 la : x.a.c.l.length ≤ maxLen
 lc : x.a.e.length ≤ maxLen
 lb : x.b.c.l.length ≤ maxLen
 ld : x.b.e.length ≤ maxLen
 na : x.A = none → x.ca = 0
 nc : x.C = none → x.cc = 0
 nb : x.B = none → x.cb = 0
 nd : x.D = none → x.cd = 0
 st : Stps w x.Q x.q
 lq : x.q.length ≤ maxLen
 nq : x.Q = none → x.cq = 0
theorem ActIn.below {w w' : World} {x : Actm} (h : ActIn w x) (k : Below w.heap.size w w') : ActIn w' x := ⟨h.ra.below k, h.rc.below k, h.rb.below k, h.rd.below k, h.la, h.lc, h.lb, h.ld, h.na, h.nc, h.nb, h.nd, h.st.below k, h.lq, h.nq⟩
/-- A list of acts in memory. -/
structure Acts (w : World) (A : Option Addr) (l : List Actm) : Prop where
 row : RowG encA 19 w A l
 each : ∀ x ∈ l, ActIn w x
theorem Acts.below {w w' : World} {A : Option Addr} {l : List Actm} (h : Acts w A l) (k : Below w.heap.size w w') : Acts w' A l := ⟨h.row.below k, fun x hx => (h.each x hx).below k⟩
theorem Acts.at {w : World} {A : Option Addr} {l : List Actm} (h : Acts w A l) {j : Nat} (hj : j < l.length) : ∃ b off, A = some ⟨b, off, none⟩ ∧ b < w.heap.size ∧ ∀ i, i < 19 → w.cell? ⟨b, off + j * 19 + i, none⟩ = (encA l[j])[i]? := by
 obtain ⟨b, off, hA, hb, hc⟩ := h.row.at hj
 exact ⟨b, off, hA, hb, fun i hi => hc j hj i hi⟩

variable {H : Type} {enc : TypeId × Value → H} {W : World}

set_option maxRecDepth 100000 in
theorem open_tabn {fuel : Nat} {v0 v1 v2 v3 v4 v5 : Value} {x : DataW H × List MemPlace} (hf : DataW.trod enc Tryz.prog W 0 (fun _ => true) true fuel 48 [v0, v1, v2, v3, v4, v5] = some x) :
  ∃ (t : Tab) (A : Option Addr) (ca : Nat) (D : Option Addr) (cd : Nat), [v0, v1, v2, v3, v4, v5] = [.int .i64 t.c.c0, .int .i64 t.c.c1, .int .i64 t.c.c2, .int .i64 t.c.c3, .slice A t.c.l.length ca, .slice D t.e.length cd] ∧ Row W A t.c.l ∧ RowC W D t.e ∧ t.c.l.length ≤ maxLen ∧ t.e.length ≤ maxLen ∧ (A = none → ca = 0) ∧ (D = none → cd = 0) := by
 obtain ⟨y0, y1, n, hx, _, t0, t1⟩ := trod_struct2 Tryz.underlying48 hf
 have c5 : Tryz.prog.cellsOf 45 = 5 := by kernel_rfl
 have c1 : Tryz.prog.cellsOf 46 = 1 := by kernel_rfl
 simp only [c5, c1] at t0 t1
 obtain ⟨c, A, ca, hc, hA, hr, hm⟩ := open_ctxc rfl t0
 obtain ⟨D, cd, l, hl, hD, hrd, hmd, _⟩ := open_cels t1
 simp at hc hl
 exact ⟨⟨c, l⟩, A, ca, D, cd, by rw [hc.1, hc.2.1, hc.2.2.1, hc.2.2.2.1, hc.2.2.2.2, hl], hr, hrd, hm, hmd, hA, hD⟩
set_option maxRecDepth 100000 in
theorem open_stepsC {fuel : Nat} {cs : List Value} {x : DataW H × List MemPlace} (h : DataW.trod enc Tryz.prog W 0 (fun _ => true) true fuel 31 cs = some x) :
  ∃ A cap l, cs = [.slice A (l : List Stp).length cap] ∧ (A = none → cap = 0) ∧ Stps W A l ∧ l.length ≤ maxLen := by
 rcases open_slice Tryz.underlying31 h with ⟨hcs, _⟩ | ⟨a, len, cap, m, n, D, Pl, hcs, _, hl, hm, hmm, hx, hi⟩
 ·exact ⟨none, 0, [], hcs, fun _ => rfl, ⟨Or.inl rfl, fun x hx => by cases hx⟩, by simp⟩
 ·have c2 : Tryz.prog.cellsOf 30 = 7 := by kernel_rfl
  have hlm : len ≤ m := by rw [hmm]; simp; exact hl
  haveI : Inhabited Stp := ⟨⟨0, 0, 0, 0, 0, 0, none, 0, []⟩⟩
  obtain ⟨Z, hZ⟩ := choose_lt (α := Stp) (n := len) (p := fun i z => (∀ j, j < 7 → W.cell? (a.add (i * 7 + j)) = (encQ z)[j]?) ∧ RowI W z.p z.l ∧ z.l.length ≤ maxLen ∧ (z.p = none → z.n = 0)) (fun i hi' => by
   obtain ⟨cs', h1, h2⟩ := hi i (by omega)
   rw [c2] at h1
   obtain ⟨_, hlen, hcell⟩ := World.cells?_some h1
   obtain ⟨y, hy, hy2⟩ := open_step hlen h2
   refine ⟨y, fun j hj => ?_, hy2⟩
   have := hcell j (by omega)
   rw [add_add] at this
   rw [this, ← hy, List.getElem?_eq_getElem (by omega)])
  refine ⟨some a, cap, (List.range len).map Z, by rw [hcs]; simp, (fun h => by cases h), ⟨?_, fun x hx => ?_⟩, by simp; omega⟩
  ·by_cases h0 : len = 0
   ·exact Or.inl (by rw [h0]; rfl)
   ·have hc0 := (hZ 0 (by omega)).1 0 (by omega)
    obtain ⟨b, off, spot⟩ := a
    have hc1 : W.cell? (Addr.add ⟨b, off, spot⟩ (0 * 7 + 0)) = some (.int .i64 (Z 0).k) := hc0
    have hspot : spot = none := by simpa [Addr.add] using World.cell?_spot hc1
    subst hspot
    refine Or.inr ⟨b, off, rfl, ?_, fun j hj i hi5 => ?_⟩
    ·have := World.block_lt_of_cell? W _ hc1
     simpa [Addr.add_lit] using this
    ·have hj' : j < len := by simpa using hj
     have := (hZ j hj').1 i hi5
     simp only [Addr.add_lit, ← Nat.add_assoc] at this
     simpa using this
  ·obtain ⟨i, hi', rfl⟩ := List.mem_map.1 hx
   exact (hZ i (by simpa using hi')).2
theorem list19 {cs : List Value} (h : cs.length = 19) : ∃ v0 v1 v2 v3 v4 v5 v6 v7 v8 v9 v10 v11 v12 v13 v14 v15 v16 v17 v18, cs = [v0, v1, v2, v3, v4, v5, v6, v7, v8, v9, v10, v11, v12, v13, v14, v15, v16, v17, v18] := by
 match cs, h with
 | [v0, v1, v2, v3, v4, v5, v6, v7, v8, v9, v10, v11, v12, v13, v14, v15, v16, v17, v18], _ => exact ⟨v0, v1, v2, v3, v4, v5, v6, v7, v8, v9, v10, v11, v12, v13, v14, v15, v16, v17, v18, rfl⟩
set_option maxRecDepth 100000 in
theorem open_edit {fuel : Nat} {v0 v1 v2 v3 v4 : Value} {x : DataW H × List MemPlace} (h : DataW.trod enc Tryz.prog W 0 (fun _ => true) true fuel 34 [v0, v1, v2, v3, v4] = some x) : ∃ z0 z1 z2 z3 z4 : Int, [v0, v1, v2, v3, v4] = [.int .i64 z0, .int .i64 z1, .int .i64 z2, .int .i64 z3, .int .i64 z4] := by
 obtain ⟨xs, n, _, _, _, hxl, hf⟩ := DataW.trod_struct Tryz.underlying34 h
 have c1 : Tryz.prog.cellsOf 3 = 1 := by kernel_rfl
 have hx5 : xs.length = 5 := hxl
 match xs, hx5 with
 | [y0, y1, y2, y3, y4], _ =>
  have g0 := hf 0 _ rfl
  have g1 := hf 1 _ rfl
  have g2 := hf 2 _ rfl
  have g3 := hf 3 _ rfl
  have g4 := hf 4 _ rfl
  simp [c1] at g0 g1 g2 g3 g4
  obtain ⟨z0, e0, _⟩ := DataW.trod_int Tryz.underlying3 g0
  obtain ⟨z1, e1, _⟩ := DataW.trod_int Tryz.underlying3 g1
  obtain ⟨z2, e2, _⟩ := DataW.trod_int Tryz.underlying3 g2
  obtain ⟨z3, e3, _⟩ := DataW.trod_int Tryz.underlying3 g3
  obtain ⟨z4, e4, _⟩ := DataW.trod_int Tryz.underlying3 g4
  simp only [List.cons.injEq, and_true] at e0 e1 e2 e3 e4
  exact ⟨z0, z1, z2, z3, z4, by rw [e0, e1, e2, e3, e4]⟩
set_option maxRecDepth 100000 in
theorem open_act {fuel : Nat} {cs : List Value} {x : DataW H × List MemPlace} (hl : cs.length = 19) (h : DataW.trod enc Tryz.prog W 0 (fun _ => true) true fuel 53 cs = some x) : ∃ y : Actm, cs = encA y ∧ ActIn W y := by
 obtain ⟨v0, v1, v2, v3, v4, v5, v6, v7, v8, v9, v10, v11, v12, v13, v14, v15, v16, v17, v18, rfl⟩ := list19 hl
 obtain ⟨xs, n, _, _, _, hxl, hf⟩ := DataW.trod_struct Tryz.underlying53 h
 have c1 : Tryz.prog.cellsOf 3 = 1 := by kernel_rfl
 have c5 : Tryz.prog.cellsOf 34 = 5 := by kernel_rfl
 have c12 : Tryz.prog.cellsOf 51 = 12 := by kernel_rfl
 have cq : Tryz.prog.cellsOf 31 = 1 := by kernel_rfl
 have c6 : Tryz.prog.cellsOf 48 = 6 := by kernel_rfl
 have hx4 : xs.length = 4 := hxl
 match xs, hx4 with
 | [y0, y1, y2, y3], _ =>
  have g0 := hf 0 _ rfl
  have g1 := hf 1 _ rfl
  have g2 := hf 2 _ rfl
  have g3 := hf 3 _ rfl
  simp [c1, c5, c12, cq] at g0 g1 g2 g3
  obtain ⟨k, e0, _⟩ := DataW.trod_int Tryz.underlying3 g0
  obtain ⟨x1, x2, x3, x4, x5, e1⟩ := open_edit g1
  obtain ⟨Q, cq', q, e3, hQ, hst, hql⟩ := open_stepsC g3
  obtain ⟨zs, m, _, _, _, hzl, hfd⟩ := DataW.trod_struct Tryz.underlying51 g2
  have hz1 : zs.length = 1 := hzl
  match zs, hz1 with
  | [z0], _ =>
   have p0 := hfd 0 _ rfl
   obtain ⟨ys, m2, _, _, _, hyl, hi⟩ := DataW.trod_array Tryz.underlying49 p0
   have hy2 : ys.length = 2 := hyl
   match ys, hy2 with
   | [u0, u1], _ =>
    have t0 := hi 0 (by omega)
    have t1 := hi 1 (by omega)
    rw [c6] at t0 t1
    obtain ⟨a, A, ca, C, cc, ea, h1, h2, h3, h4, h5, h6⟩ := open_tabn t0
    obtain ⟨b, B, cb, D, cd, eb, k1, k2, k3, k4, k5, k6⟩ := open_tabn t1
    simp only [List.cons.injEq, and_true] at e0 e1 e3 ea eb
    obtain ⟨rfl, rfl, rfl, rfl, rfl⟩ := e1
    obtain ⟨rfl, rfl, rfl, rfl, rfl, rfl⟩ := ea
    obtain ⟨rfl, rfl, rfl, rfl, rfl, rfl⟩ := eb
    exact ⟨⟨k, x1, x2, x3, x4, x5, a, A, ca, C, cc, b, B, cb, D, cd, q, Q, cq'⟩, by rw [e0, e3]; rfl, ⟨h1, h2, k1, k2, h3, h4, k3, k4, h5, h6, k5, k6, hst, hql, hQ⟩⟩
set_option maxRecDepth 100000 in
theorem open_acts {r : Reach} {b0 : Nat} {v : Value} {d : DataW H} {p : List MemPlace} (hv : Value.okWide Tryz.prog W r b0 22 v) (h : DataW.Trod enc Tryz.prog W 0 (fun _ => true) true 22 v d p) :
  ∃ A cap l, v = .slice A (l : List Actm).length cap ∧ Acts W A l ∧ l.length ≤ maxLen := by
 obtain ⟨aL, lenL, capL, rfl⟩ := okWide_slice Tryz.underlying22 hv
 obtain ⟨fuel, hf⟩ := h
 rcases open_slice Tryz.underlying22 hf with ⟨hcs, _⟩ | ⟨a, len, cap, m, n, D, Pl, hcs, _, hl, hm, hmm, hx, hi⟩
 ·simp [Value.cells] at hcs
  obtain ⟨rfl, rfl, rfl⟩ := hcs
  exact ⟨none, 0, [], rfl, ⟨Or.inl rfl, fun x hx => by cases hx⟩, by simp⟩
 ·simp [Value.cells] at hcs
  obtain ⟨rfl, rfl, rfl⟩ := hcs
  have c19 : Tryz.prog.cellsOf 53 = 19 := by kernel_rfl
  have hlm : lenL ≤ m := by rw [hmm]; simp; exact hl
  haveI : Inhabited Actm := ⟨⟨0, 0, 0, 0, 0, 0, ⟨⟨0, 0, 0, 0, []⟩, []⟩, none, 0, none, 0, ⟨⟨0, 0, 0, 0, []⟩, []⟩, none, 0, none, 0, [], none, 0⟩⟩
  obtain ⟨Z, hZ⟩ := choose_lt (α := Actm) (n := lenL) (p := fun i z => (∀ j, j < 19 → W.cell? (a.add (i * 19 + j)) = (encA z)[j]?) ∧ ActIn W z) (fun i hi' => by
   obtain ⟨cs', h1, h2⟩ := hi i (by omega)
   rw [c19] at h1
   obtain ⟨_, hlen, hcell⟩ := World.cells?_some h1
   obtain ⟨y, hy, hy2⟩ := open_act hlen h2
   refine ⟨y, fun j hj => ?_, hy2⟩
   have := hcell j (by omega)
   rw [add_add] at this
   rw [this, ← hy, List.getElem?_eq_getElem (by omega)])
  refine ⟨some a, capL, (List.range lenL).map Z, by simp, ⟨?_, fun x hx => ?_⟩, by simp; omega⟩
  ·by_cases h0 : lenL = 0
   ·exact Or.inl (by rw [h0]; rfl)
   ·have hc0 := (hZ 0 (by omega)).1 0 (by omega)
    obtain ⟨b, off, spot⟩ := a
    have hc1 : W.cell? (Addr.add ⟨b, off, spot⟩ (0 * 19 + 0)) = some (.int .i64 (Z 0).k) := hc0
    have hspot : spot = none := by simpa [Addr.add] using World.cell?_spot hc1
    subst hspot
    refine Or.inr ⟨b, off, rfl, ?_, fun j hj i hi5 => ?_⟩
    ·have := World.block_lt_of_cell? W _ hc1
     simpa [Addr.add_lit] using this
    ·have hj' : j < lenL := by simpa using hj
     have := (hZ j hj').1 i hi5
     simp only [Addr.add_lit, ← Nat.add_assoc] at this
     simpa using this
  ·obtain ⟨i, hi', rfl⟩ := List.mem_map.1 hx
   exact (hZ i (by simpa using hi')).2
end Go.Proofs.YtmoicbmhjmdgdaaGreat

namespace Go.Proofs.YtmoicbmhjmdgdaaGreat
open Go.RowKit Go.Sort Go.Maps

theorem row_lit {α : Type} {enc : α → List Value} {k : Nat} (hk : ∀ x, (enc x).length = k) {W W' : World} {n : Nat} (hn : W.heap.size = n) {cs : Array Value} {T : TypeId} (hg : Gr (W.alloc (.cells cs T)) W') {l : List α} (h : flatG enc l = cs.toList) : RowG enc k W' (some ⟨n, 0, none⟩) l := by
 subst hn
 refine Or.inr ⟨W.heap.size, 0, rfl, Nat.lt_of_lt_of_le (by simp) hg.size, fun j hj i hi => ?_⟩
 have h1 := flatG_get hk l j hj i hi
 have hin : i < (enc l[j]).length := by rw [hk]; exact hi
 rw [List.getElem?_eq_getElem hin] at h1 ⊢
 rw [h, Array.getElem?_toList] at h1
 have := box1 (w := W) hg (j := j * k + i) h1
 rw [show 0 + j * k + i = j * k + i by omega]
 exact this
end Go.Proofs.YtmoicbmhjmdgdaaGreat

namespace Go.Proofs.YtmoicbmhjmdgdaaGreat
open Go.RowKit Go.Sort Go.Maps

/-- A node in memory, wherever what it keeps lies, but not in the block of v. -/
def Nx (w : World) (N : Nat) (id : Int) (s t : Tab) (qs : List (List Stp)) (v : Value) : Prop := ∃ P, Nd w N P id s t qs ∧ ∀ g, v.ownBlock = some g → ¬ P g
theorem Nx.below {w w' : World} {N : Nat} {id : Int} {s t : Tab} {qs : List (List Stp)} {v : Value} (h : Nx w N id s t qs v) (k : Below w.heap.size w w') : Nx w' N id s t qs v := by
 obtain ⟨P, h, hv⟩ := h
 exact ⟨P, h.below k, hv⟩
theorem Nx.lt {w : World} {N : Nat} {id : Int} {s t : Tab} {qs : List (List Stp)} {v : Value} (h : Nx w N id s t qs v) : N < w.heap.size := by
 obtain ⟨P, h, _⟩ := h
 exact h.blk.lt
theorem Nx.le {w : World} {N : Nat} {id : Int} {s t : Tab} {qs : List (List Stp)} {v : Value} (h : Nx w N id s t qs v) : qs.length ≤ 4 := by
 obtain ⟨P, h, _⟩ := h
 exact h.le
theorem Nx.ok {w : World} {N : Nat} {id : Int} {s t : Tab} {qs : List (List Stp)} {v : Value} (h : Nx w N id s t qs v) : errT s = 0 ∧ errT t = 0 := by
 obtain ⟨P, h, _⟩ := h
 exact ⟨h.ts.ok, h.tt.ok⟩
/-- What comes anew isn't in that block. -/
theorem apart_plus {P : Nat → Prop} {v : Value} {m n : Nat} (h : ∀ g, v.ownBlock = some g → ¬ P g) (hv : ∀ g, v.ownBlock = some g → g < m) : ∀ g, v.ownBlock = some g → ¬ plusP P m n g := fun g hg k => k.elim (h g hg) fun k => by have := hv g hg; omega
theorem ob_none : ∀ g, (Value.slice none 0 0).ownBlock = some g → False := fun g h => by cases h
theorem Wr.bel {V lo hi B : Nat} {w w' : World} (h : Wr V lo hi w w') (hB : B ≤ V) (hV : V < w.heap.size) : Below B w w' := ⟨h.os, h.tape, h.output, h.size, fun g hg => h.oth g (by omega) (by omega)⟩
section
variable {w : World} {N : Nat} {id : Int} {s t : Tab} {qs : List (List Stp)} {v : Value}
theorem doX (h : Nx w N id s t qs v) (hv : ∀ g, v.ownBlock = some g → g < w.heap.size) (k x2 x3 x4 x5 : Int) : Calls Tryz.prog 6 #[.pointer (some ⟨N, 0, none⟩), .agg #[.int .i64 k, .int .i64 x2, .int .i64 x3, .int .i64 x4, .int .i64 x5]] w fun e w' => e = .returned (.int .i64 (ndE s t id k x2 x3 x4 x5)) ∧ Nx w' N id (ndS s id k x2 x3 x4 x5) (ndT t id k x2 x3 x4 x5) qs v ∧ Wr N 0 38 w w' := by
 obtain ⟨P, h, hp⟩ := h
 refine (do_any h k x2 x3 x4 x5).mono ?_
 rintro e w' ⟨rfl, f1, f2⟩
 exact ⟨rfl, ⟨_, f1, apart_plus hp hv⟩, f2.mono (by omega) (by omega)⟩
theorem takeX (h : Nx w N id s t qs v) (hv : ∀ g, v.ownBlock = some g → g < w.heap.size) (a b : Tab) (PA PB PC PD : Option Addr) (pca pcb pcc pcd : Nat) (ra : Row w PA a.c.l) (rc : RowC w PC a.e) (rb : Row w PB b.c.l) (rd : RowC w PD b.e) (la : a.c.l.length ≤ maxLen) (lc : a.e.length ≤ maxLen) (lb : b.c.l.length ≤ maxLen) (ld : b.e.length ≤ maxLen) (na : PA = none → pca = 0) (nb : PB = none → pcb = 0) :
  Calls Tryz.prog 9 #[.pointer (some ⟨N, 0, none⟩), .agg #[.int .i64 a.c.c0, .int .i64 a.c.c1, .int .i64 a.c.c2, .int .i64 a.c.c3, .slice PA a.c.l.length pca, .slice PC a.e.length pcc, .int .i64 b.c.c0, .int .i64 b.c.c1, .int .i64 b.c.c2, .int .i64 b.c.c3, .slice PB b.c.l.length pcb, .slice PD b.e.length pcd]] w fun e w' => e = .returned (.int .i64 (tkE s t a b)) ∧ Nx w' N id (tkS s t a b) (tkT s t a b) qs v ∧ Wr N 0 38 w w' := by
 obtain ⟨P, h, hp⟩ := h
 refine (take_any h a b PA PB PC PD pca pcb pcc pcd ra rc rb rd la lc lb ld na nb).mono ?_
 rintro e w' ⟨rfl, f1, f2⟩
 exact ⟨rfl, ⟨_, f1, apart_plus hp hv⟩, f2.mono (by omega) (by omega)⟩
theorem watchX (h : Nx w N id s t qs v) (hv : ∀ g, v.ownBlock = some g → g < w.heap.size) (q : List Stp) (QA : Option Addr) (cq : Nat) (hl : q.length ≤ maxLen) (hq : Stps w QA q) :
  Calls Tryz.prog 5 #[.pointer (some ⟨N, 0, none⟩), .slice QA q.length cq] w fun e w' => e = .returned (.int .i64 (wtE q qs)) ∧ Nx w' N id s t (wtQ q qs) v ∧ Wr N 0 38 w w' := by
 obtain ⟨P, h, hp⟩ := h
 refine (watch_any h q QA cq hl hq).mono ?_
 rintro e w' ⟨rfl, f1, f2⟩
 exact ⟨rfl, ⟨_, f1, apart_plus hp hv⟩, f2.mono (by omega) (by omega)⟩
theorem viewX (h : Nx w N id s t qs v) {j : Nat} (hj : j < qs.length) :
  Calls Tryz.prog 7 #[.pointer (some ⟨N, 0, none⟩), .int .i64 j] w fun e w' => ∃ (L : List Itm) (C : Option Addr) (k : Nat), e = .returned (.tuple #[.slice C L.length k, .int .i64 (plnE qs[j] (ofR s) (ofR t))]) ∧ L.map Itm.z = evlF qs[j] (ofR s) (ofR t) ∧ Lv w' C k L ∧ Below w.heap.size w w' := by
 obtain ⟨P, h, _⟩ := h
 refine (view_any h hj).mono ?_
 rintro e w' ⟨L, C, k, rfl, f1, f2, f3, _⟩
 exact ⟨L, C, k, rfl, f1, f2, f3⟩
theorem wholeX (h : Nx w N id s t qs v) :
  Calls Tryz.prog 10 #[.pointer (some ⟨N, 0, none⟩)] w fun e w' => ∃ (EA : Option Addr) (eca : Nat) (EC : Option Addr) (ecc : Nat) (EB : Option Addr) (ecb : Nat) (ED : Option Addr) (ecd : Nat), e = .returned (.agg #[.int .i64 s.c.c0, .int .i64 s.c.c1, .int .i64 s.c.c2, .int .i64 s.c.c3, .slice EA s.c.l.length eca, .slice EC s.e.length ecc, .int .i64 t.c.c0, .int .i64 t.c.c1, .int .i64 t.c.c2, .int .i64 t.c.c3, .slice EB t.c.l.length ecb, .slice ED t.e.length ecd]) ∧ (Row w' EA s.c.l ∧ RowC w' EC s.e ∧ Row w' EB t.c.l ∧ RowC w' ED t.e) ∧ Below w.heap.size w w' := by
 obtain ⟨P, h, _⟩ := h
 refine (whole_any h).mono ?_
 rintro e w' ⟨EA, eca, EC, ecc, EB, ecb, ED, ecd, rfl, ⟨f1, f2⟩, ⟨f3, f4⟩, f5⟩
 obtain ⟨A1, c1, e1, _, r1, _⟩ := f1.row
 obtain ⟨A2, c2, e2, _, r2, _⟩ := OwnG.row encC_len f2
 obtain ⟨A3, c3, e3, _, r3, _⟩ := f3.row
 obtain ⟨A4, c4, e4, _, r4, _⟩ := OwnG.row encC_len f4
 injection e1 with e1
 injection e2 with e2
 injection e3 with e3
 injection e4 with e4
 subst e1 e2 e3 e4
 exact ⟨EA, eca, EC, ecc, EB, ecb, ED, ecd, rfl, ⟨r1, r2, r3, r4⟩, f5⟩
theorem viewsX (h : Nx w N id s t qs v) : Calls Tryz.prog 12 #[.pointer (some ⟨N, 0, none⟩)] w fun e w' => e = .returned (.int .i64 (qs.length : Int)) ∧ w' = w := by
 obtain ⟨P, h, _⟩ := h
 exact views_any h
end
/-- A query as it lies in a list. -/
structure Qs where
 p : Option Addr
 c : Nat
 q : List Stp
def encU (x : Qs) : List Value := [.slice x.p x.q.length x.c]
theorem encU_len (x : Qs) : (encU x).length = 1 := rfl
theorem encU_one (x : Qs) : ∀ u ∈ encU x, u.oneCell' = true := by
 intro u hu
 simp [encU] at hu
 rw [hu]; rfl
theorem Tryz.infoU : (Tryz.prog.info? 31).map (fun i => (i.zero, i.size, i.bytes)) = some (some (.slice none 0 0), 1, 24) := by kernel_rfl
theorem wpList_append_u (w : World) {ops : Array Oper} {rest : List Oper} {o : Oper} {a : Act} {Q : Exit → Act → World → Prop} (hgd : o.guard = none) (s z : Operand)
  (ho : o.op = .call { callee := .builtin .append, args := #[s, z], argTypes := #[41, 41] })
  (base : Nat) (v : Value) (l : List Qs) (x : Qs) (A : Addr) (cap : Nat) (hs : a.eval s = v) (hz : a.eval z = .slice (some A) 1 cap) (hown : OwnG encU 1 31 w base v l) (hr : RowG encU 1 w (some A) [x])
  (hml : l.length + 1 ≤ maxLen) (hb : (l.length + 1) * 24 ≤ 140737488355328) (hbase : base ≤ w.heap.size)
  (h : ∀ v' w', OwnG encU 1 31 w' base v' (l ++ [x]) → w.grownBy w' v.ownBlock → (v'.ownBlock = v.ownBlock ∨ v'.ownBlock = some w.heap.size) → wpList Tryz.prog ops Q rest (a.put o.dst v') w') : wpList Tryz.prog ops Q (o :: rest) a w :=
 wpList_plain hgd fun _ hK => by
  obtain ⟨i0, hi, hz0, hz1, hz2⟩ := info_parts Tryz.infoU
  obtain ⟨v', w', g1, g2, g3, _, g5⟩ := run_append_own_at (P := Tryz.prog) w base 41 o.type 31 i0 (.slice none 0 0) 1 24 Tryz.underlying41 hi hz0 hz1 hz2 rfl (by omega) v l.length (flatG encU l) hown A 1 cap (flatG encU [x]) (flatG_length encU_len [x]) (hr.cells encU_len (by omega)) (fun u hu => flatG_one encU_one u [x] hu) hml hb hbase
  have h2 : OwnG encU 1 31 w' base v' (l ++ [x]) := by
   show w'.ownsRow base _ 1 v' (l ++ [x]).length (flatG encU (l ++ [x]))
   rw [List.length_append, flatG_append]
   exact g2
  unfold Oper.wp execOp
  simp only [ho, resolve, invoke, builtin, Sem.run_bind, Sem.run_pure, Result.andThen_ok, List.map_toArray, List.map_cons, List.map_nil, hs, hz, g1]
  exact hK _ _ (h v' w' h2 g3 g5)
theorem fieldP (a b c d e f g h i j k l : Value) (w : World) : (Instr.field 51 (.agg #[a, b, c, d, e, f, g, h, i, j, k, l]) 0).run Tryz.prog w = .ok (.agg #[a, b, c, d, e, f, g, h, i, j, k, l]) w := by kernel_rfl
theorem alloc_sets (T : TypeId) (w : World) : ∀ (l pre z : List Value), z.length = l.length → (w.alloc (.cells (pre ++ z).toArray T)).setCells w.heap.size pre.length l = w.alloc (.cells (pre ++ l).toArray T)
 | [], pre, z, h => by
  obtain rfl : z = [] := List.eq_nil_of_length_eq_zero h
  rfl
 | v :: l, pre, [], h => by cases h
 | v :: l, pre, u :: z, h => by
  have h1 : (w.alloc (.cells (pre ++ u :: z).toArray T)).setCell ⟨w.heap.size, pre.length, none⟩ v = w.alloc (.cells ((pre ++ [v]) ++ z).toArray T) := by
   rw [World.setCell_alloc_new]
   simp
  rw [World.setCells, h1]
  have h2 := alloc_sets T w l (pre ++ [v]) z (by simpa using h)
  rw [List.length_append, List.length_singleton] at h2
  rw [h2]
  simp
theorem encA_one (x : Actm) : ∀ u ∈ encA x, u.oneCell' = true := by
 intro u hu
 simp only [encA, List.mem_cons, List.not_mem_nil, or_false] at hu
 rcases hu with h | h | h | h | h | h | h | h | h | h | h | h | h | h | h | h | h | h | h <;> rw [h] <;> rfl
/-- What is carried from act to act. -/
structure Inv (w wr : World) (N base : Nat) (v : Value) (s t : Tab) (Q : List Qs) : Prop where
 nd : Nx wr N 1 s t (Q.map Qs.q) v
 own : OwnG encU 1 31 wr base v Q
 each : ∀ x ∈ Q, StP (fun b => b ≠ N ∧ b < base) wr x.p x.q ∧ x.q.length ≤ maxLen
 bel : Below w.heap.size w wr
 lo : N < base
 hi : base ≤ wr.heap.size
theorem Inv.below {w wr w' : World} {N base : Nat} {v : Value} {s t : Tab} {Q : List Qs} (h : Inv w wr N base v s t Q) (k : Below wr.heap.size wr w') : Inv w w' N base v s t Q :=
 ⟨h.nd.below k, OwnG.below h.own k, fun x hx => ⟨(h.each x hx).1.below k, (h.each x hx).2⟩, h.bel.trans (k.mono h.bel.size), h.lo, Nat.le_trans h.hi k.size⟩
theorem Inv.wrote {w wr w' : World} {N base : Nat} {v : Value} {s t s' t' : Tab} {Q : List Qs} (h : Inv w wr N base v s t Q) (hN : w.heap.size ≤ N) (k : Wr N 0 38 wr w') (hn : Nx w' N 1 s' t' (Q.map Qs.q) v) : Inv w w' N base v s' t' Q :=
 ⟨hn, own_agr h.own (k.agr fun h' => by have := h.lo; omega), fun x hx => ⟨(h.each x hx).1.agr (k.agr fun h' => h'.1 rfl), (h.each x hx).2⟩, h.bel.trans (k.bel hN h.nd.lt), h.lo, Nat.le_trans h.hi k.size⟩
theorem Inv.ob {w wr : World} {N base : Nat} {v : Value} {s t : Tab} {Q : List Qs} (h : Inv w wr N base v s t Q) : ∀ g, v.ownBlock = some g → g < wr.heap.size := fun g hg => (World.ownsRow.lt h.own g hg).2
/-- One more query is laid behind the others. -/
theorem Inv.more {w wd wa w8 : World} {N base : Nat} {v v8 : Value} {s t : Tab} {Q : List Qs} {x : Qs} (hn : Nx wd N 1 s t ((Q ++ [x]).map Qs.q) v) (hown : OwnG encU 1 31 wa base v Q) (heach : ∀ y ∈ Q, StP (fun b => b ≠ N ∧ b < base) wd y.p y.q ∧ y.q.length ≤ maxLen) (hx : StP (fun b => b ≠ N ∧ b < base) wd x.p x.q ∧ x.q.length ≤ maxLen) (hbel : Below w.heap.size w wd) (hlo : N < base) (hhi : base ≤ wd.heap.size) (hwb : w.heap.size ≤ base) (hg : Gr wd wa) (hown8 : OwnG encU 1 31 w8 base v8 (Q ++ [x])) (hg8 : wa.grownBy w8 v.ownBlock) (hob : v8.ownBlock = v.ownBlock ∨ v8.ownBlock = some wa.heap.size) : Inv w w8 N base v8 s t (Q ++ [x]) := by
 have hbb : Below base wa w8 := OwnG.grown_below hown hg8 (Nat.le_trans hhi hg.size)
 have hb8 : Below base wd w8 := (hg.below.mono hhi).trans hbb
 have hA : Agr (fun b => b ≠ N ∧ b < base) wd w8 := ⟨hb8.size, fun b hb _ => hb8.block b hb.2⟩
 obtain ⟨P, hP, hv⟩ := hn
 refine ⟨⟨P, hP.keep (hb8.block N hlo) ⟨hb8.size, fun b hb hl => ?_⟩, fun g hg8' hp => ?_⟩, hown8, fun y hy => ?_, hbel.trans (hb8.mono hwb), hlo, Nat.le_trans hhi hb8.size⟩
 ·rw [hg8.block b (Nat.lt_of_lt_of_le hl hg.size) fun e => hv b e.symm hb]
  exact hg.below.block b hl
 ·rcases hob with e | e
  ·exact hv g (by rw [← e]; exact hg8') hp
  ·rw [e] at hg8'
   injection hg8' with hg8'
   have := hP.up g hp
   have := hg.size
   omega
 ·rcases List.mem_append.1 hy with k | k
  ·exact ⟨(heach y k).1.agr hA, (heach y k).2⟩
  ·rw [List.mem_singleton.1 k]
   exact ⟨hx.1.agr hA, hx.2⟩
end Go.Proofs.YtmoicbmhjmdgdaaGreat
