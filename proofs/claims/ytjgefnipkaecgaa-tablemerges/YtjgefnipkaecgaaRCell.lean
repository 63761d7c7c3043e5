/-
  viewref.cell: the cell of a table that has a dot.
-/
import Derived.Test.YtjgefnipkaecgaaTSearch
import Derived.Test.YtjgefnipkaecgaaTDel
namespace Go.Proofs.Ytjgefnipkaecgaa
open Go.RowKit Go.Sort

/-- A cell, in a block that may be written. -/
structure FiveAt (w : World) (B : Nat) (u0 u1 u2 u3 u4 : Value) : Prop where
  k0 : w.cell? ⟨B, 0, none⟩ = some u0
  k1 : w.cell? ⟨B, 1, none⟩ = some u1
  k2 : w.cell? ⟨B, 2, none⟩ = some u2
  k3 : w.cell? ⟨B, 3, none⟩ = some u3
  k4 : w.cell? ⟨B, 4, none⟩ = some u4
  fz : ∀ j, w.frozen? ⟨B, j, none⟩ = false
  lt : B < w.heap.size
theorem FiveAt.new (W : World) (u0 u1 u2 u3 u4 : Value) (T : TypeId) {B : Nat} (hB : W.heap.size = B) : FiveAt (W.alloc (.cells #[u0, u1, u2, u3, u4] T)) B u0 u1 u2 u3 u4 := by
  subst hB
  exact ⟨box1 (Gr.refl _) rfl, box1 (Gr.refl _) rfl, box1 (Gr.refl _) rfl, box1 (Gr.refl _) rfl, box1 (Gr.refl _) rfl, fun j => box1f (Gr.refl _) j, by simp⟩
theorem FiveAt.below {w w' : World} {B : Nat} {u0 u1 u2 u3 u4 : Value} (h : FiveAt w B u0 u1 u2 u3 u4) (k : Below w.heap.size w w') : FiveAt w' B u0 u1 u2 u3 u4 :=
  ⟨(k.cell (p := ⟨B, 0, none⟩) h.lt).trans h.k0, (k.cell (p := ⟨B, 1, none⟩) h.lt).trans h.k1, (k.cell (p := ⟨B, 2, none⟩) h.lt).trans h.k2, (k.cell (p := ⟨B, 3, none⟩) h.lt).trans h.k3, (k.cell (p := ⟨B, 4, none⟩) h.lt).trans h.k4, fun j => (k.frozen (p := ⟨B, j, none⟩) h.lt).trans (h.fz j), Nat.lt_of_lt_of_le h.lt k.size⟩
theorem FiveAt.gr {w w' : World} {B : Nat} {u0 u1 u2 u3 u4 : Value} (h : FiveAt w B u0 u1 u2 u3 u4) (k : Gr w w') : FiveAt w' B u0 u1 u2 u3 u4 := h.below k.below
theorem Gr.set5 {a b : World} (h : Gr a b) {B : Nat} (hB : a.heap.size ≤ B) (u0 u1 u2 u3 u4 : Value) : Gr a (((((b.setCell ⟨B, 0, none⟩ u0).setCell ⟨B, 1, none⟩ u1).setCell ⟨B, 2, none⟩ u2).setCell ⟨B, 3, none⟩ u3).setCell ⟨B, 4, none⟩ u4) :=
  ((((h.setCell (p := ⟨B, 0, none⟩) hB u0).setCell (p := ⟨B, 1, none⟩) hB u1).setCell (p := ⟨B, 2, none⟩) hB u2).setCell (p := ⟨B, 3, none⟩) hB u3).setCell (p := ⟨B, 4, none⟩) hB u4

/-- The first cell that has the dot; nothing, if none has. -/
def fndD (l : List Cel) (d : Int × Int) : Cel := (l.find? fun y => decide (y.1 = d)).getD ((0, 0), 0, 0, 0)
theorem fndD_mem {l : List Cel} {d : Int × Int} (h : memD l d = true) : fndD l d ∈ l ∧ (fndD l d).1 = d := by
  unfold fndD
  cases hf : l.find? fun y => decide (y.1 = d) with
  | none =>
    unfold memD at h
    rw [List.any_eq_true] at h
    obtain ⟨y, hy, he⟩ := h
    rw [List.find?_eq_none] at hf
    exact absurd he (hf y hy)
  | some y =>
    exact ⟨List.mem_of_find?_eq_some hf, by simpa using List.find?_some hf⟩
theorem fndD_at {l : List Cel} {d : Int × Int} {k : Nat} (hk : k < l.length) (h : l[k].1 = d) (hno : ∀ j (h : j < l.length), j < k → l[j].1 ≠ d) : fndD l d = l[k] := by
  unfold fndD
  have : l.find? (fun y => decide (y.1 = d)) = some l[k] := by
    rw [List.find?_eq_some_iff_getElem]
    refine ⟨by simpa using h, k, hk, rfl, fun j hj => ?_⟩
    have := hno j (by omega) hj
    simpa using this
  rw [this]; rfl
theorem fndD_none {l : List Cel} {d : Int × Int} (h : memD l d = false) : fndD l d = ((0, 0), 0, 0, 0) := by
  unfold fndD
  have : l.find? (fun y => decide (y.1 = d)) = none := by
    rw [List.find?_eq_none]
    unfold memD at h
    rw [List.any_eq_false] at h
    exact h
  rw [this]; rfl

set_option maxRecDepth 100000 in
set_option maxHeartbeats 1000000 in
theorem rcell_any (t : Tab) (A : Option Addr) (ca : Nat) (D : Option Addr) (cd : Nat) (d : Int × Int) (w : World) (hel : t.e.length ≤ maxLen) (hr : Row w A t.c.l) (hd : RowC w D t.e) :
    Calls Try.prog 65 #[.agg #[.int .i64 t.c.c0, .int .i64 t.c.c1, .int .i64 t.c.c2, .int .i64 t.c.c3, .slice A t.c.l.length ca, .slice D t.e.length cd], .agg #[.int .i64 d.1, .int .i64 d.2]] w fun e w' => e = .returned (.tuple #[.agg #[.int .i64 (fndD t.e d).1.1, .int .i64 (fndD t.e d).1.2, .int .i64 (fndD t.e d).2.1, .int .i64 (fndD t.e d).2.2.1, .int .i64 (fndD t.e d).2.2.2], .bool (memD t.e d)]) ∧ Gr w w' := by
  obtain ⟨dx, dy⟩ := d
  unfold maxLen at hel
  have mixed : Try.prog.follows .mixedOrders = true := by kernel_rfl
  have hE := eqDot
  have hG := guardDot
  have hg0 : Gr w (((w.alloc (.cells #[.int .i64 t.c.c0, .int .i64 t.c.c1, .int .i64 t.c.c2, .int .i64 t.c.c3, .slice A t.c.l.length ca, .slice D t.e.length cd] 51)).alloc (.cells #[.int .i64 dx, .int .i64 dy] 27)).alloc (.cells #[.int .i64 0, .int .i64 0, .int .i64 0, .int .i64 0, .int .i64 0] 72)) := (((Gr.refl _).alloc _).alloc _).alloc _
  have ht0 : TabAt (((w.alloc (.cells #[.int .i64 t.c.c0, .int .i64 t.c.c1, .int .i64 t.c.c2, .int .i64 t.c.c3, .slice A t.c.l.length ca, .slice D t.e.length cd] 51)).alloc (.cells #[.int .i64 dx, .int .i64 dy] 27)).alloc (.cells #[.int .i64 0, .int .i64 0, .int .i64 0, .int .i64 0, .int .i64 0] 72)) w.heap.size t A ca D cd := (TabAt.new 51 hr hd rfl).gr (((Gr.refl _).alloc _).alloc _)
  have hd0 : DotAt (((w.alloc (.cells #[.int .i64 t.c.c0, .int .i64 t.c.c1, .int .i64 t.c.c2, .int .i64 t.c.c3, .slice A t.c.l.length ca, .slice D t.e.length cd] 51)).alloc (.cells #[.int .i64 dx, .int .i64 dy] 27)).alloc (.cells #[.int .i64 0, .int .i64 0, .int .i64 0, .int .i64 0, .int .i64 0] 72)) (w.heap.size + 1) dx dy := (DotAt.new 27 (by simp)).gr ((Gr.refl _).alloc _)
  have hf0 : FiveAt (((w.alloc (.cells #[.int .i64 t.c.c0, .int .i64 t.c.c1, .int .i64 t.c.c2, .int .i64 t.c.c3, .slice A t.c.l.length ca, .slice D t.e.length cd] 51)).alloc (.cells #[.int .i64 dx, .int .i64 dy] 27)).alloc (.cells #[.int .i64 0, .int .i64 0, .int .i64 0, .int .i64 0, .int .i64 0] 72)) (w.heap.size + 1 + 1) (.int .i64 0) (.int .i64 0) (.int .i64 0) (.int .i64 0) (.int .i64 0) := FiveAt.new _ _ _ _ _ _ 72 (by simp)
  go_enter Try.func65, Try.ntmps65
  go_wp2
  generalize ((w.alloc (.cells #[.int .i64 t.c.c0, .int .i64 t.c.c1, .int .i64 t.c.c2, .int .i64 t.c.c3, .slice A t.c.l.length ca, .slice D t.e.length cd] 51)).alloc (.cells #[.int .i64 dx, .int .i64 dy] 27)).alloc (.cells #[.int .i64 0, .int .i64 0, .int .i64 0, .int .i64 0, .int .i64 0] 72) = w0 at hg0 ht0 hd0 hf0 ⊢
  go_loopw [6] (fun i wr => ∃ k : Nat, k ≤ t.e.length ∧ i = .int .i64 k ∧ Hid (∀ j (h : j < t.e.length), j < k → t.e[j].1 ≠ (dx, dy)) ∧ Gr w0 wr) (fun i _ => t.e.length - (intOf i).toNat)
  case atStart => exact ⟨0, Nat.zero_le _, rfl, fun j _ hj => absurd hj (Nat.not_lt_zero _), Gr.refl _⟩
  case round =>
    obtain ⟨k, hk, rfl, hno, hgr⟩ := hrel
    have htR := ht0.gr hgr
    have hdR := hd0.gr hgr
    have hfR := hf0.gr hgr
    have hgW : Gr w wr := hg0.trans hgr
    have k5 := htR.k5
    by_cases hlt : k < t.e.length
    · have hltz : (k : Int) < (t.e.length : Int) := by omega
      obtain ⟨bb, off, rfl, hbb, hcs⟩ := RowC.get htR.rowC hlt
      obtain ⟨x, hx⟩ : ∃ x, t.e[k] = x := ⟨_, rfl⟩
      obtain ⟨e0, e1, e2, e3, e4⟩ := hcs k hlt
      rw [hx] at e0 e1 e2 e3 e4
      have hxH : Hid (t.e[k] = x) := hx
      have q0 := cell_grown (a := ⟨bb, off + k * 5, none⟩) hbb e0
      have q1 := cell_grown (a := ⟨bb, off + k * 5 + 1, none⟩) hbb e1
      have kG := cell_grown (a := ⟨w.heap.size, 5, none⟩) htR.lt k5
      obtain ⟨d0, d1⟩ := (show (∀ n os, (grow (wr.drewN n) os).cell? ⟨w.heap.size + 1, 0, none⟩ = some (.int .i64 dx)) ∧ (∀ n os, (grow (wr.drewN n) os).cell? ⟨w.heap.size + 1, 1, none⟩ = some (.int .i64 dy)) from ⟨cell_grown (a := ⟨w.heap.size + 1, 0, none⟩) hdR.lt hdR.k0, cell_grown (a := ⟨w.heap.size + 1, 1, none⟩) hdR.lt hdR.k1⟩)
      clear hcs hx
      cases hq : (x.1.1 == dx && x.1.2 == dy)
      · have hne : Hid (t.e[k].1 ≠ (dx, dy)) := by
          intro h
          rw [hxH.out] at h
          rw [h] at hq
          simp at hq
        go_wp2
        refine wp_region_quiet_grown mixed (by kernel_rfl) ?_
        repeat (go_big_quiet_step (fail))
        refine wpQuiet_nil ?_
        rintro _ ⟨⟨nq, osq⟩, rfl⟩
        go_wp2
        go_roundw
        case rel =>
          refine ⟨k + 1, by omega, by go_num, ?_, hgr.trans ⟨nq, osq, rfl⟩⟩
          intro j hj hjk
          by_cases e : j = k
          · subst e; exact hne
          · exact hno j hj (by omega)
        case measure => simp [intOf]; omega
      · have hxd : x.1 = (dx, dy) := by
          simp only [Bool.and_eq_true, beq_iff_eq] at hq
          exact Prod.ext hq.1 hq.2
        have hmem : x ∈ t.e := by rw [← hxH.out]; exact List.getElem_mem hlt
        have hfin : Hid (memD t.e (dx, dy) = true ∧ fndD t.e (dx, dy) = x) := by
          refine ⟨?_, by rw [fndD_at hlt (by rw [hxH.out]; exact hxd) hno.out, hxH.out]⟩
          unfold memD
          rw [List.any_eq_true]
          exact ⟨x, hmem, by simpa using hxd⟩
        clear hxd hmem
        go_wp2
        refine wp_region_quiet_grown mixed (by kernel_rfl) ?_
        repeat (go_big_quiet_step (fail))
        refine wpQuiet_nil ?_
        rintro _ ⟨⟨nq, osq⟩, rfl⟩
        have hgQ : Gr wr (grow (wr.drewN nq) osq) := ⟨nq, osq, rfl⟩
        have hfQ := hfR.gr hgQ
        have r5 := (htR.gr hgQ).k5
        have hgWQ : Gr w (grow (wr.drewN nq) osq) := hgW.trans hgQ
        have f0 := (hgQ.cell (p := ⟨bb, off + k * 5, none⟩) hbb).trans e0
        have f1 := (hgQ.cell (p := ⟨bb, off + k * 5 + 1, none⟩) hbb).trans e1
        have f2 := (hgQ.cell (p := ⟨bb, off + k * 5 + 2, none⟩) hbb).trans e2
        have f3 := (hgQ.cell (p := ⟨bb, off + k * 5 + 3, none⟩) hbb).trans e3
        have f4 := (hgQ.cell (p := ⟨bb, off + k * 5 + 4, none⟩) hbb).trans e4
        clear e0 e1 e2 e3 e4 q0 q1 kG d0 d1 hgQ k5
        generalize grow (wr.drewN nq) osq = wq at hfQ r5 hgWQ f0 f1 f2 f3 f4 ⊢
        obtain ⟨z0, z1, z2, z3, z4, zf, zlt⟩ := (show FiveAt _ _ _ _ _ _ _ from hfQ)
        go_wp2
        rw [hfin.out.1, hfin.out.2]
        exact bodyPost_ret (v := .tuple #[.agg #[.int .i64 x.1.1, .int .i64 x.1.2, .int .i64 x.2.1, .int .i64 x.2.2.1, .int .i64 x.2.2.2], .bool true]) (by simp [results, Try.results65, go_sem, z0, z1, z2, z3, z4]) rfl ⟨rfl, hgWQ.set5 (by omega) _ _ _ _ _⟩
    · have hltz : ¬ (k : Int) < (t.e.length : Int) := by omega
      have hfin0 : memD t.e (dx, dy) = false := by
        unfold memD
        rw [List.any_eq_false]
        intro y hy he
        obtain ⟨j, hj, rfl⟩ := List.getElem_of_mem hy
        exact hno j hj (by omega) (by simpa using he)
      have hfin : Hid (memD t.e (dx, dy) = false ∧ fndD t.e (dx, dy) = ((0, 0), 0, 0, 0)) := ⟨hfin0, fndD_none hfin0⟩
      clear hfin0
      obtain ⟨z0, z1, z2, z3, z4, zf, zlt⟩ := (show FiveAt _ _ _ _ _ _ _ from hfR)
      go_wp2
      rw [hfin.out.1, hfin.out.2]
      exact bodyPost_ret (v := .tuple #[.agg #[.int .i64 0, .int .i64 0, .int .i64 0, .int .i64 0, .int .i64 0], .bool false]) (by simp [results, Try.results65, go_sem, z0, z1, z2, z3, z4]) rfl ⟨rfl, hgW.set5 (by omega) _ _ _ _ _⟩

end Go.Proofs.Ytjgefnipkaecgaa
