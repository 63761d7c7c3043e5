/-
  Package wire's reader: a dot, a cell.
-/
import Derived.Test.YtbhhpijidbhipaaWRd2
import Derived.Test.YtbhhpijidbhipaaTOwn
namespace Go.Proofs.Ytbhhpijidbhipaa
open Go.RowKit Go.Sort

/-- A block of some cells, which may be written. -/
structure Bx (w : World) (B : Nat) (P : List Value) : Prop where
  c : ∀ j, j < P.length → w.cell? ⟨B, j, none⟩ = P[j]?
  f : ∀ j, w.frozen? ⟨B, j, none⟩ = false
  lt : B < w.heap.size
theorem Bx.new (w : World) (P : List Value) (T : TypeId) {B : Nat} (hB : w.heap.size = B) : Bx (w.alloc (.cells P.toArray T)) B P := by
  subst hB
  refine ⟨fun j hj => ?_, fun j => box1f (Gr.refl _) j, by simp⟩
  rw [List.getElem?_eq_getElem hj]
  exact box1 (w := w) (Gr.refl _) (by simp [hj])
theorem Bx.other {w w' : World} {B : Nat} {P : List Value} (h : Bx w B P) {row : Option Nat} (k : w.grownBy w' row) (hne : row ≠ some B) : Bx w' B P :=
  ⟨fun j hj => (k.cell_far ⟨B, j, none⟩ h.lt (Ne.symm hne)).trans (h.c j hj), fun j => (k.frozen_far ⟨B, j, none⟩ h.lt (Ne.symm hne)).trans (h.f j), Nat.lt_of_lt_of_le h.lt k.size⟩
theorem Bx.gr {w w' : World} {B : Nat} {P : List Value} (h : Bx w B P) (k : Gr w w') : Bx w' B P := h.other (row := none) (grown_of_below k.below _) (by intro e; cases e)
theorem Bx.put {w : World} {B : Nat} {P : List Value} (h : Bx w B P) {i : Nat} (hi : i < P.length) (v : Value) : Bx (w.setCell ⟨B, i, none⟩ v) B (P.set i v) := by
  refine ⟨fun j hj => ?_, fun j => by simp [h.f j], by simpa using h.lt⟩
  rw [List.length_set] at hj
  have hpj := h.c j hj
  rw [List.getElem?_eq_getElem hj] at hpj
  rw [cell_set hpj, List.getElem?_set]
  by_cases hji : j = i
  · subst hji
    rw [if_pos rfl, if_pos rfl, if_pos hj]
  · rw [if_neg hji, if_neg (Ne.symm hji), List.getElem?_eq_getElem hj]
/-- What was there, but for the block R, is as it was. -/
theorem grown_new {w a : World} {R B j : Nat} (h : w.grownBy a (some R)) (hB : w.heap.size ≤ B) (u : Value) : w.grownBy (a.setCell ⟨B, j, none⟩ u) (some R) :=
  h.andThen (grown_set a B j u) (fun k hk => by injection hk with hk; exact Or.inl (by omega))

set_option maxHeartbeats 2000000 in
theorem rddot_any (R : Nat) (x : List UInt8) (s : RS) (w : World) (hx : x.length ≤ maxLen) (h : RdP w R x s) :
    Calls Try.prog 39 #[.pointer (some ⟨R, 0, none⟩)] w fun e w' => e = .returned (.agg #[.int .i64 (nxN s), .int .i64 (nxN (nxS s))]) ∧ RdP w' R x (nxS (nxS s)) ∧ w.grownBy w' (some R) := by
  obtain ⟨W0, hW0⟩ : ∃ W0, w.alloc (.cells #[.int .i64 0, .int .i64 0] 51) = W0 := ⟨_, rfl⟩
  obtain ⟨B, hB⟩ : ∃ B, w.heap.size = B := ⟨_, rfl⟩
  have hX0 : Bx W0 B [.int .i64 0, .int .i64 0] := by rw [← hW0]; exact Bx.new w _ _ hB
  have hg0 : Gr w W0 := by rw [← hW0]; exact (Gr.refl w).alloc _
  have hRB : R < B := by have := h.lt; omega
  have hC1 := rdnext_any R x s W0 hx (h.gr hg0)
  have hC1H : Hid _ := hC1
  have hG0 : Hid (w.grownBy W0 (some R) ∧ Bx W0 B [.int .i64 0, .int .i64 0]) := ⟨grown_of_below hg0.below _, hX0⟩
  have hnx : Hid (∀ W t, RdP W R x t → Calls Try.prog 36 #[.pointer (some ⟨R, 0, none⟩)] W fun e w' => e = .returned (.int .i64 (nxN t)) ∧ RdP w' R x (nxS t) ∧ W.grownBy w' (some R)) := fun W t hp => rdnext_any R x t W hx hp
  clear hC1 hX0 hg0 h
  go_enter Try.func39, Try.ntmps39
  go_wp2_with fail
  refine Calls.mono (show Calls _ _ _ _ _ from hC1H.out) ?_
  rintro e w1 ⟨rfl, h1, hg1⟩
  have hC2 := hnx.out w1 _ h1
  have hC2H : Hid _ := hC2
  have hG1 : Hid (w.grownBy w1 (some R) ∧ Bx w1 B [.int .i64 0, .int .i64 0]) := ⟨hG0.out.1.trans hg1, hG0.out.2.other hg1 (by intro e; injection e with e; omega)⟩
  clear hC2 h1 hg1 hC1H hG0
  go_wp2_with fail
  refine Calls.mono (show Calls _ _ _ _ _ from hC2H.out) ?_
  rintro e w2 ⟨rfl, h2, hg2⟩
  have hG2 : Hid (w.grownBy w2 (some R) ∧ Bx w2 B [.int .i64 0, .int .i64 0] ∧ RdP w2 R x (nxS (nxS s))) := ⟨hG1.out.1.trans hg2, hG1.out.2.other hg2 (by intro e; injection e with e; omega), h2⟩
  clear h2 hg2 hC2H hG1 hnx
  have f0 := hG2.out.2.1.f 0
  have f1 := hG2.out.2.1.f 1
  have b0 : w2.cell? ⟨B, 0, none⟩ = some (.int .i64 0) := hG2.out.2.1.c 0 (by simp)
  have b1 : w2.cell? ⟨B, 1, none⟩ = some (.int .i64 0) := hG2.out.2.1.c 1 (by simp)
  obtain ⟨n1, hn1⟩ : ∃ n, nxN s = n := ⟨_, rfl⟩
  obtain ⟨n2, hn2⟩ : ∃ n, nxN (nxS s) = n := ⟨_, rfl⟩
  rw [hn1, hn2]
  have hnH : Hid (nxN s = n1 ∧ nxN (nxS s) = n2) := ⟨hn1, hn2⟩
  clear hn1 hn2
  go_wp2
  have hX3 := (hG2.out.2.1.put (i := 0) (by simp) (.int .i64 n1)).put (i := 1) (by simp) (.int .i64 n2)
  have hW3 : w.grownBy ((w2.setCell ⟨B, 0, none⟩ (.int .i64 n1)).setCell ⟨B, 1, none⟩ (.int .i64 n2)) (some R) := grown_new (grown_new hG2.out.1 (by omega) _) (by omega) _
  have hP3 : RdP ((w2.setCell ⟨B, 0, none⟩ (.int .i64 n1)).setCell ⟨B, 1, none⟩ (.int .i64 n2)) R x (nxS (nxS s)) := (hG2.out.2.2.other (grown_set _ B _ _) (by intro e; injection e with e; omega)).other (grown_set _ B _ _) (by intro e; injection e with e; omega)
  generalize (w2.setCell ⟨B, 0, none⟩ (.int .i64 n1)).setCell ⟨B, 1, none⟩ (.int .i64 n2) = w3 at hX3 hW3 hP3 ⊢
  have r0 : w3.cell? ⟨B, 0, none⟩ = some (.int .i64 n1) := hX3.c 0 (by simp)
  have r1 : w3.cell? ⟨B, 1, none⟩ = some (.int .i64 n2) := hX3.c 1 (by simp)
  exact bodyPost_ret (v := .agg #[.int .i64 n1, .int .i64 n2]) (by simp [results, Try.results39, go_sem, r0, r1]) rfl ⟨by rw [hnH.out.1, hnH.out.2], hP3, hW3⟩

set_option maxHeartbeats 2000000 in
theorem rdcell_any (R : Nat) (x : List UInt8) (s : RS) (w : World) (hx : x.length ≤ maxLen) (h : RdP w R x s) :
    Calls Try.prog 41 #[.pointer (some ⟨R, 0, none⟩)] w fun e w' => e = .returned (.agg #[.int .i64 (nxN s), .int .i64 (nxN (nxS s)), .int .i64 (nxN (nxS (nxS s))), .int .i64 (nxN (nxS (nxS (nxS s)))), .int .i64 (nxN (nxS (nxS (nxS (nxS s)))))]) ∧ RdP w' R x (nxS (nxS (nxS (nxS (nxS s))))) ∧ w.grownBy w' (some R) := by
  obtain ⟨W0, hW0⟩ : ∃ W0, w.alloc (.cells #[.int .i64 0, .int .i64 0, .int .i64 0, .int .i64 0, .int .i64 0] 53) = W0 := ⟨_, rfl⟩
  obtain ⟨B, hB⟩ : ∃ B, w.heap.size = B := ⟨_, rfl⟩
  have hX0 : Bx W0 B [.int .i64 0, .int .i64 0, .int .i64 0, .int .i64 0, .int .i64 0] := by rw [← hW0]; exact Bx.new w _ _ hB
  have hg0 : Gr w W0 := by rw [← hW0]; exact (Gr.refl w).alloc _
  have hRB : R < B := by have := h.lt; omega
  have hC1 := rddot_any R x s W0 hx (h.gr hg0)
  have hC1H : Hid _ := hC1
  have hG0 : Hid (w.grownBy W0 (some R) ∧ Bx W0 B [.int .i64 0, .int .i64 0, .int .i64 0, .int .i64 0, .int .i64 0]) := ⟨grown_of_below hg0.below _, hX0⟩
  have hnx : Hid (∀ W t, RdP W R x t → Calls Try.prog 36 #[.pointer (some ⟨R, 0, none⟩)] W fun e w' => e = .returned (.int .i64 (nxN t)) ∧ RdP w' R x (nxS t) ∧ W.grownBy w' (some R)) := fun W t hp => rdnext_any R x t W hx hp
  clear hC1 hX0 hg0 h
  go_enter Try.func41, Try.ntmps41
  go_wp2_with fail
  refine Calls.mono (show Calls _ _ _ _ _ from hC1H.out) ?_
  rintro e w2 ⟨rfl, h2, hg2⟩
  have hC3 := hnx.out w2 _ h2
  have hC3H : Hid _ := hC3
  have hG2 : Hid (w.grownBy w2 (some R) ∧ Bx w2 B [.int .i64 0, .int .i64 0, .int .i64 0, .int .i64 0, .int .i64 0]) := ⟨hG0.out.1.trans hg2, hG0.out.2.other hg2 (by intro e; injection e with e; omega)⟩
  clear hC3 h2 hg2 hC1H hG0
  go_wp2_with fail
  refine Calls.mono (show Calls _ _ _ _ _ from hC3H.out) ?_
  rintro e w3 ⟨rfl, h3, hg3⟩
  have hC4 := hnx.out w3 _ h3
  have hC4H : Hid _ := hC4
  have hG3 : Hid (w.grownBy w3 (some R) ∧ Bx w3 B [.int .i64 0, .int .i64 0, .int .i64 0, .int .i64 0, .int .i64 0]) := ⟨hG2.out.1.trans hg3, hG2.out.2.other hg3 (by intro e; injection e with e; omega)⟩
  clear hC4 h3 hg3 hC3H hG2
  go_wp2_with fail
  refine Calls.mono (show Calls _ _ _ _ _ from hC4H.out) ?_
  rintro e w4 ⟨rfl, h4, hg4⟩
  have hC5 := hnx.out w4 _ h4
  have hC5H : Hid _ := hC5
  have hG4 : Hid (w.grownBy w4 (some R) ∧ Bx w4 B [.int .i64 0, .int .i64 0, .int .i64 0, .int .i64 0, .int .i64 0]) := ⟨hG3.out.1.trans hg4, hG3.out.2.other hg4 (by intro e; injection e with e; omega)⟩
  clear hC5 h4 hg4 hC4H hG3
  go_wp2_with fail
  refine Calls.mono (show Calls _ _ _ _ _ from hC5H.out) ?_
  rintro e w5 ⟨rfl, h5, hg5⟩
  have hG5 : Hid (w.grownBy w5 (some R) ∧ Bx w5 B [.int .i64 0, .int .i64 0, .int .i64 0, .int .i64 0, .int .i64 0] ∧ RdP w5 R x (nxS (nxS (nxS (nxS (nxS s)))))) := ⟨hG4.out.1.trans hg5, hG4.out.2.other hg5 (by intro e; injection e with e; omega), h5⟩
  clear h5 hg5 hC5H hG4 hnx
  have f0 := hG5.out.2.1.f 0
  have f1 := hG5.out.2.1.f 1
  have f2 := hG5.out.2.1.f 2
  have f3 := hG5.out.2.1.f 3
  have f4 := hG5.out.2.1.f 4
  have b0 : w5.cell? ⟨B, 0, none⟩ = some (.int .i64 0) := hG5.out.2.1.c 0 (by simp)
  have b1 : w5.cell? ⟨B, 1, none⟩ = some (.int .i64 0) := hG5.out.2.1.c 1 (by simp)
  have b2 : w5.cell? ⟨B, 2, none⟩ = some (.int .i64 0) := hG5.out.2.1.c 2 (by simp)
  have b3 : w5.cell? ⟨B, 3, none⟩ = some (.int .i64 0) := hG5.out.2.1.c 3 (by simp)
  have b4 : w5.cell? ⟨B, 4, none⟩ = some (.int .i64 0) := hG5.out.2.1.c 4 (by simp)
  obtain ⟨n1, hn1⟩ : ∃ n, nxN s = n := ⟨_, rfl⟩
  obtain ⟨n2, hn2⟩ : ∃ n, nxN (nxS s) = n := ⟨_, rfl⟩
  obtain ⟨n3, hn3⟩ : ∃ n, nxN (nxS (nxS s)) = n := ⟨_, rfl⟩
  obtain ⟨n4, hn4⟩ : ∃ n, nxN (nxS (nxS (nxS s))) = n := ⟨_, rfl⟩
  obtain ⟨n5, hn5⟩ : ∃ n, nxN (nxS (nxS (nxS (nxS s)))) = n := ⟨_, rfl⟩
  rw [hn1, hn2, hn3, hn4, hn5]
  have hnH : Hid (nxN s = n1 ∧ nxN (nxS s) = n2 ∧ nxN (nxS (nxS s)) = n3 ∧ nxN (nxS (nxS (nxS s))) = n4 ∧ nxN (nxS (nxS (nxS (nxS s)))) = n5) := ⟨hn1, hn2, hn3, hn4, hn5⟩
  clear hn1 hn2 hn3 hn4 hn5
  go_wp2
  have hX6 := ((((hG5.out.2.1.put (i := 0) (by simp) (.int .i64 n1)).put (i := 1) (by simp) (.int .i64 n2)).put (i := 2) (by simp) (.int .i64 n3)).put (i := 3) (by simp) (.int .i64 n4)).put (i := 4) (by simp) (.int .i64 n5)
  have hW6 : w.grownBy (((((w5.setCell ⟨B, 0, none⟩ (.int .i64 n1)).setCell ⟨B, 1, none⟩ (.int .i64 n2)).setCell ⟨B, 2, none⟩ (.int .i64 n3)).setCell ⟨B, 3, none⟩ (.int .i64 n4)).setCell ⟨B, 4, none⟩ (.int .i64 n5)) (some R) := grown_new (grown_new (grown_new (grown_new (grown_new hG5.out.1 (by omega) _) (by omega) _) (by omega) _) (by omega) _) (by omega) _
  have hne : some B ≠ some R := by intro e; injection e with e; omega
  have hP6 : RdP (((((w5.setCell ⟨B, 0, none⟩ (.int .i64 n1)).setCell ⟨B, 1, none⟩ (.int .i64 n2)).setCell ⟨B, 2, none⟩ (.int .i64 n3)).setCell ⟨B, 3, none⟩ (.int .i64 n4)).setCell ⟨B, 4, none⟩ (.int .i64 n5)) R x (nxS (nxS (nxS (nxS (nxS s))))) := ((((hG5.out.2.2.other (grown_set _ B _ _) hne).other (grown_set _ B _ _) hne).other (grown_set _ B _ _) hne).other (grown_set _ B _ _) hne).other (grown_set _ B _ _) hne
  generalize ((((w5.setCell ⟨B, 0, none⟩ (.int .i64 n1)).setCell ⟨B, 1, none⟩ (.int .i64 n2)).setCell ⟨B, 2, none⟩ (.int .i64 n3)).setCell ⟨B, 3, none⟩ (.int .i64 n4)).setCell ⟨B, 4, none⟩ (.int .i64 n5) = w6 at hX6 hW6 hP6 ⊢
  have r0 : w6.cell? ⟨B, 0, none⟩ = some (.int .i64 n1) := hX6.c 0 (by simp)
  have r1 : w6.cell? ⟨B, 1, none⟩ = some (.int .i64 n2) := hX6.c 1 (by simp)
  have r2 : w6.cell? ⟨B, 2, none⟩ = some (.int .i64 n3) := hX6.c 2 (by simp)
  have r3 : w6.cell? ⟨B, 3, none⟩ = some (.int .i64 n4) := hX6.c 3 (by simp)
  have r4 : w6.cell? ⟨B, 4, none⟩ = some (.int .i64 n5) := hX6.c 4 (by simp)
  exact bodyPost_ret (v := .agg #[.int .i64 n1, .int .i64 n2, .int .i64 n3, .int .i64 n4, .int .i64 n5]) (by simp [results, Try.results41, go_sem, r0, r1, r2, r3, r4]) rfl ⟨by rw [hnH.out.1, hnH.out.2.1, hnH.out.2.2.1, hnH.out.2.2.2.1, hnH.out.2.2.2.2], hP6, hW6⟩
end Go.Proofs.Ytbhhpijidbhipaa
