/-
  viewref.readStep: a line's words.
-/
import Derived.Test.YtoodkgmpggabdaaDoorRWords
import Derived.Test.YtoodkgmpggabdaaDoorRPieces
import Derived.Test.YtoodkgmpggabdaaDoorQPLine
namespace Go.Proofs.YtoodkgmpggabdaaDoor
open Go.RowKit Go.Sort

/-- The document's words lie as they are laid. -/
structure Verbs (w : World) : Prop where
  lt : 0 < w.heap.size
  word : ∀ k : Nat, k < 10 → w.cell? ⟨0, k, none⟩ = some (.string ⟨(wordL (k : Int)).toArray⟩)
theorem Verbs.below {w w' : World} (h : Verbs w) (k : Below w.heap.size w w') : Verbs w' := ⟨Nat.lt_of_lt_of_le h.lt k.size, fun i hi => (k.cell (p := ⟨0, i, none⟩) h.lt).trans (h.word i hi)⟩
def verbL : List (List UInt8) := [wordL 0, wordL 1, wordL 2, wordL 3, wordL 4, wordL 5, wordL 6, wordL 7, wordL 8, wordL 9]
theorem Verbs.row {w : World} (h : Verbs w) : RowX w (some ⟨0, 0, none⟩) verbL := by
  refine Or.inr ⟨0, 0, rfl, h.lt, fun j hj i hi => ?_⟩
  obtain rfl : i = 0 := by omega
  have hj' : j < 10 := hj
  have := h.word j hj'
  match j, hj' with
  | 0, _ => exact this
  | 1, _ => exact this
  | 2, _ => exact this
  | 3, _ => exact this
  | 4, _ => exact this
  | 5, _ => exact this
  | 6, _ => exact this
  | 7, _ => exact this
  | 8, _ => exact this
  | 9, _ => exact this
theorem idx_kind {x : List UInt8} : (kindP x ≠ 0 → idxX verbL x = kindP x) ∧ (kindP x = 0 → idxX verbL x < 1) := by
  have hw : ∀ k : Nat, 1 ≤ k → k < 10 → x = wordL (k : Int) → idxX verbL x = (k : Int) ∧ kindP x = (k : Int) := by
    intro k h1 h2 e
    subst e
    have hk : k = 1 ∨ k = 2 ∨ k = 3 ∨ k = 4 ∨ k = 5 ∨ k = 6 ∨ k = 7 ∨ k = 8 ∨ k = 9 := by omega
    rcases hk with rfl | rfl | rfl | rfl | rfl | rfl | rfl | rfl | rfl <;> decide
  refine ⟨fun h => ?_, fun h => ?_⟩
  · obtain ⟨h1, h2, h3⟩ := kindP_word h
    obtain ⟨k, hk⟩ : ∃ k : Nat, kindP x = (k : Int) := ⟨(kindP x).toNat, by omega⟩
    rw [hk] at h1 h2 h3 ⊢
    exact (hw k (by omega) (by omega) h1.symm).1
  · rcases Int.lt_or_le (idxX verbL x) 1 with k | k
    · exact k
    · exfalso
      have hm : ∃ j : Nat, ∃ hj : j < verbL.length, idxX verbL x = (j : Int) ∧ verbL[j] = x := by
        unfold idxX at k ⊢
        cases e : verbL.findIdx? (· == x) with
        | none => rw [e] at k; simp at k
        | some j =>
          rw [List.findIdx?_eq_some_iff_getElem] at e
          obtain ⟨hj, he, _⟩ := e
          exact ⟨j, hj, rfl, by simpa using he⟩
      obtain ⟨j, hj, e1, e2⟩ := hm
      have hj' : j < 10 := hj
      have e3 : x = wordL (j : Int) := by
        rw [← e2]
        match j, hj' with
        | 0, _ => rfl
        | 1, _ => rfl
        | 2, _ => rfl
        | 3, _ => rfl
        | 4, _ => rfl
        | 5, _ => rfl
        | 6, _ => rfl
        | 7, _ => rfl
        | 8, _ => rfl
        | 9, _ => rfl
      have := (hw j (by omega) hj' e3).2
      omega
def zeroC : Array Value := #[.int .i64 0, .int .i64 0, .int .i64 0, .int .i64 0, .int .i64 0, .int .i64 0, .slice none 0 0]
set_option maxRecDepth 100000 in
set_option maxHeartbeats 2000000 in
theorem rstep_kind0 (ws : List (List UInt8)) (A : Option Addr) (cap : Nat) (w : World) (hr : RowX w A ws) (h0 : 0 < ws.length) (hl : ws.length ≤ 2000) (hv : Verbs w) (hk : kindP (ws[0]) = 0) :
    Calls Tryd.prog 11 #[.slice A ws.length cap] w fun e w' => e = .returned (.tuple #[.agg #[.int .i64 zeroS.k, .int .i64 zeroS.a, .int .i64 zeroS.b, .int .i64 zeroS.c, .int .i64 zeroS.o, .int .i64 zeroS.v, .slice zeroS.p zeroS.l.length zeroS.n], .bool false]) ∧ Below w.heap.size w w' := by
  have mixed : Tryd.prog.follows .mixedOrders = true := by kernel_rfl
  obtain ⟨x, hx⟩ : ∃ x, ws[0] = x := ⟨_, rfl⟩
  obtain ⟨b, off, rfl, hb, hcs⟩ := hr.at h0
  have e0 := hcs 0 h0 0 (by omega)
  rw [hx] at e0 hk
  have e1 : w.cell? ⟨b, off, none⟩ = some (.string ⟨x.toArray⟩) := by simpa [encX] using e0
  obtain ⟨k, hki⟩ : ∃ k, idxX verbL x = k := ⟨_, rfl⟩
  have hk1 : k < 1 := by rw [← hki]; exact idx_kind.2 hk
  obtain ⟨W0, hW0⟩ : ∃ W0, w.alloc (.cells #[.int .i64 0, .int .i64 0, .int .i64 0, .int .i64 0, .int .i64 0, .int .i64 0, .slice none 0 0] 32) = W0 := ⟨_, rfl⟩
  have hg0 : Gr w W0 := by rw [← hW0]; exact (Gr.refl _).alloc _
  have hB0 : Box W0 w.heap.size zeroS := hW0 ▸ box_new w
  have g0 := hg0.cellG (a := ⟨b, off, none⟩) hb e1
  have hIx : Hid (∀ n os, Calls Tryd.prog 22 #[.slice (some ⟨0, 0, none⟩) 10 10, .string ⟨x.toArray⟩] (grow (W0.drewN n) os) fun e w' => e = .returned (.int .i64 k) ∧ ∃ q os', w' = grow ((grow (W0.drewN n) os).drewN q) os') := fun n os => index_any verbL x (some ⟨0, 0, none⟩) 10 _ ((hv.below hg0.below).below (show Gr W0 _ from ⟨n, os, rfl⟩).below).row (by decide) hki
  have hH : Hid (Gr w W0 ∧ Box W0 w.heap.size zeroS) := ⟨hg0, hB0⟩
  have hlz : (0 : Int) < (ws.length : Int) := by omega
  clear hcs e0 hx hr hv hk hki hg0 hB0
  go_enter Tryd.func11, Tryd.ntmps11
  go_wp2_with fail
  clear hW0
  refine wp_region_quiet_grown mixed (by kernel_rfl) ?_
  repeat (go_big_quiet_step (first | (go_at_call 22; refine Calls.grown_of (hIx.out _ _)) | fail))
  refine wpQuiet_nil ?_
  rintro _ ⟨⟨nq2, osq2⟩, rfl⟩
  obtain ⟨W1, hW1⟩ : ∃ W1, grow (W0.drewN nq2) osq2 = W1 := ⟨_, rfl⟩
  have hg1 : Gr W0 W1 := by rw [← hW1]; exact ⟨nq2, osq2, rfl⟩
  rw [hW1]
  have hB1 := hH.out.2.below hg1.below
  have hbw : Hid (Below w.heap.size w W1) := (hH.out.1.trans hg1).below
  have c0 := hB1.c0
  have c1 := hB1.c1
  have c2 := hB1.c2
  have c3 := hB1.c3
  have c4 := hB1.c4
  have c5 := hB1.c5
  have c6 := hB1.c6
  have fz := hB1.fz
  clear hW1 hB1 hg1 hIx hH g0 e1
  go_wp2
  exact bodyPost_ret (v := .tuple #[.agg #[.int .i64 0, .int .i64 0, .int .i64 0, .int .i64 0, .int .i64 0, .int .i64 0, .slice none 0 0], .bool false]) (by simp [results, Tryd.results11, go_sem, c0, c1, c2, c3, c4, c5, c6]) rfl ⟨rfl, below_set7 hbw.out (Nat.le_refl _) _ _ _ _ _ _ _⟩
end Go.Proofs.YtoodkgmpggabdaaDoor
