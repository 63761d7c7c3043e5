/-
  query.tellsItsPartsAlone: has a step nothing that its kind doesn't tell?
-/
import Derived.Test.YtoodkgmpggabdaaDoorQLeaf
namespace Go.Proofs.YtoodkgmpggabdaaDoor
open Go.RowKit Go.Sort

/-- Does a kind tell this part? -/
def tellsB (k : Int) (p : UInt8) : Bool := decide (0 ≤ Lib.indexByte (partL k) p)
/-- The parts that are one number each, and what a step has there. -/
def prtL : List UInt8 := [65, 66, 67, 79, 86]
def Stp.at (s : Stp) (j : Nat) : Int := [s.a, s.b, s.c, s.o, s.v].getD j 0
def condB (s : Stp) (j : Nat) : Bool := tellsB s.k (prtL.getD j 0) || decide (s.at j = 0)
def aloneB (s : Stp) : Bool := (List.range 5).all (condB s) && (tellsB s.k 76 || s.l.isEmpty)
theorem alone_no {s : Stp} {j : Nat} (hj : j < 5) (h : condB s j = false) : aloneB s = false := by
  unfold aloneB
  rw [Bool.and_eq_false_iff]
  left
  rw [List.all_eq_false]
  exact ⟨j, List.mem_range.2 hj, by rw [h]; simp⟩
theorem indexByte_any (l : List UInt8) (p : UInt8) (w : World) : Calls Tryd.prog 58 #[.string ⟨l.toArray⟩, .int .u8 p.toNat] w fun e w' => e = .returned (.int .i64 (Lib.indexByte l p)) ∧ w' = w := by
  have h := Any.strings_IndexByte Tryd.laysIndexByte ⟨l.toArray⟩ (p.toNat : Int) w
  change Calls Tryd.prog 58 _ _ _ at h
  simpa using h

set_option maxRecDepth 100000 in
set_option maxHeartbeats 4000000 in
theorem alone_any (s : Stp) (w : World) :
    Calls Tryd.prog 45 #[.agg #[.int .i64 s.k, .int .i64 s.a, .int .i64 s.b, .int .i64 s.c, .int .i64 s.o, .int .i64 s.v, .slice s.p s.l.length s.n]] w fun e w' => e = .returned (.bool (aloneB s)) ∧ Gr w w' := by
  have hg0 : Gr w (w.alloc (.cells #[.int .i64 s.k, .int .i64 s.a, .int .i64 s.b, .int .i64 s.c, .int .i64 s.o, .int .i64 s.v, .slice s.p s.l.length s.n] 32)) := (Gr.refl w).alloc _
  have hfo := formOf_any s.k (w.alloc (.cells #[.int .i64 s.k, .int .i64 s.a, .int .i64 s.b, .int .i64 s.c, .int .i64 s.o, .int .i64 s.v, .slice s.p s.l.length s.n] 32))
  have hfoH : Hid _ := hfo
  clear hfo
  have c0 : (w.alloc (.cells #[.int .i64 s.k, .int .i64 s.a, .int .i64 s.b, .int .i64 s.c, .int .i64 s.o, .int .i64 s.v, .slice s.p s.l.length s.n] 32)).cell? ⟨w.heap.size, 0, none⟩ = some (.int .i64 s.k) := box1 (Gr.refl _) rfl
  go_enter Tryd.func45, Tryd.ntmps45
  go_wp2_with fail
  refine Calls.mono (show Calls _ _ _ _ _ from hfoH.out) ?_
  rintro e w1 ⟨rfl, rfl⟩
  clear hfoH c0
  go_wp2
  go_loopw [13] (fun i wr => ∃ j : Nat, j ≤ 5 ∧ i = .int .i64 j ∧ Hid (∀ m, m < j → condB s m = true) ∧ wr = (w.alloc (.cells #[.int .i64 s.k, .int .i64 s.a, .int .i64 s.b, .int .i64 s.c, .int .i64 s.o, .int .i64 s.v, .slice s.p s.l.length s.n] 32))) (fun i _ => 5 - (intOf i).toNat)
  case atStart => exact ⟨0, by omega, rfl, fun m h => by omega, by trivial⟩
  case round =>
    obtain ⟨j, hj, rfl, hall, rfl⟩ := hrel
    by_cases h5 : j = 5
    · subst h5
      have c6 : (w.alloc (.cells #[.int .i64 s.k, .int .i64 s.a, .int .i64 s.b, .int .i64 s.c, .int .i64 s.o, .int .i64 s.v, .slice s.p s.l.length s.n] 32)).cell? ⟨w.heap.size, 6, none⟩ = some (.slice s.p s.l.length s.n) := box1 (Gr.refl _) rfl
      obtain ⟨x, hx⟩ : ∃ x, Lib.indexByte (partL s.k) 76 = x := ⟨_, rfl⟩
      have hix := indexByte_any (partL s.k) 76 (w.alloc (.cells #[.int .i64 s.k, .int .i64 s.a, .int .i64 s.b, .int .i64 s.c, .int .i64 s.o, .int .i64 s.v, .slice s.p s.l.length s.n] 32))
      rw [hx] at hix
      have hixH : Hid (Calls Tryd.prog 58 #[.string ⟨(partL s.k).toArray⟩, .int .u8 76] _ _) := hix
      have hend : Hid (aloneB s = (decide (0 ≤ x) || s.l.isEmpty)) := by
        show _ = _
        unfold aloneB
        rw [List.all_eq_true.2 fun m hm => hall m (List.mem_range.1 hm)]
        show (true && (decide (0 ≤ Lib.indexByte (partL s.k) 76) || s.l.isEmpty)) = _
        rw [hx]; simp
      clear hx hix hall
      by_cases hx0 : 0 ≤ x
      · have hfin : Hid (aloneB s = true) := by show _ = _; rw [hend.out]; simp [hx0]
        go_wp2_with (go_at_call 58; (refine Calls.mono (show Calls _ _ _ _ _ from hixH.out) ?_); rintro e w' ⟨rfl, rfl⟩)
        go_ret
        exact ⟨by rw [hfin.out]; rfl, hg0⟩
      · by_cases hl0 : s.l = []
        · have hfin : Hid (aloneB s = true) := by show _ = _; rw [hend.out, hl0]; simp
          have hl00 : ((s.l.length : Int) == 0) = true := by rw [hl0]; rfl
          clear hl0
          go_wp2_with (go_at_call 58; (refine Calls.mono (show Calls _ _ _ _ _ from hixH.out) ?_); rintro e w' ⟨rfl, rfl⟩)
          go_ret
          exact ⟨by rw [hfin.out]; rfl, hg0⟩
        · have hfin : Hid (aloneB s = false) := by show _ = _; rw [hend.out]; simp [hl0]; omega
          have hl00 : ((s.l.length : Int) == 0) = false := by
            have := List.length_pos_iff.2 hl0
            simp; omega
          have hxd : decide (0 ≤ x) = false := by simpa using hx0
          clear hl0
          go_wp2_with (go_at_call 58; (refine Calls.mono (show Calls _ _ _ _ _ from hixH.out) ?_); rintro e w' ⟨rfl, rfl⟩)
          go_ret
          exact ⟨by rw [hfin.out, ← hxd]; rfl, hg0⟩
    have hj6 : j = 0 ∨ j = 1 ∨ j = 2 ∨ j = 3 ∨ j = 4 := by omega
    obtain ⟨x, hx⟩ : ∃ x, Lib.indexByte (partL s.k) (prtL.getD j 0) = x := ⟨_, rfl⟩
    obtain ⟨v, hv⟩ : ∃ v, s.at j = v := ⟨_, rfl⟩
    obtain ⟨o, ho⟩ : ∃ o, j + 1 = o := ⟨_, rfl⟩
    have hcb : condB s j = (decide (0 ≤ x) || decide (v = 0)) := by rw [← hx, ← hv]; rfl
    have hok : Hid ((0 ≤ x ∨ v = 0) → ∀ m, m < j + 1 → condB s m = true) := fun h m hm => by
      by_cases e : m = j
      · rw [e, hcb]; simpa using h
      · exact hall m (by omega)
    have hno : Hid (x < 0 → v ≠ 0 → aloneB s = false) := fun h1 h2 => alone_no (j := j) (by omega) (by rw [hcb]; simp [h2]; omega)
    have hix := indexByte_any (partL s.k) (prtL.getD j 0) (w.alloc (.cells #[.int .i64 s.k, .int .i64 s.a, .int .i64 s.b, .int .i64 s.c, .int .i64 s.o, .int .i64 s.v, .slice s.p s.l.length s.n] 32))
    rw [hx] at hix
    have hixH : Hid _ := hix
    have cj : (w.alloc (.cells #[.int .i64 s.k, .int .i64 s.a, .int .i64 s.b, .int .i64 s.c, .int .i64 s.o, .int .i64 s.v, .slice s.p s.l.length s.n] 32)).cell? ⟨w.heap.size, o, none⟩ = some (.int .i64 v) := by
      rw [← ho, ← hv]
      rcases hj6 with rfl | rfl | rfl | rfl | rfl <;> exact box1 (Gr.refl _) rfl
    have hfdH : Hid (Calls Tryd.prog 30 #[.pointer (some ⟨w.heap.size, 0, none⟩), .int .u8 ((prtL.getD j 0).toNat : Int)] (w.alloc (.cells #[.int .i64 s.k, .int .i64 s.a, .int .i64 s.b, .int .i64 s.c, .int .i64 s.o, .int .i64 s.v, .slice s.p s.l.length s.n] 32)) fun e w' => e = .returned (.pointer (some ⟨w.heap.size, o, none⟩)) ∧ w' = (w.alloc (.cells #[.int .i64 s.k, .int .i64 s.a, .int .i64 s.b, .int .i64 s.c, .int .i64 s.o, .int .i64 s.v, .slice s.p s.l.length s.n] 32))) := by
      rw [← ho]
      rcases hj6 with rfl | rfl | rfl | rfl | rfl <;> exact field_any _ _ _
    clear hx hv ho hcb hix hall h5
    by_cases hx0 : x < 0
    · cases hvb : (v != 0)
      · have hst : Hid _ := hok.out (Or.inr (by simpa using hvb))
        clear hok hno
        rcases hj6 with rfl | rfl | rfl | rfl | rfl <;> (go_wp2_with (first | (go_at_call 58; (refine Calls.mono (show Calls _ _ _ _ _ from hixH.out) ?_); rintro e w' ⟨rfl, rfl⟩) | (go_at_call 30; (refine Calls.mono (show Calls _ _ _ _ _ from hfdH.out) ?_); rintro e w' ⟨rfl, rfl⟩)); go_roundw; (case rel => exact ⟨_, by omega, by go_num, hst, by trivial⟩); case measure => simp [intOf])
      · have hfin : Hid (aloneB s = false) := hno.out hx0 (by simpa using hvb)
        clear hok hno
        rcases hj6 with rfl | rfl | rfl | rfl | rfl <;> (go_wp2_with (first | (go_at_call 58; (refine Calls.mono (show Calls _ _ _ _ _ from hixH.out) ?_); rintro e w' ⟨rfl, rfl⟩) | (go_at_call 30; (refine Calls.mono (show Calls _ _ _ _ _ from hfdH.out) ?_); rintro e w' ⟨rfl, rfl⟩)); go_ret; exact ⟨by rw [hfin.out]; rfl, hg0⟩)
    · have hst : Hid _ := hok.out (Or.inl (by omega))
      clear hok hno
      rcases hj6 with rfl | rfl | rfl | rfl | rfl <;> (go_wp2_with (first | (go_at_call 58; (refine Calls.mono (show Calls _ _ _ _ _ from hixH.out) ?_); rintro e w' ⟨rfl, rfl⟩) | (go_at_call 30; (refine Calls.mono (show Calls _ _ _ _ _ from hfdH.out) ?_); rintro e w' ⟨rfl, rfl⟩)); go_roundw; (case rel => exact ⟨_, by omega, by go_num, hst, by trivial⟩); case measure => simp [intOf])


end Go.Proofs.YtoodkgmpggabdaaDoor
