/-
  query.tellsItsPartsAlone: has a step nothing that its kind doesn't tell?
-/
import Derived.Test.YtdgpighjfdikjaaDoorQLeaf
namespace Go.Proofs.YtdgpighjfdikjaaDoor
open Go.RowKit Go.Sort

/-- Does a kind tell this part? -/
def tellsB (k : Int) (p : UInt8) : Bool := decide (0 ≤ Lib.indexByte (partL k) p)
/-- The parts that are one number each, and what a step has there. -/
def prtL : List UInt8 := [65, 66, 67, 79, 86]
def Stp.at (s : Stp) (j : Nat) : Int := [s.a, s.b, s.c, s.o, s.v].getD j 0
def condB (s : Stp) (j : Nat) : Bool := tellsB s.k (prtL.getD j 0) || decide (s.at j = 0)
def aloneB (s : Stp) : Bool := (List.range 5).all (condB s) && (tellsB s.k 76 || s.l.isEmpty)
theorem alone_no {s : Stp} {j : Nat} (hj : j < 5) (h : condB s j = false) : aloneB s = false := by
  unfold aloneB
  rw [Bool.and_eq_false_iff]
  left
  rw [List.all_eq_false]
  exact ⟨j, List.mem_range.2 hj, by rw [h]; simp⟩
theorem indexByte_any (l : List UInt8) (p : UInt8) (w : World) : Calls Tryd.prog 58 #[.string ⟨l.toArray⟩, .int .u8 p.toNat] w fun e w' => e = .returned (.int .i64 (Lib.indexByte l p)) ∧ w' = w := by
  have h := Any.strings_IndexByte Tryd.laysIndexByte ⟨l.toArray⟩ (p.toNat : Int) w
  change Calls Tryd.prog 58 _ _ _ at h
  simpa using h

set_option maxRecDepth 100000 in
set_option maxHeartbeats 4000000 in
theorem alone_any (s : Stp) (w : World) :
    Calls Tryd.prog 45 #[.agg #[.int .i64 s.k, .int .i64 s.a, .int .i64 s.b, .int .i64 s.c, .int .i64 s.o, .int .i64 s.v, .slice s.p s.l.length s.n]] w fun e w' => e = .returned (.bool (aloneB s)) ∧ Gr w w' := by
  have hg0 : Gr w (w.alloc (.cells #[.int .i64 s.k, .int .i64 s.a, .int .i64 s.b, .int .i64 s.c, .int .i64 s.o, .int .i64 s.v, .slice s.p s.l.length s.n] 32)) := (Gr.refl w).alloc _
  have hfo := formOf_any s.k (w.alloc (.cells #[.int .i64 s.k, .int .i64 s.a, .int .i64 s.b, .int .i64 s.c, .int .i64 s.o, .int .i64 s.v, .slice s.p s.l.length s.n] 32))
  have hfoH : Hid _ := hfo
  clear hfo
  have c0 : (w.alloc (.cells #[.int .i64 s.k, .int .i64 s.a, .int .i64 s.b, .int .i64 s.c, .int .i64 s.o, .int .i64 s.v, .slice s.p s.l.length s.n] 32)).cell? ⟨w.heap.size, 0, none⟩ = some (.int .i64 s.k) := box1 (Gr.refl _) rfl
  go_enter Tryd.func45, Tryd.ntmps45
  go_wp2_with fail
  refine Calls.mono (show Calls _ _ _ _ _ from hfoH.out) ?_
  rintro e w1 ⟨rfl, rfl⟩
  clear hfoH c0
  go_wp2
  go_loopw [13] (fun i wr => ∃ j : Nat, j ≤ 5 ∧ i = .int .i64 j ∧ Hid (∀ m, m < j → condB s m = true) ∧ wr = (w.alloc (.cells #[.int .i64 s.k, .int .i64 s.a, .int .i64 s.b, .int .i64 s.c, .int .i64 s.o, .int .i64 s.v, .slice s.p s.l.length s.n] 32))) (fun i _ => 5 - (intOf i).toNat)
  case atStart => exact ⟨0, by omega, rfl, fun m h => by omega, by trivial⟩
  case round =>
    obtain ⟨j, hj, rfl, hall, rfl⟩ := hrel
    have hj6 : j = 0 ∨ j = 1 ∨ j = 2 ∨ j = 3 ∨ j = 4 ∨ j = 5 := by omega
    rcases hj6 with rfl | rfl | rfl | rfl | rfl | rfl
    · have cj : (w.alloc (.cells #[.int .i64 s.k, .int .i64 s.a, .int .i64 s.b, .int .i64 s.c, .int .i64 s.o, .int .i64 s.v, .slice s.p s.l.length s.n] 32)).cell? ⟨w.heap.size, 1, none⟩ = some (.int .i64 s.a) := box1 (Gr.refl _) rfl
      obtain ⟨x, hx⟩ : ∃ x, Lib.indexByte (partL s.k) 65 = x := ⟨_, rfl⟩
      have hix := indexByte_any (partL s.k) 65 (w.alloc (.cells #[.int .i64 s.k, .int .i64 s.a, .int .i64 s.b, .int .i64 s.c, .int .i64 s.o, .int .i64 s.v, .slice s.p s.l.length s.n] 32))
      have hfd := field_any w.heap.size 65 (w.alloc (.cells #[.int .i64 s.k, .int .i64 s.a, .int .i64 s.b, .int .i64 s.c, .int .i64 s.o, .int .i64 s.v, .slice s.p s.l.length s.n] 32))
      rw [hx] at hix
      have hixH : Hid (Calls Tryd.prog 58 #[.string ⟨(partL s.k).toArray⟩, .int .u8 65] _ _) := hix
      have hfdH : Hid (Calls Tryd.prog 30 _ _ fun e w' => e = .returned (.pointer (some ⟨w.heap.size, 1, none⟩)) ∧ w' = _) := hfd
      have hok : Hid ((0 ≤ x ∨ s.a = 0) → condB s 0 = true) := fun h => by
        show (decide (0 ≤ Lib.indexByte (partL s.k) 65) || decide (s.a = 0)) = true
        rw [hx]; simpa using h
      have hno : Hid (x < 0 → s.a ≠ 0 → aloneB s = false) := fun h1 h2 => alone_no (j := 0) (by omega) (by
        show (decide (0 ≤ Lib.indexByte (partL s.k) 65) || decide (s.a = 0)) = false
        rw [hx]; simp [h2]; omega)
      have hnx : Hid (condB s 0 = true → ∀ m, m < 0 + 1 → condB s m = true) := fun h m hm => by
        by_cases e : m = 0
        · rw [e]; exact h
        · exact hall m (by omega)
      clear hx hix hfd hall
      by_cases hx0 : x < 0
      · cases hv : (s.a != 0)
        · have hstep : Hid (∀ m, m < 0 + 1 → condB s m = true) := hnx.out (hok.out (Or.inr (by simpa using hv)))
          go_wp2_with (first | (go_at_call 58; (refine Calls.mono (show Calls _ _ _ _ _ from hixH.out) ?_); rintro e w' ⟨rfl, rfl⟩) | (go_at_call 30; (refine Calls.mono (show Calls _ _ _ _ _ from hfdH.out) ?_); rintro e w' ⟨rfl, rfl⟩))
          go_roundw
          case rel => exact ⟨0 + 1, by omega, by go_num, hstep, by trivial⟩
          case measure => simp [intOf]
        · have hfin : Hid (aloneB s = false) := hno.out hx0 (by simpa using hv)
          go_wp2_with (first | (go_at_call 58; (refine Calls.mono (show Calls _ _ _ _ _ from hixH.out) ?_); rintro e w' ⟨rfl, rfl⟩) | (go_at_call 30; (refine Calls.mono (show Calls _ _ _ _ _ from hfdH.out) ?_); rintro e w' ⟨rfl, rfl⟩))
          go_ret
          exact ⟨by rw [hfin.out]; rfl, hg0⟩
      · have hstep : Hid (∀ m, m < 0 + 1 → condB s m = true) := hnx.out (hok.out (Or.inl (by omega)))
        go_wp2_with (first | (go_at_call 58; (refine Calls.mono (show Calls _ _ _ _ _ from hixH.out) ?_); rintro e w' ⟨rfl, rfl⟩) | (go_at_call 30; (refine Calls.mono (show Calls _ _ _ _ _ from hfdH.out) ?_); rintro e w' ⟨rfl, rfl⟩))
        go_roundw
        case rel => exact ⟨0 + 1, by omega, by go_num, hstep, by trivial⟩
        case measure => simp [intOf]
    · have cj : (w.alloc (.cells #[.int .i64 s.k, .int .i64 s.a, .int .i64 s.b, .int .i64 s.c, .int .i64 s.o, .int .i64 s.v, .slice s.p s.l.length s.n] 32)).cell? ⟨w.heap.size, 2, none⟩ = some (.int .i64 s.b) := box1 (Gr.refl _) rfl
      obtain ⟨x, hx⟩ : ∃ x, Lib.indexByte (partL s.k) 66 = x := ⟨_, rfl⟩
      have hix := indexByte_any (partL s.k) 66 (w.alloc (.cells #[.int .i64 s.k, .int .i64 s.a, .int .i64 s.b, .int .i64 s.c, .int .i64 s.o, .int .i64 s.v, .slice s.p s.l.length s.n] 32))
      have hfd := field_any w.heap.size 66 (w.alloc (.cells #[.int .i64 s.k, .int .i64 s.a, .int .i64 s.b, .int .i64 s.c, .int .i64 s.o, .int .i64 s.v, .slice s.p s.l.length s.n] 32))
      rw [hx] at hix
      have hixH : Hid (Calls Tryd.prog 58 #[.string ⟨(partL s.k).toArray⟩, .int .u8 66] _ _) := hix
      have hfdH : Hid (Calls Tryd.prog 30 _ _ fun e w' => e = .returned (.pointer (some ⟨w.heap.size, 2, none⟩)) ∧ w' = _) := hfd
      have hok : Hid ((0 ≤ x ∨ s.b = 0) → condB s 1 = true) := fun h => by
        show (decide (0 ≤ Lib.indexByte (partL s.k) 66) || decide (s.b = 0)) = true
        rw [hx]; simpa using h
      have hno : Hid (x < 0 → s.b ≠ 0 → aloneB s = false) := fun h1 h2 => alone_no (j := 1) (by omega) (by
        show (decide (0 ≤ Lib.indexByte (partL s.k) 66) || decide (s.b = 0)) = false
        rw [hx]; simp [h2]; omega)
      have hnx : Hid (condB s 1 = true → ∀ m, m < 1 + 1 → condB s m = true) := fun h m hm => by
        by_cases e : m = 1
        · rw [e]; exact h
        · exact hall m (by omega)
      clear hx hix hfd hall
      by_cases hx0 : x < 0
      · cases hv : (s.b != 0)
        · have hstep : Hid (∀ m, m < 1 + 1 → condB s m = true) := hnx.out (hok.out (Or.inr (by simpa using hv)))
          go_wp2_with (first | (go_at_call 58; (refine Calls.mono (show Calls _ _ _ _ _ from hixH.out) ?_); rintro e w' ⟨rfl, rfl⟩) | (go_at_call 30; (refine Calls.mono (show Calls _ _ _ _ _ from hfdH.out) ?_); rintro e w' ⟨rfl, rfl⟩))
          go_roundw
          case rel => exact ⟨1 + 1, by omega, by go_num, hstep, by trivial⟩
          case measure => simp [intOf]
        · have hfin : Hid (aloneB s = false) := hno.out hx0 (by simpa using hv)
          go_wp2_with (first | (go_at_call 58; (refine Calls.mono (show Calls _ _ _ _ _ from hixH.out) ?_); rintro e w' ⟨rfl, rfl⟩) | (go_at_call 30; (refine Calls.mono (show Calls _ _ _ _ _ from hfdH.out) ?_); rintro e w' ⟨rfl, rfl⟩))
          go_ret
          exact ⟨by rw [hfin.out]; rfl, hg0⟩
      · have hstep : Hid (∀ m, m < 1 + 1 → condB s m = true) := hnx.out (hok.out (Or.inl (by omega)))
        go_wp2_with (first | (go_at_call 58; (refine Calls.mono (show Calls _ _ _ _ _ from hixH.out) ?_); rintro e w' ⟨rfl, rfl⟩) | (go_at_call 30; (refine Calls.mono (show Calls _ _ _ _ _ from hfdH.out) ?_); rintro e w' ⟨rfl, rfl⟩))
        go_roundw
        case rel => exact ⟨1 + 1, by omega, by go_num, hstep, by trivial⟩
        case measure => simp [intOf]
    · have cj : (w.alloc (.cells #[.int .i64 s.k, .int .i64 s.a, .int .i64 s.b, .int .i64 s.c, .int .i64 s.o, .int .i64 s.v, .slice s.p s.l.length s.n] 32)).cell? ⟨w.heap.size, 3, none⟩ = some (.int .i64 s.c) := box1 (Gr.refl _) rfl
      obtain ⟨x, hx⟩ : ∃ x, Lib.indexByte (partL s.k) 67 = x := ⟨_, rfl⟩
      have hix := indexByte_any (partL s.k) 67 (w.alloc (.cells #[.int .i64 s.k, .int .i64 s.a, .int .i64 s.b, .int .i64 s.c, .int .i64 s.o, .int .i64 s.v, .slice s.p s.l.length s.n] 32))
      have hfd := field_any w.heap.size 67 (w.alloc (.cells #[.int .i64 s.k, .int .i64 s.a, .int .i64 s.b, .int .i64 s.c, .int .i64 s.o, .int .i64 s.v, .slice s.p s.l.length s.n] 32))
      rw [hx] at hix
      have hixH : Hid (Calls Tryd.prog 58 #[.string ⟨(partL s.k).toArray⟩, .int .u8 67] _ _) := hix
      have hfdH : Hid (Calls Tryd.prog 30 _ _ fun e w' => e = .returned (.pointer (some ⟨w.heap.size, 3, none⟩)) ∧ w' = _) := hfd
      have hok : Hid ((0 ≤ x ∨ s.c = 0) → condB s 2 = true) := fun h => by
        show (decide (0 ≤ Lib.indexByte (partL s.k) 67) || decide (s.c = 0)) = true
        rw [hx]; simpa using h
      have hno : Hid (x < 0 → s.c ≠ 0 → aloneB s = false) := fun h1 h2 => alone_no (j := 2) (by omega) (by
        show (decide (0 ≤ Lib.indexByte (partL s.k) 67) || decide (s.c = 0)) = false
        rw [hx]; simp [h2]; omega)
      have hnx : Hid (condB s 2 = true → ∀ m, m < 2 + 1 → condB s m = true) := fun h m hm => by
        by_cases e : m = 2
        · rw [e]; exact h
        · exact hall m (by omega)
      clear hx hix hfd hall
      by_cases hx0 : x < 0
      · cases hv : (s.c != 0)
        · have hstep : Hid (∀ m, m < 2 + 1 → condB s m = true) := hnx.out (hok.out (Or.inr (by simpa using hv)))
          go_wp2_with (first | (go_at_call 58; (refine Calls.mono (show Calls _ _ _ _ _ from hixH.out) ?_); rintro e w' ⟨rfl, rfl⟩) | (go_at_call 30; (refine Calls.mono (show Calls _ _ _ _ _ from hfdH.out) ?_); rintro e w' ⟨rfl, rfl⟩))
          go_roundw
          case rel => exact ⟨2 + 1, by omega, by go_num, hstep, by trivial⟩
          case measure => simp [intOf]
        · have hfin : Hid (aloneB s = false) := hno.out hx0 (by simpa using hv)
          go_wp2_with (first | (go_at_call 58; (refine Calls.mono (show Calls _ _ _ _ _ from hixH.out) ?_); rintro e w' ⟨rfl, rfl⟩) | (go_at_call 30; (refine Calls.mono (show Calls _ _ _ _ _ from hfdH.out) ?_); rintro e w' ⟨rfl, rfl⟩))
          go_ret
          exact ⟨by rw [hfin.out]; rfl, hg0⟩
      · have hstep : Hid (∀ m, m < 2 + 1 → condB s m = true) := hnx.out (hok.out (Or.inl (by omega)))
        go_wp2_with (first | (go_at_call 58; (refine Calls.mono (show Calls _ _ _ _ _ from hixH.out) ?_); rintro e w' ⟨rfl, rfl⟩) | (go_at_call 30; (refine Calls.mono (show Calls _ _ _ _ _ from hfdH.out) ?_); rintro e w' ⟨rfl, rfl⟩))
        go_roundw
        case rel => exact ⟨2 + 1, by omega, by go_num, hstep, by trivial⟩
        case measure => simp [intOf]
    · have cj : (w.alloc (.cells #[.int .i64 s.k, .int .i64 s.a, .int .i64 s.b, .int .i64 s.c, .int .i64 s.o, .int .i64 s.v, .slice s.p s.l.length s.n] 32)).cell? ⟨w.heap.size, 4, none⟩ = some (.int .i64 s.o) := box1 (Gr.refl _) rfl
      obtain ⟨x, hx⟩ : ∃ x, Lib.indexByte (partL s.k) 79 = x := ⟨_, rfl⟩
      have hix := indexByte_any (partL s.k) 79 (w.alloc (.cells #[.int .i64 s.k, .int .i64 s.a, .int .i64 s.b, .int .i64 s.c, .int .i64 s.o, .int .i64 s.v, .slice s.p s.l.length s.n] 32))
      have hfd := field_any w.heap.size 79 (w.alloc (.cells #[.int .i64 s.k, .int .i64 s.a, .int .i64 s.b, .int .i64 s.c, .int .i64 s.o, .int .i64 s.v, .slice s.p s.l.length s.n] 32))
      rw [hx] at hix
      have hixH : Hid (Calls Tryd.prog 58 #[.string ⟨(partL s.k).toArray⟩, .int .u8 79] _ _) := hix
      have hfdH : Hid (Calls Tryd.prog 30 _ _ fun e w' => e = .returned (.pointer (some ⟨w.heap.size, 4, none⟩)) ∧ w' = _) := hfd
      have hok : Hid ((0 ≤ x ∨ s.o = 0) → condB s 3 = true) := fun h => by
        show (decide (0 ≤ Lib.indexByte (partL s.k) 79) || decide (s.o = 0)) = true
        rw [hx]; simpa using h
      have hno : Hid (x < 0 → s.o ≠ 0 → aloneB s = false) := fun h1 h2 => alone_no (j := 3) (by omega) (by
        show (decide (0 ≤ Lib.indexByte (partL s.k) 79) || decide (s.o = 0)) = false
        rw [hx]; simp [h2]; omega)
      have hnx : Hid (condB s 3 = true → ∀ m, m < 3 + 1 → condB s m = true) := fun h m hm => by
        by_cases e : m = 3
        · rw [e]; exact h
        · exact hall m (by omega)
      clear hx hix hfd hall
      by_cases hx0 : x < 0
      · cases hv : (s.o != 0)
        · have hstep : Hid (∀ m, m < 3 + 1 → condB s m = true) := hnx.out (hok.out (Or.inr (by simpa using hv)))
          go_wp2_with (first | (go_at_call 58; (refine Calls.mono (show Calls _ _ _ _ _ from hixH.out) ?_); rintro e w' ⟨rfl, rfl⟩) | (go_at_call 30; (refine Calls.mono (show Calls _ _ _ _ _ from hfdH.out) ?_); rintro e w' ⟨rfl, rfl⟩))
          go_roundw
          case rel => exact ⟨3 + 1, by omega, by go_num, hstep, by trivial⟩
          case measure => simp [intOf]
        · have hfin : Hid (aloneB s = false) := hno.out hx0 (by simpa using hv)
          go_wp2_with (first | (go_at_call 58; (refine Calls.mono (show Calls _ _ _ _ _ from hixH.out) ?_); rintro e w' ⟨rfl, rfl⟩) | (go_at_call 30; (refine Calls.mono (show Calls _ _ _ _ _ from hfdH.out) ?_); rintro e w' ⟨rfl, rfl⟩))
          go_ret
          exact ⟨by rw [hfin.out]; rfl, hg0⟩
      · have hstep : Hid (∀ m, m < 3 + 1 → condB s m = true) := hnx.out (hok.out (Or.inl (by omega)))
        go_wp2_with (first | (go_at_call 58; (refine Calls.mono (show Calls _ _ _ _ _ from hixH.out) ?_); rintro e w' ⟨rfl, rfl⟩) | (go_at_call 30; (refine Calls.mono (show Calls _ _ _ _ _ from hfdH.out) ?_); rintro e w' ⟨rfl, rfl⟩))
        go_roundw
        case rel => exact ⟨3 + 1, by omega, by go_num, hstep, by trivial⟩
        case measure => simp [intOf]
    · have cj : (w.alloc (.cells #[.int .i64 s.k, .int .i64 s.a, .int .i64 s.b, .int .i64 s.c, .int .i64 s.o, .int .i64 s.v, .slice s.p s.l.length s.n] 32)).cell? ⟨w.heap.size, 5, none⟩ = some (.int .i64 s.v) := box1 (Gr.refl _) rfl
      obtain ⟨x, hx⟩ : ∃ x, Lib.indexByte (partL s.k) 86 = x := ⟨_, rfl⟩
      have hix := indexByte_any (partL s.k) 86 (w.alloc (.cells #[.int .i64 s.k, .int .i64 s.a, .int .i64 s.b, .int .i64 s.c, .int .i64 s.o, .int .i64 s.v, .slice s.p s.l.length s.n] 32))
      have hfd := field_any w.heap.size 86 (w.alloc (.cells #[.int .i64 s.k, .int .i64 s.a, .int .i64 s.b, .int .i64 s.c, .int .i64 s.o, .int .i64 s.v, .slice s.p s.l.length s.n] 32))
      rw [hx] at hix
      have hixH : Hid (Calls Tryd.prog 58 #[.string ⟨(partL s.k).toArray⟩, .int .u8 86] _ _) := hix
      have hfdH : Hid (Calls Tryd.prog 30 _ _ fun e w' => e = .returned (.pointer (some ⟨w.heap.size, 5, none⟩)) ∧ w' = _) := hfd
      have hok : Hid ((0 ≤ x ∨ s.v = 0) → condB s 4 = true) := fun h => by
        show (decide (0 ≤ Lib.indexByte (partL s.k) 86) || decide (s.v = 0)) = true
        rw [hx]; simpa using h
      have hno : Hid (x < 0 → s.v ≠ 0 → aloneB s = false) := fun h1 h2 => alone_no (j := 4) (by omega) (by
        show (decide (0 ≤ Lib.indexByte (partL s.k) 86) || decide (s.v = 0)) = false
        rw [hx]; simp [h2]; omega)
      have hnx : Hid (condB s 4 = true → ∀ m, m < 4 + 1 → condB s m = true) := fun h m hm => by
        by_cases e : m = 4
        · rw [e]; exact h
        · exact hall m (by omega)
      clear hx hix hfd hall
      by_cases hx0 : x < 0
      · cases hv : (s.v != 0)
        · have hstep : Hid (∀ m, m < 4 + 1 → condB s m = true) := hnx.out (hok.out (Or.inr (by simpa using hv)))
          go_wp2_with (first | (go_at_call 58; (refine Calls.mono (show Calls _ _ _ _ _ from hixH.out) ?_); rintro e w' ⟨rfl, rfl⟩) | (go_at_call 30; (refine Calls.mono (show Calls _ _ _ _ _ from hfdH.out) ?_); rintro e w' ⟨rfl, rfl⟩))
          go_roundw
          case rel => exact ⟨4 + 1, by omega, by go_num, hstep, by trivial⟩
          case measure => simp [intOf]
        · have hfin : Hid (aloneB s = false) := hno.out hx0 (by simpa using hv)
          go_wp2_with (first | (go_at_call 58; (refine Calls.mono (show Calls _ _ _ _ _ from hixH.out) ?_); rintro e w' ⟨rfl, rfl⟩) | (go_at_call 30; (refine Calls.mono (show Calls _ _ _ _ _ from hfdH.out) ?_); rintro e w' ⟨rfl, rfl⟩))
          go_ret
          exact ⟨by rw [hfin.out]; rfl, hg0⟩
      · have hstep : Hid (∀ m, m < 4 + 1 → condB s m = true) := hnx.out (hok.out (Or.inl (by omega)))
        go_wp2_with (first | (go_at_call 58; (refine Calls.mono (show Calls _ _ _ _ _ from hixH.out) ?_); rintro e w' ⟨rfl, rfl⟩) | (go_at_call 30; (refine Calls.mono (show Calls _ _ _ _ _ from hfdH.out) ?_); rintro e w' ⟨rfl, rfl⟩))
        go_roundw
        case rel => exact ⟨4 + 1, by omega, by go_num, hstep, by trivial⟩
        case measure => simp [intOf]
    · have c6 : (w.alloc (.cells #[.int .i64 s.k, .int .i64 s.a, .int .i64 s.b, .int .i64 s.c, .int .i64 s.o, .int .i64 s.v, .slice s.p s.l.length s.n] 32)).cell? ⟨w.heap.size, 6, none⟩ = some (.slice s.p s.l.length s.n) := box1 (Gr.refl _) rfl
      obtain ⟨x, hx⟩ : ∃ x, Lib.indexByte (partL s.k) 76 = x := ⟨_, rfl⟩
      have hix := indexByte_any (partL s.k) 76 (w.alloc (.cells #[.int .i64 s.k, .int .i64 s.a, .int .i64 s.b, .int .i64 s.c, .int .i64 s.o, .int .i64 s.v, .slice s.p s.l.length s.n] 32))
      rw [hx] at hix
      have hixH : Hid (Calls Tryd.prog 58 #[.string ⟨(partL s.k).toArray⟩, .int .u8 76] _ _) := hix
      have hend : Hid (aloneB s = (decide (0 ≤ x) || s.l.isEmpty)) := by
        show _ = _
        unfold aloneB
        rw [List.all_eq_true.2 fun m hm => hall m (List.mem_range.1 hm)]
        show (true && (decide (0 ≤ Lib.indexByte (partL s.k) 76) || s.l.isEmpty)) = _
        rw [hx]; simp
      clear hx hix hall
      by_cases hx0 : 0 ≤ x
      · have hfin : Hid (aloneB s = true) := by show _ = _; rw [hend.out]; simp [hx0]
        go_wp2_with (go_at_call 58; (refine Calls.mono (show Calls _ _ _ _ _ from hixH.out) ?_); rintro e w' ⟨rfl, rfl⟩)
        go_ret
        exact ⟨by rw [hfin.out]; rfl, hg0⟩
      · by_cases hl0 : s.l = []
        · have hfin : Hid (aloneB s = true) := by show _ = _; rw [hend.out, hl0]; simp
          have hl00 : ((s.l.length : Int) == 0) = true := by rw [hl0]; rfl
          clear hl0
          go_wp2_with (go_at_call 58; (refine Calls.mono (show Calls _ _ _ _ _ from hixH.out) ?_); rintro e w' ⟨rfl, rfl⟩)
          go_ret
          exact ⟨by rw [hfin.out]; rfl, hg0⟩
        · have hfin : Hid (aloneB s = false) := by show _ = _; rw [hend.out]; simp [hl0]; omega
          have hl00 : ((s.l.length : Int) == 0) = false := by
            have := List.length_pos_iff.2 hl0
            simp; omega
          have hxd : decide (0 ≤ x) = false := by simpa using hx0
          clear hl0
          go_wp2_with (go_at_call 58; (refine Calls.mono (show Calls _ _ _ _ _ from hixH.out) ?_); rintro e w' ⟨rfl, rfl⟩)
          go_ret
          exact ⟨by rw [hfin.out, ← hxd]; rfl, hg0⟩

end Go.Proofs.YtdgpighjfdikjaaDoor
