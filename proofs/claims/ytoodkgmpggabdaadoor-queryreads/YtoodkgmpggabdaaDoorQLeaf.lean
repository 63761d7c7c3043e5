/-
  Steps of a query: what they are in memory; the small functions of package query.
-/
import Derived.Test.YtoodkgmpggabdaaDoorQInts
import Derived.Test.YtoodkgmpggabdaaDoorShelfQ
namespace Go.Proofs.YtoodkgmpggabdaaDoor
open Go.RowKit Go.Sort

/-- Is n from 0 to k less 1? -/
def belowB (n k : Int) : Bool := decide (0 ≤ n) && decide (n < k)
set_option maxHeartbeats 400000 in
theorem isBelow_any (n k : Int) (w : World) : Calls Tryd.prog 46 #[.int .i64 n, .int .i64 k] w fun e w' => e = .returned (.bool (belowB n k)) ∧ w' = w := by
  by_cases h1 : 0 ≤ n
  · by_cases h2 : n < k
    · have e : belowB n k = true := by simp [belowB]; omega
      rw [e]; clear e
      go_enter Tryd.func46, Tryd.ntmps46
      go_wp2
      go_ret
      exact ⟨rfl, rfl⟩
    · have e : belowB n k = false := by simp [belowB]; omega
      rw [e]; clear e
      go_enter Tryd.func46, Tryd.ntmps46
      go_wp2
      go_ret
      exact ⟨rfl, rfl⟩
  · have e : belowB n k = false := by simp [belowB]; omega
    rw [e]; clear e
    go_enter Tryd.func46, Tryd.ntmps46
    go_wp2
    go_ret
    exact ⟨rfl, rfl⟩
/-- Is it one of the three? -/
def opB (n : Int) : Bool := decide (n = 1 ∨ n = 2 ∨ n = 3)
set_option maxHeartbeats 400000 in
theorem isOp_any (n : Int) (w : World) : Calls Tryd.prog 59 #[.int .i64 n] w fun e w' => e = .returned (.bool (opB n)) ∧ w' = w := by
  by_cases h1 : n = 1
  · subst h1
    go_enter Tryd.func59, Tryd.ntmps59
    go_wp2
    go_ret
    exact ⟨rfl, rfl⟩
  · by_cases h2 : n = 2
    · subst h2
      go_enter Tryd.func59, Tryd.ntmps59
      go_wp2
      go_ret
      exact ⟨rfl, rfl⟩
    · by_cases h3 : n = 3
      · subst h3
        go_enter Tryd.func59, Tryd.ntmps59
        go_wp2
        go_ret
        exact ⟨rfl, rfl⟩
      · have e : opB n = false := by simp [opB]; omega
        have e1 : (n == 1) = false := by simpa using h1
        have e2 : (n == 2) = false := by simpa using h2
        have e3 : (n == 3) = false := by simpa using h3
        rw [e]; clear e h1 h2 h3
        go_enter Tryd.func59, Tryd.ntmps59
        go_wp2
        go_ret
        exact ⟨rfl, rfl⟩
/-- May a row have this number? -/
def numB (n : Int) : Bool := inB n (-1073741824) 1073741824
set_option maxHeartbeats 400000 in
theorem isNumber_any (n : Int) (w : World) : Calls Tryd.prog 60 #[.int .i64 n] w fun e w' => e = .returned (.bool (numB n)) ∧ w' = w := by
  by_cases h1 : -1073741824 ≤ n
  · by_cases h2 : n ≤ 1073741824
    · have e : numB n = true := by simp [numB, inB]; omega
      rw [e]; clear e
      go_enter Tryd.func60, Tryd.ntmps60
      go_wp2
      go_ret
      exact ⟨rfl, rfl⟩
    · have e : numB n = false := by simp [numB, inB]; omega
      rw [e]; clear e
      go_enter Tryd.func60, Tryd.ntmps60
      go_wp2
      go_ret
      exact ⟨rfl, rfl⟩
  · have e : numB n = false := by simp [numB, inB]; omega
    rw [e]; clear e
    go_enter Tryd.func60, Tryd.ntmps60
    go_wp2
    go_ret
    exact ⟨rfl, rfl⟩

set_option maxHeartbeats 1000000 in
theorem areBelow_any (l : List Int) (k : Int) (A : Option Addr) (cap : Nat) (w : World) (hl : l.length ≤ maxLen) (hr : RowI w A l) :
    Calls Tryd.prog 61 #[.slice A l.length cap, .int .i64 k] w fun e w' => e = .returned (.bool (l.all fun n => belowB n k)) ∧ Gr w w' := by
  unfold maxLen at hl
  go_enter Tryd.func61, Tryd.ntmps61
  go_wp2
  go_loopw [9] (fun i wr => ∃ j : Nat, j ≤ l.length ∧ i = .int .i64 j ∧ Hid (∀ m (h : m < l.length), m < j → belowB l[m] k = true) ∧ wr = w) (fun i _ => l.length - (intOf i).toNat)
  case atStart => exact ⟨0, Nat.zero_le _, rfl, fun m _ h => by omega, rfl⟩
  case round =>
    obtain ⟨j, hj, rfl, hall, rfl⟩ := hrel
    by_cases hlt : j < l.length
    · have hltz : (j : Int) < (l.length : Int) := by omega
      obtain ⟨b, off, rfl, hb, hcs⟩ := hr.at hlt
      have e0 := hcs j hlt 0 (by omega)
      obtain ⟨x, hx⟩ : ∃ y, l[j] = y := ⟨_, rfl⟩
      rw [hx] at e0
      have e1 : wr.cell? ⟨b, off + j, none⟩ = some (.int .i64 x) := by simpa [encI] using e0
      have hxH : Hid (l[j] = x) := hx
      clear hcs e0 hx
      cases hq : belowB x k
      · have hib := isBelow_any x k wr
        rw [hq] at hib
        have hibH : Hid _ := hib
        have hfin : Hid ((l.all fun n => belowB n k) = false) := by
          show _ = _
          rw [List.all_eq_false]
          exact ⟨l[j], List.getElem_mem hlt, by rw [hxH.out, hq]; simp⟩
        clear hib
        go_wp2_with (go_at_call 46; (refine Calls.mono (show Calls _ _ _ _ _ from hibH.out) ?_); rintro e w' ⟨rfl, rfl⟩)
        go_ret
        exact ⟨by rw [hfin.out]; rfl, Gr.refl _⟩
      · have hib := isBelow_any x k wr
        rw [hq] at hib
        have hibH : Hid _ := hib
        clear hib
        have hqH : Hid (belowB l[j] k = true) := by show _ = _; rw [hxH.out]; exact hq
        clear hq
        go_wp2_with (go_at_call 46; (refine Calls.mono (show Calls _ _ _ _ _ from hibH.out) ?_); rintro e w' ⟨rfl, rfl⟩)
        go_roundw
        case rel =>
          refine ⟨j + 1, by omega, by go_num, ?_, by trivial⟩
          intro m hm hmj
          by_cases e : m = j
          · subst e; exact hqH.out
          · exact hall m hm (by omega)
        case measure => simp [intOf]; omega
    · have hltz : ¬ (j : Int) < (l.length : Int) := by omega
      have hfin : Hid ((l.all fun n => belowB n k) = true) := by
        show _ = _
        rw [List.all_eq_true]
        intro x hx
        obtain ⟨m, hm, rfl⟩ := List.mem_iff_getElem.1 hx
        exact hall m hm (by omega)
      go_wp2
      go_ret
      exact ⟨by rw [hfin.out]; rfl, Gr.refl _⟩

/-- A step: its six numbers, and its list: where it lies, the room there, its numbers. -/
structure Stp where
  k : Int
  a : Int
  b : Int
  c : Int
  o : Int
  v : Int
  p : Option Addr
  n : Nat
  l : List Int
def encQ (s : Stp) : List Value := [.int .i64 s.k, .int .i64 s.a, .int .i64 s.b, .int .i64 s.c, .int .i64 s.o, .int .i64 s.v, .slice s.p s.l.length s.n]
theorem encQ_len (s : Stp) : (encQ s).length = 7 := rfl
theorem encQ_one (s : Stp) : ∀ u ∈ encQ s, u.oneCell' = true := by
  intro u hu
  simp [encQ] at hu
  rcases hu with rfl | rfl | rfl | rfl | rfl | rfl | rfl <;> rfl

/-- The word that a kind's lines begin with. -/
def wordL (k : Int) : List UInt8 := if k = 1 then [116, 97, 98, 108, 101] else if k = 2 then [119, 104, 101, 114, 101] else if k = 3 then [112, 105, 99, 107] else if k = 4 then [106, 111, 105, 110] else if k = 5 then [117, 110, 105, 111, 110] else if k = 6 then [109, 105, 110, 117, 115] else if k = 7 then [100, 105, 115, 116, 105, 110, 99, 116] else if k = 8 then [99, 111, 117, 110, 116] else if k = 9 then [115, 117, 109] else []
/-- The parts that are told behind it. -/
def partL (k : Int) : List UInt8 := if k = 1 then [65] else if k = 2 then [65, 67, 79, 86] else if k = 3 then [65, 76] else if k = 4 then [65, 66, 67, 86] else if k = 5 then [65, 66] else if k = 6 then [65, 66] else if k = 7 then [65] else if k = 8 then [65, 67] else if k = 9 then [65, 67, 86] else []

set_option maxRecDepth 100000 in
set_option maxHeartbeats 1000000 in
theorem formOf_any (k : Int) (w : World) : Calls Tryd.prog 19 #[.int .i64 k] w fun e w' => e = .returned (.tuple #[.string ⟨(wordL k).toArray⟩, .string ⟨(partL k).toArray⟩]) ∧ w' = w := by
  by_cases h1 : k = 1
  · subst h1
    go_enter Tryd.func19, Tryd.ntmps19
    go_wp2
    go_ret2
    exact ⟨rfl, rfl⟩
  by_cases h2 : k = 2
  · subst h2
    go_enter Tryd.func19, Tryd.ntmps19
    go_wp2
    go_ret2
    exact ⟨rfl, rfl⟩
  by_cases h3 : k = 3
  · subst h3
    go_enter Tryd.func19, Tryd.ntmps19
    go_wp2
    go_ret2
    exact ⟨rfl, rfl⟩
  by_cases h4 : k = 4
  · subst h4
    go_enter Tryd.func19, Tryd.ntmps19
    go_wp2
    go_ret2
    exact ⟨rfl, rfl⟩
  by_cases h5 : k = 5
  · subst h5
    go_enter Tryd.func19, Tryd.ntmps19
    go_wp2
    go_ret2
    exact ⟨rfl, rfl⟩
  by_cases h6 : k = 6
  · subst h6
    go_enter Tryd.func19, Tryd.ntmps19
    go_wp2
    go_ret2
    exact ⟨rfl, rfl⟩
  by_cases h7 : k = 7
  · subst h7
    go_enter Tryd.func19, Tryd.ntmps19
    go_wp2
    go_ret2
    exact ⟨rfl, rfl⟩
  by_cases h8 : k = 8
  · subst h8
    go_enter Tryd.func19, Tryd.ntmps19
    go_wp2
    go_ret2
    exact ⟨rfl, rfl⟩
  by_cases h9 : k = 9
  · subst h9
    go_enter Tryd.func19, Tryd.ntmps19
    go_wp2
    go_ret2
    exact ⟨rfl, rfl⟩
  have e1 : wordL k = [] := by unfold wordL; rw [if_neg h1, if_neg h2, if_neg h3, if_neg h4, if_neg h5, if_neg h6, if_neg h7, if_neg h8, if_neg h9]
  have e2 : partL k = [] := by unfold partL; rw [if_neg h1, if_neg h2, if_neg h3, if_neg h4, if_neg h5, if_neg h6, if_neg h7, if_neg h8, if_neg h9]
  have q1 : (k == 1) = false := by simpa using h1
  have q2 : (k == 2) = false := by simpa using h2
  have q3 : (k == 3) = false := by simpa using h3
  have q4 : (k == 4) = false := by simpa using h4
  have q5 : (k == 5) = false := by simpa using h5
  have q6 : (k == 6) = false := by simpa using h6
  have q7 : (k == 7) = false := by simpa using h7
  have q8 : (k == 8) = false := by simpa using h8
  have q9 : (k == 9) = false := by simpa using h9
  rw [e1, e2]
  clear h1 h2 h3 h4 h5 h6 h7 h8 h9 e1 e2
  go_enter Tryd.func19, Tryd.ntmps19
  go_wp2
  go_ret2
  exact ⟨rfl, rfl⟩

/-- Which of a step's cells a part is. -/
def fldI (p : Int) : Nat := if p = 65 then 1 else if p = 66 then 2 else if p = 67 then 3 else if p = 79 then 4 else 5
set_option maxHeartbeats 1000000 in
theorem field_any (b : Nat) (p : Int) (w : World) : Calls Tryd.prog 30 #[.pointer (some ⟨b, 0, none⟩), .int .u8 p] w fun e w' => e = .returned (.pointer (some ⟨b, fldI p, none⟩)) ∧ w' = w := by
  by_cases h1 : p = 65
  · subst h1
    go_enter Tryd.func30, Tryd.ntmps30
    go_wp2
    go_ret
    exact ⟨rfl, rfl⟩
  by_cases h2 : p = 66
  · subst h2
    go_enter Tryd.func30, Tryd.ntmps30
    go_wp2
    go_ret
    exact ⟨rfl, rfl⟩
  by_cases h3 : p = 67
  · subst h3
    go_enter Tryd.func30, Tryd.ntmps30
    go_wp2
    go_ret
    exact ⟨rfl, rfl⟩
  by_cases h4 : p = 79
  · subst h4
    go_enter Tryd.func30, Tryd.ntmps30
    go_wp2
    go_ret
    exact ⟨rfl, rfl⟩
  have e1 : fldI p = 5 := by unfold fldI; rw [if_neg h1, if_neg h2, if_neg h3, if_neg h4]
  have q1 : (p == 65) = false := by simpa using h1
  have q2 : (p == 66) = false := by simpa using h2
  have q3 : (p == 67) = false := by simpa using h3
  have q4 : (p == 79) = false := by simpa using h4
  rw [e1]
  clear h1 h2 h3 h4 e1
  go_enter Tryd.func30, Tryd.ntmps30
  go_wp2
  go_ret
  exact ⟨rfl, rfl⟩

end Go.Proofs.YtoodkgmpggabdaaDoor
