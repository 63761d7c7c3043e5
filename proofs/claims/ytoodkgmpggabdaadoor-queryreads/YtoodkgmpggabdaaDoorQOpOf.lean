/-
  query.opOf, query.kindOf: the op of a sign, the kind of a word.
-/
import Derived.Test.YtoodkgmpggabdaaDoorQNum
namespace Go.Proofs.YtoodkgmpggabdaaDoor
open Go.RowKit Go.Sort

theorem signP_range (x : List UInt8) : 0 ≤ signP x ∧ signP x ≤ 3 := by
  unfold signP
  repeat' split
  all_goals decide
set_option maxHeartbeats 1000000 in
theorem opOf_any (x : List UInt8) (w : World) : Calls Tryd.prog 27 #[.string ⟨x.toArray⟩] w fun e w' => e = .returned (.int .i64 (signP x)) ∧ w' = w := by
  go_enter Tryd.func27, Tryd.ntmps27
  go_wp2
  go_loopw [3] (fun i wr => ∃ j : Nat, j ≤ 3 ∧ i = .int .i64 ((j : Int) + 1) ∧ Hid (∀ m : Nat, m < j → signL ((m : Int) + 1) ≠ x) ∧ wr = w) (fun i _ => 4 - (intOf i).toNat)
  case atStart => exact ⟨0, Nat.zero_le _, rfl, fun m h => by omega, rfl⟩
  case round =>
    obtain ⟨j, hj, rfl, hall, rfl⟩ := hrel
    by_cases hlt : j < 3
    · have hle : decide ((j : Int) + 1 ≤ 3) = true := decide_eq_true (by omega)
      have hsg := signOf_any ((j : Int) + 1) wr
      have hsgH : Hid _ := hsg
      clear hsg
      by_cases hq : signL ((j : Int) + 1) = x
      · have hfin : Hid (signP x = (j : Int) + 1) := by
          show _ = _
          rw [← hq]
          exact signP_back (by omega)
        rw [hq] at hsgH
        clear hq
        go_wp2_with (go_at_call 41; (refine Calls.mono (show Calls _ _ _ _ _ from hsgH.out) ?_); rintro e w' ⟨rfl, rfl⟩)
        go_ret
        exact ⟨by rw [hfin.out]; rfl, rfl⟩
      · have hb : (signL ((j : Int) + 1) == x) = false := by simpa using hq
        have hqH : Hid (signL ((j : Int) + 1) ≠ x) := hq
        clear hq
        go_wp2_with (go_at_call 41; (refine Calls.mono (show Calls _ _ _ _ _ from hsgH.out) ?_); rintro e w' ⟨rfl, rfl⟩)
        go_roundw
        case rel =>
          refine ⟨j + 1, by omega, by go_num, ?_, by trivial⟩
          intro m hm
          by_cases e : m = j
          · subst e; exact hqH.out
          · exact hall m (by omega)
        case measure => simp [intOf]; omega
    · have hle : decide ((j : Int) + 1 ≤ 3) = false := decide_eq_false (by omega)
      have hfin : Hid (signP x = 0) := by
        show _ = _
        by_cases h0 : signP x = 0
        · exact h0
        · have hr := signP_range x
          have ht := signP_text h0
          exact absurd (by rw [show (((signP x).toNat - 1 : Nat) : Int) + 1 = signP x by omega]; exact ht) (hall ((signP x).toNat - 1) (by omega))
      go_wp2
      go_ret
      exact ⟨by rw [hfin.out]; rfl, rfl⟩

set_option maxHeartbeats 1000000 in
theorem kindOf_any (x : List UInt8) (w : World) : Calls Tryd.prog 18 #[.string ⟨x.toArray⟩] w fun e w' => e = .returned (.int .i64 (kindP x)) ∧ w' = w := by
  go_enter Tryd.func18, Tryd.ntmps18
  go_wp2
  go_loopw [3] (fun i wr => ∃ j : Nat, j ≤ 9 ∧ i = .int .i64 ((j : Int) + 1) ∧ Hid (∀ m : Nat, m < j → wordL ((m : Int) + 1) ≠ x) ∧ wr = w) (fun i _ => 10 - (intOf i).toNat)
  case atStart => exact ⟨0, Nat.zero_le _, rfl, fun m h => by omega, rfl⟩
  case round =>
    obtain ⟨j, hj, rfl, hall, rfl⟩ := hrel
    by_cases hlt : j < 9
    · have hle : decide ((j : Int) + 1 ≤ 9) = true := decide_eq_true (by omega)
      have hsg := formOf_any ((j : Int) + 1) wr
      obtain ⟨P, hP⟩ : ∃ P, partL ((j : Int) + 1) = P := ⟨_, rfl⟩
      rw [hP] at hsg
      have hsgH : Hid _ := hsg
      clear hsg hP
      by_cases hq : wordL ((j : Int) + 1) = x
      · have hfin : Hid (kindP x = (j : Int) + 1) := by
          show _ = _
          rw [← hq]
          exact kindP_back (by omega)
        rw [hq] at hsgH
        clear hq
        go_wp2_with (go_at_call 19; (refine Calls.mono (show Calls _ _ _ _ _ from hsgH.out) ?_); rintro e w' ⟨rfl, rfl⟩)
        go_ret
        exact ⟨by rw [hfin.out]; rfl, rfl⟩
      · have hb : (wordL ((j : Int) + 1) == x) = false := by simpa using hq
        have hqH : Hid (wordL ((j : Int) + 1) ≠ x) := hq
        clear hq
        go_wp2_with (go_at_call 19; (refine Calls.mono (show Calls _ _ _ _ _ from hsgH.out) ?_); rintro e w' ⟨rfl, rfl⟩)
        go_roundw
        case rel =>
          refine ⟨j + 1, by omega, by go_num, ?_, by trivial⟩
          intro m hm
          by_cases e : m = j
          · subst e; exact hqH.out
          · exact hall m (by omega)
        case measure => simp [intOf]; omega
    · have hle : decide ((j : Int) + 1 ≤ 9) = false := decide_eq_false (by omega)
      have hfin : Hid (kindP x = 0) := by
        show _ = _
        by_cases h0 : kindP x = 0
        · exact h0
        · have ht := kindP_word h0
          exact absurd (by rw [show (((kindP x).toNat - 1 : Nat) : Int) + 1 = kindP x by omega]; exact ht.1) (hall ((kindP x).toNat - 1) (by omega))
      go_wp2
      go_ret
      exact ⟨by rw [hfin.out]; rfl, rfl⟩
end Go.Proofs.YtoodkgmpggabdaaDoor
