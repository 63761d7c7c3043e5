/-
  viewref.Whole: a word that is a number.
-/
import Derived.Test.YtoodkgmpggabdaaDoorRWholeM
import Derived.Test.YtoodkgmpggabdaaDoorQCheck
namespace Go.Proofs.YtoodkgmpggabdaaDoor
open Go.RowKit Go.Sort

theorem inQ_w {n lo hi : Int} {r : Bool} (h : inB n lo hi = r) (w : World) : Calls Tryd.prog 33 #[.int .i64 n, .int .i64 lo, .int .i64 hi] w fun e w' => e = .returned (.bool r) ∧ w' = w := by
  subst h
  by_cases h1 : lo ≤ n
  · by_cases h2 : n ≤ hi
    · have e : inB n lo hi = true := by unfold inB; rw [decide_eq_true h1, decide_eq_true h2]; rfl
      rw [e]; clear e
      go_enter Tryd.func33, Tryd.ntmps33
      go_wp2
      go_ret
      exact ⟨by simp, rfl⟩
    · have e : inB n lo hi = false := by unfold inB; rw [decide_eq_false h2, Bool.and_false]
      rw [e]; clear e
      go_enter Tryd.func33, Tryd.ntmps33
      go_wp2
      go_ret
      exact ⟨by simp, rfl⟩
  · have e : inB n lo hi = false := by unfold inB; rw [decide_eq_false h1, Bool.false_and]
    rw [e]; clear e
    have h1z : n < lo := by omega
    go_enter Tryd.func33, Tryd.ntmps33
    go_wp2
    go_ret
    exact ⟨by simp, rfl⟩
/-- What Whole answers. -/
def whlN (x : List UInt8) : Int := (numP x).getD 0
def whlB (x : List UInt8) : Bool := (numP x).isSome
theorem whl_none {x : List UInt8} (h : numP x = none) : whlN x = 0 ∧ whlB x = false := by unfold whlN whlB; rw [h]; exact ⟨rfl, rfl⟩
theorem whl_some {x : List UInt8} {n : Int} (h : numP x = some n) : whlN x = n ∧ whlB x = true := by unfold whlN whlB; rw [h]; exact ⟨rfl, rfl⟩

set_option maxRecDepth 100000 in
set_option maxHeartbeats 4000000 in
theorem whole_minus (y : List UInt8) (x : List UInt8) (hx : x = 45 :: y) (X Y : ByteArray) (w : World) (hXs : X.size = y.length + 1) (hX0 : X[0]'(by omega) = 45) (hXY : X.extract 1 (y.length + 1) = Y) (hYs : Y.size = y.length) (hYi : ∀ j (h : j < y.length), Y[j]'(by omega) = y[j]) (hyl : y.length ≤ 2000) (N : Int) (B9 : Bool) (hN : whlN x = N) (hB9 : whlB x = B9) :
    Calls Tryd.prog 32 #[.string X, .int .i64 10] w fun e w' => e = .returned (.tuple #[.int .i64 N, .bool B9]) ∧ w' = w := by
  have hYiH : Hid (∀ j (h : j < y.length), Y[j]'(by omega) = y[j]) := hYi
  have hNB : Hid (whlN x = N ∧ whlB x = B9) := ⟨hN, hB9⟩
  clear hYi hN hB9
  have h45 : ((45 : UInt8).toNat : Int) = 45 := rfl
  have hsz : (0 : Int) < (y.length : Int) + 1 := by omega
  have h1s : (1 : Int) ≤ (y.length : Int) + 1 := by omega
  go_enter Tryd.func32, Tryd.ntmps32
  go_wp2
  go_loopw [7, 8] (fun n i wr => ∃ (k u : Nat), k ≤ y.length ∧ k ≤ 12 ∧ i = .int .i64 k ∧ n = .int .i64 u ∧ Hid (Lib.decFrom 0 (y.take k) = some u ∧ u < 10 ^ k) ∧ wr = w) (fun _ i _ => 12 - (intOf i).toNat)
  case atStart => exact ⟨0, 0, Nat.zero_le _, by omega, rfl, rfl, ⟨rfl, by decide⟩, rfl⟩
  case round =>
    obtain ⟨k, u, hk, hk12, rfl, rfl, hU, hwr⟩ := hrel
    subst hwr
    by_cases hgo : k < y.length ∧ k < 12
    · have g1 : (k : Int) < (y.length : Int) := by omega
      have g2 : (k : Int) < 12 := by omega
      have hku := Nat.pow_le_pow_right (show 0 < 10 by omega) (show k ≤ 11 by omega)
      have hub : u < 100000000000 := by have := hU.out.2; omega
      obtain ⟨b, hb⟩ : ∃ b, y[k]'hgo.1 = b := ⟨_, rfl⟩
      have hYk := hYiH.out k hgo.1
      rw [hb] at hYk
      have hb8 : b.toNat < 256 := UInt8.toNat_lt b
      have hst := decFrom_step hgo.1 hb hU.out.1
      by_cases hdg : 48 ≤ b.toNat ∧ b.toNat ≤ 57
      · have hdv : Lib.digitVal b = some (b.toNat - 48) := by unfold Lib.digitVal; rw [if_pos hdg]
        rw [hdv] at hst
        have q1 : ¬ (b.toNat : Int) < 48 := by omega
        have q2 : ¬ (57 : Int) < (b.toNat : Int) := by omega
        have hnext : Hid (Lib.decFrom 0 (y.take (k + 1)) = some (u * 10 + (b.toNat - 48)) ∧ u * 10 + (b.toNat - 48) < 10 ^ (k + 1)) := ⟨hst, by have := hU.out.2; rw [Nat.pow_succ]; omega⟩
        have q1d : decide ((b.toNat : Int) < 48) = false := decide_eq_false q1
        obtain ⟨v, hv⟩ : ∃ v : Nat, u * 10 + (b.toNat - 48) = v := ⟨_, rfl⟩
        have hvz : (u : Int) * 10 + (b.toNat : Int) - 48 = (v : Int) := by omega
        have hw1 : IntKind.i64.wrap ((u : Int) * 10) = (u : Int) * 10 := by rw [IntKind.wrap_i64]; omega
        have hw2 : IntKind.i64.wrap (b.toNat : Int) = (b.toNat : Int) := by rw [IntKind.wrap_i64]; omega
        have hw3 : IntKind.i64.wrap ((u : Int) * 10 + (b.toNat : Int)) = (u : Int) * 10 + (b.toNat : Int) := by rw [IntKind.wrap_i64]; omega
        have hw4 : IntKind.i64.wrap ((u : Int) * 10 + (b.toNat : Int) - 48) = (u : Int) * 10 + (b.toNat : Int) - 48 := by rw [IntKind.wrap_i64]; omega
        rw [hv] at hnext
        clear hst hU hb hdv hku
        go_wp2
        go_roundw
        case rel => exact ⟨k + 1, v, by omega, by omega, by go_num, by first | rfl | (congr 1; omega) | simp [hvz], hnext, by first | trivial | rfl⟩
        case measure => simp [intOf]; omega
      · have hdv : Lib.digitVal b = none := by unfold Lib.digitVal; rw [if_neg hdg]
        rw [hdv] at hst
        have hbad : Hid (numP x = none) := by show _ = _; rw [hx]; exact num_none_minus (fun u h => by have := decFrom_bad hst; rw [h.1] at this; cases this)
        clear hst hU hb hdv hku
        by_cases q1 : (b.toNat : Int) < 48
        · go_wp2
          go_ret2
          exact ⟨by rw [← hNB.out.1, ← hNB.out.2, (whl_none hbad.out).1, (whl_none hbad.out).2]; rfl, rfl⟩
        · have q1d : decide ((b.toNat : Int) < 48) = false := decide_eq_false q1
          have q2 : (57 : Int) < (b.toNat : Int) := by omega
          go_wp2
          go_ret2
          exact ⟨by rw [← hNB.out.1, ← hNB.out.2, (whl_none hbad.out).1, (whl_none hbad.out).2]; rfl, rfl⟩
    · have hub : u < 1000000000000 := by
        have h1 := hU.out.2
        have h2 := Nat.pow_le_pow_right (show 0 < 10 by omega) hk12
        omega
      obtain ⟨B, hB⟩ : ∃ B, inB (y.length : Int) 1 10 = B := ⟨_, rfl⟩
      have hIn : Hid (∀ W, Calls Tryd.prog 33 #[.int .i64 (y.length : Int), .int .i64 1, .int .i64 10] W fun e w' => e = .returned (.bool B) ∧ w' = W) := fun W => inQ_w hB W
      have hexit : (decide ((k : Int) < (y.length : Int)) && decide ((k : Int) < 12)) = false := by
        by_cases h1 : k < y.length
        · have : ¬ k < 12 := fun h2 => hgo ⟨h1, h2⟩
          rw [decide_eq_false (show ¬ (k : Int) < 12 by omega), Bool.and_false]
        · rw [decide_eq_false (show ¬ (k : Int) < (y.length : Int) by omega), Bool.false_and]
      cases B
      · have hbad : Hid (numP x = none) := by show _ = _; rw [hx]; exact num_none_minus (fun u h => by
          simp only [inB, Bool.and_eq_false_iff, decide_eq_false_iff_not] at hB
          have h2 := h.2.1
          have h3 := h.2.2.1
          omega)
        clear hB hU
        by_cases h1 : (k : Int) < (y.length : Int)
        · have h2 : ¬ (k : Int) < 12 := by omega
          have h2d : decide ((k : Int) < 12) = false := decide_eq_false h2
          go_wp2_with (go_at_call 33; refine Calls.mono (hIn.out _) ?_; rintro e w2 ⟨rfl, hw2⟩; subst w2)
          go_ret2
          exact ⟨by rw [← hNB.out.1, ← hNB.out.2, (whl_none hbad.out).1, (whl_none hbad.out).2]; rfl, rfl⟩
        · go_wp2_with (go_at_call 33; refine Calls.mono (hIn.out _) ?_; rintro e w2 ⟨rfl, hw2⟩; subst w2)
          go_ret2
          exact ⟨by rw [← hNB.out.1, ← hNB.out.2, (whl_none hbad.out).1, (whl_none hbad.out).2]; rfl, rfl⟩
      · have hl : 1 ≤ y.length ∧ y.length ≤ 10 := by
          simp only [inB, Bool.and_eq_true, decide_eq_true_eq] at hB
          omega
        have hk1 : k = y.length := by omega
        subst hk1
        have hdf : Hid (Lib.decFrom 0 y = some u) := by have := hU.out.1; rw [List.take_length] at this; exact this
        have g1 : ¬ ((y.length : Nat) : Int) < (y.length : Int) := by omega
        obtain ⟨b0, hb0⟩ : ∃ b, y[0]'(by omega) = b := ⟨_, rfl⟩
        have hY0 := hYiH.out 0 (by omega)
        rw [hb0] at hY0
        have hh0 : Hid (y.head? = some b0) := by
          show _ = _
          cases y with
          | nil => simp at hl
          | cons a t => rw [← hb0]; rfl
        clear hB hU hb0 hexit hgo
        by_cases h1 : 1 < y.length
        · have h1z : (1 : Int) < (y.length : Int) := by omega
          by_cases h48 : b0.toNat = 48
          · have h48z : (b0.toNat : Int) = 48 := by omega
            have h48b : ((b0.toNat : Int) == 48) = true := by simpa using h48z
            have hbad : Hid (numP x = none) := by show _ = _; rw [hx]; exact num_none_minus (fun u h => h.2.2.2.1 h1 (by rw [hh0.out]; congr 1; exact UInt8.toNat_inj.1 (by rw [h48]; rfl)))
            go_wp2_with (go_at_call 33; refine Calls.mono (hIn.out _) ?_; rintro e w2 ⟨rfl, hw2⟩; subst w2)
            go_ret2
            exact ⟨by rw [← hNB.out.1, ← hNB.out.2, (whl_none hbad.out).1, (whl_none hbad.out).2]; rfl, rfl⟩
          · have h48z : ¬ (b0.toNat : Int) = 48 := by omega
            have h48b : ((b0.toNat : Int) == 48) = false := by simpa using h48z
            have hh : Hid (1 < y.length → y.head? ≠ some 48) := fun _ => by rw [hh0.out]; intro e; exact h48 (by rw [Option.some.inj e]; rfl)
            by_cases hu0 : u = 0
            · subst hu0
              have hbad : Hid (numP x = none) := by show _ = _; rw [hx]; exact num_none_minus (fun u h => by have := h.1; rw [hdf.out] at this; have h2 := h.2.2.2.2 rfl; exact h2 (Option.some.inj this).symm)
              go_wp2_with (go_at_call 33; refine Calls.mono (hIn.out _) ?_; rintro e w2 ⟨rfl, hw2⟩; subst w2)
              go_ret2
              exact ⟨by rw [← hNB.out.1, ← hNB.out.2, (whl_none hbad.out).1, (whl_none hbad.out).2]; rfl, rfl⟩
            · have hu0z : ¬ (u : Int) = 0 := by omega
              have hu0b : ((u : Int) == 0) = false := by simpa using hu0z
              have hgood : Hid (numP x = some (-(u : Int))) := by show _ = _; rw [hx]; exact num_minus ⟨hdf.out, hl.1, hl.2, hh.out, fun _ => hu0⟩
              have hneg : IntKind.i64.wrap (-(u : Int)) = -(u : Int) := by rw [IntKind.wrap_i64]; omega
              go_wp2_with (go_at_call 33; refine Calls.mono (hIn.out _) ?_; rintro e w2 ⟨rfl, hw2⟩; subst w2)
              go_ret2
              exact ⟨by rw [← hNB.out.1, ← hNB.out.2, (whl_some hgood.out).1, (whl_some hgood.out).2]; rfl, rfl⟩
        · have h1z : ¬ (1 : Int) < (y.length : Int) := by omega
          have h1d : decide ((1 : Int) < (y.length : Int)) = false := decide_eq_false h1z
          have hh : Hid (1 < y.length → y.head? ≠ some 48) := fun h => absurd h h1
          by_cases hu0 : u = 0
          · subst hu0
            have hbad : Hid (numP x = none) := by show _ = _; rw [hx]; exact num_none_minus (fun u h => by have := h.1; rw [hdf.out] at this; have h2 := h.2.2.2.2 rfl; exact h2 (Option.some.inj this).symm)
            go_wp2_with (go_at_call 33; refine Calls.mono (hIn.out _) ?_; rintro e w2 ⟨rfl, hw2⟩; subst w2)
            go_ret2
            exact ⟨by rw [← hNB.out.1, ← hNB.out.2, (whl_none hbad.out).1, (whl_none hbad.out).2]; rfl, rfl⟩
          · have hu0z : ¬ (u : Int) = 0 := by omega
            have hu0b : ((u : Int) == 0) = false := by simpa using hu0z
            have hgood : Hid (numP x = some (-(u : Int))) := by show _ = _; rw [hx]; exact num_minus ⟨hdf.out, hl.1, hl.2, hh.out, fun _ => hu0⟩
            have hneg : IntKind.i64.wrap (-(u : Int)) = -(u : Int) := by rw [IntKind.wrap_i64]; omega
            go_wp2_with (go_at_call 33; refine Calls.mono (hIn.out _) ?_; rintro e w2 ⟨rfl, hw2⟩; subst w2)
            go_ret2
            exact ⟨by rw [← hNB.out.1, ← hNB.out.2, (whl_some hgood.out).1, (whl_some hgood.out).2]; rfl, rfl⟩
set_option maxRecDepth 100000 in
set_option maxHeartbeats 4000000 in
theorem whole_plain (y : List UInt8) (x : List UInt8) (hx : x = y) (hm : y.head? ≠ some 45) (X Y : ByteArray) (w : World) (hXY : X = Y) (hYs : Y.size = y.length) (hYi : ∀ j (h : j < y.length), Y[j]'(by omega) = y[j]) (hyl : y.length ≤ 2000) (N : Int) (B9 : Bool) (hN : whlN x = N) (hB9 : whlB x = B9) :
    Calls Tryd.prog 32 #[.string X, .int .i64 10] w fun e w' => e = .returned (.tuple #[.int .i64 N, .bool B9]) ∧ w' = w := by
  subst hXY
  have hYiH : Hid (∀ j (h : j < y.length), X[j]'(by omega) = y[j]) := hYi
  have hNB : Hid (whlN x = N ∧ whlB x = B9) := ⟨hN, hB9⟩
  clear hYi hN hB9
  by_cases h0 : y.length = 0
  · obtain rfl : y = [] := List.eq_nil_of_length_eq_zero h0
    have hsz : ¬ (0 : Int) < (X.size : Int) := by rw [hYs]; simp
    go_enter Tryd.func32, Tryd.ntmps32
    have hbad : Hid (numP x = none) := by show _ = _; rw [hx]; exact num_none_plain hm (fun u h => by have := h.2.1; simp at this)
    have hIn : Hid (∀ W, Calls Tryd.prog 33 #[.int .i64 0, .int .i64 1, .int .i64 10] W fun e w' => e = .returned (.bool false) ∧ w' = W) := fun W => inQ_w (by decide) W
    have hXz : X.size = 0 := by rw [hYs]; rfl
    clear hYiH hYs hsz
    go_wp2
    refine wp_loop_rounds 1 ?_
    rw [rounds_succ]
    go_wp2_with (go_at_call 33; refine Calls.mono (hIn.out _) ?_; rintro e w2 ⟨rfl, hw2⟩; subst w2)
    go_ret2
    exact ⟨by rw [← hNB.out.1, ← hNB.out.2, (whl_none hbad.out).1, (whl_none hbad.out).2]; rfl, rfl⟩
  · obtain ⟨b9, hb9⟩ : ∃ b, y[0]'(by omega) = b := ⟨_, rfl⟩
    have hY9 := hYiH.out 0 (by omega)
    rw [hb9] at hY9
    have hsz : (0 : Int) < (y.length : Int) := by omega
    have h45 : ((b9.toNat : Int) == 45) = false := by
      have : ¬ (b9.toNat : Int) = 45 := fun e => hm (by
        cases y with
        | nil => simp at h0
        | cons a t =>
          have : a = b9 := hb9
          rw [this]
          show some b9 = some 45
          congr 1
          exact UInt8.toNat_inj.1 (by show b9.toNat = 45; omega))
      simpa using this
    go_enter Tryd.func32, Tryd.ntmps32
    go_wp2
    clear hY9 hb9 h45
    go_loopw [7, 8] (fun n i wr => ∃ (k u : Nat), k ≤ y.length ∧ k ≤ 12 ∧ i = .int .i64 k ∧ n = .int .i64 u ∧ Hid (Lib.decFrom 0 (y.take k) = some u ∧ u < 10 ^ k) ∧ wr = w) (fun _ i _ => 12 - (intOf i).toNat)
    case atStart => exact ⟨0, 0, Nat.zero_le _, by omega, rfl, rfl, ⟨rfl, by decide⟩, rfl⟩
    case round =>
      obtain ⟨k, u, hk, hk12, rfl, rfl, hU, hwr⟩ := hrel
      subst hwr
      by_cases hgo : k < y.length ∧ k < 12
      · have g1 : (k : Int) < (y.length : Int) := by omega
        have g2 : (k : Int) < 12 := by omega
        have hku := Nat.pow_le_pow_right (show 0 < 10 by omega) (show k ≤ 11 by omega)
        have hub : u < 100000000000 := by have := hU.out.2; omega
        obtain ⟨b, hb⟩ : ∃ b, y[k]'hgo.1 = b := ⟨_, rfl⟩
        have hYk := hYiH.out k hgo.1
        rw [hb] at hYk
        have hb8 : b.toNat < 256 := UInt8.toNat_lt b
        have hst := decFrom_step hgo.1 hb hU.out.1
        by_cases hdg : 48 ≤ b.toNat ∧ b.toNat ≤ 57
        · have hdv : Lib.digitVal b = some (b.toNat - 48) := by unfold Lib.digitVal; rw [if_pos hdg]
          rw [hdv] at hst
          have q1 : ¬ (b.toNat : Int) < 48 := by omega
          have q2 : ¬ (57 : Int) < (b.toNat : Int) := by omega
          have hnext : Hid (Lib.decFrom 0 (y.take (k + 1)) = some (u * 10 + (b.toNat - 48)) ∧ u * 10 + (b.toNat - 48) < 10 ^ (k + 1)) := ⟨hst, by have := hU.out.2; rw [Nat.pow_succ]; omega⟩
          have q1d : decide ((b.toNat : Int) < 48) = false := decide_eq_false q1
          obtain ⟨v, hv⟩ : ∃ v : Nat, u * 10 + (b.toNat - 48) = v := ⟨_, rfl⟩
          have hvz : (u : Int) * 10 + (b.toNat : Int) - 48 = (v : Int) := by omega
          have hw1 : IntKind.i64.wrap ((u : Int) * 10) = (u : Int) * 10 := by rw [IntKind.wrap_i64]; omega
          have hw2 : IntKind.i64.wrap (b.toNat : Int) = (b.toNat : Int) := by rw [IntKind.wrap_i64]; omega
          have hw3 : IntKind.i64.wrap ((u : Int) * 10 + (b.toNat : Int)) = (u : Int) * 10 + (b.toNat : Int) := by rw [IntKind.wrap_i64]; omega
          have hw4 : IntKind.i64.wrap ((u : Int) * 10 + (b.toNat : Int) - 48) = (u : Int) * 10 + (b.toNat : Int) - 48 := by rw [IntKind.wrap_i64]; omega
          rw [hv] at hnext
          clear hst hU hb hdv hku
          go_wp2
          go_roundw
          case rel => exact ⟨k + 1, v, by omega, by omega, by go_num, by first | rfl | (congr 1; omega) | simp [hvz], hnext, by first | trivial | rfl⟩
          case measure => simp [intOf]; omega
        · have hdv : Lib.digitVal b = none := by unfold Lib.digitVal; rw [if_neg hdg]
          rw [hdv] at hst
          have hbad : Hid (numP x = none) := by show _ = _; rw [hx]; exact num_none_plain hm (fun u h => by have := decFrom_bad hst; rw [h.1] at this; cases this)
          clear hst hU hb hdv hku
          by_cases q1 : (b.toNat : Int) < 48
          · go_wp2
            go_ret2
            exact ⟨by rw [← hNB.out.1, ← hNB.out.2, (whl_none hbad.out).1, (whl_none hbad.out).2]; rfl, rfl⟩
          · have q1d : decide ((b.toNat : Int) < 48) = false := decide_eq_false q1
            have q2 : (57 : Int) < (b.toNat : Int) := by omega
            go_wp2
            go_ret2
            exact ⟨by rw [← hNB.out.1, ← hNB.out.2, (whl_none hbad.out).1, (whl_none hbad.out).2]; rfl, rfl⟩
      · have hub : u < 1000000000000 := by
          have h1 := hU.out.2
          have h2 := Nat.pow_le_pow_right (show 0 < 10 by omega) hk12
          omega
        obtain ⟨B, hB⟩ : ∃ B, inB (y.length : Int) 1 10 = B := ⟨_, rfl⟩
        have hIn : Hid (∀ W, Calls Tryd.prog 33 #[.int .i64 (y.length : Int), .int .i64 1, .int .i64 10] W fun e w' => e = .returned (.bool B) ∧ w' = W) := fun W => inQ_w hB W
        have hexit : (decide ((k : Int) < (y.length : Int)) && decide ((k : Int) < 12)) = false := by
          by_cases h1 : k < y.length
          · have : ¬ k < 12 := fun h2 => hgo ⟨h1, h2⟩
            rw [decide_eq_false (show ¬ (k : Int) < 12 by omega), Bool.and_false]
          · rw [decide_eq_false (show ¬ (k : Int) < (y.length : Int) by omega), Bool.false_and]
        cases B
        · have hbad : Hid (numP x = none) := by show _ = _; rw [hx]; exact num_none_plain hm (fun u h => by
            simp only [inB, Bool.and_eq_false_iff, decide_eq_false_iff_not] at hB
            have h2 := h.2.1
            have h3 := h.2.2.1
            omega)
          clear hB hU
          by_cases h1 : (k : Int) < (y.length : Int)
          · have h2 : ¬ (k : Int) < 12 := by omega
            have h2d : decide ((k : Int) < 12) = false := decide_eq_false h2
            go_wp2_with (go_at_call 33; refine Calls.mono (hIn.out _) ?_; rintro e w2 ⟨rfl, hw2⟩; subst w2)
            go_ret2
            exact ⟨by rw [← hNB.out.1, ← hNB.out.2, (whl_none hbad.out).1, (whl_none hbad.out).2]; rfl, rfl⟩
          · go_wp2_with (go_at_call 33; refine Calls.mono (hIn.out _) ?_; rintro e w2 ⟨rfl, hw2⟩; subst w2)
            go_ret2
            exact ⟨by rw [← hNB.out.1, ← hNB.out.2, (whl_none hbad.out).1, (whl_none hbad.out).2]; rfl, rfl⟩
        · have hl : 1 ≤ y.length ∧ y.length ≤ 10 := by
            simp only [inB, Bool.and_eq_true, decide_eq_true_eq] at hB
            omega
          have hk1 : k = y.length := by omega
          subst hk1
          have hdf : Hid (Lib.decFrom 0 y = some u) := by have := hU.out.1; rw [List.take_length] at this; exact this
          have g1 : ¬ ((y.length : Nat) : Int) < (y.length : Int) := by omega
          obtain ⟨b0, hb0⟩ : ∃ b, y[0]'(by omega) = b := ⟨_, rfl⟩
          have hY0 := hYiH.out 0 (by omega)
          rw [hb0] at hY0
          have hh0 : Hid (y.head? = some b0) := by
            show _ = _
            cases y with
            | nil => simp at hl
            | cons a t => rw [← hb0]; rfl
          clear hB hU hb0 hexit hgo
          by_cases h1 : 1 < y.length
          · have h1z : (1 : Int) < (y.length : Int) := by omega
            by_cases h48 : b0.toNat = 48
            · have h48z : (b0.toNat : Int) = 48 := by omega
              have h48b : ((b0.toNat : Int) == 48) = true := by simpa using h48z
              have hbad : Hid (numP x = none) := by show _ = _; rw [hx]; exact num_none_plain hm (fun u h => h.2.2.2.1 h1 (by rw [hh0.out]; congr 1; exact UInt8.toNat_inj.1 (by rw [h48]; rfl)))
              go_wp2_with (go_at_call 33; refine Calls.mono (hIn.out _) ?_; rintro e w2 ⟨rfl, hw2⟩; subst w2)
              go_ret2
              exact ⟨by rw [← hNB.out.1, ← hNB.out.2, (whl_none hbad.out).1, (whl_none hbad.out).2]; rfl, rfl⟩
            · have h48z : ¬ (b0.toNat : Int) = 48 := by omega
              have h48b : ((b0.toNat : Int) == 48) = false := by simpa using h48z
              have hh : Hid (1 < y.length → y.head? ≠ some 48) := fun _ => by rw [hh0.out]; intro e; exact h48 (by rw [Option.some.inj e]; rfl)
              have hgood : Hid (numP x = some (u : Int)) := by show _ = _; rw [hx]; exact num_plain hm ⟨hdf.out, hl.1, hl.2, hh.out, fun h => by cases h⟩
              go_wp2_with (go_at_call 33; refine Calls.mono (hIn.out _) ?_; rintro e w2 ⟨rfl, hw2⟩; subst w2)
              go_ret2
              exact ⟨by rw [← hNB.out.1, ← hNB.out.2, (whl_some hgood.out).1, (whl_some hgood.out).2]; rfl, rfl⟩
          · have h1z : ¬ (1 : Int) < (y.length : Int) := by omega
            have h1d : decide ((1 : Int) < (y.length : Int)) = false := decide_eq_false h1z
            have hh : Hid (1 < y.length → y.head? ≠ some 48) := fun h => absurd h h1
            have hgood : Hid (numP x = some (u : Int)) := by show _ = _; rw [hx]; exact num_plain hm ⟨hdf.out, hl.1, hl.2, hh.out, fun h => by cases h⟩
            go_wp2_with (go_at_call 33; refine Calls.mono (hIn.out _) ?_; rintro e w2 ⟨rfl, hw2⟩; subst w2)
            go_ret2
            exact ⟨by rw [← hNB.out.1, ← hNB.out.2, (whl_some hgood.out).1, (whl_some hgood.out).2]; rfl, rfl⟩
end Go.Proofs.YtoodkgmpggabdaaDoor
