/-
  Package wire's reader: the next number, how many, a dot, a cell.
-/
import Derived.Test.YtbhhpijidbhipaaWNumR
namespace Go.Proofs.Ytbhhpijidbhipaa
open Go.RowKit Go.Sort

/-- The reader's block, in the reader's state. -/
def RdP (w : World) (R : Nat) (x : List UInt8) (s : RS) : Prop := ∃ at_, RdX w R x at_ (!s.2) ∧ (s.2 = true → x.drop at_ = s.1) ∧ (s.2 = false → at_ = x.length)
theorem RdP.gr {w w' : World} {R : Nat} {x : List UInt8} {s : RS} (h : RdP w R x s) (k : Gr w w') : RdP w' R x s := by
  obtain ⟨m, h1, h2⟩ := h
  exact ⟨m, h1.gr k, h2⟩
theorem RdP.lt {w : World} {R : Nat} {x : List UInt8} {s : RS} (h : RdP w R x s) : R < w.heap.size := by
  obtain ⟨m, h1, _⟩ := h
  exact h1.lt
theorem RdP.other {w w' : World} {R : Nat} {x : List UInt8} {s : RS} (h : RdP w R x s) {row : Option Nat} (k : w.grownBy w' row) (hne : row ≠ some R) : RdP w' R x s := by
  obtain ⟨m, h1, h2⟩ := h
  have hc : ∀ j, w'.cell? ⟨R, j, none⟩ = w.cell? ⟨R, j, none⟩ := fun j => k.cell_far ⟨R, j, none⟩ h1.lt (Ne.symm hne)
  exact ⟨m, ⟨(hc 0).trans h1.t, (hc 1).trans h1.a, (hc 2).trans h1.b, fun j => (k.frozen_far ⟨R, j, none⟩ h1.lt (Ne.symm hne)).trans (h1.f j), Nat.lt_of_lt_of_le h1.lt k.size, h1.le⟩, h2⟩
theorem nx_bad {s : RS} (h : (nxS s).2 = false) : nxN s = 0 := by
  obtain ⟨y, ok⟩ := s
  cases ok with
  | false => rfl
  | true =>
    have h : readB y = false := h
    show readN y = 0
    unfold readN
    rw [h]
    rfl

theorem rdnext_any (R : Nat) (x : List UInt8) (s : RS) (w : World) (hx : x.length ≤ maxLen) (h : RdP w R x s) :
    Calls Try.prog 36 #[.pointer (some ⟨R, 0, none⟩)] w fun e w' => e = .returned (.int .i64 (nxN s)) ∧ RdP w' R x (nxS s) ∧ w.grownBy w' (some R) := by
  obtain ⟨m, h1, h2, h3⟩ := h
  refine (rdnum_any R x m (!s.2) w hx h1).mono ?_
  rintro e w1 ⟨rfl, hX, hg⟩
  obtain ⟨y, ok⟩ := s
  cases ok with
  | false =>
    obtain rfl : m = x.length := h3 rfl
    have hd : x.drop x.length = [] := List.drop_eq_nil_of_le (Nat.le_refl _)
    have hb : readB ([] : List UInt8) = false := rfl
    unfold numAt numBad at hX
    rw [hd, hb] at hX
    rw [hd]
    refine ⟨rfl, ⟨x.length, hX, fun h => (by cases h), fun _ => rfl⟩, hg⟩
  | true =>
    have hd : x.drop m = y := h2 rfl
    unfold numAt numBad at hX
    rw [hd] at hX ⊢
    refine ⟨rfl, ?_, hg⟩
    have hS : nxS (y, true) = (y.drop (readK y), readB y) := rfl
    rw [hS]
    cases hb : readB y with
    | false =>
      rw [hb] at hX
      exact ⟨x.length, hX, fun h => (by cases h), fun _ => rfl⟩
    | true =>
      rw [hb] at hX
      exact ⟨m + readK y, hX, fun _ => by rw [← hd, List.drop_drop], fun h => (by cases h)⟩

set_option maxHeartbeats 2000000 in
theorem count_any (R : Nat) (x : List UInt8) (s : RS) (w : World) (hx : x.length ≤ maxLen) (h : RdP w R x s) :
    Calls Try.prog 38 #[.pointer (some ⟨R, 0, none⟩)] w fun e w' => e = .returned (.int .i64 (myN s)) ∧ RdP w' R x (myS s) ∧ w.grownBy w' (some R) := by
  have hC := rdnext_any R x s w hx h
  have hCH : Hid _ := hC
  have hb0 : Hid ((nxS s).2 = false → nxN s = 0) := nx_bad
  have hmy : Hid (myN s = (if (nxS s).2 && inB (nxN s) 0 400 then nxN s else 0) ∧ myS s = ((nxS s).1, (nxS s).2 && inB (nxN s) 0 400)) := ⟨rfl, rfl⟩
  obtain ⟨n, hn⟩ : ∃ n, nxN s = n := ⟨_, rfl⟩
  obtain ⟨S, hS⟩ : ∃ S, nxS s = S := ⟨_, rfl⟩
  obtain ⟨M, hM⟩ : ∃ M, myN s = M := ⟨_, rfl⟩
  obtain ⟨T, hT⟩ : ∃ T, myS s = T := ⟨_, rfl⟩
  rw [hn, hS] at hCH hb0 hmy
  rw [hM, hT] at hmy ⊢
  clear hC hn hS hM hT h
  go_enter Try.func38, Try.ntmps38
  go_wp2_with fail
  refine Calls.mono (show Calls _ _ _ _ _ from hCH.out) ?_
  rintro e w1 ⟨rfl, h1, hg1⟩
  have hP1 : Hid (RdP w1 R x S ∧ w.grownBy w1 (some R)) := ⟨h1, hg1⟩
  clear hCH h1 hg1
  have hbad : Hid (inB n 0 400 = false → M = 0 ∧ ∀ w2, RdX w2 R x x.length true → RdP w2 R x T) := fun hi => by
    rw [hi, Bool.and_false] at hmy
    refine ⟨hmy.out.1, fun w2 hX => ?_⟩
    rw [hmy.out.2]
    exact ⟨x.length, hX, fun h => (by cases h), fun _ => rfl⟩
  have hfail : Hid (∀ bad m, RdX w1 R x m bad → Calls Try.prog 49 #[.pointer (some ⟨R, 0, none⟩)] w1 fun e w' => e = .returned (.tuple #[]) ∧ RdX w' R x x.length true ∧ w1.grownBy w' (some R)) := fun bad m h => fail_any R x m bad w1 h
  by_cases h0 : n < 0
  · have hi : inB n 0 400 = false := by simp [inB]; omega
    obtain ⟨m, hX, _⟩ := hP1.out.1
    have hF := hfail.out _ m hX
    have hFH : Hid _ := hF
    have hMz := (hbad.out hi).1
    have hTz : Hid (∀ w2, RdX w2 R x x.length true → RdP w2 R x T) := (hbad.out hi).2
    clear hF hX hi hbad hfail hmy hb0
    go_wp2_with fail
    refine Calls.mono (show Calls _ _ _ _ _ from hFH.out) ?_
    rintro e w2 ⟨rfl, hX2, hg2⟩
    have hend : Hid (RdP w2 R x T ∧ w.grownBy w2 (some R)) := ⟨hTz.out w2 hX2, hP1.out.2.trans hg2⟩
    clear hX2 hg2 hFH
    go_wp2
    go_ret
    rw [hMz]
    exact ⟨rfl, hend.out⟩
  · by_cases h4 : 400 < n
    · have hi : inB n 0 400 = false := by simp [inB]; omega
      obtain ⟨m, hX, _⟩ := hP1.out.1
      have hF := hfail.out _ m hX
      have hFH : Hid _ := hF
      have hMz := (hbad.out hi).1
      have hTz : Hid (∀ w2, RdX w2 R x x.length true → RdP w2 R x T) := (hbad.out hi).2
      clear hF hX hi hbad hfail hmy hb0
      go_wp2_with fail
      refine Calls.mono (show Calls _ _ _ _ _ from hFH.out) ?_
      rintro e w2 ⟨rfl, hX2, hg2⟩
      have hend : Hid (RdP w2 R x T ∧ w.grownBy w2 (some R)) := ⟨hTz.out w2 hX2, hP1.out.2.trans hg2⟩
      clear hX2 hg2 hFH
      go_wp2
      go_ret
      rw [hMz]
      exact ⟨rfl, hend.out⟩
    · have hi : inB n 0 400 = true := by simp [inB]; omega
      have hMn : Hid (M = n ∧ T = S) := by
        rw [hi, Bool.and_true] at hmy
        refine ⟨?_, ?_⟩
        · rw [hmy.out.1]
          cases hs2 : S.2 with
          | false => rw [hb0.out hs2]; rfl
          | true => rfl
        · rw [hmy.out.2]
      clear hbad hfail hmy hb0
      go_wp2
      go_ret
      rw [hMn.out.1, hMn.out.2]
      exact ⟨rfl, hP1.out⟩
end Go.Proofs.Ytbhhpijidbhipaa
