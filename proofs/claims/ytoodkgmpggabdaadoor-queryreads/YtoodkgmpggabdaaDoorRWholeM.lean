/-
  A word that is a number: how it is read byte by byte.
-/
import Derived.Test.YtoodkgmpggabdaaDoorQParM
namespace Go.Proofs.YtoodkgmpggabdaaDoor

theorem digit_text {b : UInt8} {d : Nat} (h : Lib.digitVal b = some d) : d < 10 ∧ UInt8.ofNat (48 + d) = b ∧ b.toNat = 48 + d := by
  unfold Lib.digitVal at h
  split at h
  · next k =>
    have e : b.toNat - 48 = d := Option.some.inj h
    refine ⟨by omega, ?_, by omega⟩
    apply UInt8.toNat_inj.1
    rw [UInt8.toNat_ofNat']
    omega
  · cases h
/-- Digits with no nought ahead are the digits of their number. -/
theorem canon : ∀ (n : Nat) (y : List UInt8) (u : Nat), y.length = n → y ≠ [] → Lib.decFrom 0 y = some u → (1 < y.length → y.head? ≠ some 48) → Lib.decDigits u = y := by
  intro n
  induction n with
  | zero => intro y u hl h0; exact absurd (List.eq_nil_of_length_eq_zero hl) h0
  | succ n ih =>
    intro y u hl h0 hd hh
    obtain ⟨l, b, rfl⟩ : ∃ l b, y = l ++ [b] := ⟨y.dropLast, y.getLast h0, (List.dropLast_concat_getLast h0).symm⟩
    rw [decFrom_app] at hd
    cases e : Lib.decFrom 0 l with
    | none => rw [e] at hd; cases hd
    | some v =>
      rw [e] at hd
      simp only [Lib.decFrom] at hd
      cases e2 : Lib.digitVal b with
      | none => rw [e2] at hd; cases hd
      | some d =>
        rw [e2] at hd
        have hu : v * 10 + d = u := Option.some.inj hd
        obtain ⟨d1, d2, _⟩ := digit_text e2
        have hln : l.length = n := by simpa using hl
        by_cases hl0 : l = []
        · subst hl0
          have hv : v = 0 := by simp [Lib.decFrom] at e; omega
          rw [Lib.decDigits, dif_pos (by omega)]
          rw [← d2, show u = d by omega]
          rfl
        · have hlp : 0 < l.length := List.length_pos_iff.2 hl0
          have hhead : (l ++ [b]).head? = l.head? := by cases l with
            | nil => exact absurd rfl hl0
            | cons a t => rfl
          have hh2 := hh (by simp; omega)
          rw [hhead] at hh2
          have h3 := ih l v hln hl0 e (fun _ => hh2)
          have hv0 : v ≠ 0 := fun k => by
            rw [k] at h3
            have h4 : Lib.decDigits 0 = [48] := by rw [Lib.decDigits, dif_pos (by omega)]; rfl
            rw [h4] at h3
            rw [← h3] at hh2
            exact hh2 rfl
          rw [Lib.decDigits, dif_neg (by omega), show u / 10 = v by omega, show u % 10 = d by omega, h3, d2]
theorem decDigits_nohead (u : Nat) : (1 < (Lib.decDigits u).length → (Lib.decDigits u).head? ≠ some 48) ∧ (u ≠ 0 → (Lib.decDigits u).head? ≠ some 48) := by
  have key : ∀ u, u ≠ 0 → (Lib.decDigits u).head? ≠ some 48 := by
    intro u
    induction u using Nat.strongRecOn with
    | ind u ih =>
      intro h0
      rw [Lib.decDigits]
      split
      · next h =>
        intro k
        have k2 : UInt8.ofNat (48 + u) = 48 := by simpa using k
        have := congrArg UInt8.toNat k2
        rw [UInt8.toNat_ofNat'] at this
        have h48 : (48 : UInt8).toNat = 48 := rfl
        omega
      · next h =>
        have hne := decDigits_ne (u / 10)
        have := ih (u / 10) (by omega) (by omega)
        intro k
        apply this
        rw [← k]
        cases e : Lib.decDigits (u / 10) with
        | nil => exact absurd e hne
        | cons a t => rfl
  refine ⟨fun h k => ?_, key u⟩
  by_cases h0 : u = 0
  · subst h0
    rw [Lib.decDigits, dif_pos (by omega)] at h
    simp at h
  · exact key u h0 k
/-- Is a row of bytes a number, of so many digits, and which? -/
def digsOk (mi : Bool) (y : List UInt8) (u : Nat) : Prop := Lib.decFrom 0 y = some u ∧ 1 ≤ y.length ∧ y.length ≤ 10 ∧ (1 < y.length → y.head? ≠ some 48) ∧ (mi = true → u ≠ 0)
theorem trim_minus (y : List UInt8) : Lib.trimPrefix (45 :: y) [45] = y := by
  have hp : Lib.hasPrefix (45 :: y) [45] = true := by simp [Lib.hasPrefix]
  rw [Lib.trimPrefix, if_pos hp]
  rfl
theorem trim_other {x : List UInt8} (h : x.head? ≠ some 45) : Lib.trimPrefix x [45] = x := by
  unfold Lib.trimPrefix
  split
  · next k =>
    exfalso
    cases x with
    | nil => simp [Lib.hasPrefix] at k
    | cons a t =>
      simp [Lib.hasPrefix] at k
      exact h (by rw [← k]; rfl)
  · rfl
theorem num_minus {y : List UInt8} {u : Nat} (h : digsOk true y u) : numP (45 :: y) = some (-(u : Int)) := by
  obtain ⟨h1, h2, h3, h4, h5⟩ := h
  have hy : y ≠ [] := fun e => by rw [e] at h2; simp at h2
  have hc := canon _ y u rfl hy h1 h4
  have hu := h5 rfl
  have e : Lib.itoa (-(u : Int)) = 45 :: y := by
    unfold Lib.itoa
    rw [if_pos (by omega), show (-(u : Int)).natAbs = u by omega, hc]
  unfold numP
  rw [trim_minus, if_neg (by omega), ← e, atoi_itoa]
  simp
theorem num_plain {y : List UInt8} {u : Nat} (hm : y.head? ≠ some 45) (h : digsOk false y u) : numP y = some (u : Int) := by
  obtain ⟨h1, h2, h3, h4, _⟩ := h
  have hy : y ≠ [] := fun e => by rw [e] at h2; simp at h2
  have hc := canon _ y u rfl hy h1 h4
  have e : Lib.itoa (u : Int) = y := by
    unfold Lib.itoa
    rw [if_neg (by omega), show (u : Int).toNat = u by omega, hc]
  unfold numP
  rw [trim_other hm, if_neg (by omega), ← e, atoi_itoa]
  simp
theorem num_parts {x : List UInt8} {n : Int} (h : numP x = some n) : (∃ y u, x = 45 :: y ∧ digsOk true y u) ∨ (x.head? ≠ some 45 ∧ ∃ u, digsOk false x u) := by
  have hi := numP_itoa h
  have hl : (Lib.trimPrefix x [45]).length ≤ 10 := by
    unfold numP at h
    split at h
    · cases h
    · omega
  unfold Lib.itoa at hi
  split at hi
  · next k =>
    refine Or.inl ⟨Lib.decDigits n.natAbs, n.natAbs, hi.symm, decFrom_decDigits _, ?_, ?_, (decDigits_nohead _).1, fun _ => by omega⟩
    · exact List.length_pos_iff.2 (decDigits_ne _)
    · rw [← hi, trim_minus] at hl; exact hl
  · next k =>
    have hh : x.head? ≠ some 45 := by
      obtain ⟨b, r, e, hb⟩ := decDigits_head n.toNat
      rw [← hi, e]
      intro k
      have k2 : b = 45 := by simpa using k
      rw [k2] at hb
      exact absurd hb.1 (by decide)
    refine Or.inr ⟨hh, n.toNat, ?_, ?_, ?_, ?_, fun h => by cases h⟩
    · rw [← hi]; exact decFrom_decDigits _
    · rw [← hi]; exact List.length_pos_iff.2 (decDigits_ne _)
    · rw [trim_other hh] at hl; exact hl
    · rw [← hi]; exact (decDigits_nohead _).1
theorem num_none_minus {y : List UInt8} (h : ∀ u, ¬ digsOk true y u) : numP (45 :: y) = none := by
  cases e : numP (45 :: y) with
  | none => rfl
  | some n =>
    rcases num_parts e with ⟨y', u, e2, h2⟩ | ⟨h1, _⟩
    · injection e2 with _ e2
      subst e2
      exact absurd h2 (h u)
    · exact absurd rfl h1
theorem num_none_plain {x : List UInt8} (hm : x.head? ≠ some 45) (h : ∀ u, ¬ digsOk false x u) : numP x = none := by
  cases e : numP x with
  | none => rfl
  | some n =>
    rcases num_parts e with ⟨y', u, e2, h2⟩ | ⟨_, u, h2⟩
    · rw [e2] at hm; exact absurd rfl hm
    · exact absurd h2 (h u)
theorem decFrom_bad {y : List UInt8} {k : Nat} (h : Lib.decFrom 0 (y.take k) = none) : Lib.decFrom 0 y = none := by
  rw [← List.take_append_drop k y, decFrom_app, h]
theorem decFrom_step {y : List UInt8} {k u : Nat} {b : UInt8} (hk : k < y.length) (hb : y[k] = b) (h : Lib.decFrom 0 (y.take k) = some u) : Lib.decFrom 0 (y.take (k + 1)) = (match Lib.digitVal b with | some d => some (u * 10 + d) | none => none) := by
  rw [List.take_succ_eq_append_getElem hk, hb, decFrom_app, h]
  simp only [Lib.decFrom]
  cases Lib.digitVal b <;> rfl
end Go.Proofs.YtoodkgmpggabdaaDoor
