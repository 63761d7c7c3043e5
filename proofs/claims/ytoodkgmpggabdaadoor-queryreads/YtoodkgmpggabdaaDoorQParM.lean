/-
  What Parse reads: texts cut at a byte, numbers told in one way alone. No run in this text.
-/
import Derived.Test.YtoodkgmpggabdaaDoorQText
import Derived.Lib.Atoi
namespace Go.Proofs.YtoodkgmpggabdaaDoor
open Go.RowKit Go.Sort

/-- A text cut at each byte c. -/
def splitC (c : UInt8) : List UInt8 → List (List UInt8)
  | [] => [[]]
  | b :: r => if b = c then [] :: splitC c r else match splitC c r with
    | [] => [[b]]
    | x :: t => (b :: x) :: t
theorem splitC_ne (c : UInt8) : ∀ l, splitC c l ≠ []
  | [] => by simp [splitC]
  | b :: r => by
    unfold splitC
    split
    · simp
    · split <;> simp
theorem splitC_free (c : UInt8) : ∀ l, ∀ x ∈ splitC c l, c ∉ x
  | [], x, hx => by simp [splitC] at hx; subst hx; simp
  | b :: r, x, hx => by
    have ih := splitC_free c r
    unfold splitC at hx
    by_cases hb : b = c
    · rw [if_pos hb] at hx
      rcases List.mem_cons.1 hx with rfl | hx
      · simp
      · exact ih x hx
    · rw [if_neg hb] at hx
      cases e : splitC c r with
      | nil => exact absurd e (splitC_ne c r)
      | cons y t =>
        rw [e] at hx ih
        simp only [List.mem_cons] at hx
        rcases hx with rfl | hx
        · have := ih y (by simp)
          simp only [List.mem_cons, not_or]
          exact ⟨fun h => hb h.symm, this⟩
        · exact ih x (by simp [hx])
theorem joinTail_cons (sep x : List UInt8) (r : List (List UInt8)) : Lib.joinTail sep (x :: r) = sep ++ x ++ Lib.joinTail sep r := by simp [Lib.joinTail]
theorem join_splitC (c : UInt8) : ∀ l, Lib.join (splitC c l) [c] = l
  | [] => by simp [splitC, Lib.join_one]
  | b :: r => by
    have ih := join_splitC c r
    unfold splitC
    cases e : splitC c r with
    | nil => exact absurd e (splitC_ne c r)
    | cons y t =>
      rw [e, Lib.join_cons] at ih
      by_cases hb : b = c
      · rw [if_pos hb, Lib.join_cons, joinTail_cons, hb]
        simp [ih]
      · rw [if_neg hb]
        show Lib.join ((b :: y) :: t) [c] = b :: r
        rw [Lib.join_cons]
        simp [ih]
theorem splitC_app {c : UInt8} : ∀ (x l : List UInt8), c ∉ x → splitC c (x ++ c :: l) = x :: splitC c l
  | [], l, _ => by simp [splitC]
  | b :: x, l, h => by
    have hb : ¬ b = c := fun e => h (by simp [e])
    have ih := splitC_app x l (fun e => h (List.mem_cons_of_mem _ e))
    rw [List.cons_append, splitC, if_neg hb, ih]
theorem splitC_one {c : UInt8} : ∀ (x : List UInt8), c ∉ x → splitC c x = [x]
  | [], _ => by simp [splitC]
  | b :: x, h => by
    have hb : ¬ b = c := fun e => h (by simp [e])
    have ih := splitC_one x (fun e => h (List.mem_cons_of_mem _ e))
    rw [splitC, if_neg hb, ih]
theorem splitC_join {c : UInt8} : ∀ (x : List UInt8) (xs : List (List UInt8)), c ∉ x → (∀ y ∈ xs, c ∉ y) → splitC c (Lib.join (x :: xs) [c]) = x :: xs
  | x, [], h, _ => by rw [Lib.join_one]; exact splitC_one x h
  | x, y :: r, h, k => by
    have ih := splitC_join y r (k y (by simp)) (fun z hz => k z (by simp [hz]))
    rw [Lib.join_cons] at ih
    rw [Lib.join_cons, joinTail_cons]
    show splitC c (x ++ ([c] ++ y ++ Lib.joinTail [c] r)) = _
    rw [List.append_assoc, List.singleton_append, splitC_app x _ h, ih]

/-- The number that a word tells. -/
def numP (x : List UInt8) : Option Int := if 10 < (Lib.trimPrefix x [45]).length then none else match Lib.atoi x with
  | none => none
  | some n => if Lib.itoa n = x then some n else none
theorem numP_itoa {x : List UInt8} {n : Int} (h : numP x = some n) : Lib.itoa n = x := by
  unfold numP at h
  split at h
  · simp at h
  · split at h
    · simp at h
    · split at h
      · simp at h; subst h; assumption
      · simp at h
/-- Digits alone. -/
def dig (b : UInt8) : Prop := 48 ≤ b.toNat ∧ b.toNat ≤ 57
theorem dig_of {d : Nat} (h : d < 10) : dig (UInt8.ofNat (48 + d)) ∧ Lib.digitVal (UInt8.ofNat (48 + d)) = some d := by
  have e : (UInt8.ofNat (48 + d)).toNat = 48 + d := by rw [UInt8.toNat_ofNat']; omega
  refine ⟨⟨by omega, by omega⟩, ?_⟩
  unfold Lib.digitVal
  rw [if_pos ⟨by omega, by omega⟩, e]
  congr 1
  omega
theorem decDigits_dig (u : Nat) : ∀ b ∈ Lib.decDigits u, dig b := by
  induction u using Nat.strongRecOn with
  | ind u ih =>
    intro b hb
    rw [Lib.decDigits] at hb
    split at hb
    · next h => rw [List.mem_singleton.1 hb]; exact (dig_of h).1
    · next h =>
      rcases List.mem_append.1 hb with hb | hb
      · exact ih (u / 10) (by omega) b hb
      · rw [List.mem_singleton.1 hb]; exact (dig_of (Nat.mod_lt _ (by decide))).1
theorem decDigits_ne (u : Nat) : Lib.decDigits u ≠ [] := by
  rw [Lib.decDigits]
  split <;> simp
theorem decFrom_app (l : List UInt8) (m : List UInt8) : ∀ acc, Lib.decFrom acc (l ++ m) = match Lib.decFrom acc l with
    | some n => Lib.decFrom n m
    | none => none := by
  induction l with
  | nil => intro acc; rfl
  | cons b r ih =>
    intro acc
    rw [List.cons_append, Lib.decFrom, Lib.decFrom]
    cases Lib.digitVal b with
    | none => rfl
    | some d => exact ih _
theorem decFrom_decDigits (u : Nat) : Lib.decFrom 0 (Lib.decDigits u) = some u := by
  induction u using Nat.strongRecOn with
  | ind u ih =>
    rw [Lib.decDigits]
    split
    · next h => simp only [Lib.decFrom, (dig_of h).2]; simp
    · next h =>
      rw [decFrom_app, ih (u / 10) (by omega)]
      simp only [Lib.decFrom, (dig_of (Nat.mod_lt u (by decide : 0 < 10))).2]
      congr 1
      omega
theorem decNat_decDigits (u : Nat) : Lib.decNat (Lib.decDigits u) = some u := by
  unfold Lib.decNat
  rw [if_neg (by simp [decDigits_ne]), decFrom_decDigits]
theorem decDigits_head (u : Nat) : ∃ b r, Lib.decDigits u = b :: r ∧ dig b := by
  cases e : Lib.decDigits u with
  | nil => exact absurd e (decDigits_ne u)
  | cons b r => exact ⟨b, r, rfl, decDigits_dig u b (by rw [e]; simp)⟩
theorem atoi_itoa (n : Int) : Lib.atoi (Lib.itoa n) = some n := by
  unfold Lib.itoa
  split
  · next h =>
    simp only [Lib.atoi, beq_self_eq_true, if_true, decNat_decDigits, Option.map]
    congr 1
    omega
  · next h =>
    obtain ⟨b, r, e, hb⟩ := decDigits_head n.toNat
    have h1 : ¬ (b == 45) = true := fun k => by have := beq_iff_eq.1 k; subst this; exact absurd hb.1 (by decide)
    have h2 : ¬ (b == 43) = true := fun k => by have := beq_iff_eq.1 k; subst this; exact absurd hb.1 (by decide)
    rw [e]
    rw [Lib.atoi, if_neg h1, if_neg h2, ← e, decNat_decDigits]
    simp
    omega
/-- A number's text has digits and a '-' alone. -/
theorem itoa_free (n : Int) {c : UInt8} (h1 : c.toNat < 45) : c ∉ Lib.itoa n := by
  have hd : ∀ u, c ∉ Lib.decDigits u := fun u h => by have := (decDigits_dig u c h).1; omega
  unfold Lib.itoa
  split
  · intro h
    rcases List.mem_cons.1 h with rfl | h
    · exact absurd h1 (by decide)
    · exact hd _ h
  · exact hd _
theorem decDigits_len (u : Nat) : ∀ k, u < 10 ^ (k + 1) → (Lib.decDigits u).length ≤ k + 1 := by
  induction u using Nat.strongRecOn with
  | ind u ih =>
    intro k hk
    rw [Lib.decDigits]
    split
    · simp
    · next h =>
      cases k with
      | zero => exact absurd hk (by simpa using h)
      | succ k =>
        have := ih (u / 10) (by omega) k (by rw [Nat.pow_succ] at hk; omega)
        simp; omega
theorem numP_back {n : Int} (h : Small n) : numP (Lib.itoa n) = some n := by
  have hl : (Lib.trimPrefix (Lib.itoa n) [45]).length ≤ 10 := by
    have h0 := h.1
    have h1 := h.2
    unfold Lib.itoa
    split
    · have := decDigits_len n.natAbs 9 (by omega)
      have hp : Lib.hasPrefix (45 :: Lib.decDigits n.natAbs) [45] = true := by simp [Lib.hasPrefix]
      rw [Lib.trimPrefix, if_pos hp]
      exact this
    · have := decDigits_len n.toNat 9 (by omega)
      unfold Lib.trimPrefix
      split
      · simp; omega
      · exact this
  unfold numP
  rw [if_neg (by omega), atoi_itoa]
  simp
end Go.Proofs.YtoodkgmpggabdaaDoor
