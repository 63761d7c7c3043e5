/-
  What Parse reads: a line's step, a text's query; Print's texts are read as they were, and what is read is printed as it stood. No run in this text.
-/
import Derived.Test.YtoodkgmpggabdaaDoorQParM
import Derived.Test.YtoodkgmpggabdaaDoorQRefM
namespace Go.Proofs.YtoodkgmpggabdaaDoor
open Go.RowKit Go.Sort

def numsP : List (List UInt8) → Option (List Int)
  | [] => some []
  | x :: r => match numP x with
    | none => none
    | some n => match numsP r with
      | none => none
      | some l => some (n :: l)
theorem numsP_map : ∀ {xs : List (List UInt8)} {l : List Int}, numsP xs = some l → l.map Lib.itoa = xs
  | [], l, h => by simp [numsP] at h; subst h; rfl
  | x :: r, l, h => by
    unfold numsP at h
    cases e : numP x with
    | none => rw [e] at h; simp at h
    | some n =>
      cases e2 : numsP r with
      | none => rw [e, e2] at h; simp at h
      | some m =>
        rw [e, e2] at h
        simp at h
        subst h
        rw [List.map_cons, numP_itoa e, numsP_map e2]
theorem numsP_back : ∀ {l : List Int}, (∀ x ∈ l, Small x) → numsP (l.map Lib.itoa) = some l
  | [], _ => rfl
  | n :: l, h => by
    rw [List.map_cons, numsP, numP_back (h n (by simp)), numsP_back (l := l) fun x hx => h x (by simp [hx])]
/-- The numbers that a word tells, commas between. -/
def listP (x : List UInt8) : Option (List Int) := numsP (splitC 44 x)
theorem listP_text {x : List UInt8} {l : List Int} (h : listP x = some l) : listL l = x := by
  unfold listL
  rw [numsP_map h, join_splitC]
theorem listP_ne {x : List UInt8} {l : List Int} (h : listP x = some l) : l ≠ [] := by
  intro e
  subst e
  exact splitC_ne 44 x (numsP_map h).symm
theorem listP_back {l : List Int} (h0 : l ≠ []) (h : ∀ x ∈ l, Small x) : listP (listL l) = some l := by
  obtain ⟨n, r, rfl⟩ := List.exists_cons_of_ne_nil h0
  unfold listP listL
  rw [List.map_cons, splitC_join _ _ (itoa_free n (by decide)) (fun y hy => by
    obtain ⟨m, _, rfl⟩ := List.mem_map.1 hy
    exact itoa_free m (by decide)), ← List.map_cons (f := Lib.itoa)]
  exact numsP_back h
/-- The op of a sign. -/
def signP (x : List UInt8) : Int := if x = [60] then 1 else if x = [61] then 2 else if x = [62] then 3 else 0
theorem signP_text {x : List UInt8} (h : signP x ≠ 0) : signL (signP x) = x := by
  unfold signP at h ⊢
  split
  · next e => rw [e]; rfl
  · split
    · next e => rw [e]; rfl
    · split
      · next e => rw [e]; rfl
      · next a b c => simp [a, b, c] at h
theorem signP_back {o : Int} (h : o = 1 ∨ o = 2 ∨ o = 3) : signP (signL o) = o := by
  rcases h with rfl | rfl | rfl <;> rfl
/-- The kind of a word. -/
def kindP (x : List UInt8) : Int := if x = wordL 1 then 1 else if x = wordL 2 then 2 else if x = wordL 3 then 3 else if x = wordL 4 then 4 else if x = wordL 5 then 5 else if x = wordL 6 then 6 else if x = wordL 7 then 7 else if x = wordL 8 then 8 else if x = wordL 9 then 9 else 0
theorem kindP_word {x : List UInt8} (h : kindP x ≠ 0) : wordL (kindP x) = x ∧ 1 ≤ kindP x ∧ kindP x ≤ 9 := by
  unfold kindP at h ⊢
  repeat' split
  all_goals first
    | (next e => exact ⟨e.symm, by decide, by decide⟩)
    | (simp only [*, if_false] at h; exact absurd rfl h)
theorem kindP_back {k : Int} (h : 1 ≤ k ∧ k ≤ 9) : kindP (wordL k) = k := by
  have : k = 1 ∨ k = 2 ∨ k = 3 ∨ k = 4 ∨ k = 5 ∨ k = 6 ∨ k = 7 ∨ k = 8 ∨ k = 9 := by omega
  rcases this with rfl | rfl | rfl | rfl | rfl | rfl | rfl | rfl | rfl <;> rfl
/-- A step with one part more. -/
def partP (s : Stp) (p : UInt8) (x : List UInt8) : Option Stp :=
  if p = 79 then (if signP x = 0 then none else some { s with o := signP x })
  else if p = 76 then (match listP x with
    | none => none
    | some l => some { s with l := l })
  else match numP x with
    | none => none
    | some n => some (if p = 65 then { s with a := n } else if p = 66 then { s with b := n } else if p = 67 then { s with c := n } else { s with v := n })
def partsP (s : Stp) : List UInt8 → List (List UInt8) → Option Stp
  | [], [] => some s
  | p :: ps, x :: xs => match partP s p x with
    | none => none
    | some t => partsP t ps xs
  | [], _ :: _ => none
  | _ :: _, [] => none
/-- A step of which only the kind is told yet. -/
def bareK (k : Int) : Stp := ⟨k, 0, 0, 0, 0, 0, none, 0, []⟩
def lineP (x : List UInt8) : Option Stp := match splitC 32 x with
  | [] => none
  | y :: r => if kindP y = 0 ∨ r.length ≠ (partL (kindP y)).length then none else partsP (bareK (kindP y)) (partL (kindP y)) r
theorem partP_some {s t : Stp} {p : UInt8} {x : List UInt8} (h : partP s p x = some t) :
    (p = 79 ∧ signL (signP x) = x ∧ t = { s with o := signP x }) ∨ (p = 76 ∧ ∃ l, listL l = x ∧ t = { s with l := l }) ∨
    (p ≠ 79 ∧ p ≠ 76 ∧ ∃ n, Lib.itoa n = x ∧ t = if p = 65 then { s with a := n } else if p = 66 then { s with b := n } else if p = 67 then { s with c := n } else { s with v := n }) := by
  unfold partP at h
  by_cases h1 : p = 79
  · rw [if_pos h1] at h
    by_cases h2 : signP x = 0
    · rw [if_pos h2] at h; simp at h
    · rw [if_neg h2] at h
      exact Or.inl ⟨h1, signP_text h2, (Option.some.inj h).symm⟩
  · rw [if_neg h1] at h
    by_cases h2 : p = 76
    · rw [if_pos h2] at h
      cases e : listP x with
      | none => rw [e] at h; simp at h
      | some l => rw [e] at h; exact Or.inr (Or.inl ⟨h2, l, listP_text e, (Option.some.inj h).symm⟩)
    · rw [if_neg h2] at h
      cases e : numP x with
      | none => rw [e] at h; simp at h
      | some n => rw [e] at h; exact Or.inr (Or.inr ⟨h1, h2, n, numP_itoa e, (Option.some.inj h).symm⟩)
/-- What is put in is printed as it stood; other parts and the kind stay. -/
theorem partP_text {s t : Stp} {p : UInt8} {x : List UInt8} (hp : p ∈ [65, 66, 67, 79, 86, 76]) (h : partP s p x = some t) :
    partT t p.toNat = x ∧ t.k = s.k ∧ ∀ q ∈ ([65, 66, 67, 79, 86, 76] : List UInt8), q ≠ p → partT t q.toNat = partT s q.toNat := by
  rcases partP_some h with ⟨rfl, e, rfl⟩ | ⟨rfl, l, e, rfl⟩ | ⟨h1, h2, n, e, ht⟩
  · refine ⟨e, rfl, fun q hq hn => ?_⟩
    simp only [List.mem_cons, List.not_mem_nil, or_false] at hq
    rcases hq with rfl | rfl | rfl | rfl | rfl | rfl
    all_goals first | rfl | exact absurd rfl hn
  · refine ⟨e, rfl, fun q hq hn => ?_⟩
    simp only [List.mem_cons, List.not_mem_nil, or_false] at hq
    rcases hq with rfl | rfl | rfl | rfl | rfl | rfl
    all_goals first | rfl | exact absurd rfl hn
  · simp only [List.mem_cons, List.not_mem_nil, or_false] at hp
    rcases hp with rfl | rfl | rfl | rfl | rfl | rfl
    all_goals first
      | exact absurd rfl h1
      | exact absurd rfl h2
      | (subst ht
         refine ⟨e, rfl, fun q hq hn => ?_⟩
         simp only [List.mem_cons, List.not_mem_nil, or_false] at hq
         rcases hq with rfl | rfl | rfl | rfl | rfl | rfl
         all_goals first | rfl | exact absurd rfl hn)
theorem partsP_text : ∀ (ps : List UInt8) (xs : List (List UInt8)) (s t : Stp), (∀ p ∈ ps, p ∈ ([65, 66, 67, 79, 86, 76] : List UInt8)) → ps.Nodup → partsP s ps xs = some t →
    t.k = s.k ∧ ps.map (fun p => partT t p.toNat) = xs ∧ ∀ q ∈ ([65, 66, 67, 79, 86, 76] : List UInt8), q ∉ ps → partT t q.toNat = partT s q.toNat
  | [], [], s, t, _, _, h => by
    obtain rfl := Option.some.inj h
    exact ⟨rfl, rfl, fun _ _ _ => rfl⟩
  | p :: ps, x :: xs, s, t, hp, hn, h => by
    rw [partsP] at h
    cases e : partP s p x with
    | none => rw [e] at h; simp at h
    | some u =>
      rw [e] at h
      have h1 := partP_text (hp p (by simp)) e
      have h2 := partsP_text ps xs u t (fun q hq => hp q (by simp [hq])) (List.nodup_cons.1 hn).2 h
      refine ⟨h2.1.trans h1.2.1, ?_, fun q hq hnq => ?_⟩
      · rw [List.map_cons, h2.2.1, h2.2.2 p (hp p (by simp)) (List.nodup_cons.1 hn).1, h1.1]
      · rw [h2.2.2 q hq (fun k => hnq (by simp [k])), h1.2.2 q hq (fun k => hnq (by simp [k]))]
  | [], _ :: _, s, t, _, _, h => by simp [partsP] at h
  | _ :: _, [], s, t, _, _, h => by simp [partsP] at h
theorem partL_in {k : Int} : (∀ p ∈ partL k, p ∈ ([65, 66, 67, 79, 86, 76] : List UInt8)) ∧ (partL k).Nodup := by
  unfold partL
  repeat' split
  all_goals decide
/-- What is read is printed as it stood. -/
theorem lineP_text {x : List UInt8} {s : Stp} (h : lineP x = some s) : lineT s = x := by
  unfold lineP at h
  have hj := join_splitC 32 x
  cases e : splitC 32 x with
  | nil => exact absurd e (splitC_ne 32 x)
  | cons y r =>
    rw [e] at h hj
    by_cases h1 : kindP y = 0 ∨ r.length ≠ (partL (kindP y)).length
    · simp only [if_pos h1] at h; simp at h
    · simp only [if_neg h1] at h
      have h2 := partsP_text _ _ _ _ partL_in.1 partL_in.2 h
      have hk : s.k = kindP y := h2.1
      unfold lineT
      rw [hk, (kindP_word fun k => h1 (Or.inl k)).1, h2.2.1, hj]
end Go.Proofs.YtoodkgmpggabdaaDoor
