/-
  Where a step's list lies doesn't matter; a right query's text is no longer than it may be. No run in this text.
-/
import Derived.Test.YtoodkgmpggabdaaDoorQParse
namespace Go.Proofs.YtoodkgmpggabdaaDoor
open Go.RowKit Go.Sort

theorem partT_clr (s : Stp) (p : Int) : partT (clr s) p = partT s p := rfl
theorem lineT_clr (s : Stp) : lineT (clr s) = lineT s := rfl
theorem textT_clr (q : List Stp) : textT (q.map clr) = textT q := by
  induction q with
  | nil => rfl
  | cons s t ih =>
    show (lineT (clr s) ++ [10]) ++ textT (t.map clr) = (lineT s ++ [10]) ++ textT t
    rw [ih, lineT_clr]
theorem widW_clr (s : Stp) (ah : List Int) : widW (clr s) ah = widW s ah := rfl
theorem widsF_clr : ∀ (q : List Stp) (ah : List Int), widsF (q.map clr) ah = widsF q ah
  | [], ah => rfl
  | s :: t, ah => by
    rw [List.map_cons, widsF, widsF, widW_clr, widsF_clr t]
theorem errQ_clr (q : List Stp) : errQ (q.map clr) = errQ q := by
  unfold errQ
  rw [List.length_map, widsF_clr]
theorem errQ_same {q r : List Stp} (h : q.map clr = r.map clr) : errQ q = errQ r := by rw [← errQ_clr q, h, errQ_clr]
theorem textT_same {q r : List Stp} (h : q.map clr = r.map clr) : textT q = textT r := by rw [← textT_clr q, h, textT_clr]
theorem itoa_11 {n : Int} (h : Small n) : (Lib.itoa n).length ≤ 11 := by
  have h0 := h.1
  have h1 := h.2
  unfold Lib.itoa
  split
  · have := decDigits_len n.natAbs 9 (by omega)
    simp; omega
  · have := decDigits_len n.toNat 9 (by omega)
    omega
theorem part_11 {s : Stp} (h : Fine s) {p : Int} (hp : p ≠ 76) : (partT s p).length ≤ 11 := by
  unfold partT
  by_cases h1 : p = 79
  · rw [if_pos h1]
    unfold signL
    repeat' split
    all_goals simp
  · rw [if_neg h1, if_neg hp]
    refine itoa_11 ?_
    repeat' split
    all_goals first | exact h.a | exact h.b | exact h.c | exact h.v
theorem list_96 {s : Stp} (h : Fine s) : (listL s.l).length ≤ 96 := by
  have h3 := join_le [44] 11 (s.l.map Lib.itoa) (fun x hx => by
    obtain ⟨n, hn, rfl⟩ := List.mem_map.1 hx
    exact itoa_11 (h.l.2 n hn))
  have h4 := h.l.1
  unfold listL
  simp at h3
  omega
theorem line_113 {s : Stp} (h : Fine s) : (lineT s).length ≤ 120 := by
  by_cases hk : s.k = 3
  · have e : lineT s = [112, 105, 99, 107] ++ ([32] ++ Lib.itoa s.a ++ ([32] ++ listL s.l ++ [])) := by
      unfold lineT
      rw [hk]
      show Lib.join [[112, 105, 99, 107], Lib.itoa s.a, listL s.l] [32] = _
      rw [Lib.join_cons, joinTail_cons, joinTail_cons]
      rfl
    have h1 := itoa_11 h.a
    have h2 := list_96 h
    rw [e]
    simp
    omega
  · unfold lineT
    have h1 := join_le [32] 11 (wordL s.k :: (partL s.k).map (fun p => partT s p.toNat)) (fun x hx => by
      rcases List.mem_cons.1 hx with e | e
      · rw [e]; exact Nat.le_trans (wordL_len s.k) (by omega)
      · obtain ⟨p, hp, rfl⟩ := List.mem_map.1 e
        refine part_11 h (fun e2 => hk (part76 (k := s.k) ?_))
        have : p = 76 := UInt8.toNat_inj.1 (by have : (76 : UInt8).toNat = 76 := rfl; omega)
        rw [← this]
        exact hp)
    have h2 := partL_len s.k
    simp at h1
    have h3 : ((partL s.k).length + 1) * 12 ≤ 5 * 12 := Nat.mul_le_mul (by omega) (Nat.le_refl _)
    omega
theorem text_1024 {q : List Stp} (h : errQ q = 0) : (textT q).length ≤ 1024 := by
  have h8 : q.length ≤ 8 := (widsL_len h).2
  have hf : ∀ s ∈ q, Fine s := fun s hs => (errQ_fine h s hs).1
  have : ∀ r : List Stp, (∀ s ∈ r, Fine s) → (textT r).length ≤ r.length * 121 := by
    intro r
    induction r with
    | nil => intro _; simp [textT]
    | cons s t ih =>
      intro hr
      have h1 := line_113 (hr s (by simp))
      have h2 := ih fun x hx => hr x (by simp [hx])
      rw [textT_cons]
      simp
      omega
  have h9 := this q hf
  omega
/-- What Print tells of a right query Parse reads as it was. -/
theorem parsed_print {q r : List Stp} {er : Int} (h : errQ q = 0) (hp : Parsed (textT q) r er) : er = 0 ∧ r.map clr = q.map clr := by
  have hb := errQ_back h
  have hl := text_1024 h
  rcases hp with ⟨h1, _, ⟨q0, h2, h3⟩, _⟩ | ⟨_, _, h2 | h2 | ⟨q0, q1, h2, h3, h4⟩⟩
  · rw [hb] at h2
    obtain rfl := Option.some.inj h2
    refine ⟨h1, h3.trans ?_⟩
    rw [List.map_map]
    rfl
  · omega
  · rw [hb] at h2; cases h2
  · rw [hb] at h2
    obtain rfl := Option.some.inj h2
    exact absurd ((errQ_same h3).trans ((errQ_clr q).trans h)) h4
/-- What Parse reads Print tells as it stood. -/
theorem parsed_text {x : List UInt8} {r : List Stp} (hp : Parsed x r 0) : errQ r = 0 ∧ printT r = x := by
  rcases hp with ⟨_, _, ⟨q0, h2, h3⟩, h4⟩ | ⟨h, _⟩
  · refine ⟨h4, ?_⟩
    unfold printT
    rw [if_pos h4, textT_same h3, textP_text h2]
  · exact absurd rfl h
end Go.Proofs.YtoodkgmpggabdaaDoor
