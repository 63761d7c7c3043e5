/-
  Print's lines and texts are read as they were. No run in this text.
-/
import Derived.Test.YtoodkgmpggabdaaDoorQParL
namespace Go.Proofs.YtoodkgmpggabdaaDoor
open Go.RowKit Go.Sort

/-- A step but for where its list lies. -/
def clr (s : Stp) : Stp := { s with p := none, n := 0 }
theorem pA (s : Stp) {n : Int} (h : Small n) : partP s 65 (Lib.itoa n) = some { s with a := n } := by unfold partP; rw [if_neg (by decide), if_neg (by decide), numP_back h]; rfl
theorem pB (s : Stp) {n : Int} (h : Small n) : partP s 66 (Lib.itoa n) = some { s with b := n } := by unfold partP; rw [if_neg (by decide), if_neg (by decide), numP_back h]; rfl
theorem pC (s : Stp) {n : Int} (h : Small n) : partP s 67 (Lib.itoa n) = some { s with c := n } := by unfold partP; rw [if_neg (by decide), if_neg (by decide), numP_back h]; rfl
theorem pV (s : Stp) {n : Int} (h : Small n) : partP s 86 (Lib.itoa n) = some { s with v := n } := by unfold partP; rw [if_neg (by decide), if_neg (by decide), numP_back h]; rfl
theorem pO (s : Stp) {o : Int} (h : o = 1 ∨ o = 2 ∨ o = 3) : partP s 79 (signL o) = some { s with o := o } := by
  unfold partP
  rw [if_pos rfl, signP_back h, if_neg (by omega)]
theorem pL (s : Stp) {l : List Int} (h0 : l ≠ []) (h : ∀ x ∈ l, Small x) : partP s 76 (listL l) = some { s with l := l } := by
  unfold partP
  rw [if_neg (by decide), if_pos rfl, listP_back h0 h]
theorem listL_free {l : List Int} {c : UInt8} (h : c.toNat < 44) : c ∉ listL l := by
  unfold listL
  cases l with
  | nil => simp [Lib.join_nil]
  | cons n r =>
    rw [List.map_cons, Lib.join_cons]
    intro hc
    rcases List.mem_append.1 hc with hc | hc
    · exact itoa_free n (by omega) hc
    · simp only [Lib.joinTail, List.mem_flatten, List.mem_map] at hc
      obtain ⟨x, ⟨y, ⟨m, _, rfl⟩, rfl⟩, hx⟩ := hc
      rcases List.mem_append.1 hx with hx | hx
      · have := List.mem_singleton.1 hx
        subst this
        exact absurd h (by decide)
      · exact itoa_free m (by omega) hx
theorem partT_free (s : Stp) (p : Int) {c : UInt8} (h : c.toNat < 44) : c ∉ partT s p := by
  unfold partT
  split
  · unfold signL
    repeat' split
    all_goals
      intro hc
      first
        | (have := List.mem_singleton.1 hc; subst this; exact absurd h (by decide))
        | simp at hc
  · split
    · exact listL_free h
    · exact itoa_free _ (by omega)
theorem wordL_free (k : Int) {c : UInt8} (h : c.toNat < 44) : c ∉ wordL k := by
  have hh : ∀ b ∈ wordL k, 44 ≤ b.toNat := by
    unfold wordL
    repeat' split
    all_goals decide
  exact fun hc => absurd (hh c hc) (by omega)
theorem lineT_split (s : Stp) : splitC 32 (lineT s) = wordL s.k :: (partL s.k).map (fun p => partT s p.toNat) := by
  unfold lineT
  exact splitC_join _ _ (wordL_free _ (by decide)) (fun y hy => by
    obtain ⟨m, _, rfl⟩ := List.mem_map.1 hy
    exact partT_free _ _ (by decide))
theorem lineT_free (s : Stp) : (10 : UInt8) ∉ lineT s := by
  unfold lineT
  rw [Lib.join_cons]
  intro hc
  rcases List.mem_append.1 hc with hc | hc
  · exact wordL_free _ (by decide) hc
  · simp only [Lib.joinTail, List.mem_flatten, List.mem_map] at hc
    obtain ⟨x, ⟨y, ⟨m, _, rfl⟩, rfl⟩, hx⟩ := hc
    rcases List.mem_append.1 hx with hx | hx
    · simp at hx
    · exact partT_free _ _ (by decide) hx
theorem isE {l : List Int} (h : l.isEmpty = true) : l = [] := List.isEmpty_iff.1 h
/-- What is printed is read as it was. -/
theorem lineP_back {s : Stp} {ah : List Int} (hf : Fine s) (hl : s.k = 3 → s.l ≠ []) (hw : widW s ah ≠ 0) : lineP (lineT s) = some (clr s) := by
  have hk : 1 ≤ s.k ∧ s.k ≤ 9 := by
    by_cases h : 1 ≤ s.k ∧ s.k ≤ 9
    · exact h
    · exact absurd (alone0 h) hw
  have ha : aloneB s = true := by
    cases e : aloneB s with
    | true => rfl
    | false => exact absurd (by unfold widW; rw [e]; rfl) hw
  unfold lineP
  rw [lineT_split]
  show (if kindP (wordL s.k) = 0 ∨ ((partL s.k).map (fun p => partT s p.toNat)).length ≠ (partL (kindP (wordL s.k))).length then none else partsP (bareK (kindP (wordL s.k))) (partL (kindP (wordL s.k))) ((partL s.k).map (fun p => partT s p.toNat))) = _
  rw [kindP_back hk, if_neg (by rw [List.length_map]; omega)]
  have hh : s.k = 1 ∨ s.k = 2 ∨ s.k = 3 ∨ s.k = 4 ∨ s.k = 5 ∨ s.k = 6 ∨ s.k = 7 ∨ s.k = 8 ∨ s.k = 9 := by omega
  have hop : s.k = 2 → s.o = 1 ∨ s.o = 2 ∨ s.o = 3 := by
    intro h2
    rw [wid2 h2] at hw
    have h3 : (inB s.a 0 ((ah.length : Int) - 1) && decide (s.b = 0) && s.l.isEmpty && inB s.o 1 3 && inB s.v (-1073741824) 1073741824 && inB s.c 0 ((ah.getD s.a.toNat 0) - 1)) = true := by
      by_cases h : (inB s.a 0 ((ah.length : Int) - 1) && decide (s.b = 0) && s.l.isEmpty && inB s.o 1 3 && inB s.v (-1073741824) 1073741824 && inB s.c 0 ((ah.getD s.a.toNat 0) - 1)) = true
      · exact h
      · rw [if_neg h] at hw; exact absurd rfl hw
    simp only [Bool.and_eq_true] at h3
    have h4 := h3.1.1.2
    rw [← op_in] at h4
    exact of_decide_eq_true h4
  obtain ⟨fa, fb, fc, fo, fv, fl⟩ := hf
  rcases s with ⟨k, a, b, c, o, v, p, n, l⟩
  simp only at hh hop fa fb fc fo fv fl hl
  rcases hh with rfl | rfl | rfl | rfl | rfl | rfl | rfl | rfl | rfl
  · rw [alone1 rfl] at ha
    simp only [Bool.and_eq_true, decide_eq_true_eq] at ha
    obtain ⟨⟨⟨⟨rfl, rfl⟩, rfl⟩, rfl⟩, hl0⟩ := ha
    obtain rfl := isE hl0
    show partsP (bareK 1) [65] [Lib.itoa a] = _
    simp only [partsP, pA _ fa]
    rfl
  · rw [alone2 rfl] at ha
    simp only [Bool.and_eq_true, decide_eq_true_eq] at ha
    obtain ⟨rfl, hl0⟩ := ha
    obtain rfl := isE hl0
    show partsP (bareK 2) [65, 67, 79, 86] [Lib.itoa a, Lib.itoa c, signL o, Lib.itoa v] = _
    simp only [partsP, pA _ fa, pC _ fc, pO _ (hop rfl), pV _ fv]
    rfl
  · rw [alone3 rfl] at ha
    simp only [Bool.and_eq_true, decide_eq_true_eq] at ha
    obtain ⟨⟨⟨rfl, rfl⟩, rfl⟩, rfl⟩ := ha
    show partsP (bareK 3) [65, 76] [Lib.itoa a, listL l] = _
    simp only [partsP, pA _ fa, pL _ (hl rfl) fl.2]
    rfl
  · rw [alone4 rfl] at ha
    simp only [Bool.and_eq_true, decide_eq_true_eq] at ha
    obtain ⟨rfl, hl0⟩ := ha
    obtain rfl := isE hl0
    show partsP (bareK 4) [65, 66, 67, 86] [Lib.itoa a, Lib.itoa b, Lib.itoa c, Lib.itoa v] = _
    simp only [partsP, pA _ fa, pB _ fb, pC _ fc, pV _ fv]
    rfl
  · rw [alone5 rfl] at ha
    simp only [Bool.and_eq_true, decide_eq_true_eq] at ha
    obtain ⟨⟨⟨rfl, rfl⟩, rfl⟩, hl0⟩ := ha
    obtain rfl := isE hl0
    show partsP (bareK 5) [65, 66] [Lib.itoa a, Lib.itoa b] = _
    simp only [partsP, pA _ fa, pB _ fb]
    rfl
  · rw [alone6 rfl] at ha
    simp only [Bool.and_eq_true, decide_eq_true_eq] at ha
    obtain ⟨⟨⟨rfl, rfl⟩, rfl⟩, hl0⟩ := ha
    obtain rfl := isE hl0
    show partsP (bareK 6) [65, 66] [Lib.itoa a, Lib.itoa b] = _
    simp only [partsP, pA _ fa, pB _ fb]
    rfl
  · rw [alone7 rfl] at ha
    simp only [Bool.and_eq_true, decide_eq_true_eq] at ha
    obtain ⟨⟨⟨⟨rfl, rfl⟩, rfl⟩, rfl⟩, hl0⟩ := ha
    obtain rfl := isE hl0
    show partsP (bareK 7) [65] [Lib.itoa a] = _
    simp only [partsP, pA _ fa]
    rfl
  · rw [alone8 rfl] at ha
    simp only [Bool.and_eq_true, decide_eq_true_eq] at ha
    obtain ⟨⟨⟨rfl, rfl⟩, rfl⟩, hl0⟩ := ha
    obtain rfl := isE hl0
    show partsP (bareK 8) [65, 67] [Lib.itoa a, Lib.itoa c] = _
    simp only [partsP, pA _ fa, pC _ fc]
    rfl
  · rw [alone9 rfl] at ha
    simp only [Bool.and_eq_true, decide_eq_true_eq] at ha
    obtain ⟨⟨rfl, rfl⟩, hl0⟩ := ha
    obtain rfl := isE hl0
    show partsP (bareK 9) [65, 67, 86] [Lib.itoa a, Lib.itoa c, Lib.itoa v] = _
    simp only [partsP, pA _ fa, pC _ fc, pV _ fv]
    rfl

/-- The steps of a text's lines; the last line is what stands behind the last end of a line: nothing. -/
def linesP : List (List UInt8) → Option (List Stp)
  | [] => none
  | [x] => if x = [] then some [] else none
  | x :: y :: r => match lineP x with
    | none => none
    | some s => match linesP (y :: r) with
      | none => none
      | some q => some (s :: q)
theorem linesP_text : ∀ {ls : List (List UInt8)} {q : List Stp}, linesP ls = some q → textT q = Lib.join ls [10]
  | [], q, h => by simp [linesP] at h
  | [x], q, h => by
    unfold linesP at h
    by_cases e : x = []
    · rw [if_pos e] at h
      obtain rfl := Option.some.inj h
      rw [Lib.join_one, e]
      rfl
    · rw [if_neg e] at h; simp at h
  | x :: y :: r, q, h => by
    unfold linesP at h
    cases e : lineP x with
    | none => rw [e] at h; simp at h
    | some s =>
      cases e2 : linesP (y :: r) with
      | none => rw [e, e2] at h; simp at h
      | some t =>
        rw [e, e2] at h
        obtain rfl := Option.some.inj h
        have ih := linesP_text e2
        rw [Lib.join_cons] at ih
        rw [Lib.join_cons, joinTail_cons]
        show (lineT s ++ [10]) ++ textT t = _
        rw [ih, lineP_text e]
        simp
/-- The query of a text. -/
def textP (x : List UInt8) : Option (List Stp) := linesP (splitC 10 x)
theorem textP_text {x : List UInt8} {q : List Stp} (h : textP x = some q) : textT q = x := by
  rw [linesP_text h, join_splitC]
theorem textT_cons (s : Stp) (q : List Stp) : textT (s :: q) = lineT s ++ 10 :: textT q := by simp [textT]
theorem textP_back : ∀ {q : List Stp}, (∀ s ∈ q, lineP (lineT s) = some (clr s)) → textP (textT q) = some (q.map clr)
  | [], _ => by simp [textP, textT, splitC, linesP]
  | s :: q, h => by
    have ih := textP_back (q := q) fun t ht => h t (by simp [ht])
    unfold textP at ih ⊢
    rw [textT_cons, splitC_app _ _ (lineT_free s)]
    cases e : splitC 10 (textT q) with
    | nil => exact absurd e (splitC_ne _ _)
    | cons y r =>
      rw [e] at ih
      rw [linesP, h s (by simp), ih]
      rfl
theorem widsF_each : ∀ (q : List Stp) (ah : List Int), (widsF q ah).isSome = true → ∀ s ∈ q, ∃ bh, widW s bh ≠ 0
  | [], _, _, s, hs => by simp at hs
  | t :: q, ah, h, s, hs => by
    unfold widsF at h
    by_cases e : widW t ah = 0
    · rw [if_pos e] at h; simp at h
    · rw [if_neg e] at h
      rcases List.mem_cons.1 hs with rfl | hs
      · exact ⟨ah, e⟩
      · exact widsF_each q _ h s hs
theorem errQ_back {q : List Stp} (h : errQ q = 0) : textP (textT q) = some (q.map clr) := by
  refine textP_back fun s hs => ?_
  have hf := errQ_fine h s hs
  have hw : (widsF q []).isSome = true := by
    unfold errQ at h
    by_cases h1 : q.length = 0
    · rw [if_pos h1] at h; omega
    · rw [if_neg h1] at h
      by_cases h2 : 8 < q.length
      · rw [if_pos h2] at h; omega
      · rw [if_neg h2] at h
        by_cases h3 : (widsF q []).isSome = true
        · exact h3
        · rw [if_neg h3] at h; omega
  obtain ⟨bh, hb⟩ := widsF_each q [] hw s hs
  exact lineP_back hf.1 hf.2 hb
end Go.Proofs.YtoodkgmpggabdaaDoor
