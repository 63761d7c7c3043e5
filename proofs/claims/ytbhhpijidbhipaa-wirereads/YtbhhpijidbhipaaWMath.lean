/-
  Numbers as bytes, told and read.
-/
import Derived.Test.YtbhhpijidbhipaaWNum
import Derived.Test.YtbhhpijidbhipaaWRead
namespace Go.Proofs.Ytbhhpijidbhipaa

/-- Bytes that are a number, as short as it may be. -/
def Short : List UInt8 → Prop
  | [] => False
  | [c] => c.toNat < 128
  | c :: d :: t => 128 ≤ c.toNat ∧ lebV (d :: t) ≠ 0 ∧ Short (d :: t)

theorem lebV_leb (u : Nat) : lebV (leb u) = u := by
  induction u using Nat.strongRecOn with
  | ind u ih =>
    by_cases h : 127 < u
    · rw [leb_big h, lebV, ih (u / 128) (by omega), UInt8.toNat_ofNat', Nat.mod_eq_of_lt (a := 128 + u % 128) (by omega)]
      omega
    · rw [leb_small h, lebV, lebV, UInt8.toNat_ofNat', Nat.mod_eq_of_lt (a := u) (by omega)]
      omega
theorem leb_ne (u : Nat) : leb u ≠ [] := by
  by_cases h : 127 < u
  · rw [leb_big h]; simp
  · rw [leb_small h]; simp
theorem short_leb (u : Nat) : Short (leb u) := by
  induction u using Nat.strongRecOn with
  | ind u ih =>
    by_cases h : 127 < u
    · rw [leb_big h]
      have h1 := ih (u / 128) (by omega)
      have h2 := lebV_leb (u / 128)
      revert h1 h2
      cases leb (u / 128) with
      | nil => intro h1 _; exact h1.elim
      | cons d t =>
        intro h1 h2
        refine ⟨?_, by omega, h1⟩
        rw [UInt8.toNat_ofNat', Nat.mod_eq_of_lt (a := 128 + u % 128) (by omega)]
        omega
    · rw [leb_small h]
      show _ < _
      rw [UInt8.toNat_ofNat', Nat.mod_eq_of_lt (a := u) (by omega)]
      omega
/-- Short bytes are the bytes of what they are worth. -/
theorem leb_short : ∀ {l : List UInt8}, Short l → leb (lebV l) = l
  | [], h => h.elim
  | [c], h => by
    have h : c.toNat < 128 := h
    rw [lebV, lebV, leb_small (by omega)]
    congr 1
    apply UInt8.toNat_inj.mp
    rw [UInt8.toNat_ofNat']
    omega
  | c :: d :: t, h => by
    obtain ⟨h1, h2, h3⟩ := h
    have h4 := leb_short h3
    have hc : c.toNat < 256 := UInt8.toNat_lt c
    rw [lebV, leb_big (by omega)]
    rw [show (lebV (d :: t) * 128 + c.toNat % 128) / 128 = lebV (d :: t) by omega, h4]
    congr 1
    apply UInt8.toNat_inj.mp
    rw [UInt8.toNat_ofNat']
    omega
/-- How short bytes are read, whatever stands behind. -/
theorem hiN_short : ∀ {l : List UInt8} (n : Nat) (y : List UInt8), Short l → l.length ≤ n → hiN n (l ++ y) + 1 = l.length
  | [], _, _, h, _ => h.elim
  | [c], n, y, h, hn => by
    have h : c.toNat < 128 := h
    obtain ⟨m, rfl⟩ : ∃ m, n = m + 1 := ⟨n - 1, by simp at hn; omega⟩
    show hiN (m + 1) (c :: y) + 1 = 1
    rw [hiN, if_neg (by omega)]
  | c :: d :: t, n, y, h, hn => by
    obtain ⟨h1, h2, h3⟩ := h
    obtain ⟨m, rfl⟩ : ∃ m, n = m + 1 := ⟨n - 1, by simp at hn; omega⟩
    have h4 := hiN_short m y h3 (by simp at hn ⊢; omega)
    show hiN (m + 1) (c :: ((d :: t) ++ y)) + 1 = _
    rw [hiN, if_pos h1, h4]
    simp
theorem short_ne {l : List UInt8} (h : Short l) : 0 < l.length := by
  cases l with
  | nil => exact h.elim
  | cons => simp
theorem short_last : ∀ {l : List UInt8}, Short l → ∀ (h : 1 < l.length), l[l.length - 1]'(by omega) ≠ 0
  | [], h, _ => h.elim
  | [c], _, h => by simp at h
  | [c, d], h, _ => by
    obtain ⟨_, h2, _⟩ := h
    intro h
    apply h2
    have h : d = 0 := h
    rw [h]
    rfl
  | c :: d :: e :: t, h, _ => short_last (l := d :: e :: t) h.2.2 (by simp)
theorem readB_short {l : List UInt8} (y : List UInt8) (h : Short l) (h9 : l.length ≤ 9) : readB (l ++ y) = true ∧ readN (l ++ y) = unzig (lebV l) ∧ readK (l ++ y) = l.length := by
  have h1 := hiN_short 9 y h h9
  have hp := short_ne h
  have hb : readB (l ++ y) = true := by
    unfold readB
    have e1 : (hiN 9 (l ++ y) == (l ++ y).length) = false := by simp; omega
    have e2 : (hiN 9 (l ++ y) == 9) = false := by simp; omega
    rw [e1, e2]
    by_cases hl : 1 < l.length
    · have e3 : ((l ++ y)[hiN 9 (l ++ y)]? == some 0) = false := by
        rw [show hiN 9 (l ++ y) = l.length - 1 by omega, List.getElem?_append_left (by omega), List.getElem?_eq_getElem (by omega)]
        simpa using short_last h hl
      rw [e3]
      simp
    · rw [show hiN 9 (l ++ y) = 0 by omega]
      simp
  refine ⟨hb, ?_, ?_⟩
  · unfold readN
    rw [hb, if_pos rfl, h1, List.take_left]
  · unfold readK
    rw [hb, if_pos rfl, h1]
/-- What is read is short. -/
theorem short_of : ∀ (n : Nat) (x : List UInt8), hiN n x < x.length → hiN n x < n → (0 < hiN n x → x[hiN n x]? ≠ some 0) → Short (x.take (hiN n x + 1)) ∧ (0 < hiN n x → lebV (x.take (hiN n x + 1)) ≠ 0)
  | 0, _, _, h, _ => absurd h (Nat.not_lt_zero _)
  | _ + 1, [], h, _, _ => by simp at h
  | n + 1, c :: t, h1, h2, h3 => by
    have hc : c.toNat < 256 := UInt8.toNat_lt c
    by_cases hh : 128 ≤ c.toNat
    · have he : hiN (n + 1) (c :: t) = hiN n t + 1 := by rw [hiN, if_pos hh]
      rw [he] at h1 h2 h3 ⊢
      have h1' : hiN n t < t.length := by simpa using h1
      have ih := short_of n t h1' (by omega) (fun hp hz => h3 (by omega) (by simpa using hz))
      have hne : lebV (t.take (hiN n t + 1)) ≠ 0 := by
        by_cases h0 : 0 < hiN n t
        · exact ih.2 h0
        · have hz0 : hiN n t = 0 := by omega
          rw [hz0] at h3 ⊢
          cases t with
          | nil => simp at h1'
          | cons d t =>
            have hd := h3 (by omega)
            have hs : Short [d] := by have := ih.1; rw [hz0] at this; exact this
            have hs : d.toNat < 128 := hs
            show lebV [d] ≠ 0
            rw [lebV, lebV]
            intro h0
            apply hd
            have : d = 0 := UInt8.toNat_inj.mp (by show d.toNat = 0; omega)
            rw [this]
            rfl
      have hex : ∃ d s, t.take (hiN n t + 1) = d :: s := by
        cases ht : t.take (hiN n t + 1) with
        | nil => rw [ht] at hne; exact absurd rfl hne
        | cons d s => exact ⟨d, s, rfl⟩
      obtain ⟨d, s, hds⟩ := hex
      rw [List.take_succ_cons, hds]
      rw [hds] at ih hne
      exact ⟨⟨hh, hne, ih.1⟩, fun _ => by rw [lebV]; omega⟩
    · have he : hiN (n + 1) (c :: t) = 0 := by rw [hiN, if_neg hh]
      rw [he]
      exact ⟨show c.toNat < 128 by omega, fun h => absurd h (by omega)⟩
theorem readB_parts {x : List UInt8} (h : readB x = true) : Short (x.take (readK x)) ∧ readN x = unzig (lebV (x.take (readK x))) ∧ 0 < readK x ∧ readK x ≤ x.length ∧ readK x ≤ 9 := by
  have hk : readK x = hiN 9 x + 1 := by unfold readK; rw [h, if_pos rfl]
  have hn : readN x = unzig (lebV (x.take (hiN 9 x + 1))) := by unfold readN; rw [h, if_pos rfl]
  unfold readB at h
  simp only [Bool.not_eq_true', Bool.or_eq_false_iff, Bool.and_eq_false_iff] at h
  obtain ⟨⟨h1, h2⟩, h3⟩ := h
  have h1 : hiN 9 x ≠ x.length := by simpa using h1
  have h2 : hiN 9 x ≠ 9 := by simpa using h2
  have g1 := hiN_le 9 x
  have g2 := hiN_len 9 x
  rw [hk]
  refine ⟨(short_of 9 x (by omega) (by omega) (fun hp => ?_)).1, hn, by omega, by omega, by omega⟩
  rcases h3 with h3 | h3
  · simp at h3; omega
  · simpa using h3
theorem unzig_zig (n : Int) : unzig (zigN n) = n := by
  unfold unzig zigN
  split <;> split <;> omega
theorem zig_unzig (u : Nat) : zigN (unzig u) = u := by
  unfold unzig zigN
  split <;> split <;> omega
theorem zig_lt (n : Int) : zigN (clampN n) ≤ 4611686018427387904 := by unfold zigN clampN; split <;> omega
theorem numL_short (n : Int) : Short (numL n) ∧ (numL n).length ≤ 9 := ⟨short_leb _, leb_len 8 (by have := zig_lt n; omega)⟩
/-- A number told is read as it was, whatever stands behind. -/
theorem read_num (n : Int) (y : List UInt8) : readB (numL n ++ y) = true ∧ readN (numL n ++ y) = clampN n ∧ readK (numL n ++ y) = (numL n).length := by
  have h := readB_short y (numL_short n).1 (numL_short n).2
  refine ⟨h.1, ?_, h.2.2⟩
  rw [h.2.1]
  unfold numL
  rw [lebV_leb, unzig_zig]
/-- What is read as a number is how it is told. -/
theorem num_read {x : List UInt8} (h : readB x = true) (hn : clampN (readN x) = readN x) : x = numL (readN x) ++ x.drop (readK x) := by
  have hp := readB_parts h
  conv => lhs; rw [← List.take_append_drop (readK x) x]
  congr 1
  unfold numL
  rw [hn, hp.2.1, zig_unzig, leb_short hp.1]
end Go.Proofs.Ytbhhpijidbhipaa
