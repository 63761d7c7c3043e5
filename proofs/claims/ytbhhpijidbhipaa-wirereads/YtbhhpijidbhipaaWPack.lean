/-
  Packets as bytes, told and read: what a walk's loops do, and that the one takes the other back.
-/
import Derived.Test.YtbhhpijidbhipaaTBase
import Derived.Test.YtbhhpijidbhipaaWMath
import Derived.Test.YtbhhpijidbhipaaWSum
namespace Go.Proofs.Ytbhhpijidbhipaa

/-- A reader: what isn't read yet, and whether all went well. -/
abbrev RS := List UInt8 × Bool
def nxN (s : RS) : Int := if s.2 then readN s.1 else 0
def nxS (s : RS) : RS := if s.2 then (s.1.drop (readK s.1), readB s.1) else s
def myN (s : RS) : Int := if (nxS s).2 && inB (nxN s) 0 400 then nxN s else 0
def myS (s : RS) : RS := ((nxS s).1, (nxS s).2 && inB (nxN s) 0 400)
def dotsS : Nat → RS → RS
  | 0, s => s
  | k + 1, s => nxS (nxS (dotsS k s))
def dotsL : Nat → RS → List (Int × Int)
  | 0, _ => []
  | k + 1, s => dotsL k s ++ [(nxN (dotsS k s), nxN (nxS (dotsS k s)))]
def celsS : Nat → RS → RS
  | 0, s => s
  | k + 1, s => nxS (nxS (nxS (nxS (nxS (celsS k s)))))
def celsL : Nat → RS → List Cel
  | 0, _ => []
  | k + 1, s => celsL k s ++ [((nxN (celsS k s), nxN (nxS (celsS k s))), nxN (nxS (nxS (celsS k s))), nxN (nxS (nxS (nxS (celsS k s)))), nxN (nxS (nxS (nxS (nxS (celsS k s))))))]
/-- Behind the clock; behind the dots. -/
def clkS (s : RS) : RS := nxS (nxS (nxS (nxS s)))
def cldS (s : RS) : RS := dotsS (myN (clkS s)).toNat (myS (clkS s))
def tabS (s : RS) : RS := celsS (myN (cldS s)).toNat (myS (cldS s))
def tabR (s : RS) : Tab := ⟨⟨nxN s, nxN (nxS s), nxN (nxS (nxS s)), nxN (nxS (nxS (nxS s))), dotsL (myN (clkS s)).toNat (myS (clkS s))⟩, celsL (myN (cldS s)).toNat (myS (cldS s))⟩

def codDot (d : Int × Int) : List UInt8 := numL d.1 ++ numL d.2
def codCel (x : Cel) : List UInt8 := numL x.1.1 ++ numL x.1.2 ++ numL x.2.1 ++ numL x.2.2.1 ++ numL x.2.2.2
def codD (l : List (Int × Int)) : List UInt8 := l.flatMap codDot
def codE (l : List Cel) : List UInt8 := l.flatMap codCel
/-- A table's bytes. -/
def codT (t : Tab) : List UInt8 := numL t.c.c0 ++ numL t.c.c1 ++ numL t.c.c2 ++ numL t.c.c3 ++ numL t.c.l.length ++ codD t.c.l ++ numL t.e.length ++ codE t.e

def InN (n : Int) : Prop := -2305843009213693952 ≤ n ∧ n ≤ 2305843009213693952
theorem InN.clamp {n : Int} (h : InN n) : clampN n = n := by unfold InN at h; unfold clampN; omega
def InD (d : Int × Int) : Prop := InN d.1 ∧ InN d.2
def InE (x : Cel) : Prop := InN x.1.1 ∧ InN x.1.2 ∧ InN x.2.1 ∧ InN x.2.2.1 ∧ InN x.2.2.2
def InT (t : Tab) : Prop := (InN t.c.c0 ∧ InN t.c.c1 ∧ InN t.c.c2 ∧ InN t.c.c3) ∧ (∀ d ∈ t.c.l, InD d) ∧ (∀ x ∈ t.e, InE x) ∧ t.c.l.length ≤ 400 ∧ t.e.length ≤ 400

theorem nx_tell {n : Int} (h : InN n) (y : List UInt8) : nxN (numL n ++ y, true) = n ∧ nxS (numL n ++ y, true) = (y, true) := by
  have r := read_num n y
  constructor
  · show readN (numL n ++ y) = n
    rw [r.2.1, h.clamp]
  · show ((numL n ++ y).drop (readK (numL n ++ y)), readB (numL n ++ y)) = _
    rw [r.1, r.2.2, List.drop_left]
theorem nxN_tell {n : Int} (h : InN n) (y : List UInt8) : nxN (numL n ++ y, true) = n := (nx_tell h y).1
theorem nxS_tell {n : Int} (h : InN n) (y : List UInt8) : nxS (numL n ++ y, true) = (y, true) := (nx_tell h y).2
theorem nx_told {s : RS} {y : List UInt8} (h : nxS s = (y, true)) (hn : InN (nxN s)) : s = (numL (nxN s) ++ y, true) := by
  obtain ⟨x, ok⟩ := s
  cases ok with
  | false => simp [nxS] at h
  | true =>
    have h : (x.drop (readK x), readB x) = (y, true) := h
    obtain ⟨h1, h2⟩ := Prod.mk.inj h
    have hn : InN (readN x) := hn
    show (x, true) = (numL (readN x) ++ y, true)
    rw [← h1, ← num_read h2 hn.clamp]
theorem my_tell {n : Int} (h0 : 0 ≤ n) (h4 : n ≤ 400) (y : List UInt8) : myN (numL n ++ y, true) = n ∧ myS (numL n ++ y, true) = (y, true) := by
  have h : InN n := by unfold InN; omega
  have hb : inB n 0 400 = true := by simp [inB]; omega
  unfold myN myS
  rw [nxN_tell h, nxS_tell h, hb]
  exact ⟨rfl, rfl⟩
theorem my_told {s : RS} {y : List UInt8} (h : myS s = (y, true)) : s = (numL (myN s) ++ y, true) ∧ 0 ≤ myN s ∧ myN s ≤ 400 := by
  obtain ⟨h1, h2⟩ := Prod.mk.inj h
  have h3 : myN s = nxN s := by unfold myN; rw [h2, if_pos rfl]
  rw [Bool.and_eq_true] at h2
  have h4 : 0 ≤ nxN s ∧ nxN s ≤ 400 := by have := h2.2; simp [inB] at this; exact this
  rw [h3]
  exact ⟨nx_told (Prod.ext h1 h2.1) (by unfold InN; omega), h4⟩

theorem dotsL_len : ∀ (k : Nat) (s : RS), (dotsL k s).length = k
  | 0, _ => rfl
  | k + 1, s => by rw [dotsL, List.length_append, dotsL_len k s]; rfl
theorem celsL_len : ∀ (k : Nat) (s : RS), (celsL k s).length = k
  | 0, _ => rfl
  | k + 1, s => by rw [celsL, List.length_append, celsL_len k s]; rfl
theorem dots_tell : ∀ (k : Nat) (l : List (Int × Int)) (y : List UInt8), l.length = k → (∀ d ∈ l, InD d) → dotsL k (codD l ++ y, true) = l ∧ dotsS k (codD l ++ y, true) = (y, true)
  | 0, l, y, h, _ => by
    have : l = [] := List.eq_nil_of_length_eq_zero h
    subst this
    exact ⟨rfl, rfl⟩
  | k + 1, l, y, h, hd => by
    have hne : l ≠ [] := by intro h0; rw [h0] at h; simp at h
    rw [← List.dropLast_concat_getLast hne] at hd ⊢
    obtain ⟨a, b, hab⟩ : ∃ a b, l.getLast hne = (a, b) := ⟨_, _, rfl⟩
    rw [hab] at hd ⊢
    have hi : InD (a, b) := hd _ (by simp)
    have ih := dots_tell k l.dropLast (numL a ++ (numL b ++ y)) (by rw [List.length_dropLast]; omega) (fun d hm => hd d (by simp [hm]))
    have he : codD (l.dropLast ++ [(a, b)]) ++ y = codD l.dropLast ++ (numL a ++ (numL b ++ y)) := by simp [codD, codDot]
    rw [he, dotsL, dotsS, ih.1, ih.2, nxN_tell hi.1, nxS_tell hi.1, nxN_tell hi.2, nxS_tell hi.2]
    exact ⟨rfl, rfl⟩
theorem dots_told : ∀ (k : Nat) (s : RS) (y : List UInt8), dotsS k s = (y, true) → (∀ d ∈ dotsL k s, InD d) → s = (codD (dotsL k s) ++ y, true)
  | 0, s, y, h, _ => h
  | k + 1, s, y, h, hd => by
    rw [dotsL] at hd ⊢
    have hi : InD (nxN (dotsS k s), nxN (nxS (dotsS k s))) := hd _ (by simp)
    have h1 := nx_told h hi.2
    have h2 := nx_told h1 hi.1
    have ih := dots_told k s _ h2 (fun d hm => hd d (by simp [hm]))
    conv => lhs; rw [ih]
    simp [codD, codDot]
theorem cels_tell : ∀ (k : Nat) (l : List Cel) (y : List UInt8), l.length = k → (∀ d ∈ l, InE d) → celsL k (codE l ++ y, true) = l ∧ celsS k (codE l ++ y, true) = (y, true)
  | 0, l, y, h, _ => by
    have : l = [] := List.eq_nil_of_length_eq_zero h
    subst this
    exact ⟨rfl, rfl⟩
  | k + 1, l, y, h, hd => by
    have hne : l ≠ [] := by intro h0; rw [h0] at h; simp at h
    rw [← List.dropLast_concat_getLast hne] at hd ⊢
    obtain ⟨a, b, c, d, e, hab⟩ : ∃ a b c d e, l.getLast hne = ((a, b), c, d, e) := ⟨_, _, _, _, _, rfl⟩
    rw [hab] at hd ⊢
    obtain ⟨i1, i2, i3, i4, i5⟩ : InE ((a, b), c, d, e) := hd _ (by simp)
    have ih := cels_tell k l.dropLast (numL a ++ (numL b ++ (numL c ++ (numL d ++ (numL e ++ y))))) (by rw [List.length_dropLast]; omega) (fun d hm => hd d (by simp [hm]))
    have he : codE (l.dropLast ++ [((a, b), c, d, e)]) ++ y = codE l.dropLast ++ (numL a ++ (numL b ++ (numL c ++ (numL d ++ (numL e ++ y))))) := by simp [codE, codCel]
    rw [he, celsL, celsS, ih.1, ih.2, nxN_tell i1, nxS_tell i1, nxN_tell i2, nxS_tell i2, nxN_tell i3, nxS_tell i3, nxN_tell i4, nxS_tell i4, nxN_tell i5, nxS_tell i5]
    exact ⟨rfl, rfl⟩
theorem cels_told : ∀ (k : Nat) (s : RS) (y : List UInt8), celsS k s = (y, true) → (∀ d ∈ celsL k s, InE d) → s = (codE (celsL k s) ++ y, true)
  | 0, s, y, h, _ => h
  | k + 1, s, y, h, hd => by
    rw [celsL] at hd ⊢
    obtain ⟨i1, i2, i3, i4, i5⟩ : InE ((nxN (celsS k s), nxN (nxS (celsS k s))), nxN (nxS (nxS (celsS k s))), nxN (nxS (nxS (nxS (celsS k s)))), nxN (nxS (nxS (nxS (nxS (celsS k s)))))) := hd _ (by simp)
    have h1 := nx_told (nx_told (nx_told (nx_told (nx_told h i5) i4) i3) i2) i1
    have ih := cels_told k s _ h1 (fun d hm => hd d (by simp [hm]))
    conv => lhs; rw [ih]
    simp [codE, codCel]

/-- A table told is read as it was, whatever stands behind. -/
theorem tab_tell {t : Tab} (h : InT t) (y : List UInt8) : tabR (codT t ++ y, true) = t ∧ tabS (codT t ++ y, true) = (y, true) := by
  obtain ⟨⟨⟨c0, c1, c2, c3, l⟩, e⟩, rfl⟩ : ∃ u : Tab, t = u := ⟨t, rfl⟩
  obtain ⟨⟨i0, i1, i2, i3⟩, hd, he, hl, hel⟩ := h
  have hx : codT ⟨⟨c0, c1, c2, c3, l⟩, e⟩ ++ y = numL c0 ++ (numL c1 ++ (numL c2 ++ (numL c3 ++ (numL l.length ++ (codD l ++ (numL e.length ++ (codE e ++ y))))))) := by simp [codT]
  have hl : l.length ≤ 400 := hl
  have hel : e.length ≤ 400 := hel
  have hc : clkS (codT ⟨⟨c0, c1, c2, c3, l⟩, e⟩ ++ y, true) = (numL l.length ++ (codD l ++ (numL e.length ++ (codE e ++ y))), true) := by
    unfold clkS
    rw [hx, nxS_tell i0, nxS_tell i1, nxS_tell i2, nxS_tell i3]
  have m1 := my_tell (n := l.length) (by omega) (by omega) (codD l ++ (numL e.length ++ (codE e ++ y)))
  have d1 := dots_tell l.length l (numL e.length ++ (codE e ++ y)) rfl hd
  have hs : cldS (codT ⟨⟨c0, c1, c2, c3, l⟩, e⟩ ++ y, true) = (numL e.length ++ (codE e ++ y), true) := by
    unfold cldS
    rw [hc, m1.1, m1.2, Int.toNat_natCast, d1.2]
  have m2 := my_tell (n := e.length) (by omega) (by omega) (codE e ++ y)
  have d2 := cels_tell e.length e y rfl he
  unfold tabR tabS
  rw [hs, hc, m1.1, m1.2, m2.1, m2.2, Int.toNat_natCast, Int.toNat_natCast, d1.1, d2.1, d2.2, hx, nxN_tell i0, nxS_tell i0, nxN_tell i1, nxS_tell i1, nxN_tell i2, nxS_tell i2, nxN_tell i3]
  exact ⟨rfl, rfl⟩
/-- What is read as a table is how it is told. -/
theorem tab_told {s : RS} {y : List UInt8} (h : tabS s = (y, true)) (ht : InT (tabR s)) : s = (codT (tabR s) ++ y, true) := by
  obtain ⟨⟨i0, i1, i2, i3⟩, hd, he, -, -⟩ := ht
  have h1 := cels_told _ _ _ h he
  have h2 := my_told h1
  have h3 := dots_told _ _ _ h2.1 hd
  have h4 := my_told h3
  have h5 := nx_told (nx_told (nx_told (nx_told h4.1 i3) i2) i1) i0
  conv => lhs; rw [h5]
  have e1 : ((tabR s).c.l.length : Int) = myN (clkS s) := by show ((dotsL _ _).length : Int) = _; rw [dotsL_len]; omega
  have e2 : ((tabR s).e.length : Int) = myN (cldS s) := by show ((celsL _ _).length : Int) = _; rw [celsL_len]; omega
  unfold codT
  rw [e1, e2]
  simp only [List.append_assoc]
  rfl
end Go.Proofs.Ytbhhpijidbhipaa
