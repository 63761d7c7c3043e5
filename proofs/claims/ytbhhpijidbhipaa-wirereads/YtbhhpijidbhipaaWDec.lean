/-
  Whole packets: what Encode and Decode say, and what follows from it alone.
-/
import Derived.Test.YtbhhpijidbhipaaWPack
namespace Go.Proofs.Ytbhhpijidbhipaa

/-- A sum as four bytes, the lowest first. -/
def sumB (n : Nat) : List UInt8 := [UInt8.ofNat (n % 256), UInt8.ofNat (n / 256 % 256), UInt8.ofNat (n / 65536 % 256), UInt8.ofNat (n / 16777216 % 256)]
/-- A packet's bytes ahead of their sum. -/
def bodP (a b : Tab) : List UInt8 := codT a ++ codT b
/-- A packet's bytes. -/
def encP (a b : Tab) : List UInt8 := bodP a b ++ sumB (sumL (bodP a b))
/-- What the reader has read of a text: the tables, where it stands, whether all is well. -/
def pakS (x : List UInt8) : RS := tabS (tabS (x, true))
def pakA (x : List UInt8) : Tab := tabR (x, true)
def pakB (x : List UInt8) : Tab := tabR (tabS (x, true))
def pakAt (x : List UInt8) : Nat := x.length - (pakS x).1.length
def decOk (x : List UInt8) : Bool := (pakS x).2 && decide (4 ≤ (pakS x).1.length) && ((pakS x).1.take 4 == sumB (sumL (x.take (pakAt x)))) && decide (errT (pakA x) = 0) && decide (errT (pakB x) = 0)

theorem wctx_parts {c : Ctx} (h : errC c = 0) : okClk c = true ∧ c.l.length ≤ 400 ∧ ∀ x ∈ c.l, rightB x = true := by
  have h1 : okClk c = true := by
    cases hk : okClk c
    · simp [errC, hk] at h
    · rfl
  unfold errC at h
  rw [h1] at h
  by_cases hl : 400 < c.l.length
  · simp [hl] at h
  · refine ⟨h1, by omega, ?_⟩
    cases ha : (List.range c.l.length).all (okAt c)
    · simp [hl, ha] at h
    · intro x hx
      obtain ⟨j, hj, rfl⟩ := List.getElem_of_mem hx
      rw [List.all_eq_true] at ha
      have := ha j (by simpa using hj)
      cases j with
      | zero => rw [okAt_zero hj rfl] at this; simp at this; exact this.1
      | succ m => rw [okAt_succ hj rfl rfl] at this; simp at this; exact this.1.1
/-- A right table's numbers are in the range that is told. -/
theorem inT_ok {t : Tab} (h : errT t = 0) : InT t := by
  have hp := errT_parts h
  have hc := wctx_parts hp.1
  have hk := hc.1
  simp [okClk, inB] at hk
  have hcl : ∀ a : Int, clk t.c a ≤ 1099511627776 := by
    intro a
    unfold clk
    split
    · omega
    split
    · omega
    split <;> omega
  refine ⟨⟨by unfold InN; omega, by unfold InN; omega, by unfold InN; omega, by unfold InN; omega⟩, ?_, ?_, hc.2.1, hp.2.1⟩
  · intro d hd
    have := rightB_node (hc.2.2 d hd)
    exact ⟨by unfold InN; omega, by unfold InN; omega⟩
  · intro x hx
    obtain ⟨j, hj, hjx⟩ := List.getElem_of_mem hx
    have hok : hasB t.c x.1 = true ∧ okPlace x.2.1 x.2.2.1 x.2.2.2 = true := by
      have h3 := hp.2.2 j hj
      cases j with
      | zero => rw [okCel_zero hj hjx] at h3; simp at h3; exact h3
      | succ m => rw [okCel_succ hj hjx rfl] at h3; simp at h3; exact h3.1
    have hpl := hok.2
    simp [okPlace, inB] at hpl
    have hx1 : 0 ≤ x.1.1 ∧ x.1.1 ≤ 3 ∧ 1 ≤ x.1.2 ∧ x.1.2 ≤ 1099511627776 := by
      have hh := hok.1
      unfold hasB at hh
      rw [Bool.or_eq_true] at hh
      rcases hh with hh | hh
      · have := rightB_node (hc.2.2 x.1 (by simpa using hh))
        omega
      · simp [inB] at hh
        have := hcl x.1.1
        omega
    exact ⟨by unfold InN; omega, by unfold InN; omega, by unfold InN; omega, by unfold InN; omega, by unfold InN; omega⟩

theorem pak_tell {a b : Tab} (ha : InT a) (hb : InT b) (y : List UInt8) : pakA (bodP a b ++ y) = a ∧ pakB (bodP a b ++ y) = b ∧ pakS (bodP a b ++ y) = (y, true) := by
  have hx : bodP a b ++ y = codT a ++ (codT b ++ y) := by simp [bodP]
  have h1 := tab_tell ha (codT b ++ y)
  have h2 := tab_tell hb y
  unfold pakA pakB pakS
  rw [hx, h1.1, h1.2, h2.1, h2.2]
  exact ⟨rfl, rfl, rfl⟩
theorem sumB_len (n : Nat) : (sumB n).length = 4 := rfl
/-- A packet told is read as it was, whatever stands behind. -/
theorem dec_enc {a b : Tab} (ha : errT a = 0) (hb : errT b = 0) (y : List UInt8) : decOk (encP a b ++ y) = true ∧ pakA (encP a b ++ y) = a ∧ pakB (encP a b ++ y) = b ∧ pakAt (encP a b ++ y) + 4 = (encP a b).length := by
  have hx : encP a b ++ y = bodP a b ++ (sumB (sumL (bodP a b)) ++ y) := by simp [encP]
  have h := pak_tell (inT_ok ha) (inT_ok hb) (sumB (sumL (bodP a b)) ++ y)
  have hat : pakAt (encP a b ++ y) = (bodP a b).length := by
    unfold pakAt
    rw [hx, h.2.2, List.length_append]
    show _ - (sumB _ ++ y).length = _
    omega
  refine ⟨?_, by rw [hx]; exact h.1, by rw [hx]; exact h.2.1, ?_⟩
  · unfold decOk
    rw [hat, hx, h.1, h.2.1, h.2.2, ha, hb, List.take_left]
    simp [sumB]
  · rw [hat]
    unfold encP
    rw [List.length_append, sumB_len]
/-- What is read as a packet is how it is told. -/
theorem enc_dec {x : List UInt8} (h : decOk x = true) : x.take (pakAt x + 4) = encP (pakA x) (pakB x) ∧ pakAt x + 4 ≤ x.length ∧ errT (pakA x) = 0 ∧ errT (pakB x) = 0 := by
  unfold decOk at h
  simp only [Bool.and_eq_true, decide_eq_true_eq, beq_iff_eq] at h
  obtain ⟨⟨⟨⟨h1, h2⟩, h3⟩, h4⟩, h5⟩ := h
  obtain ⟨y, hy⟩ : ∃ y, pakS x = (y, true) := ⟨(pakS x).1, Prod.ext rfl h1⟩
  have t2 := tab_told (show tabS (tabS (x, true)) = (y, true) from hy) (inT_ok h5)
  have t1 := tab_told t2 (inT_ok h4)
  have hx : x = bodP (pakA x) (pakB x) ++ y := by
    have := (Prod.mk.inj t1).1
    rw [bodP, List.append_assoc]
    exact this
  rw [hy] at h2 h3
  have hl : x.length = (bodP (pakA x) (pakB x)).length + y.length := by
    have := congrArg List.length hx
    rw [List.length_append] at this
    exact this
  have hat : pakAt x = (bodP (pakA x) (pakB x)).length := by
    unfold pakAt
    rw [hy]
    show x.length - y.length = _
    omega
  have htk : x.take (pakAt x) = bodP (pakA x) (pakB x) := by
    obtain ⟨bd, hbd⟩ : ∃ bd, bodP (pakA x) (pakB x) = bd := ⟨_, rfl⟩
    rw [hat, hbd]
    rw [hbd] at hx
    rw [hx, List.take_left]
  rw [htk] at h3
  have h2 : 4 ≤ y.length := h2
  have h3 : y.take 4 = sumB (sumL (bodP (pakA x) (pakB x))) := h3
  refine ⟨?_, by omega, h4, h5⟩
  unfold encP
  obtain ⟨bd, hbd⟩ : ∃ bd, bodP (pakA x) (pakB x) = bd := ⟨_, rfl⟩
  rw [hat, hbd, ← hbd, ← h3, hbd]
  rw [hbd] at hx
  rw [hx, List.take_length_add_append]
/-- A beginning of a packet's bytes is none. -/
theorem dec_prefix {a b : Tab} (ha : errT a = 0) (hb : errT b = 0) {q : List UInt8} {n : Nat} (hn : n < (encP a b).length) (hq : q = (encP a b).take n) : decOk q = false := by
  cases h : decOk q
  · rfl
  · exfalso
    have e := enc_dec h
    have hql : q.length = n := by rw [hq, List.length_take]; omega
    have hx : encP a b = encP (pakA q) (pakB q) ++ (q.drop (pakAt q + 4) ++ (encP a b).drop n) := by
      rw [← e.1, ← List.append_assoc, List.take_append_drop, hq, List.take_append_drop]
    have d1 := dec_enc e.2.2.1 e.2.2.2 (q.drop (pakAt q + 4) ++ (encP a b).drop n)
    have d2 := dec_enc ha hb []
    rw [List.append_nil] at d2
    rw [← hx] at d1
    have hle : (encP (pakA q) (pakB q)).length ≤ q.length := by rw [← e.1, List.length_take]; omega
    have := d1.2.2.2
    have := d2.2.2.2
    omega
/-- With anything in it turned it isn't read as it was. -/
theorem dec_turned {a b : Tab} {x : List UInt8} (hl : x.length = (encP a b).length) (hne : x ≠ encP a b) : ¬ (decOk x = true ∧ pakA x = a ∧ pakB x = b) := by
  rintro ⟨h, h1, h2⟩
  have e := enc_dec h
  rw [h1, h2] at e
  have hk : (x.take (pakAt x + 4)).length = x.length := by rw [e.1, hl]
  rw [List.length_take] at hk
  apply hne
  rw [← e.1, List.take_of_length_le (by omega)]
end Go.Proofs.Ytbhhpijidbhipaa
