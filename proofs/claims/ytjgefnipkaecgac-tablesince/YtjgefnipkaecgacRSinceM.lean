/-
  What viewref.Since reckons with: the clock ahead of the dots that go; which dots are left.
-/
import Derived.Test.YtjgefnipkaecgacTSince
namespace Go.Proofs.Ytjgefnipkaecgac
open Go.RowKit Go.Sort

/-- One step down, at a dot that goes. -/
def downBy (q : Int) (k : Int) (d : Int × Int) : Int := if d.1 = q ∧ d.2 ≤ k then d.2 - 1 else k
/-- Down by all dots of a list. -/
def downTo (q : Int) (K : List (Int × Int)) (n : Int) : Int := K.foldl (downBy q) n
theorem downBy_min (q k : Int) (d : Int × Int) : downBy q k d = if d.1 = q then min k (d.2 - 1) else k := by
  unfold downBy
  by_cases h1 : d.1 = q
  · by_cases h2 : d.2 ≤ k
    · rw [if_pos ⟨h1, h2⟩, if_pos h1]; omega
    · rw [if_neg (fun h => h2 h.2), if_pos h1]; omega
  · rw [if_neg (fun h => h1 h.1), if_neg h1]
theorem downTo_cons (q : Int) (d : Int × Int) (K : List (Int × Int)) (n : Int) : downTo q (d :: K) n = downTo q K (downBy q n d) := rfl
theorem downTo_le (q : Int) (K : List (Int × Int)) : ∀ n, downTo q K n ≤ n := by
  induction K with
  | nil => intro n; exact Int.le_refl _
  | cons d K ih =>
    intro n
    rw [downTo_cons]
    have h1 := ih (downBy q n d)
    have h2 : downBy q n d ≤ n := by rw [downBy_min]; split <;> omega
    omega
theorem downTo_min (q : Int) (K : List (Int × Int)) : ∀ n m, downTo q K (min n m) = min (downTo q K n) m := by
  induction K with
  | nil => intro n m; rfl
  | cons d K ih =>
    intro n m
    rw [downTo_cons, downTo_cons]
    have h : downBy q (min n m) d = min (downBy q n d) m := by
      rw [downBy_min, downBy_min]; split <;> omega
    rw [h, ih]
theorem downTo_idem (q : Int) (K : List (Int × Int)) (n : Int) : downTo q K (downTo q K n) = downTo q K n := by
  have h1 := downTo_min q K n (downTo q K n)
  have h2 := downTo_le q K n
  have e : min n (downTo q K n) = downTo q K n := by omega
  rw [e] at h1
  rw [h1]
  omega
theorem downTo_nonneg {q : Int} {K : List (Int × Int)} (hK : ∀ x ∈ K, rightB x = true) : ∀ {n : Int}, 0 ≤ n → 0 ≤ downTo q K n := by
  induction K with
  | nil => intro n h; exact h
  | cons d K ih =>
    intro n h
    rw [downTo_cons]
    refine ih (fun x hx => hK x (by simp [hx])) ?_
    have hd := hK d (by simp)
    unfold rightB inB at hd
    simp only [Bool.and_eq_true, decide_eq_true_eq] at hd
    rw [downBy_min]
    split <;> omega
theorem downTo_take {q : Int} {K : List (Int × Int)} {n : Int} {k : Nat} (h : k < K.length) {x : Int × Int} (hx : K[k] = x) : downTo q (K.take (k + 1)) n = downBy q (downTo q (K.take k) n) x := by
  unfold downTo
  rw [List.take_succ_eq_append_getElem h, List.foldl_append, hx]
  rfl
theorem clk_lowBy {b : Ctx} {d : Int × Int} {q : Int} (hd : rightB d = true) (h0 : 0 ≤ q) (h4 : q < 4) : clk (lowBy b d) q = downBy q (clk b q) d := by
  rw [lowBy_right hd, downBy_min]
  unfold rightB inB at hd
  simp only [Bool.and_eq_true, decide_eq_true_eq] at hd
  rw [clk_setClk b d.1 _ q hd.1.1 (by omega) h0 h4]
  by_cases h : q = d.1
  · rw [if_pos h, if_pos h.symm, h]
  · rw [if_neg h, if_neg (fun e => h e.symm)]
theorem clk_foldLow {q : Int} (h0 : 0 ≤ q) (h4 : q < 4) : ∀ (K : List (Int × Int)) (b : Ctx), (∀ x ∈ K, rightB x = true) → clk (K.foldl lowBy b) q = downTo q K (clk b q) := by
  intro K
  induction K with
  | nil => intro b _; rfl
  | cons d K ih =>
    intro b hK
    rw [List.foldl_cons, ih _ (fun x hx => hK x (by simp [hx])), downTo_cons, clk_lowBy (hK d (by simp)) h0 h4]
theorem clk_lowC {c : Ctx} {K : List (Int × Int)} {q : Int} (hK : ∀ x ∈ K, rightB x = true) (h0 : 0 ≤ q) (h4 : q < 4) : clk (lowC c K) q = downTo q K (clk c q) := by
  unfold lowC
  rw [clk_foldLow h0 h4 K _ hK]
  rfl

/-- A context of dots alone. -/
def bareC (K : List (Int × Int)) : Ctx := ⟨0, 0, 0, 0, K⟩
theorem has_bare {K : List (Int × Int)} {x : Int × Int} : hasB (bareC K) x = K.contains x := by
  unfold hasB bareC
  have : (inB x.1 0 3 && decide (1 ≤ x.2) && decide (x.2 ≤ clk ⟨0, 0, 0, 0, K⟩ x.1)) = false := by
    have h0 : clk ⟨0, 0, 0, 0, K⟩ x.1 = 0 := by unfold clk; simp
    rw [h0]
    by_cases h : 1 ≤ x.2
    · have : ¬ x.2 ≤ 0 := by omega
      simp [this]
    · simp [h]
  rw [this]; simp
/-- Above the lowered clocks, only the dots themselves count. -/
theorem has_low {c : Ctx} {K : List (Int × Int)} {x : Int × Int} (h : clk (lowC c K) x.1 < x.2) : hasB (lowC c K) x = hasB (bareC K) x := by
  rw [has_bare]
  unfold hasB
  rw [lowC_l]
  have : ¬ x.2 ≤ clk (lowC c K) x.1 := by omega
  simp [this]
/-- A clock's four numbers, of the first q nodes. -/
def ckv (b : Ctx) (q : Nat) (i : Nat) : Int := if i < q then clk b i else 0
theorem cloud_above {c : Ctx} (h : errC c = 0) {x : Int × Int} (hx : x ∈ c.l) : clk c x.1 + 2 ≤ x.2 := by
  obtain ⟨j, hj, rfl⟩ := List.getElem_of_mem hx
  have := (errC_parts h).2.2 j hj
  unfold okAt at this
  have hg : c.l.getD j (0, 0) = c.l[j] := by simp [hj]
  rw [hg] at this
  simp only [Bool.and_eq_true, decide_eq_true_eq] at this
  exact this.2

end Go.Proofs.Ytjgefnipkaecgac
