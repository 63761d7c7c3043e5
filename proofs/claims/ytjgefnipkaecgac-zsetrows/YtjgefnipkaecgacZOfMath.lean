/-
  The rows of a table: what zset.Of tells, and that it is a right set.
-/
import Derived.Test.YtjgefnipkaecgacZMath
import Derived.Test.YtjgefnipkaecgacOnceMath
namespace Go.Proofs.Ytjgefnipkaecgac

/-- The greatest number of a rising list, 0 if it has none. -/
def grt (l : List Int) : Int := l.getD (l.length - 1) 0
/-- The row of a key. -/
def rowOf (e : List Cel) (key : Int) : List Int := [key, grt (onceL (valsOf key 0 e)), grt (onceL (valsOf key 1 e)), grt (onceL (valsOf key 2 e))]
/-- The rows of a table. -/
def ofL (t : Tab) : List Zit := (onceL (keysOf t.e)).map fun key => (rowOf t.e key, 1)
theorem grt_mem (l : List Int) : grt l = 0 ∨ grt l ∈ l := by
  unfold grt
  by_cases h : l = []
  · subst h; exact Or.inl rfl
  · have hp : 0 < l.length := List.length_pos_iff.2 h
    right
    rw [List.getD_eq_getElem?_getD, List.getElem?_eq_getElem (show l.length - 1 < l.length by omega)]
    exact List.getElem_mem _
theorem key_ok {t : Tab} (h : errT t = 0) {key : Int} (hk : key ∈ keysOf t.e) : 0 ≤ key ∧ key ≤ 49 := by
  unfold keysOf at hk
  obtain ⟨y, hy, rfl⟩ := List.mem_map.1 hk
  have := errT_place h hy
  simp only [okPlace, inB, Bool.and_eq_true, decide_eq_true_eq] at this
  exact this.1.1
theorem grt_ok {t : Tab} (h : errT t = 0) (key col : Int) : -1000 ≤ grt (onceL (valsOf key col t.e)) ∧ grt (onceL (valsOf key col t.e)) ≤ 1000 := by
  rcases grt_mem (onceL (valsOf key col t.e)) with k | k
  · rw [k]; omega
  · have h1 := ((once_good _).2 _).1 k
    obtain ⟨y, hy, _, e⟩ := mem_vals.1 h1
    rw [← e]
    have := errT_place h hy
    simp only [okPlace, inB, Bool.and_eq_true, decide_eq_true_eq] at this
    exact this.2
theorem okN_of {n : Int} (h : -1000 ≤ n ∧ n ≤ 1000) : okN n = true := by
  simp only [okN, inB, Bool.and_eq_true, decide_eq_true_eq]; omega
/-- What Of tells of a right table is a right set. -/
theorem of_ok {t : Tab} (h : errT t = 0) : errZ (ofL t) = 0 := by
  have hp := errT_parts h
  refine (errZ_iff _).2 ⟨?_, ?_, ?_⟩
  · have h1 := onceL_len (keysOf t.e)
    have h2 := keysOf_len t.e
    unfold ofL
    rw [List.length_map]; omega
  · intro x hx
    unfold ofL at hx
    obtain ⟨key, hk, rfl⟩ := List.mem_map.1 hx
    have h1 := key_ok h (((once_good _).2 _).1 hk)
    have h2 : okN key = true := okN_of (by omega)
    unfold okZ okR rowOf
    simp [h2, okN_of (grt_ok h key 0), okN_of (grt_ok h key 1), okN_of (grt_ok h key 2)]
    decide
  · unfold Rise ofL
    rw [List.pairwise_map]
    refine (once_good (keysOf t.e)).1.imp fun {a b} hab => ?_
    show (if cmpI a b = 0 then _ else cmpI a b) < 0
    have := cmpI_cases a b
    rw [if_neg (by omega)]; omega

end Go.Proofs.Ytjgefnipkaecgac
