/-
  query.Check, query.Width; viewref.In.
-/
import Derived.Test.YtoodkgmpggabdaaDoorQWids
namespace Go.Proofs.YtoodkgmpggabdaaDoor
open Go.RowKit Go.Sort

set_option maxHeartbeats 1000000 in
theorem checkQ_any (q : List Stp) (A : Option Addr) (ca : Nat) (w : World) (hl : q.length ≤ maxLen) (hq : Stps w A q) :
    Calls Tryd.prog 9 #[.slice A q.length ca] w fun e w' => e = .returned (.int .i64 (errQ q)) ∧ Below w.heap.size w w' := by
  have hwH : Hid _ := widths_any q A ca w hl hq
  clear hl hq
  go_enter Tryd.func9, Tryd.ntmps9
  go_wp2_with fail
  refine Calls.mono (show Calls _ _ _ _ _ from hwH.out) ?_
  rintro e w1 ⟨C, c, rfl, -, -, hb⟩
  clear hwH
  go_wp2
  go_ret
  exact ⟨rfl, hb⟩

/-- What Width answers. -/
def widI (q : List Stp) (i : Int) : Int := if errQ q = 0 then (if belowB i (widsL q).length = true then (widsL q).getD i.toNat 0 else 0) else 0
def widE (q : List Stp) (i : Int) : Int := if errQ q = 0 then (if belowB i (widsL q).length = true then 0 else 4) else errQ q
theorem widsF_len : ∀ (q : List Stp) (ah l : List Int), widsF q ah = some l → l.length = ah.length + q.length
  | [], ah, l, h => by
    have h' : some ah = some l := h
    injection h' with h'
    subst h'; simp
  | s :: t, ah, l, h => by
    have h' : (if widW s ah = 0 then none else widsF t (ah ++ [widW s ah])) = some l := h
    by_cases e : widW s ah = 0
    · rw [if_pos e] at h'; cases h'
    · rw [if_neg e] at h'
      have := widsF_len t _ l h'
      simp at this ⊢
      omega
theorem widsL_len {q : List Stp} (h : errQ q = 0) : (widsL q).length = q.length ∧ q.length ≤ 8 := by
  have h8 : q.length ≤ 8 ∧ (widsF q []).isSome = true := by
    unfold errQ at h
    by_cases h0 : q.length = 0
    · rw [if_pos h0] at h; cases h
    · rw [if_neg h0] at h
      by_cases h8 : 8 < q.length
      · rw [if_pos h8] at h; cases h
      · rw [if_neg h8] at h
        by_cases k : (widsF q []).isSome = true
        · exact ⟨by omega, k⟩
        · rw [if_neg k] at h; cases h
  refine ⟨?_, h8.1⟩
  unfold widsL
  rw [if_pos h]
  obtain ⟨l, hl⟩ := Option.isSome_iff_exists.1 h8.2
  rw [hl]
  have := widsF_len q [] l hl
  simpa using this



set_option maxHeartbeats 400000 in
theorem inQ_any (n lo hi : Int) (w : World) : Calls Tryd.prog 33 #[.int .i64 n, .int .i64 lo, .int .i64 hi] w fun e w' => e = .returned (.bool (inB n lo hi)) ∧ w' = w := by
  by_cases h1 : lo ≤ n
  · by_cases h2 : n ≤ hi
    · have e : inB n lo hi = true := by simp [inB]; omega
      rw [e]; clear e
      go_enter Tryd.func33, Tryd.ntmps33
      go_wp2
      go_ret
      exact ⟨rfl, rfl⟩
    · have e : inB n lo hi = false := by simp [inB]; omega
      rw [e]; clear e
      go_enter Tryd.func33, Tryd.ntmps33
      go_wp2
      go_ret
      exact ⟨rfl, rfl⟩
  · have e : inB n lo hi = false := by simp [inB]; omega
    rw [e]; clear e
    go_enter Tryd.func33, Tryd.ntmps33
    go_wp2
    go_ret
    exact ⟨rfl, rfl⟩

end Go.Proofs.YtoodkgmpggabdaaDoor
