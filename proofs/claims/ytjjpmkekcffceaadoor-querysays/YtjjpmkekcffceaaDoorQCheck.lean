/-
  query.Check, query.Width; viewref.In.
-/
import Derived.Test.YtjjpmkekcffceaaDoorQWids
namespace Go.Proofs.YtjjpmkekcffceaaDoor
open Go.RowKit Go.Sort

set_option maxHeartbeats 1000000 in
theorem checkQ_any (q : List Stp) (A : Option Addr) (ca : Nat) (w : World) (hl : q.length ≤ maxLen) (hq : Stps w A q) :
    Calls Tryd.prog 10 #[.slice A q.length ca] w fun e w' => e = .returned (.int .i64 (errQ q)) ∧ Below w.heap.size w w' := by
  have hwH : Hid _ := widths_any q A ca w hl hq
  clear hl hq
  go_enter Tryd.func10, Tryd.ntmps10
  go_wp2_with fail
  refine Calls.mono (show Calls _ _ _ _ _ from hwH.out) ?_
  rintro e w1 ⟨C, c, rfl, -, -, hb⟩
  clear hwH
  go_wp2
  go_ret
  exact ⟨rfl, hb⟩

/-- What Width answers. -/
def widI (q : List Stp) (i : Int) : Int := if errQ q = 0 then (if belowB i (widsL q).length = true then (widsL q).getD i.toNat 0 else 0) else 0
def widE (q : List Stp) (i : Int) : Int := if errQ q = 0 then (if belowB i (widsL q).length = true then 0 else 4) else errQ q
theorem widsF_len : ∀ (q : List Stp) (ah l : List Int), widsF q ah = some l → l.length = ah.length + q.length
  | [], ah, l, h => by
    have h' : some ah = some l := h
    injection h' with h'
    subst h'; simp
  | s :: t, ah, l, h => by
    have h' : (if widW s ah = 0 then none else widsF t (ah ++ [widW s ah])) = some l := h
    by_cases e : widW s ah = 0
    · rw [if_pos e] at h'; cases h'
    · rw [if_neg e] at h'
      have := widsF_len t _ l h'
      simp at this ⊢
      omega
theorem widsL_len {q : List Stp} (h : errQ q = 0) : (widsL q).length = q.length ∧ q.length ≤ 8 := by
  have h8 : q.length ≤ 8 ∧ (widsF q []).isSome = true := by
    unfold errQ at h
    by_cases h0 : q.length = 0
    · rw [if_pos h0] at h; cases h
    · rw [if_neg h0] at h
      by_cases h8 : 8 < q.length
      · rw [if_pos h8] at h; cases h
      · rw [if_neg h8] at h
        by_cases k : (widsF q []).isSome = true
        · exact ⟨by omega, k⟩
        · rw [if_neg k] at h; cases h
  refine ⟨?_, h8.1⟩
  unfold widsL
  rw [if_pos h]
  obtain ⟨l, hl⟩ := Option.isSome_iff_exists.1 h8.2
  rw [hl]
  have := widsF_len q [] l hl
  simpa using this


set_option maxRecDepth 100000 in
set_option maxHeartbeats 1000000 in
theorem widthQ_any (q : List Stp) (i : Int) (A : Option Addr) (ca : Nat) (w : World) (hl : q.length ≤ maxLen) (hq : Stps w A q) :
    Calls Tryd.prog 9 #[.slice A q.length ca, .int .i64 i] w fun e w' => e = .returned (.tuple #[.int .i64 (widI q i), .int .i64 (widE q i)]) ∧ Below w.heap.size w w' := by
  have hwH : Hid _ := widths_any q A ca w hl hq
  clear hl hq
  go_enter Tryd.func9, Tryd.ntmps9
  go_wp2_with fail
  refine Calls.mono (show Calls _ _ _ _ _ from hwH.out) ?_
  rintro e w1 ⟨C, c, rfl, hr, -, hb⟩
  clear hwH
  cases hq0 : (errQ q != 0)
  · have h0 : errQ q = 0 := by simpa using hq0
    have hlen : (widsL q).length ≤ 8 := by have := widsL_len h0; omega
    cases hbI : belowB i (widsL q).length
    · have hfin : Hid (widI q i = 0 ∧ widE q i = 4) := by
        unfold widI widE
        rw [if_pos h0, if_pos h0, if_neg (by rw [hbI]; simp), if_neg (by rw [hbI]; simp)]
        exact ⟨rfl, rfl⟩
      have hd : i < 0 ∨ (0 ≤ i ∧ ((widsL q).length : Int) ≤ i) := by
        simp only [belowB, Bool.and_eq_false_iff, decide_eq_false_iff_not] at hbI
        omega
      rw [h0]
      generalize widsL q = l at hr hlen hd ⊢
      clear h0 hq0 hbI
      rcases hd with hd | ⟨hd, hd2⟩
      · go_wp2
        go_ret2
        exact ⟨by rw [hfin.out.1, hfin.out.2]; rfl, hb⟩
      · have hd' : ¬ i < 0 := by omega
        go_wp2
        go_ret2
        exact ⟨by rw [hfin.out.1, hfin.out.2]; rfl, hb⟩
    · obtain ⟨k, rfl, hk⟩ := below_nat hbI
      obtain ⟨x, hx⟩ : ∃ x, (widsL q)[k] = x := ⟨_, rfl⟩
      have hfin : Hid (widI q k = x ∧ widE q k = 0) := by
        unfold widI widE
        rw [if_pos h0, if_pos h0, if_pos hbI, if_pos hbI, Int.toNat_natCast, getD_in hk, hx]
        exact ⟨rfl, rfl⟩
      obtain ⟨bb, off, rfl, hbb, hcs⟩ := hr.at hk
      have e0 := hcs k hk 0 (by omega)
      rw [hx] at e0
      have e1 : w1.cell? ⟨bb, off + k, none⟩ = some (.int .i64 x) := by simpa [encI] using e0
      rw [h0]
      have hkz : (k : Int) < ((widsL q).length : Int) := by omega
      clear h0 hq0 hbI hcs e0 hr hx
      generalize widsL q = l at hlen hk hkz ⊢
      go_wp2
      go_ret2
      exact ⟨by rw [hfin.out.1, hfin.out.2]; rfl, hb⟩
  · have h0 : errQ q ≠ 0 := by simpa using hq0
    have hfin : Hid (widI q i = 0 ∧ widE q i = errQ q) := by
      unfold widI widE
      rw [if_neg h0, if_neg h0]
      exact ⟨rfl, rfl⟩
    clear h0
    go_wp2
    go_ret2
    exact ⟨by rw [hfin.out.1, hfin.out.2]; rfl, hb⟩


set_option maxHeartbeats 400000 in
theorem in_any (n lo hi : Int) (w : World) : Calls Tryd.prog 7 #[.int .i64 n, .int .i64 lo, .int .i64 hi] w fun e w' => e = .returned (.bool (inB n lo hi)) ∧ w' = w := by
  by_cases h1 : lo ≤ n
  · by_cases h2 : n ≤ hi
    · have e : inB n lo hi = true := by simp [inB]; omega
      rw [e]; clear e
      go_enter Tryd.func7, Tryd.ntmps7
      go_wp2
      go_ret
      exact ⟨rfl, rfl⟩
    · have e : inB n lo hi = false := by simp [inB]; omega
      rw [e]; clear e
      go_enter Tryd.func7, Tryd.ntmps7
      go_wp2
      go_ret
      exact ⟨rfl, rfl⟩
  · have e : inB n lo hi = false := by simp [inB]; omega
    rw [e]; clear e
    go_enter Tryd.func7, Tryd.ntmps7
    go_wp2
    go_ret
    exact ⟨rfl, rfl⟩

end Go.Proofs.YtjjpmkekcffceaaDoor
