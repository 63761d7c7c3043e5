/-
  viewref.Query: what the document says of a query.
-/
import Derived.Test.YtoodkgmpggabdaaDoorQRef
namespace Go.Proofs.YtoodkgmpggabdaaDoor
open Go.RowKit Go.Sort

set_option maxHeartbeats 1000000 in
theorem refQuery_any (q : List Stp) (A : Option Addr) (ca : Nat) (w : World) (hl : q.length ≤ maxLen) (hq : Stps w A q) :
    Calls Tryd.prog 12 #[.slice A q.length ca] w fun e w' => e = .returned (.int .i64 (errQ q)) ∧ Below w.heap.size w w' := by
  unfold maxLen at hl
  by_cases h0 : q.length = 0
  · have e1 : Hid (errQ q = 1) := by show _ = _; unfold errQ; rw [if_pos h0]
    have h0z : ((q.length : Int) == 0) = true := by rw [h0]; rfl
    clear h0
    go_enter Tryd.func12, Tryd.ntmps12
    go_wp2
    go_ret
    exact ⟨by rw [e1.out]; rfl, Below.refl _ _⟩
  have h0z : ((q.length : Int) == 0) = false := beq_eq_false_iff_ne.2 (by omega)
  by_cases h8 : 8 < q.length
  · have e1 : Hid (errQ q = 2) := by show _ = _; unfold errQ; rw [if_neg h0, if_pos h8]
    have h8z : (8 : Int) < (q.length : Int) := by omega
    clear h0
    go_enter Tryd.func12, Tryd.ntmps12
    go_wp2
    go_ret
    exact ⟨by rw [e1.out]; rfl, Below.refl _ _⟩
  have h8z : ¬ (8 : Int) < (q.length : Int) := by omega
  have herr : Hid (errQ q = if (widsF q []).isSome = true then 0 else 1) := by show _ = _; unfold errQ; rw [if_neg h0, if_neg h8]
  have hw := refWidths_any q A ca w (by omega) hq
  have hwH : Hid _ := hw
  clear hw hq h0
  go_enter Tryd.func12, Tryd.ntmps12
  go_wp2_with fail
  refine Calls.mono (show Calls _ _ _ _ _ from hwH.out) ?_
  rintro e w1 ⟨C, c, rfl, -, -, hb⟩
  clear hwH
  cases hs : (widsF q []).isSome
  · have e1 : Hid (errQ q = 1) := by show _ = _; rw [herr.out, hs]; rfl
    go_wp2
    go_ret
    exact ⟨by rw [e1.out]; rfl, hb⟩
  · have e1 : Hid (errQ q = 0) := by show _ = _; rw [herr.out, hs]; rfl
    go_wp2
    go_ret
    exact ⟨by rw [e1.out]; rfl, hb⟩

end Go.Proofs.YtoodkgmpggabdaaDoor
