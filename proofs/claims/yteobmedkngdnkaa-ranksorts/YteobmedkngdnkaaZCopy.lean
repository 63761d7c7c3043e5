/-
  zset.copyRow: the same numbers, in memory of their own.
-/
import Derived.Test.YteobmedkngdnkaaZBase
namespace Go.Proofs.Yteobmedkngdnkaa
open Go.RowKit Go.Sort

set_option maxHeartbeats 1000000 in
theorem copyRow_any (l : List Int) (A : Option Addr) (cap : Nat) (w : World) (hl : l.length * 8 ≤ 140737488355328) (hA : A = none → cap = 0) (hr : RowI w A l) :
    Calls Try.prog 31 #[.slice A l.length cap] w fun e w' => ∃ C c, e = .returned (.slice C l.length c) ∧ RowI w' C l ∧ (C = none → c = 0) ∧ (∀ a, C = some a → w.heap.size ≤ a.block ∧ a.block < w'.heap.size) ∧ Below w.heap.size w w' := by
  have hlm : Hid (0 + l.length ≤ maxLen ∧ (0 + l.length) * 8 ≤ 140737488355328) := by show _ ∧ _; unfold maxLen; omega
  have hrH : Hid (RowI w A l ∧ (A = none → cap = 0)) := ⟨hr, hA⟩
  clear hr hA
  go_enter Try.func31, Try.ntmps31
  go_wp2_with (at_builtin; refine wpList_append_i _ rfl _ _ rfl w.heap.size (.slice none 0 0) [] l A cap rfl rfl (OwnG.nil _ _ _ _ _) hrH.out.1 hrH.out.2 hlm.out.1 hlm.out.2 (Nat.le_refl _) ?_)
  intro v1 w3 hown1 hgr1
  have hb3 : Hid (Below w.heap.size w w3) := below_none hgr1
  obtain ⟨C, c, rfl, hC, hrow, hlt⟩ := OwnG.row encI_len hown1
  have hfin : Hid (RowI w3 C l ∧ (C = none → c = 0) ∧ (∀ a, C = some a → w.heap.size ≤ a.block ∧ a.block < w3.heap.size)) := ⟨by simpa using hrow, hC, hlt⟩
  clear hown1 hgr1 hC hrow hlt
  go_wp2
  go_ret
  exact ⟨C, c, by simp, hfin.out.1, hfin.out.2.1, hfin.out.2.2, hb3.out⟩

end Go.Proofs.Yteobmedkngdnkaa
