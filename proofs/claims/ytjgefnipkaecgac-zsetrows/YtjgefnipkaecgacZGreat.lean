/-
  zset.greatest: the last number of a list.
-/
import Derived.Test.YtjgefnipkaecgacZOfMath
namespace Go.Proofs.Ytjgefnipkaecgac
open Go.RowKit Go.Sort

set_option maxHeartbeats 1000000 in
theorem greatest_any (l : List Int) (A : Option Addr) (cap : Nat) (w : World) (hl : l.length ≤ maxLen) (hr : RowI w A l) :
    Calls Try.prog 39 #[.slice A l.length cap] w fun e w' => e = .returned (.int .i64 (grt l)) ∧ Gr w w' := by
  unfold maxLen at hl
  by_cases h : l = []
  · subst h
    go_enter Try.func39, Try.ntmps39
    go_wp2
    go_ret
    exact ⟨rfl, Gr.refl _⟩
  · have hp : 0 < l.length := List.length_pos_iff.2 h
    have hk : l.length - 1 < l.length := by omega
    obtain ⟨b, off, rfl, hb, hcs⟩ := hr.at hk
    obtain ⟨x, hx⟩ : ∃ x, l[l.length - 1] = x := ⟨_, rfl⟩
    have e0 := hcs (l.length - 1) hk 0 (by omega)
    rw [hx] at e0
    have e1 : w.cell? ⟨b, off + (l.length - 1), none⟩ = some (.int .i64 x) := by simpa [encI] using e0
    have hfin : Hid (grt l = x) := by
      show _ = _
      unfold grt
      rw [List.getD_eq_getElem?_getD, List.getElem?_eq_getElem hk, ← hx]; rfl
    obtain ⟨n, hn⟩ : ∃ n, l.length = n + 1 := ⟨l.length - 1, by omega⟩
    rw [hn] at e1 ⊢
    rw [Nat.add_sub_cancel] at e1
    have hne : (((n + 1 : Nat) : Int) == 0) = false := by simp; omega
    have hw : IntKind.i64.wrap (((n + 1 : Nat) : Int) - 1) = (n : Int) := by rw [IntKind.wrap_i64]; omega
    have hlt : (n : Int) < ((n + 1 : Nat) : Int) := by omega
    clear hcs e0 hx h
    go_enter Try.func39, Try.ntmps39
    go_wp2
    go_ret
    exact ⟨by rw [hfin.out]; rfl, Gr.refl _⟩

end Go.Proofs.Ytjgefnipkaecgac
