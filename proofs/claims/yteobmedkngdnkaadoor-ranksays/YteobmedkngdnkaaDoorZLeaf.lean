/-
  The small functions of package zset: isWeight, isRow.
-/


import Derived.Test.YteobmedkngdnkaaDoorQInts
import Derived.Test.YteobmedkngdnkaaDoorCmpI

namespace Go.Proofs.YteobmedkngdnkaaDoor
open Go.RowKit Go.Sort

/-- May a row be there so many times? -/
def okW (n : Int) : Bool := inB n (-1048576) 1048576
/-- May a row hold this number? -/
def okN (n : Int) : Bool := inB n (-1073741824) 1073741824
/-- May an item have this row? -/
def okR (l : List Int) : Bool := decide (l.length ≤ 8) && l.all okN

set_option maxHeartbeats 400000 in
theorem isWeight_any (n : Int) (w : World) :
    Calls Tryd.prog 37 #[.int .i64 n] w fun e w' => e = .returned (.bool (okW n)) ∧ w' = w := by
  by_cases h1 : -1048576 ≤ n
  · by_cases h2 : n ≤ 1048576
    · have e : okW n = true := by simp [okW, inB]; omega
      rw [e]; clear e
      go_enter Tryd.func37, Tryd.ntmps37
      go_wp2
      go_ret
      exact ⟨rfl, rfl⟩
    · have e : okW n = false := by simp [okW, inB]; omega
      rw [e]; clear e
      go_enter Tryd.func37, Tryd.ntmps37
      go_wp2
      go_ret
      exact ⟨rfl, rfl⟩
  · have e : okW n = false := by simp [okW, inB]; omega
    rw [e]; clear e
    go_enter Tryd.func37, Tryd.ntmps37
    go_wp2
    go_ret
    exact ⟨rfl, rfl⟩

set_option maxHeartbeats 1000000 in
theorem isRow_any (l : List Int) (A : Option Addr) (cap : Nat) (w : World) (hl : l.length ≤ maxLen) (hr : RowI w A l) :
    Calls Tryd.prog 36 #[.slice A l.length cap] w fun e w' => e = .returned (.bool (okR l)) ∧ Gr w w' := by
  unfold maxLen at hl
  by_cases h8 : 8 < l.length
  · have e : okR l = false := by simp [okR]; omega
    rw [e]; clear e
    have h8z : (8 : Int) < (l.length : Int) := by omega
    go_enter Tryd.func36, Tryd.ntmps36
    go_wp2
    go_ret
    exact ⟨rfl, Gr.refl _⟩
  · have h8z : ¬ (8 : Int) < (l.length : Int) := by omega
    go_enter Tryd.func36, Tryd.ntmps36
    go_wp2
    go_loopw [10] (fun i wr => ∃ k : Nat, k ≤ l.length ∧ i = .int .i64 k ∧ Hid (∀ j (h : j < l.length), j < k → okN l[j] = true) ∧ Gr w wr) (fun i _ => l.length - (intOf i).toNat)
    case atStart => exact ⟨0, Nat.zero_le _, rfl, fun j _ hj => absurd hj (Nat.not_lt_zero _), Gr.refl _⟩
    case round =>
      obtain ⟨k, hk, rfl, hno, hgr⟩ := hrel
      by_cases hlt : k < l.length
      · have hltz : (k : Int) < (l.length : Int) := by omega
        obtain ⟨bb, off, rfl, hb, hcs⟩ := (hr.gr hgr).at hlt
        have e0 := hcs k hlt 0 (by omega)
        obtain ⟨y, hy⟩ : ∃ y, l[k] = y := ⟨_, rfl⟩
        rw [hy] at e0
        have e1 : wr.cell? ⟨bb, off + k, none⟩ = some (.int .i64 y) := by simpa [encI] using e0
        have hyH : Hid (l[k] = y) := hy
        clear hcs e0 hy
        have hbad : Hid (okN y = false → okR l = false) := by
          intro h
          unfold okR
          have : l.all okN = false := by
            rw [List.all_eq_false]
            exact ⟨y, by rw [← hyH.out]; exact List.getElem_mem hlt, by simp [h]⟩
          rw [this]; simp
        by_cases q1 : y < -1073741824
        · have hfin : Hid (okR l = false) := hbad.out (by simp [okN, inB]; omega)
          go_wp2
          go_ret
          exact ⟨by rw [hfin.out]; rfl, hgr⟩
        · by_cases q2 : 1073741824 < y
          · have hfin : Hid (okR l = false) := hbad.out (by simp [okN, inB]; omega)
            go_wp2
            go_ret
            exact ⟨by rw [hfin.out]; rfl, hgr⟩
          · have hne : Hid (okN l[k] = true) := by show okN l[k] = true; rw [hyH.out]; simp [okN, inB]; omega
            go_wp2
            go_roundw
            case rel =>
              refine ⟨k + 1, by omega, by go_num, ?_, hgr⟩
              intro j hj hjk
              by_cases e : j = k
              · subst e; exact hne
              · exact hno j hj (by omega)
            case measure => simp [intOf]; omega
      · have hltz : ¬ (k : Int) < (l.length : Int) := by omega
        have hfin : Hid (okR l = true) := by
          show okR l = true
          unfold okR
          have : l.all okN = true := by
            rw [List.all_eq_true]
            intro x hx
            obtain ⟨j, hj, e⟩ := List.getElem_of_mem hx
            rw [← e]; exact hno j hj (by omega)
          rw [this]; simp; omega
        go_wp2
        go_ret
        exact ⟨by rw [hfin.out]; rfl, hgr⟩

end Go.Proofs.YteobmedkngdnkaaDoor
