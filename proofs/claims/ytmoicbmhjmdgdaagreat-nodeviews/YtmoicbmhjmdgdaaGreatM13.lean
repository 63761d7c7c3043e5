/-
  viewkeep.puts: is a value put told?
  The small functions of package zset: isWeight, isRow.
  slices.Compare at numbers, and zset.Order: they tell the order of two rows.
-/
import Derived.Test.YtmoicbmhjmdgdaaGreatM12
import Derived.Test.YtmoicbmhjmdgdaaGreatM03
namespace Go.Proofs.YtmoicbmhjmdgdaaGreat
open Go.RowKit Go.Sort Go.Shelf Go.Lib

theorem srt_nil : srt [] = [] := by simp [srt]
theorem srt_one (x : Int × Int) : srt [x] = [x] := by simp [srt]
theorem srtC_one (x : Cel) : srtC [x] = [x] := by simp [srtC]

theorem mk0 : makeC [] = zeroC := by unfold makeC foldS; rw [srt_nil]; rfl
theorem mk2 : makeC [(1, 1)] = ⟨0, 1, 0, 0, []⟩ := by unfold makeC foldS; rw [srt_one]; rfl
theorem jf (a0 a1 a2 a3 b0 b1 b2 b3 : Int) : joinF ⟨a0, a1, a2, a3, []⟩ ⟨b0, b1, b2, b3, []⟩ = ⟨max a0 b0, max a1 b1, max a2 b2, max a3 b3, []⟩ := by unfold joinF foldS joinK; rw [List.append_nil, srt_nil]; rfl
theorem b1 : mrg ⟨zeroC, []⟩ ⟨⟨1, 0, 0, 0, []⟩, [((0, 1), 3, 1, 7)]⟩ = [((0, 1), 3, 1, 7)] := by
 unfold mrg
 rw [show both ⟨zeroC, []⟩ ⟨⟨1, 0, 0, 0, []⟩, [((0, 1), 3, 1, 7)]⟩ = [((0, 1), 3, 1, 7)] from rfl, srtC_one]
theorem b2 : mrg ⟨⟨1, 0, 0, 0, []⟩, [((0, 1), 3, 1, 7)]⟩ ⟨⟨1, 1, 0, 0, []⟩, [((1, 1), 3, 1, 5)]⟩ = [((1, 1), 3, 1, 5)] := by
 unfold mrg
 rw [show both ⟨⟨1, 0, 0, 0, []⟩, [((0, 1), 3, 1, 7)]⟩ ⟨⟨1, 1, 0, 0, []⟩, [((1, 1), 3, 1, 5)]⟩ = [((1, 1), 3, 1, 5)] from rfl, srtC_one]
end Go.Proofs.YtmoicbmhjmdgdaaGreat

namespace Go.Proofs.YtmoicbmhjmdgdaaGreat
open Go.RowKit Go.Sort

/-- May a row be there so many times? -/
def okW (n : Int) : Bool := inB n (-1048576) 1048576
/-- May a row hold this number? -/
def okN (n : Int) : Bool := inB n (-1073741824) 1073741824
/-- May an item have this row? -/
def okR (l : List Int) : Bool := decide (l.length ≤ 8) && l.all okN

set_option maxHeartbeats 400000 in
theorem isWeight_any (n : Int) (w : World) :
  Calls Tryz.prog 90 #[.int .i64 n] w fun e w' => e = .returned (.bool (okW n)) ∧ w' = w := by
 by_cases h1 : -1048576 ≤ n
 ·by_cases h2 : n ≤ 1048576
  ·have e : okW n = true := by simp [okW, inB]; omega
   rw [e]; clear e
   go_enter Tryz.func90, Tryz.ntmps90
   go_wp2
   go_ret
   exact ⟨rfl, rfl⟩
  ·have e : okW n = false := by simp [okW, inB]; omega
   rw [e]; clear e
   go_enter Tryz.func90, Tryz.ntmps90
   go_wp2
   go_ret
   exact ⟨rfl, rfl⟩
 ·have e : okW n = false := by simp [okW, inB]; omega
  rw [e]; clear e
  go_enter Tryz.func90, Tryz.ntmps90
  go_wp2
  go_ret
  exact ⟨rfl, rfl⟩

set_option maxHeartbeats 1000000 in
theorem isRow_any (l : List Int) (A : Option Addr) (cap : Nat) (w : World) (hl : l.length ≤ maxLen) (hr : RowI w A l) :
  Calls Tryz.prog 89 #[.slice A l.length cap] w fun e w' => e = .returned (.bool (okR l)) ∧ Gr w w' := by
 unfold maxLen at hl
 by_cases h8 : 8 < l.length
 ·have e : okR l = false := by simp [okR]; omega
  rw [e]; clear e
  have h8z : (8 : Int) < (l.length : Int) := by omega
  go_enter Tryz.func89, Tryz.ntmps89
  go_wp2
  go_ret
  exact ⟨rfl, Gr.refl _⟩
 ·have h8z : ¬ (8 : Int) < (l.length : Int) := by omega
  go_enter Tryz.func89, Tryz.ntmps89
  go_wp2
  go_loopw [10] (fun i wr => ∃ k : Nat, k ≤ l.length ∧ i = .int .i64 k ∧ Hid (∀ j (h : j < l.length), j < k → okN l[j] = true) ∧ Gr w wr) (fun i _ => l.length - (intOf i).toNat)
  case atStart => exact ⟨0, Nat.zero_le _, rfl, fun j _ hj => absurd hj (Nat.not_lt_zero _), Gr.refl _⟩
  case round =>
   obtain ⟨k, hk, rfl, hno, hgr⟩ := hrel
   by_cases hlt : k < l.length
   ·have hltz : (k : Int) < (l.length : Int) := by omega
    obtain ⟨bb, off, rfl, hb, hcs⟩ := (hr.gr hgr).at hlt
    have e0 := hcs k hlt 0 (by omega)
    obtain ⟨y, hy⟩ : ∃ y, l[k] = y := ⟨_, rfl⟩
    rw [hy] at e0
    have e1 : wr.cell? ⟨bb, off + k, none⟩ = some (.int .i64 y) := by simpa [encI] using e0
    have hyH : Hid (l[k] = y) := hy
    clear hcs e0 hy
    have hbad : Hid (okN y = false → okR l = false) := by
     intro h
     unfold okR
     have : l.all okN = false := by
      rw [List.all_eq_false]
      exact ⟨y, by rw [← hyH.out]; exact List.getElem_mem hlt, by simp [h]⟩
     rw [this]; simp
    by_cases q1 : y < -1073741824
    ·have hfin : Hid (okR l = false) := hbad.out (by simp [okN, inB]; omega)
     go_wp2
     go_ret
     exact ⟨by rw [hfin.out]; rfl, hgr⟩
    ·by_cases q2 : 1073741824 < y
     ·have hfin : Hid (okR l = false) := hbad.out (by simp [okN, inB]; omega)
      go_wp2
      go_ret
      exact ⟨by rw [hfin.out]; rfl, hgr⟩
     ·have hne : Hid (okN l[k] = true) := by show okN l[k] = true; rw [hyH.out]; simp [okN, inB]; omega
      go_wp2
      go_roundw
      case rel =>
       refine ⟨k + 1, by omega, by go_num, ?_, hgr⟩
       intro j hj hjk
       by_cases e : j = k
       ·subst e; exact hne
       ·exact hno j hj (by omega)
      case measure => simp [intOf]; omega
   ·have hltz : ¬ (k : Int) < (l.length : Int) := by omega
    have hfin : Hid (okR l = true) := by
     show okR l = true
     unfold okR
     have : l.all okN = true := by
      rw [List.all_eq_true]
      intro x hx
      obtain ⟨j, hj, e⟩ := List.getElem_of_mem hx
      rw [← e]; exact hno j hj (by omega)
     rw [this]; simp; omega
    go_wp2
    go_ret
    exact ⟨by rw [hfin.out]; rfl, hgr⟩

end Go.Proofs.YtmoicbmhjmdgdaaGreat

namespace Go.Proofs.YtmoicbmhjmdgdaaGreat
open Go.RowKit Go.Sort

/-- The order of two rows. -/
def cmpL : List Int → List Int → Int
 | [], [] => 0
 | [], _ :: _ => -1
 | _ :: _, [] => 1
 | x :: a, y :: b => if cmpI x y = 0 then cmpL a b else cmpI x y

theorem cmpL_drop {a b : List Int} : ∀ k, k ≤ a.length → k ≤ b.length → (∀ j (h1 : j < a.length) (h2 : j < b.length), j < k → cmpI a[j] b[j] = 0) → cmpL a b = cmpL (a.drop k) (b.drop k) := by
 intro k
 induction k with
 | zero => intros; simp
 | succ k ih =>
  intro h1 h2 h
  rw [ih (by omega) (by omega) fun j h3 h4 h5 => h j h3 h4 (by omega)]
  rw [List.drop_eq_getElem_cons (show k < a.length by omega), List.drop_eq_getElem_cons (show k < b.length by omega)]
  show (if cmpI a[k] b[k] = 0 then _ else _) = _
  rw [if_pos (h k (by omega) (by omega) (by omega))]
theorem cmpL_at {a b : List Int} {k : Nat} (h1 : k < a.length) (h2 : k < b.length) (h : ∀ j (h1 : j < a.length) (h2 : j < b.length), j < k → cmpI a[j] b[j] = 0) (hne : cmpI a[k] b[k] ≠ 0) : cmpL a b = cmpI a[k] b[k] := by
 rw [cmpL_drop k (by omega) (by omega) h, List.drop_eq_getElem_cons h1, List.drop_eq_getElem_cons h2]
 show (if cmpI a[k] b[k] = 0 then _ else _) = _
 rw [if_neg hne]
theorem cmpL_long {a b : List Int} {k : Nat} (h1 : k < a.length) (h2 : k = b.length) (h : ∀ j (h1 : j < a.length) (h2 : j < b.length), j < k → cmpI a[j] b[j] = 0) : cmpL a b = 1 := by
 rw [cmpL_drop k (by omega) (by omega) h, List.drop_eq_getElem_cons h1, show b.drop k = [] from List.drop_eq_nil_of_le (by omega)]
 rfl
theorem cmpL_end {a b : List Int} (hab : a.length ≤ b.length) (h : ∀ j (h1 : j < a.length) (h2 : j < b.length), j < a.length → cmpI a[j] b[j] = 0) : cmpL a b = if a.length < b.length then -1 else 0 := by
 rw [cmpL_drop a.length (by omega) hab h, List.drop_eq_nil_of_le (Nat.le_refl _)]
 by_cases k : a.length < b.length
 ·rw [if_pos k, List.drop_eq_getElem_cons k]; rfl
 ·rw [if_neg k, List.drop_eq_nil_of_le (by omega)]; rfl

set_option maxHeartbeats 1000000 in
theorem compare_any (a b : List Int) (A B : Option Addr) (ca cb : Nat) (w : World) (hal : a.length ≤ maxLen) (hra : RowI w A a) (hrb : RowI w B b) :
  Calls Tryz.prog 127 #[.slice A a.length ca, .slice B b.length cb] w fun e w' => e = .returned (.int .i64 (cmpL a b)) ∧ Gr w w' := by
 unfold maxLen at hal
 go_enter Tryz.func127, Tryz.ntmps127
 go_wp2
 go_loopw [11] (fun i wr => ∃ k : Nat, k ≤ a.length ∧ k ≤ b.length ∧ i = .int .i64 k ∧ Hid (∀ j (h1 : j < a.length) (h2 : j < b.length), j < k → cmpI a[j] b[j] = 0) ∧ Gr w wr) (fun i _ => a.length - (intOf i).toNat)
 case atStart => exact ⟨0, Nat.zero_le _, Nat.zero_le _, rfl, fun j _ _ hj => absurd hj (Nat.not_lt_zero _), Gr.refl _⟩
 case round =>
  obtain ⟨k, hk, hk2, rfl, hno, hgr⟩ := hrel
  by_cases hlt : k < a.length
  ·have hltz : (k : Int) < (a.length : Int) := by omega
   obtain ⟨bb, off, rfl, hb, hcs⟩ := (hra.gr hgr).at hlt
   have e0 := hcs k hlt 0 (by omega)
   obtain ⟨x, hx⟩ : ∃ y, a[k] = y := ⟨_, rfl⟩
   rw [hx] at e0
   have e1 : wr.cell? ⟨bb, off + k, none⟩ = some (.int .i64 x) := by simpa [encI] using e0
   have hxH : Hid (a[k] = x) := hx
   clear hcs e0 hx
   by_cases hlt2 : k < b.length
   ·have hlt2z : (k : Int) < (b.length : Int) := by omega
    obtain ⟨bc, of2, rfl, hb2, hcs⟩ := (hrb.gr hgr).at hlt2
    have e0 := hcs k hlt2 0 (by omega)
    obtain ⟨y, hy⟩ : ∃ y, b[k] = y := ⟨_, rfl⟩
    rw [hy] at e0
    have e2 : wr.cell? ⟨bc, of2 + k, none⟩ = some (.int .i64 y) := by simpa [encI] using e0
    have hyH : Hid (b[k] = y) := hy
    clear hcs e0 hy
    obtain ⟨c, hc⟩ : ∃ c, cmpI x y = c := ⟨_, rfl⟩
    have hcH : Hid (cmpI x y = c) := hc
    have hcm := cmp_any x y wr
    rw [hc] at hcm
    have hcmH : Hid _ := hcm
    clear hcm hc
    cases hq : (c != 0)
    ·have hc0 : c = 0 := by simpa using hq
     have hne : Hid (cmpI a[k] b[k] = 0) := by show cmpI _ _ = 0; rw [hxH.out, hyH.out, hcH.out, hc0]
     clear hc0
     go_wp2_with (go_at_call 86; (refine Calls.mono (show Calls _ _ _ _ _ from hcmH.out) ?_); rintro e w' ⟨rfl, rfl⟩)
     go_roundw
     case rel =>
      refine ⟨k + 1, by omega, by omega, by go_num, ?_, hgr⟩
      intro j hj hj2 hjk
      by_cases e : j = k
      ·subst e; exact hne
      ·exact hno j hj hj2 (by omega)
     case measure => simp [intOf]; omega
    ·have hfin : Hid (cmpL a b = c) := by
      have hc0 : c ≠ 0 := by simpa using hq
      show _ = _
      rw [cmpL_at hlt hlt2 hno (by rw [hxH.out, hyH.out, hcH.out]; exact hc0), hxH.out, hyH.out, hcH.out]
     go_wp2_with (go_at_call 86; (refine Calls.mono (show Calls _ _ _ _ _ from hcmH.out) ?_); rintro e w' ⟨rfl, rfl⟩)
     go_ret
     exact ⟨by rw [hfin.out]; rfl, hgr⟩
   ·have hlt2z : (b.length : Int) ≤ (k : Int) := by omega
    have hfin : Hid (cmpL a b = 1) := cmpL_long hlt (by omega) hno
    go_wp2
    go_ret
    exact ⟨by rw [hfin.out]; rfl, hgr⟩
  ·have hltz : ¬ (k : Int) < (a.length : Int) := by omega
   have hka : k = a.length := by omega
   have hend := cmpL_end (a := a) (b := b) (by omega) (fun j h1 h2 _ => hno j h1 h2 (by omega))
   by_cases hab : a.length < b.length
   ·have hfin : Hid (cmpL a b = -1) := by show _ = _; rw [hend, if_pos hab]
    have habz : (a.length : Int) < (b.length : Int) := by omega
    clear hend hka
    go_wp2
    go_ret
    exact ⟨by rw [hfin.out]; rfl, hgr⟩
   ·have hfin : Hid (cmpL a b = 0) := by show _ = _; rw [hend, if_neg hab]
    have habz : ¬ (a.length : Int) < (b.length : Int) := by omega
    clear hend hka
    go_wp2
    go_ret
    exact ⟨by rw [hfin.out]; rfl, hgr⟩
set_option maxHeartbeats 1000000 in
theorem orderR_any (a b : List Int) (A B : Option Addr) (ca cb : Nat) (w : World) (hal : a.length ≤ maxLen) (hra : RowI w A a) (hrb : RowI w B b) :
  Calls Tryz.prog 91 #[.slice A a.length ca, .slice B b.length cb] w fun e w' => e = .returned (.int .i64 (cmpL a b)) ∧ Gr w w' := by
 go_enter Tryz.func91, Tryz.ntmps91
 go_wp2_with fail
 refine (compare_any a b A B ca cb _ hal hra hrb).mono ?_
 rintro e w' ⟨rfl, hg⟩
 go_wp2
 go_ret
 exact ⟨rfl, hg⟩

end Go.Proofs.YtmoicbmhjmdgdaaGreat
