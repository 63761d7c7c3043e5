/-
  The small functions of package dot (isNode, right, order) and cmp.Compare at int: each returns what its plain function says, in every world, laying blocks of its own alone.
  The small functions of package table: isKey, isCell, order.
  slices.BinarySearchFunc at cells, with table.order.
-/
import Derived.Test.YtmoicbmhjmdgdaaGreatM01
import Derived.Test.YtmoicbmhjmdgdaaGreatM02
namespace Go.Proofs.YtmoicbmhjmdgdaaGreat
open Go.RowKit Go.Sort

set_option maxHeartbeats 400000 in
theorem isNode_any (n : Int) (w : World) :
  Calls Tryz.prog 69 #[.int .i64 n] w fun e w' => e = .returned (.bool (inB n 0 3)) ∧ w' = w := by
 by_cases h1 : 0 ≤ n
 ·by_cases h2 : n < 4
  ·have e : inB n 0 3 = true := by simp [inB]; omega
   rw [e]; clear e
   go_enter Tryz.func69, Tryz.ntmps69
   go_wp2
   go_ret
   exact ⟨rfl, rfl⟩
  ·have e : inB n 0 3 = false := by simp [inB]; omega
   rw [e]; clear e
   go_enter Tryz.func69, Tryz.ntmps69
   go_wp2
   go_ret
   exact ⟨rfl, rfl⟩
 ·have e : inB n 0 3 = false := by simp [inB]; omega
  rw [e]; clear e
  go_enter Tryz.func69, Tryz.ntmps69
  go_wp2
  go_ret
  exact ⟨rfl, rfl⟩

set_option maxHeartbeats 400000 in
theorem dright_any (x : Int × Int) (w : World) :
  Calls Tryz.prog 67 #[.agg #[.int .i64 x.1, .int .i64 x.2]] w fun e w' => e = .returned (.bool (rightB x)) ∧ Gr w w' := by
 obtain ⟨a, b⟩ := x
 cases h1 : inB a 0 3
 ·have e : rightB (a, b) = false := by simp [rightB, h1]
  rw [e]; clear e
  go_enter Tryz.func67, Tryz.ntmps67
  go_wp2_with (go_at_call 69; refine (isNode_any _ _).mono ?_; rintro e w' ⟨rfl, rfl⟩; rw [h1])
  go_ret
  exact ⟨rfl, (Gr.refl _).alloc _⟩
 ·by_cases h2 : 1 ≤ b
  ·by_cases h3 : b ≤ 1099511627776
   ·have e : rightB (a, b) = true := by unfold rightB; rw [h1]; simp [inB, h2, h3]
    rw [e]; clear e
    go_enter Tryz.func67, Tryz.ntmps67
    go_wp2_with (go_at_call 69; refine (isNode_any _ _).mono ?_; rintro e w' ⟨rfl, rfl⟩; rw [h1])
    go_ret
    exact ⟨rfl, (Gr.refl _).alloc _⟩
   ·have e : rightB (a, b) = false := by unfold rightB; rw [h1]; simp [inB, h3]
    rw [e]; clear e
    have h3b : decide (b ≤ 1099511627776) = false := by simpa using h3
    clear h3
    go_enter Tryz.func67, Tryz.ntmps67
    go_wp2_with (go_at_call 69; refine (isNode_any _ _).mono ?_; rintro e w' ⟨rfl, rfl⟩; rw [h1])
    go_ret
    exact ⟨rfl, (Gr.refl _).alloc _⟩
  ·have e : rightB (a, b) = false := by unfold rightB; rw [h1]; simp [inB, h2]
   rw [e]; clear e
   go_enter Tryz.func67, Tryz.ntmps67
   go_wp2_with (go_at_call 69; refine (isNode_any _ _).mono ?_; rintro e w' ⟨rfl, rfl⟩; rw [h1])
   go_ret
   exact ⟨rfl, (Gr.refl _).alloc _⟩

/-- -1, 0 or 1. -/
def cmpI (x y : Int) : Int := if x < y then -1 else if y < x then 1 else 0
/-- What 'order' answers. -/
def ordI (x y : Int × Int) : Int := if x.1 < y.1 then -1 else if y.1 < x.1 then 1 else cmpI x.2 y.2

set_option maxHeartbeats 400000 in
theorem cmp_any (x y : Int) (w : World) :
  Calls Tryz.prog 86 #[.int .i64 x, .int .i64 y] w fun e w' => e = .returned (.int .i64 (cmpI x y)) ∧ w' = w := by
 by_cases h1 : x < y
 ·have e : cmpI x y = -1 := by simp [cmpI, h1]
  rw [e]; clear e
  go_enter Tryz.func86, Tryz.ntmps86
  go_wp2
  go_ret
  exact ⟨rfl, rfl⟩
 ·by_cases h2 : y < x
  ·have e : cmpI x y = 1 := by simp [cmpI, h1, h2]
   rw [e]; clear e
   go_enter Tryz.func86, Tryz.ntmps86
   go_wp2
   go_ret
   exact ⟨rfl, rfl⟩
  ·have e : cmpI x y = 0 := by simp [cmpI, h1, h2]
   rw [e]; clear e
   go_enter Tryz.func86, Tryz.ntmps86
   go_wp2
   go_ret
   exact ⟨rfl, rfl⟩

set_option maxHeartbeats 400000 in
theorem order_any (x y : Int × Int) (w : World) :
  Calls Tryz.prog 68 #[.agg #[.int .i64 x.1, .int .i64 x.2], .agg #[.int .i64 y.1, .int .i64 y.2]] w fun e w' => e = .returned (.int .i64 (ordI x y)) ∧ Gr w w' := by
 obtain ⟨a, b⟩ := x
 obtain ⟨c, d⟩ := y
 by_cases h1 : a < c
 ·have e : ordI (a, b) (c, d) = -1 := by simp [ordI, h1]
  have e1 : cmpI a c = -1 := by simp [cmpI, h1]
  rw [e]; clear e
  go_enter Tryz.func68, Tryz.ntmps68
  go_wp2_with (go_at_call 86; refine (cmp_any _ _ _).mono ?_; rintro e w' ⟨rfl, rfl⟩; rw [e1])
  go_ret
  exact ⟨rfl, ((Gr.refl _).alloc _).alloc _⟩
 ·by_cases h2 : c < a
  ·have e : ordI (a, b) (c, d) = 1 := by simp [ordI, h1, h2]
   have e1 : cmpI a c = 1 := by simp [cmpI, h1, h2]
   rw [e]; clear e
   go_enter Tryz.func68, Tryz.ntmps68
   go_wp2_with (go_at_call 86; refine (cmp_any _ _ _).mono ?_; rintro e w' ⟨rfl, rfl⟩; rw [e1])
   go_ret
   exact ⟨rfl, ((Gr.refl _).alloc _).alloc _⟩
  ·have e : ordI (a, b) (c, d) = cmpI b d := by simp [ordI, h1, h2]
   have e1 : cmpI a c = 0 := by simp [cmpI, h1, h2]
   rw [e]; clear e
   go_enter Tryz.func68, Tryz.ntmps68
   go_wp2_with fail
   refine (cmp_any _ _ _).mono ?_
   rintro e w' ⟨rfl, rfl⟩
   rw [e1]
   go_wp2_with fail
   refine (cmp_any _ _ _).mono ?_
   rintro e w' ⟨rfl, rfl⟩
   go_wp2
   go_ret
   exact ⟨rfl, ((Gr.refl _).alloc _).alloc _⟩

theorem dright_g {a b : Int} {r : Bool} (h : rightB (a, b) = r) (w : World) : Calls Tryz.prog 67 #[.agg #[.int .i64 a, .int .i64 b]] w fun e w' => e = .returned (.bool r) ∧ ∃ q os', w' = grow (w.drewN q) os' := by
 rw [← h]; exact dright_any (a, b) w
theorem order_g {a b c d : Int} {r : Int} (h : ordI (a, b) (c, d) = r) (w : World) : Calls Tryz.prog 68 #[.agg #[.int .i64 a, .int .i64 b], .agg #[.int .i64 c, .int .i64 d]] w fun e w' => e = .returned (.int .i64 r) ∧ ∃ q os', w' = grow (w.drewN q) os' := by
 rw [← h]; exact order_any (a, b) (c, d) w
theorem isNode_g {n : Int} {r : Bool} (h : inB n 0 3 = r) (w : World) :
  Calls Tryz.prog 69 #[.int .i64 n] w fun e w' => e = .returned (.bool r) ∧ w' = w := by
 rw [← h]; exact isNode_any n w
theorem ordI_bef {x y : Int × Int} (h : befB x y = true) : ordI x y = -1 := by
 unfold befB at h
 unfold ordI cmpI
 by_cases h1 : x.1 < y.1
 ·simp [h1]
 ·simp [h1] at h
  have h2 : ¬ y.1 < x.1 := by omega
  simp [h.2, h1, h2]
theorem ordI_not {x y : Int × Int} (h : befB x y = false) : 0 ≤ ordI x y := by
 unfold befB at h
 simp at h
 unfold ordI cmpI
 have h1 : ¬ x.1 < y.1 := by omega
 by_cases h2 : y.1 < x.1
 ·simp [h1, h2]
 ·have h3 : ¬ x.2 < y.2 := by have := h.2 (by omega); omega
  by_cases h4 : y.2 < x.2 <;> simp [h1, h2, h3, h4]

end Go.Proofs.YtmoicbmhjmdgdaaGreat

namespace Go.Proofs.YtmoicbmhjmdgdaaGreat
open Go.RowKit Go.Sort

set_option maxHeartbeats 400000 in
theorem isKey_any (n : Int) (w : World) :
  Calls Tryz.prog 57 #[.int .i64 n] w fun e w' => e = .returned (.bool (inB n 0 49)) ∧ w' = w := by
 by_cases h1 : 0 ≤ n
 ·by_cases h2 : n < 50
  ·have e : inB n 0 49 = true := by simp [inB]; omega
   rw [e]; clear e
   go_enter Tryz.func57, Tryz.ntmps57
   go_wp2
   go_ret
   exact ⟨rfl, rfl⟩
  ·have e : inB n 0 49 = false := by simp [inB]; omega
   rw [e]; clear e
   go_enter Tryz.func57, Tryz.ntmps57
   go_wp2
   go_ret
   exact ⟨rfl, rfl⟩
 ·have e : inB n 0 49 = false := by simp [inB]; omega
  rw [e]; clear e
  go_enter Tryz.func57, Tryz.ntmps57
  go_wp2
  go_ret
  exact ⟨rfl, rfl⟩

set_option maxHeartbeats 1000000 in
theorem isCell_any (k c v : Int) (w : World) :
  Calls Tryz.prog 45 #[.int .i64 k, .int .i64 c, .int .i64 v] w fun e w' => e = .returned (.bool (okPlace k c v)) ∧ w' = w := by
 cases h1 : inB k 0 49
 ·have e : okPlace k c v = false := by simp [okPlace, h1]
  rw [e]; clear e
  go_enter Tryz.func45, Tryz.ntmps45
  go_wp2_with (go_at_call 57; refine (isKey_any _ _).mono ?_; rintro e w' ⟨rfl, rfl⟩; rw [h1])
  go_ret
  exact ⟨rfl, rfl⟩
 ·by_cases h2 : 0 ≤ c
  ·by_cases h3 : c < 3
   ·by_cases h4 : -1000 ≤ v
    ·by_cases h5 : v ≤ 1000
     ·have e : okPlace k c v = true := by unfold okPlace; rw [h1]; simp [inB]; omega
      rw [e]; clear e
      go_enter Tryz.func45, Tryz.ntmps45
      go_wp2_with (go_at_call 57; refine (isKey_any _ _).mono ?_; rintro e w' ⟨rfl, rfl⟩; rw [h1])
      go_ret
      exact ⟨rfl, rfl⟩
     ·have e : okPlace k c v = false := by unfold okPlace; rw [h1]; simp [inB]; omega
      rw [e]; clear e
      have h5b : decide (v ≤ 1000) = false := by simpa using h5
      go_enter Tryz.func45, Tryz.ntmps45
      go_wp2_with (go_at_call 57; refine (isKey_any _ _).mono ?_; rintro e w' ⟨rfl, rfl⟩; rw [h1])
      go_ret
      exact ⟨rfl, rfl⟩
    ·have e : okPlace k c v = false := by unfold okPlace; rw [h1]; simp [inB]; omega
     rw [e]; clear e
     have h4b : decide (-1000 ≤ v) = false := by simpa using h4
     go_enter Tryz.func45, Tryz.ntmps45
     go_wp2_with (go_at_call 57; refine (isKey_any _ _).mono ?_; rintro e w' ⟨rfl, rfl⟩; rw [h1])
     go_ret
     exact ⟨rfl, rfl⟩
   ·have e : okPlace k c v = false := by unfold okPlace; rw [h1]; simp [inB]; omega
    rw [e]; clear e
    have h3b : decide (c < 3) = false := by simpa using h3
    go_enter Tryz.func45, Tryz.ntmps45
    go_wp2_with (go_at_call 57; refine (isKey_any _ _).mono ?_; rintro e w' ⟨rfl, rfl⟩; rw [h1])
    go_ret
    exact ⟨rfl, rfl⟩
  ·have e : okPlace k c v = false := by unfold okPlace; rw [h1]; simp [inB]; omega
   rw [e]; clear e
   have h2b : decide (0 ≤ c) = false := by simpa using h2
   go_enter Tryz.func45, Tryz.ntmps45
   go_wp2_with (go_at_call 57; refine (isKey_any _ _).mono ?_; rintro e w' ⟨rfl, rfl⟩; rw [h1])
   go_ret
   exact ⟨rfl, rfl⟩

set_option maxHeartbeats 400000 in
theorem orderC_any (x y : Cel) (w : World) :
  Calls Tryz.prog 46 #[.agg #[.int .i64 x.1.1, .int .i64 x.1.2, .int .i64 x.2.1, .int .i64 x.2.2.1, .int .i64 x.2.2.2], .agg #[.int .i64 y.1.1, .int .i64 y.1.2, .int .i64 y.2.1, .int .i64 y.2.2.1, .int .i64 y.2.2.2]] w fun e w' => e = .returned (.int .i64 (ordI x.1 y.1)) ∧ Gr w w' := by
 go_enter Tryz.func46, Tryz.ntmps46
 go_wp2_with fail
 refine (order_any x.1 y.1 _).mono ?_
 rintro e w' ⟨rfl, hg⟩
 go_wp2
 go_ret
 exact ⟨rfl, (((Gr.refl w).alloc _).alloc _).trans hg⟩

theorem orderC_g {x y : Cel} {r : Int} (h : ordI x.1 y.1 = r) (w : World) : Calls Tryz.prog 46 #[.agg #[.int .i64 x.1.1, .int .i64 x.1.2, .int .i64 x.2.1, .int .i64 x.2.2.1, .int .i64 x.2.2.2], .agg #[.int .i64 y.1.1, .int .i64 y.1.2, .int .i64 y.2.1, .int .i64 y.2.2.1, .int .i64 y.2.2.2]] w fun e w' => e = .returned (.int .i64 r) ∧ ∃ q os', w' = grow (w.drewN q) os' := by
 rw [← h]; exact orderC_any x y w
theorem isCell_g {k c v : Int} {r : Bool} (h : okPlace k c v = r) (w : World) :
  Calls Tryz.prog 45 #[.int .i64 k, .int .i64 c, .int .i64 v] w fun e w' => e = .returned (.bool r) ∧ w' = w := by
 rw [← h]; exact isCell_any k c v w
theorem isKey_g {n : Int} {r : Bool} (h : inB n 0 49 = r) (w : World) :
  Calls Tryz.prog 57 #[.int .i64 n] w fun e w' => e = .returned (.bool r) ∧ w' = w := by
 rw [← h]; exact isKey_any n w

end Go.Proofs.YtmoicbmhjmdgdaaGreat

namespace Go.Proofs.YtmoicbmhjmdgdaaGreat
open Go.RowKit Go.Sort

theorem befT_iff (x y : Int × Int) : befB x y = true ↔ x.1 < y.1 ∨ (x.1 = y.1 ∧ x.2 < y.2) := by simp [befB]
theorem befT_trans {x y z : Int × Int} (h : befB x y = true) (k : befB y z = true) : befB x z = true := by rw [befT_iff] at *; omega
theorem befT_irr (x : Int × Int) : befB x x = false := by simp [befB]
theorem befT_ne {x y : Int × Int} (h : befB x y = true) : x ≠ y := by rintro rfl; rw [befT_irr] at h; cases h
theorem ordI_zero (x y : Int × Int) : ordI x y = 0 ↔ x = y := by
 obtain ⟨a, b⟩ := x
 obtain ⟨c, d⟩ := y
 unfold ordI cmpI
 simp only [Prod.mk.injEq]
 constructor
 ·intro h
  by_cases h1 : a < c
  ·simp [h1] at h
  ·by_cases h2 : c < a
   ·simp [h1, h2] at h
   ·by_cases h3 : b < d
    ·simp [h1, h2, h3] at h
    ·by_cases h4 : d < b
     ·simp [h1, h2, h3, h4] at h
     ·omega
 ·rintro ⟨rfl, rfl⟩; simp
/-- The cell's cells, some draws and blocks on. -/
theorem CelAt.G {w : World} {B : Nat} {x : Cel} (h : CelAt w B x) : (∀ n os, (grow (w.drewN n) os).cell? ⟨B, 0, none⟩ = some (.int .i64 x.1.1)) ∧ (∀ n os, (grow (w.drewN n) os).cell? ⟨B, 1, none⟩ = some (.int .i64 x.1.2)) ∧ (∀ n os, (grow (w.drewN n) os).cell? ⟨B, 2, none⟩ = some (.int .i64 x.2.1)) ∧ (∀ n os, (grow (w.drewN n) os).cell? ⟨B, 3, none⟩ = some (.int .i64 x.2.2.1)) ∧ (∀ n os, (grow (w.drewN n) os).cell? ⟨B, 4, none⟩ = some (.int .i64 x.2.2.2)) :=
 ⟨cell_grown (a := ⟨B, 0, none⟩) h.lt h.k0, cell_grown (a := ⟨B, 1, none⟩) h.lt h.k1, cell_grown (a := ⟨B, 2, none⟩) h.lt h.k2, cell_grown (a := ⟨B, 3, none⟩) h.lt h.k3, cell_grown (a := ⟨B, 4, none⟩) h.lt h.k4⟩

/-- Rising by the dots. -/
def Asc (l : List Cel) : Prop := l.Pairwise fun x y => befB x.1 y.1 = true
/-- One of the cells has the dot. -/
def memD (l : List Cel) (d : Int × Int) : Bool := l.any fun y => decide (y.1 = d)

/-- Where the search ends: the first cell whose dot is not ahead. -/
theorem memD_end {l : List Cel} {d : Int × Int} {a : Nat} (hs : Asc l) (h1 : ∀ k (h : k < l.length), k < a → befB l[k].1 d = true) (h2 : ∀ k (h : k < l.length), a ≤ k → befB l[k].1 d = false) :
  memD l d = decide (∃ h : a < l.length, l[a].1 = d) := by
 by_cases hm : ∃ h : a < l.length, l[a].1 = d
 ·rw [decide_eq_true hm]
  obtain ⟨h, e⟩ := hm
  unfold memD
  rw [List.any_eq_true]
  exact ⟨l[a], List.getElem_mem h, by simpa using e⟩
 ·rw [decide_eq_false hm]
  unfold memD
  rw [List.any_eq_false]
  intro y hy he
  have he' : y.1 = d := by simpa using he
  obtain ⟨k, hk, rfl⟩ := List.getElem_of_mem hy
  by_cases hka : k < a
  ·exact befT_ne (h1 k hk hka) he'
  ·by_cases e : k = a
   ·subst e; exact hm ⟨hk, he'⟩
   ·have h3 := (List.pairwise_iff_getElem.1 hs) a k (by omega) hk (by omega)
    rw [he', h2 a (by omega) (Nat.le_refl _)] at h3
    cases h3

set_option maxRecDepth 100000 in
set_option maxHeartbeats 1000000 in
theorem bsearch_any (l : List Cel) (A : Option Addr) (cap : Nat) (x : Cel) (w : World) (hl : l.length ≤ 400) (hr : RowC w A l) (hs : Asc l) :
  Calls Tryz.prog 61 #[.slice A l.length cap, .agg #[.int .i64 x.1.1, .int .i64 x.1.2, .int .i64 x.2.1, .int .i64 x.2.2.1, .int .i64 x.2.2.2], .func (.func 46) #[] #[]] w fun e w' => ∃ i : Nat, e = .returned (.tuple #[.int .i64 i, .bool (memD l x.1)]) ∧ (memD l x.1 = true → ∃ h : i < l.length, l[i].1 = x.1) ∧ Gr w w' := by
 have mixed : Tryz.prog.follows .mixedOrders = true := by kernel_rfl
 have hx0 : CelAt (w.alloc (.cells #[.int .i64 x.1.1, .int .i64 x.1.2, .int .i64 x.2.1, .int .i64 x.2.2.1, .int .i64 x.2.2.2] 87)) w.heap.size x := CelAt.new x 87 rfl
 have hg0 : Gr w (w.alloc (.cells #[.int .i64 x.1.1, .int .i64 x.1.2, .int .i64 x.2.1, .int .i64 x.2.2.1, .int .i64 x.2.2.2] 87)) := (Gr.refl w).alloc _
 have hsH : Hid (Asc l) := hs
 clear hs
 go_enter Tryz.func61, Tryz.ntmps61
 go_wp2
 generalize w.alloc (.cells #[.int .i64 x.1.1, .int .i64 x.1.2, .int .i64 x.2.1, .int .i64 x.2.2.1, .int .i64 x.2.2.2] 87) = w0 at hx0 hg0 ⊢
 go_loopw [9, 10] (fun i j wr => ∃ a b : Nat, a ≤ b ∧ b ≤ l.length ∧ i = .int .i64 a ∧ j = .int .i64 b ∧ Hid ((∀ k (h : k < l.length), k < a → befB l[k].1 x.1 = true) ∧ (∀ k (h : k < l.length), b ≤ k → befB l[k].1 x.1 = false)) ∧ Gr w0 wr) (fun i j _ => (intOf j).toNat - (intOf i).toNat)
 case atStart => exact ⟨0, l.length, by omega, by omega, rfl, rfl, ⟨fun k _ h => absurd h (Nat.not_lt_zero _), fun k h1 h2 => by omega⟩, Gr.refl _⟩
 case round =>
  obtain ⟨a, b, hab, hbl, rfl, rfl, hinv, hgr⟩ := hrel
  have hxR := hx0.gr hgr
  obtain ⟨x0, x1, x2, x3, x4⟩ := hxR.G
  by_cases hlt : a < b
  ·have hltz : (a : Int) < (b : Int) := by omega
   obtain ⟨h, hh⟩ : ∃ h, (a + b) / 2 = h := ⟨_, rfl⟩
   have hha : a ≤ h := by omega
   have hhb : h < b := by omega
   have hhl : h < l.length := by omega
   obtain ⟨bb, off, rfl, hb, hcs⟩ := RowC.get (hr.gr (hg0.trans hgr)) hhl
   obtain ⟨y, hy⟩ : ∃ y, l[h] = y := ⟨_, rfl⟩
   obtain ⟨e0, e1, e2, e3, e4⟩ := hcs h hhl
   rw [hy] at e0 e1 e2 e3 e4
   have q0 := cell_grown (a := ⟨bb, off + h * 5, none⟩) hb e0
   have q1 := cell_grown (a := ⟨bb, off + h * 5 + 1, none⟩) hb e1
   have q2 := cell_grown (a := ⟨bb, off + h * 5 + 2, none⟩) hb e2
   have q3 := cell_grown (a := ⟨bb, off + h * 5 + 3, none⟩) hb e3
   have q4 := cell_grown (a := ⟨bb, off + h * 5 + 4, none⟩) hb e4
   clear e0 e1 e2 e3 e4
   have hyH : Hid (l[h] = y) := hy
   clear hcs hy
   have hz : ((a : Int) + (b : Int)) / 2 = (h : Int) := by omega
   have hhz : (h : Int) < (l.length : Int) := by omega
   have hhH : Hid ((a + b) / 2 = h) := hh
   clear hh
   cases hbe : befB y.1 x.1
   ·have hge := ordI_not hbe
    have hgez : (decide (ordI y.1 x.1 < 0)) = false := decide_eq_false (by omega)
    go_wp2
    refine wp_region_quiet_grown mixed (by kernel_rfl) ?_
    repeat (go_big_quiet_step ((go_at_call 46; refine Calls.grown_of (orderC_g rfl _))))
    refine wpQuiet_nil ?_
    rintro _ ⟨⟨nq2, osq2⟩, rfl⟩
    go_wp2
    go_roundw
    case rel =>
     refine ⟨a, h, hha, by omega, rfl, rfl, ⟨hinv.out.1, fun k hk hhk => ?_⟩, hgr.trans ⟨nq2, osq2, rfl⟩⟩
     by_cases e : k = h
     ·subst e; rw [hyH.out]; exact hbe
     ·have := (List.pairwise_iff_getElem.1 hsH.out) h k hhl hk (by omega)
      rw [hyH.out] at this
      cases hk2 : befB l[k].1 x.1
      ·rfl
      ·rw [befT_trans this hk2] at hbe; cases hbe
    case measure => simp [intOf]; omega
   ·have hge := ordI_bef hbe
    go_wp2
    refine wp_region_quiet_grown mixed (by kernel_rfl) ?_
    repeat (go_big_quiet_step ((go_at_call 46; refine Calls.grown_of (orderC_g hge _))))
    refine wpQuiet_nil ?_
    rintro _ ⟨⟨nq2, osq2⟩, rfl⟩
    go_wp2
    go_roundw
    case rel =>
     refine ⟨h + 1, b, by omega, hbl, by go_num, rfl, ⟨fun k hk hkh => ?_, hinv.out.2⟩, hgr.trans ⟨nq2, osq2, rfl⟩⟩
     by_cases e : k = h
     ·subst e; rw [hyH.out]; exact hbe
     ·have := (List.pairwise_iff_getElem.1 hsH.out) k h hk hhl (by omega)
      rw [hyH.out] at this
      exact befT_trans this hbe
    case measure => simp [intOf]; omega
  ·have hltz : ¬ (a : Int) < (b : Int) := by omega
   obtain rfl : a = b := by omega
   have hme := memD_end hsH.out hinv.out.1 hinv.out.2
   have hwR : Gr w wr := hg0.trans hgr
   clear hlt
   by_cases hal : a < l.length
   ·have halz : (a : Int) < (l.length : Int) := by omega
    obtain ⟨bb, off, rfl, hb, hcs⟩ := RowC.get (hr.gr hwR) hal
    obtain ⟨y, hy⟩ : ∃ y, l[a] = y := ⟨_, rfl⟩
    obtain ⟨e0, e1, e2, e3, e4⟩ := hcs a hal
    rw [hy] at e0 e1 e2 e3 e4
    have q0 := cell_grown (a := ⟨bb, off + a * 5, none⟩) hb e0
    have q1 := cell_grown (a := ⟨bb, off + a * 5 + 1, none⟩) hb e1
    have q2 := cell_grown (a := ⟨bb, off + a * 5 + 2, none⟩) hb e2
    have q3 := cell_grown (a := ⟨bb, off + a * 5 + 3, none⟩) hb e3
    have q4 := cell_grown (a := ⟨bb, off + a * 5 + 4, none⟩) hb e4
    clear e0 e1 e2 e3 e4
    have hyH : Hid (l[a] = y) := hy
    clear hcs
    by_cases hq : y.1 = x.1
    ·have hoz := (ordI_zero y.1 x.1).2 hq
     have hfin : Hid (memD l x.1 = true ∧ ∃ h : a < l.length, l[a].1 = x.1) := by
      have hex : ∃ h : a < l.length, l[a].1 = x.1 := ⟨hal, by rw [hy]; exact hq⟩
      exact ⟨by rw [hme]; exact decide_eq_true hex, hex⟩
     clear hme hq hy
     go_wp2
     refine wp_region_quiet_grown mixed (by kernel_rfl) ?_
     repeat (go_big_quiet_step ((go_at_call 46; refine Calls.grown_of (orderC_g hoz _))))
     refine wpQuiet_nil ?_
     rintro _ ⟨⟨nq2, osq2⟩, rfl⟩
     go_wp2
     go_ret2
     rw [hfin.out.1]
     exact ⟨a, rfl, fun _ => hfin.out.2, hwR.trans ⟨nq2, osq2, rfl⟩⟩
    ·have hoz : (ordI y.1 x.1 == 0) = false := beq_eq_false_iff_ne.2 (fun h => hq ((ordI_zero y.1 x.1).1 h))
     have hfin : Hid (memD l x.1 = false) := by
      show memD l x.1 = false
      rw [hme]
      refine decide_eq_false ?_
      rintro ⟨_, h⟩
      rw [hy] at h
      exact hq h
     clear hme hq hy
     go_wp2
     refine wp_region_quiet_grown mixed (by kernel_rfl) ?_
     repeat (go_big_quiet_step ((go_at_call 46; refine Calls.grown_of (orderC_g rfl _))))
     refine wpQuiet_nil ?_
     rintro _ ⟨⟨nq2, osq2⟩, rfl⟩
     go_wp2
     go_ret2
     rw [hfin.out]
     exact ⟨a, rfl, (fun h => by cases h), hwR.trans ⟨nq2, osq2, rfl⟩⟩
   ·have halz : ¬ (a : Int) < (l.length : Int) := by omega
    have hfin : Hid (memD l x.1 = false) := by
     show memD l x.1 = false
     rw [hme]
     refine decide_eq_false ?_
     rintro ⟨h, _⟩
     exact hal h
    clear hme
    go_wp2
    refine wp_region_quiet_grown mixed (by kernel_rfl) ?_
    repeat (go_big_quiet_step (fail))
    refine wpQuiet_nil ?_
    rintro _ ⟨⟨nq2, osq2⟩, rfl⟩
    go_wp2
    go_ret2
    rw [hfin.out]
    exact ⟨a, rfl, (fun h => by cases h), hwR.trans ⟨nq2, osq2, rfl⟩⟩

end Go.Proofs.YtmoicbmhjmdgdaaGreat
