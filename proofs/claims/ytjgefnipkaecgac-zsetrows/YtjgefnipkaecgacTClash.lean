/-
  table.clash: has a cell of one list the dot of one of the other, and is another one?
-/
import Derived.Test.YtjgefnipkaecgacTSearch
import Derived.Test.YtjgefnipkaecgacTSame
import Derived.Test.YtjgefnipkaecgacTRows

namespace Go.Proofs.Ytjgefnipkaecgac
open Go.RowKit Go.Sort

/-- One of the cells has the dot of x, and is another one. -/
def clP (l : List Cel) (x : Cel) : Bool := l.any fun y => decide (y.1 = x.1) && !celEq y x

theorem asc_uniq {l : List Cel} (hs : Asc l) {i j : Nat} (hi : i < l.length) (hj : j < l.length) (h : l[i].1 = l[j].1) : i = j := by
  rcases Nat.lt_trichotomy i j with h1 | h1 | h1
  · have := (List.pairwise_iff_getElem.1 hs) i j hi hj h1
    exact absurd h (befT_ne this)
  · exact h1
  · have := (List.pairwise_iff_getElem.1 hs) j i hj hi h1
    exact absurd h.symm (befT_ne this)
theorem clP_at {l : List Cel} {x : Cel} (hs : Asc l) {i : Nat} (hi : i < l.length) (h : l[i].1 = x.1) : clP l x = !celEq l[i] x := by
  cases hq : celEq l[i] x
  · unfold clP
    show _ = true
    rw [List.any_eq_true]
    exact ⟨l[i], List.getElem_mem hi, by rw [hq]; simpa using h⟩
  · unfold clP
    show _ = false
    rw [List.any_eq_false]
    intro y hy
    obtain ⟨j, hj, rfl⟩ := List.getElem_of_mem hy
    by_cases hd : l[j].1 = x.1
    · obtain rfl := asc_uniq hs hi hj (h.trans hd.symm)
      rw [hq]; simp
    · simp [hd]
theorem clP_none {l : List Cel} {x : Cel} (h : memD l x.1 = false) : clP l x = false := by
  unfold memD at h
  rw [List.any_eq_false] at h
  unfold clP
  rw [List.any_eq_false]
  intro y hy
  have := h y hy
  simp at this ⊢
  intro he
  exact absurd he this

set_option maxRecDepth 100000 in
set_option maxHeartbeats 1000000 in
theorem clash1_any (l : List Cel) (B : Option Addr) (cb : Nat) (p : Nat) (x : Cel) (w : World) (hl : l.length ≤ 400) (hp : p < w.heap.size) (kp : w.cell? ⟨p, 0, none⟩ = some (.slice B l.length cb)) (hr : RowC w B l) (hs : Asc l) :
    Calls Try.prog 44 #[.agg #[.int .i64 x.1.1, .int .i64 x.1.2, .int .i64 x.2.1, .int .i64 x.2.2.1, .int .i64 x.2.2.2], .pointer (some ⟨p, 0, none⟩)] w fun e w' => e = .returned (.bool (clP l x)) ∧ Gr w w' := by
  have mixed : Try.prog.follows .mixedOrders = true := by kernel_rfl
  have hx0 : CelAt (w.alloc (.cells #[.int .i64 x.1.1, .int .i64 x.1.2, .int .i64 x.2.1, .int .i64 x.2.2.1, .int .i64 x.2.2.2] 64)) w.heap.size x := CelAt.new x 64 rfl
  have hg0 : Gr w (w.alloc (.cells #[.int .i64 x.1.1, .int .i64 x.1.2, .int .i64 x.2.1, .int .i64 x.2.2.1, .int .i64 x.2.2.2] 64)) := (Gr.refl w).alloc _
  go_enter Try.func44, Try.ntmps44
  go_wp2_with fail
  refine (bsearch_any l B cb x _ hl (hr.gr hg0) hs).mono ?_
  rintro e w1 ⟨i, rfl, hf, hg1⟩
  have hgW : Gr w w1 := hg0.trans hg1
  have kp1 : w1.cell? ⟨p, 0, none⟩ = some (.slice B l.length cb) := (hgW.cell (p := ⟨p, 0, none⟩) hp).trans kp
  have hp1 : p < w1.heap.size := Nat.lt_of_lt_of_le hp hgW.size
  have hx1 := hx0.gr hg1
  have hr1 := hr.gr hgW
  clear hx0 hg0 hg1 kp hr
  cases hm : memD l x.1
  · have hfin : Hid (clP l x = false) := clP_none hm
    clear hf
    go_wp2
    refine wp_region_quiet_grown mixed (by kernel_rfl) ?_
    repeat (go_big_quiet_step (fail))
    refine wpQuiet_nil ?_
    rintro _ ⟨⟨nq2, osq2⟩, rfl⟩
    go_wp2
    go_ret
    rw [hfin.out]
    exact ⟨rfl, hgW.trans ⟨nq2, osq2, rfl⟩⟩
  · obtain ⟨hi, hd⟩ := hf hm
    have hfin : Hid (clP l x = !celEq l[i] x) := clP_at hs hi hd
    have hiz : (i : Int) < (l.length : Int) := by omega
    obtain ⟨bb, off, rfl, hb, hcs⟩ := RowC.get hr1 hi
    obtain ⟨y, hy⟩ : ∃ y, l[i] = y := ⟨_, rfl⟩
    obtain ⟨e0, e1, e2, e3, e4⟩ := hcs i hi
    rw [hy] at e0 e1 e2 e3 e4 hfin
    have q0 := cell_grown (a := ⟨bb, off + i * 5, none⟩) hb e0
    have q1 := cell_grown (a := ⟨bb, off + i * 5 + 1, none⟩) hb e1
    have q2 := cell_grown (a := ⟨bb, off + i * 5 + 2, none⟩) hb e2
    have q3 := cell_grown (a := ⟨bb, off + i * 5 + 3, none⟩) hb e3
    have q4 := cell_grown (a := ⟨bb, off + i * 5 + 4, none⟩) hb e4
    have kG := cell_grown (a := ⟨p, 0, none⟩) hp1 kp1
    obtain ⟨x0, x1, x2, x3, x4⟩ := hx1.G
    have hE := neqCel
    have hG := guardCel
    clear e0 e1 e2 e3 e4 hcs hf hd hy hs
    go_wp2
    refine wp_region_quiet_grown mixed (by kernel_rfl) ?_
    repeat (go_big_quiet_step (fail))
    refine wpQuiet_nil ?_
    rintro _ ⟨⟨nq2, osq2⟩, rfl⟩
    go_wp2
    go_ret
    rw [hfin.out]
    exact ⟨rfl, hgW.trans ⟨nq2, osq2, rfl⟩⟩

set_option maxRecDepth 100000 in
set_option maxHeartbeats 1000000 in
theorem clash_any (a b : List Cel) (A B : Option Addr) (ca cb : Nat) (w : World) (hal : a.length ≤ 400) (hbl : b.length ≤ 400) (hra : RowC w A a) (hrb : RowC w B b) (hs : Asc b) :
    Calls Try.prog 22 #[.slice A a.length ca, .slice B b.length cb] w fun e w' => e = .returned (.bool (a.any (clP b))) ∧ Gr w w' := by
  have hg0 : Gr w (w.alloc (.cells #[.slice B b.length cb] 26)) := (Gr.refl w).alloc _
  have k0 : (w.alloc (.cells #[.slice B b.length cb] 26)).cell? ⟨w.heap.size, 0, none⟩ = some (.slice B b.length cb) := box1 (Gr.refl _) rfl
  have hlt0 : w.heap.size < (w.alloc (.cells #[.slice B b.length cb] 26)).heap.size := by simp
  have hpr : PredG 44 #[.pointer (some ⟨w.heap.size, 0, none⟩)] (clP b) (w.alloc (.cells #[.slice B b.length cb] 26)) := fun W hg x =>
    clash1_any b B cb w.heap.size x W hbl (Nat.lt_of_lt_of_le hlt0 hg.size) ((hg.cell (p := ⟨w.heap.size, 0, none⟩) hlt0).trans k0) (hrb.gr (hg0.trans hg)) hs
  have hc := containsFuncC_any (clP b) 44 #[.pointer (some ⟨w.heap.size, 0, none⟩)] (enters_of Try.func44 (by kernel_rfl) rfl) a A ca _ (by unfold maxLen; omega) (hra.gr hg0) hpr
  have hcH : Hid _ := hc
  clear hc hpr
  go_enter Try.func22, Try.ntmps22
  go_wp2_with fail
  refine Calls.mono (show Calls _ _ _ _ _ from hcH.out) ?_
  rintro e w1 ⟨rfl, hg1⟩
  go_wp2
  go_ret
  exact ⟨rfl, hg0.trans hg1⟩

end Go.Proofs.Ytjgefnipkaecgac
