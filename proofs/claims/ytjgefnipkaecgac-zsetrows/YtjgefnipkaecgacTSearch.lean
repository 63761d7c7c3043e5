/-
  slices.BinarySearchFunc at cells, with table.order.
-/
import Derived.Test.YtjgefnipkaecgacTLeaf
namespace Go.Proofs.Ytjgefnipkaecgac
open Go.RowKit Go.Sort

theorem befT_iff (x y : Int × Int) : befB x y = true ↔ x.1 < y.1 ∨ (x.1 = y.1 ∧ x.2 < y.2) := by simp [befB]
theorem befT_trans {x y z : Int × Int} (h : befB x y = true) (k : befB y z = true) : befB x z = true := by rw [befT_iff] at *; omega
theorem befT_irr (x : Int × Int) : befB x x = false := by simp [befB]
theorem befT_ne {x y : Int × Int} (h : befB x y = true) : x ≠ y := by rintro rfl; rw [befT_irr] at h; cases h
theorem ordI_zero (x y : Int × Int) : ordI x y = 0 ↔ x = y := by
  obtain ⟨a, b⟩ := x
  obtain ⟨c, d⟩ := y
  unfold ordI cmpI
  simp only [Prod.mk.injEq]
  constructor
  · intro h
    by_cases h1 : a < c
    · simp [h1] at h
    · by_cases h2 : c < a
      · simp [h1, h2] at h
      · by_cases h3 : b < d
        · simp [h1, h2, h3] at h
        · by_cases h4 : d < b
          · simp [h1, h2, h3, h4] at h
          · omega
  · rintro ⟨rfl, rfl⟩; simp
/-- The cell's cells, some draws and blocks on. -/
theorem CelAt.G {w : World} {B : Nat} {x : Cel} (h : CelAt w B x) : (∀ n os, (grow (w.drewN n) os).cell? ⟨B, 0, none⟩ = some (.int .i64 x.1.1)) ∧ (∀ n os, (grow (w.drewN n) os).cell? ⟨B, 1, none⟩ = some (.int .i64 x.1.2)) ∧ (∀ n os, (grow (w.drewN n) os).cell? ⟨B, 2, none⟩ = some (.int .i64 x.2.1)) ∧ (∀ n os, (grow (w.drewN n) os).cell? ⟨B, 3, none⟩ = some (.int .i64 x.2.2.1)) ∧ (∀ n os, (grow (w.drewN n) os).cell? ⟨B, 4, none⟩ = some (.int .i64 x.2.2.2)) :=
  ⟨cell_grown (a := ⟨B, 0, none⟩) h.lt h.k0, cell_grown (a := ⟨B, 1, none⟩) h.lt h.k1, cell_grown (a := ⟨B, 2, none⟩) h.lt h.k2, cell_grown (a := ⟨B, 3, none⟩) h.lt h.k3, cell_grown (a := ⟨B, 4, none⟩) h.lt h.k4⟩

/-- Rising by the dots. -/
def Asc (l : List Cel) : Prop := l.Pairwise fun x y => befB x.1 y.1 = true
/-- One of the cells has the dot. -/
def memD (l : List Cel) (d : Int × Int) : Bool := l.any fun y => decide (y.1 = d)

/-- Where the search ends: the first cell whose dot is not ahead. -/
theorem memD_end {l : List Cel} {d : Int × Int} {a : Nat} (hs : Asc l) (h1 : ∀ k (h : k < l.length), k < a → befB l[k].1 d = true) (h2 : ∀ k (h : k < l.length), a ≤ k → befB l[k].1 d = false) :
    memD l d = decide (∃ h : a < l.length, l[a].1 = d) := by
  by_cases hm : ∃ h : a < l.length, l[a].1 = d
  · rw [decide_eq_true hm]
    obtain ⟨h, e⟩ := hm
    unfold memD
    rw [List.any_eq_true]
    exact ⟨l[a], List.getElem_mem h, by simpa using e⟩
  · rw [decide_eq_false hm]
    unfold memD
    rw [List.any_eq_false]
    intro y hy he
    have he' : y.1 = d := by simpa using he
    obtain ⟨k, hk, rfl⟩ := List.getElem_of_mem hy
    by_cases hka : k < a
    · exact befT_ne (h1 k hk hka) he'
    · by_cases e : k = a
      · subst e; exact hm ⟨hk, he'⟩
      · have h3 := (List.pairwise_iff_getElem.1 hs) a k (by omega) hk (by omega)
        rw [he', h2 a (by omega) (Nat.le_refl _)] at h3
        cases h3

set_option maxRecDepth 100000 in
set_option maxHeartbeats 1000000 in
theorem bsearch_any (l : List Cel) (A : Option Addr) (cap : Nat) (x : Cel) (w : World) (hl : l.length ≤ 400) (hr : RowC w A l) (hs : Asc l) :
    Calls Try.prog 45 #[.slice A l.length cap, .agg #[.int .i64 x.1.1, .int .i64 x.1.2, .int .i64 x.2.1, .int .i64 x.2.2.1, .int .i64 x.2.2.2], .func (.func 31) #[] #[]] w fun e w' => ∃ i : Nat, e = .returned (.tuple #[.int .i64 i, .bool (memD l x.1)]) ∧ (memD l x.1 = true → ∃ h : i < l.length, l[i].1 = x.1) ∧ Gr w w' := by
  have mixed : Try.prog.follows .mixedOrders = true := by kernel_rfl
  have hx0 : CelAt (w.alloc (.cells #[.int .i64 x.1.1, .int .i64 x.1.2, .int .i64 x.2.1, .int .i64 x.2.2.1, .int .i64 x.2.2.2] 64)) w.heap.size x := CelAt.new x 64 rfl
  have hg0 : Gr w (w.alloc (.cells #[.int .i64 x.1.1, .int .i64 x.1.2, .int .i64 x.2.1, .int .i64 x.2.2.1, .int .i64 x.2.2.2] 64)) := (Gr.refl w).alloc _
  have hsH : Hid (Asc l) := hs
  clear hs
  go_enter Try.func45, Try.ntmps45
  go_wp2
  generalize w.alloc (.cells #[.int .i64 x.1.1, .int .i64 x.1.2, .int .i64 x.2.1, .int .i64 x.2.2.1, .int .i64 x.2.2.2] 64) = w0 at hx0 hg0 ⊢
  go_loopw [9, 10] (fun i j wr => ∃ a b : Nat, a ≤ b ∧ b ≤ l.length ∧ i = .int .i64 a ∧ j = .int .i64 b ∧ Hid ((∀ k (h : k < l.length), k < a → befB l[k].1 x.1 = true) ∧ (∀ k (h : k < l.length), b ≤ k → befB l[k].1 x.1 = false)) ∧ Gr w0 wr) (fun i j _ => (intOf j).toNat - (intOf i).toNat)
  case atStart => exact ⟨0, l.length, by omega, by omega, rfl, rfl, ⟨fun k _ h => absurd h (Nat.not_lt_zero _), fun k h1 h2 => by omega⟩, Gr.refl _⟩
  case round =>
    obtain ⟨a, b, hab, hbl, rfl, rfl, hinv, hgr⟩ := hrel
    have hxR := hx0.gr hgr
    obtain ⟨x0, x1, x2, x3, x4⟩ := hxR.G
    by_cases hlt : a < b
    · have hltz : (a : Int) < (b : Int) := by omega
      obtain ⟨h, hh⟩ : ∃ h, (a + b) / 2 = h := ⟨_, rfl⟩
      have hha : a ≤ h := by omega
      have hhb : h < b := by omega
      have hhl : h < l.length := by omega
      obtain ⟨bb, off, rfl, hb, hcs⟩ := RowC.get (hr.gr (hg0.trans hgr)) hhl
      obtain ⟨y, hy⟩ : ∃ y, l[h] = y := ⟨_, rfl⟩
      obtain ⟨e0, e1, e2, e3, e4⟩ := hcs h hhl
      rw [hy] at e0 e1 e2 e3 e4
      have q0 := cell_grown (a := ⟨bb, off + h * 5, none⟩) hb e0
      have q1 := cell_grown (a := ⟨bb, off + h * 5 + 1, none⟩) hb e1
      have q2 := cell_grown (a := ⟨bb, off + h * 5 + 2, none⟩) hb e2
      have q3 := cell_grown (a := ⟨bb, off + h * 5 + 3, none⟩) hb e3
      have q4 := cell_grown (a := ⟨bb, off + h * 5 + 4, none⟩) hb e4
      clear e0 e1 e2 e3 e4
      have hyH : Hid (l[h] = y) := hy
      clear hcs hy
      have hz : ((a : Int) + (b : Int)) / 2 = (h : Int) := by omega
      have hhz : (h : Int) < (l.length : Int) := by omega
      have hhH : Hid ((a + b) / 2 = h) := hh
      clear hh
      cases hbe : befB y.1 x.1
      · have hge := ordI_not hbe
        have hgez : (decide (ordI y.1 x.1 < 0)) = false := decide_eq_false (by omega)
        go_wp2
        refine wp_region_quiet_grown mixed (by kernel_rfl) ?_
        repeat (go_big_quiet_step ((go_at_call 31; refine Calls.grown_of (orderC_g rfl _))))
        refine wpQuiet_nil ?_
        rintro _ ⟨⟨nq2, osq2⟩, rfl⟩
        go_wp2
        go_roundw
        case rel =>
          refine ⟨a, h, hha, by omega, rfl, rfl, ⟨hinv.out.1, fun k hk hhk => ?_⟩, hgr.trans ⟨nq2, osq2, rfl⟩⟩
          by_cases e : k = h
          · subst e; rw [hyH.out]; exact hbe
          · have := (List.pairwise_iff_getElem.1 hsH.out) h k hhl hk (by omega)
            rw [hyH.out] at this
            cases hk2 : befB l[k].1 x.1
            · rfl
            · rw [befT_trans this hk2] at hbe; cases hbe
        case measure => simp [intOf]; omega
      · have hge := ordI_bef hbe
        go_wp2
        refine wp_region_quiet_grown mixed (by kernel_rfl) ?_
        repeat (go_big_quiet_step ((go_at_call 31; refine Calls.grown_of (orderC_g hge _))))
        refine wpQuiet_nil ?_
        rintro _ ⟨⟨nq2, osq2⟩, rfl⟩
        go_wp2
        go_roundw
        case rel =>
          refine ⟨h + 1, b, by omega, hbl, by go_num, rfl, ⟨fun k hk hkh => ?_, hinv.out.2⟩, hgr.trans ⟨nq2, osq2, rfl⟩⟩
          by_cases e : k = h
          · subst e; rw [hyH.out]; exact hbe
          · have := (List.pairwise_iff_getElem.1 hsH.out) k h hk hhl (by omega)
            rw [hyH.out] at this
            exact befT_trans this hbe
        case measure => simp [intOf]; omega
    · have hltz : ¬ (a : Int) < (b : Int) := by omega
      obtain rfl : a = b := by omega
      have hme := memD_end hsH.out hinv.out.1 hinv.out.2
      have hwR : Gr w wr := hg0.trans hgr
      clear hlt
      by_cases hal : a < l.length
      · have halz : (a : Int) < (l.length : Int) := by omega
        obtain ⟨bb, off, rfl, hb, hcs⟩ := RowC.get (hr.gr hwR) hal
        obtain ⟨y, hy⟩ : ∃ y, l[a] = y := ⟨_, rfl⟩
        obtain ⟨e0, e1, e2, e3, e4⟩ := hcs a hal
        rw [hy] at e0 e1 e2 e3 e4
        have q0 := cell_grown (a := ⟨bb, off + a * 5, none⟩) hb e0
        have q1 := cell_grown (a := ⟨bb, off + a * 5 + 1, none⟩) hb e1
        have q2 := cell_grown (a := ⟨bb, off + a * 5 + 2, none⟩) hb e2
        have q3 := cell_grown (a := ⟨bb, off + a * 5 + 3, none⟩) hb e3
        have q4 := cell_grown (a := ⟨bb, off + a * 5 + 4, none⟩) hb e4
        clear e0 e1 e2 e3 e4
        have hyH : Hid (l[a] = y) := hy
        clear hcs
        by_cases hq : y.1 = x.1
        · have hoz := (ordI_zero y.1 x.1).2 hq
          have hfin : Hid (memD l x.1 = true ∧ ∃ h : a < l.length, l[a].1 = x.1) := by
            have hex : ∃ h : a < l.length, l[a].1 = x.1 := ⟨hal, by rw [hy]; exact hq⟩
            exact ⟨by rw [hme]; exact decide_eq_true hex, hex⟩
          clear hme hq hy
          go_wp2
          refine wp_region_quiet_grown mixed (by kernel_rfl) ?_
          repeat (go_big_quiet_step ((go_at_call 31; refine Calls.grown_of (orderC_g hoz _))))
          refine wpQuiet_nil ?_
          rintro _ ⟨⟨nq2, osq2⟩, rfl⟩
          go_wp2
          go_ret2
          rw [hfin.out.1]
          exact ⟨a, rfl, fun _ => hfin.out.2, hwR.trans ⟨nq2, osq2, rfl⟩⟩
        · have hoz : (ordI y.1 x.1 == 0) = false := beq_eq_false_iff_ne.2 (fun h => hq ((ordI_zero y.1 x.1).1 h))
          have hfin : Hid (memD l x.1 = false) := by
            show memD l x.1 = false
            rw [hme]
            refine decide_eq_false ?_
            rintro ⟨_, h⟩
            rw [hy] at h
            exact hq h
          clear hme hq hy
          go_wp2
          refine wp_region_quiet_grown mixed (by kernel_rfl) ?_
          repeat (go_big_quiet_step ((go_at_call 31; refine Calls.grown_of (orderC_g rfl _))))
          refine wpQuiet_nil ?_
          rintro _ ⟨⟨nq2, osq2⟩, rfl⟩
          go_wp2
          go_ret2
          rw [hfin.out]
          exact ⟨a, rfl, (fun h => by cases h), hwR.trans ⟨nq2, osq2, rfl⟩⟩
      · have halz : ¬ (a : Int) < (l.length : Int) := by omega
        have hfin : Hid (memD l x.1 = false) := by
          show memD l x.1 = false
          rw [hme]
          refine decide_eq_false ?_
          rintro ⟨h, _⟩
          exact hal h
        clear hme
        go_wp2
        refine wp_region_quiet_grown mixed (by kernel_rfl) ?_
        repeat (go_big_quiet_step (fail))
        refine wpQuiet_nil ?_
        rintro _ ⟨⟨nq2, osq2⟩, rfl⟩
        go_wp2
        go_ret2
        rw [hfin.out]
        exact ⟨a, rfl, (fun h => by cases h), hwR.trans ⟨nq2, osq2, rfl⟩⟩

end Go.Proofs.Ytjgefnipkaecgac
