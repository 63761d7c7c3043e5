/-
  viewref.Order: the document's order of two rows.
-/
import Derived.Test.YteobmedkngdnkaaDoorZMath
namespace Go.Proofs.YteobmedkngdnkaaDoor
open Go.RowKit Go.Sort

theorem cmpL_short {a b : List Int} {k : Nat} (h1 : k = a.length) (h2 : k < b.length) (h : ∀ j (h1 : j < a.length) (h2 : j < b.length), j < k → cmpI a[j] b[j] = 0) : cmpL a b = -1 := by
  have := cmpL_end (a := a) (b := b) (by omega) (fun j h3 h4 _ => h j h3 h4 (by omega))
  rw [this, if_pos (by omega)]
theorem cmpL_same {a b : List Int} {k : Nat} (h1 : k = a.length) (h2 : k = b.length) (h : ∀ j (h1 : j < a.length) (h2 : j < b.length), j < k → cmpI a[j] b[j] = 0) : cmpL a b = 0 := by
  have := cmpL_end (a := a) (b := b) (by omega) (fun j h3 h4 _ => h j h3 h4 (by omega))
  rw [this, if_neg (by omega)]
set_option maxRecDepth 100000 in
set_option maxHeartbeats 1000000 in
theorem orderD_any (a b : List Int) (A B : Option Addr) (ca cb : Nat) (w : World) (hal : a.length ≤ maxLen) (hra : RowI w A a) (hrb : RowI w B b) :
    Calls Tryd.prog 31 #[.slice A a.length ca, .slice B b.length cb] w fun e w' => e = .returned (.int .i64 (cmpL a b)) ∧ Gr w w' := by
  have mixed : Tryd.prog.follows .mixedOrders = true := by kernel_rfl
  unfold maxLen at hal
  have hH : Hid (RowI w A a ∧ RowI w B b) := ⟨hra, hrb⟩
  clear hra hrb
  go_enter Tryd.func31, Tryd.ntmps31
  go_wp2
  go_loopw [5] (fun i wr => ∃ k : Nat, k ≤ a.length ∧ k ≤ b.length ∧ i = .int .i64 k ∧ Hid (∀ j (h1 : j < a.length) (h2 : j < b.length), j < k → cmpI a[j] b[j] = 0) ∧ Hid (Gr w wr)) (fun i _ => a.length - (intOf i).toNat)
  case atStart => exact ⟨0, Nat.zero_le _, Nat.zero_le _, rfl, fun j _ _ hj => absurd hj (Nat.not_lt_zero _), Gr.refl _⟩
  case round =>
    obtain ⟨k, hk, hk2, rfl, hno, hgr⟩ := hrel
    by_cases hlt : k < a.length
    · have hltz : (k : Int) < (a.length : Int) := by omega
      by_cases hlt2 : k < b.length
      · have hlt2z : (k : Int) < (b.length : Int) := by omega
        obtain ⟨bb, off, rfl, hb, hcs⟩ := (hH.out.1.gr hgr.out).at hlt
        obtain ⟨x, hx⟩ : ∃ y, a[k] = y := ⟨_, rfl⟩
        have e1 : wr.cell? ⟨bb, off + k, none⟩ = some (.int .i64 x) := by
          have e0 := hcs k hlt 0 (by omega)
          rw [hx] at e0
          simpa [encI] using e0
        obtain ⟨bc, of2, rfl, hb2, hcs2⟩ := (hH.out.2.gr hgr.out).at hlt2
        obtain ⟨y, hy⟩ : ∃ y, b[k] = y := ⟨_, rfl⟩
        have e2 : wr.cell? ⟨bc, of2 + k, none⟩ = some (.int .i64 y) := by
          have e0 := hcs2 k hlt2 0 (by omega)
          rw [hy] at e0
          simpa [encI] using e0
        have hxy : Hid (a[k] = x ∧ b[k] = y) := ⟨hx, hy⟩
        clear hcs hcs2 hx hy
        have g1 := (Gr.refl wr).cellG hb e1
        have g2 := (Gr.refl wr).cellG hb2 e2
        have hc := cmpI_cases x y
        by_cases h1 : x < y
        · have hfin : Hid (cmpL a b = -1) := by
            have hcc : cmpI x y = -1 := by omega
            show _ = _
            rw [cmpL_at hlt hlt2 hno.out (by rw [hxy.out.1, hxy.out.2, hcc]; decide), hxy.out.1, hxy.out.2, hcc]
          clear hc e1 e2
          go_wp2
          refine wp_region_quiet_grown mixed (by kernel_rfl) ?_
          repeat (go_big_quiet_step (fail))
          refine wpQuiet_nil ?_
          rintro _ ⟨⟨nq, osq⟩, rfl⟩
          go_wp2
          go_ret
          exact ⟨by rw [hfin.out]; rfl, hgr.out.trans ⟨nq, osq, rfl⟩⟩
        · have hS1 : Hid (∀ W, Gr wr W → W.cell? ⟨bb, off + k, none⟩ = some (.int .i64 x) ∧ W.cell? ⟨bc, of2 + k, none⟩ = some (.int .i64 y) ∧ bb < W.heap.size ∧ bc < W.heap.size) := fun W h => ⟨(h.cell (p := ⟨bb, off + k, none⟩) hb).trans e1, (h.cell (p := ⟨bc, of2 + k, none⟩) hb2).trans e2, Nat.lt_of_lt_of_le hb h.size, Nat.lt_of_lt_of_le hb2 h.size⟩
          by_cases h2 : y < x
          · have hfin : Hid (cmpL a b = 1) := by
              have hcc : cmpI x y = 1 := by omega
              show _ = _
              rw [cmpL_at hlt hlt2 hno.out (by rw [hxy.out.1, hxy.out.2, hcc]; decide), hxy.out.1, hxy.out.2, hcc]
            clear hc e1 e2
            go_wp2
            refine wp_region_quiet_grown mixed (by kernel_rfl) ?_
            repeat (go_big_quiet_step (fail))
            refine wpQuiet_nil ?_
            rintro _ ⟨⟨nq, osq⟩, rfl⟩
            obtain ⟨W2, hW2⟩ : ∃ W, grow (wr.drewN nq) osq = W := ⟨_, rfl⟩
            have hg2 : Gr wr W2 := ⟨nq, osq, hW2.symm⟩
            rw [hW2]
            obtain ⟨q1, q2, q3, q4⟩ := hS1.out W2 hg2
            clear g1 g2 hW2
            have g1 := (Gr.refl W2).cellG q3 q1
            have g2 := (Gr.refl W2).cellG q4 q2
            clear q1 q2
            have hg2H : Hid (Gr wr W2) := hg2
            clear hg2
            go_wp2
            refine wp_region_quiet_grown mixed (by kernel_rfl) ?_
            repeat (go_big_quiet_step (fail))
            refine wpQuiet_nil ?_
            rintro _ ⟨⟨nr, osr⟩, rfl⟩
            go_wp2
            go_ret
            exact ⟨by rw [hfin.out]; rfl, (hgr.out.trans hg2H.out).trans ⟨nr, osr, rfl⟩⟩
          · have hne : Hid (cmpI a[k] b[k] = 0) := by
              have hcc : cmpI x y = 0 := by omega
              show _ = _
              rw [hxy.out.1, hxy.out.2, hcc]
            clear hc e1 e2
            go_wp2
            refine wp_region_quiet_grown mixed (by kernel_rfl) ?_
            repeat (go_big_quiet_step (fail))
            refine wpQuiet_nil ?_
            rintro _ ⟨⟨nq, osq⟩, rfl⟩
            obtain ⟨W2, hW2⟩ : ∃ W, grow (wr.drewN nq) osq = W := ⟨_, rfl⟩
            have hg2 : Gr wr W2 := ⟨nq, osq, hW2.symm⟩
            rw [hW2]
            obtain ⟨q1, q2, q3, q4⟩ := hS1.out W2 hg2
            clear g1 g2 hW2
            have g1 := (Gr.refl W2).cellG q3 q1
            have g2 := (Gr.refl W2).cellG q4 q2
            clear q1 q2
            have hg2H : Hid (Gr wr W2) := hg2
            clear hg2
            go_wp2
            refine wp_region_quiet_grown mixed (by kernel_rfl) ?_
            repeat (go_big_quiet_step (fail))
            refine wpQuiet_nil ?_
            rintro _ ⟨⟨nr, osr⟩, rfl⟩
            have hfin : Hid (Gr w (grow (W2.drewN nr) osr)) := (hgr.out.trans hg2H.out).trans ⟨nr, osr, rfl⟩
            go_wp2
            go_roundw
            case rel =>
              refine ⟨k + 1, by omega, by omega, by go_num, ?_, hfin⟩
              intro j hj hj2 hjk
              by_cases e : j = k
              · subst e; exact hne.out
              · exact hno.out j hj hj2 (by omega)
            case measure => simp [intOf]; omega
      · have hlt2z : ¬ (k : Int) < (b.length : Int) := by omega
        have hfin : Hid (cmpL a b = 1) := cmpL_long hlt (by omega) hno.out
        have hab : ¬ (a.length : Int) < (b.length : Int) := by omega
        have hba : (b.length : Int) < (a.length : Int) := by omega
        go_wp2
        go_ret
        exact ⟨by rw [hfin.out]; rfl, hgr.out⟩
    · have hltz : ¬ (k : Int) < (a.length : Int) := by omega
      by_cases hlt2 : k < b.length
      · have hfin : Hid (cmpL a b = -1) := cmpL_short (by omega) hlt2 hno.out
        have hab : (a.length : Int) < (b.length : Int) := by omega
        go_wp2
        go_ret
        exact ⟨by rw [hfin.out]; rfl, hgr.out⟩
      · have hfin : Hid (cmpL a b = 0) := cmpL_same (by omega) (by omega) hno.out
        have hab : ¬ (a.length : Int) < (b.length : Int) := by omega
        have hba : ¬ (b.length : Int) < (a.length : Int) := by omega
        go_wp2
        go_ret
        exact ⟨by rw [hfin.out]; rfl, hgr.out⟩
end Go.Proofs.YteobmedkngdnkaaDoor
