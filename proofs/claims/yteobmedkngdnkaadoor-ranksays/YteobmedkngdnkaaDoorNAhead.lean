/-
  viewref.ahead: does a row stand ahead of another one?
-/
import Derived.Test.YteobmedkngdnkaaDoorNEqual
import Derived.Test.YteobmedkngdnkaaDoorRSet
namespace Go.Proofs.YteobmedkngdnkaaDoor
open Go.RowKit Go.Sort

def ahdB (cs a b : List Int) : Bool := decide (cmpB cs a b < 0)
theorem cmpB_drop9 {cs a b : List Int} {j : Nat} (hj : j < cs.length) {n : Int} (hn : cs[j] = n) : cmpB (cs.drop j) a b = if cmpI (a.getD (colB n) 0) (b.getD (colB n) 0) = 0 then cmpB (cs.drop (j + 1)) a b else sgnB n * cmpI (a.getD (colB n) 0) (b.getD (colB n) 0) := by
  rw [List.drop_eq_getElem_cons hj, hn]
  rfl
set_option maxRecDepth 100000 in
set_option maxHeartbeats 2000000 in
theorem ahead_any (a b cs : List Int) (A B C : Option Addr) (ca cb cc : Nat) (w : World) (hal : a.length ≤ maxLen) (hcl : cs.length ≤ 8) (hn : ∀ n ∈ cs, n ≠ 0 ∧ -1000 ≤ n ∧ n ≤ 1000 ∧ colB n < a.length ∧ colB n < b.length) (ha : RowI w A a) (hb : RowI w B b) (hc : RowI w C cs) :
    Calls Tryd.prog 19 #[.slice A a.length ca, .slice B b.length cb, .slice C cs.length cc] w fun e w' => e = .returned (.bool (ahdB cs a b)) ∧ ∃ q os', w' = grow (w.drewN q) os' := by
  have mixed : Tryd.prog.follows .mixedOrders = true := by kernel_rfl
  obtain ⟨R, hR⟩ : ∃ R, ahdB cs a b = R := ⟨_, rfl⟩
  have hH : Hid (RowI w A a ∧ RowI w B b ∧ RowI w C cs ∧ a.length ≤ maxLen ∧ (∀ n ∈ cs, n ≠ 0 ∧ -1000 ≤ n ∧ n ≤ 1000 ∧ colB n < a.length ∧ colB n < b.length) ∧ ahdB cs a b = R) := ⟨ha, hb, hc, hal, hn, hR⟩
  rw [hR]
  clear ha hb hc hal hn hR
  go_enter Tryd.func19, Tryd.ntmps19
  go_wp2
  go_loopw [7] (fun i wr => ∃ k : Nat, k ≤ cs.length ∧ i = .int .i64 k ∧ Hid (cmpB cs a b = cmpB (cs.drop k) a b ∧ Gr w wr)) (fun i _ => cs.length - (intOf i).toNat)
  case atStart => exact ⟨0, Nat.zero_le _, rfl, rfl, Gr.refl _⟩
  case round =>
    rename World => wr0
    obtain ⟨k, hk, rfl, hL⟩ := hrel
    by_cases hlt : k < cs.length
    · have hltz : (k : Int) < (cs.length : Int) := by omega
      obtain ⟨n, hn⟩ : ∃ n, cs[k] = n := ⟨_, rfl⟩
      have hd := cmpB_drop9 (a := a) (b := b) hlt hn
      obtain ⟨n0, n1, n2, na, nb⟩ := hH.out.2.2.2.2.1 n (by rw [← hn]; exact List.getElem_mem hlt)
      obtain ⟨bb, off, rfl, hbb, hcc⟩ := (hH.out.2.2.1.gr hL.out.2).at hlt
      have e0 := hcc k hlt 0 (by omega)
      rw [hn] at e0
      have e1 : wr0.cell? ⟨bb, off + k, none⟩ = some (.int .i64 n) := by simpa [encI] using e0
      obtain ⟨b1, o1, m1, hA1, l1, k1, j1, d1⟩ := rowI_col (hH.out.1.gr hL.out.2) n0 na
      obtain ⟨b2, o2, m2, hA2, l2, k2, j2, d2⟩ := rowI_col (hH.out.2.1.gr hL.out.2) n0 nb
      obtain rfl : m1 = m2 := by omega
      obtain ⟨va, hva⟩ : ∃ va, a.getD (colB n) 0 = va := ⟨_, rfl⟩
      obtain ⟨vb, hvb⟩ : ∃ vb, b.getD (colB n) 0 = vb := ⟨_, rfl⟩
      rw [hva] at d1
      rw [hvb] at d2
      rw [hva, hvb] at hd
      have hdH : Hid (cmpB cs a b = if cmpI va vb = 0 then cmpB (cs.drop (k + 1)) a b else sgnB n * cmpI va vb) := by show _ = _; rw [hL.out.1, hd]
      have hg0 : Hid (Gr w wr0) := hL.out.2
      subst hA1 hA2
      have q1 : (m1 : Int) < (a.length : Int) := by omega
      have q2 : (m1 : Int) < (b.length : Int) := by omega
      have g0 := (Gr.refl wr0).cellG (a := ⟨b1, o1 + m1, none⟩) l1 d1
      have g1 := (Gr.refl wr0).cellG (a := ⟨b2, o2 + m1, none⟩) l2 d2
      have g2 := (Gr.refl wr0).cellG (a := ⟨bb, off + k, none⟩) hbb e1
      unfold colI at k1
      clear hcc e0 hn hva hvb hL hd na nb k2
      have fin : Hid ((va = vb → cmpB cs a b = cmpB (cs.drop (k + 1)) a b) ∧ (va < vb → 0 < n → R = true) ∧ (va < vb → ¬ 0 < n → R = false) ∧ (vb < va → 0 < n → R = false) ∧ (vb < va → ¬ 0 < n → R = true)) := by
        have hd := hdH.out
        have hr := hH.out.2.2.2.2.2
        unfold ahdB at hr
        refine ⟨fun h => ?_, fun h1 h2 => ?_, fun h1 h2 => ?_, fun h1 h2 => ?_, fun h1 h2 => ?_⟩
        · rcases cmpI_cases va vb with ⟨e, k⟩ | ⟨e, k⟩ | ⟨e, k⟩
          · omega
          · rw [e, if_pos rfl] at hd; exact hd
          · omega
        all_goals
          rcases cmpI_cases va vb with ⟨e, k⟩ | ⟨e, k⟩ | ⟨e, k⟩ <;> (try omega) <;> rcases sgnB_cases n with ⟨s, t⟩ | ⟨s, t⟩ <;> (try omega) <;> rw [e, if_neg (by decide), s] at hd <;> rw [hd] at hr <;> rw [← hr] <;> decide
      by_cases hneg : n < 0
      · rw [if_pos hneg] at k1
        have hpos : ¬ 0 < n := by omega
        have hpd : decide (0 < n) = false := decide_eq_false hpos
        by_cases hab : va = vb
        · have hnx := fin.out.1 hab
          have hnxH : Hid (cmpB cs a b = cmpB (cs.drop (k + 1)) a b) := hnx
          subst hab
          clear hnx
          go_wp2_with fail
          refine wp_region_quiet_grown mixed (by kernel_rfl) ?_
          repeat (go_big_quiet_step (fail))
          refine wpQuiet_nil ?_
          rintro _ ⟨⟨nq2, osq2⟩, rfl⟩
          have hg9 : Hid (Gr w (grow (wr0.drewN nq2) osq2)) := hg0.out.trans ⟨nq2, osq2, rfl⟩
          go_wp2
          go_roundw
          case rel => exact ⟨k + 1, by omega, by go_num, hnxH.out, hg9.out⟩
          case measure => simp [intOf]; omega
        · have habb : (va != vb) = true := by simpa using hab
          by_cases hl : va < vb
          · have hld : decide (va < vb) = true := decide_eq_true hl
            have hRR : Hid (R = false) := fin.out.2.2.1 hl hpos
            go_wp2_with fail
            refine wp_region_quiet_grown mixed (by kernel_rfl) ?_
            repeat (go_big_quiet_step (fail))
            refine wpQuiet_nil ?_
            rintro _ ⟨⟨nq2, osq2⟩, rfl⟩
            have g3 := g2 nq2 osq2
            go_wp2
            go_ret
            exact ⟨by rw [hRR.out]; rfl, hg0.out.trans ⟨nq2, osq2, rfl⟩⟩
          · have hld : decide (va < vb) = false := decide_eq_false hl
            have hRR : Hid (R = true) := fin.out.2.2.2.2 (by omega) hpos
            go_wp2_with fail
            refine wp_region_quiet_grown mixed (by kernel_rfl) ?_
            repeat (go_big_quiet_step (fail))
            refine wpQuiet_nil ?_
            rintro _ ⟨⟨nq2, osq2⟩, rfl⟩
            have g3 := g2 nq2 osq2
            go_wp2
            go_ret
            exact ⟨by rw [hRR.out]; rfl, hg0.out.trans ⟨nq2, osq2, rfl⟩⟩
      · rw [if_neg hneg] at k1
        have hpos : 0 < n := by omega
        have hpd : decide (0 < n) = true := decide_eq_true hpos
        by_cases hab : va = vb
        · have hnx := fin.out.1 hab
          have hnxH : Hid (cmpB cs a b = cmpB (cs.drop (k + 1)) a b) := hnx
          subst hab
          clear hnx
          go_wp2_with fail
          refine wp_region_quiet_grown mixed (by kernel_rfl) ?_
          repeat (go_big_quiet_step (fail))
          refine wpQuiet_nil ?_
          rintro _ ⟨⟨nq2, osq2⟩, rfl⟩
          have hg9 : Hid (Gr w (grow (wr0.drewN nq2) osq2)) := hg0.out.trans ⟨nq2, osq2, rfl⟩
          go_wp2
          go_roundw
          case rel => exact ⟨k + 1, by omega, by go_num, hnxH.out, hg9.out⟩
          case measure => simp [intOf]; omega
        · have habb : (va != vb) = true := by simpa using hab
          by_cases hl : va < vb
          · have hld : decide (va < vb) = true := decide_eq_true hl
            have hRR : Hid (R = true) := fin.out.2.1 hl hpos
            go_wp2_with fail
            refine wp_region_quiet_grown mixed (by kernel_rfl) ?_
            repeat (go_big_quiet_step (fail))
            refine wpQuiet_nil ?_
            rintro _ ⟨⟨nq2, osq2⟩, rfl⟩
            have g3 := g2 nq2 osq2
            go_wp2
            go_ret
            exact ⟨by rw [hRR.out]; rfl, hg0.out.trans ⟨nq2, osq2, rfl⟩⟩
          · have hld : decide (va < vb) = false := decide_eq_false hl
            have hRR : Hid (R = false) := fin.out.2.2.2.1 (by omega) hpos
            go_wp2_with fail
            refine wp_region_quiet_grown mixed (by kernel_rfl) ?_
            repeat (go_big_quiet_step (fail))
            refine wpQuiet_nil ?_
            rintro _ ⟨⟨nq2, osq2⟩, rfl⟩
            have g3 := g2 nq2 osq2
            go_wp2
            go_ret
            exact ⟨by rw [hRR.out]; rfl, hg0.out.trans ⟨nq2, osq2, rfl⟩⟩
    · have hltz : ¬ (k : Int) < (cs.length : Int) := by omega
      have hdl : cs.drop k = [] := List.drop_eq_nil_of_le (by omega)
      have hRe : Hid (decide (cmpL a b < 0) = R) := by
        show _ = _
        rw [← hH.out.2.2.2.2.2]
        unfold ahdB
        rw [hL.out.1, hdl]
        rfl
      have hO0 := orderD_any a b A B ca cb wr0 hH.out.2.2.2.1 (hH.out.1.gr hL.out.2) (hH.out.2.1.gr hL.out.2)
      obtain ⟨r, hr⟩ : ∃ r, cmpL a b = r := ⟨_, rfl⟩
      rw [hr] at hO0 hRe
      have hO : Hid _ := hO0
      have hg0 : Hid (Gr w wr0) := hL.out.2
      clear hO0 hr hL hdl
      go_wp2_with fail
      refine Calls.mono (show Calls _ _ _ _ _ from hO.out) ?_
      rintro e w2 ⟨rfl, hg2⟩
      have hg : Hid (Gr w w2) := hg0.out.trans hg2
      clear hO hg2
      go_wp2
      go_ret
      exact ⟨by rw [← hRe.out]; rfl, hg.out⟩
end Go.Proofs.YteobmedkngdnkaaDoor
