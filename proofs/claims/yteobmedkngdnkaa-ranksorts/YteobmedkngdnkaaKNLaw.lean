/-
  viewkeep.RankSorts: the law.
-/
import Derived.Test.YteobmedkngdnkaaKNSorts
namespace Go.Proofs.Yteobmedkngdnkaa
open Go.RowKit Go.Sort

set_option maxRecDepth 100000 in
set_option maxHeartbeats 4000000 in
theorem rsorts_any (l : List Itm) (A : Option Addr) (cap : Nat) (cs : List Int) (CA : Option Addr) (cc : Nat) (most : Int) (w : World) (h : Lv w A cap l) (hc : RowI w CA cs) (hcl : cs.length ≤ maxLen) :
    Calls Try.prog 3 #[.slice A l.length cap, .slice CA cs.length cc, .int .i64 most] w fun e w' => e = .returned (.bool true) ∧ Below w.heap.size w w' := by
  have mixed : Try.prog.follows .mixedOrders = true := by kernel_rfl
  have hH : Hid (Lv w A cap l ∧ RowI w CA cs ∧ cs.length ≤ maxLen) := ⟨h, hc, hcl⟩
  clear h hc hcl
  obtain ⟨W1, hW1⟩ : ∃ W1, nlW w = W1 := ⟨_, rfl⟩
  have hg1 : Hid (Gr w W1) := by show Gr _ _; rw [← hW1]; exact nl_gr w
  have hL0 := rows_any (nlL w.heap.size) (some ⟨w.heap.size + 1 + 1, 0, none⟩) 2 [2] (some ⟨w.heap.size + 1 + 1 + 1, 0, none⟩) 1 2 W1 (by rw [← hW1]; exact nl_lv w) (by rw [← hW1]; exact nl_by w) (by unfold maxLen; simp)
  rw [(nl_e _).1, (nl_e _).2] at hL0
  have hL : Hid _ := hL0
  unfold nlW at hW1
  clear hL0
  go_enter Try.func3, Try.ntmps3
  go_wp2_with fail
  clear hW1
  refine Calls.mono (show Calls _ _ _ _ _ from hL.out) ?_
  rintro e w2 ⟨v2, rfl, r2, b2⟩
  obtain ⟨tb, toff, tcap, tp, tq, tpo, tqo, tc, td, rfl, t0, t1, t2, t3⟩ := two_rows r2
  have hbw2 : Hid (Below w.heap.size w w2) := hg1.out.below.trans (b2.mono hg1.out.size)
  clear hL r2 b2
  obtain ⟨E1, hE1⟩ : ∃ E, rnkE (l.map Itm.z) cs 400 = E := ⟨_, rfl⟩
  obtain ⟨E2, hE2⟩ : ∃ E, rnkE (l.map Itm.z) cs most = E := ⟨_, rfl⟩
  have hEs : Hid (rnkE (l.map Itm.z) cs 400 = E1 ∧ rnkE (l.map Itm.z) cs most = E2) := ⟨hE1, hE2⟩
  have hA0 := rows_any l A cap cs CA cc 400 w2 (hH.out.1.below hbw2.out) (hH.out.2.1.below hbw2.out) hH.out.2.2
  rw [hE1] at hA0
  have hA : Hid _ := hA0
  clear hA0 hE1 hE2
  go_wp2_with fail
  clear t0 t1 t2 t3
  refine Calls.mono (show Calls _ _ _ _ _ from hA.out) ?_
  rintro e w3 ⟨v3, rfl, r3, b3⟩
  have hbw3 : Hid (Below w.heap.size w w3) := hbw2.out.trans (b3.mono hbw2.out.size)
  have hr3 : Hid (Rws w3 w2.heap.size v3 (rnkL (l.map Itm.z) cs 400)) := r3
  have hB0 := rows_any l A cap cs CA cc most w3 (hH.out.1.below hbw3.out) (hH.out.2.1.below hbw3.out) hH.out.2.2
  rw [hEs.out.2] at hB0
  have hB : Hid _ := hB0
  clear hB0 hA r3 b3
  go_wp2_with fail
  refine Calls.mono (show Calls _ _ _ _ _ from hB.out) ?_
  rintro e w4 ⟨v4, rfl, r4, b4⟩
  have hbw4 : Hid (Below w.heap.size w w4) := hbw3.out.trans (b4.mono hbw3.out.size)
  obtain ⟨L1, o1, z1⟩ := (hr3.out.below b4).has
  obtain ⟨L2, o2, z2⟩ := r4.has
  obtain ⟨P1, c1, rfl, n1, R1⟩ := o1.read
  obtain ⟨P2, c2, rfl, n2, R2⟩ := o2.read
  have hR : Hid (RwR w4 P1 L1 ∧ RwR w4 P2 L2 ∧ L1.map Itm.r = rnkL (l.map Itm.z) cs 400 ∧ L2.map Itm.r = rnkL (l.map Itm.z) cs most ∧ NilC P1 L1.length c1) := ⟨R1, R2, z1, z2, n1⟩
  clear hB hr3 r4 b4 o1 o2 z1 z2 n1 n2 R1 R2
  by_cases h1 : E1 = 0
  rotate_left
  focus
    have h1b : (E1 != 0) = true := by simpa using h1
    obtain rfl : L1 = [] := by
      have := hR.out.2.2.1
      rw [rnk_bad (by rw [hEs.out.1]; exact h1)] at this
      exact List.map_eq_nil_iff.1 this
    clear h1
    go_wp2
    go_ret
    exact ⟨rfl, hbw4.out⟩
  subst h1
  by_cases h2 : E2 = 0
  rotate_left
  focus
    have h2b : (E2 != 0) = true := by simpa using h2
    obtain rfl : L2 = [] := by
      have := hR.out.2.2.2.1
      rw [rnk_bad (by rw [hEs.out.2]; exact h2)] at this
      exact List.map_eq_nil_iff.1 this
    clear h2
    by_cases h3 : L1.length = 0
    · have h3z : ((L1.length : Int) == 0) = true := by simpa using h3
      go_wp2
      go_ret
      exact ⟨rfl, hbw4.out⟩
    · have h3z : ((L1.length : Int) == 0) = false := by simpa using h3
      have h3y : ¬ (L1.length : Int) = 0 := by omega
      go_wp2
      go_ret
      exact ⟨by simp, hbw4.out⟩
  subst h2
  obtain ⟨q1, q2, q3, q4⟩ := rnk_both hEs.out.1 hEs.out.2
  obtain ⟨p1, p2, p3, p4⟩ := rnkE_parts hEs.out.2
  have hl4 : l.length ≤ 400 := by have := ((errZ_iff _).1 p1).1; simpa using this
  have hfit : Hid (∀ x ∈ l, 0 ≤ x.n ∧ x.n ≤ 400) := fun x hx => by
    have := fitB_parts p2 x.z (List.mem_map.2 ⟨x, hx, rfl⟩)
    exact ⟨this.1, this.2.1⟩
  rw [← hR.out.2.2.1, ← hR.out.2.2.2.1, List.length_map] at q1
  rw [← hR.out.2.2.1, List.length_map] at q2
  rw [← hR.out.2.2.2.1, List.length_map] at q3
  rw [← hR.out.2.2.1] at q4
  obtain ⟨S, hS⟩ : ∃ S, ((expL (l.map Itm.z)).length : Int) = S := ⟨_, rfl⟩
  rw [hS] at q2 q3
  have hsum : Hid ((l.map Itm.n).sum = S) := by show _ = _; rw [sum_exp fun x hx => (hfit.out x hx).1]; exact hS
  have hcols : Hid (∀ n ∈ cs, ∀ x ∈ L1, n ≠ 0 ∧ -1000 ≤ n ∧ n ≤ 1000 ∧ colB n < x.r.length) := fun n hn x hx => by
    have hm : x.r ∈ rnkL (l.map Itm.z) cs 400 := by rw [← hR.out.2.2.1]; exact List.mem_map.2 ⟨x, hx, rfl⟩
    obtain ⟨z, hz, e⟩ := rnk_mem hm
    have h5 := cols_in p2 p3 n hn z hz
    have h6 := errZ_wide p1 z hz
    rw [← e]
    exact ⟨h5.1, by omega, by omega, h5.2.2.2⟩
  have hcs8 : cs.length ≤ 8 := by
    unfold colsB at p3
    simp only [Bool.and_eq_true, decide_eq_true_eq] at p3
    exact p3.1
  simp only [inB, Bool.and_eq_true, decide_eq_true_eq] at p4
  have hq : Hid ((L1.map Itm.r).take L2.length = L2.map Itm.r ∧ (L1.map Itm.r).Pairwise (leB cs)) := ⟨q1, q4⟩
  clear q1 q4 p1 p2 p3 hS
  have hL1z : L1.length ≤ 400 := by omega
  have hL2z : L2.length ≤ L1.length := by omega
  go_wp2
  go_loopw [13, 88] (fun n i wr => ∃ k : Nat, k ≤ l.length ∧ i = .int .i64 k ∧ n = .int .i64 ((l.take k).map Itm.n).sum ∧ Hid (Gr w4 wr)) (fun _ i _ => l.length - (intOf i).toNat)
  case atStart => exact ⟨0, Nat.zero_le _, rfl, rfl, Gr.refl _⟩
  case round =>
    rename World => wr0
    obtain ⟨k, hk, rfl, rfl, hgr⟩ := hrel
    by_cases hlt : k < l.length
    · have hltz : (k : Int) < (l.length : Int) := by omega
      obtain ⟨x, hx⟩ : ∃ x, l[k] = x := ⟨_, rfl⟩
      obtain ⟨b, off, rfl, hb, hcell⟩ := ((hH.out.1.below hbw4.out).gr hgr.out).items.at hlt
      obtain ⟨e0, e1⟩ := hcell k hlt
      rw [hx] at e0 e1
      have hst : Hid (((l.take (k + 1)).map Itm.n).sum = ((l.take k).map Itm.n).sum + x.n) := by show _ = _; rw [sum_take hlt, hx]
      obtain ⟨T, hT⟩ : ∃ T, ((l.take k).map Itm.n).sum = T := ⟨_, rfl⟩
      have hTb : 0 ≤ T ∧ T ≤ 160000 := by
        have := sum_bnd (l := l.take k) fun y hy => hfit.out y (List.mem_of_mem_take hy)
        rw [List.length_take] at this
        omega
      have hxb : 0 ≤ x.n ∧ x.n ≤ 400 := by rw [← hx]; exact hfit.out _ (List.getElem_mem hlt)
      rw [hT] at hst ⊢
      obtain ⟨xn, hxn⟩ : ∃ xn, x.n = xn := ⟨_, rfl⟩
      rw [hxn] at e1 hst hxb
      have hg2 : Hid (Gr w4 (wr0.alloc (.cells #[.slice x.p x.r.length x.c, .int .i64 xn] 29))) := hgr.out.trans ((Gr.refl _).alloc _)
      clear hcell hx hT hxn
      go_wp2
      go_roundw
      case rel => exact ⟨k + 1, by omega, by go_num, by rw [hst.out], hg2⟩
      case measure => simp [intOf]; omega
    · have hltz : ¬ (k : Int) < (l.length : Int) := by omega
      have hke : l.take k = l := List.take_of_length_le (by omega)
      rw [hke, hsum.out]
      have hr0 := hR.out.2.1.gr hgr.out
      have hr1 := hR.out.1.gr hgr.out
      have m1 : min S 400 = (L1.length : Int) := q2.symm
      have m2 : min S most = (L2.length : Int) := q3.symm
      have htl : (L1.take L2.length).length = L2.length := by rw [List.length_take]; omega
      have hEq0 := eqRows_any (L1.take L2.length) L2 P1 P2 c1 c2 wr0 (by rw [htl]; omega) (hr1.take _) hr0 (by rw [List.map_take]; exact hq.out.1)
      rw [htl] at hEq0
      have hEq : Hid _ := hEq0
      have hcap : L1.length ≤ c1 := hR.out.2.2.2.2.cap
      have hcapz : (L2.length : Int) ≤ (c1 : Int) := by omega
      clear hEq0 htl hr0 hr1 hke q2 q3
      go_wp2_with fail
      refine Calls.mono (show Calls _ _ _ _ _ from hEq.out) ?_
      rintro e w5 ⟨rfl, hg5⟩
      have hg45 : Hid (Gr w4 w5) := hgr.out.trans hg5
      clear hEq hg5 hcap hcapz m1 m2
      go_wp2
      go_loopw [122] (fun i wr => ∃ k : Nat, k ≤ L1.length ∧ i = .int .i64 k ∧ Hid (Gr w4 wr)) (fun i _ => L1.length - (intOf i).toNat)
      case atStart => exact ⟨0, Nat.zero_le _, rfl, hg45⟩
      case round =>
        rename World => wr1
        obtain ⟨i, hi, rfl, hgr1⟩ := hrel
        by_cases hil : i + 1 < L1.length
        · have hilz : (i : Int) < (L1.length : Int) - 1 := by omega
          have i0 : (i : Int) < (L1.length : Int) := by omega
          have i1 : (i : Int) + 1 < (L1.length : Int) := by omega
          obtain ⟨x, hx⟩ : ∃ x, L1[i] = x := ⟨_, rfl⟩
          obtain ⟨y, hy⟩ : ∃ y, L1[i + 1] = y := ⟨_, rfl⟩
          have hle : Hid (cmpB cs x.r y.r ≤ 0) := by
            have := (List.pairwise_iff_getElem.1 hq.out.2) i (i + 1) (by simp; omega) (by simp; omega) (by omega)
            simp only [List.getElem_map, hx, hy] at this
            exact this
          have hxy : Hid (x ∈ L1 ∧ y ∈ L1 ∧ L1[i] = x ∧ L1[i + 1] = y) := ⟨by rw [← hx]; exact List.getElem_mem _, by rw [← hy]; exact List.getElem_mem _, hx, hy⟩
          clear hx hy
          go_wp2
          go_loopw [127] (fun j wr => ∃ m : Nat, m ≤ cs.length ∧ j = .int .i64 m ∧ Hid (Gr w4 wr ∧ cmpB (cs.drop m) x.r y.r ≤ 0)) (fun j _ => cs.length - (intOf j).toNat)
          case atStart => exact ⟨0, Nat.zero_le _, rfl, hgr1.out, hle.out⟩
          case round =>
            rename World => wr2
            obtain ⟨m, hm, rfl, hgr2⟩ := hrel
            by_cases hml : m < cs.length
            · have hmlz : (m : Int) < (cs.length : Int) := by omega
              obtain ⟨n, hn⟩ : ∃ n, cs[m] = n := ⟨_, rfl⟩
              have hd := cmpB_drop (a := x.r) (b := y.r) hml hn
              have hnm : n ∈ cs := by rw [← hn]; exact List.getElem_mem hml
              obtain ⟨b, off, rfl, hb, hcc⟩ := ((hH.out.2.1.below hbw4.out).gr hgr2.out.1).at hml
              have e0 := hcc m hml 0 (by omega)
              rw [hn] at e0
              have e1 : wr2.cell? ⟨b, off + m, none⟩ = some (.int .i64 n) := by simpa [encI] using e0
              obtain ⟨cx0, cx1, cx2, cx3⟩ := hcols.out n hnm x hxy.out.1
              obtain ⟨_, _, _, cy3⟩ := hcols.out n hnm y hxy.out.2.1
              have hRr := hR.out.1.gr hgr2.out.1
              obtain ⟨rb, ro, hP1, hrb, f0⟩ := hRr.at (by omega) hxy.out.2.2.1
              obtain ⟨rb', ro', hP1', _, f1⟩ := hRr.at hil hxy.out.2.2.2
              rw [hP1] at hP1'
              injection hP1' with hP1'
              injection hP1' with e2 e3
              subst e2 e3
              obtain ⟨b1, o1, m1, hA1, l1, k1, j1, d1⟩ := rowI_col (hRr.each x hxy.out.1).1 cx0 cx3
              obtain ⟨b2, o2, m2, hA2, l2, k2, j2, d2⟩ := rowI_col (hRr.each y hxy.out.2.1).1 cx0 cy3
              obtain rfl : m1 = m2 := by omega
              obtain ⟨va, hva⟩ : ∃ va, x.r.getD (colB n) 0 = va := ⟨_, rfl⟩
              obtain ⟨vb, hvb⟩ : ∃ vb, y.r.getD (colB n) 0 = vb := ⟨_, rfl⟩
              rw [hva] at d1
              rw [hvb] at d2
              rw [hva, hvb] at hd
              rw [hA1] at f0
              rw [hA2] at f1
              subst hP1
              have hcm : cmpB (cs.drop m) x.r y.r ≤ 0 := hgr2.out.2
              rw [hd] at hcm
              have hgr2H : Hid (Gr w4 wr2) := hgr2.out.1
              have q1 : (m1 : Int) < (x.r.length : Int) := by omega
              have q2 : (m1 : Int) < (y.r.length : Int) := by omega
              have hcmH : Hid ((va = vb → cmpB (cs.drop (m + 1)) x.r y.r ≤ 0) ∧ (va < vb → 0 < n) ∧ (vb < va → n < 0)) := by
                rcases cmpI_cases va vb with ⟨e, k⟩ | ⟨e, k⟩ | ⟨e, k⟩
                · rw [e, if_neg (by decide)] at hcm
                  refine ⟨fun h => by omega, fun _ => ?_, fun h => by omega⟩
                  rcases sgnB_cases n with ⟨s, t⟩ | ⟨s, t⟩
                  · rw [s] at hcm; omega
                  · omega
                · rw [e, if_pos rfl] at hcm
                  exact ⟨fun _ => hcm, fun h => by omega, fun h => by omega⟩
                · rw [e, if_neg (by decide)] at hcm
                  refine ⟨fun h => by omega, fun h => by omega, fun _ => ?_⟩
                  rcases sgnB_cases n with ⟨s, t⟩ | ⟨s, t⟩
                  · exact t
                  · rw [s] at hcm; omega
              have g0 := (Gr.refl wr2).cellG (a := ⟨b1, o1 + m1, none⟩) l1 d1
              have g1 := (Gr.refl wr2).cellG (a := ⟨b2, o2 + m1, none⟩) l2 d2
              have g2 := (Gr.refl wr2).cellG (a := ⟨rb, ro + i, none⟩) hrb f0
              have g3 := (Gr.refl wr2).cellG (a := ⟨rb, ro + (i + 1), none⟩) hrb f1
              unfold colI at k1
              clear hcc e0 hn hnm hRr hA1 hA2 hva hvb hcm hgr2 hd cx3 cy3 k2
              by_cases hneg : n < 0
              · rw [if_pos hneg] at k1
                have hpos : ¬ 0 < n := by omega
                by_cases hab : va = vb
                · have hnx : Hid (cmpB (cs.drop (m + 1)) x.r y.r ≤ 0) := hcmH.out.1 hab
                  subst hab
                  go_wp2_with fail
                  refine wp_region_quiet_grown mixed (by kernel_rfl) ?_
                  repeat (go_big_quiet_step (fail))
                  refine wpQuiet_nil ?_
                  rintro _ ⟨⟨nq2, osq2⟩, rfl⟩
                  have hg9 : Hid (Gr w4 (grow (wr2.drewN nq2) osq2)) := hgr2H.out.trans ⟨nq2, osq2, rfl⟩
                  go_wp2
                  go_roundw
                  case rel => exact ⟨m + 1, by omega, by go_num, hg9.out, hnx.out⟩
                  case measure => simp [intOf]; omega
                · have habb : (va == vb) = false := by simpa using hab
                  by_cases hlt2 : va < vb
                  · exact absurd (hcmH.out.2.1 hlt2) hpos
                  · have hd1 : decide (va < vb) = false := decide_eq_false hlt2
                    have hd2 : decide (0 < n) = false := decide_eq_false hpos
                    go_wp2_with fail
                    refine wp_region_quiet_grown mixed (by kernel_rfl) ?_
                    repeat (go_big_quiet_step (fail))
                    refine wpQuiet_nil ?_
                    rintro _ ⟨⟨nq2, osq2⟩, rfl⟩
                    have hg9 : Hid (Gr w4 (grow (wr2.drewN nq2) osq2)) := hgr2H.out.trans ⟨nq2, osq2, rfl⟩
                    go_wp2
                    go_roundw
                    case rel => exact ⟨i + 1, by omega, by go_num, hg9⟩
                    case measure => simp [intOf]; omega
              · rw [if_neg hneg] at k1
                have hpos : 0 < n := by omega
                by_cases hab : va = vb
                · have hnx : Hid (cmpB (cs.drop (m + 1)) x.r y.r ≤ 0) := hcmH.out.1 hab
                  subst hab
                  go_wp2_with fail
                  refine wp_region_quiet_grown mixed (by kernel_rfl) ?_
                  repeat (go_big_quiet_step (fail))
                  refine wpQuiet_nil ?_
                  rintro _ ⟨⟨nq2, osq2⟩, rfl⟩
                  have hg9 : Hid (Gr w4 (grow (wr2.drewN nq2) osq2)) := hgr2H.out.trans ⟨nq2, osq2, rfl⟩
                  go_wp2
                  go_roundw
                  case rel => exact ⟨m + 1, by omega, by go_num, hg9.out, hnx.out⟩
                  case measure => simp [intOf]; omega
                · have habb : (va == vb) = false := by simpa using hab
                  by_cases hlt2 : va < vb
                  · have hd1 : decide (va < vb) = true := decide_eq_true hlt2
                    have hd2 : decide (0 < n) = true := decide_eq_true hpos
                    go_wp2_with fail
                    refine wp_region_quiet_grown mixed (by kernel_rfl) ?_
                    repeat (go_big_quiet_step (fail))
                    refine wpQuiet_nil ?_
                    rintro _ ⟨⟨nq2, osq2⟩, rfl⟩
                    have hg9 : Hid (Gr w4 (grow (wr2.drewN nq2) osq2)) := hgr2H.out.trans ⟨nq2, osq2, rfl⟩
                    go_wp2
                    go_roundw
                    case rel => exact ⟨i + 1, by omega, by go_num, hg9⟩
                    case measure => simp [intOf]; omega
                  · exact absurd (hcmH.out.2.2 (by omega)) hneg
            · have hmlz : ¬ (m : Int) < (cs.length : Int) := by omega
              have hgr2H : Hid (Gr w4 wr2) := hgr2.out.1
              go_wp2
              go_roundw
              case rel => exact ⟨i + 1, by omega, by go_num, hgr2H⟩
              case measure => simp [intOf]; omega
        · have hilz : ¬ (i : Int) < (L1.length : Int) - 1 := by omega
          have hfin : Hid (Below w.heap.size w wr1) := hbw4.out.trans (hgr1.out.below.mono hbw4.out.size)
          go_wp2
          go_ret
          exact ⟨rfl, hfin.out⟩
end Go.Proofs.Yteobmedkngdnkaa
