/-
  viewlaw.RankSays: the law.
-/
import Derived.Test.YteobmedkngdnkaaDoorNRanked
import Derived.Test.YteobmedkngdnkaaDoorNText2
import Derived.Test.YteobmedkngdnkaaDoorKNSorts
namespace Go.Proofs.YteobmedkngdnkaaDoor
open Go.RowKit Go.Sort

theorem rnk_short {l : List Zit} {cs : List Int} {most : Int} {L : List Itm} (h : L.map Itm.r = rnkL l cs most) : Short L := by
  by_cases h0 : rnkE l cs most = 0
  · obtain ⟨p1, p2, p3, p4⟩ := rnkE_parts h0
    simp only [inB, Bool.and_eq_true, decide_eq_true_eq] at p4
    have e2 : rnkL l cs most = (rowsB cs l).take most.toNat := by unfold rnkL; rw [if_pos h0]
    refine ⟨?_, fun x hx => ?_⟩
    · have := congrArg List.length h
      rw [List.length_map, e2, List.length_take] at this
      omega
    · have hm : x.r ∈ rnkL l cs most := by rw [← h]; exact List.mem_map.2 ⟨x, hx, rfl⟩
      obtain ⟨z, hz, e⟩ := rnk_mem hm
      have h6 := errZ_wide p1 z hz
      have h7 := (okZ_parts (((errZ_iff l).1 p1).2.1 z hz)).1
      rw [← e]
      refine ⟨h6, fun n hn => ?_⟩
      simp only [okR, Bool.and_eq_true, decide_eq_true_eq] at h7
      have := List.all_eq_true.1 h7.2 n hn
      simp only [okN, inB, Bool.and_eq_true, decide_eq_true_eq] at this
      exact ⟨by omega, by omega⟩
  · rw [rnk_bad h0] at h
    obtain rfl := List.map_eq_nil_iff.1 h
    exact ⟨by simp, fun x hx => by cases hx⟩

set_option maxRecDepth 100000 in
set_option maxHeartbeats 2000000 in
theorem rsays_any (l : List Itm) (A : Option Addr) (cap : Nat) (cs : List Int) (CA : Option Addr) (cc : Nat) (most : Int) (w : World) (h : Lv w A cap l) (hc : RowI w CA cs) (hcl : cs.length ≤ maxLen) (ht : Tens w) :
    Calls Tryd.prog 3 #[.slice A l.length cap, .slice CA cs.length cc, .int .i64 most] w fun e w' => e = .returned (.bool true) ∧ Below w.heap.size w w' := by
  have hH : Hid (Lv w A cap l ∧ RowI w CA cs ∧ cs.length ≤ maxLen ∧ Tens w) := ⟨h, hc, hcl, ht⟩
  obtain ⟨E, hE⟩ : ∃ E, rnkE (l.map Itm.z) cs most = E := ⟨_, rfl⟩
  have hA0 := rows_any l A cap cs CA cc most w h hc hcl
  rw [hE] at hA0
  have hA : Hid _ := hA0
  have hEH : Hid (rnkE (l.map Itm.z) cs most = E) := hE
  clear hA0 hE h hc hcl ht
  go_enter Tryd.func3, Tryd.ntmps3
  go_wp2_with fail
  refine Calls.mono (show Calls _ _ _ _ _ from hA.out) ?_
  rintro e w1 ⟨v1, rfl, r1, b1⟩
  obtain ⟨L1, o1, z1⟩ := r1.has
  obtain ⟨P1, c1, rfl, n1, R1⟩ := o1.read
  have h1 : Hid (RwR w1 P1 L1 ∧ L1.map Itm.r = rnkL (l.map Itm.z) cs most ∧ Below w.heap.size w w1) := ⟨R1, z1, b1⟩
  have hB0 := ranked_any l A cap cs CA cc most w1 (hH.out.1.below b1) (hH.out.2.1.below b1) hH.out.2.2.1
  rw [hEH.out] at hB0
  have hB : Hid _ := hB0
  clear hB0 hA r1 b1 o1 z1 n1 R1
  go_wp2_with fail
  refine Calls.mono (show Calls _ _ _ _ _ from hB.out) ?_
  rintro e w2 ⟨L2, P2, c2, rfl, R2, z2, b2⟩
  have h2 : Hid (RwR w2 P1 L1 ∧ RwR w2 P2 L2 ∧ L1.map Itm.r = L2.map Itm.r ∧ Short L1 ∧ Short L2 ∧ Below w.heap.size w w2) := ⟨h1.out.1.below b2, R2, by rw [h1.out.2.1, z2], rnk_short h1.out.2.1, rnk_short z2, h1.out.2.2.trans (b2.mono h1.out.2.2.size)⟩
  clear hB R2 z2 b2 h1
  have hQ0 := eqRows_any L1 L2 P1 P2 c1 c2 w2 (by have := h2.out.2.2.2.1.1; omega) h2.out.1 h2.out.2.1 h2.out.2.2.1
  have hQ : Hid _ := hQ0
  have hEE : (E == E) = true := by simp
  clear hQ0
  obtain ⟨S, hS⟩ : ∃ S : ByteArray, S = ⟨(rowsTo (L1.map Itm.r) L1.length).toArray⟩ := ⟨_, rfl⟩
  have hP : Hid (∀ W, Gr w2 W → Calls Tryd.prog 9 #[.slice P1 L1.length c1] W fun e w' => e = .returned (.string S) ∧ Below W.heap.size W w') := fun W h => by
    rw [hS]
    exact printN_any L1 P1 c1 W h2.out.2.2.2.1 (h2.out.1.gr h) ((hH.out.2.2.2.below h2.out.2.2.2.2.2).gr h)
  have hT : Hid (∀ W, Below w2.heap.size w2 W → Calls Tryd.prog 10 #[.slice P2 L2.length c2] W fun e w' => e = .returned (.string S) ∧ Gr W w') := fun W h => by
    have e : S = ⟨(rowsTo (L2.map Itm.r) L2.length).toArray⟩ := by
      have hl : L1.length = L2.length := by have := congrArg List.length h2.out.2.2.1; simpa using this
      rw [hS, h2.out.2.2.1, hl]
    rw [e]
    exact rowsText_any L2 P2 c2 W h2.out.2.2.2.2.1 (h2.out.2.1.below h) ((hH.out.2.2.2.below h2.out.2.2.2.2.2).below h)
  clear hS
  go_wp2_with fail
  refine Calls.mono (show Calls _ _ _ _ _ from hQ.out) ?_
  rintro e w3 ⟨rfl, hg3⟩
  have hg3H : Hid (Gr w2 w3) := hg3
  clear hQ hg3
  go_wp2_with fail
  refine Calls.mono (show Calls _ _ _ _ _ from hP.out w3 hg3H.out) ?_
  rintro e w4 ⟨rfl, hb4⟩
  have hb4H : Hid (Below w2.heap.size w2 w4) := hg3H.out.below.trans (hb4.mono hg3H.out.size)
  clear hb4
  go_wp2_with fail
  refine Calls.mono (show Calls _ _ _ _ _ from hT.out w4 hb4H.out) ?_
  rintro e w5 ⟨rfl, hg5⟩
  have hfin : Hid (Below w.heap.size w w5) := by
    have h5 := hb4H.out.trans (hg5.below.mono hb4H.out.size)
    exact h2.out.2.2.2.2.2.trans (h5.mono h2.out.2.2.2.2.2.size)
  clear hg5
  go_wp2
  go_ret
  exact ⟨by simp, hfin.out⟩
end Go.Proofs.YteobmedkngdnkaaDoor
