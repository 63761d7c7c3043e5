/-
  query.width: the width of a step behind those whose widths are given.
-/
import Derived.Test.YtoodkgmpggabdaaDoorQWidth
namespace Go.Proofs.YtoodkgmpggabdaaDoor
open Go.RowKit Go.Sort

/-- The width of a step behind those of widths ah; 0, if it may not stand there. -/
def widW (s : Stp) (ah : List Int) : Int := if aloneB s = true then (if s.k = 1 then (if belowB s.a 2 = true then 4 else 0) else if belowB s.a ah.length = true then (if s.k = 4 ∨ s.k = 5 ∨ s.k = 6 then (if belowB s.b ah.length = true then twoW s (ah.getD s.a.toNat 0) (ah.getD s.b.toNat 0) else 0) else oneW s (ah.getD s.a.toNat 0)) else 0) else 0
theorem grD {w w' : World} (h : Gr w w') : ∃ q os', w' = grow (w.drewN q) os' := h
theorem below_nat {n : Int} {m : Nat} (h : belowB n m = true) : ∃ k : Nat, n = k ∧ k < m := by
  simp only [belowB, Bool.and_eq_true, decide_eq_true_eq] at h
  exact ⟨n.toNat, by omega, by omega⟩
theorem getD_in {l : List Int} {k : Nat} (h : k < l.length) : l.getD k 0 = l[k] := by rw [List.getD_eq_getElem?_getD, List.getElem?_eq_getElem h]; rfl

set_option maxRecDepth 100000 in
set_option maxHeartbeats 4000000 in
theorem width_any (s : Stp) (ah : List Int) (A : Option Addr) (ca : Nat) (w : World) (hl : s.l.length ≤ maxLen) (hr : RowI w s.p s.l) (hra : RowI w A ah) (hah : ∀ x ∈ ah, 0 ≤ x ∧ x ≤ 8) :
    Calls Tryd.prog 31 #[.agg #[.int .i64 s.k, .int .i64 s.a, .int .i64 s.b, .int .i64 s.c, .int .i64 s.o, .int .i64 s.v, .slice s.p s.l.length s.n], .slice A ah.length ca] w fun e w' => e = .returned (.int .i64 (widW s ah)) ∧ Gr w w' := by
  have mixed : Tryd.prog.follows .mixedOrders = true := by kernel_rfl
  have hg0 : Gr w (w.alloc (.cells #[.int .i64 s.k, .int .i64 s.a, .int .i64 s.b, .int .i64 s.c, .int .i64 s.o, .int .i64 s.v, .slice s.p s.l.length s.n] 32)) := (Gr.refl w).alloc _
  have hlo := alone_any s (w.alloc (.cells #[.int .i64 s.k, .int .i64 s.a, .int .i64 s.b, .int .i64 s.c, .int .i64 s.o, .int .i64 s.v, .slice s.p s.l.length s.n] 32))
  have hloH : Hid _ := hlo
  have c0 : (w.alloc (.cells #[.int .i64 s.k, .int .i64 s.a, .int .i64 s.b, .int .i64 s.c, .int .i64 s.o, .int .i64 s.v, .slice s.p s.l.length s.n] 32)).cell? ⟨w.heap.size, 0, none⟩ = some (.int .i64 s.k) := box1 (Gr.refl _) rfl
  have c1 : (w.alloc (.cells #[.int .i64 s.k, .int .i64 s.a, .int .i64 s.b, .int .i64 s.c, .int .i64 s.o, .int .i64 s.v, .slice s.p s.l.length s.n] 32)).cell? ⟨w.heap.size, 1, none⟩ = some (.int .i64 s.a) := box1 (Gr.refl _) rfl
  have c2 : (w.alloc (.cells #[.int .i64 s.k, .int .i64 s.a, .int .i64 s.b, .int .i64 s.c, .int .i64 s.o, .int .i64 s.v, .slice s.p s.l.length s.n] 32)).cell? ⟨w.heap.size, 2, none⟩ = some (.int .i64 s.b) := box1 (Gr.refl _) rfl
  have c3 : (w.alloc (.cells #[.int .i64 s.k, .int .i64 s.a, .int .i64 s.b, .int .i64 s.c, .int .i64 s.o, .int .i64 s.v, .slice s.p s.l.length s.n] 32)).cell? ⟨w.heap.size, 3, none⟩ = some (.int .i64 s.c) := box1 (Gr.refl _) rfl
  have c4 : (w.alloc (.cells #[.int .i64 s.k, .int .i64 s.a, .int .i64 s.b, .int .i64 s.c, .int .i64 s.o, .int .i64 s.v, .slice s.p s.l.length s.n] 32)).cell? ⟨w.heap.size, 4, none⟩ = some (.int .i64 s.o) := box1 (Gr.refl _) rfl
  have c5 : (w.alloc (.cells #[.int .i64 s.k, .int .i64 s.a, .int .i64 s.b, .int .i64 s.c, .int .i64 s.o, .int .i64 s.v, .slice s.p s.l.length s.n] 32)).cell? ⟨w.heap.size, 5, none⟩ = some (.int .i64 s.v) := box1 (Gr.refl _) rfl
  have c6 : (w.alloc (.cells #[.int .i64 s.k, .int .i64 s.a, .int .i64 s.b, .int .i64 s.c, .int .i64 s.o, .int .i64 s.v, .slice s.p s.l.length s.n] 32)).cell? ⟨w.heap.size, 6, none⟩ = some (.slice s.p s.l.length s.n) := box1 (Gr.refl _) rfl
  have hrH : Hid (RowI w s.p s.l ∧ s.l.length ≤ maxLen ∧ RowI w A ah ∧ ∀ x ∈ ah, 0 ≤ x ∧ x ≤ 8) := ⟨hr, hl, hra, hah⟩
  clear hlo hr hl hra hah
  go_enter Tryd.func31, Tryd.ntmps31
  go_wp2_with fail
  refine Calls.mono (show Calls _ _ _ _ _ from hloH.out) ?_
  rintro e w1 ⟨rfl, hg1⟩
  clear hloH c0 c1 c2 c3 c4 c5 c6
  have c0 : w1.cell? ⟨w.heap.size, 0, none⟩ = some (.int .i64 s.k) := box1 hg1 rfl
  have c1 : w1.cell? ⟨w.heap.size, 1, none⟩ = some (.int .i64 s.a) := box1 hg1 rfl
  have c2 : w1.cell? ⟨w.heap.size, 2, none⟩ = some (.int .i64 s.b) := box1 hg1 rfl
  have c3 : w1.cell? ⟨w.heap.size, 3, none⟩ = some (.int .i64 s.c) := box1 hg1 rfl
  have c4 : w1.cell? ⟨w.heap.size, 4, none⟩ = some (.int .i64 s.o) := box1 hg1 rfl
  have c5 : w1.cell? ⟨w.heap.size, 5, none⟩ = some (.int .i64 s.v) := box1 hg1 rfl
  have c6 : w1.cell? ⟨w.heap.size, 6, none⟩ = some (.slice s.p s.l.length s.n) := box1 hg1 rfl
  have hgw : Gr w w1 := hg0.trans hg1
  cases hal0 : aloneB s
  · have hfin : Hid (widW s ah = 0) := by show _ = _; unfold widW; rw [if_neg (by rw [hal0]; simp)]
    go_wp2
    go_ret
    exact ⟨by rw [hfin.out]; rfl, hgw⟩
  have hun : Hid (widW s ah = if s.k = 1 then (if belowB s.a 2 = true then 4 else 0) else if belowB s.a ah.length = true then (if s.k = 4 ∨ s.k = 5 ∨ s.k = 6 then (if belowB s.b ah.length = true then twoW s (ah.getD s.a.toNat 0) (ah.getD s.b.toNat 0) else 0) else oneW s (ah.getD s.a.toNat 0)) else 0) := by show _ = _; unfold widW; rw [if_pos hal0]
  by_cases hk : s.k = 1
  · have e0 : w1.cell? ⟨w.heap.size, 0, none⟩ = some (.int .i64 1) := by rw [← hk]; exact c0
    clear c0
    cases hb : belowB s.a 2
    · have hfin : Hid (widW s ah = 0) := by show _ = _; rw [hun.out, if_pos hk, if_neg (by rw [hb]; simp)]
      have hzH : Hid (Calls Tryd.prog 46 #[.int .i64 s.a, .int .i64 2] w1 fun e w' => e = .returned (.bool false) ∧ w' = w1) := below_g hb w1
      clear hk
      go_wp2_with (go_at_call 46; (with_reducible refine Calls.mono hzH.out ?_); rintro e w' ⟨rfl, hw'⟩; subst w')
      go_ret
      exact ⟨by rw [hfin.out]; rfl, hgw⟩
    · have hfin : Hid (widW s ah = 4) := by show _ = _; rw [hun.out, if_pos hk, if_pos hb]
      have hzH : Hid (Calls Tryd.prog 46 #[.int .i64 s.a, .int .i64 2] w1 fun e w' => e = .returned (.bool true) ∧ w' = w1) := below_g hb w1
      clear hk
      go_wp2_with (go_at_call 46; (with_reducible refine Calls.mono hzH.out ?_); rintro e w' ⟨rfl, hw'⟩; subst w')
      go_ret
      exact ⟨by rw [hfin.out]; rfl, hgw⟩
  have hkb : (s.k == 1) = false := by simpa using hk
  cases hb : belowB s.a ah.length
  · have hfin : Hid (widW s ah = 0) := by show _ = _; rw [hun.out, if_neg hk, if_neg (by rw [hb]; simp)]
    have hzH : Hid (Calls Tryd.prog 46 #[.int .i64 s.a, .int .i64 ah.length] w1 fun e w' => e = .returned (.bool false) ∧ w' = w1) := below_g hb w1
    clear hk
    go_wp2_with (go_at_call 46; (with_reducible refine Calls.mono hzH.out ?_); rintro e w' ⟨rfl, hw'⟩; subst w')
    go_ret
    exact ⟨by rw [hfin.out]; rfl, hgw⟩
  have hzH : Hid (Calls Tryd.prog 46 #[.int .i64 s.a, .int .i64 ah.length] w1 fun e w' => e = .returned (.bool true) ∧ w' = w1) := below_g hb w1
  obtain ⟨ka, hka, hkal⟩ := below_nat hb
  have hra1 : RowI w1 A ah := hrH.out.2.2.1.gr hgw
  obtain ⟨ba, oa, rfl, hba, hca⟩ := hra1.at hkal
  obtain ⟨xa, hxa⟩ : ∃ x, ah[ka] = x := ⟨_, rfl⟩
  have ea0 := hca ka hkal 0 (by omega)
  rw [hxa] at ea0
  have ea : w1.cell? ⟨ba, oa + ka, none⟩ = some (.int .i64 xa) := by simpa [encI] using ea0
  have hga : Hid (ah.getD s.a.toNat 0 = xa ∧ 0 ≤ xa ∧ xa ≤ 8) := by
    refine ⟨?_, hrH.out.2.2.2 xa (by rw [← hxa]; exact List.getElem_mem hkal)⟩
    rw [hka, Int.toNat_natCast, getD_in hkal, hxa]
  have hkaz : (ka : Int) < (ah.length : Int) := by omega
  have d1 : w1.cell? ⟨w.heap.size, 1, none⟩ = some (.int .i64 (ka : Int)) := by rw [← hka]; exact c1
  rw [hka] at hzH
  clear ea0 hxa c1
  by_cases hk2 : s.k = 4 ∨ s.k = 5 ∨ s.k = 6
  · cases hb2 : belowB s.b ah.length
    · have hfin : Hid (widW s ah = 0) := by show _ = _; rw [hun.out, if_neg hk, if_pos hb, if_pos hk2, if_neg (by rw [hb2]; simp)]
      have hyH : Hid (Calls Tryd.prog 46 #[.int .i64 s.b, .int .i64 ah.length] w1 fun e w' => e = .returned (.bool false) ∧ w' = w1) := below_g hb2 w1
      clear hk hka hb hca hra1
      rcases hk2 with k4 | k4 | k4
      all_goals
        rw [k4] at c0
        clear k4 hkb
        go_wp2_with (first | (go_at_call 46; (with_reducible refine Calls.mono hzH.out ?_); rintro e w' ⟨rfl, hw'⟩; subst w') | (go_at_call 46; (with_reducible refine Calls.mono hyH.out ?_); rintro e w' ⟨rfl, hw'⟩; subst w'))
        go_ret
        exact ⟨by rw [hfin.out]; rfl, hgw⟩
    · have hyH0 : Calls Tryd.prog 46 #[.int .i64 s.b, .int .i64 ah.length] w1 fun e w' => e = .returned (.bool true) ∧ w' = w1 := below_g hb2 w1
      obtain ⟨kb, hkb2, hkbl⟩ := below_nat hb2
      obtain ⟨xb, hxb⟩ : ∃ x, ah[kb] = x := ⟨_, rfl⟩
      have eb0 := hca kb hkbl 0 (by omega)
      rw [hxb] at eb0
      have eb : w1.cell? ⟨ba, oa + kb, none⟩ = some (.int .i64 xb) := by simpa [encI] using eb0
      have hgb : Hid (ah.getD s.b.toNat 0 = xb ∧ 0 ≤ xb ∧ xb ≤ 8) := by
        refine ⟨?_, hrH.out.2.2.2 xb (by rw [← hxb]; exact List.getElem_mem hkbl)⟩
        rw [hkb2, Int.toNat_natCast, getD_in hkbl, hxb]
      have hkbz : (kb : Int) < (ah.length : Int) := by omega
      have d2 : w1.cell? ⟨w.heap.size, 2, none⟩ = some (.int .i64 (kb : Int)) := by rw [← hkb2]; exact c2
      rw [hkb2] at hyH0
      have hyH : Hid (Calls Tryd.prog 46 #[.int .i64 (kb : Int), .int .i64 ah.length] w1 fun e w' => e = .returned (.bool true) ∧ w' = w1) := hyH0
      have hfin : Hid (widW s ah = twoW s xa xb) := by show _ = _; rw [hun.out, if_neg hk, if_pos hb, if_pos hk2, if_pos hb2, hga.out.1, hgb.out.1]
      have htw : ∀ n os, Calls Tryd.prog 47 #[.agg #[.int .i64 s.k, .int .i64 s.a, .int .i64 s.b, .int .i64 s.c, .int .i64 s.o, .int .i64 s.v, .slice s.p s.l.length s.n], .int .i64 xa, .int .i64 xb] (grow (w1.drewN n) os) fun e w' => e = .returned (.int .i64 (twoW s xa xb)) ∧ ∃ q os', w' = grow ((grow (w1.drewN n) os).drewN q) os' := fun n os => (twoW_any s xa xb _ hga.out.2 hgb.out.2).mono fun e w' h => ⟨h.1, grD h.2⟩
      rw [hka, hkb2] at htw
      have gb := (Gr.refl w1).cellG (a := ⟨ba, oa + kb, none⟩) hba eb
      have xlt : w.heap.size < w1.heap.size := World.block_lt_of_cell? w1 ⟨w.heap.size, 0, none⟩ c0
      have g0 := (Gr.refl w1).cellG (a := ⟨w.heap.size, 0, none⟩) xlt c0
      have g1 := (Gr.refl w1).cellG (a := ⟨w.heap.size, 1, none⟩) xlt d1
      have g2 := (Gr.refl w1).cellG (a := ⟨w.heap.size, 2, none⟩) xlt d2
      have g3 := (Gr.refl w1).cellG (a := ⟨w.heap.size, 3, none⟩) xlt c3
      have g4 := (Gr.refl w1).cellG (a := ⟨w.heap.size, 4, none⟩) xlt c4
      have g5 := (Gr.refl w1).cellG (a := ⟨w.heap.size, 5, none⟩) xlt c5
      have g6 := (Gr.refl w1).cellG (a := ⟨w.heap.size, 6, none⟩) xlt c6
      have ga := (Gr.refl w1).cellG (a := ⟨ba, oa + ka, none⟩) hba ea
      clear hk hb hca hra1 eb0 hxb c2 hyH0 hb2
      rcases hk2 with k4 | k4 | k4
      all_goals
        rw [k4] at c0 htw g0
        have htwH : Hid (∀ n os, Calls Tryd.prog 47 _ (grow (w1.drewN n) os) _) := htw
        clear k4 hkb htw
        go_wp2_with (first | (go_at_call 46; (with_reducible refine Calls.mono hzH.out ?_); rintro e w' ⟨rfl, hw'⟩; subst w') | (go_at_call 46; (with_reducible refine Calls.mono hyH.out ?_); rintro e w' ⟨rfl, hw'⟩; subst w'))
        refine wp_region_quiet_grown mixed (by kernel_rfl) ?_
        repeat (go_big_quiet_step ((go_at_call 47; refine Calls.grown_of (htwH.out _ _))))
        refine wpQuiet_nil ?_
        rintro _ ⟨⟨nq2, osq2⟩, rfl⟩
        go_wp2
        go_ret
        exact ⟨by rw [hfin.out]; rfl, hgw.trans ⟨nq2, osq2, rfl⟩⟩
  · have hfin : Hid (widW s ah = oneW s xa) := by show _ = _; rw [hun.out, if_neg hk, if_pos hb, if_neg hk2, hga.out.1]
    have how : ∀ n os, Calls Tryd.prog 48 #[.agg #[.int .i64 s.k, .int .i64 s.a, .int .i64 s.b, .int .i64 s.c, .int .i64 s.o, .int .i64 s.v, .slice s.p s.l.length s.n], .int .i64 xa] (grow (w1.drewN n) os) fun e w' => e = .returned (.int .i64 (oneW s xa)) ∧ ∃ q os', w' = grow ((grow (w1.drewN n) os).drewN q) os' := fun n os => (oneW_any s xa _ hrH.out.2.1 (hrH.out.1.gr (hgw.trans ⟨n, os, rfl⟩))).mono fun e w' h => ⟨h.1, grD h.2⟩
    rw [hka] at how
    have howH : Hid (∀ n os, Calls Tryd.prog 48 _ (grow (w1.drewN n) os) _) := how
    have q4 : (s.k == 4) = false := by simp; omega
    have q5 : (s.k == 5) = false := by simp; omega
    have q6 : (s.k == 6) = false := by simp; omega
    have xlt : w.heap.size < w1.heap.size := World.block_lt_of_cell? w1 ⟨w.heap.size, 0, none⟩ c0
    have g0 := (Gr.refl w1).cellG (a := ⟨w.heap.size, 0, none⟩) xlt c0
    have g1 := (Gr.refl w1).cellG (a := ⟨w.heap.size, 1, none⟩) xlt d1
    have g2 := (Gr.refl w1).cellG (a := ⟨w.heap.size, 2, none⟩) xlt c2
    have g3 := (Gr.refl w1).cellG (a := ⟨w.heap.size, 3, none⟩) xlt c3
    have g4 := (Gr.refl w1).cellG (a := ⟨w.heap.size, 4, none⟩) xlt c4
    have g5 := (Gr.refl w1).cellG (a := ⟨w.heap.size, 5, none⟩) xlt c5
    have g6 := (Gr.refl w1).cellG (a := ⟨w.heap.size, 6, none⟩) xlt c6
    have ga := (Gr.refl w1).cellG (a := ⟨ba, oa + ka, none⟩) hba ea
    clear hk hb hca hra1 how hk2
    go_wp2_with (go_at_call 46; (with_reducible refine Calls.mono hzH.out ?_); rintro e w' ⟨rfl, hw'⟩; subst w')
    refine wp_region_quiet_grown mixed (by kernel_rfl) ?_
    repeat (go_big_quiet_step ((go_at_call 48; refine Calls.grown_of (howH.out _ _))))
    refine wpQuiet_nil ?_
    rintro _ ⟨⟨nq2, osq2⟩, rfl⟩
    go_wp2
    go_ret
    exact ⟨by rw [hfin.out]; rfl, hgw.trans ⟨nq2, osq2, rfl⟩⟩

end Go.Proofs.YtoodkgmpggabdaaDoor
