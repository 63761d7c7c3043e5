/-
  The law StableMeets: what all have each has; with one more there is no more; with one alone it is that one.
-/
import Derived.Test.YtknjeajdiibafaaSClone
import Derived.Test.YtknjeajdiibafaaLatMath
import Derived.Test.YtknjeajdiibafaaMissMath
import Derived.Deep.Cut
import Derived.Deep.RegionHeld3
namespace Go.Proofs.Ytknjeajdiibafaa
open Go.RowKit Go.Sort

/-- '!=' on two clocks. -/
theorem neqClk (a b c d a' b' c' d' : Int) (w : World) : (binOp .neq 22 (.agg #[.int .i64 a, .int .i64 b, .int .i64 c, .int .i64 d]) (.agg #[.int .i64 a', .int .i64 b', .int .i64 c', .int .i64 d'])).run Try.prog w = .ok (.bool (!clkEq a b c d a' b' c' d')) w := by
  unfold clkEq
  obtain ⟨i0, hi, hz0, hz1, hz2⟩ := info_parts Try.info3
  have u3 := Try.underlying3
  have a3 := Try.isAgg3
  have z3 := Try.sizeOf3
  have c3 : Try.prog.cellsOf 3 = 1 := by kernel_rfl
  rw [run_neq_struct, show (10000 : Nat) = 9998 + 1 + 1 from rfl, run_equalIn_array w (9998 + 1) _ _ Try.underlying22 hi, c3]
  simp only [show List.range 4 = [0, 1, 2, 3] from rfl, Op.eqItems]
  go_simp
  by_cases h1 : a = a' <;> by_cases h2 : b = b' <;> by_cases h3 : c = c' <;> by_cases h4 : d = d' <;> simp [h1, h2, h3, h4]

theorem szD (W : World) : W.drew.heap.size = W.heap.size := rfl
theorem szA (W : World) (o : Obj) : (W.alloc o).heap.size = W.heap.size + 1 := by simp
/-- The two contexts of the first check. -/
def litX (b : Nat) : List Cx := [⟨⟨3, 1, 0, 0, []⟩, none, 0⟩, ⟨⟨2, 0, 0, 0, [(1, 2)]⟩, some ⟨b, 0, none⟩, 1⟩]
theorem lit_meet (b : Nat) : meetE (litX b) = 0 ∧ meetC (litX b) = ⟨2, 0, 0, 0, []⟩ := ⟨rfl, rfl⟩
theorem meetE_ok {l : List Cx} (h : meetE l = 0) : errX l = 0 ∧ meetC l = meetF l ∧ Can (meetC l) ∧ errC (meetC l) = 0 ∧ ∀ x, hasB (meetC l) x = allB l x := by
  have hx : errX l = 0 := by
    by_cases hx : errX l = 0
    · exact hx
    · rw [(meet_bad hx).1] at h; exact absurd h hx
  have hc : meetC l = meetF l := by unfold meetC; rw [if_pos h]
  have hcan : Can (meetC l) := by rw [hc]; exact meetF_can hx
  refine ⟨hx, hc, hcan, err_of_can hcan (meetC_len l), fun x => ?_⟩
  have := meetF_has hx x
  rw [← hc] at this
  cases h1 : allB l x
  · cases h2 : hasB (meetC l) x
    · rfl
    · rw [this.1 h2] at h1; cases h1
  · exact this.2 h1
theorem meet_less {l : List Cx} {y : Cx} (h : meetE l = 0) (g : meetE (l ++ [y]) = 0) : lessR (meetC (l ++ [y])) (meetC l) = true ∧ errB (meetC (l ++ [y])) (meetC l) = 0 := by
  have h1 := meetE_ok h
  have h2 := meetE_ok g
  have he : errB (meetC (l ++ [y])) (meetC l) = 0 := by unfold errB; rw [if_pos h2.2.2.2.1]; exact h1.2.2.2.1
  refine ⟨?_, he⟩
  unfold lessR
  rw [if_pos he, less_iff h2.2.2.1 h1.2.2.1]
  intro x hx
  rw [h2.2.2.2.2 x] at hx
  rw [h1.2.2.2.2 x]
  exact allB_iff.2 fun z hz => allB_iff.1 hx z (List.mem_append_left _ hz)
theorem meet_one (y : Cx) : meetE [y] = errC y.c ∧ (errC y.c = 0 → meetC [y] = y.c) := by
  have hx : errX [y] = errC y.c := by
    unfold errX errF errF
    rw [if_neg (by simp)]
    by_cases h : errC y.c = 0
    · rw [if_neg (by simp [h]), h]
    · rw [if_pos h]
  by_cases h : errC y.c = 0
  · have hx0 : errX [y] = 0 := hx.trans h
    have hF : meetF [y] = y.c := can_eq (meetF_can hx0) (can_of_err h) fun x => by
      rw [meetF_has hx0 x]
      unfold allB
      simp
    have hl : ¬ 400 < (meetF [y]).l.length := by rw [hF]; have := (errC_parts h).2.1; omega
    have := meet_ok hx0 hl
    exact ⟨this.1.trans h.symm, fun _ => this.2.trans hF⟩
  · have hne : errX [y] ≠ 0 := by rw [hx]; exact h
    exact ⟨(meet_bad hne).1.trans hx, fun h0 => absurd h0 h⟩

set_option maxRecDepth 100000 in
set_option maxHeartbeats 16000000 in
theorem stableMeets_any (l : List Cx) (L : Option Addr) (lc : Nat) (c : Ctx) (A : Option Addr) (ca : Nat) (d : Int × Int) (w : World) (hsz : l.length * 56 ≤ 140737488351232) (hLn : L = none → lc = 0) (hlr : Cxs w L l) (hcl : c.l.length ≤ maxLen) (hcn : A = none → ca = 0) (hcr : Row w A c.l) :
    Calls Try.prog 4 #[.slice L l.length lc, .agg #[.int .i64 c.c0, .int .i64 c.c1, .int .i64 c.c2, .int .i64 c.c3, .slice A c.l.length ca], .agg #[.int .i64 d.1, .int .i64 d.2]] w fun e w' => e = .returned (.bool true) ∧ Below w.heap.size w w' := by
  have mixed : Try.prog.follows .mixedOrders = true := by kernel_rfl
  have hN := neqClk
  have hG := guardClk
  have hlm : Hid (l.length ≤ maxLen) := by show _ ≤ _; unfold maxLen; omega
  obtain ⟨cx, hcx⟩ : ∃ cx : Cx, cx = ⟨c, A, ca⟩ := ⟨_, rfl⟩
  obtain ⟨l2, hl2⟩ : ∃ l2 : List Cx, l2 = l ++ [cx] := ⟨_, rfl⟩
  have hl2H : Hid (l2 = l ++ [cx]) := hl2
  clear hl2
  have hH : Hid (Cxs w L l ∧ (L = none → lc = 0) ∧ Row w A c.l ∧ c.l.length ≤ maxLen ∧ (A = none → ca = 0) ∧ cx = ⟨c, A, ca⟩ ∧ l.length * 56 ≤ 140737488351232) := ⟨hlr, hLn, hcr, hcl, hcn, hcx, hsz⟩
  have hC0 : CtxAt (w.alloc (.cells #[.int .i64 c.c0, .int .i64 c.c1, .int .i64 c.c2, .int .i64 c.c3, .slice A c.l.length ca] 25)) w.heap.size c A ca := CtxAt.new 25 hcr rfl
  have hgX : Gr (w.alloc (.cells #[.int .i64 c.c0, .int .i64 c.c1, .int .i64 c.c2, .int .i64 c.c3, .slice A c.l.length ca] 25)) ((((w.alloc (.cells #[.int .i64 c.c0, .int .i64 c.c1, .int .i64 c.c2, .int .i64 c.c3, .slice A c.l.length ca] 25)).alloc (.cells #[.int .i64 d.1, .int .i64 d.2] 35)).alloc (.cells #[.int .i64 1, .int .i64 2] 35)).alloc (.cells #[.int .i64 3, .int .i64 1, .int .i64 0, .int .i64 0, .slice none 0 0, .int .i64 2, .int .i64 0, .int .i64 0, .int .i64 0, .slice (some ⟨w.heap.size + 1 + 1, 0, none⟩) 1 1] 25)) := (((Gr.refl _).alloc _).alloc _).alloc _
  have hD0 : DotAt ((w.alloc (.cells #[.int .i64 c.c0, .int .i64 c.c1, .int .i64 c.c2, .int .i64 c.c3, .slice A c.l.length ca] 25)).alloc (.cells #[.int .i64 d.1, .int .i64 d.2] 35)) (w.heap.size + 1) d.1 d.2 := DotAt.new 35 (by simp)
  have hD1 : DotAt ((((w.alloc (.cells #[.int .i64 c.c0, .int .i64 c.c1, .int .i64 c.c2, .int .i64 c.c3, .slice A c.l.length ca] 25)).alloc (.cells #[.int .i64 d.1, .int .i64 d.2] 35)).alloc (.cells #[.int .i64 1, .int .i64 2] 35)).alloc (.cells #[.int .i64 3, .int .i64 1, .int .i64 0, .int .i64 0, .slice none 0 0, .int .i64 2, .int .i64 0, .int .i64 0, .int .i64 0, .slice (some ⟨w.heap.size + 1 + 1, 0, none⟩) 1 1] 25)) (w.heap.size + 1) d.1 d.2 := hD0.gr (((Gr.refl _).alloc _).alloc _)
  have hC1 := hC0.gr hgX
  have hg1 : Gr w ((((w.alloc (.cells #[.int .i64 c.c0, .int .i64 c.c1, .int .i64 c.c2, .int .i64 c.c3, .slice A c.l.length ca] 25)).alloc (.cells #[.int .i64 d.1, .int .i64 d.2] 35)).alloc (.cells #[.int .i64 1, .int .i64 2] 35)).alloc (.cells #[.int .i64 3, .int .i64 1, .int .i64 0, .int .i64 0, .slice none 0 0, .int .i64 2, .int .i64 0, .int .i64 0, .int .i64 0, .slice (some ⟨w.heap.size + 1 + 1, 0, none⟩) 1 1] 25)) := ((Gr.refl w).alloc _).trans hgX
  have hlit : Cxs ((((w.alloc (.cells #[.int .i64 c.c0, .int .i64 c.c1, .int .i64 c.c2, .int .i64 c.c3, .slice A c.l.length ca] 25)).alloc (.cells #[.int .i64 d.1, .int .i64 d.2] 35)).alloc (.cells #[.int .i64 1, .int .i64 2] 35)).alloc (.cells #[.int .i64 3, .int .i64 1, .int .i64 0, .int .i64 0, .slice none 0 0, .int .i64 2, .int .i64 0, .int .i64 0, .int .i64 0, .slice (some ⟨w.heap.size + 1 + 1, 0, none⟩) 1 1] 25)) (some ⟨w.heap.size + 1 + 1 + 1, 0, none⟩) (litX (w.heap.size + 1 + 1)) := by
    have hrd : Row (((w.alloc (.cells #[.int .i64 c.c0, .int .i64 c.c1, .int .i64 c.c2, .int .i64 c.c3, .slice A c.l.length ca] 25)).alloc (.cells #[.int .i64 d.1, .int .i64 d.2] 35)).alloc (.cells #[.int .i64 1, .int .i64 2] 35)) (some ⟨w.heap.size + 1 + 1, 0, none⟩) [(1, 2)] := rowNew (by simp) 1 2 _
    have hb := fun (j : Nat) (v : Value) (hv : _ = some v) => box1 (w := ((w.alloc (.cells #[.int .i64 c.c0, .int .i64 c.c1, .int .i64 c.c2, .int .i64 c.c3, .slice A c.l.length ca] 25)).alloc (.cells #[.int .i64 d.1, .int .i64 d.2] 35)).alloc (.cells #[.int .i64 1, .int .i64 2] 35)) (C1 := #[.int .i64 3, .int .i64 1, .int .i64 0, .int .i64 0, .slice none 0 0, .int .i64 2, .int .i64 0, .int .i64 0, .int .i64 0, .slice (some ⟨w.heap.size + 1 + 1, 0, none⟩) 1 1]) (T1 := 25) (Gr.refl _) (j := j) (v := v) hv
    have hsz3 : (((w.alloc (.cells #[.int .i64 c.c0, .int .i64 c.c1, .int .i64 c.c2, .int .i64 c.c3, .slice A c.l.length ca] 25)).alloc (.cells #[.int .i64 d.1, .int .i64 d.2] 35)).alloc (.cells #[.int .i64 1, .int .i64 2] 35)).heap.size = w.heap.size + 1 + 1 + 1 := by simp
    rw [hsz3] at hb
    refine ⟨Or.inr ⟨w.heap.size + 1 + 1 + 1, 0, rfl, by simp, fun j hj i hi => ?_⟩, fun x hx => ?_⟩
    · match j, hj, i, hi with
      | 0, _, 0, _ => exact hb 0 _ rfl
      | 0, _, 1, _ => exact hb 1 _ rfl
      | 0, _, 2, _ => exact hb 2 _ rfl
      | 0, _, 3, _ => exact hb 3 _ rfl
      | 0, _, 4, _ => exact hb 4 _ rfl
      | 1, _, 0, _ => exact hb 5 _ rfl
      | 1, _, 1, _ => exact hb 6 _ rfl
      | 1, _, 2, _ => exact hb 7 _ rfl
      | 1, _, 3, _ => exact hb 8 _ rfl
      | 1, _, 4, _ => exact hb 9 _ rfl
    · simp only [litX, List.mem_cons, List.not_mem_nil, or_false] at hx
      rcases hx with rfl | rfl
      · exact ⟨Or.inl rfl, by simp, fun _ => rfl⟩
      · exact ⟨hrd.gr ((Gr.refl _).alloc _), by unfold maxLen; simp, fun h => by cases h⟩
  have hm0 := meet_any (litX (w.heap.size + 1 + 1)) (some ⟨w.heap.size + 1 + 1 + 1, 0, none⟩) 2 _ (by unfold maxLen; simp [litX]) hlit
  rw [(lit_meet _).1, (lit_meet _).2] at hm0
  simp only [List.length_nil, show (litX (w.heap.size + 1 + 1)).length = 2 from rfl] at hm0
  have hm0H : Hid _ := hm0
  clear hm0 hlit hD0 hC0 hgX hlr hLn hcr hcl hcn hcx hsz
  go_enter Try.func4, Try.ntmps4
  go_wp2_with fail
  refine Calls.mono (show Calls _ _ _ _ _ from hm0H.out) ?_
  rintro e w1 ⟨C0, cp0, rfl, hrow0, _, _, hb1⟩
  clear hm0H
  have hC2 := hC1.below hb1
  have hD2 := hD1.below hb1
  have hbw : Hid (Below w.heap.size w w1) := hg1.below.trans (hb1.mono hg1.size)
  clear hC1 hD1 hg1 hb1
  have hC3 := hC2.gr ((Gr.refl w1).alloc (.cells #[.int .i64 2, .int .i64 0, .int .i64 0, .int .i64 0, .slice C0 0 cp0] 25))
  have hD3 := hD2.gr ((Gr.refl w1).alloc (.cells #[.int .i64 2, .int .i64 0, .int .i64 0, .int .i64 0, .slice C0 0 cp0] 25))
  have hbw3 : Hid (Below w.heap.size w (w1.alloc (.cells #[.int .i64 2, .int .i64 0, .int .i64 0, .int .i64 0, .slice C0 0 cp0] 25))) := hbw.out.alloc hbw.out.size _
  have hbx := Gr.refl (w1.alloc (.cells #[.int .i64 2, .int .i64 0, .int .i64 0, .int .i64 0, .slice C0 0 cp0] 25))
  have s0 := box1 hbx (j := 0) rfl
  have s1 := box1 hbx (j := 1) rfl
  have s2 := box1 hbx (j := 2) rfl
  have s3 := box1 hbx (j := 3) rfl
  have hq : clkEq 2 0 0 0 2 0 0 0 = true := by decide
  have hm1 := meet_any l L lc (w1.alloc (.cells #[.int .i64 2, .int .i64 0, .int .i64 0, .int .i64 0, .slice C0 0 cp0] 25)) hlm.out (hH.out.1.below hbw3.out)
  have hm1H : Hid _ := hm1
  clear hm1 hC2 hD2 hbx hrow0 hbw
  go_wp2_with fail
  refine Calls.mono (show Calls _ _ _ _ _ from hm1H.out) ?_
  rintro e w2 ⟨C, cp, rfl, hrow, _, _, hb2⟩
  clear hm1H s0 s1 s2 s3 hq
  obtain ⟨x, hx⟩ : ∃ x, meetC l = x := ⟨_, rfl⟩
  obtain ⟨ex, hex⟩ : ∃ e, meetE l = e := ⟨_, rfl⟩
  rw [hx] at hrow
  have hxH : Hid (meetC l = x ∧ meetE l = ex) := ⟨hx, hex⟩
  rw [hx, hex]
  clear hx hex
  have hgx : Gr w2 (w2.alloc (.cells #[.int .i64 x.c0, .int .i64 x.c1, .int .i64 x.c2, .int .i64 x.c3, .slice C x.l.length cp] 25)) := (Gr.refl _).alloc _
  have hC4 := (hC3.below hb2).gr hgx
  have hD4 := (hD3.below hb2).gr hgx
  have hX4 : CtxAt (w2.alloc (.cells #[.int .i64 x.c0, .int .i64 x.c1, .int .i64 x.c2, .int .i64 x.c3, .slice C x.l.length cp] 25)) w2.heap.size x C cp := CtxAt.new 25 hrow rfl
  have hbw4 : Hid (Below w.heap.size w (w2.alloc (.cells #[.int .i64 x.c0, .int .i64 x.c1, .int .i64 x.c2, .int .i64 x.c3, .slice C x.l.length cp] 25))) := (hbw3.out.trans (hb2.mono hbw3.out.size)).alloc (Nat.le_trans hbw3.out.size hb2.size) _
  clear hC3 hD3 hb2 hrow hbw3 hgx
  go_upto_region 5 with fail
  generalize w2.alloc (.cells #[.int .i64 x.c0, .int .i64 x.c1, .int .i64 x.c2, .int .i64 x.c3, .slice C x.l.length cp] 25) = W0 at hC4 hD4 hX4 hbw4 ⊢
  go_cut [11, 12] from 18 (fun v11 v12 wx => ∃ (B : Nat) (Y : Option Addr) (cy : Nat), v11 = .pointer (some ⟨B, 0, none⟩) ∧ v12 = .int .i64 (meetE l2) ∧ CtxAt wx B (meetC l2) Y cy ∧ Below W0.heap.size W0 wx)
  case first =>
    have hcxH : Hid (cx = ⟨c, A, ca⟩) := hH.out.2.2.2.2.2.1
    have hbD : Hid (Below W0.heap.size W0 W0.drew) := (Below.refl _ W0).drew
    have hCl : Hid (∀ W, Below W0.heap.size W0 W → Calls Try.prog 12 #[.slice L l.length lc] W fun e w' => ∃ v, e = .returned v ∧ OwnCx w' W.heap.size v l ∧ Below W.heap.size W w') := fun W hW => cloneX_any l L lc W hH.out.2.2.2.2.2.2 (hH.out.1.below (hbw4.out.trans (hW.mono hbw4.out.size))).row hH.out.2.1
    have hrA : Hid (∀ W, Below W0.heap.size W0 W → Row W A c.l) := fun W hW => hC4.row.below hW
    have hlA : Hid (l.length + [cx].length ≤ maxLen ∧ (l.length + [cx].length) * 56 ≤ 140737488355328) := by
      have h7 := hH.out.2.2.2.2.2.2
      constructor
      · unfold maxLen; simp; omega
      · simp; omega
    have hl2m : Hid (l2.length ≤ maxLen) := by show _ ≤ _; rw [hl2H.out, List.length_append]; exact hlA.out.1
    have hCxs : Hid (∀ W, Below W0.heap.size W0 W → ∀ P, RowG encX 5 W P l2 → Cxs W P l2) := by
      intro W hW P hP
      have h0 := hH.out.1.below (hbw4.out.trans (hW.mono hbw4.out.size))
      refine ⟨hP, fun z hz => ?_⟩
      rw [hl2H.out] at hz
      rcases List.mem_append.1 hz with hz | hz
      · exact h0.each z hz
      · obtain rfl : z = cx := by simpa using hz
        rw [hcxH.out]
        exact ⟨hrA.out W hW, hH.out.2.2.2.1, hH.out.2.2.2.2.1⟩
    have hKeep : Hid (∀ W', Below W0.heap.size W0 W' → (fun w' => w'.cell? ⟨w.heap.size, 0, none⟩ = some (.int .i64 c.c0) ∧ w'.cell? ⟨w.heap.size, 1, none⟩ = some (.int .i64 c.c1) ∧ w'.cell? ⟨w.heap.size, 2, none⟩ = some (.int .i64 c.c2) ∧ w'.cell? ⟨w.heap.size, 3, none⟩ = some (.int .i64 c.c3) ∧ w'.cell? ⟨w.heap.size, 4, none⟩ = some (.slice A c.l.length ca)) W') := fun W' h => ⟨(h.cell (p := ⟨w.heap.size, 0, none⟩) hC4.lt).trans hC4.k0, (h.cell (p := ⟨w.heap.size, 1, none⟩) hC4.lt).trans hC4.k1, (h.cell (p := ⟨w.heap.size, 2, none⟩) hC4.lt).trans hC4.k2, (h.cell (p := ⟨w.heap.size, 3, none⟩) hC4.lt).trans hC4.k3, (h.cell (p := ⟨w.heap.size, 4, none⟩) hC4.lt).trans hC4.k4⟩
    clear hC4 hD4 hX4
    refine wp_region_noPanic ?_
    refine wp_region_held_drew (S := (fun w' => w'.cell? ⟨w.heap.size, 0, none⟩ = some (.int .i64 c.c0) ∧ w'.cell? ⟨w.heap.size, 1, none⟩ = some (.int .i64 c.c1) ∧ w'.cell? ⟨w.heap.size, 2, none⟩ = some (.int .i64 c.c2) ∧ w'.cell? ⟨w.heap.size, 3, none⟩ = some (.int .i64 c.c3) ∧ w'.cell? ⟨w.heap.size, 4, none⟩ = some (.slice A c.l.length ca))) (by kernel_rfl) (hKeep.out _ hbD.out) (fun hHeld => ?_)
    refine wpAnyH_take (i := 0) (oi := ?ois1) (v := ?vs1) ?hops1 ?hss1 ?hfs1 ?hrs1 ?hQs1 ?hys1 (by assumption) ?rests1
    case hops1 => (simp only [List.getElem?_toArray, List.getElem?_cons_zero]; rfl)
    case hss1 => kernel_rfl
    case hfs1 => kernel_rfl
    case hrs1 => kernel_rfl
    case hQs1 => exact fun _ _ _ h => h
    case hys1 => (refine Or.inl ⟨by rfl, ?_⟩; intro w hSw; (try dsimp only at hSw); (try obtain ⟨q0, q1, q2, q3, q4⟩ := hSw); go_simp <;> with_reducible rfl)
    try simp only [Act.put, List.setIfInBounds_toArray, List.set_cons_zero, List.set_cons_succ]
    refine wpAnyH_take (i := 2) (oi := ?ois2) (v := ?vs2) ?hops2 ?hss2 ?hfs2 ?hrs2 ?hQs2 ?hys2 (by assumption) ?rests2
    case hops2 => (simp only [List.getElem?_toArray, List.getElem?_cons_zero, List.getElem?_cons_succ]; rfl)
    case hss2 => kernel_rfl
    case hfs2 => kernel_rfl
    case hrs2 => kernel_rfl
    case hQs2 => exact fun _ _ _ h => h
    case hys2 => (refine Or.inl ⟨by rfl, ?_⟩; intro w hSw; (try dsimp only at hSw); (try obtain ⟨q0, q1, q2, q3, q4⟩ := hSw); go_simp <;> with_reducible rfl)
    try simp only [Act.put, List.setIfInBounds_toArray, List.set_cons_zero, List.set_cons_succ]
    refine wpAnyH_ready (rs := [1, 3, 9]) (by kernel_rfl) (by simp) ?_
    refine AllReadyH.cons (o := ?ois3) ?hops3 (fun K hK => ?steps3) ?mores3
    case hops3 => (simp only [List.getElem?_toArray, List.getElem?_cons_zero, List.getElem?_cons_succ]; rfl)
    case mores3 =>
      refine AllReadyH.cons (o := ?ois4) ?hops4 (fun K hK => ?steps4) ?mores4
      case hops4 => (simp only [List.getElem?_toArray, List.getElem?_cons_zero, List.getElem?_cons_succ]; rfl)
      case mores4 =>
        refine AllReadyH.cons (o := ?ois5) ?hops5 (fun K hK => ?steps5) ?mores5
        case hops5 => (simp only [List.getElem?_toArray, List.getElem?_cons_zero, List.getElem?_cons_succ]; rfl)
        case mores5 => exact AllReadyH.nil
        go_simp
        have hge9 : Hid (W0.heap.size ≤ W0.heap.size) := by have h1 := (hbD.out).size; (repeat rw [szA] at h1); (try rw [szD] at h1); show _ ≤ _; omega
        refine hK.out _ _ ?_ (fun hHeld => ?_)
        · exact hKeep.out _ ((hbD.out).alloc (hbD.out).size (.cells #[.int .i64 0, .int .i64 0, .int .i64 0, .int .i64 0, .slice none 0 0] 25))
        clear hK K
        try simp only [Act.put, List.setIfInBounds_toArray, List.set_cons_zero, List.set_cons_succ]
        refine wpAnyH_ready (rs := [1, 3]) (by kernel_rfl) (by simp) ?_
        refine AllReadyH.cons (o := ?ois6) ?hops6 (fun K hK => ?steps6) ?mores6
        case hops6 => (simp only [List.getElem?_toArray, List.getElem?_cons_zero, List.getElem?_cons_succ]; rfl)
        case mores6 =>
          refine AllReadyH.cons (o := ?ois7) ?hops7 (fun K hK => ?steps7) ?mores7
          case hops7 => (simp only [List.getElem?_toArray, List.getElem?_cons_zero, List.getElem?_cons_succ]; rfl)
          case mores7 => exact AllReadyH.nil
          go_simp
          refine hK.out _ _ ?_ (fun hHeld => ?_)
          · exact hKeep.out _ ((((hbD.out).alloc (hbD.out).size (.cells #[.int .i64 0, .int .i64 0, .int .i64 0, .int .i64 0, .slice none 0 0] 25))).alloc (((hbD.out).alloc (hbD.out).size (.cells #[.int .i64 0, .int .i64 0, .int .i64 0, .int .i64 0, .slice none 0 0] 25))).size (.cells #[.int .i64 c.c0, .int .i64 c.c1, .int .i64 c.c2, .int .i64 c.c3, .slice A c.l.length ca] 25))
          clear hK K
          try simp only [Act.put, List.setIfInBounds_toArray, List.set_cons_zero, List.set_cons_succ]
          refine wpAnyH_ready (rs := [1]) (by kernel_rfl) (by simp) ?_
          refine AllReadyH.cons (o := ?ois8) ?hops8 (fun K hK => ?steps8) ?mores8
          case hops8 => (simp only [List.getElem?_toArray, List.getElem?_cons_zero, List.getElem?_cons_succ]; rfl)
          case mores8 => exact AllReadyH.nil
          go_simp
          go_at_call 12
          refine Calls.mono (show Calls _ _ _ _ _ from hCl.out ((W0.drew.alloc (.cells #[.int .i64 0, .int .i64 0, .int .i64 0, .int .i64 0, .slice none 0 0] 25)).alloc (.cells #[.int .i64 c.c0, .int .i64 c.c1, .int .i64 c.c2, .int .i64 c.c3, .slice A c.l.length ca] 25)) ((((hbD.out).alloc (hbD.out).size (.cells #[.int .i64 0, .int .i64 0, .int .i64 0, .int .i64 0, .slice none 0 0] 25))).alloc (((hbD.out).alloc (hbD.out).size (.cells #[.int .i64 0, .int .i64 0, .int .i64 0, .int .i64 0, .slice none 0 0] 25))).size (.cells #[.int .i64 c.c0, .int .i64 c.c1, .int .i64 c.c2, .int .i64 c.c3, .slice A c.l.length ca] 25))) ?_
          rintro e wA ⟨vC, rfl, hoA0, hbA⟩
          have hBA : Hid (Below W0.heap.size W0 wA) := (((((hbD.out).alloc (hbD.out).size (.cells #[.int .i64 0, .int .i64 0, .int .i64 0, .int .i64 0, .slice none 0 0] 25))).alloc (((hbD.out).alloc (hbD.out).size (.cells #[.int .i64 0, .int .i64 0, .int .i64 0, .int .i64 0, .slice none 0 0] 25))).size (.cells #[.int .i64 c.c0, .int .i64 c.c1, .int .i64 c.c2, .int .i64 c.c3, .slice A c.l.length ca] 25))).trans (hbA.mono (((((hbD.out).alloc (hbD.out).size (.cells #[.int .i64 0, .int .i64 0, .int .i64 0, .int .i64 0, .slice none 0 0] 25))).alloc (((hbD.out).alloc (hbD.out).size (.cells #[.int .i64 0, .int .i64 0, .int .i64 0, .int .i64 0, .slice none 0 0] 25))).size (.cells #[.int .i64 c.c0, .int .i64 c.c1, .int .i64 c.c2, .int .i64 c.c3, .slice A c.l.length ca] 25))).size)
          have hoA : Hid (OwnCx wA W0.heap.size vC l) := hoA0.mono (((((hbD.out).alloc (hbD.out).size (.cells #[.int .i64 0, .int .i64 0, .int .i64 0, .int .i64 0, .slice none 0 0] 25))).alloc (((hbD.out).alloc (hbD.out).size (.cells #[.int .i64 0, .int .i64 0, .int .i64 0, .int .i64 0, .slice none 0 0] 25))).size (.cells #[.int .i64 c.c0, .int .i64 c.c1, .int .i64 c.c2, .int .i64 c.c3, .slice A c.l.length ca] 25))).size
          have hc3 : Hid (CtxAt wA (W0.heap.size + 1) c A ca) := ((CtxAt.new (w := (W0.drew.alloc (.cells #[.int .i64 0, .int .i64 0, .int .i64 0, .int .i64 0, .slice none 0 0] 25))) (c := c) (A := A) (cap := ca) 25 (hrA.out _ (((hbD.out).alloc (hbD.out).size (.cells #[.int .i64 0, .int .i64 0, .int .i64 0, .int .i64 0, .slice none 0 0] 25)))) (B := W0.heap.size + 1) (by first | rfl | ((repeat rw [szA]); done) | ((repeat rw [szA]); rfl)))).below hbA
          have hz9 : Hid (ZAt wA (W0.heap.size)) := ((((ZAt.new W0.drew 25 (B := W0.heap.size) (by first | rfl | ((repeat rw [szA]); done) | ((repeat rw [szA]); rfl)))).gr ((Gr.refl _).alloc (.cells #[.int .i64 c.c0, .int .i64 c.c1, .int .i64 c.c2, .int .i64 c.c3, .slice A c.l.length ca] 25)))).below hbA
          have hne : Hid (∀ g, vC.ownBlock = some g → g ≠ W0.heap.size) := fun g hg e => by have h1 := (World.ownsRow.lt hoA0 g hg).1; have h2 := ((((ZAt.new W0.drew 25 (B := W0.heap.size) (by first | rfl | ((repeat rw [szA]); done) | ((repeat rw [szA]); rfl)))).gr ((Gr.refl _).alloc (.cells #[.int .i64 c.c0, .int .i64 c.c1, .int .i64 c.c2, .int .i64 c.c3, .slice A c.l.length ca] 25)))).lt; (repeat rw [szA] at h1); (try rw [szD] at h1); (repeat rw [szA] at h2); (try rw [szD] at h2); omega
          clear hbA hoA0
          refine hK.out _ _ ?_ (fun hHeld => ?_)
          · exact hKeep.out _ hBA.out
          clear hK K
          try simp only [Act.put, List.setIfInBounds_toArray, List.set_cons_zero, List.set_cons_succ]
          refine wpAnyH_ready (rs := [4]) (by kernel_rfl) (by simp) ?_
          refine AllReadyH.cons (o := ?ois9) ?hops9 (fun K hK => ?steps9) ?mores9
          case hops9 => (simp only [List.getElem?_toArray, List.getElem?_cons_zero, List.getElem?_cons_succ]; rfl)
          case mores9 => exact AllReadyH.nil
          have hoX : Hid (OwnCx wA W0.heap.size vC l ∧ RowG encX 5 wA (some ⟨W0.heap.size + 1, 0, none⟩) [cx] ∧ W0.heap.size ≤ wA.heap.size) := ⟨hoA.out, rowOneX (y := cx) (by rw [hcxH.out]; exact hc3.out), (hBA.out).size⟩
          refine step_append_cx _ rfl (.tmp 44) (.tmp 46) rfl W0.heap.size vC l [cx] (some ⟨W0.heap.size + 1, 0, none⟩) 1 rfl rfl hoX.out.1 hoX.out.2.1 (fun h => by cases h) hlA.out.1 hlA.out.2 hoX.out.2.2 ?_
          intro vP wP hoP hgP
          rw [← hl2H.out] at hoP
          have hbP := OwnG.grown_below hoX.out.1 hgP hoX.out.2.2
          have hBP : Hid (Below W0.heap.size W0 wP) := (hBA.out).trans hbP
          obtain ⟨AP, cpP, hvP, hAP, hrowP, _⟩ := OwnG.row encX_len hoP
          subst hvP
          have hxs : Hid (Cxs wP AP l2) := hCxs.out wP hBP.out AP hrowP
          have hz9' : Hid (ZAt wP (W0.heap.size)) := ZAt.grownB (hz9.out) hgP (fun e => hne.out _ e.symm rfl)
          clear hoP hgP hbP hrowP hoX
          refine hK.out _ _ ?_ (fun hHeld => ?_)
          · exact hKeep.out _ hBP.out
          clear hK K
          try simp only [Act.put, List.setIfInBounds_toArray, List.set_cons_zero, List.set_cons_succ]
          refine wpAnyH_ready (rs := [5]) (by kernel_rfl) (by simp) ?_
          refine AllReadyH.cons (o := ?ois10) ?hops10 (fun K hK => ?steps10) ?mores10
          case hops10 => (simp only [List.getElem?_toArray, List.getElem?_cons_zero, List.getElem?_cons_succ]; rfl)
          case mores10 => exact AllReadyH.nil
          go_simp
          go_at_call 5
          refine Calls.mono (show Calls _ _ _ _ _ from meet_any l2 AP cpP wP hl2m.out (hxs.out)) ?_
          rintro e wM ⟨CM, cpM, rfl, hrowM, _, _, hbM⟩
          have hBM : Hid (Below W0.heap.size W0 wM) := (hBP.out).trans (hbM.mono (hBP.out).size)
          have hlt9 : Hid (W0.heap.size < wP.heap.size) := (hz9'.out).lt
          have hz9m : Hid (ZAt wM (W0.heap.size)) := (hz9'.out).below hbM
          have hrM : Hid (Row wM CM (meetC l2).l ∧ ∀ a, CM = some a → wP.heap.size ≤ a.block) := ⟨hrowM, by assumption⟩
          clear hrowM hbM
          refine hK.out _ _ ?_ (fun hHeld => ?_)
          · exact hKeep.out _ hBM.out
          clear hK K
          try simp only [Act.put, List.setIfInBounds_toArray, List.set_cons_zero, List.set_cons_succ]
          refine wpAnyH_take (i := 6) (oi := ?ois11) (v := ?vs11) ?hops11 ?hss11 ?hfs11 ?hrs11 ?hQs11 ?hys11 (by assumption) ?rests11
          case hops11 => (simp only [List.getElem?_toArray, List.getElem?_cons_zero, List.getElem?_cons_succ]; rfl)
          case hss11 => kernel_rfl
          case hfs11 => kernel_rfl
          case hrs11 => kernel_rfl
          case hQs11 => exact fun _ _ _ h => h
          case hys11 => (refine Or.inl ⟨by rfl, ?_⟩; intro w hSw; (try dsimp only at hSw); (try obtain ⟨q0, q1, q2, q3, q4⟩ := hSw); go_simp <;> with_reducible rfl)
          try simp only [Act.put, List.setIfInBounds_toArray, List.set_cons_zero, List.set_cons_succ]
          refine wpAnyH_take (i := 7) (oi := ?ois12) (v := ?vs12) ?hops12 ?hss12 ?hfs12 ?hrs12 ?hQs12 ?hys12 (by assumption) ?rests12
          case hops12 => (simp only [List.getElem?_toArray, List.getElem?_cons_zero, List.getElem?_cons_succ]; rfl)
          case hss12 => kernel_rfl
          case hfs12 => kernel_rfl
          case hrs12 => kernel_rfl
          case hQs12 => exact fun _ _ _ h => h
          case hys12 => (refine Or.inl ⟨by rfl, ?_⟩; intro w hSw; (try dsimp only at hSw); (try obtain ⟨q0, q1, q2, q3, q4⟩ := hSw); go_simp <;> with_reducible rfl)
          try simp only [Act.put, List.setIfInBounds_toArray, List.set_cons_zero, List.set_cons_succ]
          refine wpAnyH_take (i := 8) (oi := ?ois13) (v := ?vs13) ?hops13 ?hss13 ?hfs13 ?hrs13 ?hQs13 ?hys13 (by assumption) ?rests13
          case hops13 => (simp only [List.getElem?_toArray, List.getElem?_cons_zero, List.getElem?_cons_succ]; rfl)
          case hss13 => kernel_rfl
          case hfs13 => kernel_rfl
          case hrs13 => kernel_rfl
          case hQs13 => exact fun _ _ _ h => h
          case hys13 => (refine Or.inl ⟨by rfl, ?_⟩; intro w hSw; (try dsimp only at hSw); (try obtain ⟨q0, q1, q2, q3, q4⟩ := hSw); go_simp <;> with_reducible rfl)
          try simp only [Act.put, List.setIfInBounds_toArray, List.set_cons_zero, List.set_cons_succ]
          refine wpAnyH_ready (rs := [10]) (by kernel_rfl) (by simp) ?_
          refine AllReadyH.cons (o := ?ois14) ?hops14 (fun K hK => ?steps14) ?mores14
          case hops14 => (simp only [List.getElem?_toArray, List.getElem?_cons_zero, List.getElem?_cons_succ]; rfl)
          case mores14 => exact AllReadyH.nil
          obtain ⟨z0, z1, z2, z3, z4, zf, zlt⟩ := (show ZAt _ _ from hz9m.out)
          go_simp
          refine hK.out _ _ ?_ (fun hHeld => ?_)
          · exact hKeep.out _ (below_set5 hBM.out hge9.out _ _ _ _ _)
          clear hK K
          try simp only [Act.put, List.setIfInBounds_toArray, List.set_cons_zero, List.set_cons_succ]
          refine wpAnyH_take (i := 11) (oi := ?ois15) (v := ?vs15) ?hops15 ?hss15 ?hfs15 ?hrs15 ?hQs15 ?hys15 (by assumption) ?rests15
          case hops15 => (simp only [List.getElem?_toArray, List.getElem?_cons_zero, List.getElem?_cons_succ]; rfl)
          case hss15 => kernel_rfl
          case hfs15 => kernel_rfl
          case hrs15 => kernel_rfl
          case hQs15 => exact fun _ _ _ h => h
          case hys15 => (refine Or.inl ⟨by rfl, ?_⟩; intro w hSw; (try dsimp only at hSw); (try obtain ⟨q0, q1, q2, q3, q4⟩ := hSw); go_simp <;> with_reducible rfl)
          try simp only [Act.put, List.setIfInBounds_toArray, List.set_cons_zero, List.set_cons_succ]
          refine wpAnyH_done (by kernel_rfl) ?_ _
          refine NoPanic.normal ?_
          go_wp2_with fail
          go_meet
          exact ⟨W0.heap.size, CM, cpM, rfl, rfl, (CtxW.set ⟨(hz9m.out).ctx, (hz9m.out).fz⟩ hrM.out.1 (fun a h1 h2 => by have h3 := hrM.out.2 a h1; have h4 := hlt9.out; omega)).at', below_set5 hBM.out hge9.out _ _ _ _ _⟩
        go_simp
        go_at_call 12
        refine Calls.mono (show Calls _ _ _ _ _ from hCl.out (W0.drew.alloc (.cells #[.int .i64 0, .int .i64 0, .int .i64 0, .int .i64 0, .slice none 0 0] 25)) ((hbD.out).alloc (hbD.out).size (.cells #[.int .i64 0, .int .i64 0, .int .i64 0, .int .i64 0, .slice none 0 0] 25))) ?_
        rintro e wA ⟨vC, rfl, hoA0, hbA⟩
        have hBA : Hid (Below W0.heap.size W0 wA) := (((hbD.out).alloc (hbD.out).size (.cells #[.int .i64 0, .int .i64 0, .int .i64 0, .int .i64 0, .slice none 0 0] 25))).trans (hbA.mono (((hbD.out).alloc (hbD.out).size (.cells #[.int .i64 0, .int .i64 0, .int .i64 0, .int .i64 0, .slice none 0 0] 25))).size)
        have hoA : Hid (OwnCx wA W0.heap.size vC l) := hoA0.mono (((hbD.out).alloc (hbD.out).size (.cells #[.int .i64 0, .int .i64 0, .int .i64 0, .int .i64 0, .slice none 0 0] 25))).size
        have hz9 : Hid (ZAt wA (W0.heap.size)) := ((ZAt.new W0.drew 25 (B := W0.heap.size) (by first | rfl | ((repeat rw [szA]); done) | ((repeat rw [szA]); rfl)))).below hbA
        have hne : Hid (∀ g, vC.ownBlock = some g → g ≠ W0.heap.size) := fun g hg e => by have h1 := (World.ownsRow.lt hoA0 g hg).1; have h2 := ((ZAt.new W0.drew 25 (B := W0.heap.size) (by first | rfl | ((repeat rw [szA]); done) | ((repeat rw [szA]); rfl)))).lt; (repeat rw [szA] at h1); (try rw [szD] at h1); (repeat rw [szA] at h2); (try rw [szD] at h2); omega
        clear hbA hoA0
        refine hK.out _ _ ?_ (fun hHeld => ?_)
        · exact hKeep.out _ hBA.out
        clear hK K
        try simp only [Act.put, List.setIfInBounds_toArray, List.set_cons_zero, List.set_cons_succ]
        refine wpAnyH_ready (rs := [3]) (by kernel_rfl) (by simp) ?_
        refine AllReadyH.cons (o := ?ois16) ?hops16 (fun K hK => ?steps16) ?mores16
        case hops16 => (simp only [List.getElem?_toArray, List.getElem?_cons_zero, List.getElem?_cons_succ]; rfl)
        case mores16 => exact AllReadyH.nil
        go_simp
        refine hK.out _ _ ?_ (fun hHeld => ?_)
        · exact hKeep.out _ ((hBA.out).alloc (hBA.out).size (.cells #[.int .i64 c.c0, .int .i64 c.c1, .int .i64 c.c2, .int .i64 c.c3, .slice A c.l.length ca] 25))
        clear hK K
        try simp only [Act.put, List.setIfInBounds_toArray, List.set_cons_zero, List.set_cons_succ]
        refine wpAnyH_ready (rs := [4]) (by kernel_rfl) (by simp) ?_
        refine AllReadyH.cons (o := ?ois17) ?hops17 (fun K hK => ?steps17) ?mores17
        case hops17 => (simp only [List.getElem?_toArray, List.getElem?_cons_zero, List.getElem?_cons_succ]; rfl)
        case mores17 => exact AllReadyH.nil
        have hoX : Hid (OwnCx (wA.alloc (.cells #[.int .i64 c.c0, .int .i64 c.c1, .int .i64 c.c2, .int .i64 c.c3, .slice A c.l.length ca] 25)) W0.heap.size vC l ∧ RowG encX 5 (wA.alloc (.cells #[.int .i64 c.c0, .int .i64 c.c1, .int .i64 c.c2, .int .i64 c.c3, .slice A c.l.length ca] 25)) (some ⟨wA.heap.size, 0, none⟩) [cx] ∧ W0.heap.size ≤ (wA.alloc (.cells #[.int .i64 c.c0, .int .i64 c.c1, .int .i64 c.c2, .int .i64 c.c3, .slice A c.l.length ca] 25)).heap.size) := ⟨((hoA.out).gr ((Gr.refl _).alloc (.cells #[.int .i64 c.c0, .int .i64 c.c1, .int .i64 c.c2, .int .i64 c.c3, .slice A c.l.length ca] 25))), rowOneX (y := cx) (by rw [hcxH.out]; exact (CtxAt.new (w := wA) (c := c) (A := A) (cap := ca) 25 (hrA.out _ (hBA.out)) (B := wA.heap.size) (by first | rfl | ((repeat rw [szA]); done) | ((repeat rw [szA]); rfl)))), (((hBA.out).alloc (hBA.out).size (.cells #[.int .i64 c.c0, .int .i64 c.c1, .int .i64 c.c2, .int .i64 c.c3, .slice A c.l.length ca] 25))).size⟩
        refine step_append_cx _ rfl (.tmp 44) (.tmp 46) rfl W0.heap.size vC l [cx] (some ⟨wA.heap.size, 0, none⟩) 1 rfl rfl hoX.out.1 hoX.out.2.1 (fun h => by cases h) hlA.out.1 hlA.out.2 hoX.out.2.2 ?_
        intro vP wP hoP hgP
        rw [← hl2H.out] at hoP
        have hbP := OwnG.grown_below hoX.out.1 hgP hoX.out.2.2
        have hBP : Hid (Below W0.heap.size W0 wP) := (((hBA.out).alloc (hBA.out).size (.cells #[.int .i64 c.c0, .int .i64 c.c1, .int .i64 c.c2, .int .i64 c.c3, .slice A c.l.length ca] 25))).trans hbP
        obtain ⟨AP, cpP, hvP, hAP, hrowP, _⟩ := OwnG.row encX_len hoP
        subst hvP
        have hxs : Hid (Cxs wP AP l2) := hCxs.out wP hBP.out AP hrowP
        have hz9' : Hid (ZAt wP (W0.heap.size)) := ZAt.grownB (((hz9.out).gr ((Gr.refl _).alloc (.cells #[.int .i64 c.c0, .int .i64 c.c1, .int .i64 c.c2, .int .i64 c.c3, .slice A c.l.length ca] 25)))) hgP (fun e => hne.out _ e.symm rfl)
        clear hoP hgP hbP hrowP hoX
        refine hK.out _ _ ?_ (fun hHeld => ?_)
        · exact hKeep.out _ hBP.out
        clear hK K
        try simp only [Act.put, List.setIfInBounds_toArray, List.set_cons_zero, List.set_cons_succ]
        refine wpAnyH_ready (rs := [5]) (by kernel_rfl) (by simp) ?_
        refine AllReadyH.cons (o := ?ois18) ?hops18 (fun K hK => ?steps18) ?mores18
        case hops18 => (simp only [List.getElem?_toArray, List.getElem?_cons_zero, List.getElem?_cons_succ]; rfl)
        case mores18 => exact AllReadyH.nil
        go_simp
        go_at_call 5
        refine Calls.mono (show Calls _ _ _ _ _ from meet_any l2 AP cpP wP hl2m.out (hxs.out)) ?_
        rintro e wM ⟨CM, cpM, rfl, hrowM, _, _, hbM⟩
        have hBM : Hid (Below W0.heap.size W0 wM) := (hBP.out).trans (hbM.mono (hBP.out).size)
        have hlt9 : Hid (W0.heap.size < wP.heap.size) := (hz9'.out).lt
        have hz9m : Hid (ZAt wM (W0.heap.size)) := (hz9'.out).below hbM
        have hrM : Hid (Row wM CM (meetC l2).l ∧ ∀ a, CM = some a → wP.heap.size ≤ a.block) := ⟨hrowM, by assumption⟩
        clear hrowM hbM
        refine hK.out _ _ ?_ (fun hHeld => ?_)
        · exact hKeep.out _ hBM.out
        clear hK K
        try simp only [Act.put, List.setIfInBounds_toArray, List.set_cons_zero, List.set_cons_succ]
        refine wpAnyH_take (i := 6) (oi := ?ois19) (v := ?vs19) ?hops19 ?hss19 ?hfs19 ?hrs19 ?hQs19 ?hys19 (by assumption) ?rests19
        case hops19 => (simp only [List.getElem?_toArray, List.getElem?_cons_zero, List.getElem?_cons_succ]; rfl)
        case hss19 => kernel_rfl
        case hfs19 => kernel_rfl
        case hrs19 => kernel_rfl
        case hQs19 => exact fun _ _ _ h => h
        case hys19 => (refine Or.inl ⟨by rfl, ?_⟩; intro w hSw; (try dsimp only at hSw); (try obtain ⟨q0, q1, q2, q3, q4⟩ := hSw); go_simp <;> with_reducible rfl)
        try simp only [Act.put, List.setIfInBounds_toArray, List.set_cons_zero, List.set_cons_succ]
        refine wpAnyH_take (i := 7) (oi := ?ois20) (v := ?vs20) ?hops20 ?hss20 ?hfs20 ?hrs20 ?hQs20 ?hys20 (by assumption) ?rests20
        case hops20 => (simp only [List.getElem?_toArray, List.getElem?_cons_zero, List.getElem?_cons_succ]; rfl)
        case hss20 => kernel_rfl
        case hfs20 => kernel_rfl
        case hrs20 => kernel_rfl
        case hQs20 => exact fun _ _ _ h => h
        case hys20 => (refine Or.inl ⟨by rfl, ?_⟩; intro w hSw; (try dsimp only at hSw); (try obtain ⟨q0, q1, q2, q3, q4⟩ := hSw); go_simp <;> with_reducible rfl)
        try simp only [Act.put, List.setIfInBounds_toArray, List.set_cons_zero, List.set_cons_succ]
        refine wpAnyH_take (i := 8) (oi := ?ois21) (v := ?vs21) ?hops21 ?hss21 ?hfs21 ?hrs21 ?hQs21 ?hys21 (by assumption) ?rests21
        case hops21 => (simp only [List.getElem?_toArray, List.getElem?_cons_zero, List.getElem?_cons_succ]; rfl)
        case hss21 => kernel_rfl
        case hfs21 => kernel_rfl
        case hrs21 => kernel_rfl
        case hQs21 => exact fun _ _ _ h => h
        case hys21 => (refine Or.inl ⟨by rfl, ?_⟩; intro w hSw; (try dsimp only at hSw); (try obtain ⟨q0, q1, q2, q3, q4⟩ := hSw); go_simp <;> with_reducible rfl)
        try simp only [Act.put, List.setIfInBounds_toArray, List.set_cons_zero, List.set_cons_succ]
        refine wpAnyH_ready (rs := [10]) (by kernel_rfl) (by simp) ?_
        refine AllReadyH.cons (o := ?ois22) ?hops22 (fun K hK => ?steps22) ?mores22
        case hops22 => (simp only [List.getElem?_toArray, List.getElem?_cons_zero, List.getElem?_cons_succ]; rfl)
        case mores22 => exact AllReadyH.nil
        obtain ⟨z0, z1, z2, z3, z4, zf, zlt⟩ := (show ZAt _ _ from hz9m.out)
        go_simp
        refine hK.out _ _ ?_ (fun hHeld => ?_)
        · exact hKeep.out _ (below_set5 hBM.out hge9.out _ _ _ _ _)
        clear hK K
        try simp only [Act.put, List.setIfInBounds_toArray, List.set_cons_zero, List.set_cons_succ]
        refine wpAnyH_take (i := 11) (oi := ?ois23) (v := ?vs23) ?hops23 ?hss23 ?hfs23 ?hrs23 ?hQs23 ?hys23 (by assumption) ?rests23
        case hops23 => (simp only [List.getElem?_toArray, List.getElem?_cons_zero, List.getElem?_cons_succ]; rfl)
        case hss23 => kernel_rfl
        case hfs23 => kernel_rfl
        case hrs23 => kernel_rfl
        case hQs23 => exact fun _ _ _ h => h
        case hys23 => (refine Or.inl ⟨by rfl, ?_⟩; intro w hSw; (try dsimp only at hSw); (try obtain ⟨q0, q1, q2, q3, q4⟩ := hSw); go_simp <;> with_reducible rfl)
        try simp only [Act.put, List.setIfInBounds_toArray, List.set_cons_zero, List.set_cons_succ]
        refine wpAnyH_done (by kernel_rfl) ?_ _
        refine NoPanic.normal ?_
        go_wp2_with fail
        go_meet
        exact ⟨W0.heap.size, CM, cpM, rfl, rfl, (CtxW.set ⟨(hz9m.out).ctx, (hz9m.out).fz⟩ hrM.out.1 (fun a h1 h2 => by have h3 := hrM.out.2 a h1; have h4 := hlt9.out; omega)).at', below_set5 hBM.out hge9.out _ _ _ _ _⟩
      go_simp
      refine hK.out _ _ ?_ (fun hHeld => ?_)
      · exact hKeep.out _ ((hbD.out).alloc (hbD.out).size (.cells #[.int .i64 c.c0, .int .i64 c.c1, .int .i64 c.c2, .int .i64 c.c3, .slice A c.l.length ca] 25))
      clear hK K
      try simp only [Act.put, List.setIfInBounds_toArray, List.set_cons_zero, List.set_cons_succ]
      refine wpAnyH_ready (rs := [1, 9]) (by kernel_rfl) (by simp) ?_
      refine AllReadyH.cons (o := ?ois24) ?hops24 (fun K hK => ?steps24) ?mores24
      case hops24 => (simp only [List.getElem?_toArray, List.getElem?_cons_zero, List.getElem?_cons_succ]; rfl)
      case mores24 =>
        refine AllReadyH.cons (o := ?ois25) ?hops25 (fun K hK => ?steps25) ?mores25
        case hops25 => (simp only [List.getElem?_toArray, List.getElem?_cons_zero, List.getElem?_cons_succ]; rfl)
        case mores25 => exact AllReadyH.nil
        go_simp
        have hge9 : Hid (W0.heap.size ≤ W0.heap.size + 1) := by have h1 := (((hbD.out).alloc (hbD.out).size (.cells #[.int .i64 c.c0, .int .i64 c.c1, .int .i64 c.c2, .int .i64 c.c3, .slice A c.l.length ca] 25))).size; (repeat rw [szA] at h1); (try rw [szD] at h1); show _ ≤ _; omega
        refine hK.out _ _ ?_ (fun hHeld => ?_)
        · exact hKeep.out _ ((((hbD.out).alloc (hbD.out).size (.cells #[.int .i64 c.c0, .int .i64 c.c1, .int .i64 c.c2, .int .i64 c.c3, .slice A c.l.length ca] 25))).alloc (((hbD.out).alloc (hbD.out).size (.cells #[.int .i64 c.c0, .int .i64 c.c1, .int .i64 c.c2, .int .i64 c.c3, .slice A c.l.length ca] 25))).size (.cells #[.int .i64 0, .int .i64 0, .int .i64 0, .int .i64 0, .slice none 0 0] 25))
        clear hK K
        try simp only [Act.put, List.setIfInBounds_toArray, List.set_cons_zero, List.set_cons_succ]
        refine wpAnyH_ready (rs := [1]) (by kernel_rfl) (by simp) ?_
        refine AllReadyH.cons (o := ?ois26) ?hops26 (fun K hK => ?steps26) ?mores26
        case hops26 => (simp only [List.getElem?_toArray, List.getElem?_cons_zero, List.getElem?_cons_succ]; rfl)
        case mores26 => exact AllReadyH.nil
        go_simp
        go_at_call 12
        refine Calls.mono (show Calls _ _ _ _ _ from hCl.out ((W0.drew.alloc (.cells #[.int .i64 c.c0, .int .i64 c.c1, .int .i64 c.c2, .int .i64 c.c3, .slice A c.l.length ca] 25)).alloc (.cells #[.int .i64 0, .int .i64 0, .int .i64 0, .int .i64 0, .slice none 0 0] 25)) ((((hbD.out).alloc (hbD.out).size (.cells #[.int .i64 c.c0, .int .i64 c.c1, .int .i64 c.c2, .int .i64 c.c3, .slice A c.l.length ca] 25))).alloc (((hbD.out).alloc (hbD.out).size (.cells #[.int .i64 c.c0, .int .i64 c.c1, .int .i64 c.c2, .int .i64 c.c3, .slice A c.l.length ca] 25))).size (.cells #[.int .i64 0, .int .i64 0, .int .i64 0, .int .i64 0, .slice none 0 0] 25))) ?_
        rintro e wA ⟨vC, rfl, hoA0, hbA⟩
        have hBA : Hid (Below W0.heap.size W0 wA) := (((((hbD.out).alloc (hbD.out).size (.cells #[.int .i64 c.c0, .int .i64 c.c1, .int .i64 c.c2, .int .i64 c.c3, .slice A c.l.length ca] 25))).alloc (((hbD.out).alloc (hbD.out).size (.cells #[.int .i64 c.c0, .int .i64 c.c1, .int .i64 c.c2, .int .i64 c.c3, .slice A c.l.length ca] 25))).size (.cells #[.int .i64 0, .int .i64 0, .int .i64 0, .int .i64 0, .slice none 0 0] 25))).trans (hbA.mono (((((hbD.out).alloc (hbD.out).size (.cells #[.int .i64 c.c0, .int .i64 c.c1, .int .i64 c.c2, .int .i64 c.c3, .slice A c.l.length ca] 25))).alloc (((hbD.out).alloc (hbD.out).size (.cells #[.int .i64 c.c0, .int .i64 c.c1, .int .i64 c.c2, .int .i64 c.c3, .slice A c.l.length ca] 25))).size (.cells #[.int .i64 0, .int .i64 0, .int .i64 0, .int .i64 0, .slice none 0 0] 25))).size)
        have hoA : Hid (OwnCx wA W0.heap.size vC l) := hoA0.mono (((((hbD.out).alloc (hbD.out).size (.cells #[.int .i64 c.c0, .int .i64 c.c1, .int .i64 c.c2, .int .i64 c.c3, .slice A c.l.length ca] 25))).alloc (((hbD.out).alloc (hbD.out).size (.cells #[.int .i64 c.c0, .int .i64 c.c1, .int .i64 c.c2, .int .i64 c.c3, .slice A c.l.length ca] 25))).size (.cells #[.int .i64 0, .int .i64 0, .int .i64 0, .int .i64 0, .slice none 0 0] 25))).size
        have hc3 : Hid (CtxAt wA (W0.heap.size) c A ca) := ((((CtxAt.new (w := W0.drew) (c := c) (A := A) (cap := ca) 25 (hrA.out _ (hbD.out)) (B := W0.heap.size) (by first | rfl | ((repeat rw [szA]); done) | ((repeat rw [szA]); rfl)))).gr ((Gr.refl _).alloc (.cells #[.int .i64 0, .int .i64 0, .int .i64 0, .int .i64 0, .slice none 0 0] 25)))).below hbA
        have hz9 : Hid (ZAt wA (W0.heap.size + 1)) := ((ZAt.new (W0.drew.alloc (.cells #[.int .i64 c.c0, .int .i64 c.c1, .int .i64 c.c2, .int .i64 c.c3, .slice A c.l.length ca] 25)) 25 (B := W0.heap.size + 1) (by first | rfl | ((repeat rw [szA]); done) | ((repeat rw [szA]); rfl)))).below hbA
        have hne : Hid (∀ g, vC.ownBlock = some g → g ≠ W0.heap.size + 1) := fun g hg e => by have h1 := (World.ownsRow.lt hoA0 g hg).1; have h2 := ((ZAt.new (W0.drew.alloc (.cells #[.int .i64 c.c0, .int .i64 c.c1, .int .i64 c.c2, .int .i64 c.c3, .slice A c.l.length ca] 25)) 25 (B := W0.heap.size + 1) (by first | rfl | ((repeat rw [szA]); done) | ((repeat rw [szA]); rfl)))).lt; (repeat rw [szA] at h1); (try rw [szD] at h1); (repeat rw [szA] at h2); (try rw [szD] at h2); omega
        clear hbA hoA0
        refine hK.out _ _ ?_ (fun hHeld => ?_)
        · exact hKeep.out _ hBA.out
        clear hK K
        try simp only [Act.put, List.setIfInBounds_toArray, List.set_cons_zero, List.set_cons_succ]
        refine wpAnyH_ready (rs := [4]) (by kernel_rfl) (by simp) ?_
        refine AllReadyH.cons (o := ?ois27) ?hops27 (fun K hK => ?steps27) ?mores27
        case hops27 => (simp only [List.getElem?_toArray, List.getElem?_cons_zero, List.getElem?_cons_succ]; rfl)
        case mores27 => exact AllReadyH.nil
        have hoX : Hid (OwnCx wA W0.heap.size vC l ∧ RowG encX 5 wA (some ⟨W0.heap.size, 0, none⟩) [cx] ∧ W0.heap.size ≤ wA.heap.size) := ⟨hoA.out, rowOneX (y := cx) (by rw [hcxH.out]; exact hc3.out), (hBA.out).size⟩
        refine step_append_cx _ rfl (.tmp 44) (.tmp 46) rfl W0.heap.size vC l [cx] (some ⟨W0.heap.size, 0, none⟩) 1 rfl rfl hoX.out.1 hoX.out.2.1 (fun h => by cases h) hlA.out.1 hlA.out.2 hoX.out.2.2 ?_
        intro vP wP hoP hgP
        rw [← hl2H.out] at hoP
        have hbP := OwnG.grown_below hoX.out.1 hgP hoX.out.2.2
        have hBP : Hid (Below W0.heap.size W0 wP) := (hBA.out).trans hbP
        obtain ⟨AP, cpP, hvP, hAP, hrowP, _⟩ := OwnG.row encX_len hoP
        subst hvP
        have hxs : Hid (Cxs wP AP l2) := hCxs.out wP hBP.out AP hrowP
        have hz9' : Hid (ZAt wP (W0.heap.size + 1)) := ZAt.grownB (hz9.out) hgP (fun e => hne.out _ e.symm rfl)
        clear hoP hgP hbP hrowP hoX
        refine hK.out _ _ ?_ (fun hHeld => ?_)
        · exact hKeep.out _ hBP.out
        clear hK K
        try simp only [Act.put, List.setIfInBounds_toArray, List.set_cons_zero, List.set_cons_succ]
        refine wpAnyH_ready (rs := [5]) (by kernel_rfl) (by simp) ?_
        refine AllReadyH.cons (o := ?ois28) ?hops28 (fun K hK => ?steps28) ?mores28
        case hops28 => (simp only [List.getElem?_toArray, List.getElem?_cons_zero, List.getElem?_cons_succ]; rfl)
        case mores28 => exact AllReadyH.nil
        go_simp
        go_at_call 5
        refine Calls.mono (show Calls _ _ _ _ _ from meet_any l2 AP cpP wP hl2m.out (hxs.out)) ?_
        rintro e wM ⟨CM, cpM, rfl, hrowM, _, _, hbM⟩
        have hBM : Hid (Below W0.heap.size W0 wM) := (hBP.out).trans (hbM.mono (hBP.out).size)
        have hlt9 : Hid (W0.heap.size + 1 < wP.heap.size) := (hz9'.out).lt
        have hz9m : Hid (ZAt wM (W0.heap.size + 1)) := (hz9'.out).below hbM
        have hrM : Hid (Row wM CM (meetC l2).l ∧ ∀ a, CM = some a → wP.heap.size ≤ a.block) := ⟨hrowM, by assumption⟩
        clear hrowM hbM
        refine hK.out _ _ ?_ (fun hHeld => ?_)
        · exact hKeep.out _ hBM.out
        clear hK K
        try simp only [Act.put, List.setIfInBounds_toArray, List.set_cons_zero, List.set_cons_succ]
        refine wpAnyH_take (i := 6) (oi := ?ois29) (v := ?vs29) ?hops29 ?hss29 ?hfs29 ?hrs29 ?hQs29 ?hys29 (by assumption) ?rests29
        case hops29 => (simp only [List.getElem?_toArray, List.getElem?_cons_zero, List.getElem?_cons_succ]; rfl)
        case hss29 => kernel_rfl
        case hfs29 => kernel_rfl
        case hrs29 => kernel_rfl
        case hQs29 => exact fun _ _ _ h => h
        case hys29 => (refine Or.inl ⟨by rfl, ?_⟩; intro w hSw; (try dsimp only at hSw); (try obtain ⟨q0, q1, q2, q3, q4⟩ := hSw); go_simp <;> with_reducible rfl)
        try simp only [Act.put, List.setIfInBounds_toArray, List.set_cons_zero, List.set_cons_succ]
        refine wpAnyH_take (i := 7) (oi := ?ois30) (v := ?vs30) ?hops30 ?hss30 ?hfs30 ?hrs30 ?hQs30 ?hys30 (by assumption) ?rests30
        case hops30 => (simp only [List.getElem?_toArray, List.getElem?_cons_zero, List.getElem?_cons_succ]; rfl)
        case hss30 => kernel_rfl
        case hfs30 => kernel_rfl
        case hrs30 => kernel_rfl
        case hQs30 => exact fun _ _ _ h => h
        case hys30 => (refine Or.inl ⟨by rfl, ?_⟩; intro w hSw; (try dsimp only at hSw); (try obtain ⟨q0, q1, q2, q3, q4⟩ := hSw); go_simp <;> with_reducible rfl)
        try simp only [Act.put, List.setIfInBounds_toArray, List.set_cons_zero, List.set_cons_succ]
        refine wpAnyH_take (i := 8) (oi := ?ois31) (v := ?vs31) ?hops31 ?hss31 ?hfs31 ?hrs31 ?hQs31 ?hys31 (by assumption) ?rests31
        case hops31 => (simp only [List.getElem?_toArray, List.getElem?_cons_zero, List.getElem?_cons_succ]; rfl)
        case hss31 => kernel_rfl
        case hfs31 => kernel_rfl
        case hrs31 => kernel_rfl
        case hQs31 => exact fun _ _ _ h => h
        case hys31 => (refine Or.inl ⟨by rfl, ?_⟩; intro w hSw; (try dsimp only at hSw); (try obtain ⟨q0, q1, q2, q3, q4⟩ := hSw); go_simp <;> with_reducible rfl)
        try simp only [Act.put, List.setIfInBounds_toArray, List.set_cons_zero, List.set_cons_succ]
        refine wpAnyH_ready (rs := [10]) (by kernel_rfl) (by simp) ?_
        refine AllReadyH.cons (o := ?ois32) ?hops32 (fun K hK => ?steps32) ?mores32
        case hops32 => (simp only [List.getElem?_toArray, List.getElem?_cons_zero, List.getElem?_cons_succ]; rfl)
        case mores32 => exact AllReadyH.nil
        obtain ⟨z0, z1, z2, z3, z4, zf, zlt⟩ := (show ZAt _ _ from hz9m.out)
        go_simp
        refine hK.out _ _ ?_ (fun hHeld => ?_)
        · exact hKeep.out _ (below_set5 hBM.out hge9.out _ _ _ _ _)
        clear hK K
        try simp only [Act.put, List.setIfInBounds_toArray, List.set_cons_zero, List.set_cons_succ]
        refine wpAnyH_take (i := 11) (oi := ?ois33) (v := ?vs33) ?hops33 ?hss33 ?hfs33 ?hrs33 ?hQs33 ?hys33 (by assumption) ?rests33
        case hops33 => (simp only [List.getElem?_toArray, List.getElem?_cons_zero, List.getElem?_cons_succ]; rfl)
        case hss33 => kernel_rfl
        case hfs33 => kernel_rfl
        case hrs33 => kernel_rfl
        case hQs33 => exact fun _ _ _ h => h
        case hys33 => (refine Or.inl ⟨by rfl, ?_⟩; intro w hSw; (try dsimp only at hSw); (try obtain ⟨q0, q1, q2, q3, q4⟩ := hSw); go_simp <;> with_reducible rfl)
        try simp only [Act.put, List.setIfInBounds_toArray, List.set_cons_zero, List.set_cons_succ]
        refine wpAnyH_done (by kernel_rfl) ?_ _
        refine NoPanic.normal ?_
        go_wp2_with fail
        go_meet
        exact ⟨W0.heap.size + 1, CM, cpM, rfl, rfl, (CtxW.set ⟨(hz9m.out).ctx, (hz9m.out).fz⟩ hrM.out.1 (fun a h1 h2 => by have h3 := hrM.out.2 a h1; have h4 := hlt9.out; omega)).at', below_set5 hBM.out hge9.out _ _ _ _ _⟩
      go_simp
      go_at_call 12
      refine Calls.mono (show Calls _ _ _ _ _ from hCl.out (W0.drew.alloc (.cells #[.int .i64 c.c0, .int .i64 c.c1, .int .i64 c.c2, .int .i64 c.c3, .slice A c.l.length ca] 25)) ((hbD.out).alloc (hbD.out).size (.cells #[.int .i64 c.c0, .int .i64 c.c1, .int .i64 c.c2, .int .i64 c.c3, .slice A c.l.length ca] 25))) ?_
      rintro e wA ⟨vC, rfl, hoA0, hbA⟩
      have hBA : Hid (Below W0.heap.size W0 wA) := (((hbD.out).alloc (hbD.out).size (.cells #[.int .i64 c.c0, .int .i64 c.c1, .int .i64 c.c2, .int .i64 c.c3, .slice A c.l.length ca] 25))).trans (hbA.mono (((hbD.out).alloc (hbD.out).size (.cells #[.int .i64 c.c0, .int .i64 c.c1, .int .i64 c.c2, .int .i64 c.c3, .slice A c.l.length ca] 25))).size)
      have hoA : Hid (OwnCx wA W0.heap.size vC l) := hoA0.mono (((hbD.out).alloc (hbD.out).size (.cells #[.int .i64 c.c0, .int .i64 c.c1, .int .i64 c.c2, .int .i64 c.c3, .slice A c.l.length ca] 25))).size
      have hc3 : Hid (CtxAt wA (W0.heap.size) c A ca) := ((CtxAt.new (w := W0.drew) (c := c) (A := A) (cap := ca) 25 (hrA.out _ (hbD.out)) (B := W0.heap.size) (by first | rfl | ((repeat rw [szA]); done) | ((repeat rw [szA]); rfl)))).below hbA
      clear hbA hoA0
      refine hK.out _ _ ?_ (fun hHeld => ?_)
      · exact hKeep.out _ hBA.out
      clear hK K
      try simp only [Act.put, List.setIfInBounds_toArray, List.set_cons_zero, List.set_cons_succ]
      refine wpAnyH_ready (rs := [4, 9]) (by kernel_rfl) (by simp) ?_
      refine AllReadyH.cons (o := ?ois34) ?hops34 (fun K hK => ?steps34) ?mores34
      case hops34 => (simp only [List.getElem?_toArray, List.getElem?_cons_zero, List.getElem?_cons_succ]; rfl)
      case mores34 =>
        refine AllReadyH.cons (o := ?ois35) ?hops35 (fun K hK => ?steps35) ?mores35
        case hops35 => (simp only [List.getElem?_toArray, List.getElem?_cons_zero, List.getElem?_cons_succ]; rfl)
        case mores35 => exact AllReadyH.nil
        go_simp
        have hne : Hid (∀ g, vC.ownBlock = some g → g ≠ wA.heap.size) := fun g hg e => by have h1 := (World.ownsRow.lt (hoA.out) g hg).2; (repeat rw [szA] at h1); (try rw [szD] at h1); omega
        have hge9 : Hid (W0.heap.size ≤ wA.heap.size) := by have h1 := (hBA.out).size; (repeat rw [szA] at h1); (try rw [szD] at h1); show _ ≤ _; omega
        refine hK.out _ _ ?_ (fun hHeld => ?_)
        · exact hKeep.out _ ((hBA.out).alloc (hBA.out).size (.cells #[.int .i64 0, .int .i64 0, .int .i64 0, .int .i64 0, .slice none 0 0] 25))
        clear hK K
        try simp only [Act.put, List.setIfInBounds_toArray, List.set_cons_zero, List.set_cons_succ]
        refine wpAnyH_ready (rs := [4]) (by kernel_rfl) (by simp) ?_
        refine AllReadyH.cons (o := ?ois36) ?hops36 (fun K hK => ?steps36) ?mores36
        case hops36 => (simp only [List.getElem?_toArray, List.getElem?_cons_zero, List.getElem?_cons_succ]; rfl)
        case mores36 => exact AllReadyH.nil
        have hoX : Hid (OwnCx (wA.alloc (.cells #[.int .i64 0, .int .i64 0, .int .i64 0, .int .i64 0, .slice none 0 0] 25)) W0.heap.size vC l ∧ RowG encX 5 (wA.alloc (.cells #[.int .i64 0, .int .i64 0, .int .i64 0, .int .i64 0, .slice none 0 0] 25)) (some ⟨W0.heap.size, 0, none⟩) [cx] ∧ W0.heap.size ≤ (wA.alloc (.cells #[.int .i64 0, .int .i64 0, .int .i64 0, .int .i64 0, .slice none 0 0] 25)).heap.size) := ⟨((hoA.out).gr ((Gr.refl _).alloc (.cells #[.int .i64 0, .int .i64 0, .int .i64 0, .int .i64 0, .slice none 0 0] 25))), rowOneX (y := cx) (by rw [hcxH.out]; exact ((hc3.out).gr ((Gr.refl _).alloc (.cells #[.int .i64 0, .int .i64 0, .int .i64 0, .int .i64 0, .slice none 0 0] 25)))), (((hBA.out).alloc (hBA.out).size (.cells #[.int .i64 0, .int .i64 0, .int .i64 0, .int .i64 0, .slice none 0 0] 25))).size⟩
        refine step_append_cx _ rfl (.tmp 44) (.tmp 46) rfl W0.heap.size vC l [cx] (some ⟨W0.heap.size, 0, none⟩) 1 rfl rfl hoX.out.1 hoX.out.2.1 (fun h => by cases h) hlA.out.1 hlA.out.2 hoX.out.2.2 ?_
        intro vP wP hoP hgP
        rw [← hl2H.out] at hoP
        have hbP := OwnG.grown_below hoX.out.1 hgP hoX.out.2.2
        have hBP : Hid (Below W0.heap.size W0 wP) := (((hBA.out).alloc (hBA.out).size (.cells #[.int .i64 0, .int .i64 0, .int .i64 0, .int .i64 0, .slice none 0 0] 25))).trans hbP
        obtain ⟨AP, cpP, hvP, hAP, hrowP, _⟩ := OwnG.row encX_len hoP
        subst hvP
        have hxs : Hid (Cxs wP AP l2) := hCxs.out wP hBP.out AP hrowP
        have hz9' : Hid (ZAt wP (wA.heap.size)) := ZAt.grownB ((ZAt.new wA 25 (B := wA.heap.size) (by first | rfl | ((repeat rw [szA]); done) | ((repeat rw [szA]); rfl)))) hgP (fun e => hne.out _ e.symm rfl)
        clear hoP hgP hbP hrowP hoX
        refine hK.out _ _ ?_ (fun hHeld => ?_)
        · exact hKeep.out _ hBP.out
        clear hK K
        try simp only [Act.put, List.setIfInBounds_toArray, List.set_cons_zero, List.set_cons_succ]
        refine wpAnyH_ready (rs := [5]) (by kernel_rfl) (by simp) ?_
        refine AllReadyH.cons (o := ?ois37) ?hops37 (fun K hK => ?steps37) ?mores37
        case hops37 => (simp only [List.getElem?_toArray, List.getElem?_cons_zero, List.getElem?_cons_succ]; rfl)
        case mores37 => exact AllReadyH.nil
        go_simp
        go_at_call 5
        refine Calls.mono (show Calls _ _ _ _ _ from meet_any l2 AP cpP wP hl2m.out (hxs.out)) ?_
        rintro e wM ⟨CM, cpM, rfl, hrowM, _, _, hbM⟩
        have hBM : Hid (Below W0.heap.size W0 wM) := (hBP.out).trans (hbM.mono (hBP.out).size)
        have hlt9 : Hid (wA.heap.size < wP.heap.size) := (hz9'.out).lt
        have hz9m : Hid (ZAt wM (wA.heap.size)) := (hz9'.out).below hbM
        have hrM : Hid (Row wM CM (meetC l2).l ∧ ∀ a, CM = some a → wP.heap.size ≤ a.block) := ⟨hrowM, by assumption⟩
        clear hrowM hbM
        refine hK.out _ _ ?_ (fun hHeld => ?_)
        · exact hKeep.out _ hBM.out
        clear hK K
        try simp only [Act.put, List.setIfInBounds_toArray, List.set_cons_zero, List.set_cons_succ]
        refine wpAnyH_take (i := 6) (oi := ?ois38) (v := ?vs38) ?hops38 ?hss38 ?hfs38 ?hrs38 ?hQs38 ?hys38 (by assumption) ?rests38
        case hops38 => (simp only [List.getElem?_toArray, List.getElem?_cons_zero, List.getElem?_cons_succ]; rfl)
        case hss38 => kernel_rfl
        case hfs38 => kernel_rfl
        case hrs38 => kernel_rfl
        case hQs38 => exact fun _ _ _ h => h
        case hys38 => (refine Or.inl ⟨by rfl, ?_⟩; intro w hSw; (try dsimp only at hSw); (try obtain ⟨q0, q1, q2, q3, q4⟩ := hSw); go_simp <;> with_reducible rfl)
        try simp only [Act.put, List.setIfInBounds_toArray, List.set_cons_zero, List.set_cons_succ]
        refine wpAnyH_take (i := 7) (oi := ?ois39) (v := ?vs39) ?hops39 ?hss39 ?hfs39 ?hrs39 ?hQs39 ?hys39 (by assumption) ?rests39
        case hops39 => (simp only [List.getElem?_toArray, List.getElem?_cons_zero, List.getElem?_cons_succ]; rfl)
        case hss39 => kernel_rfl
        case hfs39 => kernel_rfl
        case hrs39 => kernel_rfl
        case hQs39 => exact fun _ _ _ h => h
        case hys39 => (refine Or.inl ⟨by rfl, ?_⟩; intro w hSw; (try dsimp only at hSw); (try obtain ⟨q0, q1, q2, q3, q4⟩ := hSw); go_simp <;> with_reducible rfl)
        try simp only [Act.put, List.setIfInBounds_toArray, List.set_cons_zero, List.set_cons_succ]
        refine wpAnyH_take (i := 8) (oi := ?ois40) (v := ?vs40) ?hops40 ?hss40 ?hfs40 ?hrs40 ?hQs40 ?hys40 (by assumption) ?rests40
        case hops40 => (simp only [List.getElem?_toArray, List.getElem?_cons_zero, List.getElem?_cons_succ]; rfl)
        case hss40 => kernel_rfl
        case hfs40 => kernel_rfl
        case hrs40 => kernel_rfl
        case hQs40 => exact fun _ _ _ h => h
        case hys40 => (refine Or.inl ⟨by rfl, ?_⟩; intro w hSw; (try dsimp only at hSw); (try obtain ⟨q0, q1, q2, q3, q4⟩ := hSw); go_simp <;> with_reducible rfl)
        try simp only [Act.put, List.setIfInBounds_toArray, List.set_cons_zero, List.set_cons_succ]
        refine wpAnyH_ready (rs := [10]) (by kernel_rfl) (by simp) ?_
        refine AllReadyH.cons (o := ?ois41) ?hops41 (fun K hK => ?steps41) ?mores41
        case hops41 => (simp only [List.getElem?_toArray, List.getElem?_cons_zero, List.getElem?_cons_succ]; rfl)
        case mores41 => exact AllReadyH.nil
        obtain ⟨z0, z1, z2, z3, z4, zf, zlt⟩ := (show ZAt _ _ from hz9m.out)
        go_simp
        refine hK.out _ _ ?_ (fun hHeld => ?_)
        · exact hKeep.out _ (below_set5 hBM.out hge9.out _ _ _ _ _)
        clear hK K
        try simp only [Act.put, List.setIfInBounds_toArray, List.set_cons_zero, List.set_cons_succ]
        refine wpAnyH_take (i := 11) (oi := ?ois42) (v := ?vs42) ?hops42 ?hss42 ?hfs42 ?hrs42 ?hQs42 ?hys42 (by assumption) ?rests42
        case hops42 => (simp only [List.getElem?_toArray, List.getElem?_cons_zero, List.getElem?_cons_succ]; rfl)
        case hss42 => kernel_rfl
        case hfs42 => kernel_rfl
        case hrs42 => kernel_rfl
        case hQs42 => exact fun _ _ _ h => h
        case hys42 => (refine Or.inl ⟨by rfl, ?_⟩; intro w hSw; (try dsimp only at hSw); (try obtain ⟨q0, q1, q2, q3, q4⟩ := hSw); go_simp <;> with_reducible rfl)
        try simp only [Act.put, List.setIfInBounds_toArray, List.set_cons_zero, List.set_cons_succ]
        refine wpAnyH_done (by kernel_rfl) ?_ _
        refine NoPanic.normal ?_
        go_wp2_with fail
        go_meet
        exact ⟨wA.heap.size, CM, cpM, rfl, rfl, (CtxW.set ⟨(hz9m.out).ctx, (hz9m.out).fz⟩ hrM.out.1 (fun a h1 h2 => by have h3 := hrM.out.2 a h1; have h4 := hlt9.out; omega)).at', below_set5 hBM.out hge9.out _ _ _ _ _⟩
      have hoX : Hid (OwnCx wA W0.heap.size vC l ∧ RowG encX 5 wA (some ⟨W0.heap.size, 0, none⟩) [cx] ∧ W0.heap.size ≤ wA.heap.size) := ⟨hoA.out, rowOneX (y := cx) (by rw [hcxH.out]; exact hc3.out), (hBA.out).size⟩
      refine step_append_cx _ rfl (.tmp 44) (.tmp 46) rfl W0.heap.size vC l [cx] (some ⟨W0.heap.size, 0, none⟩) 1 rfl rfl hoX.out.1 hoX.out.2.1 (fun h => by cases h) hlA.out.1 hlA.out.2 hoX.out.2.2 ?_
      intro vP wP hoP hgP
      rw [← hl2H.out] at hoP
      have hbP := OwnG.grown_below hoX.out.1 hgP hoX.out.2.2
      have hBP : Hid (Below W0.heap.size W0 wP) := (hBA.out).trans hbP
      obtain ⟨AP, cpP, hvP, hAP, hrowP, _⟩ := OwnG.row encX_len hoP
      subst hvP
      have hxs : Hid (Cxs wP AP l2) := hCxs.out wP hBP.out AP hrowP
      clear hoP hgP hbP hrowP hoX
      refine hK.out _ _ ?_ (fun hHeld => ?_)
      · exact hKeep.out _ hBP.out
      clear hK K
      try simp only [Act.put, List.setIfInBounds_toArray, List.set_cons_zero, List.set_cons_succ]
      refine wpAnyH_ready (rs := [5, 9]) (by kernel_rfl) (by simp) ?_
      refine AllReadyH.cons (o := ?ois43) ?hops43 (fun K hK => ?steps43) ?mores43
      case hops43 => (simp only [List.getElem?_toArray, List.getElem?_cons_zero, List.getElem?_cons_succ]; rfl)
      case mores43 =>
        refine AllReadyH.cons (o := ?ois44) ?hops44 (fun K hK => ?steps44) ?mores44
        case hops44 => (simp only [List.getElem?_toArray, List.getElem?_cons_zero, List.getElem?_cons_succ]; rfl)
        case mores44 => exact AllReadyH.nil
        go_simp
        have hge9 : Hid (W0.heap.size ≤ wP.heap.size) := by have h1 := (hBP.out).size; (repeat rw [szA] at h1); (try rw [szD] at h1); show _ ≤ _; omega
        refine hK.out _ _ ?_ (fun hHeld => ?_)
        · exact hKeep.out _ ((hBP.out).alloc (hBP.out).size (.cells #[.int .i64 0, .int .i64 0, .int .i64 0, .int .i64 0, .slice none 0 0] 25))
        clear hK K
        try simp only [Act.put, List.setIfInBounds_toArray, List.set_cons_zero, List.set_cons_succ]
        refine wpAnyH_ready (rs := [5]) (by kernel_rfl) (by simp) ?_
        refine AllReadyH.cons (o := ?ois45) ?hops45 (fun K hK => ?steps45) ?mores45
        case hops45 => (simp only [List.getElem?_toArray, List.getElem?_cons_zero, List.getElem?_cons_succ]; rfl)
        case mores45 => exact AllReadyH.nil
        go_simp
        go_at_call 5
        refine Calls.mono (show Calls _ _ _ _ _ from meet_any l2 AP cpP (wP.alloc (.cells #[.int .i64 0, .int .i64 0, .int .i64 0, .int .i64 0, .slice none 0 0] 25)) hl2m.out (hxs.out.gr ((Gr.refl _).alloc _))) ?_
        rintro e wM ⟨CM, cpM, rfl, hrowM, _, _, hbM⟩
        have hBM : Hid (Below W0.heap.size W0 wM) := (((hBP.out).alloc (hBP.out).size (.cells #[.int .i64 0, .int .i64 0, .int .i64 0, .int .i64 0, .slice none 0 0] 25))).trans (hbM.mono (((hBP.out).alloc (hBP.out).size (.cells #[.int .i64 0, .int .i64 0, .int .i64 0, .int .i64 0, .slice none 0 0] 25))).size)
        have hlt9 : Hid (wP.heap.size < (wP.alloc (.cells #[.int .i64 0, .int .i64 0, .int .i64 0, .int .i64 0, .slice none 0 0] 25)).heap.size) := ((ZAt.new wP 25 (B := wP.heap.size) (by first | rfl | ((repeat rw [szA]); done) | ((repeat rw [szA]); rfl)))).lt
        have hz9m : Hid (ZAt wM (wP.heap.size)) := ((ZAt.new wP 25 (B := wP.heap.size) (by first | rfl | ((repeat rw [szA]); done) | ((repeat rw [szA]); rfl)))).below hbM
        have hrM : Hid (Row wM CM (meetC l2).l ∧ ∀ a, CM = some a → (wP.alloc (.cells #[.int .i64 0, .int .i64 0, .int .i64 0, .int .i64 0, .slice none 0 0] 25)).heap.size ≤ a.block) := ⟨hrowM, by assumption⟩
        clear hrowM hbM
        refine hK.out _ _ ?_ (fun hHeld => ?_)
        · exact hKeep.out _ hBM.out
        clear hK K
        try simp only [Act.put, List.setIfInBounds_toArray, List.set_cons_zero, List.set_cons_succ]
        refine wpAnyH_take (i := 6) (oi := ?ois46) (v := ?vs46) ?hops46 ?hss46 ?hfs46 ?hrs46 ?hQs46 ?hys46 (by assumption) ?rests46
        case hops46 => (simp only [List.getElem?_toArray, List.getElem?_cons_zero, List.getElem?_cons_succ]; rfl)
        case hss46 => kernel_rfl
        case hfs46 => kernel_rfl
        case hrs46 => kernel_rfl
        case hQs46 => exact fun _ _ _ h => h
        case hys46 => (refine Or.inl ⟨by rfl, ?_⟩; intro w hSw; (try dsimp only at hSw); (try obtain ⟨q0, q1, q2, q3, q4⟩ := hSw); go_simp <;> with_reducible rfl)
        try simp only [Act.put, List.setIfInBounds_toArray, List.set_cons_zero, List.set_cons_succ]
        refine wpAnyH_take (i := 7) (oi := ?ois47) (v := ?vs47) ?hops47 ?hss47 ?hfs47 ?hrs47 ?hQs47 ?hys47 (by assumption) ?rests47
        case hops47 => (simp only [List.getElem?_toArray, List.getElem?_cons_zero, List.getElem?_cons_succ]; rfl)
        case hss47 => kernel_rfl
        case hfs47 => kernel_rfl
        case hrs47 => kernel_rfl
        case hQs47 => exact fun _ _ _ h => h
        case hys47 => (refine Or.inl ⟨by rfl, ?_⟩; intro w hSw; (try dsimp only at hSw); (try obtain ⟨q0, q1, q2, q3, q4⟩ := hSw); go_simp <;> with_reducible rfl)
        try simp only [Act.put, List.setIfInBounds_toArray, List.set_cons_zero, List.set_cons_succ]
        refine wpAnyH_take (i := 8) (oi := ?ois48) (v := ?vs48) ?hops48 ?hss48 ?hfs48 ?hrs48 ?hQs48 ?hys48 (by assumption) ?rests48
        case hops48 => (simp only [List.getElem?_toArray, List.getElem?_cons_zero, List.getElem?_cons_succ]; rfl)
        case hss48 => kernel_rfl
        case hfs48 => kernel_rfl
        case hrs48 => kernel_rfl
        case hQs48 => exact fun _ _ _ h => h
        case hys48 => (refine Or.inl ⟨by rfl, ?_⟩; intro w hSw; (try dsimp only at hSw); (try obtain ⟨q0, q1, q2, q3, q4⟩ := hSw); go_simp <;> with_reducible rfl)
        try simp only [Act.put, List.setIfInBounds_toArray, List.set_cons_zero, List.set_cons_succ]
        refine wpAnyH_ready (rs := [10]) (by kernel_rfl) (by simp) ?_
        refine AllReadyH.cons (o := ?ois49) ?hops49 (fun K hK => ?steps49) ?mores49
        case hops49 => (simp only [List.getElem?_toArray, List.getElem?_cons_zero, List.getElem?_cons_succ]; rfl)
        case mores49 => exact AllReadyH.nil
        obtain ⟨z0, z1, z2, z3, z4, zf, zlt⟩ := (show ZAt _ _ from hz9m.out)
        go_simp
        refine hK.out _ _ ?_ (fun hHeld => ?_)
        · exact hKeep.out _ (below_set5 hBM.out hge9.out _ _ _ _ _)
        clear hK K
        try simp only [Act.put, List.setIfInBounds_toArray, List.set_cons_zero, List.set_cons_succ]
        refine wpAnyH_take (i := 11) (oi := ?ois50) (v := ?vs50) ?hops50 ?hss50 ?hfs50 ?hrs50 ?hQs50 ?hys50 (by assumption) ?rests50
        case hops50 => (simp only [List.getElem?_toArray, List.getElem?_cons_zero, List.getElem?_cons_succ]; rfl)
        case hss50 => kernel_rfl
        case hfs50 => kernel_rfl
        case hrs50 => kernel_rfl
        case hQs50 => exact fun _ _ _ h => h
        case hys50 => (refine Or.inl ⟨by rfl, ?_⟩; intro w hSw; (try dsimp only at hSw); (try obtain ⟨q0, q1, q2, q3, q4⟩ := hSw); go_simp <;> with_reducible rfl)
        try simp only [Act.put, List.setIfInBounds_toArray, List.set_cons_zero, List.set_cons_succ]
        refine wpAnyH_done (by kernel_rfl) ?_ _
        refine NoPanic.normal ?_
        go_wp2_with fail
        go_meet
        exact ⟨wP.heap.size, CM, cpM, rfl, rfl, (CtxW.set ⟨(hz9m.out).ctx, (hz9m.out).fz⟩ hrM.out.1 (fun a h1 h2 => by have h3 := hrM.out.2 a h1; have h4 := hlt9.out; omega)).at', below_set5 hBM.out hge9.out _ _ _ _ _⟩
      go_simp
      go_at_call 5
      refine Calls.mono (show Calls _ _ _ _ _ from meet_any l2 AP cpP wP hl2m.out (hxs.out)) ?_
      rintro e wM ⟨CM, cpM, rfl, hrowM, _, _, hbM⟩
      have hBM : Hid (Below W0.heap.size W0 wM) := (hBP.out).trans (hbM.mono (hBP.out).size)
      have hrM : Hid (Row wM CM (meetC l2).l ∧ ∀ a, CM = some a → wP.heap.size ≤ a.block) := ⟨hrowM, by assumption⟩
      clear hrowM hbM
      refine hK.out _ _ ?_ (fun hHeld => ?_)
      · exact hKeep.out _ hBM.out
      clear hK K
      try simp only [Act.put, List.setIfInBounds_toArray, List.set_cons_zero, List.set_cons_succ]
      refine wpAnyH_take (i := 6) (oi := ?ois51) (v := ?vs51) ?hops51 ?hss51 ?hfs51 ?hrs51 ?hQs51 ?hys51 (by assumption) ?rests51
      case hops51 => (simp only [List.getElem?_toArray, List.getElem?_cons_zero, List.getElem?_cons_succ]; rfl)
      case hss51 => kernel_rfl
      case hfs51 => kernel_rfl
      case hrs51 => kernel_rfl
      case hQs51 => exact fun _ _ _ h => h
      case hys51 => (refine Or.inl ⟨by rfl, ?_⟩; intro w hSw; (try dsimp only at hSw); (try obtain ⟨q0, q1, q2, q3, q4⟩ := hSw); go_simp <;> with_reducible rfl)
      try simp only [Act.put, List.setIfInBounds_toArray, List.set_cons_zero, List.set_cons_succ]
      refine wpAnyH_take (i := 7) (oi := ?ois52) (v := ?vs52) ?hops52 ?hss52 ?hfs52 ?hrs52 ?hQs52 ?hys52 (by assumption) ?rests52
      case hops52 => (simp only [List.getElem?_toArray, List.getElem?_cons_zero, List.getElem?_cons_succ]; rfl)
      case hss52 => kernel_rfl
      case hfs52 => kernel_rfl
      case hrs52 => kernel_rfl
      case hQs52 => exact fun _ _ _ h => h
      case hys52 => (refine Or.inl ⟨by rfl, ?_⟩; intro w hSw; (try dsimp only at hSw); (try obtain ⟨q0, q1, q2, q3, q4⟩ := hSw); go_simp <;> with_reducible rfl)
      try simp only [Act.put, List.setIfInBounds_toArray, List.set_cons_zero, List.set_cons_succ]
      refine wpAnyH_take (i := 8) (oi := ?ois53) (v := ?vs53) ?hops53 ?hss53 ?hfs53 ?hrs53 ?hQs53 ?hys53 (by assumption) ?rests53
      case hops53 => (simp only [List.getElem?_toArray, List.getElem?_cons_zero, List.getElem?_cons_succ]; rfl)
      case hss53 => kernel_rfl
      case hfs53 => kernel_rfl
      case hrs53 => kernel_rfl
      case hQs53 => exact fun _ _ _ h => h
      case hys53 => (refine Or.inl ⟨by rfl, ?_⟩; intro w hSw; (try dsimp only at hSw); (try obtain ⟨q0, q1, q2, q3, q4⟩ := hSw); go_simp <;> with_reducible rfl)
      try simp only [Act.put, List.setIfInBounds_toArray, List.set_cons_zero, List.set_cons_succ]
      refine wpAnyH_ready (rs := [9]) (by kernel_rfl) (by simp) ?_
      refine AllReadyH.cons (o := ?ois54) ?hops54 (fun K hK => ?steps54) ?mores54
      case hops54 => (simp only [List.getElem?_toArray, List.getElem?_cons_zero, List.getElem?_cons_succ]; rfl)
      case mores54 => exact AllReadyH.nil
      go_simp
      have hge9 : Hid (W0.heap.size ≤ wM.heap.size) := by have h1 := (hBM.out).size; (repeat rw [szA] at h1); (try rw [szD] at h1); show _ ≤ _; omega
      refine hK.out _ _ ?_ (fun hHeld => ?_)
      · exact hKeep.out _ ((hBM.out).alloc (hBM.out).size (.cells #[.int .i64 0, .int .i64 0, .int .i64 0, .int .i64 0, .slice none 0 0] 25))
      clear hK K
      try simp only [Act.put, List.setIfInBounds_toArray, List.set_cons_zero, List.set_cons_succ]
      refine wpAnyH_ready (rs := [10]) (by kernel_rfl) (by simp) ?_
      refine AllReadyH.cons (o := ?ois55) ?hops55 (fun K hK => ?steps55) ?mores55
      case hops55 => (simp only [List.getElem?_toArray, List.getElem?_cons_zero, List.getElem?_cons_succ]; rfl)
      case mores55 => exact AllReadyH.nil
      go_simp
      refine hK.out _ _ ?_ (fun hHeld => ?_)
      · exact hKeep.out _ ((hBM.out).alloc (hBM.out).size _)
      clear hK K
      try simp only [Act.put, List.setIfInBounds_toArray, List.set_cons_zero, List.set_cons_succ]
      refine wpAnyH_take (i := 11) (oi := ?ois56) (v := ?vs56) ?hops56 ?hss56 ?hfs56 ?hrs56 ?hQs56 ?hys56 (by assumption) ?rests56
      case hops56 => (simp only [List.getElem?_toArray, List.getElem?_cons_zero, List.getElem?_cons_succ]; rfl)
      case hss56 => kernel_rfl
      case hfs56 => kernel_rfl
      case hrs56 => kernel_rfl
      case hQs56 => exact fun _ _ _ h => h
      case hys56 => (refine Or.inl ⟨by rfl, ?_⟩; intro w hSw; (try dsimp only at hSw); (try obtain ⟨q0, q1, q2, q3, q4⟩ := hSw); go_simp <;> with_reducible rfl)
      try simp only [Act.put, List.setIfInBounds_toArray, List.set_cons_zero, List.set_cons_succ]
      refine wpAnyH_done (by kernel_rfl) ?_ _
      refine NoPanic.normal ?_
      go_wp2_with fail
      go_meet
      exact ⟨wM.heap.size, CM, cpM, rfl, rfl, CtxAt.new 25 hrM.out.1 rfl, (hBM.out).alloc (hBM.out).size _⟩
    go_simp
    go_at_call 12
    refine Calls.mono (show Calls _ _ _ _ _ from hCl.out W0.drew hbD.out) ?_
    rintro e wA ⟨vC, rfl, hoA0, hbA⟩
    have hBA : Hid (Below W0.heap.size W0 wA) := (hbD.out).trans (hbA.mono (hbD.out).size)
    have hoA : Hid (OwnCx wA W0.heap.size vC l) := hoA0.mono (hbD.out).size
    clear hbA hoA0
    refine hK.out _ _ ?_ (fun hHeld => ?_)
    · exact hKeep.out _ hBA.out
    clear hK K
    try simp only [Act.put, List.setIfInBounds_toArray, List.set_cons_zero, List.set_cons_succ]
    refine wpAnyH_ready (rs := [3, 9]) (by kernel_rfl) (by simp) ?_
    refine AllReadyH.cons (o := ?ois57) ?hops57 (fun K hK => ?steps57) ?mores57
    case hops57 => (simp only [List.getElem?_toArray, List.getElem?_cons_zero, List.getElem?_cons_succ]; rfl)
    case mores57 =>
      refine AllReadyH.cons (o := ?ois58) ?hops58 (fun K hK => ?steps58) ?mores58
      case hops58 => (simp only [List.getElem?_toArray, List.getElem?_cons_zero, List.getElem?_cons_succ]; rfl)
      case mores58 => exact AllReadyH.nil
      go_simp
      have hne : Hid (∀ g, vC.ownBlock = some g → g ≠ wA.heap.size) := fun g hg e => by have h1 := (World.ownsRow.lt (hoA.out) g hg).2; (repeat rw [szA] at h1); (try rw [szD] at h1); omega
      have hge9 : Hid (W0.heap.size ≤ wA.heap.size) := by have h1 := (hBA.out).size; (repeat rw [szA] at h1); (try rw [szD] at h1); show _ ≤ _; omega
      refine hK.out _ _ ?_ (fun hHeld => ?_)
      · exact hKeep.out _ ((hBA.out).alloc (hBA.out).size (.cells #[.int .i64 0, .int .i64 0, .int .i64 0, .int .i64 0, .slice none 0 0] 25))
      clear hK K
      try simp only [Act.put, List.setIfInBounds_toArray, List.set_cons_zero, List.set_cons_succ]
      refine wpAnyH_ready (rs := [3]) (by kernel_rfl) (by simp) ?_
      refine AllReadyH.cons (o := ?ois59) ?hops59 (fun K hK => ?steps59) ?mores59
      case hops59 => (simp only [List.getElem?_toArray, List.getElem?_cons_zero, List.getElem?_cons_succ]; rfl)
      case mores59 => exact AllReadyH.nil
      go_simp
      refine hK.out _ _ ?_ (fun hHeld => ?_)
      · exact hKeep.out _ ((((hBA.out).alloc (hBA.out).size (.cells #[.int .i64 0, .int .i64 0, .int .i64 0, .int .i64 0, .slice none 0 0] 25))).alloc (((hBA.out).alloc (hBA.out).size (.cells #[.int .i64 0, .int .i64 0, .int .i64 0, .int .i64 0, .slice none 0 0] 25))).size (.cells #[.int .i64 c.c0, .int .i64 c.c1, .int .i64 c.c2, .int .i64 c.c3, .slice A c.l.length ca] 25))
      clear hK K
      try simp only [Act.put, List.setIfInBounds_toArray, List.set_cons_zero, List.set_cons_succ]
      refine wpAnyH_ready (rs := [4]) (by kernel_rfl) (by simp) ?_
      refine AllReadyH.cons (o := ?ois60) ?hops60 (fun K hK => ?steps60) ?mores60
      case hops60 => (simp only [List.getElem?_toArray, List.getElem?_cons_zero, List.getElem?_cons_succ]; rfl)
      case mores60 => exact AllReadyH.nil
      have hoX : Hid (OwnCx ((wA.alloc (.cells #[.int .i64 0, .int .i64 0, .int .i64 0, .int .i64 0, .slice none 0 0] 25)).alloc (.cells #[.int .i64 c.c0, .int .i64 c.c1, .int .i64 c.c2, .int .i64 c.c3, .slice A c.l.length ca] 25)) W0.heap.size vC l ∧ RowG encX 5 ((wA.alloc (.cells #[.int .i64 0, .int .i64 0, .int .i64 0, .int .i64 0, .slice none 0 0] 25)).alloc (.cells #[.int .i64 c.c0, .int .i64 c.c1, .int .i64 c.c2, .int .i64 c.c3, .slice A c.l.length ca] 25)) (some ⟨wA.heap.size + 1, 0, none⟩) [cx] ∧ W0.heap.size ≤ ((wA.alloc (.cells #[.int .i64 0, .int .i64 0, .int .i64 0, .int .i64 0, .slice none 0 0] 25)).alloc (.cells #[.int .i64 c.c0, .int .i64 c.c1, .int .i64 c.c2, .int .i64 c.c3, .slice A c.l.length ca] 25)).heap.size) := ⟨((((hoA.out).gr ((Gr.refl _).alloc (.cells #[.int .i64 0, .int .i64 0, .int .i64 0, .int .i64 0, .slice none 0 0] 25)))).gr ((Gr.refl _).alloc (.cells #[.int .i64 c.c0, .int .i64 c.c1, .int .i64 c.c2, .int .i64 c.c3, .slice A c.l.length ca] 25))), rowOneX (y := cx) (by rw [hcxH.out]; exact (CtxAt.new (w := (wA.alloc (.cells #[.int .i64 0, .int .i64 0, .int .i64 0, .int .i64 0, .slice none 0 0] 25))) (c := c) (A := A) (cap := ca) 25 (hrA.out _ (((hBA.out).alloc (hBA.out).size (.cells #[.int .i64 0, .int .i64 0, .int .i64 0, .int .i64 0, .slice none 0 0] 25)))) (B := wA.heap.size + 1) (by first | rfl | ((repeat rw [szA]); done) | ((repeat rw [szA]); rfl)))), (((((hBA.out).alloc (hBA.out).size (.cells #[.int .i64 0, .int .i64 0, .int .i64 0, .int .i64 0, .slice none 0 0] 25))).alloc (((hBA.out).alloc (hBA.out).size (.cells #[.int .i64 0, .int .i64 0, .int .i64 0, .int .i64 0, .slice none 0 0] 25))).size (.cells #[.int .i64 c.c0, .int .i64 c.c1, .int .i64 c.c2, .int .i64 c.c3, .slice A c.l.length ca] 25))).size⟩
      refine step_append_cx _ rfl (.tmp 44) (.tmp 46) rfl W0.heap.size vC l [cx] (some ⟨wA.heap.size + 1, 0, none⟩) 1 rfl rfl hoX.out.1 hoX.out.2.1 (fun h => by cases h) hlA.out.1 hlA.out.2 hoX.out.2.2 ?_
      intro vP wP hoP hgP
      rw [← hl2H.out] at hoP
      have hbP := OwnG.grown_below hoX.out.1 hgP hoX.out.2.2
      have hBP : Hid (Below W0.heap.size W0 wP) := (((((hBA.out).alloc (hBA.out).size (.cells #[.int .i64 0, .int .i64 0, .int .i64 0, .int .i64 0, .slice none 0 0] 25))).alloc (((hBA.out).alloc (hBA.out).size (.cells #[.int .i64 0, .int .i64 0, .int .i64 0, .int .i64 0, .slice none 0 0] 25))).size (.cells #[.int .i64 c.c0, .int .i64 c.c1, .int .i64 c.c2, .int .i64 c.c3, .slice A c.l.length ca] 25))).trans hbP
      obtain ⟨AP, cpP, hvP, hAP, hrowP, _⟩ := OwnG.row encX_len hoP
      subst hvP
      have hxs : Hid (Cxs wP AP l2) := hCxs.out wP hBP.out AP hrowP
      have hz9' : Hid (ZAt wP (wA.heap.size)) := ZAt.grownB ((((ZAt.new wA 25 (B := wA.heap.size) (by first | rfl | ((repeat rw [szA]); done) | ((repeat rw [szA]); rfl)))).gr ((Gr.refl _).alloc (.cells #[.int .i64 c.c0, .int .i64 c.c1, .int .i64 c.c2, .int .i64 c.c3, .slice A c.l.length ca] 25)))) hgP (fun e => hne.out _ e.symm rfl)
      clear hoP hgP hbP hrowP hoX
      refine hK.out _ _ ?_ (fun hHeld => ?_)
      · exact hKeep.out _ hBP.out
      clear hK K
      try simp only [Act.put, List.setIfInBounds_toArray, List.set_cons_zero, List.set_cons_succ]
      refine wpAnyH_ready (rs := [5]) (by kernel_rfl) (by simp) ?_
      refine AllReadyH.cons (o := ?ois61) ?hops61 (fun K hK => ?steps61) ?mores61
      case hops61 => (simp only [List.getElem?_toArray, List.getElem?_cons_zero, List.getElem?_cons_succ]; rfl)
      case mores61 => exact AllReadyH.nil
      go_simp
      go_at_call 5
      refine Calls.mono (show Calls _ _ _ _ _ from meet_any l2 AP cpP wP hl2m.out (hxs.out)) ?_
      rintro e wM ⟨CM, cpM, rfl, hrowM, _, _, hbM⟩
      have hBM : Hid (Below W0.heap.size W0 wM) := (hBP.out).trans (hbM.mono (hBP.out).size)
      have hlt9 : Hid (wA.heap.size < wP.heap.size) := (hz9'.out).lt
      have hz9m : Hid (ZAt wM (wA.heap.size)) := (hz9'.out).below hbM
      have hrM : Hid (Row wM CM (meetC l2).l ∧ ∀ a, CM = some a → wP.heap.size ≤ a.block) := ⟨hrowM, by assumption⟩
      clear hrowM hbM
      refine hK.out _ _ ?_ (fun hHeld => ?_)
      · exact hKeep.out _ hBM.out
      clear hK K
      try simp only [Act.put, List.setIfInBounds_toArray, List.set_cons_zero, List.set_cons_succ]
      refine wpAnyH_take (i := 6) (oi := ?ois62) (v := ?vs62) ?hops62 ?hss62 ?hfs62 ?hrs62 ?hQs62 ?hys62 (by assumption) ?rests62
      case hops62 => (simp only [List.getElem?_toArray, List.getElem?_cons_zero, List.getElem?_cons_succ]; rfl)
      case hss62 => kernel_rfl
      case hfs62 => kernel_rfl
      case hrs62 => kernel_rfl
      case hQs62 => exact fun _ _ _ h => h
      case hys62 => (refine Or.inl ⟨by rfl, ?_⟩; intro w hSw; (try dsimp only at hSw); (try obtain ⟨q0, q1, q2, q3, q4⟩ := hSw); go_simp <;> with_reducible rfl)
      try simp only [Act.put, List.setIfInBounds_toArray, List.set_cons_zero, List.set_cons_succ]
      refine wpAnyH_take (i := 7) (oi := ?ois63) (v := ?vs63) ?hops63 ?hss63 ?hfs63 ?hrs63 ?hQs63 ?hys63 (by assumption) ?rests63
      case hops63 => (simp only [List.getElem?_toArray, List.getElem?_cons_zero, List.getElem?_cons_succ]; rfl)
      case hss63 => kernel_rfl
      case hfs63 => kernel_rfl
      case hrs63 => kernel_rfl
      case hQs63 => exact fun _ _ _ h => h
      case hys63 => (refine Or.inl ⟨by rfl, ?_⟩; intro w hSw; (try dsimp only at hSw); (try obtain ⟨q0, q1, q2, q3, q4⟩ := hSw); go_simp <;> with_reducible rfl)
      try simp only [Act.put, List.setIfInBounds_toArray, List.set_cons_zero, List.set_cons_succ]
      refine wpAnyH_take (i := 8) (oi := ?ois64) (v := ?vs64) ?hops64 ?hss64 ?hfs64 ?hrs64 ?hQs64 ?hys64 (by assumption) ?rests64
      case hops64 => (simp only [List.getElem?_toArray, List.getElem?_cons_zero, List.getElem?_cons_succ]; rfl)
      case hss64 => kernel_rfl
      case hfs64 => kernel_rfl
      case hrs64 => kernel_rfl
      case hQs64 => exact fun _ _ _ h => h
      case hys64 => (refine Or.inl ⟨by rfl, ?_⟩; intro w hSw; (try dsimp only at hSw); (try obtain ⟨q0, q1, q2, q3, q4⟩ := hSw); go_simp <;> with_reducible rfl)
      try simp only [Act.put, List.setIfInBounds_toArray, List.set_cons_zero, List.set_cons_succ]
      refine wpAnyH_ready (rs := [10]) (by kernel_rfl) (by simp) ?_
      refine AllReadyH.cons (o := ?ois65) ?hops65 (fun K hK => ?steps65) ?mores65
      case hops65 => (simp only [List.getElem?_toArray, List.getElem?_cons_zero, List.getElem?_cons_succ]; rfl)
      case mores65 => exact AllReadyH.nil
      obtain ⟨z0, z1, z2, z3, z4, zf, zlt⟩ := (show ZAt _ _ from hz9m.out)
      go_simp
      refine hK.out _ _ ?_ (fun hHeld => ?_)
      · exact hKeep.out _ (below_set5 hBM.out hge9.out _ _ _ _ _)
      clear hK K
      try simp only [Act.put, List.setIfInBounds_toArray, List.set_cons_zero, List.set_cons_succ]
      refine wpAnyH_take (i := 11) (oi := ?ois66) (v := ?vs66) ?hops66 ?hss66 ?hfs66 ?hrs66 ?hQs66 ?hys66 (by assumption) ?rests66
      case hops66 => (simp only [List.getElem?_toArray, List.getElem?_cons_zero, List.getElem?_cons_succ]; rfl)
      case hss66 => kernel_rfl
      case hfs66 => kernel_rfl
      case hrs66 => kernel_rfl
      case hQs66 => exact fun _ _ _ h => h
      case hys66 => (refine Or.inl ⟨by rfl, ?_⟩; intro w hSw; (try dsimp only at hSw); (try obtain ⟨q0, q1, q2, q3, q4⟩ := hSw); go_simp <;> with_reducible rfl)
      try simp only [Act.put, List.setIfInBounds_toArray, List.set_cons_zero, List.set_cons_succ]
      refine wpAnyH_done (by kernel_rfl) ?_ _
      refine NoPanic.normal ?_
      go_wp2_with fail
      go_meet
      exact ⟨wA.heap.size, CM, cpM, rfl, rfl, (CtxW.set ⟨(hz9m.out).ctx, (hz9m.out).fz⟩ hrM.out.1 (fun a h1 h2 => by have h3 := hrM.out.2 a h1; have h4 := hlt9.out; omega)).at', below_set5 hBM.out hge9.out _ _ _ _ _⟩
    go_simp
    refine hK.out _ _ ?_ (fun hHeld => ?_)
    · exact hKeep.out _ ((hBA.out).alloc (hBA.out).size (.cells #[.int .i64 c.c0, .int .i64 c.c1, .int .i64 c.c2, .int .i64 c.c3, .slice A c.l.length ca] 25))
    clear hK K
    try simp only [Act.put, List.setIfInBounds_toArray, List.set_cons_zero, List.set_cons_succ]
    refine wpAnyH_ready (rs := [4, 9]) (by kernel_rfl) (by simp) ?_
    refine AllReadyH.cons (o := ?ois67) ?hops67 (fun K hK => ?steps67) ?mores67
    case hops67 => (simp only [List.getElem?_toArray, List.getElem?_cons_zero, List.getElem?_cons_succ]; rfl)
    case mores67 =>
      refine AllReadyH.cons (o := ?ois68) ?hops68 (fun K hK => ?steps68) ?mores68
      case hops68 => (simp only [List.getElem?_toArray, List.getElem?_cons_zero, List.getElem?_cons_succ]; rfl)
      case mores68 => exact AllReadyH.nil
      go_simp
      have hne : Hid (∀ g, vC.ownBlock = some g → g ≠ wA.heap.size + 1) := fun g hg e => by have h1 := (World.ownsRow.lt (((hoA.out).gr ((Gr.refl _).alloc (.cells #[.int .i64 c.c0, .int .i64 c.c1, .int .i64 c.c2, .int .i64 c.c3, .slice A c.l.length ca] 25)))) g hg).2; (repeat rw [szA] at h1); (try rw [szD] at h1); omega
      have hge9 : Hid (W0.heap.size ≤ wA.heap.size + 1) := by have h1 := (((hBA.out).alloc (hBA.out).size (.cells #[.int .i64 c.c0, .int .i64 c.c1, .int .i64 c.c2, .int .i64 c.c3, .slice A c.l.length ca] 25))).size; (repeat rw [szA] at h1); (try rw [szD] at h1); show _ ≤ _; omega
      refine hK.out _ _ ?_ (fun hHeld => ?_)
      · exact hKeep.out _ ((((hBA.out).alloc (hBA.out).size (.cells #[.int .i64 c.c0, .int .i64 c.c1, .int .i64 c.c2, .int .i64 c.c3, .slice A c.l.length ca] 25))).alloc (((hBA.out).alloc (hBA.out).size (.cells #[.int .i64 c.c0, .int .i64 c.c1, .int .i64 c.c2, .int .i64 c.c3, .slice A c.l.length ca] 25))).size (.cells #[.int .i64 0, .int .i64 0, .int .i64 0, .int .i64 0, .slice none 0 0] 25))
      clear hK K
      try simp only [Act.put, List.setIfInBounds_toArray, List.set_cons_zero, List.set_cons_succ]
      refine wpAnyH_ready (rs := [4]) (by kernel_rfl) (by simp) ?_
      refine AllReadyH.cons (o := ?ois69) ?hops69 (fun K hK => ?steps69) ?mores69
      case hops69 => (simp only [List.getElem?_toArray, List.getElem?_cons_zero, List.getElem?_cons_succ]; rfl)
      case mores69 => exact AllReadyH.nil
      have hoX : Hid (OwnCx ((wA.alloc (.cells #[.int .i64 c.c0, .int .i64 c.c1, .int .i64 c.c2, .int .i64 c.c3, .slice A c.l.length ca] 25)).alloc (.cells #[.int .i64 0, .int .i64 0, .int .i64 0, .int .i64 0, .slice none 0 0] 25)) W0.heap.size vC l ∧ RowG encX 5 ((wA.alloc (.cells #[.int .i64 c.c0, .int .i64 c.c1, .int .i64 c.c2, .int .i64 c.c3, .slice A c.l.length ca] 25)).alloc (.cells #[.int .i64 0, .int .i64 0, .int .i64 0, .int .i64 0, .slice none 0 0] 25)) (some ⟨wA.heap.size, 0, none⟩) [cx] ∧ W0.heap.size ≤ ((wA.alloc (.cells #[.int .i64 c.c0, .int .i64 c.c1, .int .i64 c.c2, .int .i64 c.c3, .slice A c.l.length ca] 25)).alloc (.cells #[.int .i64 0, .int .i64 0, .int .i64 0, .int .i64 0, .slice none 0 0] 25)).heap.size) := ⟨((((hoA.out).gr ((Gr.refl _).alloc (.cells #[.int .i64 c.c0, .int .i64 c.c1, .int .i64 c.c2, .int .i64 c.c3, .slice A c.l.length ca] 25)))).gr ((Gr.refl _).alloc (.cells #[.int .i64 0, .int .i64 0, .int .i64 0, .int .i64 0, .slice none 0 0] 25))), rowOneX (y := cx) (by rw [hcxH.out]; exact (((CtxAt.new (w := wA) (c := c) (A := A) (cap := ca) 25 (hrA.out _ (hBA.out)) (B := wA.heap.size) (by first | rfl | ((repeat rw [szA]); done) | ((repeat rw [szA]); rfl)))).gr ((Gr.refl _).alloc (.cells #[.int .i64 0, .int .i64 0, .int .i64 0, .int .i64 0, .slice none 0 0] 25)))), (((((hBA.out).alloc (hBA.out).size (.cells #[.int .i64 c.c0, .int .i64 c.c1, .int .i64 c.c2, .int .i64 c.c3, .slice A c.l.length ca] 25))).alloc (((hBA.out).alloc (hBA.out).size (.cells #[.int .i64 c.c0, .int .i64 c.c1, .int .i64 c.c2, .int .i64 c.c3, .slice A c.l.length ca] 25))).size (.cells #[.int .i64 0, .int .i64 0, .int .i64 0, .int .i64 0, .slice none 0 0] 25))).size⟩
      refine step_append_cx _ rfl (.tmp 44) (.tmp 46) rfl W0.heap.size vC l [cx] (some ⟨wA.heap.size, 0, none⟩) 1 rfl rfl hoX.out.1 hoX.out.2.1 (fun h => by cases h) hlA.out.1 hlA.out.2 hoX.out.2.2 ?_
      intro vP wP hoP hgP
      rw [← hl2H.out] at hoP
      have hbP := OwnG.grown_below hoX.out.1 hgP hoX.out.2.2
      have hBP : Hid (Below W0.heap.size W0 wP) := (((((hBA.out).alloc (hBA.out).size (.cells #[.int .i64 c.c0, .int .i64 c.c1, .int .i64 c.c2, .int .i64 c.c3, .slice A c.l.length ca] 25))).alloc (((hBA.out).alloc (hBA.out).size (.cells #[.int .i64 c.c0, .int .i64 c.c1, .int .i64 c.c2, .int .i64 c.c3, .slice A c.l.length ca] 25))).size (.cells #[.int .i64 0, .int .i64 0, .int .i64 0, .int .i64 0, .slice none 0 0] 25))).trans hbP
      obtain ⟨AP, cpP, hvP, hAP, hrowP, _⟩ := OwnG.row encX_len hoP
      subst hvP
      have hxs : Hid (Cxs wP AP l2) := hCxs.out wP hBP.out AP hrowP
      have hz9' : Hid (ZAt wP (wA.heap.size + 1)) := ZAt.grownB ((ZAt.new (wA.alloc (.cells #[.int .i64 c.c0, .int .i64 c.c1, .int .i64 c.c2, .int .i64 c.c3, .slice A c.l.length ca] 25)) 25 (B := wA.heap.size + 1) (by first | rfl | ((repeat rw [szA]); done) | ((repeat rw [szA]); rfl)))) hgP (fun e => hne.out _ e.symm rfl)
      clear hoP hgP hbP hrowP hoX
      refine hK.out _ _ ?_ (fun hHeld => ?_)
      · exact hKeep.out _ hBP.out
      clear hK K
      try simp only [Act.put, List.setIfInBounds_toArray, List.set_cons_zero, List.set_cons_succ]
      refine wpAnyH_ready (rs := [5]) (by kernel_rfl) (by simp) ?_
      refine AllReadyH.cons (o := ?ois70) ?hops70 (fun K hK => ?steps70) ?mores70
      case hops70 => (simp only [List.getElem?_toArray, List.getElem?_cons_zero, List.getElem?_cons_succ]; rfl)
      case mores70 => exact AllReadyH.nil
      go_simp
      go_at_call 5
      refine Calls.mono (show Calls _ _ _ _ _ from meet_any l2 AP cpP wP hl2m.out (hxs.out)) ?_
      rintro e wM ⟨CM, cpM, rfl, hrowM, _, _, hbM⟩
      have hBM : Hid (Below W0.heap.size W0 wM) := (hBP.out).trans (hbM.mono (hBP.out).size)
      have hlt9 : Hid (wA.heap.size + 1 < wP.heap.size) := (hz9'.out).lt
      have hz9m : Hid (ZAt wM (wA.heap.size + 1)) := (hz9'.out).below hbM
      have hrM : Hid (Row wM CM (meetC l2).l ∧ ∀ a, CM = some a → wP.heap.size ≤ a.block) := ⟨hrowM, by assumption⟩
      clear hrowM hbM
      refine hK.out _ _ ?_ (fun hHeld => ?_)
      · exact hKeep.out _ hBM.out
      clear hK K
      try simp only [Act.put, List.setIfInBounds_toArray, List.set_cons_zero, List.set_cons_succ]
      refine wpAnyH_take (i := 6) (oi := ?ois71) (v := ?vs71) ?hops71 ?hss71 ?hfs71 ?hrs71 ?hQs71 ?hys71 (by assumption) ?rests71
      case hops71 => (simp only [List.getElem?_toArray, List.getElem?_cons_zero, List.getElem?_cons_succ]; rfl)
      case hss71 => kernel_rfl
      case hfs71 => kernel_rfl
      case hrs71 => kernel_rfl
      case hQs71 => exact fun _ _ _ h => h
      case hys71 => (refine Or.inl ⟨by rfl, ?_⟩; intro w hSw; (try dsimp only at hSw); (try obtain ⟨q0, q1, q2, q3, q4⟩ := hSw); go_simp <;> with_reducible rfl)
      try simp only [Act.put, List.setIfInBounds_toArray, List.set_cons_zero, List.set_cons_succ]
      refine wpAnyH_take (i := 7) (oi := ?ois72) (v := ?vs72) ?hops72 ?hss72 ?hfs72 ?hrs72 ?hQs72 ?hys72 (by assumption) ?rests72
      case hops72 => (simp only [List.getElem?_toArray, List.getElem?_cons_zero, List.getElem?_cons_succ]; rfl)
      case hss72 => kernel_rfl
      case hfs72 => kernel_rfl
      case hrs72 => kernel_rfl
      case hQs72 => exact fun _ _ _ h => h
      case hys72 => (refine Or.inl ⟨by rfl, ?_⟩; intro w hSw; (try dsimp only at hSw); (try obtain ⟨q0, q1, q2, q3, q4⟩ := hSw); go_simp <;> with_reducible rfl)
      try simp only [Act.put, List.setIfInBounds_toArray, List.set_cons_zero, List.set_cons_succ]
      refine wpAnyH_take (i := 8) (oi := ?ois73) (v := ?vs73) ?hops73 ?hss73 ?hfs73 ?hrs73 ?hQs73 ?hys73 (by assumption) ?rests73
      case hops73 => (simp only [List.getElem?_toArray, List.getElem?_cons_zero, List.getElem?_cons_succ]; rfl)
      case hss73 => kernel_rfl
      case hfs73 => kernel_rfl
      case hrs73 => kernel_rfl
      case hQs73 => exact fun _ _ _ h => h
      case hys73 => (refine Or.inl ⟨by rfl, ?_⟩; intro w hSw; (try dsimp only at hSw); (try obtain ⟨q0, q1, q2, q3, q4⟩ := hSw); go_simp <;> with_reducible rfl)
      try simp only [Act.put, List.setIfInBounds_toArray, List.set_cons_zero, List.set_cons_succ]
      refine wpAnyH_ready (rs := [10]) (by kernel_rfl) (by simp) ?_
      refine AllReadyH.cons (o := ?ois74) ?hops74 (fun K hK => ?steps74) ?mores74
      case hops74 => (simp only [List.getElem?_toArray, List.getElem?_cons_zero, List.getElem?_cons_succ]; rfl)
      case mores74 => exact AllReadyH.nil
      obtain ⟨z0, z1, z2, z3, z4, zf, zlt⟩ := (show ZAt _ _ from hz9m.out)
      go_simp
      refine hK.out _ _ ?_ (fun hHeld => ?_)
      · exact hKeep.out _ (below_set5 hBM.out hge9.out _ _ _ _ _)
      clear hK K
      try simp only [Act.put, List.setIfInBounds_toArray, List.set_cons_zero, List.set_cons_succ]
      refine wpAnyH_take (i := 11) (oi := ?ois75) (v := ?vs75) ?hops75 ?hss75 ?hfs75 ?hrs75 ?hQs75 ?hys75 (by assumption) ?rests75
      case hops75 => (simp only [List.getElem?_toArray, List.getElem?_cons_zero, List.getElem?_cons_succ]; rfl)
      case hss75 => kernel_rfl
      case hfs75 => kernel_rfl
      case hrs75 => kernel_rfl
      case hQs75 => exact fun _ _ _ h => h
      case hys75 => (refine Or.inl ⟨by rfl, ?_⟩; intro w hSw; (try dsimp only at hSw); (try obtain ⟨q0, q1, q2, q3, q4⟩ := hSw); go_simp <;> with_reducible rfl)
      try simp only [Act.put, List.setIfInBounds_toArray, List.set_cons_zero, List.set_cons_succ]
      refine wpAnyH_done (by kernel_rfl) ?_ _
      refine NoPanic.normal ?_
      go_wp2_with fail
      go_meet
      exact ⟨wA.heap.size + 1, CM, cpM, rfl, rfl, (CtxW.set ⟨(hz9m.out).ctx, (hz9m.out).fz⟩ hrM.out.1 (fun a h1 h2 => by have h3 := hrM.out.2 a h1; have h4 := hlt9.out; omega)).at', below_set5 hBM.out hge9.out _ _ _ _ _⟩
    have hoX : Hid (OwnCx (wA.alloc (.cells #[.int .i64 c.c0, .int .i64 c.c1, .int .i64 c.c2, .int .i64 c.c3, .slice A c.l.length ca] 25)) W0.heap.size vC l ∧ RowG encX 5 (wA.alloc (.cells #[.int .i64 c.c0, .int .i64 c.c1, .int .i64 c.c2, .int .i64 c.c3, .slice A c.l.length ca] 25)) (some ⟨wA.heap.size, 0, none⟩) [cx] ∧ W0.heap.size ≤ (wA.alloc (.cells #[.int .i64 c.c0, .int .i64 c.c1, .int .i64 c.c2, .int .i64 c.c3, .slice A c.l.length ca] 25)).heap.size) := ⟨((hoA.out).gr ((Gr.refl _).alloc (.cells #[.int .i64 c.c0, .int .i64 c.c1, .int .i64 c.c2, .int .i64 c.c3, .slice A c.l.length ca] 25))), rowOneX (y := cx) (by rw [hcxH.out]; exact (CtxAt.new (w := wA) (c := c) (A := A) (cap := ca) 25 (hrA.out _ (hBA.out)) (B := wA.heap.size) (by first | rfl | ((repeat rw [szA]); done) | ((repeat rw [szA]); rfl)))), (((hBA.out).alloc (hBA.out).size (.cells #[.int .i64 c.c0, .int .i64 c.c1, .int .i64 c.c2, .int .i64 c.c3, .slice A c.l.length ca] 25))).size⟩
    refine step_append_cx _ rfl (.tmp 44) (.tmp 46) rfl W0.heap.size vC l [cx] (some ⟨wA.heap.size, 0, none⟩) 1 rfl rfl hoX.out.1 hoX.out.2.1 (fun h => by cases h) hlA.out.1 hlA.out.2 hoX.out.2.2 ?_
    intro vP wP hoP hgP
    rw [← hl2H.out] at hoP
    have hbP := OwnG.grown_below hoX.out.1 hgP hoX.out.2.2
    have hBP : Hid (Below W0.heap.size W0 wP) := (((hBA.out).alloc (hBA.out).size (.cells #[.int .i64 c.c0, .int .i64 c.c1, .int .i64 c.c2, .int .i64 c.c3, .slice A c.l.length ca] 25))).trans hbP
    obtain ⟨AP, cpP, hvP, hAP, hrowP, _⟩ := OwnG.row encX_len hoP
    subst hvP
    have hxs : Hid (Cxs wP AP l2) := hCxs.out wP hBP.out AP hrowP
    clear hoP hgP hbP hrowP hoX
    refine hK.out _ _ ?_ (fun hHeld => ?_)
    · exact hKeep.out _ hBP.out
    clear hK K
    try simp only [Act.put, List.setIfInBounds_toArray, List.set_cons_zero, List.set_cons_succ]
    refine wpAnyH_ready (rs := [5, 9]) (by kernel_rfl) (by simp) ?_
    refine AllReadyH.cons (o := ?ois76) ?hops76 (fun K hK => ?steps76) ?mores76
    case hops76 => (simp only [List.getElem?_toArray, List.getElem?_cons_zero, List.getElem?_cons_succ]; rfl)
    case mores76 =>
      refine AllReadyH.cons (o := ?ois77) ?hops77 (fun K hK => ?steps77) ?mores77
      case hops77 => (simp only [List.getElem?_toArray, List.getElem?_cons_zero, List.getElem?_cons_succ]; rfl)
      case mores77 => exact AllReadyH.nil
      go_simp
      have hge9 : Hid (W0.heap.size ≤ wP.heap.size) := by have h1 := (hBP.out).size; (repeat rw [szA] at h1); (try rw [szD] at h1); show _ ≤ _; omega
      refine hK.out _ _ ?_ (fun hHeld => ?_)
      · exact hKeep.out _ ((hBP.out).alloc (hBP.out).size (.cells #[.int .i64 0, .int .i64 0, .int .i64 0, .int .i64 0, .slice none 0 0] 25))
      clear hK K
      try simp only [Act.put, List.setIfInBounds_toArray, List.set_cons_zero, List.set_cons_succ]
      refine wpAnyH_ready (rs := [5]) (by kernel_rfl) (by simp) ?_
      refine AllReadyH.cons (o := ?ois78) ?hops78 (fun K hK => ?steps78) ?mores78
      case hops78 => (simp only [List.getElem?_toArray, List.getElem?_cons_zero, List.getElem?_cons_succ]; rfl)
      case mores78 => exact AllReadyH.nil
      go_simp
      go_at_call 5
      refine Calls.mono (show Calls _ _ _ _ _ from meet_any l2 AP cpP (wP.alloc (.cells #[.int .i64 0, .int .i64 0, .int .i64 0, .int .i64 0, .slice none 0 0] 25)) hl2m.out (hxs.out.gr ((Gr.refl _).alloc _))) ?_
      rintro e wM ⟨CM, cpM, rfl, hrowM, _, _, hbM⟩
      have hBM : Hid (Below W0.heap.size W0 wM) := (((hBP.out).alloc (hBP.out).size (.cells #[.int .i64 0, .int .i64 0, .int .i64 0, .int .i64 0, .slice none 0 0] 25))).trans (hbM.mono (((hBP.out).alloc (hBP.out).size (.cells #[.int .i64 0, .int .i64 0, .int .i64 0, .int .i64 0, .slice none 0 0] 25))).size)
      have hlt9 : Hid (wP.heap.size < (wP.alloc (.cells #[.int .i64 0, .int .i64 0, .int .i64 0, .int .i64 0, .slice none 0 0] 25)).heap.size) := ((ZAt.new wP 25 (B := wP.heap.size) (by first | rfl | ((repeat rw [szA]); done) | ((repeat rw [szA]); rfl)))).lt
      have hz9m : Hid (ZAt wM (wP.heap.size)) := ((ZAt.new wP 25 (B := wP.heap.size) (by first | rfl | ((repeat rw [szA]); done) | ((repeat rw [szA]); rfl)))).below hbM
      have hrM : Hid (Row wM CM (meetC l2).l ∧ ∀ a, CM = some a → (wP.alloc (.cells #[.int .i64 0, .int .i64 0, .int .i64 0, .int .i64 0, .slice none 0 0] 25)).heap.size ≤ a.block) := ⟨hrowM, by assumption⟩
      clear hrowM hbM
      refine hK.out _ _ ?_ (fun hHeld => ?_)
      · exact hKeep.out _ hBM.out
      clear hK K
      try simp only [Act.put, List.setIfInBounds_toArray, List.set_cons_zero, List.set_cons_succ]
      refine wpAnyH_take (i := 6) (oi := ?ois79) (v := ?vs79) ?hops79 ?hss79 ?hfs79 ?hrs79 ?hQs79 ?hys79 (by assumption) ?rests79
      case hops79 => (simp only [List.getElem?_toArray, List.getElem?_cons_zero, List.getElem?_cons_succ]; rfl)
      case hss79 => kernel_rfl
      case hfs79 => kernel_rfl
      case hrs79 => kernel_rfl
      case hQs79 => exact fun _ _ _ h => h
      case hys79 => (refine Or.inl ⟨by rfl, ?_⟩; intro w hSw; (try dsimp only at hSw); (try obtain ⟨q0, q1, q2, q3, q4⟩ := hSw); go_simp <;> with_reducible rfl)
      try simp only [Act.put, List.setIfInBounds_toArray, List.set_cons_zero, List.set_cons_succ]
      refine wpAnyH_take (i := 7) (oi := ?ois80) (v := ?vs80) ?hops80 ?hss80 ?hfs80 ?hrs80 ?hQs80 ?hys80 (by assumption) ?rests80
      case hops80 => (simp only [List.getElem?_toArray, List.getElem?_cons_zero, List.getElem?_cons_succ]; rfl)
      case hss80 => kernel_rfl
      case hfs80 => kernel_rfl
      case hrs80 => kernel_rfl
      case hQs80 => exact fun _ _ _ h => h
      case hys80 => (refine Or.inl ⟨by rfl, ?_⟩; intro w hSw; (try dsimp only at hSw); (try obtain ⟨q0, q1, q2, q3, q4⟩ := hSw); go_simp <;> with_reducible rfl)
      try simp only [Act.put, List.setIfInBounds_toArray, List.set_cons_zero, List.set_cons_succ]
      refine wpAnyH_take (i := 8) (oi := ?ois81) (v := ?vs81) ?hops81 ?hss81 ?hfs81 ?hrs81 ?hQs81 ?hys81 (by assumption) ?rests81
      case hops81 => (simp only [List.getElem?_toArray, List.getElem?_cons_zero, List.getElem?_cons_succ]; rfl)
      case hss81 => kernel_rfl
      case hfs81 => kernel_rfl
      case hrs81 => kernel_rfl
      case hQs81 => exact fun _ _ _ h => h
      case hys81 => (refine Or.inl ⟨by rfl, ?_⟩; intro w hSw; (try dsimp only at hSw); (try obtain ⟨q0, q1, q2, q3, q4⟩ := hSw); go_simp <;> with_reducible rfl)
      try simp only [Act.put, List.setIfInBounds_toArray, List.set_cons_zero, List.set_cons_succ]
      refine wpAnyH_ready (rs := [10]) (by kernel_rfl) (by simp) ?_
      refine AllReadyH.cons (o := ?ois82) ?hops82 (fun K hK => ?steps82) ?mores82
      case hops82 => (simp only [List.getElem?_toArray, List.getElem?_cons_zero, List.getElem?_cons_succ]; rfl)
      case mores82 => exact AllReadyH.nil
      obtain ⟨z0, z1, z2, z3, z4, zf, zlt⟩ := (show ZAt _ _ from hz9m.out)
      go_simp
      refine hK.out _ _ ?_ (fun hHeld => ?_)
      · exact hKeep.out _ (below_set5 hBM.out hge9.out _ _ _ _ _)
      clear hK K
      try simp only [Act.put, List.setIfInBounds_toArray, List.set_cons_zero, List.set_cons_succ]
      refine wpAnyH_take (i := 11) (oi := ?ois83) (v := ?vs83) ?hops83 ?hss83 ?hfs83 ?hrs83 ?hQs83 ?hys83 (by assumption) ?rests83
      case hops83 => (simp only [List.getElem?_toArray, List.getElem?_cons_zero, List.getElem?_cons_succ]; rfl)
      case hss83 => kernel_rfl
      case hfs83 => kernel_rfl
      case hrs83 => kernel_rfl
      case hQs83 => exact fun _ _ _ h => h
      case hys83 => (refine Or.inl ⟨by rfl, ?_⟩; intro w hSw; (try dsimp only at hSw); (try obtain ⟨q0, q1, q2, q3, q4⟩ := hSw); go_simp <;> with_reducible rfl)
      try simp only [Act.put, List.setIfInBounds_toArray, List.set_cons_zero, List.set_cons_succ]
      refine wpAnyH_done (by kernel_rfl) ?_ _
      refine NoPanic.normal ?_
      go_wp2_with fail
      go_meet
      exact ⟨wP.heap.size, CM, cpM, rfl, rfl, (CtxW.set ⟨(hz9m.out).ctx, (hz9m.out).fz⟩ hrM.out.1 (fun a h1 h2 => by have h3 := hrM.out.2 a h1; have h4 := hlt9.out; omega)).at', below_set5 hBM.out hge9.out _ _ _ _ _⟩
    go_simp
    go_at_call 5
    refine Calls.mono (show Calls _ _ _ _ _ from meet_any l2 AP cpP wP hl2m.out (hxs.out)) ?_
    rintro e wM ⟨CM, cpM, rfl, hrowM, _, _, hbM⟩
    have hBM : Hid (Below W0.heap.size W0 wM) := (hBP.out).trans (hbM.mono (hBP.out).size)
    have hrM : Hid (Row wM CM (meetC l2).l ∧ ∀ a, CM = some a → wP.heap.size ≤ a.block) := ⟨hrowM, by assumption⟩
    clear hrowM hbM
    refine hK.out _ _ ?_ (fun hHeld => ?_)
    · exact hKeep.out _ hBM.out
    clear hK K
    try simp only [Act.put, List.setIfInBounds_toArray, List.set_cons_zero, List.set_cons_succ]
    refine wpAnyH_take (i := 6) (oi := ?ois84) (v := ?vs84) ?hops84 ?hss84 ?hfs84 ?hrs84 ?hQs84 ?hys84 (by assumption) ?rests84
    case hops84 => (simp only [List.getElem?_toArray, List.getElem?_cons_zero, List.getElem?_cons_succ]; rfl)
    case hss84 => kernel_rfl
    case hfs84 => kernel_rfl
    case hrs84 => kernel_rfl
    case hQs84 => exact fun _ _ _ h => h
    case hys84 => (refine Or.inl ⟨by rfl, ?_⟩; intro w hSw; (try dsimp only at hSw); (try obtain ⟨q0, q1, q2, q3, q4⟩ := hSw); go_simp <;> with_reducible rfl)
    try simp only [Act.put, List.setIfInBounds_toArray, List.set_cons_zero, List.set_cons_succ]
    refine wpAnyH_take (i := 7) (oi := ?ois85) (v := ?vs85) ?hops85 ?hss85 ?hfs85 ?hrs85 ?hQs85 ?hys85 (by assumption) ?rests85
    case hops85 => (simp only [List.getElem?_toArray, List.getElem?_cons_zero, List.getElem?_cons_succ]; rfl)
    case hss85 => kernel_rfl
    case hfs85 => kernel_rfl
    case hrs85 => kernel_rfl
    case hQs85 => exact fun _ _ _ h => h
    case hys85 => (refine Or.inl ⟨by rfl, ?_⟩; intro w hSw; (try dsimp only at hSw); (try obtain ⟨q0, q1, q2, q3, q4⟩ := hSw); go_simp <;> with_reducible rfl)
    try simp only [Act.put, List.setIfInBounds_toArray, List.set_cons_zero, List.set_cons_succ]
    refine wpAnyH_take (i := 8) (oi := ?ois86) (v := ?vs86) ?hops86 ?hss86 ?hfs86 ?hrs86 ?hQs86 ?hys86 (by assumption) ?rests86
    case hops86 => (simp only [List.getElem?_toArray, List.getElem?_cons_zero, List.getElem?_cons_succ]; rfl)
    case hss86 => kernel_rfl
    case hfs86 => kernel_rfl
    case hrs86 => kernel_rfl
    case hQs86 => exact fun _ _ _ h => h
    case hys86 => (refine Or.inl ⟨by rfl, ?_⟩; intro w hSw; (try dsimp only at hSw); (try obtain ⟨q0, q1, q2, q3, q4⟩ := hSw); go_simp <;> with_reducible rfl)
    try simp only [Act.put, List.setIfInBounds_toArray, List.set_cons_zero, List.set_cons_succ]
    refine wpAnyH_ready (rs := [9]) (by kernel_rfl) (by simp) ?_
    refine AllReadyH.cons (o := ?ois87) ?hops87 (fun K hK => ?steps87) ?mores87
    case hops87 => (simp only [List.getElem?_toArray, List.getElem?_cons_zero, List.getElem?_cons_succ]; rfl)
    case mores87 => exact AllReadyH.nil
    go_simp
    have hge9 : Hid (W0.heap.size ≤ wM.heap.size) := by have h1 := (hBM.out).size; (repeat rw [szA] at h1); (try rw [szD] at h1); show _ ≤ _; omega
    refine hK.out _ _ ?_ (fun hHeld => ?_)
    · exact hKeep.out _ ((hBM.out).alloc (hBM.out).size (.cells #[.int .i64 0, .int .i64 0, .int .i64 0, .int .i64 0, .slice none 0 0] 25))
    clear hK K
    try simp only [Act.put, List.setIfInBounds_toArray, List.set_cons_zero, List.set_cons_succ]
    refine wpAnyH_ready (rs := [10]) (by kernel_rfl) (by simp) ?_
    refine AllReadyH.cons (o := ?ois88) ?hops88 (fun K hK => ?steps88) ?mores88
    case hops88 => (simp only [List.getElem?_toArray, List.getElem?_cons_zero, List.getElem?_cons_succ]; rfl)
    case mores88 => exact AllReadyH.nil
    go_simp
    refine hK.out _ _ ?_ (fun hHeld => ?_)
    · exact hKeep.out _ ((hBM.out).alloc (hBM.out).size _)
    clear hK K
    try simp only [Act.put, List.setIfInBounds_toArray, List.set_cons_zero, List.set_cons_succ]
    refine wpAnyH_take (i := 11) (oi := ?ois89) (v := ?vs89) ?hops89 ?hss89 ?hfs89 ?hrs89 ?hQs89 ?hys89 (by assumption) ?rests89
    case hops89 => (simp only [List.getElem?_toArray, List.getElem?_cons_zero, List.getElem?_cons_succ]; rfl)
    case hss89 => kernel_rfl
    case hfs89 => kernel_rfl
    case hrs89 => kernel_rfl
    case hQs89 => exact fun _ _ _ h => h
    case hys89 => (refine Or.inl ⟨by rfl, ?_⟩; intro w hSw; (try dsimp only at hSw); (try obtain ⟨q0, q1, q2, q3, q4⟩ := hSw); go_simp <;> with_reducible rfl)
    try simp only [Act.put, List.setIfInBounds_toArray, List.set_cons_zero, List.set_cons_succ]
    refine wpAnyH_done (by kernel_rfl) ?_ _
    refine NoPanic.normal ?_
    go_wp2_with fail
    go_meet
    exact ⟨wM.heap.size, CM, cpM, rfl, rfl, CtxAt.new 25 hrM.out.1 rfl, (hBM.out).alloc (hBM.out).size _⟩
  case rest =>
    obtain ⟨B, Y, cy, rfl, rfl, hY, hb5⟩ := hcut
    obtain ⟨y, hy⟩ : ∃ y, meetC l2 = y := ⟨_, rfl⟩
    obtain ⟨ey, hey⟩ : ∃ e, meetE l2 = e := ⟨_, rfl⟩
    rw [hy] at hY
    have hyH : Hid (meetC l2 = y ∧ meetE l2 = ey) := ⟨hy, hey⟩
    rw [hey]
    clear hy hey
    have hC5 := hC4.below hb5
    have hD5 := hD4.below hb5
    have hX5 := hX4.below hb5
    have hbw5 : Hid (Below w.heap.size w wc) := hbw4.out.trans (hb5.mono hbw4.out.size)
    clear hC4 hD4 hX4 hbw4 hb5
    have hxl : Hid (x.l.length ≤ maxLen) := by show _ ≤ _; rw [← hxH.out.1]; have := meetC_len l; unfold maxLen; omega
    have hyl : Hid (y.l.length ≤ maxLen) := by show _ ≤ _; rw [← hyH.out.1]; have := meetC_len l2; unfold maxLen; omega
    by_cases he : ex = 0
    · have heb : (ex == 0) = true := by simpa using he
      have hok : Hid (errC x = 0 ∧ (∀ z, hasB x z = allB l z) ∧ (ey = 0 → lessR y x = true ∧ errB y x = 0)) := by
        have h1 := meetE_ok (l := l) (hxH.out.2.trans he)
        rw [hxH.out.1] at h1
        refine ⟨h1.2.2.2.1, h1.2.2.2.2, fun h => ?_⟩
        have := meet_less (l := l) (y := cx) (hxH.out.2.trans he) (by rw [← hl2H.out]; exact hyH.out.2.trans h)
        rw [← hl2H.out, hxH.out.1, hyH.out.1] at this
        exact this
      clear he
      have hcf := containsFuncX_any d (w.heap.size + 1) l L lc wc hlm.out (hH.out.1.below hbw5.out) hD5.lt hD5.k0 hD5.k1
      have hcfH : Hid _ := hcf
      clear hcf
      go_wp2_with fail
      refine Calls.mono (show Calls _ _ _ _ _ from hcfH.out) ?_
      rintro e w6 ⟨rfl, hg6⟩
      clear hcfH
      have hC6 := hC5.gr hg6
      have hD6 := hD5.gr hg6
      have hX6 := hX5.gr hg6
      have hY6 := hY.gr hg6
      have hbw6 : Hid (Below w.heap.size w w6) := hbw5.out.trans (hg6.below.mono hbw5.out.size)
      have hneg : (!anyX d l) = hasB x d := by rw [anyX_not, hok.out.2.1]
      have hha := has_any x C cp d w6 hxl.out hX6.row
      have hhaH : Hid _ := hha
      obtain ⟨x0, x1, x2, x3, x4, xlt, xrow⟩ := (show CtxAt _ _ _ _ _ from hX6)
      obtain ⟨d0, d1, dlt⟩ := (show DotAt _ _ _ _ from hD6)
      clear hC5 hD5 hX5 hY hg6 hbw5 hha
      go_wp2_with fail
      refine Calls.mono (show Calls _ _ _ _ _ from hhaH.out) ?_
      rintro e w7 ⟨rfl, hg7⟩
      clear hhaH x0 x1 x2 x3 x4 xlt xrow d0 d1 dlt
      have hC7 := hC6.gr hg7
      have hX7 := hX6.gr hg7
      have hY7 := hY6.gr hg7
      have hbw7 : Hid (Below w.heap.size w w7) := hbw6.out.trans (hg7.below.mono hbw6.out.size)
      have hnb : (hasB x d != hasB x d) = false := by simp
      have hchk := check_any x C cp w7 hxl.out hX7.row
      rw [hok.out.1] at hchk
      have hchkH : Hid _ := hchk
      obtain ⟨x0, x1, x2, x3, x4, xlt, xrow⟩ := (show CtxAt _ _ _ _ _ from hX7)
      clear hC6 hD6 hX6 hY6 hg7 hbw6 hchk
      go_wp2_with fail
      refine Calls.mono (show Calls _ _ _ _ _ from hchkH.out) ?_
      rintro e w8 ⟨rfl, hg8⟩
      clear hchkH x0 x1 x2 x3 x4 xlt xrow
      have hC8 := hC7.gr hg8
      have hX8 := hX7.gr hg8
      have hY8 := hY7.gr hg8
      have hbw8 : Hid (Below w.heap.size w w8) := hbw7.out.trans (hg8.below.mono hbw7.out.size)
      have hle := less_any y x Y C cy cp w8 hyl.out hxl.out hY8.row hX8.row
      obtain ⟨lr, hlr⟩ : ∃ r, lessR y x = r := ⟨_, rfl⟩
      obtain ⟨le, hle0⟩ : ∃ e, errB y x = e := ⟨_, rfl⟩
      rw [hlr, hle0] at hle
      have hleH : Hid _ := hle
      have hlrH : Hid (ey = 0 → lr = true ∧ le = 0) := fun h => by rw [← hlr, ← hle0]; exact hok.out.2.2 h
      obtain ⟨x0, x1, x2, x3, x4, xlt, xrow⟩ := (show CtxAt _ _ _ _ _ from hX8)
      obtain ⟨y0, y1, y2, y3, y4, ylt, yrow⟩ := (show CtxAt _ _ _ _ _ from hY8)
      clear hC7 hX7 hY7 hg8 hbw7 hle hlr hle0
      go_wp2_with fail
      refine Calls.mono (show Calls _ _ _ _ _ from hleH.out) ?_
      rintro e w9 ⟨rfl, hg9⟩
      clear hleH x0 x1 x2 x3 x4 xlt xrow y0 y1 y2 y3 y4 ylt yrow
      have hCz := hC8.gr hg9
      have hbwz : Hid (Below w.heap.size w w9) := hbw8.out.trans (hg9.below.mono hbw8.out.size)
      clear hC8 hX8 hY8 hg9 hbw8
      by_cases hey : ey = 0
      · have heyb : (ey == 0) = true := by simpa using hey
        obtain ⟨rfl, rfl⟩ := hlrH.out hey
        clear hey
        have hgo : Gr w9 (w9.alloc (.cells #[.int .i64 c.c0, .int .i64 c.c1, .int .i64 c.c2, .int .i64 c.c3, .slice A c.l.length ca] 25)) := (Gr.refl _).alloc _
        have hone : Cxs (w9.alloc (.cells #[.int .i64 c.c0, .int .i64 c.c1, .int .i64 c.c2, .int .i64 c.c3, .slice A c.l.length ca] 25)) (some ⟨w9.heap.size, 0, none⟩) [cx] := by
          have h0 : CtxAt (w9.alloc (.cells #[.int .i64 c.c0, .int .i64 c.c1, .int .i64 c.c2, .int .i64 c.c3, .slice A c.l.length ca] 25)) w9.heap.size c A ca := CtxAt.new 25 hCz.row rfl
          refine ⟨rowOneX (y := cx) (by rw [hH.out.2.2.2.2.2.1]; exact h0), fun z hz => ?_⟩
          obtain rfl : z = cx := by simpa using hz
          rw [hH.out.2.2.2.2.2.1]
          exact ⟨h0.row, hH.out.2.2.2.1, hH.out.2.2.2.2.1⟩
        have hmo := meet_any [cx] (some ⟨w9.heap.size, 0, none⟩) 1 _ (by unfold maxLen; simp) hone
        have hmo1 := meet_one cx
        have hcc : cx.c = c := by rw [hH.out.2.2.2.2.2.1]
        rw [hcc] at hmo1
        rw [hmo1.1] at hmo
        simp only [List.length_cons, List.length_nil, Nat.zero_add] at hmo
        have hmoH : Hid _ := hmo
        have hmo1H : Hid (errC c = 0 → meetC [cx] = c) := hmo1.2
        obtain ⟨c0, c1, c2, c3, c4, clt, crow⟩ := (show CtxAt _ _ _ _ _ from hCz)
        clear hmo hone hmo1 hcc
        go_wp2_with fail
        refine Calls.mono (show Calls _ _ _ _ _ from hmoH.out) ?_
        rintro e wm ⟨Co, cpo, rfl, hrowo, _, _, hbo⟩
        clear hmoH c0 c1 c2 c3 c4 clt crow
        obtain ⟨o, ho⟩ : ∃ o, meetC [cx] = o := ⟨_, rfl⟩
        rw [ho] at hrowo
        have hoH : Hid (errC c = 0 → o = c) := fun h => by rw [← ho]; exact hmo1H.out h
        have hol : Hid (o.l.length ≤ maxLen) := by show _ ≤ _; rw [← ho]; have := meetC_len [cx]; unfold maxLen; omega
        rw [ho]
        clear ho hmo1H
        have hgp : Gr wm (wm.alloc (.cells #[.int .i64 o.c0, .int .i64 o.c1, .int .i64 o.c2, .int .i64 o.c3, .slice Co o.l.length cpo] 25)) := (Gr.refl _).alloc _
        have hCm := ((hCz.gr hgo).below hbo).gr hgp
        have hO : CtxAt (wm.alloc (.cells #[.int .i64 o.c0, .int .i64 o.c1, .int .i64 o.c2, .int .i64 o.c3, .slice Co o.l.length cpo] 25)) wm.heap.size o Co cpo := CtxAt.new 25 hrowo rfl
        have hbwm : Hid (Below w.heap.size w (wm.alloc (.cells #[.int .i64 o.c0, .int .i64 o.c1, .int .i64 o.c2, .int .i64 o.c3, .slice Co o.l.length cpo] 25))) := ((hbwz.out.trans (hgo.below.mono hbwz.out.size)).trans (hbo.mono (Nat.le_trans hbwz.out.size hgo.size))).alloc (Nat.le_trans (Nat.le_trans hbwz.out.size hgo.size) hbo.size) _
        have hck := check_any c A ca (wm.alloc (.cells #[.int .i64 o.c0, .int .i64 o.c1, .int .i64 o.c2, .int .i64 o.c3, .slice Co o.l.length cpo] 25)) hH.out.2.2.2.1 hCm.row
        obtain ⟨ec, hec⟩ : ∃ e, errC c = e := ⟨_, rfl⟩
        rw [hec] at hck hoH ⊢
        have hckH : Hid _ := hck
        obtain ⟨c0, c1, c2, c3, c4, clt, crow⟩ := (show CtxAt _ _ _ _ _ from hCm)
        clear hck hec hgo hgp hbo hrowo hCz hbwz
        go_wp2_with fail
        refine Calls.mono (show Calls _ _ _ _ _ from hckH.out) ?_
        rintro e wn ⟨rfl, hgn⟩
        clear hckH c0 c1 c2 c3 c4 clt crow
        have hnb : (ec != ec) = false := by simp
        have hbwn : Hid (Below w.heap.size w wn) := hbwm.out.trans (hgn.below.mono hbwm.out.size)
        by_cases h0 : ec = 0
        · have h0b : (ec != 0) = false := by simpa using h0
          obtain rfl : o = c := hoH.out h0
          clear h0
          have hCn := hCm.gr hgn
          have hOn := hO.gr hgn
          have hsm := same_any o o Co A cpo ca wn hol.out hol.out hOn.row hCn.row
          rw [(sameB_iff o o).2 rfl] at hsm
          have hsmH : Hid _ := hsm
          obtain ⟨c0, c1, c2, c3, c4, clt, crow⟩ := (show CtxAt _ _ _ _ _ from hCn)
          obtain ⟨o0, o1, o2, o3, o4, olt, orow⟩ := (show CtxAt _ _ _ _ _ from hOn)
          clear hsm
          go_wp2_with fail
          refine Calls.mono (show Calls _ _ _ _ _ from hsmH.out) ?_
          rintro e wo ⟨rfl, hgo⟩
          clear hsmH c0 c1 c2 c3 c4 clt crow o0 o1 o2 o3 o4 olt orow
          have hfin : Hid (Below w.heap.size w wo) := hbwn.out.trans (hgo.below.mono hbwn.out.size)
          go_wp2
          go_ret
          exact ⟨rfl, hfin.out⟩
        · have h0b : (ec != 0) = true := by simpa using h0
          clear h0
          go_wp2
          go_ret
          exact ⟨rfl, hbwn.out⟩
      · have heyb : (ey == 0) = false := by simpa using hey
        clear hey
        have hgo : Gr w9 (w9.alloc (.cells #[.int .i64 c.c0, .int .i64 c.c1, .int .i64 c.c2, .int .i64 c.c3, .slice A c.l.length ca] 25)) := (Gr.refl _).alloc _
        have hone : Cxs (w9.alloc (.cells #[.int .i64 c.c0, .int .i64 c.c1, .int .i64 c.c2, .int .i64 c.c3, .slice A c.l.length ca] 25)) (some ⟨w9.heap.size, 0, none⟩) [cx] := by
          have h0 : CtxAt (w9.alloc (.cells #[.int .i64 c.c0, .int .i64 c.c1, .int .i64 c.c2, .int .i64 c.c3, .slice A c.l.length ca] 25)) w9.heap.size c A ca := CtxAt.new 25 hCz.row rfl
          refine ⟨rowOneX (y := cx) (by rw [hH.out.2.2.2.2.2.1]; exact h0), fun z hz => ?_⟩
          obtain rfl : z = cx := by simpa using hz
          rw [hH.out.2.2.2.2.2.1]
          exact ⟨h0.row, hH.out.2.2.2.1, hH.out.2.2.2.2.1⟩
        have hmo := meet_any [cx] (some ⟨w9.heap.size, 0, none⟩) 1 _ (by unfold maxLen; simp) hone
        have hmo1 := meet_one cx
        have hcc : cx.c = c := by rw [hH.out.2.2.2.2.2.1]
        rw [hcc] at hmo1
        rw [hmo1.1] at hmo
        simp only [List.length_cons, List.length_nil, Nat.zero_add] at hmo
        have hmoH : Hid _ := hmo
        have hmo1H : Hid (errC c = 0 → meetC [cx] = c) := hmo1.2
        obtain ⟨c0, c1, c2, c3, c4, clt, crow⟩ := (show CtxAt _ _ _ _ _ from hCz)
        clear hmo hone hmo1 hcc
        go_wp2_with fail
        refine Calls.mono (show Calls _ _ _ _ _ from hmoH.out) ?_
        rintro e wm ⟨Co, cpo, rfl, hrowo, _, _, hbo⟩
        clear hmoH c0 c1 c2 c3 c4 clt crow
        obtain ⟨o, ho⟩ : ∃ o, meetC [cx] = o := ⟨_, rfl⟩
        rw [ho] at hrowo
        have hoH : Hid (errC c = 0 → o = c) := fun h => by rw [← ho]; exact hmo1H.out h
        have hol : Hid (o.l.length ≤ maxLen) := by show _ ≤ _; rw [← ho]; have := meetC_len [cx]; unfold maxLen; omega
        rw [ho]
        clear ho hmo1H
        have hgp : Gr wm (wm.alloc (.cells #[.int .i64 o.c0, .int .i64 o.c1, .int .i64 o.c2, .int .i64 o.c3, .slice Co o.l.length cpo] 25)) := (Gr.refl _).alloc _
        have hCm := ((hCz.gr hgo).below hbo).gr hgp
        have hO : CtxAt (wm.alloc (.cells #[.int .i64 o.c0, .int .i64 o.c1, .int .i64 o.c2, .int .i64 o.c3, .slice Co o.l.length cpo] 25)) wm.heap.size o Co cpo := CtxAt.new 25 hrowo rfl
        have hbwm : Hid (Below w.heap.size w (wm.alloc (.cells #[.int .i64 o.c0, .int .i64 o.c1, .int .i64 o.c2, .int .i64 o.c3, .slice Co o.l.length cpo] 25))) := ((hbwz.out.trans (hgo.below.mono hbwz.out.size)).trans (hbo.mono (Nat.le_trans hbwz.out.size hgo.size))).alloc (Nat.le_trans (Nat.le_trans hbwz.out.size hgo.size) hbo.size) _
        have hck := check_any c A ca (wm.alloc (.cells #[.int .i64 o.c0, .int .i64 o.c1, .int .i64 o.c2, .int .i64 o.c3, .slice Co o.l.length cpo] 25)) hH.out.2.2.2.1 hCm.row
        obtain ⟨ec, hec⟩ : ∃ e, errC c = e := ⟨_, rfl⟩
        rw [hec] at hck hoH ⊢
        have hckH : Hid _ := hck
        obtain ⟨c0, c1, c2, c3, c4, clt, crow⟩ := (show CtxAt _ _ _ _ _ from hCm)
        clear hck hec hgo hgp hbo hrowo hCz hbwz
        go_wp2_with fail
        refine Calls.mono (show Calls _ _ _ _ _ from hckH.out) ?_
        rintro e wn ⟨rfl, hgn⟩
        clear hckH c0 c1 c2 c3 c4 clt crow
        have hnb : (ec != ec) = false := by simp
        have hbwn : Hid (Below w.heap.size w wn) := hbwm.out.trans (hgn.below.mono hbwm.out.size)
        by_cases h0 : ec = 0
        · have h0b : (ec != 0) = false := by simpa using h0
          obtain rfl : o = c := hoH.out h0
          clear h0
          have hCn := hCm.gr hgn
          have hOn := hO.gr hgn
          have hsm := same_any o o Co A cpo ca wn hol.out hol.out hOn.row hCn.row
          rw [(sameB_iff o o).2 rfl] at hsm
          have hsmH : Hid _ := hsm
          obtain ⟨c0, c1, c2, c3, c4, clt, crow⟩ := (show CtxAt _ _ _ _ _ from hCn)
          obtain ⟨o0, o1, o2, o3, o4, olt, orow⟩ := (show CtxAt _ _ _ _ _ from hOn)
          clear hsm
          go_wp2_with fail
          refine Calls.mono (show Calls _ _ _ _ _ from hsmH.out) ?_
          rintro e wo ⟨rfl, hgo⟩
          clear hsmH c0 c1 c2 c3 c4 clt crow o0 o1 o2 o3 o4 olt orow
          have hfin : Hid (Below w.heap.size w wo) := hbwn.out.trans (hgo.below.mono hbwn.out.size)
          go_wp2
          go_ret
          exact ⟨rfl, hfin.out⟩
        · have h0b : (ec != 0) = true := by simpa using h0
          clear h0
          go_wp2
          go_ret
          exact ⟨rfl, hbwn.out⟩
    · have heb : (ex == 0) = false := by simpa using he
      clear he
      have hCz := hC5
      have hbwz := hbw5
      clear hC5 hD5 hX5 hY
      have hgo : Gr wc (wc.alloc (.cells #[.int .i64 c.c0, .int .i64 c.c1, .int .i64 c.c2, .int .i64 c.c3, .slice A c.l.length ca] 25)) := (Gr.refl _).alloc _
      have hone : Cxs (wc.alloc (.cells #[.int .i64 c.c0, .int .i64 c.c1, .int .i64 c.c2, .int .i64 c.c3, .slice A c.l.length ca] 25)) (some ⟨wc.heap.size, 0, none⟩) [cx] := by
        have h0 : CtxAt (wc.alloc (.cells #[.int .i64 c.c0, .int .i64 c.c1, .int .i64 c.c2, .int .i64 c.c3, .slice A c.l.length ca] 25)) wc.heap.size c A ca := CtxAt.new 25 hCz.row rfl
        refine ⟨rowOneX (y := cx) (by rw [hH.out.2.2.2.2.2.1]; exact h0), fun z hz => ?_⟩
        obtain rfl : z = cx := by simpa using hz
        rw [hH.out.2.2.2.2.2.1]
        exact ⟨h0.row, hH.out.2.2.2.1, hH.out.2.2.2.2.1⟩
      have hmo := meet_any [cx] (some ⟨wc.heap.size, 0, none⟩) 1 _ (by unfold maxLen; simp) hone
      have hmo1 := meet_one cx
      have hcc : cx.c = c := by rw [hH.out.2.2.2.2.2.1]
      rw [hcc] at hmo1
      rw [hmo1.1] at hmo
      simp only [List.length_cons, List.length_nil, Nat.zero_add] at hmo
      have hmoH : Hid _ := hmo
      have hmo1H : Hid (errC c = 0 → meetC [cx] = c) := hmo1.2
      obtain ⟨c0, c1, c2, c3, c4, clt, crow⟩ := (show CtxAt _ _ _ _ _ from hCz)
      clear hmo hone hmo1 hcc
      go_wp2_with fail
      refine Calls.mono (show Calls _ _ _ _ _ from hmoH.out) ?_
      rintro e wm ⟨Co, cpo, rfl, hrowo, _, _, hbo⟩
      clear hmoH c0 c1 c2 c3 c4 clt crow
      obtain ⟨o, ho⟩ : ∃ o, meetC [cx] = o := ⟨_, rfl⟩
      rw [ho] at hrowo
      have hoH : Hid (errC c = 0 → o = c) := fun h => by rw [← ho]; exact hmo1H.out h
      have hol : Hid (o.l.length ≤ maxLen) := by show _ ≤ _; rw [← ho]; have := meetC_len [cx]; unfold maxLen; omega
      rw [ho]
      clear ho hmo1H
      have hgp : Gr wm (wm.alloc (.cells #[.int .i64 o.c0, .int .i64 o.c1, .int .i64 o.c2, .int .i64 o.c3, .slice Co o.l.length cpo] 25)) := (Gr.refl _).alloc _
      have hCm := ((hCz.gr hgo).below hbo).gr hgp
      have hO : CtxAt (wm.alloc (.cells #[.int .i64 o.c0, .int .i64 o.c1, .int .i64 o.c2, .int .i64 o.c3, .slice Co o.l.length cpo] 25)) wm.heap.size o Co cpo := CtxAt.new 25 hrowo rfl
      have hbwm : Hid (Below w.heap.size w (wm.alloc (.cells #[.int .i64 o.c0, .int .i64 o.c1, .int .i64 o.c2, .int .i64 o.c3, .slice Co o.l.length cpo] 25))) := ((hbwz.out.trans (hgo.below.mono hbwz.out.size)).trans (hbo.mono (Nat.le_trans hbwz.out.size hgo.size))).alloc (Nat.le_trans (Nat.le_trans hbwz.out.size hgo.size) hbo.size) _
      have hck := check_any c A ca (wm.alloc (.cells #[.int .i64 o.c0, .int .i64 o.c1, .int .i64 o.c2, .int .i64 o.c3, .slice Co o.l.length cpo] 25)) hH.out.2.2.2.1 hCm.row
      obtain ⟨ec, hec⟩ : ∃ e, errC c = e := ⟨_, rfl⟩
      rw [hec] at hck hoH ⊢
      have hckH : Hid _ := hck
      obtain ⟨c0, c1, c2, c3, c4, clt, crow⟩ := (show CtxAt _ _ _ _ _ from hCm)
      clear hck hec hgo hgp hbo hrowo hCz hbwz
      go_wp2_with fail
      refine Calls.mono (show Calls _ _ _ _ _ from hckH.out) ?_
      rintro e wn ⟨rfl, hgn⟩
      clear hckH c0 c1 c2 c3 c4 clt crow
      have hnb : (ec != ec) = false := by simp
      have hbwn : Hid (Below w.heap.size w wn) := hbwm.out.trans (hgn.below.mono hbwm.out.size)
      by_cases h0 : ec = 0
      · have h0b : (ec != 0) = false := by simpa using h0
        obtain rfl : o = c := hoH.out h0
        clear h0
        have hCn := hCm.gr hgn
        have hOn := hO.gr hgn
        have hsm := same_any o o Co A cpo ca wn hol.out hol.out hOn.row hCn.row
        rw [(sameB_iff o o).2 rfl] at hsm
        have hsmH : Hid _ := hsm
        obtain ⟨c0, c1, c2, c3, c4, clt, crow⟩ := (show CtxAt _ _ _ _ _ from hCn)
        obtain ⟨o0, o1, o2, o3, o4, olt, orow⟩ := (show CtxAt _ _ _ _ _ from hOn)
        clear hsm
        go_wp2_with fail
        refine Calls.mono (show Calls _ _ _ _ _ from hsmH.out) ?_
        rintro e wo ⟨rfl, hgo⟩
        clear hsmH c0 c1 c2 c3 c4 clt crow o0 o1 o2 o3 o4 olt orow
        have hfin : Hid (Below w.heap.size w wo) := hbwn.out.trans (hgo.below.mono hbwn.out.size)
        go_wp2
        go_ret
        exact ⟨rfl, hfin.out⟩
      · have h0b : (ec != 0) = true := by simpa using h0
        clear h0
        go_wp2
        go_ret
        exact ⟨rfl, hbwn.out⟩

end Go.Proofs.Ytknjeajdiibafaa
