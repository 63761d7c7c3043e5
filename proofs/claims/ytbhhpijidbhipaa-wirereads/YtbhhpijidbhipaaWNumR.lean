/-
  (*reader).number: the next number.
-/
import Derived.Test.YtbhhpijidbhipaaWRdr
import Derived.Test.YtbhhpijidbhipaaWBuf
namespace Go.Proofs.Ytbhhpijidbhipaa
open Go.RowKit Go.Sort

/-- Where the reader stands behind a number, and whether something was wrong. -/
def numAt (x : List UInt8) (at_ : Nat) : Nat := if readB (x.drop at_) then at_ + readK (x.drop at_) else x.length
def numBad (x : List UInt8) (at_ : Nat) (bad : Bool) : Bool := if readB (x.drop at_) then bad else true
theorem byteAtD {x y : List UInt8} {at_ i p : Nat} (hD : x.drop at_ = y) (hp : p = at_ + i) (h : i < y.length) {c : UInt8} (hc : y[i] = c) (hbs : p < (ByteArray.mk x.toArray).size) : (((ByteArray.mk x.toArray)[p]'hbs).toNat : Int) = (c.toNat : Int) := by
  subst hD hp
  rw [← hc]
  show ((x.toArray[at_ + i]'_).toNat : Int) = _
  simp

theorem or_step {u d i : Nat} (hu : u < 128 ^ i) (hi : i < 9) : bits .or .u64 (u : Int) (IntKind.u64.wrap ((d : Int) % 128 * 2 ^ (7 * i))) = ((u + d % 128 * 128 ^ i : Nat) : Int) := by
  have h1 : 128 ^ i ≤ 128 ^ 8 := Nat.pow_le_pow_right (by decide) (by omega)
  have h2 : d % 128 * 128 ^ i ≤ 127 * 128 ^ 8 := Nat.mul_le_mul (by omega) h1
  have h8 : (128 : Nat) ^ 8 = 72057594037927936 := by decide
  rw [h8] at h1 h2
  have e : ((d : Int) % 128 * 2 ^ (7 * i)) = ((d % 128 * 128 ^ i : Nat) : Int) := by rw [pow7]; simp
  rw [e, IntKind.wrap_u64, Int.emod_eq_of_lt (by omega) (by omega), u64_or_nat _ _ (by omega) (by omega), or_high hu]
theorem next_lt {u d i : Nat} (hu : u < 128 ^ i) : u + d % 128 * 128 ^ i < 128 ^ (i + 1) := by
  have : d % 128 * 128 ^ i ≤ 127 * 128 ^ i := Nat.mul_le_mul (by omega) (Nat.le_refl _)
  rw [Nat.pow_succ]
  omega
theorem RdX.gr {w w' : World} {R : Nat} {x : List UInt8} {at_ : Nat} {bad : Bool} (h : RdX w R x at_ bad) (k : Gr w w') : RdX w' R x at_ bad := h.below k.below h.lt
theorem grown_gr {w a b : World} {R : Nat} (h : w.grownBy a (some R)) (k : Gr a b) : w.grownBy b (some R) := h.trans (grown_of_below k.below _)

set_option maxRecDepth 100000 in
set_option maxHeartbeats 4000000 in
theorem rdnum_any (R : Nat) (x : List UInt8) (at_ : Nat) (bad : Bool) (w : World) (hx : x.length ≤ maxLen) (h : RdX w R x at_ bad) :
    Calls Try.prog 36 #[.pointer (some ⟨R, 0, none⟩)] w fun e w' => e = .returned (.int .i64 (readN (x.drop at_))) ∧ RdX w' R x (numAt x at_) (numBad x at_ bad) ∧ w.grownBy w' (some R) := by
  have mixed : Try.prog.follows .mixedOrders = true := by kernel_rfl
  obtain ⟨y, hy⟩ : ∃ y, x.drop at_ = y := ⟨_, rfl⟩
  have hH : Hid (RdX w R x at_ bad ∧ x.drop at_ = y ∧ y.length = x.length - at_ ∧ at_ ≤ x.length) := ⟨h, hy, by rw [← hy, List.length_drop], h.le⟩
  have hfin : Hid (numAt x at_ = (if readB y then at_ + readK y else x.length) ∧ numBad x at_ bad = if readB y then bad else true) := by
    unfold numAt numBad
    rw [hy]
    exact ⟨rfl, rfl⟩
  rw [hy]
  have hno : Hid (∀ w', readB y = false → RdX w' R x x.length true → RdX w' R x (numAt x at_) (numBad x at_ bad)) := fun w' hb h => by
    rw [hfin.out.1, hfin.out.2, hb]
    exact h
  have hn0 : Hid (readB y = false → readN y = 0) := fun hb => by unfold readN; rw [hb]; rfl
  clear hy h
  unfold maxLen at hx
  go_enter Try.func36, Try.ntmps36
  go_wp2
  go_loopw [3, 6] (fun uv iv wr => ∃ (u i p : Nat), uv = .int .u64 u ∧ iv = .int .i64 i ∧ i ≤ 9 ∧ i ≤ y.length ∧ p ≤ x.length ∧ Hid (u < 128 ^ i ∧ p = at_ + i ∧ u = lebV (y.take i) ∧ (∀ j (h : j < y.length), j < i → 128 ≤ y[j].toNat) ∧ RdX wr R x p bad ∧ w.grownBy wr (some R))) (fun _ iv _ => 9 - (intOf iv).toNat)
  case atStart => exact ⟨0, 0, at_, rfl, rfl, by omega, by omega, hH.out.2.2.2, by simp, rfl, by simp [lebV], fun j _ h => absurd h (Nat.not_lt_zero _), hH.out.1, World.grownBy.refl _ _⟩
  case round =>
    rename World => wr
    obtain ⟨u, i, p, rfl, rfl, hi9, hiy, hpx, hR⟩ := hrel
    have t0 := hR.out.2.2.2.2.1.t
    have t1 := hR.out.2.2.2.2.1.a
    have tf := hR.out.2.2.2.2.1.f 1
    by_cases h9 : i < 9
    · have h9z : (i : Int) < 9 := by omega
      by_cases hlt : p < x.length
      · have hne : ((p : Int) == (x.length : Int)) = false := by simp; omega
        have hltz : (p : Int) < (x.length : Int) := by omega
        have hiy2 : i < y.length := by have h1 := hR.out.2.1; have h2 := hH.out.2.2.1; omega
        obtain ⟨c, hc⟩ : ∃ c, y[i] = c := ⟨_, rfl⟩
        have hbs : p < (ByteArray.mk x.toArray).size := by show _ < x.toArray.size; simpa using hlt
        have hbz := byteAtD hH.out.2.1 hR.out.2.1 hiy2 hc hbs
        obtain ⟨d, hd⟩ : ∃ d, c.toNat = d := ⟨_, rfl⟩
        have hcH : Hid (y[i] = c ∧ c.toNat = d) := ⟨hc, hd⟩
        have hd256 : d < 256 := by rw [← hd]; exact UInt8.toNat_lt c
        rw [hd] at hbz
        clear hc hd
        have hor := or_step (d := d) hR.out.1 h9
        obtain ⟨U, hU⟩ : ∃ U, u + d % 128 * 128 ^ i = U := ⟨_, rfl⟩
        rw [hU] at hor
        have hUn : Hid (U < 128 ^ (i + 1) ∧ U = lebV (y.take (i + 1))) := by
          refine ⟨by rw [← hU]; exact next_lt hR.out.1, ?_⟩
          rw [lebV_take hiy2 hcH.out.1, hcH.out.2, ← hR.out.2.2.1, hU]
        have hX0 : Hid (RdX wr R x p bad ∧ w.grownBy wr (some R)) := ⟨hR.out.2.2.2.2.1, hR.out.2.2.2.2.2⟩
        have hpi : Hid (p = at_ + i) := hR.out.2.1
        have hhi : Hid (∀ j (h : j < y.length), j < i → 128 ≤ y[j].toNat) := hR.out.2.2.2.1
        clear hR hU
        by_cases hbig : 128 ≤ d
        · have hbigz : (128 : Int) ≤ (d : Int) := by omega
          have hhi2 : Hid (∀ j (h : j < y.length), j < i + 1 → 128 ≤ y[j].toNat) := fun j hj hji => by
            by_cases e : j = i
            · subst e; rw [hcH.out.1, hcH.out.2]; exact hbig
            · exact hhi.out j hj (by omega)
          go_wp2_with fail
          go_quiet (fail)
          obtain ⟨W1, hW1⟩ : ∃ W1, wr.drewN nq = W1 := ⟨_, rfl⟩
          have hX1 : RdX W1 R x p bad := by rw [← hW1]; exact hX0.out.1.gr ((Gr.refl wr).drewN nq)
          have hG1 : w.grownBy W1 (some R) := by rw [← hW1]; exact grown_gr hX0.out.2 ((Gr.refl wr).drewN nq)
          rw [hW1]
          clear hW1 t0 t1 tf
          have t0 := hX1.t
          have t1 := hX1.a
          go_wp2_with fail
          go_quiet (fail)
          obtain ⟨W2, hW2⟩ : ∃ W2, W1.drewN nq = W2 := ⟨_, rfl⟩
          have hX2 : RdX W2 R x p bad := by rw [← hW2]; exact hX1.gr ((Gr.refl W1).drewN nq)
          have hG2 : w.grownBy W2 (some R) := by rw [← hW2]; exact grown_gr hG1 ((Gr.refl W1).drewN nq)
          rw [hW2]
          clear hW2 t0 t1
          have hX3 : Hid (RdX (W2.setCell ⟨R, 1, none⟩ (.int .i64 ((p : Int) + 1))) R x (p + 1) bad ∧ w.grownBy (W2.setCell ⟨R, 1, none⟩ (.int .i64 ((p : Int) + 1))) (some R)) := ⟨hX2.setAt (m := p + 1) (by omega), hG2.trans (grown_set _ _ _ _)⟩
          have t1 := hX2.a
          have tf := hX2.f 1
          clear hX1 hX2 hG1 hG2 hX0
          go_wp2
          go_roundw
          case rel => exact ⟨U, i + 1, p + 1, rfl, by go_num, by omega, by omega, by omega, hUn.out.1, by rw [hpi.out]; omega, hUn.out.2, hhi2.out, hX3.out.1, hX3.out.2⟩
          case measure => simp [intOf]; omega
        · have hbigz : ¬ (128 : Int) ≤ (d : Int) := by omega
          have hhn : Hid (hiN 9 y = i) := by
            have h1 := hiN_at 9 y i hhi.out hi9 hiy
            rw [hiN_stop hiy2 (by rw [hcH.out.1, hcH.out.2]; exact hbig)] at h1
            exact h1
          by_cases hz : d = 0 ∧ 0 < i
          · obtain ⟨rfl, hi0⟩ := hz
            have hi0z : (0 : Int) < (i : Int) := by omega
            have hbF : Hid (readB y = false) := by
              show _ = _
              unfold readB
              rw [hhn.out, List.getElem?_eq_getElem hiy2, hcH.out.1, show c = 0 from UInt8.toNat_inj.mp hcH.out.2]
              simp [hi0]
            have hzr : Hid (readN y = 0) := hn0.out hbF.out
            go_wp2_with fail
            go_quiet (fail)
            obtain ⟨W1, hW1⟩ : ∃ W1, wr.drewN nq = W1 := ⟨_, rfl⟩
            have hX1 : RdX W1 R x p bad := by rw [← hW1]; exact hX0.out.1.gr ((Gr.refl wr).drewN nq)
            have hG1 : w.grownBy W1 (some R) := by rw [← hW1]; exact grown_gr hX0.out.2 ((Gr.refl wr).drewN nq)
            rw [hW1]
            clear hW1 t0 t1 tf
            have t0 := hX1.t
            have t1 := hX1.a
            go_wp2_with fail
            go_quiet (fail)
            obtain ⟨W2, hW2⟩ : ∃ W2, W1.drewN nq = W2 := ⟨_, rfl⟩
            have hX2 : RdX W2 R x p bad := by rw [← hW2]; exact hX1.gr ((Gr.refl W1).drewN nq)
            have hG2 : w.grownBy W2 (some R) := by rw [← hW2]; exact grown_gr hG1 ((Gr.refl W1).drewN nq)
            rw [hW2]
            clear hW2 t0 t1
            have hX3 : Hid (RdX (W2.setCell ⟨R, 1, none⟩ (.int .i64 ((p : Int) + 1))) R x (p + 1) bad ∧ w.grownBy (W2.setCell ⟨R, 1, none⟩ (.int .i64 ((p : Int) + 1))) (some R)) := ⟨hX2.setAt (m := p + 1) (by omega), hG2.trans (grown_set _ _ _ _)⟩
            have t1 := hX2.a
            have tf := hX2.f 1
            clear hX1 hX2 hG1 hG2 hX0
            have hC := fail_any R x (p + 1) bad _ hX3.out.1
            have hCH : Hid _ := hC
            clear hC
            go_wp2_with fail
            refine Calls.mono (show Calls _ _ _ _ _ from hCH.out) ?_
            rintro e w3 ⟨rfl, hX4, hg4⟩
            have hend : Hid (RdX w3 R x (numAt x at_) (numBad x at_ bad) ∧ w.grownBy w3 (some R)) := ⟨hno.out w3 hbF.out hX4, hX3.out.2.trans hg4⟩
            clear hCH hX4 hg4 hX3 t1 tf
            go_wp2
            go_ret
            rw [hzr.out]
            exact ⟨rfl, hend.out⟩
          · have hbT : Hid (readB y = true) := by
              show _ = _
              unfold readB
              rw [hhn.out, List.getElem?_eq_getElem hiy2, hcH.out.1]
              have h1 : (i == y.length) = false := by simp; omega
              have h2 : (i == 9) = false := by simp; omega
              rw [h1, h2]
              by_cases hi0 : 0 < i
              · have h3 : (some c == some 0) = false := by
                  simp
                  intro h
                  apply hz
                  refine ⟨?_, hi0⟩
                  rw [← hcH.out.2, h]
                  rfl
                rw [h3]
                simp
              · simp [hi0]
            have hN : Hid (readN y = unzig U ∧ readK y = i + 1) := by
              refine ⟨?_, ?_⟩
              · unfold readN; rw [hbT.out, if_pos rfl, hhn.out, hUn.out.2]
              · unfold readK; rw [hbT.out, if_pos rfl, hhn.out]
            have hU63 : U < 9223372036854775808 := by
              have h1 : 128 ^ (i + 1) ≤ 128 ^ 9 := Nat.pow_le_pow_right (by decide) (by omega)
              have h9 : (128 : Nat) ^ 9 = 9223372036854775808 := by decide
              have := hUn.out.1
              omega
            have hnA : Hid (numAt x at_ = p + 1 ∧ numBad x at_ bad = bad) := by
              rw [hfin.out.1, hfin.out.2, hbT.out, hN.out.2, hpi.out]
              exact ⟨rfl, rfl⟩
            have hCH : Hid (∀ W, Calls Try.prog 48 #[.int .u64 U] W fun e w' => e = .returned (.int .i64 (unzig U)) ∧ w' = W) := fun W => unfold_any U W hU63
            by_cases hd0 : d = 0
            · subst hd0
              obtain rfl : i = 0 := by omega
              rw [show (((0 : Nat) : Int) % 128 * 2 ^ (7 * 0)) = (0 : Int) by decide, show IntKind.u64.wrap 0 = 0 from rfl] at hor
              go_wp2_with fail
              go_quiet (fail)
              obtain ⟨W1, hW1⟩ : ∃ W1, wr.drewN nq = W1 := ⟨_, rfl⟩
              have hX1 : RdX W1 R x p bad := by rw [← hW1]; exact hX0.out.1.gr ((Gr.refl wr).drewN nq)
              have hG1 : w.grownBy W1 (some R) := by rw [← hW1]; exact grown_gr hX0.out.2 ((Gr.refl wr).drewN nq)
              rw [hW1]
              clear hW1 t0 t1 tf
              have t0 := hX1.t
              have t1 := hX1.a
              go_wp2_with fail
              go_quiet (fail)
              obtain ⟨W2, hW2⟩ : ∃ W2, W1.drewN nq = W2 := ⟨_, rfl⟩
              have hX2 : RdX W2 R x p bad := by rw [← hW2]; exact hX1.gr ((Gr.refl W1).drewN nq)
              have hG2 : w.grownBy W2 (some R) := by rw [← hW2]; exact grown_gr hG1 ((Gr.refl W1).drewN nq)
              rw [hW2]
              clear hW2 t0 t1
              have hX3 : Hid (RdX (W2.setCell ⟨R, 1, none⟩ (.int .i64 ((p : Int) + 1))) R x (p + 1) bad ∧ w.grownBy (W2.setCell ⟨R, 1, none⟩ (.int .i64 ((p : Int) + 1))) (some R)) := ⟨hX2.setAt (m := p + 1) (by omega), hG2.trans (grown_set _ _ _ _)⟩
              have t1 := hX2.a
              have tf := hX2.f 1
              clear hX1 hX2 hG1 hG2 hX0
              go_wp2_with fail
              refine Calls.mono (show Calls _ _ _ _ _ from hCH.out _) ?_
              rintro e w3 ⟨rfl, hw3⟩
              subst w3
              clear t1 tf hCH
              go_wp2
              go_ret
              rw [hN.out.1, hnA.out.1, hnA.out.2]
              exact ⟨rfl, hX3.out⟩
            · have hd0z : ¬ (d : Int) = 0 := by omega
              go_wp2_with fail
              go_quiet (fail)
              obtain ⟨W1, hW1⟩ : ∃ W1, wr.drewN nq = W1 := ⟨_, rfl⟩
              have hX1 : RdX W1 R x p bad := by rw [← hW1]; exact hX0.out.1.gr ((Gr.refl wr).drewN nq)
              have hG1 : w.grownBy W1 (some R) := by rw [← hW1]; exact grown_gr hX0.out.2 ((Gr.refl wr).drewN nq)
              rw [hW1]
              clear hW1 t0 t1 tf
              have t0 := hX1.t
              have t1 := hX1.a
              go_wp2_with fail
              go_quiet (fail)
              obtain ⟨W2, hW2⟩ : ∃ W2, W1.drewN nq = W2 := ⟨_, rfl⟩
              have hX2 : RdX W2 R x p bad := by rw [← hW2]; exact hX1.gr ((Gr.refl W1).drewN nq)
              have hG2 : w.grownBy W2 (some R) := by rw [← hW2]; exact grown_gr hG1 ((Gr.refl W1).drewN nq)
              rw [hW2]
              clear hW2 t0 t1
              have hX3 : Hid (RdX (W2.setCell ⟨R, 1, none⟩ (.int .i64 ((p : Int) + 1))) R x (p + 1) bad ∧ w.grownBy (W2.setCell ⟨R, 1, none⟩ (.int .i64 ((p : Int) + 1))) (some R)) := ⟨hX2.setAt (m := p + 1) (by omega), hG2.trans (grown_set _ _ _ _)⟩
              have t1 := hX2.a
              have tf := hX2.f 1
              clear hX1 hX2 hG1 hG2 hX0
              go_wp2_with fail
              refine Calls.mono (show Calls _ _ _ _ _ from hCH.out _) ?_
              rintro e w3 ⟨rfl, hw3⟩
              subst w3
              clear t1 tf hCH
              go_wp2
              go_ret
              rw [hN.out.1, hnA.out.1, hnA.out.2]
              exact ⟨rfl, hX3.out⟩
      · obtain rfl : p = x.length := by omega
        have hne : ((x.length : Int) == (x.length : Int)) = true := by simp
        have hbF : Hid (readB y = false) := by
          have h1 := hiN_at 9 y i hR.out.2.2.2.1 hi9 hiy
          have h2 : i = y.length := by have h1 := hR.out.2.1; have h2 := hH.out.2.2.1; have h3 := hH.out.2.2.2; omega
          rw [h2, hiN_end (Nat.le_refl _), Nat.add_zero] at h1
          show _ = _
          unfold readB
          rw [h1]
          simp
        have hR0 : Hid (RdX wr R x x.length bad ∧ w.grownBy wr (some R)) := ⟨hR.out.2.2.2.2.1, hR.out.2.2.2.2.2⟩
        have hz : Hid (readN y = 0) := hn0.out hbF.out
        clear hR
        go_wp2_with fail
        go_quiet (fail)
        have hRq : RdX (wr.drewN nq) R x x.length bad := hR0.out.1.below ((Gr.refl wr).drewN nq).below hR0.out.1.lt
        have hGq : w.grownBy (wr.drewN nq) (some R) := hR0.out.2.trans (grown_of_below ((Gr.refl wr).drewN nq).below _)
        have hC := fail_any R x x.length bad (wr.drewN nq) hRq
        have hCH : Hid _ := hC
        have hGH : Hid (w.grownBy (wr.drewN nq) (some R)) := hGq
        clear hC hRq hGq hR0
        go_wp2_with fail
        refine Calls.mono (show Calls _ _ _ _ _ from hCH.out) ?_
        rintro e w1 ⟨rfl, hX1, hg1⟩
        have hend : Hid (RdX w1 R x (numAt x at_) (numBad x at_ bad) ∧ w.grownBy w1 (some R)) := ⟨hno.out w1 hbF.out hX1, hGH.out.trans hg1⟩
        clear hCH hX1 hg1 hGH
        go_wp2
        go_ret
        rw [hz.out]
        exact ⟨rfl, hend.out⟩
    · obtain rfl : i = 9 := by omega
      have hbF : Hid (readB y = false) := by
        have h1 := hiN_at 9 y 9 hR.out.2.2.2.1 hi9 hiy
        rw [show 9 - 9 = 0 from rfl, hiN] at h1
        show _ = _
        unfold readB
        rw [h1]
        simp
      have hzr : Hid (readN y = 0) := hn0.out hbF.out
      have hX0 : Hid (RdX wr R x p bad ∧ w.grownBy wr (some R)) := ⟨hR.out.2.2.2.2.1, hR.out.2.2.2.2.2⟩
      have hC := fail_any R x p bad wr hX0.out.1
      have hCH : Hid _ := hC
      clear hC hR t0 t1 tf
      go_wp2_with fail
      refine Calls.mono (show Calls _ _ _ _ _ from hCH.out) ?_
      rintro e w3 ⟨rfl, hX4, hg4⟩
      have hend : Hid (RdX w3 R x (numAt x at_) (numBad x at_ bad) ∧ w.grownBy w3 (some R)) := ⟨hno.out w3 hbF.out hX4, hX0.out.2.trans hg4⟩
      clear hCH hX4 hg4
      go_wp2
      go_ret
      rw [hzr.out]
      exact ⟨rfl, hend.out⟩
end Go.Proofs.Ytbhhpijidbhipaa
