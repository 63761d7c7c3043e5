/-
  viewref.Joined: what two right contexts have, in one.
-/
import Derived.Test.YtjgefnipkaecgaaJoin
import Derived.Test.YtjgefnipkaecgaaPackMath
import Derived.Deep.RegionHeld3
namespace Go.Proofs.Ytjgefnipkaecgaa
open Go.RowKit Go.Sort

theorem ZAt.belowB {w w' : World} {B base : Nat} (h : ZAt w B) (k : Below base w w') (hB : B < base) : ZAt w' B :=
  ⟨(k.cell (p := ⟨B, 0, none⟩) hB).trans h.k0, (k.cell (p := ⟨B, 1, none⟩) hB).trans h.k1, (k.cell (p := ⟨B, 2, none⟩) hB).trans h.k2, (k.cell (p := ⟨B, 3, none⟩) hB).trans h.k3, (k.cell (p := ⟨B, 4, none⟩) hB).trans h.k4, fun j => (k.frozen (p := ⟨B, j, none⟩) hB).trans (h.fz j), Nat.lt_of_lt_of_le h.lt k.size⟩
theorem ZAt.grown {w w' : World} {B : Nat} {row : Option Nat} (h : ZAt w B) (hg : w.grownBy w' row) (hB : some B ≠ row) : ZAt w' B := by
  have hblk := hg.block B h.lt hB
  refine ⟨hg.cell h.k0 hB, hg.cell h.k1 hB, hg.cell h.k2 hB, hg.cell h.k3 hB, hg.cell h.k4 hB, fun j => ?_, Nat.lt_of_lt_of_le h.lt hg.size⟩
  have := h.fz j
  simpa [World.frozen?, hblk] using this
theorem ClkAt.drewN {w : World} {B : Nat} {x0 x1 x2 x3 : Int} (h : ClkAt w B x0 x1 x2 x3) (n : Nat) : ClkAt (w.drewN n) B x0 x1 x2 x3 := by
  have hg : Gr w (w.drewN n) := (Gr.refl w).drewN n
  exact ⟨(hg.below.cell (p := ⟨B, 0, none⟩) h.lt).trans h.k0, (hg.below.cell (p := ⟨B, 1, none⟩) h.lt).trans h.k1, (hg.below.cell (p := ⟨B, 2, none⟩) h.lt).trans h.k2, (hg.below.cell (p := ⟨B, 3, none⟩) h.lt).trans h.k3, fun j => (hg.below.frozen (p := ⟨B, j, none⟩) h.lt).trans (h.fz j), Nat.lt_of_lt_of_le h.lt hg.size⟩
theorem below_drewN {B : Nat} {a w : World} (h : Below B a w) (hB : B ≤ a.heap.size) (n : Nat) : Below B a (w.drewN n) := h.trans (((Gr.refl w).drewN n).below.mono (Nat.le_trans hB h.size))

set_option maxRecDepth 100000 in
set_option maxHeartbeats 4000000 in
theorem joined_any (a b : Ctx) (A B : Option Addr) (ca cb : Nat) (w : World) (heH : Hid (errB a b = 0)) (hra : Row w A a.l) (hrb : Row w B b.l) (hA : A = none → ca = 0) (hB : B = none → cb = 0) :
    Calls Try.prog 21 #[.agg #[.int .i64 a.c0, .int .i64 a.c1, .int .i64 a.c2, .int .i64 a.c3, .slice A a.l.length ca], .agg #[.int .i64 b.c0, .int .i64 b.c1, .int .i64 b.c2, .int .i64 b.c3, .slice B b.l.length cb]] w fun e w' => ∃ C cp, e = .returned (.tuple #[.agg #[.int .i64 (joinC a b).c0, .int .i64 (joinC a b).c1, .int .i64 (joinC a b).c2, .int .i64 (joinC a b).c3, .slice C (joinC a b).l.length cp], .int .i64 (joinE a b)]) ∧ Row w' C (joinC a b).l ∧ (C = none → cp = 0) ∧ (∀ x, C = some x → w.heap.size ≤ x.block) ∧ Below w.heap.size w w' := by
  have hg0 : Gr w (((w.alloc (.cells #[.int .i64 a.c0, .int .i64 a.c1, .int .i64 a.c2, .int .i64 a.c3, .slice A a.l.length ca] 25)).alloc (.cells #[.int .i64 b.c0, .int .i64 b.c1, .int .i64 b.c2, .int .i64 b.c3, .slice B b.l.length cb] 25)).alloc (.cells #[.int .i64 0, .int .i64 0, .int .i64 0, .int .i64 0, .slice none 0 0] 25)) := (((Gr.refl w).alloc _).alloc _).alloc _
  have ha0 : CtxAt (((w.alloc (.cells #[.int .i64 a.c0, .int .i64 a.c1, .int .i64 a.c2, .int .i64 a.c3, .slice A a.l.length ca] 25)).alloc (.cells #[.int .i64 b.c0, .int .i64 b.c1, .int .i64 b.c2, .int .i64 b.c3, .slice B b.l.length cb] 25)).alloc (.cells #[.int .i64 0, .int .i64 0, .int .i64 0, .int .i64 0, .slice none 0 0] 25)) w.heap.size a A ca := (CtxAt.new 25 hra rfl).gr (((Gr.refl _).alloc _).alloc _)
  have hb0 : CtxAt (((w.alloc (.cells #[.int .i64 a.c0, .int .i64 a.c1, .int .i64 a.c2, .int .i64 a.c3, .slice A a.l.length ca] 25)).alloc (.cells #[.int .i64 b.c0, .int .i64 b.c1, .int .i64 b.c2, .int .i64 b.c3, .slice B b.l.length cb] 25)).alloc (.cells #[.int .i64 0, .int .i64 0, .int .i64 0, .int .i64 0, .slice none 0 0] 25)) (w.heap.size + 1) b B cb := (CtxAt.new 25 (hrb.gr ((Gr.refl _).alloc _)) (by simp)).gr ((Gr.refl _).alloc _)
  have hz0 : CtxAt (((w.alloc (.cells #[.int .i64 a.c0, .int .i64 a.c1, .int .i64 a.c2, .int .i64 a.c3, .slice A a.l.length ca] 25)).alloc (.cells #[.int .i64 b.c0, .int .i64 b.c1, .int .i64 b.c2, .int .i64 b.c3, .slice B b.l.length cb] 25)).alloc (.cells #[.int .i64 0, .int .i64 0, .int .i64 0, .int .i64 0, .slice none 0 0] 25)) (w.heap.size + 1 + 1) zeroC none 0 := CtxAt.new (c := zeroC) (A := none) (cap := 0) 25 (Or.inl rfl) (by simp)
  have hzf0 : ∀ j, (((w.alloc (.cells #[.int .i64 a.c0, .int .i64 a.c1, .int .i64 a.c2, .int .i64 a.c3, .slice A a.l.length ca] 25)).alloc (.cells #[.int .i64 b.c0, .int .i64 b.c1, .int .i64 b.c2, .int .i64 b.c3, .slice B b.l.length cb] 25)).alloc (.cells #[.int .i64 0, .int .i64 0, .int .i64 0, .int .i64 0, .slice none 0 0] 25)).frozen? ⟨w.heap.size + 1 + 1, j, none⟩ = false := fun j => by
    have := box1f (w := (w.alloc (.cells #[.int .i64 a.c0, .int .i64 a.c1, .int .i64 a.c2, .int .i64 a.c3, .slice A a.l.length ca] 25)).alloc (.cells #[.int .i64 b.c0, .int .i64 b.c1, .int .i64 b.c2, .int .i64 b.c3, .slice B b.l.length cb] 25)) (Gr.refl (((w.alloc (.cells #[.int .i64 a.c0, .int .i64 a.c1, .int .i64 a.c2, .int .i64 a.c3, .slice A a.l.length ca] 25)).alloc (.cells #[.int .i64 b.c0, .int .i64 b.c1, .int .i64 b.c2, .int .i64 b.c3, .slice B b.l.length cb] 25)).alloc (.cells #[.int .i64 0, .int .i64 0, .int .i64 0, .int .i64 0, .slice none 0 0] 25))) j
    simpa using this
  go_enter Try.func21, Try.ntmps21
  have hN : (((w.alloc (.cells #[.int .i64 a.c0, .int .i64 a.c1, .int .i64 a.c2, .int .i64 a.c3, .slice A a.l.length ca] 25)).alloc (.cells #[.int .i64 b.c0, .int .i64 b.c1, .int .i64 b.c2, .int .i64 b.c3, .slice B b.l.length cb] 25)).alloc (.cells #[.int .i64 0, .int .i64 0, .int .i64 0, .int .i64 0, .slice none 0 0] 25)).heap.size = w.heap.size + 1 + 1 + 1 := by simp
  have hk0 : ClkAt ((((w.alloc (.cells #[.int .i64 a.c0, .int .i64 a.c1, .int .i64 a.c2, .int .i64 a.c3, .slice A a.l.length ca] 25)).alloc (.cells #[.int .i64 b.c0, .int .i64 b.c1, .int .i64 b.c2, .int .i64 b.c3, .slice B b.l.length cb] 25)).alloc (.cells #[.int .i64 0, .int .i64 0, .int .i64 0, .int .i64 0, .slice none 0 0] 25)).alloc (.cells #[.int .i64 a.c0, .int .i64 a.c1, .int .i64 a.c2, .int .i64 a.c3] 22)) (((w.alloc (.cells #[.int .i64 a.c0, .int .i64 a.c1, .int .i64 a.c2, .int .i64 a.c3, .slice A a.l.length ca] 25)).alloc (.cells #[.int .i64 b.c0, .int .i64 b.c1, .int .i64 b.c2, .int .i64 b.c3, .slice B b.l.length cb] 25)).alloc (.cells #[.int .i64 0, .int .i64 0, .int .i64 0, .int .i64 0, .slice none 0 0] 25)).heap.size a.c0 a.c1 a.c2 a.c3 := ⟨box1 (Gr.refl _) rfl, box1 (Gr.refl _) rfl, box1 (Gr.refl _) rfl, box1 (Gr.refl _) rfl, fun j => box1f (Gr.refl _) j, by simp⟩
  go_wp2
  generalize ((w.alloc (.cells #[.int .i64 a.c0, .int .i64 a.c1, .int .i64 a.c2, .int .i64 a.c3, .slice A a.l.length ca] 25)).alloc (.cells #[.int .i64 b.c0, .int .i64 b.c1, .int .i64 b.c2, .int .i64 b.c3, .slice B b.l.length cb] 25)).alloc (.cells #[.int .i64 0, .int .i64 0, .int .i64 0, .int .i64 0, .slice none 0 0] 25) = w1 at ha0 hb0 hz0 hzf0 hg0 hN hk0 ⊢
  rw [hN] at hk0
  have hNH : Hid (w1.heap.size = w.heap.size + 1 + 1 + 1) := hN
  clear hN
  go_loopw [7] (fun i wr => ∃ k : Nat, k ≤ 4 ∧ i = .int .i64 k ∧ ClkAt wr (w.heap.size + 1 + 1 + 1) (mixK a b k).1 (mixK a b k).2.1 (mixK a b k).2.2.1 (mixK a b k).2.2.2 ∧ Below (w.heap.size + 1 + 1 + 1) w1 wr) (fun i _ => 4 - (intOf i).toNat)
  case atStart => exact ⟨0, by omega, rfl, hk0, (Below.refl _ _).alloc (Nat.le_of_eq hNH.out.symm) _⟩
  case round =>
    obtain ⟨k, hk, rfl, hck, hbel⟩ := hrel
    have hw1s : w.heap.size + 1 + 1 + 1 ≤ w1.heap.size := Nat.le_of_eq hNH.out.symm
    by_cases hlt : k < 4
    · have h4 : k = 0 ∨ k = 1 ∨ k = 2 ∨ k = 3 := by omega
      obtain ⟨b0, b1, b2, b3, b4, blt, _⟩ := (show CtxAt _ _ _ _ _ from hb0.below (by rw [hNH.out]; exact hbel))
      obtain ⟨c0, c1, c2, c3, cf, clt⟩ := (show ClkAt _ _ _ _ _ _ from hck)
      clear hk0
      rcases h4 with rfl | rfl | rfl | rfl
      · simp only [mixK] at c0 c1 c2 c3 hck
        by_cases hgt : a.c0 < b.c0
        · have hmx : max a.c0 b.c0 = b.c0 := by omega
          go_upto_region 5 with fail
          go_quiet (fail)
          go_wp2
          go_roundw
          case rel => exact ⟨1, by omega, by go_num, by have := (hck.drewN nq).set 0 b.c0; simpa [mixK, hmx] using this, (below_drewN hbel hw1s nq).setCell (Nat.le_refl _) _⟩
          case measure => simp [intOf]
        · have hmx : max a.c0 b.c0 = a.c0 := by omega
          go_upto_region 5 with fail
          go_quiet (fail)
          go_wp2
          go_roundw
          case rel => exact ⟨1, by omega, by go_num, by simpa [mixK, hmx] using hck.drewN nq, below_drewN hbel hw1s nq⟩
          case measure => simp [intOf]
      · simp only [mixK] at c0 c1 c2 c3 hck
        by_cases hgt : a.c1 < b.c1
        · have hmx : max a.c1 b.c1 = b.c1 := by omega
          go_upto_region 5 with fail
          go_quiet (fail)
          go_wp2
          go_roundw
          case rel => exact ⟨2, by omega, by go_num, by have := (hck.drewN nq).set 1 b.c1; simpa [mixK, hmx] using this, (below_drewN hbel hw1s nq).setCell (Nat.le_refl _) _⟩
          case measure => simp [intOf]
        · have hmx : max a.c1 b.c1 = a.c1 := by omega
          go_upto_region 5 with fail
          go_quiet (fail)
          go_wp2
          go_roundw
          case rel => exact ⟨2, by omega, by go_num, by simpa [mixK, hmx] using hck.drewN nq, below_drewN hbel hw1s nq⟩
          case measure => simp [intOf]
      · simp only [mixK] at c0 c1 c2 c3 hck
        by_cases hgt : a.c2 < b.c2
        · have hmx : max a.c2 b.c2 = b.c2 := by omega
          go_upto_region 5 with fail
          go_quiet (fail)
          go_wp2
          go_roundw
          case rel => exact ⟨3, by omega, by go_num, by have := (hck.drewN nq).set 2 b.c2; simpa [mixK, hmx] using this, (below_drewN hbel hw1s nq).setCell (Nat.le_refl _) _⟩
          case measure => simp [intOf]
        · have hmx : max a.c2 b.c2 = a.c2 := by omega
          go_upto_region 5 with fail
          go_quiet (fail)
          go_wp2
          go_roundw
          case rel => exact ⟨3, by omega, by go_num, by simpa [mixK, hmx] using hck.drewN nq, below_drewN hbel hw1s nq⟩
          case measure => simp [intOf]
      · simp only [mixK] at c0 c1 c2 c3 hck
        by_cases hgt : a.c3 < b.c3
        · have hmx : max a.c3 b.c3 = b.c3 := by omega
          go_upto_region 5 with fail
          go_quiet (fail)
          go_wp2
          go_roundw
          case rel => exact ⟨4, by omega, by go_num, by have := (hck.drewN nq).set 3 b.c3; simpa [mixK, hmx] using this, (below_drewN hbel hw1s nq).setCell (Nat.le_refl _) _⟩
          case measure => simp [intOf]
        · have hmx : max a.c3 b.c3 = a.c3 := by omega
          go_upto_region 5 with fail
          go_quiet (fail)
          go_wp2
          go_roundw
          case rel => exact ⟨4, by omega, by go_num, by simpa [mixK, hmx] using hck.drewN nq, below_drewN hbel hw1s nq⟩
          case measure => simp [intOf]
    · obtain rfl : k = 4 := by omega
      simp only [mixK] at hck
      simp only [show (0 < 4) = True from by simp, show (1 < 4) = True from by simp, show (2 < 4) = True from by simp, show (3 < 4) = True from by simp, if_true] at hck
      have hbel' : Below w1.heap.size w1 wr := by rw [hNH.out]; exact hbel
      have haR := ha0.below hbel'
      have hbR := hb0.below hbel'
      have hzR := hz0.below hbel'
      have hzfR : ∀ j, wr.frozen? ⟨w.heap.size + 1 + 1, j, none⟩ = false := fun j => (hbel'.frozen (p := ⟨w.heap.size + 1 + 1, j, none⟩) hz0.lt).trans (hzf0 j)
      have hbwR : Hid (Below w.heap.size w wr) := hg0.below.trans (hbel'.mono hg0.size)
      have hab := errB_ok heH.out
      have hpa := errC_parts hab.1
      have hpb := errC_parts hab.2
      have hal4 : a.l.length ≤ 400 := hpa.2.1
      have hbl4 : b.l.length ≤ 400 := hpb.2.1
      have hrA : Hid (∀ W, Below wr.heap.size wr W → Row W A a.l) := fun W h => haR.row.below h
      have hrB : Hid (∀ W, Below wr.heap.size wr W → Row W B b.l) := fun W h => hbR.row.below h
      have hAH : Hid (A = none → ca = 0) := hA
      have hBH : Hid (B = none → cb = 0) := hB
      obtain ⟨F, hF⟩ : ∃ F, foldS (joinK a b) (a.l ++ b.l) = F := ⟨_, rfl⟩
      have hri : ∀ x ∈ a.l ++ b.l, rightB x = true := fun x hx => by
        rcases List.mem_append.1 hx with h | h
        · exact errC_right hab.1 x h
        · exact errC_right hab.2 x h
      have hpk : ∀ (W : World) (C1 : Option Addr) (cp1 : Nat), Row W C1 (a.l ++ b.l) → (C1 = none → cp1 = 0) → Calls Try.prog 12 #[.agg #[.int .i64 (max a.c0 b.c0), .int .i64 (max a.c1 b.c1), .int .i64 (max a.c2 b.c2), .int .i64 (max a.c3 b.c3)], .slice C1 (a.l.length + b.l.length) cp1] W fun e w' => ∃ C2 cp2, e = .returned (.agg #[.int .i64 F.c0, .int .i64 F.c1, .int .i64 F.c2, .int .i64 F.c3, .slice C2 F.l.length cp2]) ∧ Row w' C2 F.l ∧ (C2 = none → cp2 = 0) ∧ (∀ x, C2 = some x → W.heap.size ≤ x.block) ∧ Below W.heap.size W w' := fun W C1 cp1 hr1 hC1 => by
        have h := packed_any (joinK a b) (a.l ++ b.l) C1 cp1 W rfl (joinK_ok hpa.1 hpb.1) (by rw [List.length_append]; omega) hri hr1 hC1
        rw [pack_fold rfl hri, hF, List.length_append] at h
        exact h
      have hpkH : Hid (∀ (W : World) (C1 : Option Addr) (cp1 : Nat), Row W C1 (a.l ++ b.l) → (C1 = none → cp1 = 0) → _) := hpk
      have hFF : Hid (joinF a b = F) := hF
      have hb1H : Hid ((([] : List (Int × Int)).length + a.l.length) * 16 ≤ 140737488355328) := by show _ ≤ _; simp; omega
      have hb2H : Hid ((a.l.length + b.l.length) * 16 ≤ 140737488355328) := by show _ ≤ _; omega
      clear hpk hF hri hpa hpb hab
      obtain ⟨c0, c1, c2, c3, cf, clt⟩ := (show ClkAt _ _ _ _ _ _ from hck)
      obtain ⟨a0, a1, a2, a3, a4, alt', _⟩ := (show CtxAt _ _ _ _ _ from haR)
      obtain ⟨b0, b1, b2, b3, b4, blt', _⟩ := (show CtxAt _ _ _ _ _ from hbR)
      have hKeep : Hid (∀ w' : World, Below wr.heap.size wr w' → (fun w' => w'.cell? ⟨w.heap.size + 1 + 1 + 1, 0, none⟩ = some (.int .i64 (max a.c0 b.c0)) ∧ w'.cell? ⟨w.heap.size + 1 + 1 + 1, 1, none⟩ = some (.int .i64 (max a.c1 b.c1)) ∧ w'.cell? ⟨w.heap.size + 1 + 1 + 1, 2, none⟩ = some (.int .i64 (max a.c2 b.c2)) ∧ w'.cell? ⟨w.heap.size + 1 + 1 + 1, 3, none⟩ = some (.int .i64 (max a.c3 b.c3)) ∧ w'.cell? ⟨w.heap.size, 4, none⟩ = some (.slice A a.l.length ca) ∧ w'.cell? ⟨w.heap.size + 1, 4, none⟩ = some (.slice B b.l.length cb)) w') := fun w' hb => ⟨(hb.cell (p := ⟨w.heap.size + 1 + 1 + 1, 0, none⟩) clt).trans c0, (hb.cell (p := ⟨w.heap.size + 1 + 1 + 1, 1, none⟩) clt).trans c1, (hb.cell (p := ⟨w.heap.size + 1 + 1 + 1, 2, none⟩) clt).trans c2, (hb.cell (p := ⟨w.heap.size + 1 + 1 + 1, 3, none⟩) clt).trans c3, (hb.cell (p := ⟨w.heap.size, 4, none⟩) alt').trans a4, (hb.cell (p := ⟨w.heap.size + 1, 4, none⟩) blt').trans b4⟩
      have hZR : Hid (ZAt wr (w.heap.size + 1 + 1)) := ⟨hzR.k0, hzR.k1, hzR.k2, hzR.k3, hzR.k4, hzfR, hzR.lt⟩
      go_upto_region 7 with fail
      have hbd : Below wr.heap.size wr wr.drew := (Below.refl _ _).drew
      have hbdA : Hid (Below wr.heap.size wr (wr.drew.alloc (.cells #[.int .i64 0, .int .i64 0, .int .i64 0, .int .i64 0, .slice none 0 0] 25))) := hbd.alloc (Nat.le_refl _) _
      have hbdB : Hid (Below wr.heap.size wr (wr.alloc (.cells #[.int .i64 0, .int .i64 0, .int .i64 0, .int .i64 0, .slice none 0 0] 25)).drew) := ((Below.refl _ _).alloc (Nat.le_refl _) _).drew
      clear a0 a1 a2 a3 a4 b0 b1 b2 b3 b4 c0 c1 c2 c3 cf hck haR hbR hzR hk0 hzf0 hzfR ha0 hb0 hz0
      go_region_held3 (fun w' => w'.cell? ⟨w.heap.size + 1 + 1 + 1, 0, none⟩ = some (.int .i64 (max a.c0 b.c0)) ∧ w'.cell? ⟨w.heap.size + 1 + 1 + 1, 1, none⟩ = some (.int .i64 (max a.c1 b.c1)) ∧ w'.cell? ⟨w.heap.size + 1 + 1 + 1, 2, none⟩ = some (.int .i64 (max a.c2 b.c2)) ∧ w'.cell? ⟨w.heap.size + 1 + 1 + 1, 3, none⟩ = some (.int .i64 (max a.c3 b.c3)) ∧ w'.cell? ⟨w.heap.size, 4, none⟩ = some (.slice A a.l.length ca) ∧ w'.cell? ⟨w.heap.size + 1, 4, none⟩ = some (.slice B b.l.length cb)) (first | with_reducible exact hKeep.out _ hbd | with_reducible exact hKeep.out _ hbdB.out | with_reducible exact hKeep.out _ hbdA.out | with_reducible exact hKeep.out _ hbX.out | with_reducible exact hKeep.out _ (hbX.out.alloc hbX.out.size _) | with_reducible exact hKeep.out _ hbY.out | with_reducible exact hKeep.out _ (hbY.out.alloc hbY.out.size _) | with_reducible exact hKeep.out _ hbP.out | with_reducible exact hKeep.out _ (hbP.out.alloc hbP.out.size _) | with_reducible exact hKeep.out _ (below_set5 hbP.out (Nat.le_refl _) _ _ _ _ _) | with_reducible exact hKeep.out _ (below_set5 hbP.out hbX.out.size _ _ _ _ _) | with_reducible exact hKeep.out _ (below_set5 hbP.out hbY.out.size _ _ _ _ _))
        (first
          | (refine step_append_dots _ rfl _ (.tmp 31) rfl wr.heap.size (.slice none 0 0) [] a.l A ca (by simp [Act.eval]) (by simp [Act.eval]) (Own.nil _ _) (hrA.out _ hbd) hAH.out hb1H.out (Nat.le_refl _) ?_; intro vA wA hownA hgrA hatA; have hbX : Hid (Below wr.heap.size wr wA) := hbd.trans (below_none hgrA); have hownX : Hid (Own wA wr.heap.size vA a.l) := hownA; clear hownA hgrA hatA; obtain ⟨A1, cap1, rfl, hA1, hrow1, hlt1⟩ := hownX.out.row; clear hrow1 hlt1)
          | (refine step_append_dots _ rfl _ (.tmp 31) rfl (wr.heap.size + 1) (.slice none 0 0) [] a.l A ca (by simp [Act.eval]) (by simp [Act.eval]) (Own.nil _ _) (hrA.out _ hbdB.out) hAH.out hb1H.out (by simp) ?_; intro vA wA hownA hgrA hatA; have hbX : Hid (Below wr.heap.size wr wA) := hbdB.out.trans ((below_none hgrA).mono hbdB.out.size); have hzX : Hid (ZAt wA wr.heap.size) := ((ZAt.new wr 25 rfl).below ((Gr.refl _).drew).below).below (below_none hgrA); have hownX : Hid (Own wA (wr.heap.size + 1) vA a.l) := hownA; clear hownA hgrA hatA; obtain ⟨A1, cap1, rfl, hA1, hrow1, hlt1⟩ := hownX.out.row; clear hrow1 hlt1)
          | (refine step_append_dots _ rfl (.tmp 32) (.tmp 34) rfl wr.heap.size (.slice A1 a.l.length cap1) a.l b.l B cb (by simp [Act.eval]) (by simp [Act.eval]) hownX.out (hrB.out _ hbX.out) hBH.out hb2H.out hbX.out.size ?_; intro vB wB hownB hgrB hatB; have hbY : Hid (Below wr.heap.size wr wB) := hbX.out.trans (Own.grown_below hownX.out hgrB hbX.out.size); have hownY : Hid (Own wB wr.heap.size vB (a.l ++ b.l)) := hownB; clear hownB hgrB hatB; obtain ⟨A2, cap2, rfl, hA2, hrow2, hlt2⟩ := hownY.out.row; clear hlt2; have hrow2H : Hid (Row wB A2 (a.l ++ b.l)) := hrow2; clear hrow2)
          | (refine step_append_dots _ rfl (.tmp 32) (.tmp 34) rfl (wr.heap.size + 1) (.slice A1 a.l.length cap1) a.l b.l B cb (by simp [Act.eval]) (by simp [Act.eval]) hownX.out (hrB.out _ hbX.out) hBH.out hb2H.out hzX.out.lt ?_; intro vB wB hownB hgrB hatB; have hbY : Hid (Below wr.heap.size wr wB) := hbX.out.trans ((Own.grown_below hownX.out hgrB hzX.out.lt).mono (Nat.le_succ _)); have hzY : Hid (ZAt wB wr.heap.size) := hzX.out.belowB (Own.grown_below hownX.out hgrB hzX.out.lt) (Nat.lt_succ_self _); have hownY : Hid (Own wB (wr.heap.size + 1) vB (a.l ++ b.l)) := hownB; clear hownB hgrB hatB; obtain ⟨A2, cap2, rfl, hA2, hrow2, hlt2⟩ := hownY.out.row; clear hlt2; have hrow2H : Hid (Row wB A2 (a.l ++ b.l)) := hrow2; clear hrow2)
          | (refine step_append_dots _ rfl (.tmp 32) (.tmp 34) rfl wr.heap.size (.slice A1 a.l.length cap1) a.l b.l B cb (by simp [Act.eval]) (by simp [Act.eval]) (hownX.out.gr ((Gr.refl _).alloc _)) (hrB.out _ (hbX.out.alloc hbX.out.size _)) hBH.out hb2H.out (hbX.out.alloc hbX.out.size _).size ?_; intro vB wB hownB hgrB hatB; have hbY : Hid (Below wr.heap.size wr wB) := (hbX.out.alloc hbX.out.size _).trans (Own.grown_below (hownX.out.gr ((Gr.refl _).alloc _)) hgrB (hbX.out.alloc hbX.out.size _).size); have hzY : Hid (ZAt wB wA.heap.size) := (ZAt.new wA 25 rfl).grown hgrB (fun e => by have := (hownX.out.lt _ e.symm).2; omega); have hownY : Hid (Own wB wr.heap.size vB (a.l ++ b.l)) := hownB; clear hownB hgrB hatB; obtain ⟨A2, cap2, rfl, hA2, hrow2, hlt2⟩ := hownY.out.row; clear hlt2; have hrow2H : Hid (Row wB A2 (a.l ++ b.l)) := hrow2; clear hrow2)
          | (go_at_call 12; (with_reducible refine Calls.mono (show Calls _ _ _ _ _ from hpkH.out (wB.alloc (.cells #[.int .i64 0, .int .i64 0, .int .i64 0, .int .i64 0, .slice none 0 0] 25)) A2 cap2 (hrow2H.out.gr ((Gr.refl _).alloc _)) hA2) ?_); rintro e wP ⟨C2, cp2, rfl, hrowP, hCP, hCbP0, hbP0⟩; have hbP : Hid (Below wr.heap.size wr wP) := (hbY.out.alloc hbY.out.size _).trans (hbP0.mono (hbY.out.alloc hbY.out.size _).size); have hrP : Hid (Row wP C2 F.l) := hrowP; have hCbP : Hid (∀ x, C2 = some x → (wB.alloc (.cells #[.int .i64 0, .int .i64 0, .int .i64 0, .int .i64 0, .slice none 0 0] 25)).heap.size ≤ x.block) := hCbP0; have hzP : Hid (ZAt wP wB.heap.size) := (ZAt.new wB 25 rfl).below hbP0; clear hrowP hCbP0 hbP0; obtain ⟨y0, y1, y2, y3, y4, yf, ylt⟩ := hzP.out)
          | (go_at_call 12; (with_reducible refine Calls.mono (show Calls _ _ _ _ _ from hpkH.out wB A2 cap2 hrow2H.out hA2) ?_); rintro e wP ⟨C2, cp2, rfl, hrowP, hCP, hCbP0, hbP0⟩; have hbP : Hid (Below wr.heap.size wr wP) := hbY.out.trans (hbP0.mono hbY.out.size); have hrP : Hid (Row wP C2 F.l) := hrowP; have hCbP : Hid (∀ x, C2 = some x → wB.heap.size ≤ x.block) := hCbP0; clear hrowP hCbP0; first | (have hzP : Hid (ZAt wP _) := hzY.out.below hbP0; obtain ⟨y0, y1, y2, y3, y4, yf, ylt⟩ := hzP.out; clear hbP0) | (clear hbP0)))
      · have hwr : w.heap.size + 1 + 1 < wr.heap.size := hZR.out.lt
        have hsB : wr.heap.size ≤ wB.heap.size := hbY.out.size
        have hsP : wr.heap.size ≤ wP.heap.size := hbP.out.size
        have hFV : CtxAt (wP.alloc (.cells #[.int .i64 F.c0, .int .i64 F.c1, .int .i64 F.c2, .int .i64 F.c3, .slice C2 F.l.length cp2] 25)) wP.heap.size F C2 cp2 := CtxAt.new 25 hrP.out rfl
        have hZV : ZAt (wP.alloc (.cells #[.int .i64 F.c0, .int .i64 F.c1, .int .i64 F.c2, .int .i64 F.c3, .slice C2 F.l.length cp2] 25)) (w.heap.size + 1 + 1) := (hZR.out.below hbP.out).below ((Gr.refl _).alloc _).below
        have hbV : Hid (Below w.heap.size w (wP.alloc (.cells #[.int .i64 F.c0, .int .i64 F.c1, .int .i64 F.c2, .int .i64 F.c3, .slice C2 F.l.length cp2] 25))) := (hbwR.out.trans (hbP.out.mono hbwR.out.size)).alloc (Nat.le_trans hbwR.out.size hsP) _
        have hC2 : Hid (∀ x, C2 = some x → w.heap.size + 1 + 1 < x.block) := fun x hx => by have := hCbP.out x hx; omega
        generalize (wP.alloc (.cells #[.int .i64 F.c0, .int .i64 F.c1, .int .i64 F.c2, .int .i64 F.c3, .slice C2 F.l.length cp2] 25)) = V at hFV hZV hbV ⊢
        obtain ⟨f0, f1, f2, f3, f4, flt, frow⟩ := (show CtxAt _ _ _ _ _ from hFV)
        obtain ⟨z0, z1, z2, z3, z4, zf, zl⟩ := (show ZAt _ _ from hZV)
        by_cases h400 : 400 < F.l.length
        · have h400z : (400 : Int) < (F.l.length : Int) := by omega
          have hfin : Hid (joinE a b = 2 ∧ joinC a b = zeroC) := by
            have h1 : joinE a b = 2 := by unfold joinE; rw [if_pos heH.out, hFF.out, if_pos h400]
            exact ⟨h1, by simp [joinC, h1]⟩
          go_wp2
          rw [hfin.out.1, hfin.out.2]
          exact bodyPost_ret (v := .tuple #[.agg #[.int .i64 0, .int .i64 0, .int .i64 0, .int .i64 0, .slice none 0 0], .int .i64 2]) (by simp [results, Try.results21, go_sem, z0, z1, z2, z3, z4]) rfl ⟨none, 0, rfl, Or.inl rfl, fun _ => rfl, (fun x hx => by cases hx), below_set5 hbV.out (by omega) _ _ _ _ _⟩
        · have h400z : ¬ (400 : Int) < (F.l.length : Int) := by omega
          have hfin : Hid (joinE a b = 0 ∧ joinC a b = F) := by
            have h1 : joinE a b = 0 := by unfold joinE; rw [if_pos heH.out, hFF.out, if_neg h400]
            exact ⟨h1, by simp [joinC, h1, hFF.out]⟩
          have hCn : ∀ x, C2 = some x → x.block ≠ w.heap.size + 1 + 1 := fun x hx => by have := hC2.out x hx; omega
          go_wp2
          rw [hfin.out.1, hfin.out.2]
          refine bodyPost_ret (v := .tuple #[.agg #[.int .i64 F.c0, .int .i64 F.c1, .int .i64 F.c2, .int .i64 F.c3, .slice C2 F.l.length cp2], .int .i64 0]) (by simp [results, Try.results21, go_sem, z0, z1, z2, z3, z4]) rfl ⟨C2, cp2, rfl, ?_, hCP, fun x hx => by have := hC2.out x hx; omega, below_set5 hbV.out (by omega) _ _ _ _ _⟩
          exact ((((frow.setCell _ hCn).setCell _ hCn).setCell _ hCn).setCell _ hCn).setCell _ hCn
      · have hwr : w.heap.size + 1 + 1 < wr.heap.size := hZR.out.lt
        have hsB : wr.heap.size ≤ wB.heap.size := hbY.out.size
        have hsP : wr.heap.size ≤ wP.heap.size := hbP.out.size
        have hFV : CtxAt (((((wP.setCell ⟨wB.heap.size, 0, none⟩ (.int .i64 F.c0)).setCell ⟨wB.heap.size, 1, none⟩ (.int .i64 F.c1)).setCell ⟨wB.heap.size, 2, none⟩ (.int .i64 F.c2)).setCell ⟨wB.heap.size, 3, none⟩ (.int .i64 F.c3)).setCell ⟨wB.heap.size, 4, none⟩ (.slice C2 F.l.length cp2)) wB.heap.size F C2 cp2 := (hzP.out.ctx).set hrP.out (fun x hx => by have h1 := hCbP.out x hx; simp at h1; omega)
        have hZV : ZAt (((((wP.setCell ⟨wB.heap.size, 0, none⟩ (.int .i64 F.c0)).setCell ⟨wB.heap.size, 1, none⟩ (.int .i64 F.c1)).setCell ⟨wB.heap.size, 2, none⟩ (.int .i64 F.c2)).setCell ⟨wB.heap.size, 3, none⟩ (.int .i64 F.c3)).setCell ⟨wB.heap.size, 4, none⟩ (.slice C2 F.l.length cp2)) (w.heap.size + 1 + 1) := (hZR.out.below hbP.out).other5 _ _ _ _ _ (Nat.ne_of_lt (Nat.lt_of_lt_of_le hwr (hsB)))
        have hbV : Hid (Below w.heap.size w (((((wP.setCell ⟨wB.heap.size, 0, none⟩ (.int .i64 F.c0)).setCell ⟨wB.heap.size, 1, none⟩ (.int .i64 F.c1)).setCell ⟨wB.heap.size, 2, none⟩ (.int .i64 F.c2)).setCell ⟨wB.heap.size, 3, none⟩ (.int .i64 F.c3)).setCell ⟨wB.heap.size, 4, none⟩ (.slice C2 F.l.length cp2))) := below_set5 (hbwR.out.trans (hbP.out.mono hbwR.out.size)) (Nat.le_trans hbwR.out.size (hsB)) _ _ _ _ _
        have hC2 : Hid (∀ x, C2 = some x → w.heap.size + 1 + 1 < x.block) := fun x hx => by have h1 := hCbP.out x hx; simp at h1; omega
        generalize (((((wP.setCell ⟨wB.heap.size, 0, none⟩ (.int .i64 F.c0)).setCell ⟨wB.heap.size, 1, none⟩ (.int .i64 F.c1)).setCell ⟨wB.heap.size, 2, none⟩ (.int .i64 F.c2)).setCell ⟨wB.heap.size, 3, none⟩ (.int .i64 F.c3)).setCell ⟨wB.heap.size, 4, none⟩ (.slice C2 F.l.length cp2)) = V at hFV hZV hbV ⊢
        obtain ⟨f0, f1, f2, f3, f4, flt, frow⟩ := (show CtxAt _ _ _ _ _ from hFV)
        obtain ⟨z0, z1, z2, z3, z4, zf, zl⟩ := (show ZAt _ _ from hZV)
        by_cases h400 : 400 < F.l.length
        · have h400z : (400 : Int) < (F.l.length : Int) := by omega
          have hfin : Hid (joinE a b = 2 ∧ joinC a b = zeroC) := by
            have h1 : joinE a b = 2 := by unfold joinE; rw [if_pos heH.out, hFF.out, if_pos h400]
            exact ⟨h1, by simp [joinC, h1]⟩
          go_wp2
          rw [hfin.out.1, hfin.out.2]
          exact bodyPost_ret (v := .tuple #[.agg #[.int .i64 0, .int .i64 0, .int .i64 0, .int .i64 0, .slice none 0 0], .int .i64 2]) (by simp [results, Try.results21, go_sem, z0, z1, z2, z3, z4]) rfl ⟨none, 0, rfl, Or.inl rfl, fun _ => rfl, (fun x hx => by cases hx), below_set5 hbV.out (by omega) _ _ _ _ _⟩
        · have h400z : ¬ (400 : Int) < (F.l.length : Int) := by omega
          have hfin : Hid (joinE a b = 0 ∧ joinC a b = F) := by
            have h1 : joinE a b = 0 := by unfold joinE; rw [if_pos heH.out, hFF.out, if_neg h400]
            exact ⟨h1, by simp [joinC, h1, hFF.out]⟩
          have hCn : ∀ x, C2 = some x → x.block ≠ w.heap.size + 1 + 1 := fun x hx => by have := hC2.out x hx; omega
          go_wp2
          rw [hfin.out.1, hfin.out.2]
          refine bodyPost_ret (v := .tuple #[.agg #[.int .i64 F.c0, .int .i64 F.c1, .int .i64 F.c2, .int .i64 F.c3, .slice C2 F.l.length cp2], .int .i64 0]) (by simp [results, Try.results21, go_sem, z0, z1, z2, z3, z4]) rfl ⟨C2, cp2, rfl, ?_, hCP, fun x hx => by have := hC2.out x hx; omega, below_set5 hbV.out (by omega) _ _ _ _ _⟩
          exact ((((frow.setCell _ hCn).setCell _ hCn).setCell _ hCn).setCell _ hCn).setCell _ hCn
      · have hwr : w.heap.size + 1 + 1 < wr.heap.size := hZR.out.lt
        have hsB : wr.heap.size ≤ wB.heap.size := hbY.out.size
        have hsP : wr.heap.size ≤ wP.heap.size := hbP.out.size
        have hFV : CtxAt (((((wP.setCell ⟨wA.heap.size, 0, none⟩ (.int .i64 F.c0)).setCell ⟨wA.heap.size, 1, none⟩ (.int .i64 F.c1)).setCell ⟨wA.heap.size, 2, none⟩ (.int .i64 F.c2)).setCell ⟨wA.heap.size, 3, none⟩ (.int .i64 F.c3)).setCell ⟨wA.heap.size, 4, none⟩ (.slice C2 F.l.length cp2)) wA.heap.size F C2 cp2 := (hzP.out.ctx).set hrP.out (fun x hx => by have h1 := hCbP.out x hx; have h2 := hzY.out.lt; omega)
        have hZV : ZAt (((((wP.setCell ⟨wA.heap.size, 0, none⟩ (.int .i64 F.c0)).setCell ⟨wA.heap.size, 1, none⟩ (.int .i64 F.c1)).setCell ⟨wA.heap.size, 2, none⟩ (.int .i64 F.c2)).setCell ⟨wA.heap.size, 3, none⟩ (.int .i64 F.c3)).setCell ⟨wA.heap.size, 4, none⟩ (.slice C2 F.l.length cp2)) (w.heap.size + 1 + 1) := (hZR.out.below hbP.out).other5 _ _ _ _ _ (Nat.ne_of_lt (Nat.lt_of_lt_of_le hwr (hbX.out.size)))
        have hbV : Hid (Below w.heap.size w (((((wP.setCell ⟨wA.heap.size, 0, none⟩ (.int .i64 F.c0)).setCell ⟨wA.heap.size, 1, none⟩ (.int .i64 F.c1)).setCell ⟨wA.heap.size, 2, none⟩ (.int .i64 F.c2)).setCell ⟨wA.heap.size, 3, none⟩ (.int .i64 F.c3)).setCell ⟨wA.heap.size, 4, none⟩ (.slice C2 F.l.length cp2))) := below_set5 (hbwR.out.trans (hbP.out.mono hbwR.out.size)) (Nat.le_trans hbwR.out.size (hbX.out.size)) _ _ _ _ _
        have hC2 : Hid (∀ x, C2 = some x → w.heap.size + 1 + 1 < x.block) := fun x hx => by have h1 := hCbP.out x hx; omega
        generalize (((((wP.setCell ⟨wA.heap.size, 0, none⟩ (.int .i64 F.c0)).setCell ⟨wA.heap.size, 1, none⟩ (.int .i64 F.c1)).setCell ⟨wA.heap.size, 2, none⟩ (.int .i64 F.c2)).setCell ⟨wA.heap.size, 3, none⟩ (.int .i64 F.c3)).setCell ⟨wA.heap.size, 4, none⟩ (.slice C2 F.l.length cp2)) = V at hFV hZV hbV ⊢
        obtain ⟨f0, f1, f2, f3, f4, flt, frow⟩ := (show CtxAt _ _ _ _ _ from hFV)
        obtain ⟨z0, z1, z2, z3, z4, zf, zl⟩ := (show ZAt _ _ from hZV)
        by_cases h400 : 400 < F.l.length
        · have h400z : (400 : Int) < (F.l.length : Int) := by omega
          have hfin : Hid (joinE a b = 2 ∧ joinC a b = zeroC) := by
            have h1 : joinE a b = 2 := by unfold joinE; rw [if_pos heH.out, hFF.out, if_pos h400]
            exact ⟨h1, by simp [joinC, h1]⟩
          go_wp2
          rw [hfin.out.1, hfin.out.2]
          exact bodyPost_ret (v := .tuple #[.agg #[.int .i64 0, .int .i64 0, .int .i64 0, .int .i64 0, .slice none 0 0], .int .i64 2]) (by simp [results, Try.results21, go_sem, z0, z1, z2, z3, z4]) rfl ⟨none, 0, rfl, Or.inl rfl, fun _ => rfl, (fun x hx => by cases hx), below_set5 hbV.out (by omega) _ _ _ _ _⟩
        · have h400z : ¬ (400 : Int) < (F.l.length : Int) := by omega
          have hfin : Hid (joinE a b = 0 ∧ joinC a b = F) := by
            have h1 : joinE a b = 0 := by unfold joinE; rw [if_pos heH.out, hFF.out, if_neg h400]
            exact ⟨h1, by simp [joinC, h1, hFF.out]⟩
          have hCn : ∀ x, C2 = some x → x.block ≠ w.heap.size + 1 + 1 := fun x hx => by have := hC2.out x hx; omega
          go_wp2
          rw [hfin.out.1, hfin.out.2]
          refine bodyPost_ret (v := .tuple #[.agg #[.int .i64 F.c0, .int .i64 F.c1, .int .i64 F.c2, .int .i64 F.c3, .slice C2 F.l.length cp2], .int .i64 0]) (by simp [results, Try.results21, go_sem, z0, z1, z2, z3, z4]) rfl ⟨C2, cp2, rfl, ?_, hCP, fun x hx => by have := hC2.out x hx; omega, below_set5 hbV.out (by omega) _ _ _ _ _⟩
          exact ((((frow.setCell _ hCn).setCell _ hCn).setCell _ hCn).setCell _ hCn).setCell _ hCn
      · have hwr : w.heap.size + 1 + 1 < wr.heap.size := hZR.out.lt
        have hsB : wr.heap.size ≤ wB.heap.size := hbY.out.size
        have hsP : wr.heap.size ≤ wP.heap.size := hbP.out.size
        have hFV : CtxAt (((((wP.setCell ⟨wr.heap.size, 0, none⟩ (.int .i64 F.c0)).setCell ⟨wr.heap.size, 1, none⟩ (.int .i64 F.c1)).setCell ⟨wr.heap.size, 2, none⟩ (.int .i64 F.c2)).setCell ⟨wr.heap.size, 3, none⟩ (.int .i64 F.c3)).setCell ⟨wr.heap.size, 4, none⟩ (.slice C2 F.l.length cp2)) wr.heap.size F C2 cp2 := (hzP.out.ctx).set hrP.out (fun x hx => by have h1 := hCbP.out x hx; have h2 := hzY.out.lt; omega)
        have hZV : ZAt (((((wP.setCell ⟨wr.heap.size, 0, none⟩ (.int .i64 F.c0)).setCell ⟨wr.heap.size, 1, none⟩ (.int .i64 F.c1)).setCell ⟨wr.heap.size, 2, none⟩ (.int .i64 F.c2)).setCell ⟨wr.heap.size, 3, none⟩ (.int .i64 F.c3)).setCell ⟨wr.heap.size, 4, none⟩ (.slice C2 F.l.length cp2)) (w.heap.size + 1 + 1) := (hZR.out.below hbP.out).other5 _ _ _ _ _ (Nat.ne_of_lt (Nat.lt_of_lt_of_le hwr (Nat.le_refl _)))
        have hbV : Hid (Below w.heap.size w (((((wP.setCell ⟨wr.heap.size, 0, none⟩ (.int .i64 F.c0)).setCell ⟨wr.heap.size, 1, none⟩ (.int .i64 F.c1)).setCell ⟨wr.heap.size, 2, none⟩ (.int .i64 F.c2)).setCell ⟨wr.heap.size, 3, none⟩ (.int .i64 F.c3)).setCell ⟨wr.heap.size, 4, none⟩ (.slice C2 F.l.length cp2))) := below_set5 (hbwR.out.trans (hbP.out.mono hbwR.out.size)) (Nat.le_trans hbwR.out.size (Nat.le_refl _)) _ _ _ _ _
        have hC2 : Hid (∀ x, C2 = some x → w.heap.size + 1 + 1 < x.block) := fun x hx => by have h1 := hCbP.out x hx; omega
        generalize (((((wP.setCell ⟨wr.heap.size, 0, none⟩ (.int .i64 F.c0)).setCell ⟨wr.heap.size, 1, none⟩ (.int .i64 F.c1)).setCell ⟨wr.heap.size, 2, none⟩ (.int .i64 F.c2)).setCell ⟨wr.heap.size, 3, none⟩ (.int .i64 F.c3)).setCell ⟨wr.heap.size, 4, none⟩ (.slice C2 F.l.length cp2)) = V at hFV hZV hbV ⊢
        obtain ⟨f0, f1, f2, f3, f4, flt, frow⟩ := (show CtxAt _ _ _ _ _ from hFV)
        obtain ⟨z0, z1, z2, z3, z4, zf, zl⟩ := (show ZAt _ _ from hZV)
        by_cases h400 : 400 < F.l.length
        · have h400z : (400 : Int) < (F.l.length : Int) := by omega
          have hfin : Hid (joinE a b = 2 ∧ joinC a b = zeroC) := by
            have h1 : joinE a b = 2 := by unfold joinE; rw [if_pos heH.out, hFF.out, if_pos h400]
            exact ⟨h1, by simp [joinC, h1]⟩
          go_wp2
          rw [hfin.out.1, hfin.out.2]
          exact bodyPost_ret (v := .tuple #[.agg #[.int .i64 0, .int .i64 0, .int .i64 0, .int .i64 0, .slice none 0 0], .int .i64 2]) (by simp [results, Try.results21, go_sem, z0, z1, z2, z3, z4]) rfl ⟨none, 0, rfl, Or.inl rfl, fun _ => rfl, (fun x hx => by cases hx), below_set5 hbV.out (by omega) _ _ _ _ _⟩
        · have h400z : ¬ (400 : Int) < (F.l.length : Int) := by omega
          have hfin : Hid (joinE a b = 0 ∧ joinC a b = F) := by
            have h1 : joinE a b = 0 := by unfold joinE; rw [if_pos heH.out, hFF.out, if_neg h400]
            exact ⟨h1, by simp [joinC, h1, hFF.out]⟩
          have hCn : ∀ x, C2 = some x → x.block ≠ w.heap.size + 1 + 1 := fun x hx => by have := hC2.out x hx; omega
          go_wp2
          rw [hfin.out.1, hfin.out.2]
          refine bodyPost_ret (v := .tuple #[.agg #[.int .i64 F.c0, .int .i64 F.c1, .int .i64 F.c2, .int .i64 F.c3, .slice C2 F.l.length cp2], .int .i64 0]) (by simp [results, Try.results21, go_sem, z0, z1, z2, z3, z4]) rfl ⟨C2, cp2, rfl, ?_, hCP, fun x hx => by have := hC2.out x hx; omega, below_set5 hbV.out (by omega) _ _ _ _ _⟩
          exact ((((frow.setCell _ hCn).setCell _ hCn).setCell _ hCn).setCell _ hCn).setCell _ hCn

end Go.Proofs.Ytjgefnipkaecgaa
