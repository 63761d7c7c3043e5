/-
  viewref.Order: the document's order of two rows.
  The library's slices.SortFunc at rows: where its functions and types stand in this program.
-/
import Derived.Test.YtkmhofkchnhpdaaGreatDoorM05
import Derived.Shelf.SlSortCmp.NoneTotal
import Derived.Shelf.SlGeneric
import Derived.Test.YtkmhofkchnhpdaaGreatDoorProg
namespace Go.Proofs.YtkmhofkchnhpdaaGreatDoor
open Go.RowKit Go.Sort

theorem cmpL_short {a b : List Int} {k : Nat} (h1 : k = a.length) (h2 : k < b.length) (h : ∀ j (h1 : j < a.length) (h2 : j < b.length), j < k → cmpI a[j] b[j] = 0) : cmpL a b = -1 := by
  have := cmpL_end (a := a) (b := b) (by omega) (fun j h3 h4 _ => h j h3 h4 (by omega))
  rw [this, if_pos (by omega)]
theorem cmpL_same {a b : List Int} {k : Nat} (h1 : k = a.length) (h2 : k = b.length) (h : ∀ j (h1 : j < a.length) (h2 : j < b.length), j < k → cmpI a[j] b[j] = 0) : cmpL a b = 0 := by
  have := cmpL_end (a := a) (b := b) (by omega) (fun j h3 h4 _ => h j h3 h4 (by omega))
  rw [this, if_neg (by omega)]
set_option maxRecDepth 100000 in
set_option maxHeartbeats 1000000 in
theorem orderD_any (a b : List Int) (A B : Option Addr) (ca cb : Nat) (w : World) (hal : a.length ≤ maxLen) (hra : RowI w A a) (hrb : RowI w B b) :
    Calls Tryz.prog 20 #[.slice A a.length ca, .slice B b.length cb] w fun e w' => e = .returned (.int .i64 (cmpL a b)) ∧ Gr w w' := by
  have mixed : Tryz.prog.follows .mixedOrders = true := by kernel_rfl
  unfold maxLen at hal
  have hH : Hid (RowI w A a ∧ RowI w B b) := ⟨hra, hrb⟩
  clear hra hrb
  go_enter Tryz.func20, Tryz.ntmps20
  go_wp2
  go_loopw [5] (fun i wr => ∃ k : Nat, k ≤ a.length ∧ k ≤ b.length ∧ i = .int .i64 k ∧ Hid (∀ j (h1 : j < a.length) (h2 : j < b.length), j < k → cmpI a[j] b[j] = 0) ∧ Hid (Gr w wr)) (fun i _ => a.length - (intOf i).toNat)
  case atStart => exact ⟨0, Nat.zero_le _, Nat.zero_le _, rfl, fun j _ _ hj => absurd hj (Nat.not_lt_zero _), Gr.refl _⟩
  case round =>
    obtain ⟨k, hk, hk2, rfl, hno, hgr⟩ := hrel
    by_cases hlt : k < a.length
    · have hltz : (k : Int) < (a.length : Int) := by omega
      by_cases hlt2 : k < b.length
      · have hlt2z : (k : Int) < (b.length : Int) := by omega
        obtain ⟨bb, off, rfl, hb, hcs⟩ := (hH.out.1.gr hgr.out).at hlt
        obtain ⟨x, hx⟩ : ∃ y, a[k] = y := ⟨_, rfl⟩
        have e1 : wr.cell? ⟨bb, off + k, none⟩ = some (.int .i64 x) := by
          have e0 := hcs k hlt 0 (by omega)
          rw [hx] at e0
          simpa [encI] using e0
        obtain ⟨bc, of2, rfl, hb2, hcs2⟩ := (hH.out.2.gr hgr.out).at hlt2
        obtain ⟨y, hy⟩ : ∃ y, b[k] = y := ⟨_, rfl⟩
        have e2 : wr.cell? ⟨bc, of2 + k, none⟩ = some (.int .i64 y) := by
          have e0 := hcs2 k hlt2 0 (by omega)
          rw [hy] at e0
          simpa [encI] using e0
        have hxy : Hid (a[k] = x ∧ b[k] = y) := ⟨hx, hy⟩
        clear hcs hcs2 hx hy
        have g1 := (Gr.refl wr).cellG hb e1
        have g2 := (Gr.refl wr).cellG hb2 e2
        have hc := cmpI_cases x y
        by_cases h1 : x < y
        · have hfin : Hid (cmpL a b = -1) := by
            have hcc : cmpI x y = -1 := by omega
            show _ = _
            rw [cmpL_at hlt hlt2 hno.out (by rw [hxy.out.1, hxy.out.2, hcc]; decide), hxy.out.1, hxy.out.2, hcc]
          clear hc e1 e2
          go_wp2
          refine wp_region_quiet_grown mixed (by kernel_rfl) ?_
          repeat (go_big_quiet_step (fail))
          refine wpQuiet_nil ?_
          rintro _ ⟨⟨nq, osq⟩, rfl⟩
          go_wp2
          go_ret
          exact ⟨by rw [hfin.out]; rfl, hgr.out.trans ⟨nq, osq, rfl⟩⟩
        · have hS1 : Hid (∀ W, Gr wr W → W.cell? ⟨bb, off + k, none⟩ = some (.int .i64 x) ∧ W.cell? ⟨bc, of2 + k, none⟩ = some (.int .i64 y) ∧ bb < W.heap.size ∧ bc < W.heap.size) := fun W h => ⟨(h.cell (p := ⟨bb, off + k, none⟩) hb).trans e1, (h.cell (p := ⟨bc, of2 + k, none⟩) hb2).trans e2, Nat.lt_of_lt_of_le hb h.size, Nat.lt_of_lt_of_le hb2 h.size⟩
          by_cases h2 : y < x
          · have hfin : Hid (cmpL a b = 1) := by
              have hcc : cmpI x y = 1 := by omega
              show _ = _
              rw [cmpL_at hlt hlt2 hno.out (by rw [hxy.out.1, hxy.out.2, hcc]; decide), hxy.out.1, hxy.out.2, hcc]
            clear hc e1 e2
            go_wp2
            refine wp_region_quiet_grown mixed (by kernel_rfl) ?_
            repeat (go_big_quiet_step (fail))
            refine wpQuiet_nil ?_
            rintro _ ⟨⟨nq, osq⟩, rfl⟩
            obtain ⟨W2, hW2⟩ : ∃ W, grow (wr.drewN nq) osq = W := ⟨_, rfl⟩
            have hg2 : Gr wr W2 := ⟨nq, osq, hW2.symm⟩
            rw [hW2]
            obtain ⟨q1, q2, q3, q4⟩ := hS1.out W2 hg2
            clear g1 g2 hW2
            have g1 := (Gr.refl W2).cellG q3 q1
            have g2 := (Gr.refl W2).cellG q4 q2
            clear q1 q2
            have hg2H : Hid (Gr wr W2) := hg2
            clear hg2
            go_wp2
            refine wp_region_quiet_grown mixed (by kernel_rfl) ?_
            repeat (go_big_quiet_step (fail))
            refine wpQuiet_nil ?_
            rintro _ ⟨⟨nr, osr⟩, rfl⟩
            go_wp2
            go_ret
            exact ⟨by rw [hfin.out]; rfl, (hgr.out.trans hg2H.out).trans ⟨nr, osr, rfl⟩⟩
          · have hne : Hid (cmpI a[k] b[k] = 0) := by
              have hcc : cmpI x y = 0 := by omega
              show _ = _
              rw [hxy.out.1, hxy.out.2, hcc]
            clear hc e1 e2
            go_wp2
            refine wp_region_quiet_grown mixed (by kernel_rfl) ?_
            repeat (go_big_quiet_step (fail))
            refine wpQuiet_nil ?_
            rintro _ ⟨⟨nq, osq⟩, rfl⟩
            obtain ⟨W2, hW2⟩ : ∃ W, grow (wr.drewN nq) osq = W := ⟨_, rfl⟩
            have hg2 : Gr wr W2 := ⟨nq, osq, hW2.symm⟩
            rw [hW2]
            obtain ⟨q1, q2, q3, q4⟩ := hS1.out W2 hg2
            clear g1 g2 hW2
            have g1 := (Gr.refl W2).cellG q3 q1
            have g2 := (Gr.refl W2).cellG q4 q2
            clear q1 q2
            have hg2H : Hid (Gr wr W2) := hg2
            clear hg2
            go_wp2
            refine wp_region_quiet_grown mixed (by kernel_rfl) ?_
            repeat (go_big_quiet_step (fail))
            refine wpQuiet_nil ?_
            rintro _ ⟨⟨nr, osr⟩, rfl⟩
            have hfin : Hid (Gr w (grow (W2.drewN nr) osr)) := (hgr.out.trans hg2H.out).trans ⟨nr, osr, rfl⟩
            go_wp2
            go_roundw
            case rel =>
              refine ⟨k + 1, by omega, by omega, by go_num, ?_, hfin⟩
              intro j hj hj2 hjk
              by_cases e : j = k
              · subst e; exact hne.out
              · exact hno.out j hj hj2 (by omega)
            case measure => simp [intOf]; omega
      · have hlt2z : ¬ (k : Int) < (b.length : Int) := by omega
        have hfin : Hid (cmpL a b = 1) := cmpL_long hlt (by omega) hno.out
        have hab : ¬ (a.length : Int) < (b.length : Int) := by omega
        have hba : (b.length : Int) < (a.length : Int) := by omega
        go_wp2
        go_ret
        exact ⟨by rw [hfin.out]; rfl, hgr.out⟩
    · have hltz : ¬ (k : Int) < (a.length : Int) := by omega
      by_cases hlt2 : k < b.length
      · have hfin : Hid (cmpL a b = -1) := cmpL_short (by omega) hlt2 hno.out
        have hab : (a.length : Int) < (b.length : Int) := by omega
        go_wp2
        go_ret
        exact ⟨by rw [hfin.out]; rfl, hgr.out⟩
      · have hfin : Hid (cmpL a b = 0) := cmpL_same (by omega) (by omega) hno.out
        have hab : ¬ (a.length : Int) < (b.length : Int) := by omega
        have hba : ¬ (b.length : Int) < (a.length : Int) := by omega
        go_wp2
        go_ret
        exact ⟨by rw [hfin.out]; rfl, hgr.out⟩
end Go.Proofs.YtkmhofkchnhpdaaGreatDoor

namespace Go.Proofs
open Go.Shelf
def Tryz.sortRow_ren : Go.Shelf.Ren := ⟨fun | 6 => 19 | 15 => 36 | 14 => 35 | 28 => 51 | 29 => 52 | 20 => 43 | 21 => 44 | 22 => 45 | 23 => 46 | 24 => 47 | 25 => 48 | 26 => 49 | 27 => 50 | 46 => 71 | 47 => 72 | 48 => 73 | 49 => 74 | 50 => 75 | 57 => 98 | n => n, fun | 22 => 55 | 24 => 39 | 25 => 57 | 3 => 3 | 39 => 76 | 0 => 0 | 53 => 90 | 55 => 92 | 4 => 4 | 46 => 83 | 45 => 82 | 50 => 87 | 5 => 5 | 9 => 9 | 66 => 107 | 70 => 111 | 76 => 136 | 77 => 137 | n => n, fun | n => n⟩
theorem Tryz.sortRow : Go.Proofs.SlLaysF.n6 Tryz.prog Tryz.sortRow_ren := {
  mixed := by kernel_rfl
  f6 := ⟨Tryz.f19.name, by decide, Tryz.func19.trans (congrArg some (by kernel_rfl))⟩
  f14 := ⟨Tryz.f35.name, by decide, Tryz.func35.trans (congrArg some (by kernel_rfl))⟩
  f15 := Tryz.func36.trans (congrArg some (by kernel_rfl))
  f20 := ⟨Tryz.f43.name, by decide, Tryz.func43.trans (congrArg some (by kernel_rfl))⟩
  f21 := ⟨Tryz.f44.name, by decide, Tryz.func44.trans (congrArg some (by kernel_rfl))⟩
  f22 := ⟨Tryz.f45.name, by decide, Tryz.func45.trans (congrArg some (by kernel_rfl))⟩
  f23 := ⟨Tryz.f46.name, by decide, Tryz.func46.trans (congrArg some (by kernel_rfl))⟩
  f24 := ⟨Tryz.f47.name, by decide, Tryz.func47.trans (congrArg some (by kernel_rfl))⟩
  f25 := ⟨Tryz.f48.name, by decide, Tryz.func48.trans (congrArg some (by kernel_rfl))⟩
  f26 := ⟨Tryz.f49.name, by decide, Tryz.func49.trans (congrArg some (by kernel_rfl))⟩
  f27 := ⟨Tryz.f50.name, by decide, Tryz.func50.trans (congrArg some (by kernel_rfl))⟩
  f28 := Tryz.func51.trans (congrArg some (by kernel_rfl))
  f29 := Tryz.func52.trans (congrArg some (by kernel_rfl))
  f46 := ⟨Tryz.f71.name, by decide, Tryz.func71.trans (congrArg some (by kernel_rfl))⟩
  f47 := Tryz.func72.trans (congrArg some (by kernel_rfl))
  f48 := Tryz.func73.trans (congrArg some (by kernel_rfl))
  f49 := ⟨Tryz.f74.name, by decide, Tryz.func74.trans (congrArg some (by kernel_rfl))⟩
  f50 := ⟨Tryz.f75.name, by decide, Tryz.func75.trans (congrArg some (by kernel_rfl))⟩
  f57 := ⟨Tryz.f98.name, by decide, Tryz.func98.trans (congrArg some (by kernel_rfl))⟩
  t0 := Tryz.underlying0
  a0 := Tryz.isAgg0
  z0 := Tryz.sizeOf0
  v0 := Tryz.zeroValue0
  t3 := Tryz.underlying3
  a3 := Tryz.isAgg3
  z3 := Tryz.sizeOf3
  v3 := Tryz.zeroValue3
  t4 := Tryz.underlying4
  a4 := Tryz.isAgg4
  z4 := Tryz.sizeOf4
  v4 := Tryz.zeroValue4
  t5 := Tryz.underlying5
  a5 := Tryz.isAgg5
  z5 := Tryz.sizeOf5
  v5 := Tryz.zeroValue5
  t9 := Tryz.underlying9
  a9 := Tryz.isAgg9
  z9 := Tryz.sizeOf9
  v9 := Tryz.zeroValue9
  t22 := Tryz.underlying55
  a22 := Tryz.isAgg55
  z22 := Tryz.sizeOf55
  v22 := Tryz.zeroValue55
  a24 := Tryz.isAgg39
  z24 := Tryz.sizeOf39
  t25 := Tryz.underlying57
  a25 := Tryz.isAgg57
  z25 := Tryz.sizeOf57
  v25 := Tryz.zeroValue57
  t39 := Tryz.underlying76
  a39 := Tryz.isAgg76
  z39 := Tryz.sizeOf76
  v39 := Tryz.zeroValue76
  t45 := Tryz.underlying82
  a45 := Tryz.isAgg82
  z45 := Tryz.sizeOf82
  v45 := Tryz.zeroValue82
  t46 := Tryz.underlying83
  a46 := Tryz.isAgg83
  z46 := Tryz.sizeOf83
  v46 := Tryz.zeroValue83
  t50 := Tryz.underlying87
  a50 := Tryz.isAgg87
  z50 := Tryz.sizeOf87
  v50 := Tryz.zeroValue87
  t53 := Tryz.underlying90
  a53 := Tryz.isAgg90
  z53 := Tryz.sizeOf90
  v53 := Tryz.zeroValue90
  t55 := Tryz.underlying92
  a55 := Tryz.isAgg92
  z55 := Tryz.sizeOf92
  v55 := Tryz.zeroValue92
  t66 := Tryz.underlying107
  a66 := Tryz.isAgg107
  z66 := Tryz.sizeOf107
  v66 := Tryz.zeroValue107
  t70 := Tryz.underlying111
  a70 := Tryz.isAgg111
  z70 := Tryz.sizeOf111
  v70 := Tryz.zeroValue111
  t76 := Tryz.underlying136
  a76 := Tryz.isAgg136
  z76 := Tryz.sizeOf136
  v76 := Tryz.zeroValue136
  t77 := Tryz.underlying137
  a77 := Tryz.isAgg137
  z77 := Tryz.sizeOf137
  v77 := Tryz.zeroValue137 }
end Go.Proofs
