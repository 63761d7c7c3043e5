/-
  zset.Check: it says what is wrong with a set.
  zset.copyRow: the same numbers, in memory of their own.
-/
import Derived.Test.YtgmdjioobidadaaM04
namespace Go.Proofs.Ytgmdjioobidadaa
open Go.RowKit Go.Sort

theorem getZ {l : List Itm} {k : Nat} (h : k < l.length) : (l.map Itm.z).getD k ([], 0) = l[k].z := by
  rw [List.getD_eq_getElem?_getD, List.getElem?_map, List.getElem?_eq_getElem h]; rfl
/-- Is the item at k as it must be? -/
def okI (l : List Itm) (k : Nat) : Bool := okZ ((l.map Itm.z).getD k ([], 0)) && incZ (l.map Itm.z) k
theorem okI_zero {l : List Itm} {x : Itm} (h : 0 < l.length) (hx : l[0] = x) : okI l 0 = okZ x.z := by
  unfold okI incZ
  rw [getZ h, hx]; simp
theorem okI_succ {l : List Itm} {m : Nat} {x y : Itm} (h : m + 1 < l.length) (hx : l[m + 1] = x) (hy : l[m] = y) : okI l (m + 1) = (okZ x.z && decide (cmpL y.r x.r < 0)) := by
  unfold okI incZ
  rw [getZ h, Nat.add_sub_cancel, getZ (show m < l.length by omega), hx, hy]
  simp [Itm.z]
  rfl
theorem errZ_form {l : List Itm} {k : Nat} (h4 : ¬ 400 < l.length) (hk : k < l.length) (h : okI l k = false) : errZ (l.map Itm.z) = 5 := by
  unfold errZ
  rw [if_neg (by simpa using h4), if_pos ⟨k, by simpa using hk, h⟩]
theorem errZ_ok {l : List Itm} (h4 : ¬ 400 < l.length) (h : ∀ k, k < l.length → okI l k = true) : errZ (l.map Itm.z) = 0 := by
  unfold errZ
  rw [if_neg (by simpa using h4), if_neg]
  rintro ⟨k, hk, hf⟩
  have := h k (by simpa using hk)
  unfold okI at this
  rw [hf] at this; cases this
theorem orderR_g {a b : List Int} {A B : Option Addr} {ca cb : Nat} {r : Int} (h : cmpL a b = r) (w : World) (hal : a.length ≤ maxLen) (hra : RowI w A a) (hrb : RowI w B b) :
    Calls Try.prog 38 #[.slice A a.length ca, .slice B b.length cb] w fun e w' => e = .returned (.int .i64 r) ∧ ∃ q os', w' = grow (w.drewN q) os' := by
  rw [← h]; exact orderR_any a b A B ca cb w hal hra hrb

set_option maxHeartbeats 2000000 in
theorem checkZ_any (l : List Itm) (A : Option Addr) (cap : Nat) (w : World) (hl : l.length ≤ maxLen) (hr : Items w A l) :
    Calls Try.prog 19 #[.slice A l.length cap] w fun e w' => e = .returned (.int .i64 (errZ (l.map Itm.z))) ∧ Gr w w' := by
  have mixed : Try.prog.follows .mixedOrders = true := by kernel_rfl
  unfold maxLen at hl
  have hrH : Hid (Items w A l) := hr
  clear hr
  by_cases h4 : 400 < l.length
  · have e : errZ (l.map Itm.z) = 2 := by unfold errZ; rw [if_pos (by simpa using h4)]
    rw [e]; clear e
    have h4z : (400 : Int) < (l.length : Int) := by omega
    go_enter Try.func19, Try.ntmps19
    go_wp2
    go_ret
    exact ⟨rfl, Gr.refl _⟩
  · have h4z : ¬ (400 : Int) < (l.length : Int) := by omega
    go_enter Try.func19, Try.ntmps19
    go_wp2
    go_loopw [10] (fun i wr => ∃ k : Nat, k ≤ l.length ∧ i = .int .i64 k ∧ Hid (∀ j, j < k → okI l j = true) ∧ Gr w wr) (fun i _ => l.length - (intOf i).toNat)
    case atStart => exact ⟨0, by omega, rfl, fun j h => by omega, Gr.refl _⟩
    case round =>
      rename World => wr0
      obtain ⟨k, hk, rfl, hall, hgr⟩ := hrel
      by_cases hlt : k < l.length
      · have hltz : (k : Int) < (l.length : Int) := by omega
        have hrR : Hid (Items wr0 A l) := hrH.out.gr hgr
        obtain ⟨b, off, rfl, hb, hcs⟩ := hrR.out.at hlt
        obtain ⟨x, hx⟩ : ∃ x, l[k] = x := ⟨_, rfl⟩
        obtain ⟨e0, e1⟩ := hcs k hlt
        rw [hx] at e0 e1
        have hcsH : Hid (∀ j (h : j < l.length), _) := hcs
        have hxH : Hid (l[k] = x) := hx
        have hxr : Hid (RowI wr0 x.p x.r ∧ x.r.length ≤ maxLen) := ⟨(hrR.out.each x (by rw [← hx]; exact List.getElem_mem hlt)).1, (hrR.out.each x (by rw [← hx]; exact List.getElem_mem hlt)).2.1⟩
        clear hcs hx
        have hgX : Gr wr0 (wr0.alloc (.cells #[.slice x.p x.r.length x.c, .int .i64 x.n] 45)) := (Gr.refl _).alloc _
        have x0 : (wr0.alloc (.cells #[.slice x.p x.r.length x.c, .int .i64 x.n] 45)).cell? ⟨wr0.heap.size, 0, none⟩ = some (.slice x.p x.r.length x.c) := box1 (Gr.refl _) rfl
        have x1 : (wr0.alloc (.cells #[.slice x.p x.r.length x.c, .int .i64 x.n] 45)).cell? ⟨wr0.heap.size, 1, none⟩ = some (.int .i64 x.n) := box1 (Gr.refl _) rfl
        have hrow := isRow_any x.r x.p x.c (wr0.alloc (.cells #[.slice x.p x.r.length x.c, .int .i64 x.n] 45)) hxr.out.2 (hxr.out.1.gr hgX)
        have hrowH : Hid _ := hrow
        clear hrow
        go_wp2_with fail
        refine Calls.mono (show Calls _ _ _ _ _ from hrowH.out) ?_
        rintro e w2 ⟨rfl, hg2⟩
        clear hrowH x0 x1
        have hgw2 : Gr w w2 := (hgr.trans hgX).trans hg2
        have x0 : w2.cell? ⟨wr0.heap.size, 0, none⟩ = some (.slice x.p x.r.length x.c) := box1 hg2 rfl
        have x1 : w2.cell? ⟨wr0.heap.size, 1, none⟩ = some (.int .i64 x.n) := box1 hg2 rfl
        have hbadH : Hid (okZ x.z = false → errZ (l.map Itm.z) = 5) := fun h => by
          refine errZ_form h4 hlt ?_
          cases k with
          | zero => rw [okI_zero hlt hxH.out, h]
          | succ m => rw [okI_succ hlt hxH.out rfl, h]; rfl
        cases hrb : okR x.r
        · have hfin : Hid (errZ (l.map Itm.z) = 5) := hbadH.out (by simp [okZ, Itm.z, hrb])
          go_wp2
          go_ret
          exact ⟨by rw [hfin.out]; rfl, hgw2⟩
        · have hwt := isWeight_any x.n w2
          cases hwb : okW x.n
          · have hfin : Hid (errZ (l.map Itm.z) = 5) := hbadH.out (by simp [okZ, Itm.z, hwb])
            rw [hwb] at hwt
            have hwtH : Hid _ := hwt
            clear hwt
            go_wp2_with (go_at_call 23; (refine Calls.mono (show Calls _ _ _ _ _ from hwtH.out) ?_); rintro e w' ⟨rfl, rfl⟩)
            go_ret
            exact ⟨by rw [hfin.out]; rfl, hgw2⟩
          · rw [hwb] at hwt
            have hwtH : Hid _ := hwt
            clear hwt
            cases hn0 : (x.n == 0)
            · have hokH : Hid (okZ x.z = true) := by
                have : x.n ≠ 0 := by simpa using hn0
                simp [okZ, Itm.z, hrb, hwb, this, Hid]
              cases k with
              | zero =>
                have hoka : Hid (okI l 0 = true) := by show okI l 0 = true; rw [okI_zero hlt hxH.out]; exact hokH.out
                go_wp2_with (first | (go_at_call 23; (refine Calls.mono (show Calls _ _ _ _ _ from hwtH.out) ?_); rintro e w' ⟨rfl, rfl⟩) | fail)
                refine wp_region_quiet_grown mixed (by kernel_rfl) ?_
                repeat (go_big_quiet_step (fail))
                refine wpQuiet_nil ?_
                rintro _ ⟨⟨nq2, osq2⟩, rfl⟩
                go_wp2
                go_roundw
                case rel =>
                  refine ⟨_, hlt, by go_num, ?_, hgw2.trans ⟨nq2, osq2, rfl⟩⟩
                  intro j hj
                  by_cases e : j = 0
                  · rw [e]; exact hoka.out
                  · exact hall j (by omega)
                case measure => simp [intOf]; omega
              | succ m =>
                obtain ⟨y, hy⟩ : ∃ y, l[m] = y := ⟨_, rfl⟩
                obtain ⟨f0, f1⟩ := hcsH.out m (by omega)
                rw [hy] at f0 f1
                have hyH : Hid (l[m] = y) := hy
                have hyr : Hid (RowI wr0 y.p y.r ∧ y.r.length ≤ maxLen) := ⟨(hrR.out.each y (by rw [← hy]; exact List.getElem_mem (by omega))).1, (hrR.out.each y (by rw [← hy]; exact List.getElem_mem (by omega))).2.1⟩
                clear hy
                have hg02 : Gr wr0 w2 := hgX.trans hg2
                have q0 := hg02.cellG (a := ⟨b, off + m * 2, none⟩) hb f0
                have xlt : wr0.heap.size < w2.heap.size := World.block_lt_of_cell? w2 ⟨wr0.heap.size, 0, none⟩ x0
                have p0 := (Gr.refl w2).cellG (a := ⟨wr0.heap.size, 0, none⟩) xlt x0
                have hRY : Hid (∀ n os, RowI (grow (w2.drewN n) os) y.p y.r) := fun n os => hyr.out.1.gr (hg02.trans ⟨n, os, rfl⟩)
                have hRX : Hid (∀ n os, RowI (grow (w2.drewN n) os) x.p x.r) := fun n os => hxr.out.1.gr (hg02.trans ⟨n, os, rfl⟩)
                clear f0 f1
                obtain ⟨r, hrr⟩ : ∃ r, cmpL y.r x.r = r := ⟨_, rfl⟩
                have hrrH : Hid (cmpL y.r x.r = r) := hrr
                clear hrr
                by_cases hbe : r < 0
                · have hbz : ¬ (0 : Int) ≤ r := by omega
                  have hoka : Hid (okI l (m + 1) = true) := by
                    show okI l (m + 1) = true
                    rw [okI_succ hlt hxH.out hyH.out, hokH.out, hrrH.out]; simp [hbe]
                  go_wp2_with (first | (go_at_call 23; (refine Calls.mono (show Calls _ _ _ _ _ from hwtH.out) ?_); rintro e w' ⟨rfl, rfl⟩) | fail)
                  refine wp_region_quiet_grown mixed (by kernel_rfl) ?_
                  repeat (go_big_quiet_step ((go_at_call 38; refine Calls.grown_of (orderR_g hrrH.out _ hyr.out.2 (hRY.out _ _) (hRX.out _ _)))))
                  refine wpQuiet_nil ?_
                  rintro _ ⟨⟨nq2, osq2⟩, rfl⟩
                  go_wp2
                  go_roundw
                  case rel =>
                    refine ⟨_, hlt, by go_num, ?_, hgw2.trans ⟨nq2, osq2, rfl⟩⟩
                    intro j hj
                    by_cases e : j = m + 1
                    · rw [e]; exact hoka.out
                    · exact hall j (by omega)
                  case measure => simp [intOf]; omega
                · have hbz : (0 : Int) ≤ r := by omega
                  have hfin : Hid (errZ (l.map Itm.z) = 5) := errZ_form h4 hlt (by rw [okI_succ hlt hxH.out hyH.out, hrrH.out]; simp [hbe])
                  go_wp2_with (first | (go_at_call 23; (refine Calls.mono (show Calls _ _ _ _ _ from hwtH.out) ?_); rintro e w' ⟨rfl, rfl⟩) | fail)
                  refine wp_region_quiet_grown mixed (by kernel_rfl) ?_
                  repeat (go_big_quiet_step ((go_at_call 38; refine Calls.grown_of (orderR_g hrrH.out _ hyr.out.2 (hRY.out _ _) (hRX.out _ _)))))
                  refine wpQuiet_nil ?_
                  rintro _ ⟨⟨nq2, osq2⟩, rfl⟩
                  go_wp2
                  go_ret
                  exact ⟨by rw [hfin.out]; rfl, hgw2.trans ⟨nq2, osq2, rfl⟩⟩
            · have hfin : Hid (errZ (l.map Itm.z) = 5) := hbadH.out (by have : x.n = 0 := by simpa using hn0
                                                                        simp [okZ, Itm.z, this])
              go_wp2_with (go_at_call 23; (refine Calls.mono (show Calls _ _ _ _ _ from hwtH.out) ?_); rintro e w' ⟨rfl, rfl⟩)
              go_ret
              exact ⟨by rw [hfin.out]; rfl, hgw2⟩
      · have hltz : ¬ (k : Int) < (l.length : Int) := by omega
        have hfin : Hid (errZ (l.map Itm.z) = 0) := errZ_ok h4 fun j hj => hall j (by omega)
        go_wp2
        go_ret
        exact ⟨by rw [hfin.out]; rfl, hgr⟩

end Go.Proofs.Ytgmdjioobidadaa

namespace Go.Proofs.Ytgmdjioobidadaa
open Go.RowKit Go.Sort

set_option maxHeartbeats 1000000 in
theorem copyRow_new (l : List Int) (A : Option Addr) (cap : Nat) (w : World) (hl : l.length * 8 ≤ 140737488355328) (hA : A = none → cap = 0) (hr : RowI w A l) :
    Calls Try.prog 21 #[.slice A l.length cap] w fun e w' => ∃ C c, e = .returned (.slice C l.length c) ∧ RowI w' C l ∧ (C = none → c = 0) ∧ (∀ a, C = some a → w.heap.size ≤ a.block ∧ a.block < w'.heap.size) ∧ Below w.heap.size w w' ∧ (RoomI w' C c ∧ l.length ≤ c) := by
  have hlm : Hid (0 + l.length ≤ maxLen ∧ (0 + l.length) * 8 ≤ 140737488355328) := by show _ ∧ _; unfold maxLen; omega
  have hrH : Hid (RowI w A l ∧ (A = none → cap = 0)) := ⟨hr, hA⟩
  clear hr hA
  go_enter Try.func21, Try.ntmps21
  go_wp2_with (at_builtin; refine wpList_append_i _ rfl _ _ rfl w.heap.size (.slice none 0 0) [] l A cap rfl rfl (OwnG.nil _ _ _ _ _) hrH.out.1 hrH.out.2 hlm.out.1 hlm.out.2 (Nat.le_refl _) ?_)
  intro v1 w3 hown1 hgr1
  have hb3 : Hid (Below w.heap.size w w3) := below_none hgr1
  obtain ⟨C, c, rfl, hC, hrow, hlc, hlt0, _⟩ := OwnG.full encI_len hown1
  have hlt : ∀ a, C = some a → w.heap.size ≤ a.block ∧ a.block < w3.heap.size := fun a ha => ⟨(hlt0 a ha).1, (hlt0 a ha).2.1⟩
  have hroom : Hid (RoomI w3 C c ∧ l.length ≤ c) := ⟨hown1.roomI, by simpa using hlc⟩
  have hfin : Hid (RowI w3 C l ∧ (C = none → c = 0) ∧ (∀ a, C = some a → w.heap.size ≤ a.block ∧ a.block < w3.heap.size)) := ⟨by simpa using hrow, hC, hlt⟩
  clear hown1 hgr1 hC hrow hlt hlt0 hlc
  go_wp2
  go_ret
  exact ⟨C, c, by simp, hfin.out.1, hfin.out.2.1, hfin.out.2.2, hb3.out, hroom.out⟩

theorem copyRow_any (l : List Int) (A : Option Addr) (cap : Nat) (w : World) (hl : l.length * 8 ≤ 140737488355328) (hA : A = none → cap = 0) (hr : RowI w A l) :
    Calls Try.prog 21 #[.slice A l.length cap] w fun e w' => ∃ C c, e = .returned (.slice C l.length c) ∧ RowI w' C l ∧ (C = none → c = 0) ∧ (∀ a, C = some a → w.heap.size ≤ a.block ∧ a.block < w'.heap.size) ∧ Below w.heap.size w w' :=
  (copyRow_new l A cap w hl hA hr).mono fun _ _ ⟨C, c, h1, h2, h3, h4, h5, _⟩ => ⟨C, c, h1, h2, h3, h4, h5⟩

end Go.Proofs.Ytgmdjioobidadaa
