/-
  viewref.row and viewref.Set: what the document takes for a row, for a set.
-/
import Derived.Test.YteobmedkngdnkaaDoorROrd
import Derived.Test.YteobmedkngdnkaaDoorZCheck
namespace Go.Proofs.YteobmedkngdnkaaDoor
open Go.RowKit Go.Sort

set_option maxHeartbeats 400000 in
theorem inR_any {n lo hi : Int} {r : Bool} (h : inB n lo hi = r) (w : World) : Calls Tryd.prog 18 #[.int .i64 n, .int .i64 lo, .int .i64 hi] w fun e w' => e = .returned (.bool r) ∧ w' = w := by
  subst h
  by_cases h1 : lo ≤ n
  · by_cases h2 : n ≤ hi
    · have e : inB n lo hi = true := by simp [inB, h1, h2]
      rw [e]
      go_enter Tryd.func18, Tryd.ntmps18
      go_wp2
      go_ret
      exact ⟨rfl, rfl⟩
    · have e : inB n lo hi = false := by simp [inB, h2]
      rw [e]
      go_enter Tryd.func18, Tryd.ntmps18
      go_wp2
      go_ret
      exact ⟨by simp <;> omega, rfl⟩
  · have e : inB n lo hi = false := by simp [inB, h1]
    rw [e]
    go_enter Tryd.func18, Tryd.ntmps18
    go_wp2
    go_ret
    exact ⟨by simp <;> omega, rfl⟩
def rowB (l : List Int) (k : Nat) : Bool := decide (l.length ≤ 8) && (l.take k).all okN
theorem rowB_succ {l : List Int} {k : Nat} (h : k < l.length) {x : Int} (hx : l[k] = x) : rowB l (k + 1) = (rowB l k && okN x) := by
  unfold rowB
  rw [List.take_succ_eq_append_getElem h, List.all_append, hx]
  simp [Bool.and_assoc]
theorem rowB_end {l : List Int} {k : Nat} (h : l.length ≤ k) : rowB l k = okR l := by
  unfold rowB okR
  rw [List.take_of_length_le h]
set_option maxRecDepth 100000 in
set_option maxHeartbeats 1000000 in
theorem rrow_any (l : List Int) (A : Option Addr) (c : Nat) (w : World) (hl : l.length ≤ maxLen) (hr : RowI w A l) :
    Calls Tryd.prog 30 #[.slice A l.length c] w fun e w' => e = .returned (.bool (okR l)) ∧ Gr w w' := by
  unfold maxLen at hl
  have hrH : Hid (RowI w A l) := hr
  clear hr
  obtain ⟨B0, hB0⟩ : ∃ B, decide ((l.length : Int) ≤ 8) = B := ⟨_, rfl⟩
  have hB0H : Hid (rowB l 0 = B0) := by
    show _ = _
    rw [← hB0]
    unfold rowB
    rw [List.take_zero, List.all_nil, Bool.and_true, decide_eq_decide]
    constructor <;> intro h <;> omega
  go_enter Tryd.func30, Tryd.ntmps30
  go_wp2
  go_loopw [3, 4] (fun v i wr => ∃ (k : Nat) (B : Bool), k ≤ l.length ∧ i = .int .i64 k ∧ v = .bool B ∧ Hid (rowB l k = B ∧ Gr w wr)) (fun _ i _ => l.length - (intOf i).toNat)
  case atStart => exact ⟨0, B0, Nat.zero_le _, rfl, by simp [← hB0], hB0H.out, Gr.refl _⟩
  case round =>
    obtain ⟨k, B, hk, rfl, rfl, hR⟩ := hrel
    by_cases hlt : k < l.length
    · have hltz : (k : Int) < (l.length : Int) := by omega
      obtain ⟨bb, off, rfl, hb, hcs⟩ := (hrH.out.gr hR.out.2).at hlt
      obtain ⟨x, hx⟩ : ∃ x, l[k] = x := ⟨_, rfl⟩
      have e0 : wr.cell? ⟨bb, off + k, none⟩ = some (.int .i64 x) := by
        have := hcs k hlt 0 (by omega)
        rw [hx] at this
        simpa [encI] using this
      have hs := rowB_succ hlt hx
      rw [hR.out.1] at hs
      clear hcs hx
      cases B
      · have hfin : Hid (rowB l (k + 1) = false ∧ Gr w wr) := ⟨by rw [hs]; rfl, hR.out.2⟩
        clear hs
        go_wp2
        go_roundw
        case rel => exact ⟨k + 1, false, by omega, by go_num, rfl, hfin⟩
        case measure => simp [intOf]; omega
      · obtain ⟨B2, hB2⟩ : ∃ B2, okN x = B2 := ⟨_, rfl⟩
        have hfin : Hid (rowB l (k + 1) = B2 ∧ Gr w wr) := ⟨by rw [hs, hB2]; rfl, hR.out.2⟩
        have hI0 := inR_any (n := x) (lo := -1073741824) (hi := 1073741824) hB2 wr
        have hI : Hid _ := hI0
        clear hs hI0 hB2
        go_wp2_with fail
        refine Calls.mono (show Calls _ _ _ _ _ from hI.out) ?_
        rintro e w' ⟨rfl, hw'⟩
        subst w'
        clear hI
        go_wp2
        go_roundw
        case rel => exact ⟨k + 1, B2, by omega, by go_num, rfl, hfin⟩
        case measure => simp [intOf]; omega
    · have hltz : ¬ (k : Int) < (l.length : Int) := by omega
      have hfin : Hid (okR l = B) := by show _ = _; rw [← rowB_end (show l.length ≤ k by omega)]; exact hR.out.1
      go_wp2
      go_ret
      exact ⟨by rw [hfin.out]; rfl, hR.out.2⟩
theorem cmpL_minus {a b : List Int} : (cmpL a b = -1) ↔ cmpL a b < 0 := by
  have : ∀ a b : List Int, cmpL a b = -1 ∨ cmpL a b = 0 ∨ cmpL a b = 1 := by
    intro a
    induction a with
    | nil => intro b; cases b <;> simp [cmpL]
    | cons x a ih =>
      intro b
      cases b with
      | nil => simp [cmpL]
      | cons y b =>
        have h1 := cmpI_cases x y
        show (if cmpI x y = 0 then cmpL a b else cmpI x y) = -1 ∨ _
        have hh : cmpL (x :: a) (y :: b) = if cmpI x y = 0 then cmpL a b else cmpI x y := rfl
        rw [hh]
        by_cases e : cmpI x y = 0
        · rw [if_pos e]; exact ih b
        · rw [if_neg e]; omega
  have := this a b
  omega
set_option maxRecDepth 100000 in
set_option maxHeartbeats 2000000 in
theorem rset_any (l : List Itm) (A : Option Addr) (c : Nat) (w : World) (hl : l.length ≤ maxLen) (hr : Items w A l) :
    Calls Tryd.prog 17 #[.slice A l.length c] w fun e w' => e = .returned (.int .i64 (errZ (l.map Itm.z))) ∧ Gr w w' := by
  have mixed : Tryd.prog.follows .mixedOrders = true := by kernel_rfl
  unfold maxLen at hl
  have hrH : Hid (Items w A l) := hr
  clear hr
  by_cases h4 : 400 < l.length
  · have e : errZ (l.map Itm.z) = 2 := by unfold errZ; rw [if_pos (by simpa using h4)]
    rw [e]; clear e
    have h4z : (400 : Int) < (l.length : Int) := by omega
    go_enter Tryd.func17, Tryd.ntmps17
    go_wp2
    go_ret
    exact ⟨rfl, Gr.refl _⟩
  · have h4z : ¬ (400 : Int) < (l.length : Int) := by omega
    go_enter Tryd.func17, Tryd.ntmps17
    go_wp2
    go_loopw [3] (fun i wr => ∃ k : Nat, k ≤ l.length ∧ i = .int .i64 k ∧ Hid (∀ j, j < k → okI l j = true) ∧ Hid (Gr w wr)) (fun i _ => l.length - (intOf i).toNat)
    case atStart => exact ⟨0, by omega, rfl, fun j h => by omega, Gr.refl _⟩
    case round =>
      obtain ⟨k, hk, rfl, hall, hgr⟩ := hrel
      by_cases hlt : k < l.length
      · have hltz : (k : Int) < (l.length : Int) := by omega
        have hI : Hid (Items wr A l) := hrH.out.gr hgr.out
        obtain ⟨b, off, rfl, hb, hcs⟩ := hI.out.at hlt
        obtain ⟨x, hx⟩ : ∃ x, l[k] = x := ⟨_, rfl⟩
        obtain ⟨e0, e1⟩ := hcs k hlt
        rw [hx] at e0 e1
        have hxe := hI.out.each x (by rw [← hx]; exact List.getElem_mem hlt)
        have g0 := (Gr.refl wr).cellG hb e0
        have g1 := (Gr.refl wr).cellG hb e1
        obtain ⟨B1, hB1⟩ : ∃ B, okR x.r = B := ⟨_, rfl⟩
        obtain ⟨B2, hB2⟩ : ∃ B, okW x.n = B := ⟨_, rfl⟩
        have hRg : Hid (∀ n os, Calls Tryd.prog 30 #[.slice x.p x.r.length x.c] (grow (wr.drewN n) os) fun e w' => e = .returned (.bool B1) ∧ ∃ q os', w' = grow ((grow (wr.drewN n) os).drewN q) os') := fun n os => by
          rw [← hB1]
          exact rrow_any x.r x.p x.c _ hxe.2.1 (hxe.1.gr ⟨n, os, rfl⟩)
        have hIg : Hid (∀ n os, Calls Tryd.prog 18 #[.int .i64 x.n, .int .i64 (-1048576), .int .i64 1048576] (grow (wr.drewN n) os) fun e w' => e = .returned (.bool B2) ∧ ∃ q os', w' = grow ((grow (wr.drewN n) os).drewN q) os') := fun n os => (inR_any hB2 _).mono fun e w' h => ⟨h.1, by rw [h.2]; exact Gr.refl _⟩
        have hbadH : Hid (okI l k = false → errZ (l.map Itm.z) = 5) := fun h => errZ_form h4 hlt h
        have hz : Hid (okZ x.z = (B1 && B2 && decide (x.n ≠ 0))) := by show _ = _; unfold okZ Itm.z; rw [hB1, hB2]
        have hgoodH : Hid (okI l k = true → ∀ j, j < k + 1 → okI l j = true) := fun h j hj => by
          by_cases e : j = k
          · rw [e]; exact h
          · exact hall.out j (by omega)
        have hk0 : Hid (k = 0 → okI l k = okZ x.z) := fun e => by subst e; exact okI_zero hlt hx
        have hk1 : Hid (∀ (m : Nat) (hm : k = m + 1) (y : Itm), l[m]'(by omega) = y → okI l k = (okZ x.z && decide (cmpL y.r x.r < 0))) := fun m hm y hy => by subst hm; exact okI_succ hlt hx hy
        have hxok : Hid (okZ x.z = false → okI l k = false) := fun h => by
          cases k with
          | zero => rw [hk0.out rfl]; exact h
          | succ m => rw [hk1.out m rfl (l[m]'(by omega)) rfl, h]; rfl
        have hxrH : Hid (RowI wr x.p x.r ∧ x.r.length ≤ maxLen) := ⟨hxe.1, hxe.2.1⟩
        clear hxe hB1 hB2
        cases B1
        · have hfin : Hid (errZ (l.map Itm.z) = 5) := hbadH.out (hxok.out (by rw [hz.out]; rfl))
          clear hcs hx hk1
          go_wp2
          refine wp_region_quiet_grown mixed (by kernel_rfl) ?_
          repeat (go_big_quiet_step (first | (go_at_call 30; refine Calls.grown_of (hRg.out _ _)) | (go_at_call 18; refine Calls.grown_of (hIg.out _ _))))
          refine wpQuiet_nil ?_
          rintro _ ⟨⟨nq, osq⟩, rfl⟩
          go_wp2
          go_ret
          exact ⟨by rw [hfin.out]; rfl, hgr.out.trans ⟨nq, osq, rfl⟩⟩
        · by_cases hn0 : x.n = 0
          · have hfin : Hid (errZ (l.map Itm.z) = 5) := hbadH.out (hxok.out (by rw [hz.out]; simp [hn0]))
            have hnb : (x.n == 0) = true := by simpa using hn0
            clear hcs hx hk1 hn0
            go_wp2
            refine wp_region_quiet_grown mixed (by kernel_rfl) ?_
            repeat (go_big_quiet_step (first | (go_at_call 30; refine Calls.grown_of (hRg.out _ _)) | (go_at_call 18; refine Calls.grown_of (hIg.out _ _))))
            refine wpQuiet_nil ?_
            rintro _ ⟨⟨nq, osq⟩, rfl⟩
            go_wp2
            go_ret
            exact ⟨by rw [hfin.out]; rfl, hgr.out.trans ⟨nq, osq, rfl⟩⟩
          · have hnb : (x.n == 0) = false := by simpa using hn0
            cases B2
            · have hfin : Hid (errZ (l.map Itm.z) = 5) := hbadH.out (hxok.out (by rw [hz.out]; rfl))
              clear hcs hx hk1 hn0
              go_wp2
              refine wp_region_quiet_grown mixed (by kernel_rfl) ?_
              repeat (go_big_quiet_step (first | (go_at_call 30; refine Calls.grown_of (hRg.out _ _)) | (go_at_call 18; refine Calls.grown_of (hIg.out _ _))))
              refine wpQuiet_nil ?_
              rintro _ ⟨⟨nq, osq⟩, rfl⟩
              go_wp2
              go_ret
              exact ⟨by rw [hfin.out]; rfl, hgr.out.trans ⟨nq, osq, rfl⟩⟩
            · have hzt : okZ x.z = true := by rw [hz.out]; simp [hn0]
              by_cases hj0 : k = 0
              · have hfin : Hid (∀ j, j < k + 1 → okI l j = true) := hgoodH.out (by rw [hk0.out hj0]; exact hzt)
                clear hcs hx hk1 hn0 hzt
                subst hj0
                have e0 : wr.cell? ⟨b, off, none⟩ = some (.slice x.p x.r.length x.c) := by simpa using e0
                have e1 : wr.cell? ⟨b, off + 1, none⟩ = some (.int .i64 x.n) := by simpa using e1
                have g0 := (Gr.refl wr).cellG hb e0
                have g1 := (Gr.refl wr).cellG hb e1
                go_wp2
                refine wp_region_quiet_grown mixed (by kernel_rfl) ?_
                repeat (go_big_quiet_step (first | (go_at_call 30; refine Calls.grown_of (hRg.out _ _)) | (go_at_call 18; refine Calls.grown_of (hIg.out _ _))))
                refine wpQuiet_nil ?_
                rintro _ ⟨⟨nq, osq⟩, rfl⟩
                have hfg : Hid (Gr w (grow (wr.drewN nq) osq)) := hgr.out.trans ⟨nq, osq, rfl⟩
                go_wp2
                go_roundw
                case rel => exact ⟨0 + 1, by omega, by go_num, hfin, hfg⟩
                case measure => simp [intOf]; omega
              · obtain ⟨m, hm⟩ : ∃ m : Nat, k = m + 1 := ⟨k - 1, by omega⟩
                have hml : m < l.length := by omega
                obtain ⟨y, hy⟩ : ∃ y, l[m] = y := ⟨_, rfl⟩
                obtain ⟨f0, _⟩ := hcs m hml
                rw [hy] at f0
                have g2 := (Gr.refl wr).cellG hb f0
                have hye := hI.out.each y (by rw [← hy]; exact List.getElem_mem hml)
                obtain ⟨cc, hcc⟩ : ∃ cc, cmpL y.r x.r = cc := ⟨_, rfl⟩
                have hOg : Hid (∀ n os, Calls Tryd.prog 31 #[.slice y.p y.r.length y.c, .slice x.p x.r.length x.c] (grow (wr.drewN n) os) fun e w' => e = .returned (.int .i64 cc) ∧ ∃ q os', w' = grow ((grow (wr.drewN n) os).drewN q) os') := fun n os => by
                  rw [← hcc]
                  exact orderD_any y.r x.r y.p x.p y.c x.c _ hye.2.1 (hye.1.gr ⟨n, os, rfl⟩) (hxrH.out.1.gr ⟨n, os, rfl⟩)
                have hoki : Hid (okI l k = decide (cc = -1)) := by
                  show _ = _
                  rw [hk1.out m hm y hy, hzt, Bool.true_and, ← hcc, decide_eq_decide]
                  exact cmpL_minus.symm
                have hj0z : (0 : Int) < (k : Int) := by omega
                have hjd1 : decide ((0 : Int) < (k : Int)) = true := decide_eq_true hj0z
                have hjd2 : decide (0 < k) = true := decide_eq_true (by omega)
                have hj0n : 0 < k := by omega
                have hjm : IntKind.i64.wrap ((k : Int) - 1) = (m : Int) := by rw [IntKind.wrap_i64]; omega
                have hjm2 : wrap64 ((k : Int) - 1) = (m : Int) := by unfold wrap64; omega
                have hmz : (m : Int) < (l.length : Int) := by omega
                have hm0 : (0 : Int) ≤ (m : Int) := by omega
                clear hcs hx hk1 hn0 hzt hm hj0 hy hye hcc
                cases hcb : (cc != -1)
                · have hfin : Hid (∀ j, j < k + 1 → okI l j = true) := hgoodH.out (by rw [hoki.out]; simpa using hcb)
                  go_wp2
                  refine wp_region_quiet_grown mixed (by kernel_rfl) ?_
                  repeat (go_big_quiet_step (first | (go_at_call 30; refine Calls.grown_of (hRg.out _ _)) | (go_at_call 18; refine Calls.grown_of (hIg.out _ _)) | (go_at_call 31; refine Calls.grown_of (hOg.out _ _))))
                  refine wpQuiet_nil ?_
                  rintro _ ⟨⟨nq, osq⟩, rfl⟩
                  have hfg : Hid (Gr w (grow (wr.drewN nq) osq)) := hgr.out.trans ⟨nq, osq, rfl⟩
                  go_wp2
                  go_roundw
                  case rel => exact ⟨k + 1, by omega, by go_num, hfin, hfg⟩
                  case measure => simp [intOf]; omega
                · have hfin : Hid (errZ (l.map Itm.z) = 5) := hbadH.out (by rw [hoki.out]; simpa using hcb)
                  go_wp2
                  refine wp_region_quiet_grown mixed (by kernel_rfl) ?_
                  repeat (go_big_quiet_step (first | (go_at_call 30; refine Calls.grown_of (hRg.out _ _)) | (go_at_call 18; refine Calls.grown_of (hIg.out _ _)) | (go_at_call 31; refine Calls.grown_of (hOg.out _ _))))
                  refine wpQuiet_nil ?_
                  rintro _ ⟨⟨nq, osq⟩, rfl⟩
                  go_wp2
                  go_ret
                  exact ⟨by rw [hfin.out]; rfl, hgr.out.trans ⟨nq, osq, rfl⟩⟩
      · have hltz : ¬ (k : Int) < (l.length : Int) := by omega
        have hfin : Hid (errZ (l.map Itm.z) = 0) := errZ_ok h4 (fun j hj => hall.out j (by omega))
        go_wp2
        go_ret
        exact ⟨by rw [hfin.out]; rfl, hgr.out⟩
end Go.Proofs.YteobmedkngdnkaaDoor
