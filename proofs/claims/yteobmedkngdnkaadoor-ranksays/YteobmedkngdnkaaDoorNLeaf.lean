/-
  The small functions of package rank: widthOf, areColumns, checkItems.
-/
import Derived.Test.YteobmedkngdnkaaDoorNMath
import Derived.Test.YteobmedkngdnkaaDoorKGrpBase
namespace Go.Proofs.YteobmedkngdnkaaDoor
open Go.RowKit Go.Sort

/-- How many numbers rows have. -/
def widN (l : List Itm) : Int := widB (l.map Itm.z)
theorem widN_cons (x : Itm) (l : List Itm) : widN (x :: l) = (x.r.length : Int) := by
  unfold widN widB
  rw [if_neg (by simp)]
  rfl
set_option maxHeartbeats 1000000 in
theorem widthOf_any (l : List Itm) (A : Option Addr) (cap : Nat) (w : World) (hl : l.length ≤ maxLen) (hr : Items w A l) :
    Calls Tryd.prog 13 #[.slice A l.length cap] w fun e w' => e = .returned (.int .i64 (widN l)) ∧ w' = w := by
  cases l with
  | nil =>
    go_enter Tryd.func13, Tryd.ntmps13
    go_wp2
    go_ret
    exact ⟨rfl, rfl⟩
  | cons x t =>
    have e := widN_cons x t
    obtain ⟨b, off, rfl, hb, hcs⟩ := hr.at (k := 0) (by simp)
    obtain ⟨e0, _⟩ := hcs 0 (by simp)
    obtain ⟨n, hn⟩ : ∃ n, (x :: t).length = n := ⟨_, rfl⟩
    have e0' : w.cell? ⟨b, off, none⟩ = some (.slice x.p x.r.length x.c) := by simpa using e0
    have hn0 : 0 < n := by rw [← hn]; simp
    have hnz : (0 : Int) < (n : Int) := by omega
    have hne : ((n : Int) == 0) = false := by simpa using (show ¬ (n : Int) = 0 by omega)
    have hne2 : ¬ n = 0 := by omega
    rw [hn, e]
    clear hcs e0 e hn hr hl
    go_enter Tryd.func13, Tryd.ntmps13
    go_wp2
    go_ret
    exact ⟨rfl, rfl⟩

/-- May rows of so many numbers be put in an order by this one? -/
def colOk (n wd : Int) : Bool := decide (n ≠ 0) && decide (-wd ≤ n) && decide (n ≤ wd)
theorem colsB_long {cs : List Int} {wd : Int} (h : 8 < cs.length) : colsB cs wd = false := by
  unfold colsB
  rw [decide_eq_false (by omega)]
  rfl
theorem colsB_no {cs : List Int} {wd : Int} {k : Nat} (hk : k < cs.length) (h : colOk cs[k] wd = false) : colsB cs wd = false := by
  unfold colsB
  rw [Bool.and_eq_false_iff]
  refine Or.inr ?_
  rw [List.all_eq_false]
  exact ⟨cs[k], List.getElem_mem hk, by unfold colOk at h; rw [h]; decide⟩
theorem colsB_yes {cs : List Int} {wd : Int} (h8 : ¬ 8 < cs.length) (h : ∀ k (hk : k < cs.length), colOk cs[k] wd = true) : colsB cs wd = true := by
  unfold colsB
  rw [Bool.and_eq_true]
  refine ⟨decide_eq_true (by omega), List.all_eq_true.2 fun n hn => ?_⟩
  obtain ⟨k, hk, rfl⟩ := List.getElem_of_mem hn
  exact h k hk
set_option maxHeartbeats 1000000 in
theorem areColumns_any (cs : List Int) (A : Option Addr) (cap : Nat) (wd : Int) (w : World) (hl : cs.length ≤ maxLen) (hw : 0 ≤ wd ∧ wd ≤ 100) (hr : RowI w A cs) :
    Calls Tryd.prog 12 #[.slice A cs.length cap, .int .i64 wd] w fun e w' => e = .returned (.bool (colsB cs wd)) ∧ w' = w := by
  unfold maxLen at hl
  have hrH : Hid (RowI w A cs) := hr
  clear hr
  by_cases h8 : 8 < cs.length
  · rw [colsB_long h8]
    have h8z : (8 : Int) < (cs.length : Int) := by omega
    go_enter Tryd.func12, Tryd.ntmps12
    go_wp2
    go_ret
    exact ⟨rfl, rfl⟩
  · have h8z : ¬ (8 : Int) < (cs.length : Int) := by omega
    obtain ⟨R, hR⟩ : ∃ R, colsB cs wd = R := ⟨_, rfl⟩
    have hRH : Hid (colsB cs wd = R) := hR
    rw [hR]
    clear hR
    go_enter Tryd.func12, Tryd.ntmps12
    go_wp2
    go_loopw [12] (fun i wr => ∃ k : Nat, k ≤ cs.length ∧ i = .int .i64 k ∧ Hid (∀ j (h : j < cs.length), j < k → colOk cs[j] wd = true) ∧ wr = w) (fun i _ => cs.length - (intOf i).toNat)
    case atStart => exact ⟨0, by omega, rfl, fun j _ h => by omega, rfl⟩
    case round =>
      obtain ⟨k, hk, rfl, hall, hwr⟩ := hrel
      subst hwr
      by_cases hlt : k < cs.length
      · have hltz : (k : Int) < (cs.length : Int) := by omega
        obtain ⟨b, off, rfl, hb, hcs⟩ := hrH.out.at hlt
        have e0 := hcs k hlt 0 (by omega)
        obtain ⟨n, hn⟩ : ∃ n, cs[k] = n := ⟨_, rfl⟩
        rw [hn] at e0
        have e1 : wr.cell? ⟨b, off + k, none⟩ = some (.int .i64 n) := by simpa [encI] using e0
        have hnH : Hid (cs[k] = n) := hn
        clear hcs e0 hn
        have hneg : IntKind.i64.wrap (-wd) = -wd := by rw [IntKind.wrap_i64]; omega
        by_cases ho : colOk n wd = true
        · have hp : n ≠ 0 ∧ -wd ≤ n ∧ n ≤ wd := by unfold colOk at ho; simp only [Bool.and_eq_true, decide_eq_true_eq] at ho; exact ⟨ho.1.1, ho.1.2, ho.2⟩
          have p1 : (n == 0) = false := by simpa using hp.1
          have p2 : ¬ n < -wd := by omega
          have p3 : ¬ wd < n := by omega
          have hoH : Hid (colOk n wd = true) := ho
          have p4 : ¬ n = 0 := hp.1
          clear hp ho
          go_wp2
          go_roundw
          case rel =>
            refine ⟨k + 1, by omega, by go_num, fun j hj hjk => ?_, trivial⟩
            by_cases e : j = k
            · subst e; rw [hnH.out]; exact hoH.out
            · exact hall j hj (by omega)
          case measure => simp [intOf]; omega
        · have hf : colOk n wd = false := by cases h : colOk n wd with
            | true => exact absurd h ho
            | false => rfl
          have hfin : Hid (R = false) := by show _ = _; rw [← hRH.out]; exact colsB_no hlt (by rw [hnH.out]; exact hf)
          have hp : n = 0 ∨ n < -wd ∨ wd < n := by
            unfold colOk at ho
            simp only [Bool.and_eq_true, decide_eq_true_eq] at ho
            omega
          clear ho hf
          by_cases p1 : n = 0
          · subst p1
            go_wp2
            go_ret
            exact ⟨by rw [hfin.out]; rfl, rfl⟩
          · have p1' : (n == 0) = false := by simpa using p1
            by_cases p2 : n < -wd
            · go_wp2
              go_ret
              exact ⟨by rw [hfin.out]; rfl, rfl⟩
            · have p3 : wd < n := by omega
              go_wp2
              go_ret
              exact ⟨by rw [hfin.out]; rfl, rfl⟩
      · have hltz : ¬ (k : Int) < (cs.length : Int) := by omega
        have hfin : Hid (R = true) := by show _ = _; rw [← hRH.out]; exact colsB_yes h8 fun j hj => hall j hj (by omega)
        go_wp2
        go_ret
        exact ⟨by rw [hfin.out]; rfl, rfl⟩

/-- Is an item one that can be put in an order? -/
def fitI (x : Itm) (wd : Nat) : Bool := decide (0 ≤ x.n) && decide (x.n ≤ 400) && decide (x.r.length = wd)
theorem fitB_no {l : List Itm} {k : Nat} (hk : k < l.length) {y : Itm} (hy : l[0]'(by omega) = y) (h : fitI l[k] y.r.length = false) : fitB (l.map Itm.z) = false := by
  unfold fitB
  rw [List.all_eq_false]
  refine ⟨l[k].z, List.mem_map.2 ⟨l[k], List.getElem_mem hk, rfl⟩, ?_⟩
  have e : ((l.map Itm.z).headD ([], 0)).1.length = y.r.length := by
    cases l with
    | nil => simp at hk
    | cons a t => simp at hy; subst hy; rfl
  rw [e]
  unfold fitI at h
  show ¬ (decide (0 ≤ l[k].n) && decide (l[k].n ≤ 400) && decide (l[k].r.length = y.r.length)) = true
  rw [h]; decide
theorem fitB_yes {l : List Itm} (h : ∀ k (hk : k < l.length), fitI l[k] ((l[0]'(by omega)).r.length) = true) : fitB (l.map Itm.z) = true := by
  unfold fitB
  rw [List.all_eq_true]
  intro z hz
  obtain ⟨x, hx, rfl⟩ := List.mem_map.1 hz
  obtain ⟨k, hk, rfl⟩ := List.getElem_of_mem hx
  have e : ((l.map Itm.z).headD ([], 0)).1.length = (l[0]'(by omega)).r.length := by
    cases l with
    | nil => simp at hk
    | cons a t => rfl
  rw [e]
  exact h k hk
/-- What checkItems answers. -/
def chkN (l : List Zit) : Int := if errZ l = 0 then (if fitB l = true then 0 else 5) else errZ l
set_option maxRecDepth 100000 in
set_option maxHeartbeats 2000000 in
theorem checkItems_any (l : List Itm) (A : Option Addr) (cap : Nat) (w : World) (h : Lv w A cap l) :
    Calls Tryd.prog 11 #[.slice A l.length cap] w fun e w' => e = .returned (.int .i64 (chkN (l.map Itm.z))) ∧ Gr w w' := by
  have mixed : Tryd.prog.follows .mixedOrders = true := by kernel_rfl
  obtain ⟨E, hE⟩ : ∃ E, errZ (l.map Itm.z) = E := ⟨_, rfl⟩
  obtain ⟨R, hR⟩ : ∃ R, chkN (l.map Itm.z) = R := ⟨_, rfl⟩
  have hC0 := checkZ_any l A cap w h.len h.items
  rw [hE] at hC0
  rw [hR]
  have hC : Hid _ := hC0
  have hH : Hid (Lv w A cap l ∧ errZ (l.map Itm.z) = E ∧ chkN (l.map Itm.z) = R) := ⟨h, hE, hR⟩
  clear hC0 h hE hR
  go_enter Tryd.func11, Tryd.ntmps11
  go_wp2_with fail
  refine Calls.mono (show Calls _ _ _ _ _ from hC.out) ?_
  rintro e w1 ⟨rfl, hg1⟩
  clear hC
  by_cases h0 : E = 0
  rotate_left
  focus
    have h0b : (E != 0) = true := by simpa using h0
    have hfin : Hid (E = R) := by show _ = _; rw [← hH.out.2.2]; unfold chkN; rw [if_neg (by rw [hH.out.2.1]; exact h0)]; exact hH.out.2.1.symm
    clear h0
    go_wp2
    go_ret
    exact ⟨by rw [hfin.out]; rfl, hg1⟩
  have hl4 : l.length ≤ 400 := by have := ((errZ_iff _).1 (hH.out.2.1.trans h0)).1; simpa using this
  have hRe : Hid (R = if fitB (l.map Itm.z) = true then 0 else 5) := by show _ = _; rw [← hH.out.2.2]; unfold chkN; rw [if_pos (hH.out.2.1.trans h0)]
  have h0b : (E != 0) = false := by simpa using h0
  have hIH : Hid (Items w A l) := hH.out.1.items
  clear hH h0
  go_wp2
  go_loopw [13] (fun i wr => ∃ k : Nat, k ≤ l.length ∧ i = .int .i64 k ∧ Hid (∀ j (h : j < l.length), j < k → fitI l[j] ((l[0]'(by omega)).r.length) = true) ∧ Gr w wr) (fun i _ => l.length - (intOf i).toNat)
  case atStart => exact ⟨0, by omega, rfl, fun j _ h => by omega, hg1⟩
  case round =>
    rename World => wr0
    obtain ⟨k, hk, rfl, hall, hgr⟩ := hrel
    by_cases hlt : k < l.length
    · have hltz : (k : Int) < (l.length : Int) := by omega
      have hrR : Hid (Items wr0 A l) := hIH.out.gr hgr
      obtain ⟨b, off, rfl, hb, hcs⟩ := hrR.out.at hlt
      obtain ⟨x, hx⟩ : ∃ x, l[k] = x := ⟨_, rfl⟩
      obtain ⟨y, hy⟩ : ∃ y, l[0]'(by omega) = y := ⟨_, rfl⟩
      obtain ⟨e0, e1⟩ := hcs k hlt
      obtain ⟨f0', f1⟩ := hcs 0 (by omega)
      rw [hx] at e0 e1
      rw [hy] at f0'
      have f0 : wr0.cell? ⟨b, off, none⟩ = some (.slice y.p y.r.length y.c) := by simpa using f0'
      have hxyH : Hid (l[k] = x ∧ l[0]'(by omega) = y) := ⟨hx, hy⟩
      clear hcs hx hy f0' f1
      obtain ⟨WX, hWX⟩ : ∃ WX, (wr0.alloc (.cells #[.slice x.p x.r.length x.c, .int .i64 x.n] 41)) = WX := ⟨_, rfl⟩
      have hgX : Gr wr0 WX := by rw [← hWX]; exact (Gr.refl _).alloc _
      have x0 : WX.cell? ⟨wr0.heap.size, 0, none⟩ = some (.slice x.p x.r.length x.c) := by rw [← hWX]; exact box1 (w := wr0) (Gr.refl _) rfl
      have x1 : WX.cell? ⟨wr0.heap.size, 1, none⟩ = some (.int .i64 x.n) := by rw [← hWX]; exact box1 (w := wr0) (Gr.refl _) rfl
      have hXs : wr0.heap.size < WX.heap.size := by rw [← hWX]; simp
      have g0 := (Gr.refl WX).cellG (a := ⟨wr0.heap.size, 0, none⟩) hXs x0
      have g1 := (Gr.refl WX).cellG (a := ⟨wr0.heap.size, 1, none⟩) hXs x1
      have g2 := hgX.cellG (a := ⟨b, off, none⟩) hb f0
      have hgw := hgr.trans hgX
      have hlz : (0 : Int) < (l.length : Int) := by omega
      have hnoH : Hid (fitI x y.r.length = false → R = 5) := fun hf => by
        have := fitB_no hlt hxyH.out.2 (by rw [hxyH.out.1]; exact hf)
        rw [hRe.out, this]; rfl
      by_cases p1 : x.n < 0
      · have hfin : Hid (R = 5) := hnoH.out (by unfold fitI; rw [decide_eq_false (by omega)]; rfl)
        go_wp2_with fail
        clear hWX
        refine wp_region_quiet_grown mixed (by kernel_rfl) ?_
        repeat (go_big_quiet_step (fail))
        refine wpQuiet_nil ?_
        rintro _ ⟨⟨nq2, osq2⟩, rfl⟩
        go_wp2
        go_ret
        exact ⟨by rw [hfin.out]; rfl, hgw.trans ⟨nq2, osq2, rfl⟩⟩
      · have d1 : decide (x.n < 0) = false := decide_eq_false p1
        by_cases p2 : 400 < x.n
        · have hfin : Hid (R = 5) := hnoH.out (by unfold fitI; rw [decide_eq_false (show ¬ x.n ≤ 400 by omega)]; simp)
          go_wp2_with fail
          clear hWX
          refine wp_region_quiet_grown mixed (by kernel_rfl) ?_
          repeat (go_big_quiet_step (fail))
          refine wpQuiet_nil ?_
          rintro _ ⟨⟨nq2, osq2⟩, rfl⟩
          go_wp2
          go_ret
          exact ⟨by rw [hfin.out]; rfl, hgw.trans ⟨nq2, osq2, rfl⟩⟩
        · have d2 : decide (400 < x.n) = false := decide_eq_false p2
          obtain ⟨nx, hnx⟩ : ∃ n, x.r.length = n := ⟨_, rfl⟩
          obtain ⟨ny, hny⟩ : ∃ n, y.r.length = n := ⟨_, rfl⟩
          have hnn : Hid (x.r.length = nx ∧ y.r.length = ny) := ⟨hnx, hny⟩
          rw [hnx] at x0 g0 hWX
          rw [hny] at g2 f0
          rw [hnx] at e0
          clear hnx hny
          by_cases p3 : nx = ny
          · subst p3
            have hoka : Hid (fitI x y.r.length = true) := by show _ = _; unfold fitI; rw [decide_eq_true (show 0 ≤ x.n by omega), decide_eq_true (show x.n ≤ 400 by omega), hnn.out.1, hnn.out.2]; simp
            go_wp2_with fail
            clear hWX
            refine wp_region_quiet_grown mixed (by kernel_rfl) ?_
            repeat (go_big_quiet_step (fail))
            refine wpQuiet_nil ?_
            rintro _ ⟨⟨nq2, osq2⟩, rfl⟩
            go_wp2
            go_roundw
            case rel =>
              refine ⟨k + 1, by omega, by go_num, fun j hj hjk => ?_, hgw.trans ⟨nq2, osq2, rfl⟩⟩
              by_cases e : j = k
              · subst e; rw [hxyH.out.1, hxyH.out.2]; exact hoka.out
              · exact hall j hj (by omega)
            case measure => simp [intOf]; omega
          · have p3z : ¬ (nx : Int) = (ny : Int) := by omega
            have hfin : Hid (R = 5) := hnoH.out (by unfold fitI; rw [hnn.out.1, hnn.out.2, decide_eq_false p3]; simp)
            go_wp2_with fail
            clear hWX
            refine wp_region_quiet_grown mixed (by kernel_rfl) ?_
            repeat (go_big_quiet_step (fail))
            refine wpQuiet_nil ?_
            rintro _ ⟨⟨nq2, osq2⟩, rfl⟩
            go_wp2
            go_ret
            exact ⟨by rw [hfin.out]; rfl, hgw.trans ⟨nq2, osq2, rfl⟩⟩
    · have hltz : ¬ (k : Int) < (l.length : Int) := by omega
      have hfin : Hid (R = 0) := by show _ = _; rw [hRe.out, if_pos (fitB_yes fun j hj => hall j hj (by omega))]
      go_wp2
      go_ret
      exact ⟨by rw [hfin.out]; rfl, hgr⟩
end Go.Proofs.YteobmedkngdnkaaDoor
