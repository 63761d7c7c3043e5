/-
  The small functions of package rank: widthOf, areColumns, checkItems.
  Package rank's orders: closures that hold one another.
-/
import Derived.Test.YtgmdjioobidadaaM30
import Derived.Test.YtgmdjioobidadaaM15
namespace Go.Proofs.Ytgmdjioobidadaa
open Go.RowKit Go.Sort

/-- How many numbers rows have. -/
def widN (l : List Itm) : Int := widB (l.map Itm.z)
theorem widN_cons (x : Itm) (l : List Itm) : widN (x :: l) = (x.r.length : Int) := by
  unfold widN widB
  rw [if_neg (by simp)]
  rfl
set_option maxHeartbeats 1000000 in
theorem widthOf_any (l : List Itm) (A : Option Addr) (cap : Nat) (w : World) (hl : l.length ≤ maxLen) (hr : Items w A l) :
    Calls Try.prog 26 #[.slice A l.length cap] w fun e w' => e = .returned (.int .i64 (widN l)) ∧ w' = w := by
  cases l with
  | nil =>
    go_enter Try.func26, Try.ntmps26
    go_wp2
    go_ret
    exact ⟨rfl, rfl⟩
  | cons x t =>
    have e := widN_cons x t
    obtain ⟨b, off, rfl, hb, hcs⟩ := hr.at (k := 0) (by simp)
    obtain ⟨e0, _⟩ := hcs 0 (by simp)
    obtain ⟨n, hn⟩ : ∃ n, (x :: t).length = n := ⟨_, rfl⟩
    have e0' : w.cell? ⟨b, off, none⟩ = some (.slice x.p x.r.length x.c) := by simpa using e0
    have hn0 : 0 < n := by rw [← hn]; simp
    have hnz : (0 : Int) < (n : Int) := by omega
    have hne : ((n : Int) == 0) = false := by simpa using (show ¬ (n : Int) = 0 by omega)
    have hne2 : ¬ n = 0 := by omega
    rw [hn, e]
    clear hcs e0 e hn hr hl
    go_enter Try.func26, Try.ntmps26
    go_wp2
    go_ret
    exact ⟨rfl, rfl⟩

/-- May rows of so many numbers be put in an order by this one? -/
def colOk (n wd : Int) : Bool := decide (n ≠ 0) && decide (-wd ≤ n) && decide (n ≤ wd)
theorem colsB_long {cs : List Int} {wd : Int} (h : 8 < cs.length) : colsB cs wd = false := by
  unfold colsB
  rw [decide_eq_false (by omega)]
  rfl
theorem colsB_no {cs : List Int} {wd : Int} {k : Nat} (hk : k < cs.length) (h : colOk cs[k] wd = false) : colsB cs wd = false := by
  unfold colsB
  rw [Bool.and_eq_false_iff]
  refine Or.inr ?_
  rw [List.all_eq_false]
  exact ⟨cs[k], List.getElem_mem hk, by unfold colOk at h; rw [h]; decide⟩
theorem colsB_yes {cs : List Int} {wd : Int} (h8 : ¬ 8 < cs.length) (h : ∀ k (hk : k < cs.length), colOk cs[k] wd = true) : colsB cs wd = true := by
  unfold colsB
  rw [Bool.and_eq_true]
  refine ⟨decide_eq_true (by omega), List.all_eq_true.2 fun n hn => ?_⟩
  obtain ⟨k, hk, rfl⟩ := List.getElem_of_mem hn
  exact h k hk
set_option maxHeartbeats 1000000 in
theorem areColumns_any (cs : List Int) (A : Option Addr) (cap : Nat) (wd : Int) (w : World) (hl : cs.length ≤ maxLen) (hw : 0 ≤ wd ∧ wd ≤ 100) (hr : RowI w A cs) :
    Calls Try.prog 25 #[.slice A cs.length cap, .int .i64 wd] w fun e w' => e = .returned (.bool (colsB cs wd)) ∧ w' = w := by
  unfold maxLen at hl
  have hrH : Hid (RowI w A cs) := hr
  clear hr
  by_cases h8 : 8 < cs.length
  · rw [colsB_long h8]
    have h8z : (8 : Int) < (cs.length : Int) := by omega
    go_enter Try.func25, Try.ntmps25
    go_wp2
    go_ret
    exact ⟨rfl, rfl⟩
  · have h8z : ¬ (8 : Int) < (cs.length : Int) := by omega
    obtain ⟨R, hR⟩ : ∃ R, colsB cs wd = R := ⟨_, rfl⟩
    have hRH : Hid (colsB cs wd = R) := hR
    rw [hR]
    clear hR
    go_enter Try.func25, Try.ntmps25
    go_wp2
    go_loopw [12] (fun i wr => ∃ k : Nat, k ≤ cs.length ∧ i = .int .i64 k ∧ Hid (∀ j (h : j < cs.length), j < k → colOk cs[j] wd = true) ∧ wr = w) (fun i _ => cs.length - (intOf i).toNat)
    case atStart => exact ⟨0, by omega, rfl, fun j _ h => by omega, rfl⟩
    case round =>
      obtain ⟨k, hk, rfl, hall, hwr⟩ := hrel
      subst hwr
      by_cases hlt : k < cs.length
      · have hltz : (k : Int) < (cs.length : Int) := by omega
        obtain ⟨b, off, rfl, hb, hcs⟩ := hrH.out.at hlt
        have e0 := hcs k hlt 0 (by omega)
        obtain ⟨n, hn⟩ : ∃ n, cs[k] = n := ⟨_, rfl⟩
        rw [hn] at e0
        have e1 : wr.cell? ⟨b, off + k, none⟩ = some (.int .i64 n) := by simpa [encI] using e0
        have hnH : Hid (cs[k] = n) := hn
        clear hcs e0 hn
        have hneg : IntKind.i64.wrap (-wd) = -wd := by rw [IntKind.wrap_i64]; omega
        by_cases ho : colOk n wd = true
        · have hp : n ≠ 0 ∧ -wd ≤ n ∧ n ≤ wd := by unfold colOk at ho; simp only [Bool.and_eq_true, decide_eq_true_eq] at ho; exact ⟨ho.1.1, ho.1.2, ho.2⟩
          have p1 : (n == 0) = false := by simpa using hp.1
          have p2 : ¬ n < -wd := by omega
          have p3 : ¬ wd < n := by omega
          have hoH : Hid (colOk n wd = true) := ho
          have p4 : ¬ n = 0 := hp.1
          clear hp ho
          go_wp2
          go_roundw
          case rel =>
            refine ⟨k + 1, by omega, by go_num, fun j hj hjk => ?_, trivial⟩
            by_cases e : j = k
            · subst e; rw [hnH.out]; exact hoH.out
            · exact hall j hj (by omega)
          case measure => simp [intOf]; omega
        · have hf : colOk n wd = false := by cases h : colOk n wd with
            | true => exact absurd h ho
            | false => rfl
          have hfin : Hid (R = false) := by show _ = _; rw [← hRH.out]; exact colsB_no hlt (by rw [hnH.out]; exact hf)
          have hp : n = 0 ∨ n < -wd ∨ wd < n := by
            unfold colOk at ho
            simp only [Bool.and_eq_true, decide_eq_true_eq] at ho
            omega
          clear ho hf
          by_cases p1 : n = 0
          · subst p1
            go_wp2
            go_ret
            exact ⟨by rw [hfin.out]; rfl, rfl⟩
          · have p1' : (n == 0) = false := by simpa using p1
            by_cases p2 : n < -wd
            · go_wp2
              go_ret
              exact ⟨by rw [hfin.out]; rfl, rfl⟩
            · have p3 : wd < n := by omega
              go_wp2
              go_ret
              exact ⟨by rw [hfin.out]; rfl, rfl⟩
      · have hltz : ¬ (k : Int) < (cs.length : Int) := by omega
        have hfin : Hid (R = true) := by show _ = _; rw [← hRH.out]; exact colsB_yes h8 fun j hj => hall j hj (by omega)
        go_wp2
        go_ret
        exact ⟨by rw [hfin.out]; rfl, rfl⟩

/-- Is an item one that can be put in an order? -/
def fitI (x : Itm) (wd : Nat) : Bool := decide (0 ≤ x.n) && decide (x.n ≤ 400) && decide (x.r.length = wd)
theorem fitB_no {l : List Itm} {k : Nat} (hk : k < l.length) {y : Itm} (hy : l[0]'(by omega) = y) (h : fitI l[k] y.r.length = false) : fitB (l.map Itm.z) = false := by
  unfold fitB
  rw [List.all_eq_false]
  refine ⟨l[k].z, List.mem_map.2 ⟨l[k], List.getElem_mem hk, rfl⟩, ?_⟩
  have e : ((l.map Itm.z).headD ([], 0)).1.length = y.r.length := by
    cases l with
    | nil => simp at hk
    | cons a t => simp at hy; subst hy; rfl
  rw [e]
  unfold fitI at h
  show ¬ (decide (0 ≤ l[k].n) && decide (l[k].n ≤ 400) && decide (l[k].r.length = y.r.length)) = true
  rw [h]; decide
theorem fitB_yes {l : List Itm} (h : ∀ k (hk : k < l.length), fitI l[k] ((l[0]'(by omega)).r.length) = true) : fitB (l.map Itm.z) = true := by
  unfold fitB
  rw [List.all_eq_true]
  intro z hz
  obtain ⟨x, hx, rfl⟩ := List.mem_map.1 hz
  obtain ⟨k, hk, rfl⟩ := List.getElem_of_mem hx
  have e : ((l.map Itm.z).headD ([], 0)).1.length = (l[0]'(by omega)).r.length := by
    cases l with
    | nil => simp at hk
    | cons a t => rfl
  rw [e]
  exact h k hk
/-- What checkItems answers. -/
def chkN (l : List Zit) : Int := if errZ l = 0 then (if fitB l = true then 0 else 5) else errZ l
set_option maxRecDepth 100000 in
set_option maxHeartbeats 2000000 in
theorem checkItems_any (l : List Itm) (A : Option Addr) (cap : Nat) (w : World) (h : Lv w A cap l) :
    Calls Try.prog 24 #[.slice A l.length cap] w fun e w' => e = .returned (.int .i64 (chkN (l.map Itm.z))) ∧ Gr w w' := by
  have mixed : Try.prog.follows .mixedOrders = true := by kernel_rfl
  obtain ⟨E, hE⟩ : ∃ E, errZ (l.map Itm.z) = E := ⟨_, rfl⟩
  obtain ⟨R, hR⟩ : ∃ R, chkN (l.map Itm.z) = R := ⟨_, rfl⟩
  have hC0 := checkZ_any l A cap w h.len h.items
  rw [hE] at hC0
  rw [hR]
  have hC : Hid _ := hC0
  have hH : Hid (Lv w A cap l ∧ errZ (l.map Itm.z) = E ∧ chkN (l.map Itm.z) = R) := ⟨h, hE, hR⟩
  clear hC0 h hE hR
  go_enter Try.func24, Try.ntmps24
  go_wp2_with fail
  refine Calls.mono (show Calls _ _ _ _ _ from hC.out) ?_
  rintro e w1 ⟨rfl, hg1⟩
  clear hC
  by_cases h0 : E = 0
  rotate_left
  focus
    have h0b : (E != 0) = true := by simpa using h0
    have hfin : Hid (E = R) := by show _ = _; rw [← hH.out.2.2]; unfold chkN; rw [if_neg (by rw [hH.out.2.1]; exact h0)]; exact hH.out.2.1.symm
    clear h0
    go_wp2
    go_ret
    exact ⟨by rw [hfin.out]; rfl, hg1⟩
  have hl4 : l.length ≤ 400 := by have := ((errZ_iff _).1 (hH.out.2.1.trans h0)).1; simpa using this
  have hRe : Hid (R = if fitB (l.map Itm.z) = true then 0 else 5) := by show _ = _; rw [← hH.out.2.2]; unfold chkN; rw [if_pos (hH.out.2.1.trans h0)]
  have h0b : (E != 0) = false := by simpa using h0
  have hIH : Hid (Items w A l) := hH.out.1.items
  clear hH h0
  go_wp2
  go_loopw [13] (fun i wr => ∃ k : Nat, k ≤ l.length ∧ i = .int .i64 k ∧ Hid (∀ j (h : j < l.length), j < k → fitI l[j] ((l[0]'(by omega)).r.length) = true) ∧ Gr w wr) (fun i _ => l.length - (intOf i).toNat)
  case atStart => exact ⟨0, by omega, rfl, fun j _ h => by omega, hg1⟩
  case round =>
    rename World => wr0
    obtain ⟨k, hk, rfl, hall, hgr⟩ := hrel
    by_cases hlt : k < l.length
    · have hltz : (k : Int) < (l.length : Int) := by omega
      have hrR : Hid (Items wr0 A l) := hIH.out.gr hgr
      obtain ⟨b, off, rfl, hb, hcs⟩ := hrR.out.at hlt
      obtain ⟨x, hx⟩ : ∃ x, l[k] = x := ⟨_, rfl⟩
      obtain ⟨y, hy⟩ : ∃ y, l[0]'(by omega) = y := ⟨_, rfl⟩
      obtain ⟨e0, e1⟩ := hcs k hlt
      obtain ⟨f0', f1⟩ := hcs 0 (by omega)
      rw [hx] at e0 e1
      rw [hy] at f0'
      have f0 : wr0.cell? ⟨b, off, none⟩ = some (.slice y.p y.r.length y.c) := by simpa using f0'
      have hxyH : Hid (l[k] = x ∧ l[0]'(by omega) = y) := ⟨hx, hy⟩
      clear hcs hx hy f0' f1
      obtain ⟨WX, hWX⟩ : ∃ WX, (wr0.alloc (.cells #[.slice x.p x.r.length x.c, .int .i64 x.n] 45)) = WX := ⟨_, rfl⟩
      have hgX : Gr wr0 WX := by rw [← hWX]; exact (Gr.refl _).alloc _
      have x0 : WX.cell? ⟨wr0.heap.size, 0, none⟩ = some (.slice x.p x.r.length x.c) := by rw [← hWX]; exact box1 (w := wr0) (Gr.refl _) rfl
      have x1 : WX.cell? ⟨wr0.heap.size, 1, none⟩ = some (.int .i64 x.n) := by rw [← hWX]; exact box1 (w := wr0) (Gr.refl _) rfl
      have hXs : wr0.heap.size < WX.heap.size := by rw [← hWX]; simp
      have g0 := (Gr.refl WX).cellG (a := ⟨wr0.heap.size, 0, none⟩) hXs x0
      have g1 := (Gr.refl WX).cellG (a := ⟨wr0.heap.size, 1, none⟩) hXs x1
      have g2 := hgX.cellG (a := ⟨b, off, none⟩) hb f0
      have hgw := hgr.trans hgX
      have hlz : (0 : Int) < (l.length : Int) := by omega
      have hnoH : Hid (fitI x y.r.length = false → R = 5) := fun hf => by
        have := fitB_no hlt hxyH.out.2 (by rw [hxyH.out.1]; exact hf)
        rw [hRe.out, this]; rfl
      by_cases p1 : x.n < 0
      · have hfin : Hid (R = 5) := hnoH.out (by unfold fitI; rw [decide_eq_false (by omega)]; rfl)
        go_wp2_with fail
        clear hWX
        refine wp_region_quiet_grown mixed (by kernel_rfl) ?_
        repeat (go_big_quiet_step (fail))
        refine wpQuiet_nil ?_
        rintro _ ⟨⟨nq2, osq2⟩, rfl⟩
        go_wp2
        go_ret
        exact ⟨by rw [hfin.out]; rfl, hgw.trans ⟨nq2, osq2, rfl⟩⟩
      · have d1 : decide (x.n < 0) = false := decide_eq_false p1
        by_cases p2 : 400 < x.n
        · have hfin : Hid (R = 5) := hnoH.out (by unfold fitI; rw [decide_eq_false (show ¬ x.n ≤ 400 by omega)]; simp)
          go_wp2_with fail
          clear hWX
          refine wp_region_quiet_grown mixed (by kernel_rfl) ?_
          repeat (go_big_quiet_step (fail))
          refine wpQuiet_nil ?_
          rintro _ ⟨⟨nq2, osq2⟩, rfl⟩
          go_wp2
          go_ret
          exact ⟨by rw [hfin.out]; rfl, hgw.trans ⟨nq2, osq2, rfl⟩⟩
        · have d2 : decide (400 < x.n) = false := decide_eq_false p2
          obtain ⟨nx, hnx⟩ : ∃ n, x.r.length = n := ⟨_, rfl⟩
          obtain ⟨ny, hny⟩ : ∃ n, y.r.length = n := ⟨_, rfl⟩
          have hnn : Hid (x.r.length = nx ∧ y.r.length = ny) := ⟨hnx, hny⟩
          rw [hnx] at x0 g0 hWX
          rw [hny] at g2 f0
          rw [hnx] at e0
          clear hnx hny
          by_cases p3 : nx = ny
          · subst p3
            have hoka : Hid (fitI x y.r.length = true) := by show _ = _; unfold fitI; rw [decide_eq_true (show 0 ≤ x.n by omega), decide_eq_true (show x.n ≤ 400 by omega), hnn.out.1, hnn.out.2]; simp
            go_wp2_with fail
            clear hWX
            refine wp_region_quiet_grown mixed (by kernel_rfl) ?_
            repeat (go_big_quiet_step (fail))
            refine wpQuiet_nil ?_
            rintro _ ⟨⟨nq2, osq2⟩, rfl⟩
            go_wp2
            go_roundw
            case rel =>
              refine ⟨k + 1, by omega, by go_num, fun j hj hjk => ?_, hgw.trans ⟨nq2, osq2, rfl⟩⟩
              by_cases e : j = k
              · subst e; rw [hxyH.out.1, hxyH.out.2]; exact hoka.out
              · exact hall j hj (by omega)
            case measure => simp [intOf]; omega
          · have p3z : ¬ (nx : Int) = (ny : Int) := by omega
            have hfin : Hid (R = 5) := hnoH.out (by unfold fitI; rw [hnn.out.1, hnn.out.2, decide_eq_false p3]; simp)
            go_wp2_with fail
            clear hWX
            refine wp_region_quiet_grown mixed (by kernel_rfl) ?_
            repeat (go_big_quiet_step (fail))
            refine wpQuiet_nil ?_
            rintro _ ⟨⟨nq2, osq2⟩, rfl⟩
            go_wp2
            go_ret
            exact ⟨by rw [hfin.out]; rfl, hgw.trans ⟨nq2, osq2, rfl⟩⟩
    · have hltz : ¬ (k : Int) < (l.length : Int) := by omega
      have hfin : Hid (R = 0) := by show _ = _; rw [hRe.out, if_pos (fitB_yes fun j hj => hall j hj (by omega))]
      go_wp2
      go_ret
      exact ⟨by rw [hfin.out]; rfl, hgr⟩
end Go.Proofs.Ytgmdjioobidadaa

namespace Go.Proofs.Ytgmdjioobidadaa
open Go.RowKit Go.Sort

def colI (n : Int) : Int := if n < 0 then -n - 1 else n - 1
theorem colB_I (n : Int) : colB n = (colI n).toNat := rfl
/-- The value is the order by these columns. -/
def OrdF (w : World) : List Int → Value → Prop
  | [], v => v = .func (.func 38) #[] #[]
  | n :: t, v => ∃ (bc bs bn : Nat) (u : Value), v = .func (.func 56) #[] #[.pointer (some ⟨bc, 0, none⟩), .pointer (some ⟨bs, 0, none⟩), .pointer (some ⟨bn, 0, none⟩)] ∧ (bc < w.heap.size ∧ bs < w.heap.size ∧ bn < w.heap.size) ∧ w.cell? ⟨bc, 0, none⟩ = some (.int .i64 (colI n)) ∧ w.cell? ⟨bs, 0, none⟩ = some (.int .i64 (sgnB n)) ∧ w.cell? ⟨bn, 0, none⟩ = some u ∧ OrdF w t u
theorem OrdF.below {w w' : World} (q : Below w.heap.size w w') : ∀ {cs : List Int} {v : Value}, OrdF w cs v → OrdF w' cs v
  | [], _, h => h
  | _ :: _, _, ⟨bc, bs, bn, u, h1, ⟨l1, l2, l3⟩, h2, h3, h4, h5⟩ => ⟨bc, bs, bn, u, h1, ⟨Nat.lt_of_lt_of_le l1 q.size, Nat.lt_of_lt_of_le l2 q.size, Nat.lt_of_lt_of_le l3 q.size⟩, (q.cell (p := ⟨bc, 0, none⟩) l1).trans h2, (q.cell (p := ⟨bs, 0, none⟩) l2).trans h3, (q.cell (p := ⟨bn, 0, none⟩) l3).trans h4, OrdF.below q h5⟩
theorem OrdF.gr {w w' : World} (q : Gr w w') {cs : List Int} {v : Value} (h : OrdF w cs v) : OrdF w' cs v := OrdF.below q.below h
/-- Which function it is, and what it holds. -/
theorem OrdF.form {w : World} : ∀ {cs : List Int} {v : Value}, OrdF w cs v → ∃ F cb, v = .func (.func F) #[] cb ∧ ∀ args w, (callFunc F args).run Try.prog w = .ok (.enter F args) w
  | [], _, h => ⟨_, _, h, enters_of Try.func38 (by kernel_rfl) rfl⟩
  | _ :: _, _, ⟨_, _, _, _, h, _⟩ => ⟨_, _, h, enters_of Try.func56 (by kernel_rfl) rfl⟩

theorem box3a {w : World} {C1 C2 C3 : Array Value} {T1 T2 T3 : TypeId} {j : Nat} {v : Value} (hv : C1[j]? = some v) : (((w.alloc (.cells C1 T1)).alloc (.cells C2 T2)).alloc (.cells C3 T3)).cell? ⟨w.heap.size, j, none⟩ = some v := box1 (w := w) (((Gr.refl _).alloc _).alloc _) hv
theorem box3b {w : World} {C1 C2 C3 : Array Value} {T1 T2 T3 : TypeId} {j : Nat} {v : Value} (hv : C2[j]? = some v) : (((w.alloc (.cells C1 T1)).alloc (.cells C2 T2)).alloc (.cells C3 T3)).cell? ⟨w.heap.size + 1, j, none⟩ = some v := box2 (w := w) ((Gr.refl _).alloc _) hv
theorem box3c {w : World} {C1 C2 C3 : Array Value} {T1 T2 T3 : TypeId} {j : Nat} {v : Value} (hv : C3[j]? = some v) : (((w.alloc (.cells C1 T1)).alloc (.cells C2 T2)).alloc (.cells C3 T3)).cell? ⟨w.heap.size + 1 + 1, j, none⟩ = some v := by
  have := box2 (w := w.alloc (.cells C1 T1)) (Gr.refl _) (T1 := T2) (C1 := C2) (T2 := T3) hv
  simpa using this
theorem ordNew {w : World} {n : Int} {t : List Int} {u : Value} {c s : Int} (T1 T2 T3 : TypeId) (h : OrdF w t u) (hc : colI n = c) (hs : sgnB n = s) :
    OrdF (((w.alloc (.cells #[u] T1)).alloc (.cells #[.int .i64 c] T2)).alloc (.cells #[.int .i64 s] T3)) (n :: t) (.func (.func 56) #[] #[.pointer (some ⟨w.heap.size + 1, 0, none⟩), .pointer (some ⟨w.heap.size + 1 + 1, 0, none⟩), .pointer (some ⟨w.heap.size, 0, none⟩)]) :=
  ⟨_, _, _, u, rfl, ⟨by simp <;> omega, by simp, by simp <;> omega⟩, by rw [hc]; exact box3b rfl, by rw [hs]; exact box3c rfl, box3a rfl, h.gr ((((Gr.refl _).alloc _).alloc _).alloc _)⟩

set_option maxRecDepth 100000 in
set_option maxHeartbeats 1000000 in
theorem orderAt_any (n : Int) (t : List Int) (u : Value) (w : World) (hn : -1000 ≤ n ∧ n ≤ 1000) (h : OrdF w t u) :
    Calls Try.prog 43 #[.int .i64 n, u] w fun e w' => ∃ v, e = .returned v ∧ OrdF w' (n :: t) v ∧ Gr w w' := by
  obtain ⟨F, cb, rfl, _⟩ := h.form
  have hmf : ∀ (fn : Fn) (first cap : Array Value) (w : World), (Instr.makeFunc fn first cap).run Try.prog w = .ok (.func fn first cap) w := fun _ _ _ _ => rfl
  have hH : Hid (OrdF w t (.func (.func F) #[] cb)) := h
  clear h
  by_cases hlt : n < 0
  · have e1 : Hid (colI n = -n - 1 ∧ sgnB n = -1) := ⟨if_pos hlt, if_pos hlt⟩
    go_enter Try.func43, Try.ntmps43
    go_wp2
    go_ret
    exact ⟨_, rfl, ordNew _ _ _ hH.out e1.out.1 e1.out.2, (((Gr.refl _).alloc _).alloc _).alloc _⟩
  · have e1 : Hid (colI n = n - 1 ∧ sgnB n = 1) := ⟨if_neg hlt, if_neg hlt⟩
    go_enter Try.func43, Try.ntmps43
    go_wp2
    go_ret
    exact ⟨_, rfl, ordNew _ _ _ hH.out e1.out.1 e1.out.2, (((Gr.refl _).alloc _).alloc _).alloc _⟩

set_option maxRecDepth 100000 in
set_option maxHeartbeats 1000000 in
theorem orderBy_any (cs : List Int) (A : Option Addr) (cap : Nat) (w : World) (hl : cs.length ≤ 8) (hn : ∀ n ∈ cs, -1000 ≤ n ∧ n ≤ 1000) (hr : RowI w A cs) :
    Calls Try.prog 29 #[.slice A cs.length cap] w fun e w' => ∃ v, e = .returned v ∧ OrdF w' cs v ∧ Gr w w' := by
  have hH : Hid (RowI w A cs ∧ ∀ n ∈ cs, -1000 ≤ n ∧ n ≤ 1000) := ⟨hr, hn⟩
  clear hr hn
  go_enter Try.func29, Try.ntmps29
  go_wp2
  go_loopw [3, 4] (fun u i wr => ∃ k : Nat, k ≤ cs.length ∧ i = .int .i64 ((k : Int) - 1) ∧ Hid (OrdF wr (cs.drop k) u ∧ Gr w wr)) (fun _ i _ => (intOf i + 1).toNat)
  case atStart => exact ⟨cs.length, Nat.le_refl _, rfl, by rw [List.drop_length]; exact rfl, Gr.refl _⟩
  case round =>
    obtain ⟨k, hk, rfl, hR⟩ := hrel
    by_cases hlt : 0 < k
    · obtain ⟨m, rfl⟩ : ∃ m, k = m + 1 := ⟨k - 1, by omega⟩
      have hm : m < cs.length := by omega
      have hmz : (m : Int) < (cs.length : Int) := by omega
      have e1 : (((m + 1 : Nat) : Int) - 1) = (m : Int) := by omega
      obtain ⟨b, off, rfl, hb, hcs⟩ := (hH.out.1.gr hR.out.2).at hm
      have e0 := hcs m hm 0 (by omega)
      obtain ⟨n, hn⟩ : ∃ n, cs[m] = n := ⟨_, rfl⟩
      rw [hn] at e0
      have e2 : wr.cell? ⟨b, off + m, none⟩ = some (.int .i64 n) := by simpa [encI] using e0
      have hC0 := orderAt_any n (cs.drop (m + 1)) u3 wr (by rw [← hn]; exact hH.out.2 _ (List.getElem_mem hm)) hR.out.1
      have hC : Hid _ := hC0
      have hd : Hid (cs.drop m = n :: cs.drop (m + 1)) := by show _ = _; rw [List.drop_eq_getElem_cons hm, hn]
      have hg : Hid (Gr w wr) := hR.out.2
      rw [e1]
      clear hcs e0 hn hC0 hR
      go_wp2_with fail
      refine Calls.mono (show Calls _ _ _ _ _ from hC.out) ?_
      rintro e w1 ⟨v, rfl, h1, h2⟩
      have hfin : Hid (OrdF w1 (cs.drop m) v ∧ Gr w w1) := ⟨by rw [hd.out]; exact h1, hg.out.trans h2⟩
      clear hC h1 h2
      go_wp2
      go_roundw
      case rel => exact ⟨m, by omega, by go_num, hfin⟩
      case measure => simp [intOf] <;> omega
    · obtain rfl : k = 0 := by omega
      have hfin : Hid (OrdF wr cs u3 ∧ Gr w wr) := by have := hR.out; rwa [List.drop_zero] at this
      clear hR
      go_wp2
      go_ret
      exact ⟨u3, rfl, hfin.out⟩

theorem cmpG {x y r : Int} (h : cmpI x y = r) (w : World) : Calls Try.prog 57 #[.int .i64 x, .int .i64 y] w fun e w' => e = .returned (.int .i64 r) ∧ ∃ q os', w' = grow (w.drewN q) os' := by
  rw [← h]
  refine (cmp_any x y w).mono ?_
  rintro e w' ⟨h1, rfl⟩
  exact ⟨h1, Gr.refl _⟩
/-- A number of a row, in memory. -/
theorem rowI_col {w : World} {p : Option Addr} {r : List Int} {n : Int} (h : RowI w p r) (h0 : n ≠ 0) (hc : colB n < r.length) : ∃ (b off m : Nat), p = some ⟨b, off, none⟩ ∧ b < w.heap.size ∧ colI n = m ∧ m < r.length ∧ w.cell? ⟨b, off + m, none⟩ = some (.int .i64 (r.getD (colB n) 0)) := by
  obtain ⟨b, off, hp, hb, hcs⟩ := h.at hc
  refine ⟨b, off, colB n, hp, hb, ?_, hc, ?_⟩
  · unfold colB colI
    split <;> omega
  · have := hcs (colB n) hc 0 (by omega)
    simp only [Nat.mul_one, Nat.add_zero] at this
    rw [this, List.getD_eq_getElem?_getD, List.getElem?_eq_getElem hc]
    rfl

set_option maxRecDepth 100000 in
set_option maxHeartbeats 2000000 in
/-- The order by some columns, called. -/
theorem ordF_any (a b : List Int) (A B : Option Addr) (ca cb : Nat) (hal : a.length ≤ maxLen) (hbl : b.length ≤ maxLen) : ∀ (cs : List Int) (F : FuncId) (cap : Array Value) (w : World), OrdF w cs (.func (.func F) #[] cap) → RowI w A a → RowI w B b → (∀ n ∈ cs, n ≠ 0 ∧ colB n < a.length ∧ colB n < b.length) →
    Calls Try.prog F (#[.slice A a.length ca, .slice B b.length cb] ++ cap) w fun e w' => e = .returned (.int .i64 (cmpB cs a b)) ∧ ∃ q os', w' = grow (w.drewN q) os'
  | [], F, cap, w, h, ha, hb, _ => by
    have h' : Value.func (.func F) #[] cap = .func (.func 38) #[] #[] := h
    injection h' with h1 h2 h3
    injection h1 with h1
    subst h1 h3
    exact orderR_any a b A B ca cb w hal ha hb
  | n :: t, F, cap, w, h, ha, hb, hn => by
    obtain ⟨bc, bs, bn, u, h', hlt, c0, c1, c2, hO⟩ := h
    injection h' with h1 h2 h3
    injection h1 with h1
    subst h1 h3
    have mixed : Try.prog.follows .mixedOrders = true := by kernel_rfl
    obtain ⟨G, gc, rfl, eg⟩ := hO.form
    have IH : Hid (∀ W, Gr w W → Calls Try.prog G (#[.slice A a.length ca, .slice B b.length cb] ++ gc) W fun e w' => e = .returned (.int .i64 (cmpB t a b)) ∧ ∃ q os', w' = grow (W.drewN q) os') := fun W hg => ordF_any a b A B ca cb hal hbl t G gc W (hO.gr hg) (ha.gr hg) (hb.gr hg) (fun m hm => hn m (List.mem_cons_of_mem _ hm))
    obtain ⟨n0, na, nb⟩ := hn n (List.mem_cons_self ..)
    obtain ⟨b1, o1, m1, hA, l1, k1, j1, d1⟩ := rowI_col ha n0 na
    obtain ⟨b2, o2, m2, hB, l2, k2, j2, d2⟩ := rowI_col hb n0 nb
    obtain rfl : m1 = m2 := by omega
    rw [k1] at c0
    obtain ⟨x, hx⟩ : ∃ x, a.getD (colB n) 0 = x := ⟨_, rfl⟩
    obtain ⟨y, hy⟩ : ∃ y, b.getD (colB n) 0 = y := ⟨_, rfl⟩
    rw [hx] at d1
    rw [hy] at d2
    obtain ⟨r, hr⟩ : ∃ r, cmpI x y = r := ⟨_, rfl⟩
    obtain ⟨T, hT⟩ : ∃ T, cmpB t a b = T := ⟨_, rfl⟩
    obtain ⟨Z, hZ⟩ : ∃ Z, cmpB (n :: t) a b = Z := ⟨_, rfl⟩
    have hZe : Hid (Z = if r = 0 then T else sgnB n * r) := by show _ = _; rw [← hZ]; unfold cmpB; rw [hx, hy, hr, hT]
    have hsr : Hid ((sgnB n = -1 ∨ sgnB n = 1) ∧ (r = -1 ∨ r = 0 ∨ r = 1)) := ⟨by rcases sgnB_cases n with h | h <;> simp [h.1], by rcases cmpI_cases x y with h | h | h <;> rw [← hr, h.1] <;> simp⟩
    rw [hZ]
    rw [hT] at IH
    have hrH : Hid (cmpI x y = r) := hr
    obtain ⟨s, hs⟩ : ∃ s, sgnB n = s := ⟨_, rfl⟩
    rw [hs] at c1 hZe hsr
    subst hA hB
    have g0 := (Gr.refl w).cellG (a := ⟨bc, 0, none⟩) hlt.1 c0
    have g1 := (Gr.refl w).cellG (a := ⟨bs, 0, none⟩) hlt.2.1 c1
    have g2 := (Gr.refl w).cellG (a := ⟨bn, 0, none⟩) hlt.2.2 c2
    have g3 := (Gr.refl w).cellG (a := ⟨b1, o1 + m1, none⟩) l1 d1
    have g4 := (Gr.refl w).cellG (a := ⟨b2, o2 + m1, none⟩) l2 d2
    have q1 : (m1 : Int) < (a.length : Int) := by omega
    have q2 : (m1 : Int) < (b.length : Int) := by omega
    clear hO hr hx hy hT hZ hs ha hb hn k1 k2
    show Calls Try.prog 56 #[.slice (some ⟨b1, o1, none⟩) a.length ca, .slice (some ⟨b2, o2, none⟩) b.length cb, .pointer (some ⟨bc, 0, none⟩), .pointer (some ⟨bs, 0, none⟩), .pointer (some ⟨bn, 0, none⟩)] w _
    by_cases hr0 : r = 0
    · have hfin : Hid (T = Z) := by show _ = _; rw [hZe.out, if_pos hr0]
      subst hr0
      go_enter Try.func56, Try.ntmps56
      go_wp2_with fail
      refine wp_region_quiet_grown mixed (by kernel_rfl) ?_
      repeat (go_big_quiet_step ((go_at_call 57; refine Calls.grown_of (cmpG hrH.out _))))
      refine wpQuiet_nil ?_
      rintro _ ⟨⟨nq2, osq2⟩, rfl⟩
      go_wp2_with fail
      refine Calls.mono (IH.out _ ⟨nq2, osq2, rfl⟩) ?_
      rintro e w2 ⟨rfl, hg2⟩
      have hg : Hid (Gr w w2) := Gr.trans ⟨nq2, osq2, rfl⟩ hg2
      clear hg2
      go_wp2
      go_ret
      exact ⟨by rw [← hfin.out]; rfl, hg.out⟩
    · have hrb : (r != 0) = true := by simpa using hr0
      have hw : IntKind.i64.wrap (s * r) = s * r := by
        rcases hsr.out.1 with h | h <;> rcases hsr.out.2 with k | k | k <;> rw [h, k] <;> decide
      have hfin : Hid (s * r = Z) := by show _ = _; rw [hZe.out, if_neg hr0]
      go_enter Try.func56, Try.ntmps56
      go_wp2_with fail
      refine wp_region_quiet_grown mixed (by kernel_rfl) ?_
      repeat (go_big_quiet_step ((go_at_call 57; refine Calls.grown_of (cmpG hrH.out _))))
      refine wpQuiet_nil ?_
      rintro _ ⟨⟨nq2, osq2⟩, rfl⟩
      go_wp2
      go_ret
      exact ⟨by rw [← hfin.out]; rfl, nq2, osq2, rfl⟩
end Go.Proofs.Ytgmdjioobidadaa
