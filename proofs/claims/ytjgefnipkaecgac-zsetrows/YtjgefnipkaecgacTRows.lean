/-
  table.contextOf and what is handed to it; slices.ContainsFunc at cells, with what table.Del hands in.
-/
import Derived.Test.YtjgefnipkaecgacTCheck
import Derived.Test.YtjgefnipkaecgacMake
namespace Go.Proofs.Ytjgefnipkaecgac
open Go.RowKit Go.Sort

/-- The dots of the cells that fit. -/
def dotsOf (p : Cel → Bool) (l : List Cel) : List (Int × Int) := (l.filter p).map (·.1)

/-- A cell of a row and column. -/
def fitP (key col : Int) (x : Cel) : Bool := decide (x.2.1 = key) && decide (x.2.2.1 = col)
/-- A cell of a row. -/
def fitD (key : Int) (x : Cel) : Bool := decide (x.2.1 = key)

set_option maxHeartbeats 1000000 in
theorem fitP_any (key col : Int) (p q : Nat) (x : Cel) (w : World) (hp : p < w.heap.size) (hq : q < w.heap.size) (kp : w.cell? ⟨p, 0, none⟩ = some (.int .i64 key)) (kq : w.cell? ⟨q, 0, none⟩ = some (.int .i64 col)) :
    Calls Try.prog 64 #[.agg #[.int .i64 x.1.1, .int .i64 x.1.2, .int .i64 x.2.1, .int .i64 x.2.2.1, .int .i64 x.2.2.2], .pointer (some ⟨p, 0, none⟩), .pointer (some ⟨q, 0, none⟩)] w fun e w' => e = .returned (.bool (fitP key col x)) ∧ Gr w w' := by
  by_cases h1 : x.2.1 = key
  · by_cases h2 : x.2.2.1 = col
    · have e : fitP key col x = true := by simp [fitP, h1, h2]
      rw [e]; clear e
      go_enter Try.func64, Try.ntmps64
      go_wp2
      go_ret
      exact ⟨rfl, (Gr.refl _).alloc _⟩
    · have e : fitP key col x = false := by simp [fitP, h2]
      rw [e]; clear e
      go_enter Try.func64, Try.ntmps64
      go_wp2
      go_ret
      exact ⟨by simpa using h2, (Gr.refl _).alloc _⟩
  · have e : fitP key col x = false := by simp [fitP, h1]
    rw [e]; clear e
    go_enter Try.func64, Try.ntmps64
    go_wp2
    go_ret
    exact ⟨rfl, (Gr.refl _).alloc _⟩

set_option maxHeartbeats 1000000 in
theorem fitD_any (key : Int) (p : Nat) (x : Cel) (w : World) (hp : p < w.heap.size) (kp : w.cell? ⟨p, 0, none⟩ = some (.int .i64 key)) :
    Calls Try.prog 61 #[.agg #[.int .i64 x.1.1, .int .i64 x.1.2, .int .i64 x.2.1, .int .i64 x.2.2.1, .int .i64 x.2.2.2], .pointer (some ⟨p, 0, none⟩)] w fun e w' => e = .returned (.bool (fitD key x)) ∧ Gr w w' := by
  by_cases h1 : x.2.1 = key
  · have e : fitD key x = true := by simp [fitD, h1]
    rw [e]; clear e
    go_enter Try.func61, Try.ntmps61
    go_wp2
    go_ret
    exact ⟨by simp [h1], (Gr.refl _).alloc _⟩
  · have e : fitD key x = false := by simp [fitD, h1]
    rw [e]; clear e
    go_enter Try.func61, Try.ntmps61
    go_wp2
    go_ret
    exact ⟨by simpa using h1, (Gr.refl _).alloc _⟩

/-- A function of cells that reads alone: what it answers, in whatever has grown of w. -/
def PredG (g : Nat) (lb : Array Value) (p : Cel → Bool) (w : World) : Prop := ∀ W, Gr w W → ∀ x : Cel, Calls Try.prog g (#[.agg #[.int .i64 x.1.1, .int .i64 x.1.2, .int .i64 x.2.1, .int .i64 x.2.2.1, .int .i64 x.2.2.2]] ++ lb) W fun e w' => e = .returned (.bool (p x)) ∧ Gr W w'

theorem predP (key col : Int) (p q : Nat) (w : World) (hp : p < w.heap.size) (hq : q < w.heap.size) (kp : w.cell? ⟨p, 0, none⟩ = some (.int .i64 key)) (kq : w.cell? ⟨q, 0, none⟩ = some (.int .i64 col)) : PredG 64 #[.pointer (some ⟨p, 0, none⟩), .pointer (some ⟨q, 0, none⟩)] (fitP key col) w :=
  fun W hg x => fitP_any key col p q x W (Nat.lt_of_lt_of_le hp hg.size) (Nat.lt_of_lt_of_le hq hg.size) ((hg.cell (p := ⟨p, 0, none⟩) hp).trans kp) ((hg.cell (p := ⟨q, 0, none⟩) hq).trans kq)
theorem predD (key : Int) (p : Nat) (w : World) (hp : p < w.heap.size) (kp : w.cell? ⟨p, 0, none⟩ = some (.int .i64 key)) : PredG 61 #[.pointer (some ⟨p, 0, none⟩)] (fitD key) w :=
  fun W hg x => fitD_any key p x W (Nat.lt_of_lt_of_le hp hg.size) ((hg.cell (p := ⟨p, 0, none⟩) hp).trans kp)

set_option maxHeartbeats 1000000 in
theorem indexFuncC_any (p : Cel → Bool) (g : Nat) (lb : Array Value) (hfn : ∀ args w, (callFunc g args).run Try.prog w = .ok (.enter g args) w) (l : List Cel) (A : Option Addr) (cap : Nat) (w : World) (hl : l.length ≤ maxLen) (hr : RowC w A l) (hp : PredG g lb p w) :
    Calls Try.prog 68 #[.slice A l.length cap, .func (.func g) #[] lb] w fun e w' => ∃ r : Int, e = .returned (.int .i64 r) ∧ Hid (decide (0 ≤ r) = l.any p) ∧ Gr w w' := by
  unfold maxLen at hl
  go_enter Try.func68, Try.ntmps68
  go_wp2
  go_loopw [8] (fun i wr => ∃ k : Nat, k ≤ l.length ∧ i = .int .i64 k ∧ Hid (∀ j (h : j < l.length), j < k → p l[j] = false) ∧ Gr w wr) (fun i _ => l.length - (intOf i).toNat)
  case atStart => exact ⟨0, Nat.zero_le _, rfl, fun j _ hj => absurd hj (Nat.not_lt_zero _), Gr.refl _⟩
  case round =>
    obtain ⟨k, hk, rfl, hno, hgr⟩ := hrel
    by_cases hlt : k < l.length
    · have hltz : (k : Int) < (l.length : Int) := by omega
      obtain ⟨bb, off, rfl, hb, hcs⟩ := RowC.get (hr.gr hgr) hlt
      obtain ⟨x, hx⟩ : ∃ x, l[k] = x := ⟨_, rfl⟩
      obtain ⟨e0, e1, e2, e3, e4⟩ := hcs k hlt
      rw [hx] at e0 e1 e2 e3 e4
      have hxH : Hid (l[k] = x) := hx
      clear hcs hx
      have hcall := hp wr hgr x
      have hcallH : Hid _ := hcall
      clear hcall
      go_wp2
      refine Calls.mono (show Calls _ _ _ _ _ from hcallH.out) ?_
      rintro e w2 ⟨rfl, hg2⟩
      clear hcallH
      cases hq : p x
      · go_wp2
        go_roundw
        case rel =>
          refine ⟨k + 1, by omega, by go_num, ?_, hgr.trans hg2⟩
          intro j hj hjk
          by_cases e : j = k
          · subst e; rw [hxH.out]; exact hq
          · exact hno j hj (by omega)
        case measure => simp [intOf]; omega
      · have hfin : Hid (decide ((0 : Int) ≤ (k : Int)) = l.any p) := by
          have : l.any p = true := by
            rw [List.any_eq_true]
            exact ⟨l[k], List.getElem_mem hlt, by rw [hxH.out, hq]⟩
          show decide _ = _
          rw [this]; simp
        go_wp2
        go_ret
        exact ⟨_, rfl, hfin, hgr.trans hg2⟩
    · have hltz : ¬ (k : Int) < (l.length : Int) := by omega
      have hfin : Hid (decide ((0 : Int) ≤ -1) = l.any p) := by
        have : l.any p = false := by
          rw [List.any_eq_false]
          intro x hx
          obtain ⟨j, hj, rfl⟩ := List.getElem_of_mem hx
          rw [hno j hj (by omega)]; simp
        show decide _ = _
        rw [this]; simp
      go_wp2
      go_ret
      exact ⟨_, rfl, hfin, hgr⟩

set_option maxHeartbeats 1000000 in
theorem containsFuncC_any (p : Cel → Bool) (g : Nat) (lb : Array Value) (hfn : ∀ args w, (callFunc g args).run Try.prog w = .ok (.enter g args) w) (l : List Cel) (A : Option Addr) (cap : Nat) (w : World) (hl : l.length ≤ maxLen) (hr : RowC w A l) (hp : PredG g lb p w) :
    Calls Try.prog 43 #[.slice A l.length cap, .func (.func g) #[] lb] w fun e w' => e = .returned (.bool (l.any p)) ∧ Gr w w' := by
  go_enter Try.func43, Try.ntmps43
  go_wp2_with fail
  refine (indexFuncC_any p g lb hfn l A cap _ hl hr hp).mono ?_
  rintro e w' ⟨r, rfl, hrr, hg⟩
  go_wp2
  go_ret
  exact ⟨by rw [← hrr.out]; rfl, hg⟩

theorem dotsOf_take {p : Cel → Bool} {l : List Cel} {k : Nat} (h : k < l.length) {x : Cel} (hx : l[k] = x) : dotsOf p (l.take (k + 1)) = dotsOf p (l.take k) ++ (if p x then [x.1] else []) := by
  unfold dotsOf
  rw [List.take_succ_eq_append_getElem h, List.filter_append, List.map_append, hx]
  cases hq : p x <;> simp [hq]
theorem dotsOf_len (p : Cel → Bool) (l : List Cel) : (dotsOf p l).length ≤ l.length := by
  unfold dotsOf
  rw [List.length_map]
  exact List.length_filter_le _ _

set_option maxHeartbeats 2000000 in
theorem contextOf_any (p : Cel → Bool) (g : Nat) (lb : Array Value) (hfn : ∀ args w, (callFunc g args).run Try.prog w = .ok (.enter g args) w) (l : List Cel) (A : Option Addr) (cap : Nat) (w : World) (hl : l.length ≤ 400) (hr : RowC w A l) (hp : ∀ W, Below w.heap.size w W → ∀ x : Cel, Calls Try.prog g (#[.agg #[.int .i64 x.1.1, .int .i64 x.1.2, .int .i64 x.2.1, .int .i64 x.2.2.1, .int .i64 x.2.2.2]] ++ lb) W fun e w' => e = .returned (.bool (p x)) ∧ Gr W w') :
    Calls Try.prog 62 #[.slice A l.length cap, .func (.func g) #[] lb] w fun e w' => ∃ C cp, e = .returned (.tuple #[.agg #[.int .i64 (makeC (dotsOf p l)).c0, .int .i64 (makeC (dotsOf p l)).c1, .int .i64 (makeC (dotsOf p l)).c2, .int .i64 (makeC (dotsOf p l)).c3, .slice C (makeC (dotsOf p l)).l.length cp], .int .i64 (makeE (dotsOf p l))]) ∧ Row w' C (makeC (dotsOf p l)).l ∧ (C = none → cp = 0) ∧ (∀ a, C = some a → w.heap.size ≤ a.block) ∧ Below w.heap.size w w' := by
  have hz0 : ZAt (w.alloc (.cells #[.int .i64 0, .int .i64 0, .int .i64 0, .int .i64 0, .slice none 0 0] 25)) w.heap.size := ZAt.new w 25 rfl
  have hbw0 : Hid (Below w.heap.size w (w.alloc (.cells #[.int .i64 0, .int .i64 0, .int .i64 0, .int .i64 0, .slice none 0 0] 25))) := ((Gr.refl w).alloc _).below
  have hsz0 : (w.alloc (.cells #[.int .i64 0, .int .i64 0, .int .i64 0, .int .i64 0, .slice none 0 0] 25)).heap.size = w.heap.size + 1 := by simp
  go_enter Try.func62, Try.ntmps62
  go_wp2
  generalize w.alloc (.cells #[.int .i64 0, .int .i64 0, .int .i64 0, .int .i64 0, .slice none 0 0] 25) = w0 at hz0 hbw0 hsz0 ⊢
  have hszH : Hid (w0.heap.size = w.heap.size + 1) := hsz0
  clear hsz0
  go_loopw [6, 11] (fun v i wr => ∃ k : Nat, k ≤ l.length ∧ i = .int .i64 k ∧ Own wr (w.heap.size + 1) v (dotsOf p (l.take k)) ∧ Below (w.heap.size + 1) w0 wr) (fun _ i _ => l.length - (intOf i).toNat)
  case atStart => exact ⟨0, by omega, rfl, Own.nil _ _, Below.refl _ _⟩
  case round =>
    obtain ⟨k, hk, rfl, hov, hbel⟩ := hrel
    obtain ⟨A1, cap1, rfl, hA1, hrow1, hlt1⟩ := hov.row
    have hsR : w.heap.size + 1 ≤ wr.heap.size := by have := hbel.size; have := hszH.out; omega
    have hbwR : Below w.heap.size w wr := hbw0.out.trans (hbel.mono (by omega))
    by_cases hlt : k < l.length
    · have hltz : (k : Int) < (l.length : Int) := by omega
      obtain ⟨bb, off, rfl, hb, hcs⟩ := RowC.get (hr.below hbwR) hlt
      obtain ⟨x, hx⟩ : ∃ x, l[k] = x := ⟨_, rfl⟩
      obtain ⟨e0, e1, e2, e3, e4⟩ := hcs k hlt
      rw [hx] at e0 e1 e2 e3 e4
      have hst := dotsOf_take (p := p) hlt hx
      clear hcs hx
      have hgX : Gr wr (wr.alloc (.cells #[.int .i64 x.1.1, .int .i64 x.1.2, .int .i64 x.2.1, .int .i64 x.2.2.1, .int .i64 x.2.2.2] 64)) := (Gr.refl _).alloc _
      have hxX := CelAt.new (w := wr) x 64 rfl
      have hcall := hp (wr.alloc (.cells #[.int .i64 x.1.1, .int .i64 x.1.2, .int .i64 x.2.1, .int .i64 x.2.2.1, .int .i64 x.2.2.2] 64)) (hbwR.trans (hgX.below.mono (by omega))) x
      have hcallH : Hid _ := hcall
      clear hcall
      obtain ⟨M, HM⟩ : ∃ M, dotsOf p (l.take k) = M := ⟨_, rfl⟩
      have hMl : M.length ≤ 400 := by rw [← HM]; exact Nat.le_trans (dotsOf_len _ _) (by rw [List.length_take]; omega)
      rw [HM] at hov hst hrow1 ⊢
      clear HM
      obtain ⟨x0, x1, x2, x3, x4, xlt⟩ := (show CelAt _ _ _ from hxX)
      have hovH : Hid (Own wr (w.heap.size + 1) (.slice A1 M.length cap1) M) := hov
      have hbelH : Hid (Below (w.heap.size + 1) w0 wr) := hbel
      clear hov hbel hrow1
      go_wp2
      refine Calls.mono (show Calls _ _ _ _ _ from hcallH.out) ?_
      rintro e w2 ⟨rfl, hg2⟩
      clear hcallH x0 x1 x2 x3 x4
      have hg02 : Gr wr w2 := hgX.trans hg2
      obtain ⟨x0, x1, x2, x3, x4, xlt2⟩ := (show CelAt _ _ _ from hxX.gr hg2)
      cases hq : p x
      · have hst2 : Hid (dotsOf p (l.take (k + 1)) = M) := by show _ = _; rw [hst, hq]; simp
        clear hst
        go_wp2
        go_roundw
        case rel => exact ⟨k + 1, by omega, by go_num, by rw [hst2.out]; exact hovH.out.gr hg02, hbelH.out.trans (hg02.below.mono (by omega))⟩
        case measure => simp [intOf]; omega
      · have hst2 : Hid (dotsOf p (l.take (k + 1)) = M ++ [x.1]) := by show _ = _; rw [hst, hq]; simp
        have hbd : Hid ((M.length + [x.1].length) * 16 ≤ 140737488355328) := by show _ ≤ _; simp only [List.length_cons, List.length_nil]; omega
        clear hst
        go_wp2_with (at_builtin; refine wpList_append_dots _ rfl _ _ rfl (w.heap.size + 1) (.slice A1 M.length cap1) M [x.1] (some ⟨w2.heap.size, 0, none⟩) 1 rfl rfl ?ho ?hr (fun h => by cases h) hbd.out ?hs ?_)
        case ho => exact hovH.out.gr (hg02.alloc _)
        case hr => exact rowNew rfl x.1.1 x.1.2 _
        case hs => have := (hg02.alloc (.cells #[.int .i64 x.1.1, .int .i64 x.1.2] 62)).size; simp at this ⊢; omega
        intro v1 w3 hown1 hgr1 hat1
        have hb3 : Hid (Below (w.heap.size + 1) w0 w3) := hbelH.out.trans (((hg02.alloc _).below.mono (by omega)).trans (Own.grown_below (hovH.out.gr (hg02.alloc _)) hgr1 (by have := (hg02.alloc (.cells #[.int .i64 x.1.1, .int .i64 x.1.2] 62)).size; simp at this ⊢; omega)))
        have hownH : Hid (Own w3 (w.heap.size + 1) v1 (M ++ [x.1])) := hown1
        clear hown1 hgr1 hat1
        go_wp2
        go_roundw
        case rel => exact ⟨k + 1, by omega, by go_num, by rw [hst2.out]; exact hownH.out, hb3.out⟩
        case measure => simp [intOf]; omega
    · have hltz : ¬ (k : Int) < (l.length : Int) := by omega
      have hke : l.take k = l := List.take_of_length_le (by omega)
      rw [hke] at hov hrow1 ⊢
      obtain ⟨M, HM⟩ : ∃ M, dotsOf p l = M := ⟨_, rfl⟩
      have hMl : M.length ≤ 400 := by rw [← HM]; exact Nat.le_trans (dotsOf_len _ _) hl
      rw [HM] at hov hrow1 ⊢
      have HMH : Hid (dotsOf p l = M) := HM
      clear HM hke
      have hmk := make_any M A1 cap1 wr (by unfold maxLen; omega) hA1 hrow1
      have hmkH : Hid _ := hmk
      have hzR := (hz0.below (hbel.mono (by have := hszH.out; omega)))
      clear hmk hov
      go_wp2_with fail
      refine Calls.mono (show Calls _ _ _ _ _ from hmkH.out) ?_
      rintro e w2 ⟨C, cp, rfl, hrow2, hC, hCb, hb2⟩
      clear hmkH
      obtain ⟨z0, z1, z2, z3, z4, zf, zlt⟩ := (show ZAt _ _ from hzR.below hb2)
      have hCn : ∀ a, C = some a → a.block ≠ w.heap.size := fun a ha => by have := hCb a ha; omega
      have hbw2 : Hid (Below w.heap.size w w2) := hbwR.trans (hb2.mono (by omega))
      obtain ⟨F, hF⟩ : ∃ F, makeC M = F := ⟨_, rfl⟩
      rw [hF] at hrow2 ⊢
      have HF : Hid (makeC M = F) := hF
      clear hF
      go_wp2
      rw [HMH.out, HF.out]
      refine bodyPost_ret (v := .tuple #[.agg #[.int .i64 F.c0, .int .i64 F.c1, .int .i64 F.c2, .int .i64 F.c3, .slice C F.l.length cp], .int .i64 (makeE M)]) (by simp [results, Try.results62, go_sem, z0, z1, z2, z3, z4]) rfl ⟨C, cp, rfl, ?_, hC, fun a ha => Nat.le_trans (by omega) (hCb a ha), ?_⟩
      · exact ((((hrow2.setCell _ hCn).setCell _ hCn).setCell _ hCn).setCell _ hCn).setCell _ hCn
      · exact below_set5 hbw2.out (Nat.le_refl _) _ _ _ _ _

end Go.Proofs.Ytjgefnipkaecgac
