/-
  dot.Make: the context that has just the dots of a list.
  table.contextOf and what is handed to it; slices.ContainsFunc at cells, with what table.Del hands in.
  table.clash: has a cell of one list the dot of one of the other, and is another one?
-/
import Derived.Test.YtmoicbmhjmdgdaaGreatM06
import Derived.Test.YtmoicbmhjmdgdaaGreatM05
import Derived.Test.YtmoicbmhjmdgdaaGreatM03
import Derived.Test.YtmoicbmhjmdgdaaGreatM04
namespace Go.Proofs.YtmoicbmhjmdgdaaGreat
open Go.RowKit Go.Sort

/-- No context. -/
def zeroC : Ctx := ⟨0, 0, 0, 0, []⟩
/-- The error that Make tells. -/
def makeE (l : List (Int × Int)) : Int := if 400 < l.length then 2 else if badL l = true then 5 else 0
/-- The context that fold makes of a clock and of dots, sorted. -/
def foldS (c : Ctx) (l : List (Int × Int)) : Ctx := foldTo c (srt l) (srt l).length
/-- The context that Make tells. -/
def makeC (l : List (Int × Int)) : Ctx := if makeE l = 0 then foldS zeroC l else zeroC

theorem srt_mem {l : List (Int × Int)} {x : Int × Int} (h : x ∈ srt l) : x ∈ l := by
 unfold srt at h
 exact (List.mergeSort_perm l _).mem_iff.1 h

set_option maxHeartbeats 2000000 in
theorem make_any (l : List (Int × Int)) (A : Option Addr) (cap : Nat) (w : World) (hl : l.length ≤ maxLen) (hA : A = none → cap = 0) (hr : Row w A l) :
  Calls Tryz.prog 56 #[.slice A l.length cap] w fun e w' => ∃ C cp, e = .returned (.tuple #[.agg #[.int .i64 (makeC l).c0, .int .i64 (makeC l).c1, .int .i64 (makeC l).c2, .int .i64 (makeC l).c3, .slice C (makeC l).l.length cp], .int .i64 (makeE l)]) ∧ Row w' C (makeC l).l ∧ (C = none → cp = 0) ∧ (∀ a, C = some a → w.heap.size ≤ a.block) ∧ Below w.heap.size w w' := by
 unfold maxLen at hl
 have hg0 := Gr.refl (w.alloc (.cells #[.int .i64 0, .int .i64 0, .int .i64 0, .int .i64 0, .slice none 0 0] 45))
 have r0 := box1 hg0 (j := 0) rfl
 have r1 := box1 hg0 (j := 1) rfl
 have r2 := box1 hg0 (j := 2) rfl
 have r3 := box1 hg0 (j := 3) rfl
 have r4 := box1 hg0 (j := 4) rfl
 have rf := fun j => box1f hg0 j
 by_cases h400 : 400 < l.length
 ·have h400z : (400 : Int) < (l.length : Int) := by omega
  have hfin : Hid (makeE l = 2 ∧ makeC l = zeroC) := by
   have : makeE l = 2 := by simp [makeE, h400]
   exact ⟨this, by simp [makeC, this]⟩
  go_enter Tryz.func56, Tryz.ntmps56
  go_wp2
  rw [hfin.out.1, hfin.out.2]
  exact bodyPost_ret (v := .tuple #[.agg #[.int .i64 0, .int .i64 0, .int .i64 0, .int .i64 0, .slice none 0 0], .int .i64 2]) (by simp [results, Tryz.results56, go_sem]) rfl ⟨none, 0, rfl, Or.inl rfl, fun _ => rfl, (fun a ha => by cases ha), (Below.refl _ _).alloc (Nat.le_refl _) _⟩
 ·have h400z : ¬ (400 : Int) < (l.length : Int) := by omega
  clear r0 r1 r2 r3 r4 rf hg0
  go_enter Tryz.func56, Tryz.ntmps56
  go_wp2
  go_loopw [12] (fun i wr => ∃ k : Nat, k ≤ l.length ∧ i = .int .i64 k ∧ Hid (∀ j (h : j < l.length), j < k → rightB l[j] = true) ∧ Gr (w.alloc (.cells #[.int .i64 0, .int .i64 0, .int .i64 0, .int .i64 0, .slice none 0 0] 45)) wr) (fun i _ => l.length - (intOf i).toNat)
  case atStart => exact ⟨0, Nat.zero_le _, rfl, fun j _ hj => absurd hj (Nat.not_lt_zero _), Gr.refl _⟩
  case round =>
   obtain ⟨k, hk, rfl, hno, hgr⟩ := hrel
   have r0 := box1 hgr (j := 0) rfl
   have r1 := box1 hgr (j := 1) rfl
   have r2 := box1 hgr (j := 2) rfl
   have r3 := box1 hgr (j := 3) rfl
   have r4 := box1 hgr (j := 4) rfl
   have rf := fun j => box1f hgr j
   by_cases hlt : k < l.length
   ·have hltz : (k : Int) < (l.length : Int) := by omega
    obtain ⟨b, off, rfl, hb, hcs⟩ := (hr.gr (unbox hgr)).at hlt
    obtain ⟨x, y, hx⟩ : ∃ x y, l[k] = (x, y) := ⟨_, _, rfl⟩
    have e0 := (hcs k hlt).1
    have e1 := (hcs k hlt).2
    rw [hx] at e0 e1
    have hxH : Hid (l[k] = (x, y)) := hx
    clear hcs hx
    cases hq : rightB (x, y)
    ·have hfin : Hid (makeE l = 5 ∧ makeC l = zeroC) := by
      have : makeE l = 5 := by simp [makeE, h400, badL_at hlt hxH.out hq]
      exact ⟨this, by simp [makeC, this]⟩
     go_wp2_with (go_at_call 67; refine (dright_g hq _).mono ?_; rintro e w1 ⟨rfl, hg1⟩; have hgA := (hgr.alloc (.cells #[.int .i64 x, .int .i64 y] 85)).trans hg1; have q0 := box1 hgA (j := 0) rfl; have q1 := box1 hgA (j := 1) rfl; have q2 := box1 hgA (j := 2) rfl; have q3 := box1 hgA (j := 3) rfl; have q4 := box1 hgA (j := 4) rfl; have qf := fun j => box1f hgA j)
     rw [hfin.out.1, hfin.out.2]
     exact bodyPost_ret (v := .tuple #[.agg #[.int .i64 0, .int .i64 0, .int .i64 0, .int .i64 0, .slice none 0 0], .int .i64 5]) (by simp [results, Tryz.results56, go_sem, q0, q1, q2, q3, q4]) rfl ⟨none, 0, rfl, Or.inl rfl, fun _ => rfl, (fun a ha => by cases ha), ((((((unbox hgA).below.setCell (by simp) _).setCell (by simp) _).setCell (by simp) _).setCell (by simp) _).setCell (by simp) _)⟩
    ·go_wp2_with (go_at_call 67; refine (dright_g hq _).mono ?_; rintro e w1 ⟨rfl, hg1⟩)
     go_roundw
     case rel =>
      refine ⟨k + 1, by omega, by go_num, ?_, (hgr.alloc _).trans hg1⟩
      intro j hj hjk
      by_cases e : j = k
      ·subst e; rw [hxH.out]; exact hq
      ·exact hno j hj (by omega)
     case measure => simp [intOf]; omega
   ·have hltz : ¬ (k : Int) < (l.length : Int) := by omega
    have hbad : badL l = false := badL_not fun j hj => hno j hj (by omega)
    have hfin : Hid (makeE l = 0 ∧ makeC l = foldS zeroC l) := by
     have : makeE l = 0 := by simp [makeE, h400, hbad]
     exact ⟨this, by simp [makeC, this]⟩
    have hall : Hid (∀ x ∈ srt l, rightB x = true) := fun x hx => badL_all hbad x (srt_mem hx)
    clear hbad r0 r1 r2 r3 r4 rf
    have hris := rising_any l [] A none cap 0 wr (hr.gr (unbox hgr)) (Or.inl rfl) hA (fun _ => rfl) (by omega) (by simp)
    simp only [List.length_nil, List.append_nil] at hris
    have hrisH : Hid _ := hris
    clear hris
    go_wp2_with fail
    refine Calls.mono (show Calls _ _ _ _ _ from hrisH.out) ?_
    rintro e w1 ⟨C1, cp1, rfl, hrow1, hb1⟩
    clear hrisH
    have hfold := fold_any zeroC (srt l) C1 cp1 w1 rfl (by decide) (by rw [srt_length]; omega) hall.out hrow1
    change Calls Tryz.prog 63 #[.agg #[.int .i64 0, .int .i64 0, .int .i64 0, .int .i64 0], .slice C1 (srt l).length cp1] w1 _ at hfold
    have hfoldH : Hid _ := hfold
    clear hfold
    go_wp2_with fail
    refine Calls.mono (show Calls _ _ _ _ _ from hfoldH.out) ?_
    rintro e w2 ⟨C2, cp2, rfl, hrow2, hC2, hCb, hb2⟩
    clear hfoldH
    obtain ⟨F, hF⟩ : ∃ F, foldTo zeroC (srt l) (srt l).length = F := ⟨_, rfl⟩
    rw [hF] at hrow2 ⊢
    have HF : Hid (foldS zeroC l = F) := hF
    clear hF
    have hsz := hgr.size
    simp only [World.size_alloc] at hsz
    have hb2' : Below (w.heap.size + 1) wr w2 := (hb1.mono (by omega)).trans (hb2.mono (by have := hb1.size; omega))
    have s0 := (hb2'.cell (p := ⟨w.heap.size, 0, none⟩) (by simp)).trans (box1 hgr (j := 0) rfl)
    have s1 := (hb2'.cell (p := ⟨w.heap.size, 1, none⟩) (by simp)).trans (box1 hgr (j := 1) rfl)
    have s2 := (hb2'.cell (p := ⟨w.heap.size, 2, none⟩) (by simp)).trans (box1 hgr (j := 2) rfl)
    have s3 := (hb2'.cell (p := ⟨w.heap.size, 3, none⟩) (by simp)).trans (box1 hgr (j := 3) rfl)
    have s4 := (hb2'.cell (p := ⟨w.heap.size, 4, none⟩) (by simp)).trans (box1 hgr (j := 4) rfl)
    have sf : ∀ j, w2.frozen? ⟨w.heap.size, j, none⟩ = false := fun j => (hb2'.frozen (p := ⟨w.heap.size, j, none⟩) (by simp)).trans (box1f hgr j)
    have hbw : Hid (Below w.heap.size w w2) := (unbox hgr).below.trans (hb2'.mono (by omega))
    have hCn : ∀ a, C2 = some a → a.block ≠ w.heap.size := fun a ha => by have := hCb a ha; have := hb1.size; omega
    have hw1 : w.heap.size ≤ w1.heap.size := by have := hb1.size; omega
    clear hb2' hb1 hb2
    go_wp2
    rw [hfin.out.1, hfin.out.2, HF.out]
    refine bodyPost_ret (v := .tuple #[.agg #[.int .i64 F.c0, .int .i64 F.c1, .int .i64 F.c2, .int .i64 F.c3, .slice C2 F.l.length cp2], .int .i64 0]) (by simp [results, Tryz.results56, go_sem, s0, s1, s2, s3, s4]) rfl ⟨C2, cp2, rfl, ?_, hC2, fun a ha => Nat.le_trans (by omega) (hCb a ha), ?_⟩
    ·exact ((((hrow2.setCell _ hCn).setCell _ hCn).setCell _ hCn).setCell _ hCn).setCell _ hCn
    ·exact ((((hbw.out.setCell (Nat.le_refl _) _).setCell (Nat.le_refl _) _).setCell (Nat.le_refl _) _).setCell (Nat.le_refl _) _).setCell (Nat.le_refl _) _
end Go.Proofs.YtmoicbmhjmdgdaaGreat

namespace Go.Proofs.YtmoicbmhjmdgdaaGreat
open Go.RowKit Go.Sort

/-- The dots of the cells that fit. -/
def dotsOf (p : Cel → Bool) (l : List Cel) : List (Int × Int) := (l.filter p).map (·.1)

/-- A cell of a row and column. -/
def fitP (key col : Int) (x : Cel) : Bool := decide (x.2.1 = key) && decide (x.2.2.1 = col)
/-- A cell of a row. -/
def fitD (key : Int) (x : Cel) : Bool := decide (x.2.1 = key)

set_option maxHeartbeats 1000000 in
theorem fitP_any (key col : Int) (p q : Nat) (x : Cel) (w : World) (hp : p < w.heap.size) (hq : q < w.heap.size) (kp : w.cell? ⟨p, 0, none⟩ = some (.int .i64 key)) (kq : w.cell? ⟨q, 0, none⟩ = some (.int .i64 col)) :
  Calls Tryz.prog 55 #[.agg #[.int .i64 x.1.1, .int .i64 x.1.2, .int .i64 x.2.1, .int .i64 x.2.2.1, .int .i64 x.2.2.2], .pointer (some ⟨p, 0, none⟩), .pointer (some ⟨q, 0, none⟩)] w fun e w' => e = .returned (.bool (fitP key col x)) ∧ Gr w w' := by
 by_cases h1 : x.2.1 = key
 ·by_cases h2 : x.2.2.1 = col
  ·have e : fitP key col x = true := by simp [fitP, h1, h2]
   rw [e]; clear e
   go_enter Tryz.func55, Tryz.ntmps55
   go_wp2
   go_ret
   exact ⟨rfl, (Gr.refl _).alloc _⟩
  ·have e : fitP key col x = false := by simp [fitP, h2]
   rw [e]; clear e
   go_enter Tryz.func55, Tryz.ntmps55
   go_wp2
   go_ret
   exact ⟨by simpa using h2, (Gr.refl _).alloc _⟩
 ·have e : fitP key col x = false := by simp [fitP, h1]
  rw [e]; clear e
  go_enter Tryz.func55, Tryz.ntmps55
  go_wp2
  go_ret
  exact ⟨rfl, (Gr.refl _).alloc _⟩

set_option maxHeartbeats 1000000 in
theorem fitD_any (key : Int) (p : Nat) (x : Cel) (w : World) (hp : p < w.heap.size) (kp : w.cell? ⟨p, 0, none⟩ = some (.int .i64 key)) :
  Calls Tryz.prog 58 #[.agg #[.int .i64 x.1.1, .int .i64 x.1.2, .int .i64 x.2.1, .int .i64 x.2.2.1, .int .i64 x.2.2.2], .pointer (some ⟨p, 0, none⟩)] w fun e w' => e = .returned (.bool (fitD key x)) ∧ Gr w w' := by
 by_cases h1 : x.2.1 = key
 ·have e : fitD key x = true := by simp [fitD, h1]
  rw [e]; clear e
  go_enter Tryz.func58, Tryz.ntmps58
  go_wp2
  go_ret
  exact ⟨by simp [h1], (Gr.refl _).alloc _⟩
 ·have e : fitD key x = false := by simp [fitD, h1]
  rw [e]; clear e
  go_enter Tryz.func58, Tryz.ntmps58
  go_wp2
  go_ret
  exact ⟨by simpa using h1, (Gr.refl _).alloc _⟩

/-- A function of cells that reads alone: what it answers, in whatever has grown of w. -/
def PredG (g : Nat) (lb : Array Value) (p : Cel → Bool) (w : World) : Prop := ∀ W, Gr w W → ∀ x : Cel, Calls Tryz.prog g (#[.agg #[.int .i64 x.1.1, .int .i64 x.1.2, .int .i64 x.2.1, .int .i64 x.2.2.1, .int .i64 x.2.2.2]] ++ lb) W fun e w' => e = .returned (.bool (p x)) ∧ Gr W w'

theorem predD (key : Int) (p : Nat) (w : World) (hp : p < w.heap.size) (kp : w.cell? ⟨p, 0, none⟩ = some (.int .i64 key)) : PredG 58 #[.pointer (some ⟨p, 0, none⟩)] (fitD key) w :=
 fun W hg x => fitD_any key p x W (Nat.lt_of_lt_of_le hp hg.size) ((hg.cell (p := ⟨p, 0, none⟩) hp).trans kp)

set_option maxHeartbeats 1000000 in
theorem indexFuncC_any (p : Cel → Bool) (g : Nat) (lb : Array Value) (hfn : ∀ args w, (callFunc g args).run Tryz.prog w = .ok (.enter g args) w) (l : List Cel) (A : Option Addr) (cap : Nat) (w : World) (hl : l.length ≤ maxLen) (hr : RowC w A l) (hp : PredG g lb p w) :
  Calls Tryz.prog 81 #[.slice A l.length cap, .func (.func g) #[] lb] w fun e w' => ∃ r : Int, e = .returned (.int .i64 r) ∧ Hid (decide (0 ≤ r) = l.any p) ∧ Gr w w' := by
 unfold maxLen at hl
 go_enter Tryz.func81, Tryz.ntmps81
 go_wp2
 go_loopw [8] (fun i wr => ∃ k : Nat, k ≤ l.length ∧ i = .int .i64 k ∧ Hid (∀ j (h : j < l.length), j < k → p l[j] = false) ∧ Gr w wr) (fun i _ => l.length - (intOf i).toNat)
 case atStart => exact ⟨0, Nat.zero_le _, rfl, fun j _ hj => absurd hj (Nat.not_lt_zero _), Gr.refl _⟩
 case round =>
  obtain ⟨k, hk, rfl, hno, hgr⟩ := hrel
  by_cases hlt : k < l.length
  ·have hltz : (k : Int) < (l.length : Int) := by omega
   obtain ⟨bb, off, rfl, hb, hcs⟩ := RowC.get (hr.gr hgr) hlt
   obtain ⟨x, hx⟩ : ∃ x, l[k] = x := ⟨_, rfl⟩
   obtain ⟨e0, e1, e2, e3, e4⟩ := hcs k hlt
   rw [hx] at e0 e1 e2 e3 e4
   have hxH : Hid (l[k] = x) := hx
   clear hcs hx
   have hcall := hp wr hgr x
   have hcallH : Hid _ := hcall
   clear hcall
   go_wp2
   refine Calls.mono (show Calls _ _ _ _ _ from hcallH.out) ?_
   rintro e w2 ⟨rfl, hg2⟩
   clear hcallH
   cases hq : p x
   ·go_wp2
    go_roundw
    case rel =>
     refine ⟨k + 1, by omega, by go_num, ?_, hgr.trans hg2⟩
     intro j hj hjk
     by_cases e : j = k
     ·subst e; rw [hxH.out]; exact hq
     ·exact hno j hj (by omega)
    case measure => simp [intOf]; omega
   ·have hfin : Hid (decide ((0 : Int) ≤ (k : Int)) = l.any p) := by
     have : l.any p = true := by
      rw [List.any_eq_true]
      exact ⟨l[k], List.getElem_mem hlt, by rw [hxH.out, hq]⟩
     show decide _ = _
     rw [this]; simp
    go_wp2
    go_ret
    exact ⟨_, rfl, hfin, hgr.trans hg2⟩
  ·have hltz : ¬ (k : Int) < (l.length : Int) := by omega
   have hfin : Hid (decide ((0 : Int) ≤ -1) = l.any p) := by
    have : l.any p = false := by
     rw [List.any_eq_false]
     intro x hx
     obtain ⟨j, hj, rfl⟩ := List.getElem_of_mem hx
     rw [hno j hj (by omega)]; simp
    show decide _ = _
    rw [this]; simp
   go_wp2
   go_ret
   exact ⟨_, rfl, hfin, hgr⟩

set_option maxHeartbeats 1000000 in
theorem containsFuncC_any (p : Cel → Bool) (g : Nat) (lb : Array Value) (hfn : ∀ args w, (callFunc g args).run Tryz.prog w = .ok (.enter g args) w) (l : List Cel) (A : Option Addr) (cap : Nat) (w : World) (hl : l.length ≤ maxLen) (hr : RowC w A l) (hp : PredG g lb p w) :
  Calls Tryz.prog 59 #[.slice A l.length cap, .func (.func g) #[] lb] w fun e w' => e = .returned (.bool (l.any p)) ∧ Gr w w' := by
 go_enter Tryz.func59, Tryz.ntmps59
 go_wp2_with fail
 refine (indexFuncC_any p g lb hfn l A cap _ hl hr hp).mono ?_
 rintro e w' ⟨r, rfl, hrr, hg⟩
 go_wp2
 go_ret
 exact ⟨by rw [← hrr.out]; rfl, hg⟩

theorem dotsOf_take {p : Cel → Bool} {l : List Cel} {k : Nat} (h : k < l.length) {x : Cel} (hx : l[k] = x) : dotsOf p (l.take (k + 1)) = dotsOf p (l.take k) ++ (if p x then [x.1] else []) := by
 unfold dotsOf
 rw [List.take_succ_eq_append_getElem h, List.filter_append, List.map_append, hx]
 cases hq : p x <;> simp [hq]
theorem dotsOf_len (p : Cel → Bool) (l : List Cel) : (dotsOf p l).length ≤ l.length := by
 unfold dotsOf
 rw [List.length_map]
 exact List.length_filter_le _ _

set_option maxHeartbeats 2000000 in
theorem contextOf_any (p : Cel → Bool) (g : Nat) (lb : Array Value) (hfn : ∀ args w, (callFunc g args).run Tryz.prog w = .ok (.enter g args) w) (l : List Cel) (A : Option Addr) (cap : Nat) (w : World) (hl : l.length ≤ 400) (hr : RowC w A l) (hp : ∀ W, Below w.heap.size w W → ∀ x : Cel, Calls Tryz.prog g (#[.agg #[.int .i64 x.1.1, .int .i64 x.1.2, .int .i64 x.2.1, .int .i64 x.2.2.1, .int .i64 x.2.2.2]] ++ lb) W fun e w' => e = .returned (.bool (p x)) ∧ Gr W w') :
  Calls Tryz.prog 54 #[.slice A l.length cap, .func (.func g) #[] lb] w fun e w' => ∃ C cp, e = .returned (.tuple #[.agg #[.int .i64 (makeC (dotsOf p l)).c0, .int .i64 (makeC (dotsOf p l)).c1, .int .i64 (makeC (dotsOf p l)).c2, .int .i64 (makeC (dotsOf p l)).c3, .slice C (makeC (dotsOf p l)).l.length cp], .int .i64 (makeE (dotsOf p l))]) ∧ Row w' C (makeC (dotsOf p l)).l ∧ (C = none → cp = 0) ∧ (∀ a, C = some a → w.heap.size ≤ a.block) ∧ Below w.heap.size w w' := by
 have hz0 : ZAt (w.alloc (.cells #[.int .i64 0, .int .i64 0, .int .i64 0, .int .i64 0, .slice none 0 0] 45)) w.heap.size := ZAt.new w 45 rfl
 have hbw0 : Hid (Below w.heap.size w (w.alloc (.cells #[.int .i64 0, .int .i64 0, .int .i64 0, .int .i64 0, .slice none 0 0] 45))) := ((Gr.refl w).alloc _).below
 have hsz0 : (w.alloc (.cells #[.int .i64 0, .int .i64 0, .int .i64 0, .int .i64 0, .slice none 0 0] 45)).heap.size = w.heap.size + 1 := by simp
 go_enter Tryz.func54, Tryz.ntmps54
 go_wp2
 generalize w.alloc (.cells #[.int .i64 0, .int .i64 0, .int .i64 0, .int .i64 0, .slice none 0 0] 45) = w0 at hz0 hbw0 hsz0 ⊢
 have hszH : Hid (w0.heap.size = w.heap.size + 1) := hsz0
 clear hsz0
 go_loopw [6, 11] (fun v i wr => ∃ k : Nat, k ≤ l.length ∧ i = .int .i64 k ∧ Own wr (w.heap.size + 1) v (dotsOf p (l.take k)) ∧ Below (w.heap.size + 1) w0 wr) (fun _ i _ => l.length - (intOf i).toNat)
 case atStart => exact ⟨0, by omega, rfl, Own.nil _ _, Below.refl _ _⟩
 case round =>
  obtain ⟨k, hk, rfl, hov, hbel⟩ := hrel
  obtain ⟨A1, cap1, rfl, hA1, hrow1, hlt1⟩ := hov.row
  have hsR : w.heap.size + 1 ≤ wr.heap.size := by have := hbel.size; have := hszH.out; omega
  have hbwR : Below w.heap.size w wr := hbw0.out.trans (hbel.mono (by omega))
  by_cases hlt : k < l.length
  ·have hltz : (k : Int) < (l.length : Int) := by omega
   obtain ⟨bb, off, rfl, hb, hcs⟩ := RowC.get (hr.below hbwR) hlt
   obtain ⟨x, hx⟩ : ∃ x, l[k] = x := ⟨_, rfl⟩
   obtain ⟨e0, e1, e2, e3, e4⟩ := hcs k hlt
   rw [hx] at e0 e1 e2 e3 e4
   have hst := dotsOf_take (p := p) hlt hx
   clear hcs hx
   have hgX : Gr wr (wr.alloc (.cells #[.int .i64 x.1.1, .int .i64 x.1.2, .int .i64 x.2.1, .int .i64 x.2.2.1, .int .i64 x.2.2.2] 87)) := (Gr.refl _).alloc _
   have hxX := CelAt.new (w := wr) x 87 rfl
   have hcall := hp (wr.alloc (.cells #[.int .i64 x.1.1, .int .i64 x.1.2, .int .i64 x.2.1, .int .i64 x.2.2.1, .int .i64 x.2.2.2] 87)) (hbwR.trans (hgX.below.mono (by omega))) x
   have hcallH : Hid _ := hcall
   clear hcall
   obtain ⟨M, HM⟩ : ∃ M, dotsOf p (l.take k) = M := ⟨_, rfl⟩
   have hMl : M.length ≤ 400 := by rw [← HM]; exact Nat.le_trans (dotsOf_len _ _) (by rw [List.length_take]; omega)
   rw [HM] at hov hst hrow1 ⊢
   clear HM
   obtain ⟨x0, x1, x2, x3, x4, xlt⟩ := (show CelAt _ _ _ from hxX)
   have hovH : Hid (Own wr (w.heap.size + 1) (.slice A1 M.length cap1) M) := hov
   have hbelH : Hid (Below (w.heap.size + 1) w0 wr) := hbel
   clear hov hbel hrow1
   go_wp2
   refine Calls.mono (show Calls _ _ _ _ _ from hcallH.out) ?_
   rintro e w2 ⟨rfl, hg2⟩
   clear hcallH x0 x1 x2 x3 x4
   have hg02 : Gr wr w2 := hgX.trans hg2
   obtain ⟨x0, x1, x2, x3, x4, xlt2⟩ := (show CelAt _ _ _ from hxX.gr hg2)
   cases hq : p x
   ·have hst2 : Hid (dotsOf p (l.take (k + 1)) = M) := by show _ = _; rw [hst, hq]; simp
    clear hst
    go_wp2
    go_roundw
    case rel => exact ⟨k + 1, by omega, by go_num, by rw [hst2.out]; exact hovH.out.gr hg02, hbelH.out.trans (hg02.below.mono (by omega))⟩
    case measure => simp [intOf]; omega
   ·have hst2 : Hid (dotsOf p (l.take (k + 1)) = M ++ [x.1]) := by show _ = _; rw [hst, hq]; simp
    have hbd : Hid ((M.length + [x.1].length) * 16 ≤ 140737488355328) := by show _ ≤ _; simp only [List.length_cons, List.length_nil]; omega
    clear hst
    go_wp2_with (at_builtin; refine wpList_append_dots _ rfl _ _ rfl (w.heap.size + 1) (.slice A1 M.length cap1) M [x.1] (some ⟨w2.heap.size, 0, none⟩) 1 rfl rfl ?ho ?hr (fun h => by cases h) hbd.out ?hs ?_)
    case ho => exact hovH.out.gr (hg02.alloc _)
    case hr => exact rowNew rfl x.1.1 x.1.2 _
    case hs => have := (hg02.alloc (.cells #[.int .i64 x.1.1, .int .i64 x.1.2] 85)).size; simp at this ⊢; omega
    intro v1 w3 hown1 hgr1 hat1
    have hb3 : Hid (Below (w.heap.size + 1) w0 w3) := hbelH.out.trans (((hg02.alloc _).below.mono (by omega)).trans (Own.grown_below (hovH.out.gr (hg02.alloc _)) hgr1 (by have := (hg02.alloc (.cells #[.int .i64 x.1.1, .int .i64 x.1.2] 85)).size; simp at this ⊢; omega)))
    have hownH : Hid (Own w3 (w.heap.size + 1) v1 (M ++ [x.1])) := hown1
    clear hown1 hgr1 hat1
    go_wp2
    go_roundw
    case rel => exact ⟨k + 1, by omega, by go_num, by rw [hst2.out]; exact hownH.out, hb3.out⟩
    case measure => simp [intOf]; omega
  ·have hltz : ¬ (k : Int) < (l.length : Int) := by omega
   have hke : l.take k = l := List.take_of_length_le (by omega)
   rw [hke] at hov hrow1 ⊢
   obtain ⟨M, HM⟩ : ∃ M, dotsOf p l = M := ⟨_, rfl⟩
   have hMl : M.length ≤ 400 := by rw [← HM]; exact Nat.le_trans (dotsOf_len _ _) hl
   rw [HM] at hov hrow1 ⊢
   have HMH : Hid (dotsOf p l = M) := HM
   clear HM hke
   have hmk := make_any M A1 cap1 wr (by unfold maxLen; omega) hA1 hrow1
   have hmkH : Hid _ := hmk
   have hzR := (hz0.below (hbel.mono (by have := hszH.out; omega)))
   clear hmk hov
   go_wp2_with fail
   refine Calls.mono (show Calls _ _ _ _ _ from hmkH.out) ?_
   rintro e w2 ⟨C, cp, rfl, hrow2, hC, hCb, hb2⟩
   clear hmkH
   obtain ⟨z0, z1, z2, z3, z4, zf, zlt⟩ := (show ZAt _ _ from hzR.below hb2)
   have hCn : ∀ a, C = some a → a.block ≠ w.heap.size := fun a ha => by have := hCb a ha; omega
   have hbw2 : Hid (Below w.heap.size w w2) := hbwR.trans (hb2.mono (by omega))
   obtain ⟨F, hF⟩ : ∃ F, makeC M = F := ⟨_, rfl⟩
   rw [hF] at hrow2 ⊢
   have HF : Hid (makeC M = F) := hF
   clear hF
   go_wp2
   rw [HMH.out, HF.out]
   refine bodyPost_ret (v := .tuple #[.agg #[.int .i64 F.c0, .int .i64 F.c1, .int .i64 F.c2, .int .i64 F.c3, .slice C F.l.length cp], .int .i64 (makeE M)]) (by simp [results, Tryz.results54, go_sem, z0, z1, z2, z3, z4]) rfl ⟨C, cp, rfl, ?_, hC, fun a ha => Nat.le_trans (by omega) (hCb a ha), ?_⟩
   ·exact ((((hrow2.setCell _ hCn).setCell _ hCn).setCell _ hCn).setCell _ hCn).setCell _ hCn
   ·exact below_set5 hbw2.out (Nat.le_refl _) _ _ _ _ _

end Go.Proofs.YtmoicbmhjmdgdaaGreat

namespace Go.Proofs.YtmoicbmhjmdgdaaGreat
open Go.RowKit Go.Sort

/-- One of the cells has the dot of x, and is another one. -/
def clP (l : List Cel) (x : Cel) : Bool := l.any fun y => decide (y.1 = x.1) && !celEq y x

theorem asc_uniq {l : List Cel} (hs : Asc l) {i j : Nat} (hi : i < l.length) (hj : j < l.length) (h : l[i].1 = l[j].1) : i = j := by
 rcases Nat.lt_trichotomy i j with h1 | h1 | h1
 ·have := (List.pairwise_iff_getElem.1 hs) i j hi hj h1
  exact absurd h (befT_ne this)
 ·exact h1
 ·have := (List.pairwise_iff_getElem.1 hs) j i hj hi h1
  exact absurd h.symm (befT_ne this)
theorem clP_at {l : List Cel} {x : Cel} (hs : Asc l) {i : Nat} (hi : i < l.length) (h : l[i].1 = x.1) : clP l x = !celEq l[i] x := by
 cases hq : celEq l[i] x
 ·unfold clP
  show _ = true
  rw [List.any_eq_true]
  exact ⟨l[i], List.getElem_mem hi, by rw [hq]; simpa using h⟩
 ·unfold clP
  show _ = false
  rw [List.any_eq_false]
  intro y hy
  obtain ⟨j, hj, rfl⟩ := List.getElem_of_mem hy
  by_cases hd : l[j].1 = x.1
  ·obtain rfl := asc_uniq hs hi hj (h.trans hd.symm)
   rw [hq]; simp
  ·simp [hd]
theorem clP_none {l : List Cel} {x : Cel} (h : memD l x.1 = false) : clP l x = false := by
 unfold memD at h
 rw [List.any_eq_false] at h
 unfold clP
 rw [List.any_eq_false]
 intro y hy
 have := h y hy
 simp at this ⊢
 intro he
 exact absurd he this

set_option maxRecDepth 100000 in
set_option maxHeartbeats 1000000 in
theorem clash1_any (l : List Cel) (B : Option Addr) (cb : Nat) (p : Nat) (x : Cel) (w : World) (hl : l.length ≤ 400) (hp : p < w.heap.size) (kp : w.cell? ⟨p, 0, none⟩ = some (.slice B l.length cb)) (hr : RowC w B l) (hs : Asc l) :
  Calls Tryz.prog 60 #[.agg #[.int .i64 x.1.1, .int .i64 x.1.2, .int .i64 x.2.1, .int .i64 x.2.2.1, .int .i64 x.2.2.2], .pointer (some ⟨p, 0, none⟩)] w fun e w' => e = .returned (.bool (clP l x)) ∧ Gr w w' := by
 have mixed : Tryz.prog.follows .mixedOrders = true := by kernel_rfl
 have hx0 : CelAt (w.alloc (.cells #[.int .i64 x.1.1, .int .i64 x.1.2, .int .i64 x.2.1, .int .i64 x.2.2.1, .int .i64 x.2.2.2] 87)) w.heap.size x := CelAt.new x 87 rfl
 have hg0 : Gr w (w.alloc (.cells #[.int .i64 x.1.1, .int .i64 x.1.2, .int .i64 x.2.1, .int .i64 x.2.2.1, .int .i64 x.2.2.2] 87)) := (Gr.refl w).alloc _
 go_enter Tryz.func60, Tryz.ntmps60
 go_wp2_with fail
 refine (bsearch_any l B cb x _ hl (hr.gr hg0) hs).mono ?_
 rintro e w1 ⟨i, rfl, hf, hg1⟩
 have hgW : Gr w w1 := hg0.trans hg1
 have kp1 : w1.cell? ⟨p, 0, none⟩ = some (.slice B l.length cb) := (hgW.cell (p := ⟨p, 0, none⟩) hp).trans kp
 have hp1 : p < w1.heap.size := Nat.lt_of_lt_of_le hp hgW.size
 have hx1 := hx0.gr hg1
 have hr1 := hr.gr hgW
 clear hx0 hg0 hg1 kp hr
 cases hm : memD l x.1
 ·have hfin : Hid (clP l x = false) := clP_none hm
  clear hf
  go_wp2
  refine wp_region_quiet_grown mixed (by kernel_rfl) ?_
  repeat (go_big_quiet_step (fail))
  refine wpQuiet_nil ?_
  rintro _ ⟨⟨nq2, osq2⟩, rfl⟩
  go_wp2
  go_ret
  rw [hfin.out]
  exact ⟨rfl, hgW.trans ⟨nq2, osq2, rfl⟩⟩
 ·obtain ⟨hi, hd⟩ := hf hm
  have hfin : Hid (clP l x = !celEq l[i] x) := clP_at hs hi hd
  have hiz : (i : Int) < (l.length : Int) := by omega
  obtain ⟨bb, off, rfl, hb, hcs⟩ := RowC.get hr1 hi
  obtain ⟨y, hy⟩ : ∃ y, l[i] = y := ⟨_, rfl⟩
  obtain ⟨e0, e1, e2, e3, e4⟩ := hcs i hi
  rw [hy] at e0 e1 e2 e3 e4 hfin
  have q0 := cell_grown (a := ⟨bb, off + i * 5, none⟩) hb e0
  have q1 := cell_grown (a := ⟨bb, off + i * 5 + 1, none⟩) hb e1
  have q2 := cell_grown (a := ⟨bb, off + i * 5 + 2, none⟩) hb e2
  have q3 := cell_grown (a := ⟨bb, off + i * 5 + 3, none⟩) hb e3
  have q4 := cell_grown (a := ⟨bb, off + i * 5 + 4, none⟩) hb e4
  have kG := cell_grown (a := ⟨p, 0, none⟩) hp1 kp1
  obtain ⟨x0, x1, x2, x3, x4⟩ := hx1.G
  have hE := neqCel
  have hG := guardCel
  clear e0 e1 e2 e3 e4 hcs hf hd hy hs
  go_wp2
  refine wp_region_quiet_grown mixed (by kernel_rfl) ?_
  repeat (go_big_quiet_step (fail))
  refine wpQuiet_nil ?_
  rintro _ ⟨⟨nq2, osq2⟩, rfl⟩
  go_wp2
  go_ret
  rw [hfin.out]
  exact ⟨rfl, hgW.trans ⟨nq2, osq2, rfl⟩⟩

set_option maxRecDepth 100000 in
set_option maxHeartbeats 1000000 in
theorem clash_any (a b : List Cel) (A B : Option Addr) (ca cb : Nat) (w : World) (hal : a.length ≤ 400) (hbl : b.length ≤ 400) (hra : RowC w A a) (hrb : RowC w B b) (hs : Asc b) :
  Calls Tryz.prog 37 #[.slice A a.length ca, .slice B b.length cb] w fun e w' => e = .returned (.bool (a.any (clP b))) ∧ Gr w w' := by
 have hg0 : Gr w (w.alloc (.cells #[.slice B b.length cb] 46)) := (Gr.refl w).alloc _
 have k0 : (w.alloc (.cells #[.slice B b.length cb] 46)).cell? ⟨w.heap.size, 0, none⟩ = some (.slice B b.length cb) := box1 (Gr.refl _) rfl
 have hlt0 : w.heap.size < (w.alloc (.cells #[.slice B b.length cb] 46)).heap.size := by simp
 have hpr : PredG 60 #[.pointer (some ⟨w.heap.size, 0, none⟩)] (clP b) (w.alloc (.cells #[.slice B b.length cb] 46)) := fun W hg x =>
  clash1_any b B cb w.heap.size x W hbl (Nat.lt_of_lt_of_le hlt0 hg.size) ((hg.cell (p := ⟨w.heap.size, 0, none⟩) hlt0).trans k0) (hrb.gr (hg0.trans hg)) hs
 have hc := containsFuncC_any (clP b) 60 #[.pointer (some ⟨w.heap.size, 0, none⟩)] (enters_of Tryz.func60 (by kernel_rfl) rfl) a A ca _ (by unfold maxLen; omega) (hra.gr hg0) hpr
 have hcH : Hid _ := hc
 clear hc hpr
 go_enter Tryz.func37, Tryz.ntmps37
 go_wp2_with fail
 refine Calls.mono (show Calls _ _ _ _ _ from hcH.out) ?_
 rintro e w1 ⟨rfl, hg1⟩
 go_wp2
 go_ret
 exact ⟨rfl, hg0.trans hg1⟩

end Go.Proofs.YtmoicbmhjmdgdaaGreat
