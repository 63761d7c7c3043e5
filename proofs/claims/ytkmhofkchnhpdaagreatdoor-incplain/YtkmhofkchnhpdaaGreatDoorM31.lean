/-
  inc.copySteps: the same steps, in memory of their own.
  inc.orderOfFirst: the order of the first rows of two lists.
-/
import Derived.Test.YtkmhofkchnhpdaaGreatDoorM30
import Derived.Test.YtkmhofkchnhpdaaGreatDoorM27
import Derived.Test.YtkmhofkchnhpdaaGreatDoorM04
namespace Go.Proofs.YtkmhofkchnhpdaaGreatDoor
open Go.RowKit Go.Sort

theorem widsF_short : ∀ (q : List Stp) (ah : List Int), (∀ x ∈ ah, 0 ≤ x ∧ x ≤ 8) → ah.length + q.length ≤ 8 → (widsF q ah).isSome = true → ∀ s ∈ q, s.l.length ≤ 8
  | [], _, _, _, _ => fun s hs => by cases hs
  | s :: t, ah, h1, h2, h3 => by
    have h3' : (if widW s ah = 0 then none else widsF t (ah ++ [widW s ah])).isSome = true := h3
    by_cases e : widW s ah = 0
    · rw [if_pos e] at h3'; cases h3'
    · rw [if_neg e] at h3'
      have hb := widW_b s h1
      have ih := widsF_short t (ah ++ [widW s ah]) (fun x hx => by
        rcases List.mem_append.1 hx with k | k
        · exact h1 x k
        · rw [List.mem_singleton.1 k]; exact hb) (by simp at h2 ⊢; omega) h3'
      intro u hu
      rcases List.mem_cons.1 hu with k | k
      · subst k
        simp at h2
        exact (widW_fine e (by omega) h1).l.1
      · exact ih u k
theorem errQ_short {q : List Stp} (h : errQ q = 0) : q.length ≤ 8 ∧ ∀ s ∈ q, s.l.length ≤ 8 := by
  obtain ⟨h1, h2, h3⟩ := errQ_wids h
  exact ⟨h2, widsF_short q [] (fun x hx => by cases hx) (by simpa using h2) h3⟩
/-- Steps that lie in blocks from n on, below m. -/
def NewS (n m : Nat) (C : Option Addr) (q : List Stp) : Prop := (∀ a, C = some a → n ≤ a.block ∧ a.block < m) ∧ ∀ s ∈ q, ∀ a, s.p = some a → n ≤ a.block ∧ a.block < m
theorem row_litS {W : World} {s : Stp} {C : Option Addr} {c : Nat} : RowG encQ 7 (W.alloc (.cells #[.int .i64 s.k, .int .i64 s.a, .int .i64 s.b, .int .i64 s.c, .int .i64 s.o, .int .i64 s.v, .slice C s.l.length c] 41)) (some ⟨W.heap.size, 0, none⟩) [{ s with p := C, n := c }] := by
  refine Or.inr ⟨W.heap.size, 0, rfl, by simp, fun j hj i hi => ?_⟩
  obtain rfl : j = 0 := by simp at hj; omega
  rw [show 0 + 0 * 7 + i = i by omega]
  match i, hi with
  | 0, _ => exact box1 (w := W) (Gr.refl _) rfl
  | 1, _ => exact box1 (w := W) (Gr.refl _) rfl
  | 2, _ => exact box1 (w := W) (Gr.refl _) rfl
  | 3, _ => exact box1 (w := W) (Gr.refl _) rfl
  | 4, _ => exact box1 (w := W) (Gr.refl _) rfl
  | 5, _ => exact box1 (w := W) (Gr.refl _) rfl
  | 6, _ => exact box1 (w := W) (Gr.refl _) rfl
theorem copy_take {q : List Stp} {k : Nat} (h : k < q.length) {s s' : Stp} (hs : q[k] = s) {r : List Stp} (hr : r.map bare = (q.take k).map bare) (hb : bare s' = bare s) : (r ++ [s']).map bare = (q.take (k + 1)).map bare := by
  rw [List.take_succ_eq_append_getElem h, List.map_append, List.map_append, hr, hs]
  simp [hb]

set_option maxRecDepth 100000 in
set_option maxHeartbeats 2000000 in
theorem copyS_any (q : List Stp) (A : Option Addr) (ca : Nat) (w : World) (hl : q.length ≤ 8) (hs : ∀ s ∈ q, s.l.length ≤ 8) (hq : Stps w A q) :
    Calls Tryz.prog 13 #[.slice A q.length ca] w fun e w' => ∃ (q' : List Stp) (C : Option Addr) (k : Nat), e = .returned (.slice C q'.length k) ∧ q'.map bare = q.map bare ∧ Stps w' C q' ∧ (C = none → k = 0) ∧ NewS w.heap.size w'.heap.size C q' ∧ Below w.heap.size w w' := by
  have hH : Hid (Stps w A q ∧ ∀ s ∈ q, s.l.length ≤ 8) := ⟨hq, hs⟩
  clear hq hs
  go_enter Tryz.func13, Tryz.ntmps13
  go_wp2
  go_loopw [3, 8] (fun u i wr => ∃ (k : Nat) (r : List Stp), k ≤ q.length ∧ i = .int .i64 k ∧ Hid (r.map bare = (q.take k).map bare ∧ OwnS wr w.heap.size u r ∧ Below w.heap.size w wr)) (fun _ i _ => q.length - (intOf i).toNat)
  case atStart => exact ⟨0, [], Nat.zero_le _, rfl, rfl, OwnS.nil _ _, Below.refl _ _⟩
  case round =>
    obtain ⟨k, r, hk, rfl, hR⟩ := hrel
    have hrl : Hid (r.length = k) := by
      have := congrArg List.length hR.out.1
      simp at this
      show _ = _
      omega
    by_cases hlt : k < q.length
    · have hltz : (k : Int) < (q.length : Int) := by omega
      have hI : Hid (Stps wr A q) := hH.out.1.below hR.out.2.2
      obtain ⟨bb, off, rfl, hb, hcs⟩ := hI.out.at hlt
      obtain ⟨s, hs⟩ : ∃ s, q[k] = s := ⟨_, rfl⟩
      have hsm : s ∈ q := by rw [← hs]; exact List.getElem_mem hlt
      have hs8 : s.l.length ≤ 8 := hH.out.2 s hsm
      have hse : Hid (RowI wr s.p s.l ∧ s.l.length ≤ maxLen ∧ (s.p = none → s.n = 0)) := hI.out.each s hsm
      have htk : Hid (∀ s', bare s' = bare s → (r ++ [s']).map bare = (q.take (k + 1)).map bare) := fun s' h => copy_take hlt hs hR.out.1 h
      rw [hs] at hcs
      have m0 : wr.cell? ⟨bb, off + k * 7, none⟩ = some (.int .i64 s.k) := hcs 0 (by omega)
      have m1 : wr.cell? ⟨bb, off + k * 7 + 1, none⟩ = some (.int .i64 s.a) := hcs 1 (by omega)
      have m2 : wr.cell? ⟨bb, off + k * 7 + 2, none⟩ = some (.int .i64 s.b) := hcs 2 (by omega)
      have m3 : wr.cell? ⟨bb, off + k * 7 + 3, none⟩ = some (.int .i64 s.c) := hcs 3 (by omega)
      have m4 : wr.cell? ⟨bb, off + k * 7 + 4, none⟩ = some (.int .i64 s.o) := hcs 4 (by omega)
      have m5 : wr.cell? ⟨bb, off + k * 7 + 5, none⟩ = some (.int .i64 s.v) := hcs 5 (by omega)
      have m6 : wr.cell? ⟨bb, off + k * 7 + 6, none⟩ = some (.slice s.p s.l.length s.n) := hcs 6 (by omega)
      obtain ⟨WX, hWX⟩ : ∃ WX, (wr.alloc (.cells #[.int .i64 s.k, .int .i64 s.a, .int .i64 s.b, .int .i64 s.c, .int .i64 s.o, .int .i64 s.v, .slice s.p s.l.length s.n] 41)) = WX := ⟨_, rfl⟩
      have hgX : Hid (Gr wr WX) := by show Gr _ _; rw [← hWX]; exact (Gr.refl _).alloc _
      have hXs : Hid (wr.heap.size < WX.heap.size) := by show _ < _; rw [← hWX]; simp
      have x0 : WX.cell? ⟨wr.heap.size, 0, none⟩ = some (.int .i64 s.k) := by rw [← hWX]; exact box1 (w := wr) (Gr.refl _) rfl
      have x1 : WX.cell? ⟨wr.heap.size, 1, none⟩ = some (.int .i64 s.a) := by rw [← hWX]; exact box1 (w := wr) (Gr.refl _) rfl
      have x2 : WX.cell? ⟨wr.heap.size, 2, none⟩ = some (.int .i64 s.b) := by rw [← hWX]; exact box1 (w := wr) (Gr.refl _) rfl
      have x3 : WX.cell? ⟨wr.heap.size, 3, none⟩ = some (.int .i64 s.c) := by rw [← hWX]; exact box1 (w := wr) (Gr.refl _) rfl
      have x4 : WX.cell? ⟨wr.heap.size, 4, none⟩ = some (.int .i64 s.o) := by rw [← hWX]; exact box1 (w := wr) (Gr.refl _) rfl
      have x5 : WX.cell? ⟨wr.heap.size, 5, none⟩ = some (.int .i64 s.v) := by rw [← hWX]; exact box1 (w := wr) (Gr.refl _) rfl
      have x6 : WX.cell? ⟨wr.heap.size, 6, none⟩ = some (.slice s.p s.l.length s.n) := by rw [← hWX]; exact box1 (w := wr) (Gr.refl _) rfl
      have f6 : WX.frozen? ⟨wr.heap.size, 6, none⟩ = false := by rw [← hWX]; exact box1f (w := wr) (Gr.refl _) 6
      have hap : Hid (RowI WX s.p s.l ∧ (s.p = none → s.n = 0) ∧ 0 + s.l.length ≤ maxLen ∧ (0 + s.l.length) * 8 ≤ 140737488355328) := ⟨hse.out.1.gr hgX.out, hse.out.2.2, by unfold maxLen; omega, by omega⟩
      clear hcs hs hsm
      have hX6 : Hid (∀ w3, Below WX.heap.size WX w3 → ∀ v, (w3.setCell ⟨wr.heap.size, 6, none⟩ v).cell? ⟨wr.heap.size, 0, none⟩ = some (.int .i64 s.k) ∧ (w3.setCell ⟨wr.heap.size, 6, none⟩ v).cell? ⟨wr.heap.size, 1, none⟩ = some (.int .i64 s.a) ∧ (w3.setCell ⟨wr.heap.size, 6, none⟩ v).cell? ⟨wr.heap.size, 2, none⟩ = some (.int .i64 s.b) ∧ (w3.setCell ⟨wr.heap.size, 6, none⟩ v).cell? ⟨wr.heap.size, 3, none⟩ = some (.int .i64 s.c) ∧ (w3.setCell ⟨wr.heap.size, 6, none⟩ v).cell? ⟨wr.heap.size, 4, none⟩ = some (.int .i64 s.o) ∧ (w3.setCell ⟨wr.heap.size, 6, none⟩ v).cell? ⟨wr.heap.size, 5, none⟩ = some (.int .i64 s.v) ∧ (w3.setCell ⟨wr.heap.size, 6, none⟩ v).cell? ⟨wr.heap.size, 6, none⟩ = some v) := fun w3 h v => by
        have hc : ∀ i u, WX.cell? ⟨wr.heap.size, i, none⟩ = some u → w3.cell? ⟨wr.heap.size, i, none⟩ = some u := fun i u e => (h.cell (p := ⟨wr.heap.size, i, none⟩) hXs.out).trans e
        have ho : ∀ i : Nat, i < 6 → (w3.setCell ⟨wr.heap.size, 6, none⟩ v).cell? ⟨wr.heap.size, i, none⟩ = w3.cell? ⟨wr.heap.size, i, none⟩ := fun i hi => World.cell?_setCell_other _ _ _ _ (by intro e; injection e with _ e; omega)
        exact ⟨(ho 0 (by omega)).trans (hc 0 _ x0), (ho 1 (by omega)).trans (hc 1 _ x1), (ho 2 (by omega)).trans (hc 2 _ x2), (ho 3 (by omega)).trans (hc 3 _ x3), (ho 4 (by omega)).trans (hc 4 _ x4), (ho 5 (by omega)).trans (hc 5 _ x5), World.cell?_setCell_same _ _ _ (hc 6 _ x6)⟩
      have hoF : Hid (∀ w3 C c, Below WX.heap.size WX w3 → RowI w3 C s.l → (C = none → c = 0) → (∀ a, C = some a → WX.heap.size ≤ a.block ∧ a.block < w3.heap.size) → ∀ w4, w3.setCell ⟨wr.heap.size, 6, none⟩ (.slice C s.l.length c) = w4 →
          OwnS (w4.alloc (.cells #[.int .i64 s.k, .int .i64 s.a, .int .i64 s.b, .int .i64 s.c, .int .i64 s.o, .int .i64 s.v, .slice C s.l.length c] 41)) w.heap.size u3 r ∧ RowG encQ 7 (w4.alloc (.cells #[.int .i64 s.k, .int .i64 s.a, .int .i64 s.b, .int .i64 s.c, .int .i64 s.o, .int .i64 s.v, .slice C s.l.length c] 41)) (some ⟨w4.heap.size, 0, none⟩) [{ s with p := C, n := c }] ∧ ApartS (w4.alloc (.cells #[.int .i64 s.k, .int .i64 s.a, .int .i64 s.b, .int .i64 s.c, .int .i64 s.o, .int .i64 s.v, .slice C s.l.length c] 41)) w.heap.size u3.ownBlock { s with p := C, n := c } ∧ (r.length + 1 ≤ maxLen ∧ (r.length + 1) * 72 ≤ 140737488355328) ∧ Below w.heap.size w (w4.alloc (.cells #[.int .i64 s.k, .int .i64 s.a, .int .i64 s.b, .int .i64 s.c, .int .i64 s.o, .int .i64 s.v, .slice C s.l.length c] 41))) := fun w3 C c hb3 hrow hC hlt w4 hw4 => by
        subst hw4
        have hb4 : Below wr.heap.size wr (w3.setCell ⟨wr.heap.size, 6, none⟩ (.slice C s.l.length c)) := (hgX.out.below.trans (hb3.mono hgX.out.size)).setCell (Nat.le_refl _) _
        have hbA := hb4.alloc hb4.size (.cells #[.int .i64 s.k, .int .i64 s.a, .int .i64 s.b, .int .i64 s.c, .int .i64 s.o, .int .i64 s.v, .slice C s.l.length c] 41)
        have hrowA : RowI (w3.setCell ⟨wr.heap.size, 6, none⟩ (.slice C s.l.length c)) C s.l := by
          rcases hrow with e | ⟨b, o, hA, hb, hc⟩
          · exact Or.inl e
          · refine Or.inr ⟨b, o, hA, by simpa using hb, fun j hj i hi => ?_⟩
            have h1 := (hlt _ hA).1
            have h2 := hXs.out
            have h3 : b ≠ wr.heap.size := fun e => by simp only at h1; omega
            rw [World.cell?_setCell_other _ _ _ _ (by intro e; injection e with e _; exact h3 e.symm)]
            exact hc j hj i hi
        have hrl := hrl.out
        have hsz := hR.out.2.2.size
        have h2 := hXs.out
        refine ⟨hR.out.2.1.below hbA, row_litS, ⟨hrowA.gr ((Gr.refl _).alloc _), by show s.l.length ≤ _; unfold maxLen; omega, hC, fun a ha => ⟨?_, ?_, ?_⟩⟩, ⟨by unfold maxLen; omega, by omega⟩, hR.out.2.2.trans (hbA.mono hR.out.2.2.size)⟩
        · have h1 := (hlt a ha).1; omega
        · have h1 := (hlt a ha).2; simp; omega
        · intro e
          have h1 := (hlt a ha).1
          have h3 := (World.ownsRow.lt hR.out.2.1.own a.block e).2
          omega
      go_wp2_with (first | (at_builtin; refine wpList_append_i _ rfl (.const (.slice none 0 0)) (.tmp 13) rfl WX.heap.size (.slice none 0 0) [] s.l s.p s.n rfl rfl (OwnG.nil _ _ _ _ _) hap.out.1 hap.out.2.1 hap.out.2.2.1 hap.out.2.2.2 (Nat.le_refl _) ?_; intro v1 w3 hown1 hgr1; obtain ⟨C, c, rfl, hC, hrow, hlt⟩ := OwnG.row encI_len hown1; have hb3 : Below WX.heap.size WX w3 := below_none hgr1; have y6 : w3.cell? ⟨wr.heap.size, 6, none⟩ = some (.slice s.p s.l.length s.n) := (hb3.cell (p := ⟨wr.heap.size, 6, none⟩) hXs.out).trans x6; have g6 : w3.frozen? ⟨wr.heap.size, 6, none⟩ = false := (hb3.frozen (p := ⟨wr.heap.size, 6, none⟩) hXs.out).trans f6; obtain ⟨w4, hw4⟩ : ∃ W, w3.setCell ⟨wr.heap.size, 6, none⟩ (.slice C s.l.length c) = W := ⟨_, rfl⟩; have hoX := hoF.out w3 C c hb3 (by simpa using hrow) hC hlt w4 hw4; have hoXH : Hid _ := hoX; obtain ⟨z0, z1, z2, z3, z4, z5, z6⟩ := hX6.out w3 hb3 (.slice C s.l.length c); rw [hw4] at z0 z1 z2 z3 z4 z5 z6; clear hown1 hgr1 hC hrow hlt hb3 hoX) | (at_builtin; refine wpList_append_s2 _ rfl (.tmp 16) (.tmp 18) rfl w.heap.size u3 r { s with p := C, n := c } ⟨w4.heap.size, 0, none⟩ 1 rfl rfl hoXH.out.1 hoXH.out.2.1 hoXH.out.2.2.1 hoXH.out.2.2.2.1.1 hoXH.out.2.2.2.1.2 hoXH.out.2.2.2.2.size ?_; intro v5 w5 hown5 hb5))
      have hfin : Hid ((r ++ [{ s with p := C, n := c }]).map bare = (q.take (k + 1)).map bare ∧ OwnS w5 w.heap.size v5 (r ++ [{ s with p := C, n := c }]) ∧ Below w.heap.size w w5) := ⟨htk.out _ rfl, hown5, hoXH.out.2.2.2.2.trans hb5⟩
      clear hown5 hb5
      go_roundw
      case rel => exact ⟨k + 1, r ++ [{ s with p := C, n := c }], by omega, by go_num, hfin⟩
      case measure => simp [intOf]; omega
    · have hltz : ¬ (k : Int) < (q.length : Int) := by omega
      have hke : q.take k = q := List.take_of_length_le (by omega)
      obtain ⟨C, cap, hv, hC, hst⟩ := hR.out.2.1.stps
      obtain ⟨C', cap', hv', _, _, hab⟩ := hR.out.2.1.own.row encQ_len
      have hfin : Hid (r.map bare = q.map bare ∧ Stps wr C r ∧ (C = none → cap = 0) ∧ NewS w.heap.size wr.heap.size C r ∧ Below w.heap.size w wr) := by
        have h1 := hR.out.1
        rw [hke] at h1
        have hCC : C = C' := by rw [hv] at hv'; injection hv'
        exact ⟨h1, hst, hC, ⟨fun a ha => hab a (by rw [← hCC]; exact ha), fun x hx a ha => ⟨((hR.out.2.1.each x hx).own a ha).1, ((hR.out.2.1.each x hx).own a ha).2.1⟩⟩, hR.out.2.2⟩
      subst hv
      clear hke hC hst hv' hab
      go_wp2
      go_ret
      exact ⟨r, C, cap, rfl, hfin.out⟩
end Go.Proofs.YtkmhofkchnhpdaaGreatDoor

namespace Go.Proofs.YtkmhofkchnhpdaaGreatDoor
open Go.RowKit Go.Sort

/-- What it answers. -/
def fstO : List Itm → List Itm → Int
  | _, [] => -1
  | [], _ :: _ => 1
  | x :: _, y :: _ => cmpL x.r y.r
theorem order_g {a b : List Int} {A B : Option Addr} {ca cb : Nat} {w : World} {c : Int} (hc : cmpL a b = c) (hal : a.length ≤ maxLen) (hra : RowI w A a) (hrb : RowI w B b) (n : Nat) (os : Array Obj) :
    Calls Tryz.prog 28 #[.slice A a.length ca, .slice B b.length cb] (grow (w.drewN n) os) fun e w' => e = .returned (.int .i64 c) ∧ ∃ q os', w' = grow ((grow (w.drewN n) os).drewN q) os' := by
  subst hc
  have hg : Gr w (grow (w.drewN n) os) := ⟨n, os, rfl⟩
  exact orderR_any a b A B ca cb _ hal (hra.gr hg) (hrb.gr hg)

set_option maxRecDepth 100000 in
set_option maxHeartbeats 1000000 in
theorem first_any (a b : List Itm) (A B : Option Addr) (ca cb : Nat) (w : World) (ha : Items w A a) (hb : Items w B b) :
    Calls Tryz.prog 33 #[.slice A a.length ca, .slice B b.length cb] w fun e w' => e = .returned (.int .i64 (fstO a b)) ∧ Gr w w' := by
  have mixed : Tryz.prog.follows .mixedOrders = true := by kernel_rfl
  cases b with
  | nil =>
    have e : fstO a [] = -1 := by cases a <;> rfl
    rw [e]
    clear e
    go_enter Tryz.func33, Tryz.ntmps33
    go_wp2
    go_ret
    exact ⟨rfl, Gr.refl _⟩
  | cons y u =>
    have hbz : (((y :: u).length : Int) == 0) = false := by rw [beq_eq_false_iff_ne]; simp; omega
    cases a with
    | nil =>
      go_enter Tryz.func33, Tryz.ntmps33
      go_wp2
      go_ret
      exact ⟨rfl, Gr.refl _⟩
    | cons x t =>
      have haz : (((x :: t).length : Int) == 0) = false := by rw [beq_eq_false_iff_ne]; simp; omega
      obtain ⟨ba, oa, rfl, hba, hca⟩ := ha.at (k := 0) (by simp)
      obtain ⟨bb, ob, rfl, hbb, hcb⟩ := hb.at (k := 0) (by simp)
      have e0 : w.cell? ⟨ba, oa, none⟩ = some (.slice x.p x.r.length x.c) := by have := (hca 0 (by simp)).1; simpa using this
      have f0 : w.cell? ⟨bb, ob, none⟩ = some (.slice y.p y.r.length y.c) := by have := (hcb 0 (by simp)).1; simpa using this
      have hx := ha.each x (by simp)
      have hy := hb.each y (by simp)
      obtain ⟨c, hc⟩ : ∃ c, cmpL x.r y.r = c := ⟨_, rfl⟩
      have e : fstO (x :: t) (y :: u) = c := hc
      rw [e]
      have hO : Hid (∀ n os, Calls Tryz.prog 28 #[.slice x.p x.r.length x.c, .slice y.p y.r.length y.c] (grow (w.drewN n) os) fun e w' => e = .returned (.int .i64 c) ∧ ∃ q os', w' = grow ((grow (w.drewN n) os).drewN q) os') := fun n os => order_g hc hx.2.1 hx.1 hy.1 n os
      have g0 : ∀ n os, (grow (w.drewN n) os).cell? ⟨ba, oa, none⟩ = some (.slice x.p x.r.length x.c) := (Gr.refl w).cellG hba e0
      have g1 : ∀ n os, (grow (w.drewN n) os).cell? ⟨bb, ob, none⟩ = some (.slice y.p y.r.length y.c) := (Gr.refl w).cellG hbb f0
      have hax : (0 : Int) < ((x :: t).length : Int) := by simp
      have hbx : (0 : Int) < ((y :: u).length : Int) := by simp
      clear e hc hx hy hca hcb ha hb e0 f0
      go_enter Tryz.func33, Tryz.ntmps33
      go_wp2
      refine wp_region_quiet_grown mixed (by kernel_rfl) ?_
      repeat (go_big_quiet_step ((go_at_call 28; refine Calls.grown_of (hO.out _ _))))
      refine wpQuiet_nil ?_
      rintro _ ⟨⟨nq, osq⟩, rfl⟩
      go_wp2
      go_ret
      exact ⟨rfl, ⟨nq, osq, rfl⟩⟩
end Go.Proofs.YtkmhofkchnhpdaaGreatDoor
