/-
  zset.Norm: the set of a list.
-/
import Derived.Test.YteobmedkngdnkaaZTotal
import Derived.Test.YteobmedkngdnkaaZGroup
namespace Go.Proofs.Yteobmedkngdnkaa
open Go.RowKit Go.Sort

theorem normE_form {l : List Itm} {k : Nat} (h4 : ¬ 400 < l.length) (hk : k < l.length) (h : (okR l[k].r && okW l[k].n) = false) : normE (l.map Itm.z) = 5 := by
  unfold normE
  rw [if_neg (by simpa using h4), if_neg]
  intro ha
  have := List.all_eq_true.1 ha l[k].z (List.mem_map.2 ⟨l[k], List.getElem_mem hk, rfl⟩)
  unfold Itm.z at this
  rw [h] at this; cases this
theorem normE_all {l : List Itm} (h4 : ¬ 400 < l.length) (h : ∀ j (h : j < l.length), okR l[j].r = true ∧ okW l[j].n = true) : normE (l.map Itm.z) = totE (l.map Itm.z) := by
  unfold normE
  rw [if_neg (by simpa using h4), if_pos]
  rw [List.all_eq_true]
  intro x hx
  obtain ⟨y, hy, rfl⟩ := List.mem_map.1 hx
  obtain ⟨j, hj, rfl⟩ := List.mem_iff_getElem.1 hy
  have := h j hj
  simp [Itm.z, this.1, this.2]
theorem normL_no {l : List Zit} (h : normE l ≠ 0) : normL l = [] := by unfold normL; rw [if_neg h]

set_option maxRecDepth 100000 in
set_option maxHeartbeats 2000000 in
theorem norm_new (l : List Itm) (A : Option Addr) (cap : Nat) (w : World) (hl : l.length ≤ maxLen) (hA : A = none → cap = 0) (hr : Items w A l) :
    Calls Try.prog 15 #[.slice A l.length cap] w fun e w' => ∃ (L : List Itm) (C : Option Addr) (c : Nat), e = .returned (.tuple #[.slice C L.length c, .int .i64 (normE (l.map Itm.z))]) ∧ L.map Itm.z = normL (l.map Itm.z) ∧ Items w' C L ∧ NilC C L.length c ∧ Below w.heap.size w w' ∧ NewT w.heap.size C L := by
  have mixed : Try.prog.follows .mixedOrders = true := by kernel_rfl
  unfold maxLen at hl
  have hrH : Hid (Items w A l ∧ (A = none → cap = 0)) := ⟨hr, hA⟩
  clear hr hA
  by_cases h4 : 400 < l.length
  · have e : Hid (normE (l.map Itm.z) = 2) := by show _ = _; unfold normE; rw [if_pos (by simpa using h4)]
    have e2 : Hid (normL (l.map Itm.z) = []) := normL_no (by rw [e.out]; decide)
    have h4z : (400 : Int) < (l.length : Int) := by omega
    go_enter Try.func15, Try.ntmps15
    go_wp2
    go_ret2
    exact ⟨[], none, 0, by rw [e.out]; rfl, by rw [e2.out]; rfl, ⟨Or.inl rfl, fun x hx => by cases hx⟩, fun _ => rfl, Below.refl _ _, NewT.none _⟩
  · have h4z : ¬ (400 : Int) < (l.length : Int) := by omega
    go_enter Try.func15, Try.ntmps15
    go_wp2
    go_loopw [11] (fun i wr => ∃ k : Nat, k ≤ l.length ∧ i = .int .i64 k ∧ Hid (∀ j (h : j < l.length), j < k → okR l[j].r = true ∧ okW l[j].n = true) ∧ Gr w wr) (fun i _ => l.length - (intOf i).toNat)
    case atStart => exact ⟨0, by omega, rfl, fun j _ h => by omega, Gr.refl _⟩
    case round =>
      rename World => wr0
      obtain ⟨k, hk, rfl, hall, hgr⟩ := hrel
      by_cases hlt : k < l.length
      · have hltz : (k : Int) < (l.length : Int) := by omega
        have hrR : Hid (Items wr0 A l) := hrH.out.1.gr hgr
        obtain ⟨b, off, rfl, hb, hcs⟩ := hrR.out.at hlt
        obtain ⟨x, hx⟩ : ∃ x, l[k] = x := ⟨_, rfl⟩
        obtain ⟨e0, e1⟩ := hcs k hlt
        rw [hx] at e0 e1
        have hxH : Hid (l[k] = x) := hx
        have hxr : Hid (RowI wr0 x.p x.r ∧ x.r.length ≤ maxLen) := ⟨(hrR.out.each x (by rw [← hx]; exact List.getElem_mem hlt)).1, (hrR.out.each x (by rw [← hx]; exact List.getElem_mem hlt)).2.1⟩
        clear hcs hx
        have hgX : Gr wr0 (wr0.alloc (.cells #[.slice x.p x.r.length x.c, .int .i64 x.n] 29)) := (Gr.refl _).alloc _
        have x0 : (wr0.alloc (.cells #[.slice x.p x.r.length x.c, .int .i64 x.n] 29)).cell? ⟨wr0.heap.size, 0, none⟩ = some (.slice x.p x.r.length x.c) := box1 (Gr.refl _) rfl
        have x1 : (wr0.alloc (.cells #[.slice x.p x.r.length x.c, .int .i64 x.n] 29)).cell? ⟨wr0.heap.size, 1, none⟩ = some (.int .i64 x.n) := box1 (Gr.refl _) rfl
        have hrow := isRow_any x.r x.p x.c (wr0.alloc (.cells #[.slice x.p x.r.length x.c, .int .i64 x.n] 29)) hxr.out.2 (hxr.out.1.gr hgX)
        have hrowH : Hid _ := hrow
        clear hrow
        go_wp2_with fail
        refine Calls.mono (show Calls _ _ _ _ _ from hrowH.out) ?_
        rintro e w2 ⟨rfl, hg2⟩
        clear hrowH x0 x1
        have hgw2 : Gr w w2 := (hgr.trans hgX).trans hg2
        have x0 : w2.cell? ⟨wr0.heap.size, 0, none⟩ = some (.slice x.p x.r.length x.c) := box1 hg2 rfl
        have x1 : w2.cell? ⟨wr0.heap.size, 1, none⟩ = some (.int .i64 x.n) := box1 hg2 rfl
        have hbadH : Hid ((okR x.r && okW x.n) = false → normE (l.map Itm.z) = 5 ∧ normL (l.map Itm.z) = []) := fun h => by
          have h5 := normE_form h4 hlt (by rw [hxH.out]; exact h)
          exact ⟨h5, normL_no (by rw [h5]; decide)⟩
        cases hrb : okR x.r
        · have hfin : Hid (normE (l.map Itm.z) = 5 ∧ normL (l.map Itm.z) = []) := hbadH.out (by simp [hrb])
          go_wp2
          go_ret2
          exact ⟨[], none, 0, by rw [hfin.out.1]; rfl, by rw [hfin.out.2]; rfl, ⟨Or.inl rfl, fun x hx => by cases hx⟩, fun _ => rfl, hgw2.below, NewT.none _⟩
        · have hwt := isWeight_any x.n w2
          cases hwb : okW x.n
          · have hfin : Hid (normE (l.map Itm.z) = 5 ∧ normL (l.map Itm.z) = []) := hbadH.out (by simp [hwb])
            rw [hwb] at hwt
            have hwtH : Hid _ := hwt
            clear hwt
            go_wp2_with (go_at_call 33; (refine Calls.mono (show Calls _ _ _ _ _ from hwtH.out) ?_); rintro e w' ⟨rfl, rfl⟩)
            go_ret2
            exact ⟨[], none, 0, by rw [hfin.out.1]; rfl, by rw [hfin.out.2]; rfl, ⟨Or.inl rfl, fun x hx => by cases hx⟩, fun _ => rfl, hgw2.below, NewT.none _⟩
          · rw [hwb] at hwt
            have hwtH : Hid _ := hwt
            clear hwt
            have hoka : Hid (okR l[k].r = true ∧ okW l[k].n = true) := by show _ ∧ _; rw [hxH.out]; exact ⟨hrb, hwb⟩
            go_wp2_with (go_at_call 33; (refine Calls.mono (show Calls _ _ _ _ _ from hwtH.out) ?_); rintro e w' ⟨rfl, rfl⟩)
            go_roundw
            case rel =>
              refine ⟨k + 1, hlt, by go_num, ?_, hgw2⟩
              intro j hj hjk
              by_cases e : j = k
              · subst e; exact hoka.out
              · exact hall j hj (by omega)
            case measure => simp [intOf]; omega
      · have hltz : ¬ (k : Int) < (l.length : Int) := by omega
        have hokA : Hid (∀ j (h : j < l.length), okR l[j].r = true ∧ okW l[j].n = true) := fun j h => hall j h (by omega)
        have hfin : Hid (normE (l.map Itm.z) = totE (l.map Itm.z) ∧ normL (l.map Itm.z) = totR (l.map Itm.z)) := by
          have h1 := normE_all h4 hokA.out
          refine ⟨h1, ?_⟩
          unfold normL totR
          rw [h1]
        have htt := total_one_new l A cap wr0 hrH.out.2 (hrH.out.1.gr hgr) (by omega) (fun x hx => by
          obtain ⟨j, hj, rfl⟩ := List.mem_iff_getElem.1 hx
          have := hokA.out j hj
          refine ⟨this.2, ?_⟩
          have h8 := this.1
          simp only [okR, Bool.and_eq_true, decide_eq_true_eq] at h8
          exact h8.1)
        have httH : Hid _ := htt
        clear hall htt
        go_wp2_with fail
        refine Calls.mono (show Calls _ _ _ _ _ from httH.out) ?_
        rintro e w3 ⟨L, C, c, rfl, h1, h2, h3, h4, h5⟩
        have hNw : Hid (NewT w.heap.size C L) := h5.mono hgr.size
        have hfin2 : Hid (L.map Itm.z = normL (l.map Itm.z) ∧ Items w3 C L ∧ NilC C L.length c ∧ Below w.heap.size w w3) := ⟨by rw [h1, hfin.out.2], h2, h3, hgr.below.trans (h4.mono hgr.size)⟩
        clear h1 h2 h3 h4 h5 httH
        go_wp2
        go_ret2
        exact ⟨L, C, c, by rw [hfin.out.1]; rfl, hfin2.out.1, hfin2.out.2.1, hfin2.out.2.2.1, hfin2.out.2.2.2, hNw.out⟩
theorem norm_any (l : List Itm) (A : Option Addr) (cap : Nat) (w : World) (hl : l.length ≤ maxLen) (hA : A = none → cap = 0) (hr : Items w A l) :
    Calls Try.prog 15 #[.slice A l.length cap] w fun e w' => ∃ (L : List Itm) (C : Option Addr) (c : Nat), e = .returned (.tuple #[.slice C L.length c, .int .i64 (normE (l.map Itm.z))]) ∧ L.map Itm.z = normL (l.map Itm.z) ∧ Items w' C L ∧ NilC C L.length c ∧ Below w.heap.size w w' := by
  refine (norm_new l A cap w hl hA hr).mono ?_
  rintro e w' ⟨L, C, c, h1, h2, h3, h4, h5, _⟩
  exact ⟨L, C, c, h1, h2, h3, h4, h5⟩

end Go.Proofs.Yteobmedkngdnkaa
