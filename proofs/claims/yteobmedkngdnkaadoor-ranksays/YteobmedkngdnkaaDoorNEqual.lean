/-
  Lists of rows that are the same: slices.EqualFunc with slices.Equal.
-/
import Derived.Test.YteobmedkngdnkaaDoorNRows
import Derived.Test.YteobmedkngdnkaaDoorEqI
namespace Go.Proofs.YteobmedkngdnkaaDoor
open Go.RowKit Go.Sort

/-- Rows in memory, to read. -/
structure RwR (w : World) (A : Option Addr) (L : List Itm) : Prop where
  row : RowG encW 1 w A L
  each : ∀ x ∈ L, RowI w x.p x.r ∧ x.r.length ≤ maxLen
theorem RwR.below {w w' : World} {A : Option Addr} {L : List Itm} (h : RwR w A L) (q : Below w.heap.size w w') : RwR w' A L := ⟨h.row.below q, fun x hx => ⟨(h.each x hx).1.below q, (h.each x hx).2⟩⟩
theorem RwR.gr {w w' : World} {A : Option Addr} {L : List Itm} (h : RwR w A L) (q : Gr w w') : RwR w' A L := h.below q.below
theorem OwnR.read {w : World} {base : Nat} {v : Value} {L : List Itm} (h : OwnR w base v L) : ∃ A cap, v = .slice A L.length cap ∧ NilC A L.length cap ∧ RwR w A L := by
  obtain ⟨A, cap, hv, h0, hrow, hle, _⟩ := OwnG.full encW_len h.own
  refine ⟨A, cap, hv, NilC.mk h0 hle, hrow, fun x hx => ?_⟩
  have hx1 := h.each x hx
  obtain ⟨B, cb, hv2, h2, hrow2, hle2, _⟩ := OwnG.full encI_len hx1
  unfold Itm.v at hv2
  injection hv2 with e1 e2 e3
  subst e1
  refine ⟨hrow2, ?_⟩
  rcases hx1.2 with ⟨_, hn⟩ | ⟨g, cap, cur, _, _, _, hle3, hcm, _⟩
  · rw [hn]; exact Nat.zero_le _
  · exact Nat.le_trans hle3 hcm
theorem RwR.take {w : World} {A : Option Addr} {L : List Itm} (h : RwR w A L) (n : Nat) : RwR w A (L.take n) := by
  refine ⟨?_, fun x hx => h.each x (List.mem_of_mem_take hx)⟩
  rcases h.row with k | ⟨b, off, hA, hb, hc⟩
  · rw [k]; exact Or.inl (by simp)
  · refine Or.inr ⟨b, off, hA, hb, fun j hj i hi => ?_⟩
    have hj' : j < L.length := by rw [List.length_take] at hj; omega
    rw [List.getElem_take]
    exact hc j hj' i hi
/-- What one finds at an index. -/
theorem RwR.at {w : World} {A : Option Addr} {L : List Itm} (h : RwR w A L) {k : Nat} (hk : k < L.length) {x : Itm} (hx : L[k] = x) : ∃ b off, A = some ⟨b, off, none⟩ ∧ b < w.heap.size ∧ w.cell? ⟨b, off + k, none⟩ = some (.slice x.p x.r.length x.c) := by
  obtain ⟨b, off, hA, hb, hc⟩ := h.row.at hk
  refine ⟨b, off, hA, hb, ?_⟩
  have := hc k hk 0 (by omega)
  rw [hx] at this
  simpa [encW] using this

set_option maxHeartbeats 1000000 in
theorem eqRow_any (a b : List Int) (A B : Option Addr) (ca cb : Nat) (w : World) (hal : a.length ≤ maxLen) (hab : a = b) (ha : RowI w A a) (hb : RowI w B b) :
    Calls Tryd.prog 7 #[.slice A a.length ca, .slice B b.length cb] w fun e w' => e = .returned (.bool true) ∧ Gr w w' := by
  have hl : a.length ≤ 9223372036854775807 := by unfold maxLen at hal; omega
  have hC0 := equalI_anyK a b A B ca cb w hl (by rw [← hab]; exact hl) ha hb
  rw [decide_eq_true hab] at hC0
  have hC : Hid _ := hC0
  clear hC0 hab ha hb hal hl
  go_enter Tryd.func7, Tryd.ntmps7
  go_wp2_with fail
  refine Calls.mono (show Calls _ _ _ _ _ from hC.out) ?_
  rintro e w2 ⟨rfl, hg2⟩
  have hgH : Hid (Gr w w2) := hg2
  clear hC hg2
  go_wp2
  go_ret
  exact ⟨rfl, hgH.out⟩

set_option maxHeartbeats 1000000 in
theorem eqRows_any (ss tt : List Itm) (A B : Option Addr) (ca cb : Nat) (w : World) (hsl : ss.length ≤ 1000000) (ha : RwR w A ss) (hb : RwR w B tt) (he : ss.map Itm.r = tt.map Itm.r) :
    Calls Tryd.prog 6 #[.slice A ss.length ca, .slice B tt.length cb, .func (.func 7) #[] #[]] w fun e w' => e = .returned (.bool true) ∧ Gr w w' := by
  have hlen : ss.length = tt.length := by
    have := congrArg List.length he
    simpa using this
  have hlz : ((ss.length : Int) != (tt.length : Int)) = false := by simp [hlen]
  have hlenH : Hid (ss.length = tt.length ∧ ss.map Itm.r = tt.map Itm.r) := ⟨hlen, he⟩
  have hH : Hid (RwR w A ss ∧ RwR w B tt) := ⟨ha, hb⟩
  clear hlen ha hb he
  go_enter Tryd.func6, Tryd.ntmps6
  go_wp2
  go_loopw [17] (fun i wr => ∃ k : Nat, k ≤ ss.length ∧ i = .int .i64 k ∧ Hid (Gr w wr)) (fun i _ => ss.length - (intOf i).toNat)
  case atStart => exact ⟨0, Nat.zero_le _, rfl, Gr.refl _⟩
  case round =>
    obtain ⟨k, hk, rfl, hgr⟩ := hrel
    by_cases hlt : k < ss.length
    · have hltz : (k : Int) < (ss.length : Int) := by omega
      have hlt2 : k < tt.length := by rw [← hlenH.out.1]; exact hlt
      have hltz2 : (k : Int) < (tt.length : Int) := by omega
      have hI : Hid (RwR wr A ss ∧ RwR wr B tt) := ⟨hH.out.1.gr hgr.out, hH.out.2.gr hgr.out⟩
      obtain ⟨x, hx⟩ : ∃ x, ss[k] = x := ⟨_, rfl⟩
      obtain ⟨y, hy⟩ : ∃ y, tt[k] = y := ⟨_, rfl⟩
      obtain ⟨bb, off, rfl, hb, e0⟩ := hI.out.1.at hlt hx
      obtain ⟨bc, of2, rfl, hb2, f0⟩ := hI.out.2.at hlt2 hy
      have hz : x.r = y.r := by
        have h1 : (ss.map Itm.r)[k]? = some x.r := by rw [List.getElem?_map, List.getElem?_eq_getElem hlt, hx]; rfl
        have h2 : (tt.map Itm.r)[k]? = some y.r := by rw [List.getElem?_map, List.getElem?_eq_getElem hlt2, hy]; rfl
        rw [hlenH.out.2, h2] at h1
        exact (Option.some.inj h1).symm
      have hxe := hI.out.1.each x (by rw [← hx]; exact List.getElem_mem hlt)
      have hye := hI.out.2.each y (by rw [← hy]; exact List.getElem_mem hlt2)
      have hS0 := eqRow_any x.r y.r x.p y.p x.c y.c wr hxe.2 hz hxe.1 hye.1
      have hS : Hid _ := hS0
      clear hx hy hz hS0 hxe hye
      go_wp2_with fail
      refine Calls.mono (show Calls _ _ _ _ _ from hS.out) ?_
      rintro e w2 ⟨rfl, hg2⟩
      have hgw : Hid (Gr w w2) := hgr.out.trans hg2
      clear hg2
      go_wp2
      go_roundw
      case rel => exact ⟨k + 1, by omega, by go_num, hgw⟩
      case measure => simp [intOf]; omega
    · have hltz : ¬ (k : Int) < (ss.length : Int) := by omega
      go_wp2
      go_ret
      exact ⟨rfl, hgr.out⟩
end Go.Proofs.YteobmedkngdnkaaDoor
