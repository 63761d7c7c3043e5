/-
  R.SameQuery: two queries that are the same, but for where their lists lie.
-/
import Derived.Test.YtoodkgmpggabdaaDoorQBackM
import Derived.Test.YtoodkgmpggabdaaDoorEqI
namespace Go.Proofs.YtoodkgmpggabdaaDoor
open Go.RowKit Go.Sort

set_option maxHeartbeats 1000000 in
theorem sameQ1_any (x y : Stp) (w : World) (hxl : x.l.length ≤ maxLen) (hyl : y.l.length ≤ maxLen) (hx : RowI w x.p x.l) (hy : RowI w y.p y.l) (he : clr x = clr y) :
    Calls Tryd.prog 14 #[.agg #[.int .i64 x.k, .int .i64 x.a, .int .i64 x.b, .int .i64 x.c, .int .i64 x.o, .int .i64 x.v, .slice x.p x.l.length x.n], .agg #[.int .i64 y.k, .int .i64 y.a, .int .i64 y.b, .int .i64 y.c, .int .i64 y.o, .int .i64 y.v, .slice y.p y.l.length y.n]] w fun e w' => e = .returned (.bool true) ∧ Gr w w' := by
  obtain ⟨k, a, b, c, o, v, p, n, l⟩ := x
  obtain ⟨k', a', b', c', o', v', p', n', l'⟩ := y
  simp only [clr, Stp.mk.injEq, true_and] at he
  obtain ⟨rfl, rfl, rfl, rfl, rfl, rfl, rfl⟩ := he
  simp only at hxl hyl hx hy ⊢
  have hlH : Hid (l.length ≤ 9223372036854775807) := by show _; unfold maxLen at hxl; exact hxl
  have hrH : Hid (RowI w p l ∧ RowI w p' l) := ⟨hx, hy⟩
  clear hxl hyl hx hy
  go_enter Tryd.func14, Tryd.ntmps14
  go_wp2_with fail
  refine (equalI_anyK l l p p' n n' _ hlH.out hlH.out (hrH.out.1.gr (((Gr.refl _).alloc _).alloc _)) (hrH.out.2.gr (((Gr.refl _).alloc _).alloc _))).mono ?_
  rintro e w' ⟨rfl, hg⟩
  have hgH : Hid (Gr w w') := (((Gr.refl w).alloc _).alloc _).trans hg
  clear hg
  go_wp2
  go_ret
  exact ⟨by simp, hgH.out⟩
set_option maxHeartbeats 1000000 in
theorem equalFQ_any (a b : List Stp) (A B : Option Addr) (ca cb : Nat) (w : World) (hal : a.length ≤ maxLen) (ha : Stps w A a) (hb : Stps w B b) (he : a.map clr = b.map clr) :
    Calls Tryd.prog 13 #[.slice A a.length ca, .slice B b.length cb, .func (.func 14) #[] #[]] w fun e w' => e = .returned (.bool true) ∧ Gr w w' := by
  unfold maxLen at hal
  have haH : Hid (Stps w A a ∧ Stps w B b ∧ a.map clr = b.map clr) := ⟨ha, hb, he⟩
  have hlen : a.length = b.length := by simpa using congrArg List.length he
  clear ha hb he
  have hlz : ((a.length : Int) != (b.length : Int)) = false := by simp [hlen]
  have hlenH : Hid (a.length = b.length) := hlen
  clear hlen
  go_enter Tryd.func13, Tryd.ntmps13
  go_wp2
  go_loopw [17] (fun i wr => ∃ k : Nat, k ≤ a.length ∧ i = .int .i64 k ∧ Gr w wr) (fun i _ => a.length - (intOf i).toNat)
  case atStart => exact ⟨0, Nat.zero_le _, rfl, Gr.refl _⟩
  case round =>
    obtain ⟨k, hk, rfl, hgr⟩ := hrel
    by_cases hlt : k < a.length
    · have hltz : (k : Int) < (a.length : Int) := by omega
      have hlt2 : k < b.length := by rw [← hlenH.out]; exact hlt
      have hltz2 : (k : Int) < (b.length : Int) := by omega
      have hI : Hid (Stps wr A a ∧ Stps wr B b) := ⟨haH.out.1.gr hgr, haH.out.2.1.gr hgr⟩
      obtain ⟨bb, off, rfl, hb, hcs⟩ := hI.out.1.at hlt
      obtain ⟨bc, of2, rfl, hb2, hcs2⟩ := hI.out.2.at hlt2
      obtain ⟨x, hx⟩ : ∃ x, a[k] = x := ⟨_, rfl⟩
      obtain ⟨y, hy⟩ : ∃ y, b[k] = y := ⟨_, rfl⟩
      rw [hx] at hcs
      rw [hy] at hcs2
      have hcl : clr x = clr y := by
        have h2 : (a.map clr)[k]? = (b.map clr)[k]? := by rw [haH.out.2.2]
        rw [List.getElem?_map, List.getElem?_map, List.getElem?_eq_getElem hlt, List.getElem?_eq_getElem hlt2, hx, hy] at h2
        simpa using h2
      have e0 : wr.cell? ⟨bb, off + k * 7, none⟩ = some (.int .i64 x.k) := hcs 0 (by omega)
      have e1 : wr.cell? ⟨bb, off + k * 7 + 1, none⟩ = some (.int .i64 x.a) := hcs 1 (by omega)
      have e2 : wr.cell? ⟨bb, off + k * 7 + 2, none⟩ = some (.int .i64 x.b) := hcs 2 (by omega)
      have e3 : wr.cell? ⟨bb, off + k * 7 + 3, none⟩ = some (.int .i64 x.c) := hcs 3 (by omega)
      have e4 : wr.cell? ⟨bb, off + k * 7 + 4, none⟩ = some (.int .i64 x.o) := hcs 4 (by omega)
      have e5 : wr.cell? ⟨bb, off + k * 7 + 5, none⟩ = some (.int .i64 x.v) := hcs 5 (by omega)
      have e6 : wr.cell? ⟨bb, off + k * 7 + 6, none⟩ = some (.slice x.p x.l.length x.n) := hcs 6 (by omega)
      have f0 : wr.cell? ⟨bc, of2 + k * 7, none⟩ = some (.int .i64 y.k) := hcs2 0 (by omega)
      have f1 : wr.cell? ⟨bc, of2 + k * 7 + 1, none⟩ = some (.int .i64 y.a) := hcs2 1 (by omega)
      have f2 : wr.cell? ⟨bc, of2 + k * 7 + 2, none⟩ = some (.int .i64 y.b) := hcs2 2 (by omega)
      have f3 : wr.cell? ⟨bc, of2 + k * 7 + 3, none⟩ = some (.int .i64 y.c) := hcs2 3 (by omega)
      have f4 : wr.cell? ⟨bc, of2 + k * 7 + 4, none⟩ = some (.int .i64 y.o) := hcs2 4 (by omega)
      have f5 : wr.cell? ⟨bc, of2 + k * 7 + 5, none⟩ = some (.int .i64 y.v) := hcs2 5 (by omega)
      have f6 : wr.cell? ⟨bc, of2 + k * 7 + 6, none⟩ = some (.slice y.p y.l.length y.n) := hcs2 6 (by omega)
      have hxr : Hid (RowI wr x.p x.l ∧ x.l.length ≤ maxLen) := ⟨(hI.out.1.each x (by rw [← hx]; exact List.getElem_mem hlt)).1, (hI.out.1.each x (by rw [← hx]; exact List.getElem_mem hlt)).2.1⟩
      have hyr : Hid (RowI wr y.p y.l ∧ y.l.length ≤ maxLen) := ⟨(hI.out.2.each y (by rw [← hy]; exact List.getElem_mem hlt2)).1, (hI.out.2.each y (by rw [← hy]; exact List.getElem_mem hlt2)).2.1⟩
      have hclH : Hid (clr x = clr y) := hcl
      clear hcs hcs2 hx hy hcl
      go_wp2_with fail
      have hg0 : Hid (Gr wr ((wr.alloc (.cells #[.int .i64 x.k, .int .i64 x.a, .int .i64 x.b, .int .i64 x.c, .int .i64 x.o, .int .i64 x.v, .slice x.p x.l.length x.n] 32)).alloc (.cells #[.int .i64 y.k, .int .i64 y.a, .int .i64 y.b, .int .i64 y.c, .int .i64 y.o, .int .i64 y.v, .slice y.p y.l.length y.n] 32))) := ((Gr.refl _).alloc _).alloc _
      refine (sameQ1_any x y _ hxr.out.2 hyr.out.2 (hxr.out.1.gr hg0.out) (hyr.out.1.gr hg0.out) hclH.out).mono ?_
      rintro e w2 ⟨rfl, hg2⟩
      have hgw : Hid (Gr w w2) := (hgr.trans hg0.out).trans hg2
      clear hg0 hg2
      go_wp2
      go_roundw
      case rel => exact ⟨k + 1, by omega, by go_num, hgw.out⟩
      case measure => simp [intOf]; omega
    · have hltz : ¬ (k : Int) < (a.length : Int) := by omega
      go_wp2
      go_ret
      exact ⟨rfl, hgr⟩
set_option maxHeartbeats 1000000 in
theorem sameQ_any (a b : List Stp) (A B : Option Addr) (ca cb : Nat) (w : World) (hal : a.length ≤ maxLen) (ha : Stps w A a) (hb : Stps w B b) (he : a.map clr = b.map clr) :
    Calls Tryd.prog 6 #[.slice A a.length ca, .slice B b.length cb] w fun e w' => e = .returned (.bool true) ∧ Gr w w' := by
  have hH : Hid _ := equalFQ_any a b A B ca cb w hal ha hb he
  clear hal ha hb he
  go_enter Tryd.func6, Tryd.ntmps6
  go_wp2_with fail
  refine Calls.mono (show Calls _ _ _ _ _ from hH.out) ?_
  rintro e w' ⟨rfl, hg⟩
  go_wp2
  go_ret
  exact ⟨rfl, hg⟩

end Go.Proofs.YtoodkgmpggabdaaDoor
