/-
  R.SameSet: are two sets the same?
  What is handed in, opened: a slice of dots, a dot, a context.
-/
import Derived.Test.YtgmdjioobidadaaM04
import Derived.Test.YtgmdjioobidadaaM12
import Derived.Test.YtgmdjioobidadaaM01
import Derived.ProofKit
import Derived.OpenShut
import Derived.ChangeOld
import Derived.Deep.SlicePairs
import Derived.Lib.SmallJoins
namespace Go.Proofs.Ytgmdjioobidadaa
open Go.RowKit Go.Sort

/-- Two items say the same. -/
def sameI (x y : Itm) : Bool := decide (x.n = y.n) && decide (x.r = y.r)
theorem sameI_iff {x y : Itm} : sameI x y = true ↔ x.z = y.z := by
  unfold sameI Itm.z
  simp only [Bool.and_eq_true, decide_eq_true_eq, Prod.mk.injEq]
  exact ⟨fun h => ⟨h.2, h.1⟩, fun h => ⟨h.2, h.1⟩⟩
set_option maxHeartbeats 1000000 in
theorem same1_any (x y : Itm) (w : World) (hxl : x.r.length ≤ maxLen) (hyl : y.r.length ≤ maxLen) (hx : RowI w x.p x.r) (hy : RowI w y.p y.r) :
    Calls Try.prog 32 #[.agg #[.slice x.p x.r.length x.c, .int .i64 x.n], .agg #[.slice y.p y.r.length y.c, .int .i64 y.n]] w fun e w' => e = .returned (.bool (sameI x y)) ∧ Gr w w' := by
  have hlH : Hid (x.r.length ≤ 9223372036854775807 ∧ y.r.length ≤ 9223372036854775807) := by show _ ∧ _; unfold maxLen at hxl hyl; exact ⟨hxl, hyl⟩
  have hrH : Hid (RowI w x.p x.r ∧ RowI w y.p y.r) := ⟨hx, hy⟩
  clear hxl hyl hx hy
  cases hq : (x.n == y.n)
  · have hfin : Hid (sameI x y = false) := by
      have : x.n ≠ y.n := by simpa using hq
      simp [sameI, this, Hid]
    go_enter Try.func32, Try.ntmps32
    go_wp2
    go_ret
    exact ⟨by rw [hfin.out]; rfl, ((Gr.refl _).alloc _).alloc _⟩
  · have hfin : Hid (sameI x y = decide (x.r = y.r)) := by
      have : x.n = y.n := by simpa using hq
      simp [sameI, this, Hid]
    go_enter Try.func32, Try.ntmps32
    go_wp2_with fail
    refine (equalI_anyK x.r y.r x.p y.p x.c y.c _ hlH.out.1 hlH.out.2 (hrH.out.1.gr (((Gr.refl _).alloc _).alloc _)) (hrH.out.2.gr (((Gr.refl _).alloc _).alloc _))).mono ?_
    rintro e w' ⟨rfl, hg⟩
    have hgH : Hid (Gr w w') := (((Gr.refl w).alloc _).alloc _).trans hg
    clear hg
    go_wp2
    go_ret
    exact ⟨by rw [hfin.out]; rfl, hgH.out⟩
set_option maxHeartbeats 1000000 in
theorem equalF_any (a b : List Itm) (A B : Option Addr) (ca cb : Nat) (w : World) (hal : a.length ≤ maxLen) (ha : Items w A a) (hb : Items w B b) :
    Calls Try.prog 31 #[.slice A a.length ca, .slice B b.length cb, .func (.func 32) #[] #[]] w fun e w' => e = .returned (.bool (decide (a.map Itm.z = b.map Itm.z))) ∧ Gr w w' := by
  unfold maxLen at hal
  have haH : Hid (Items w A a ∧ Items w B b) := ⟨ha, hb⟩
  clear ha hb
  by_cases hlen : a.length = b.length
  · have hlz : ((a.length : Int) != (b.length : Int)) = false := by simp [hlen]
    have hlenH : Hid (a.length = b.length) := hlen
    clear hlen
    go_enter Try.func31, Try.ntmps31
    go_wp2
    go_loopw [17] (fun i wr => ∃ k : Nat, k ≤ a.length ∧ i = .int .i64 k ∧ Hid (∀ j (h1 : j < a.length) (h2 : j < b.length), j < k → sameI a[j] b[j] = true) ∧ Gr w wr) (fun i _ => a.length - (intOf i).toNat)
    case atStart => exact ⟨0, Nat.zero_le _, rfl, fun j _ _ hj => absurd hj (Nat.not_lt_zero _), Gr.refl _⟩
    case round =>
      obtain ⟨k, hk, rfl, hno, hgr⟩ := hrel
      by_cases hlt : k < a.length
      · have hltz : (k : Int) < (a.length : Int) := by omega
        have hlt2 : k < b.length := by rw [← hlenH.out]; exact hlt
        have hltz2 : (k : Int) < (b.length : Int) := by omega
        have hI : Hid (Items wr A a ∧ Items wr B b) := ⟨haH.out.1.gr hgr, haH.out.2.gr hgr⟩
        obtain ⟨bb, off, rfl, hb, hcs⟩ := hI.out.1.at hlt
        obtain ⟨bc, of2, rfl, hb2, hcs2⟩ := hI.out.2.at hlt2
        obtain ⟨x, hx⟩ : ∃ x, a[k] = x := ⟨_, rfl⟩
        obtain ⟨y, hy⟩ : ∃ y, b[k] = y := ⟨_, rfl⟩
        obtain ⟨e0, e1⟩ := hcs k hlt
        obtain ⟨f0, f1⟩ := hcs2 k hlt2
        rw [hx] at e0 e1
        rw [hy] at f0 f1
        have hxH : Hid (a[k] = x ∧ b[k] = y) := ⟨hx, hy⟩
        have hxr : Hid (RowI wr x.p x.r ∧ x.r.length ≤ maxLen) := ⟨(hI.out.1.each x (by rw [← hx]; exact List.getElem_mem hlt)).1, (hI.out.1.each x (by rw [← hx]; exact List.getElem_mem hlt)).2.1⟩
        have hyr : Hid (RowI wr y.p y.r ∧ y.r.length ≤ maxLen) := ⟨(hI.out.2.each y (by rw [← hy]; exact List.getElem_mem hlt2)).1, (hI.out.2.each y (by rw [← hy]; exact List.getElem_mem hlt2)).2.1⟩
        clear hcs hcs2 hx hy
        go_wp2_with fail
        have hg0 : Hid (Gr wr ((wr.alloc (.cells #[.slice x.p x.r.length x.c, .int .i64 x.n] 45)).alloc (.cells #[.slice y.p y.r.length y.c, .int .i64 y.n] 45))) := ((Gr.refl _).alloc _).alloc _
        refine (same1_any x y _ hxr.out.2 hyr.out.2 (hxr.out.1.gr hg0.out) (hyr.out.1.gr hg0.out)).mono ?_
        rintro e w2 ⟨rfl, hg2⟩
        have hgw : Hid (Gr w w2) := (hgr.trans hg0.out).trans hg2
        clear hg0 hg2
        cases hq : sameI x y
        · have hfin : Hid (decide (a.map Itm.z = b.map Itm.z) = false) := by
            refine decide_eq_false fun h => ?_
            have h2 : (a.map Itm.z)[k]? = (b.map Itm.z)[k]? := by rw [h]
            rw [List.getElem?_map, List.getElem?_map, List.getElem?_eq_getElem hlt, List.getElem?_eq_getElem hlt2, hxH.out.1, hxH.out.2] at h2
            have h3 : x.z = y.z := by simpa using h2
            rw [sameI_iff.2 h3] at hq; cases hq
          go_wp2
          go_ret
          exact ⟨by rw [hfin.out]; rfl, hgw.out⟩
        · go_wp2
          go_roundw
          case rel =>
            refine ⟨k + 1, by omega, by go_num, ?_, hgw.out⟩
            intro j hj hj2 hjk
            by_cases e : j = k
            · subst e; rw [hxH.out.1, hxH.out.2]; exact hq
            · exact hno j hj hj2 (by omega)
          case measure => simp [intOf]; omega
      · have hltz : ¬ (k : Int) < (a.length : Int) := by omega
        have hfin : Hid (decide (a.map Itm.z = b.map Itm.z) = true) := by
          refine decide_eq_true ?_
          refine List.ext_getElem (by simpa using hlenH.out) fun j h1 h2 => ?_
          have h1' : j < a.length := by simpa using h1
          have h2' : j < b.length := by simpa using h2
          rw [List.getElem_map, List.getElem_map]
          exact sameI_iff.1 (hno j h1' h2' (by omega))
        go_wp2
        go_ret
        exact ⟨by rw [hfin.out]; rfl, hgr⟩
  · have hlz : ((a.length : Int) != (b.length : Int)) = true := by simp; omega
    have hfin : Hid (decide (a.map Itm.z = b.map Itm.z) = false) := by
      refine decide_eq_false fun h => hlen ?_
      have := congrArg List.length h
      simpa using this
    clear hlen
    go_enter Try.func31, Try.ntmps31
    go_wp2
    go_ret
    exact ⟨by rw [hfin.out]; rfl, Gr.refl _⟩
set_option maxHeartbeats 1000000 in
theorem sameS_any (a b : List Itm) (A B : Option Addr) (ca cb : Nat) (w : World) (hal : a.length ≤ maxLen) (ha : Items w A a) (hb : Items w B b) :
    Calls Try.prog 13 #[.slice A a.length ca, .slice B b.length cb] w fun e w' => e = .returned (.bool (decide (a.map Itm.z = b.map Itm.z))) ∧ Gr w w' := by
  have hH : Hid _ := equalF_any a b A B ca cb w hal ha hb
  obtain ⟨r, hr⟩ : ∃ r, decide (a.map Itm.z = b.map Itm.z) = r := ⟨_, rfl⟩
  rw [hr] at hH ⊢
  clear hr hal ha hb
  go_enter Try.func13, Try.ntmps13
  go_wp2_with fail
  refine Calls.mono (show Calls _ _ _ _ _ from hH.out) ?_
  rintro e w' ⟨rfl, hg⟩
  go_wp2
  go_ret
  exact ⟨rfl, hg⟩

end Go.Proofs.Ytgmdjioobidadaa

namespace Go.Proofs.Ytgmdjioobidadaa
open Go.ChangeShapes Go.WideShapes Go.ChangeAt Go.RowKit Go.Deep

theorem ownK : ownKnob Try.prog.godebug = none := by kernel_rfl
theorem laidAll : laidOutB Try.prog = true := by kernel_rfl


end Go.Proofs.Ytgmdjioobidadaa
