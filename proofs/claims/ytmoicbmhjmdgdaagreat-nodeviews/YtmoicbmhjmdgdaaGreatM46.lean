/-
  The law NodeViews.
-/
import Derived.Test.YtmoicbmhjmdgdaaGreatM45
namespace Go.Proofs.YtmoicbmhjmdgdaaGreat
open Go.RowKit Go.Sort Go.Maps

set_option maxRecDepth 100000 in
set_option maxHeartbeats 8000000 in
theorem nodeViews_any (l : List Actm) (LA : Option Addr) (lc : Nat) (w : World) (hA : Acts w LA l) :
  Calls Tryz.prog 3 #[.slice LA l.length lc] w fun e w' => e = .returned (.bool true) ∧ Below w.heap.size w w' := by
 have hAH : Hid (Acts w LA l) := hA
 clear hA
 have hN0 := newN_any w 1 (by omega) (by omega)
 have hN : Hid _ := hN0
 clear hN0
 go_enter Tryz.func3, Tryz.ntmps3
 go_wp2_with fail
 refine Calls.mono (show Calls _ _ _ _ _ from hN.out) ?_
 rintro e w1 ⟨rfl, f1, f2⟩
 have h1 : Hid (Nx w1 w.heap.size 1 noneT noneT [] (.slice none 0 0) ∧ Below w.heap.size w w1) := ⟨⟨_, f1, fun g hg => (ob_none g hg).elim⟩, f2⟩
 clear f1 f2 hN
 have hC0 := watchX (h1.out.1.below ((Gr.refl w1).alloc (.cells #[.int .i64 1, .int .i64 0, .int .i64 0, .int .i64 0, .int .i64 0, .int .i64 0, .slice none 0 0] 30)).below) (fun g hg => (ob_none g hg).elim) tabQ (some ⟨w1.heap.size, 0, none⟩) 1 (by simp [tabQ, maxLen]) ⟨row_lit encQ_len rfl (Gr.refl _) rfl, fun s hs => by rw [List.mem_singleton.1 hs]; exact ⟨Or.inl rfl, by simp [maxLen], fun _ => rfl⟩⟩
 rw [show wtE tabQ [] = 0 by decide, show wtQ tabQ [] = [tabQ] from rfl] at hC0
 have hC : Hid _ := hC0
 clear hC0
 go_wp2_with fail
 refine Calls.mono (show Calls _ _ _ _ _ from hC.out) ?_
 rintro e w2 ⟨rfl, f1, f2⟩
 have h2 : Hid (Nx w2 w.heap.size 1 noneT noneT [tabQ] (.slice none 0 0) ∧ Below w.heap.size w w2) := ⟨f1, (h1.out.2.trans (((Gr.refl w1).alloc _).below.mono h1.out.2.size)).trans (f2.bel (Nat.le_refl _) (Nat.lt_of_lt_of_le h1.out.1.lt (by simp)))⟩
 clear f1 f2 hC h1
 have hC0 := doX h2.out.1 (fun g hg => (ob_none g hg).elim) 1 0 3 0 4
 rw [first_do.1, first_do.2.1, first_do.2.2] at hC0
 have hC : Hid _ := hC0
 clear hC0
 go_wp2_with fail
 refine Calls.mono (show Calls _ _ _ _ _ from hC.out) ?_
 rintro e w3 ⟨rfl, f1, f2⟩
 have h3 : Hid (Nx w3 w.heap.size 1 oneT noneT [tabQ] (.slice none 0 0) ∧ Below w.heap.size w w3) := ⟨f1, h2.out.2.trans (f2.bel (Nat.le_refl _) h2.out.1.lt)⟩
 clear f1 f2 hC h2
 have hC0 := viewX h3.out.1 (j := 0) (by simp)
 rw [show ([tabQ] : List (List Stp))[0] = tabQ from rfl, one_of, none_of, tabQ_tells.1, tabQ_tells.2] at hC0
 have hC : Hid _ := hC0
 clear hC0
 go_wp2_with fail
 refine Calls.mono (show Calls _ _ _ _ _ from hC.out) ?_
 rintro e w4 ⟨L, C, k, rfl, f1, f2, f3⟩
 have h4 : Hid (Nx w4 w.heap.size 1 oneT noneT [tabQ] (.slice none 0 0) ∧ Below w.heap.size w w4 ∧ Lv w4 C k L ∧ L.map Itm.z = [([3, 4, 0, 0], 1)]) := ⟨h3.out.1.below f3, h3.out.2.trans (f3.mono h3.out.2.size), f2, f1⟩
 clear f1 f2 f3 hC h3
 have hlit : Lv ((w4.alloc (.cells #[.int .i64 3, .int .i64 4, .int .i64 0, .int .i64 0] 3)).alloc (.cells #[.slice (some ⟨w4.heap.size, 0, none⟩) 4 4, .int .i64 1] 40)) (some ⟨w4.heap.size + 1, 0, none⟩) 1 [⟨some ⟨w4.heap.size, 0, none⟩, 4, [3, 4, 0, 0], 1⟩] := by
  refine ⟨⟨row_lit encT_len (by simp) (Gr.refl _) rfl, fun x hx => ?_⟩, NilC.mk (fun h => by cases h) (by simp), by simp [maxLen]⟩
  rw [List.mem_singleton.1 hx]
  exact ⟨row_lit encI_len rfl ((Gr.refl _).alloc _) rfl, by simp [maxLen], fun h => by cases h⟩
 have hC0 := sameV (h4.out.2.2.1.gr (((Gr.refl w4).alloc _).alloc _)) hlit h4.out.2.2.2
 have hC : Hid _ := hC0
 clear hC0 hlit
 go_wp2_with fail
 refine Calls.mono (show Calls _ _ _ _ _ from hC.out) ?_
 rintro e w5 ⟨rfl, f1⟩
 have h5 : Hid (Nx w5 w.heap.size 1 oneT noneT [tabQ] (.slice none 0 0) ∧ Below w.heap.size w w5) := by
  have hg := (((Gr.refl w4).alloc _).alloc _).trans f1
  exact ⟨h4.out.1.below hg.below, h4.out.2.1.trans (hg.below.mono h4.out.2.1.size)⟩
 clear f1 hC h4
 by_cases h60 : 60 < l.length
 ·have h60z : 60 < (l.length : Int) := by omega
  go_wp2
  go_ret
  exact ⟨rfl, h5.out.2⟩
 have h60z : ¬ 60 < (l.length : Int) := by omega
 go_wp2
 have hS1 : Hid (∃ w6, (w5.alloc (.cells #[.int .i64 1, .int .i64 0, .int .i64 0, .int .i64 0, .int .i64 0, .int .i64 0, .slice none 0 0] 30)).alloc (.cells #[.slice (some ⟨w5.heap.size, 0, none⟩) 1 1] 31) = w6 ∧ Inv w w6 w.heap.size (w5.heap.size + 1) (.slice (some ⟨w5.heap.size + 1, 0, none⟩) 1 1) oneT noneT [⟨some ⟨w5.heap.size, 0, none⟩, 1, tabQ⟩]) := by
  refine ⟨_, rfl, ?_⟩
  have hg : Gr w5 ((w5.alloc (.cells #[.int .i64 1, .int .i64 0, .int .i64 0, .int .i64 0, .int .i64 0, .int .i64 0, .slice none 0 0] 30)).alloc (.cells #[.slice (some ⟨w5.heap.size, 0, none⟩) 1 1] 31)) := ((Gr.refl _).alloc _).alloc _
  have hlt := h5.out.1.lt
  obtain ⟨P5, hP5, _⟩ := h5.out.1
  refine ⟨⟨P5, hP5.below hg.below, fun g hg8 hp => ?_⟩, ?_, fun x hx => ?_, h5.out.2.trans (hg.below.mono h5.out.2.size), by omega, by simp⟩
  ·have := hP5.up g hp
   injection hg8 with hg8
   have hg9 : w5.heap.size + 1 = g := hg8
   omega
  ·have hs1 : (w5.alloc (.cells #[.int .i64 1, .int .i64 0, .int .i64 0, .int .i64 0, .int .i64 0, .int .i64 0, .slice none 0 0] 30)).heap.size = w5.heap.size + 1 := by simp
   have : OwnG encU 1 31 ((w5.alloc (.cells #[.int .i64 1, .int .i64 0, .int .i64 0, .int .i64 0, .int .i64 0, .int .i64 0, .slice none 0 0] 30)).alloc (.cells #[.slice (some ⟨w5.heap.size, 0, none⟩) 1 1] 31)) (w5.alloc (.cells #[.int .i64 1, .int .i64 0, .int .i64 0, .int .i64 0, .int .i64 0, .int .i64 0, .slice none 0 0] 30)).heap.size (.slice (some ⟨(w5.alloc (.cells #[.int .i64 1, .int .i64 0, .int .i64 0, .int .i64 0, .int .i64 0, .int .i64 0, .slice none 0 0] 30)).heap.size, 0, none⟩) 1 1) [⟨some ⟨w5.heap.size, 0, none⟩, 1, tabQ⟩] := World.ownsRow_lit (w5.alloc (.cells #[.int .i64 1, .int .i64 0, .int .i64 0, .int .i64 0, .int .i64 0, .int .i64 0, .slice none 0 0] 30)) #[.slice (some ⟨w5.heap.size, 0, none⟩) 1 1] 1 (Nat.le_refl _) (by unfold maxLen; omega) rfl
   rw [hs1] at this
   exact this
  ·rw [List.mem_singleton.1 hx]
   refine ⟨⟨⟨row_lit encQ_len rfl ((Gr.refl _).alloc _) rfl, fun y hy => by rw [List.mem_singleton.1 hy]; exact ⟨Or.inl rfl, by simp [maxLen], fun _ => rfl⟩⟩, fun a ha _ => ?_, fun y hy a ha => ?_⟩, by simp [tabQ, maxLen]⟩
   ·injection ha with ha
    subst ha
    show w5.heap.size ≠ w.heap.size ∧ w5.heap.size < w5.heap.size + 1
    omega
   ·rw [List.mem_singleton.1 hy] at ha
    cases ha
 obtain ⟨w6, hw6, hI0⟩ := hS1.out
 rw [hw6]
 have hI6 : Hid (Inv w w6 w.heap.size (w5.heap.size + 1) (.slice (some ⟨w5.heap.size + 1, 0, none⟩) 1 1) oneT noneT [⟨some ⟨w5.heap.size, 0, none⟩, 1, tabQ⟩]) := hI0
 clear hS1 hw6 hI0 h5
 have hl60 : l.length ≤ 60 := by omega
 have hwb : Hid (w.heap.size ≤ w5.heap.size + 1) := by have := hI6.out.lo; show _ ≤ _; omega
 generalize hbase : w5.heap.size + 1 = base at hI6 hwb
 clear hbase
 clear h60 h60z
 go_loopw [7, 72] (fun v i wr => ∃ (k : Nat) (s t : Tab) (Q : List Qs), k ≤ l.length ∧ i = .int .i64 k ∧ Hid (Inv w wr w.heap.size base v s t Q)) (fun _ i _ => l.length - (intOf i).toNat)
 case atStart => exact ⟨0, oneT, noneT, _, Nat.zero_le _, rfl, hI6⟩
 case round => as_aux_lemma =>
  obtain ⟨k, s, t, Q, hk, rfl, hR⟩ := hrel
  by_cases hlt : k < l.length
  ·have hltz : (k : Int) < (l.length : Int) := by omega
   obtain ⟨bb, off, rfl, hb, hcs⟩ := (hAH.out.below hR.out.bel).at hlt
   obtain ⟨x, hx⟩ : ∃ x, l[k] = x := ⟨_, rfl⟩
   have hxm : Hid (x ∈ l) := by show _ ∈ _; rw [← hx]; exact List.getElem_mem hlt
   rw [hx] at hcs
   have hld : Hid (wr.rangeAt bb (off + k * 19) [.int .i64 x.k, .int .i64 x.x1, .int .i64 x.x2, .int .i64 x.x3, .int .i64 x.x4, .int .i64 x.x5, .int .i64 x.a.c.c0, .int .i64 x.a.c.c1, .int .i64 x.a.c.c2, .int .i64 x.a.c.c3, .slice x.A x.a.c.l.length x.ca, .slice x.C x.a.e.length x.cc, .int .i64 x.b.c.c0, .int .i64 x.b.c.c1, .int .i64 x.b.c.c2, .int .i64 x.b.c.c3, .slice x.B x.b.c.l.length x.cb, .slice x.D x.b.e.length x.cd, .slice x.Q x.q.length x.cq]) := fun j v hv => (hcs j (by have := (List.getElem?_eq_some_iff.1 hv).1; simpa using this)).trans hv
   clear hcs hx
   have hth : Hid ((wr.alloc (.cells #[.int .i64 0, .int .i64 0, .int .i64 0, .int .i64 0, .int .i64 0, .int .i64 0, .int .i64 0, .int .i64 0, .int .i64 0, .int .i64 0, .slice none 0 0, .slice none 0 0, .int .i64 0, .int .i64 0, .int .i64 0, .int .i64 0, .slice none 0 0, .slice none 0 0, .slice none 0 0] 53)).there wr.heap.size 0 (#[.int .i64 x.k, .int .i64 x.x1, .int .i64 x.x2, .int .i64 x.x3, .int .i64 x.x4, .int .i64 x.x5, .int .i64 x.a.c.c0, .int .i64 x.a.c.c1, .int .i64 x.a.c.c2, .int .i64 x.a.c.c3, .slice x.A x.a.c.l.length x.ca, .slice x.C x.a.e.length x.cc, .int .i64 x.b.c.c0, .int .i64 x.b.c.c1, .int .i64 x.b.c.c2, .int .i64 x.b.c.c3, .slice x.B x.b.c.l.length x.cb, .slice x.D x.b.e.length x.cd, .slice x.Q x.q.length x.cq] : Array Value).size) := fun j hj => by
    have hC := Cls.new wr #[.int .i64 0, .int .i64 0, .int .i64 0, .int .i64 0, .int .i64 0, .int .i64 0, .int .i64 0, .int .i64 0, .int .i64 0, .int .i64 0, .slice none 0 0, .slice none 0 0, .int .i64 0, .int .i64 0, .int .i64 0, .int .i64 0, .slice none 0 0, .slice none 0 0, .slice none 0 0] 53
    have hjl : j < ([.int .i64 0, .int .i64 0, .int .i64 0, .int .i64 0, .int .i64 0, .int .i64 0, .int .i64 0, .int .i64 0, .int .i64 0, .int .i64 0, .slice none 0 0, .slice none 0 0, .int .i64 0, .int .i64 0, .int .i64 0, .int .i64 0, .slice none 0 0, .slice none 0 0, .slice none 0 0] : List Value).length := hj
    rw [Nat.zero_add, hC.cell (List.getElem?_eq_getElem hjl)]
    exact ⟨rfl, hC.fz j⟩
   have hone : Hid ((#[.int .i64 x.k, .int .i64 x.x1, .int .i64 x.x2, .int .i64 x.x3, .int .i64 x.x4, .int .i64 x.x5, .int .i64 x.a.c.c0, .int .i64 x.a.c.c1, .int .i64 x.a.c.c2, .int .i64 x.a.c.c3, .slice x.A x.a.c.l.length x.ca, .slice x.C x.a.e.length x.cc, .int .i64 x.b.c.c0, .int .i64 x.b.c.c1, .int .i64 x.b.c.c2, .int .i64 x.b.c.c3, .slice x.B x.b.c.l.length x.cb, .slice x.D x.b.e.length x.cd, .slice x.Q x.q.length x.cq] : Array Value).all (·.oneCell') = true) := all_oneCell_toArray (encA_one x)
   go_upto_region 11 with (first
    | (with_reducible refine wpList_load_mid rfl 53 (.tmp 74) rfl bb (off + k * 19) rfl [.int .i64 x.k, .int .i64 x.x1, .int .i64 x.x2, .int .i64 x.x3, .int .i64 x.x4, .int .i64 x.x5, .int .i64 x.a.c.c0, .int .i64 x.a.c.c1, .int .i64 x.a.c.c2, .int .i64 x.a.c.c3, .slice x.A x.a.c.l.length x.ca, .slice x.C x.a.e.length x.cc, .int .i64 x.b.c.c0, .int .i64 x.b.c.c1, .int .i64 x.b.c.c2, .int .i64 x.b.c.c3, .slice x.B x.b.c.l.length x.cb, .slice x.D x.b.e.length x.cd, .slice x.Q x.q.length x.cq] _ hld.out Tryz.underlying53 rfl (by kernel_rfl) ?_)
    | (with_reducible refine wpList_store_mid rfl 53 (.tmp 9) (.tmp 75) rfl wr.heap.size 0 #[.int .i64 x.k, .int .i64 x.x1, .int .i64 x.x2, .int .i64 x.x3, .int .i64 x.x4, .int .i64 x.x5, .int .i64 x.a.c.c0, .int .i64 x.a.c.c1, .int .i64 x.a.c.c2, .int .i64 x.a.c.c3, .slice x.A x.a.c.l.length x.ca, .slice x.C x.a.e.length x.cc, .int .i64 x.b.c.c0, .int .i64 x.b.c.c1, .int .i64 x.b.c.c2, .int .i64 x.b.c.c3, .slice x.B x.b.c.l.length x.cb, .slice x.D x.b.e.length x.cd, .slice x.Q x.q.length x.cq] rfl rfl hth.out (by kernel_rfl) hone.out ?_))
   have hal := alloc_sets 53 wr [.int .i64 x.k, .int .i64 x.x1, .int .i64 x.x2, .int .i64 x.x3, .int .i64 x.x4, .int .i64 x.x5, .int .i64 x.a.c.c0, .int .i64 x.a.c.c1, .int .i64 x.a.c.c2, .int .i64 x.a.c.c3, .slice x.A x.a.c.l.length x.ca, .slice x.C x.a.e.length x.cc, .int .i64 x.b.c.c0, .int .i64 x.b.c.c1, .int .i64 x.b.c.c2, .int .i64 x.b.c.c3, .slice x.B x.b.c.l.length x.cb, .slice x.D x.b.e.length x.cd, .slice x.Q x.q.length x.cq] [] [.int .i64 0, .int .i64 0, .int .i64 0, .int .i64 0, .int .i64 0, .int .i64 0, .int .i64 0, .int .i64 0, .int .i64 0, .int .i64 0, .slice none 0 0, .slice none 0 0, .int .i64 0, .int .i64 0, .int .i64 0, .int .i64 0, .slice none 0 0, .slice none 0 0, .slice none 0 0] rfl
   simp only [List.nil_append, List.length_nil] at hal
   obtain ⟨wa, hwa⟩ : ∃ W, wr.alloc (.cells #[.int .i64 x.k, .int .i64 x.x1, .int .i64 x.x2, .int .i64 x.x3, .int .i64 x.x4, .int .i64 x.x5, .int .i64 x.a.c.c0, .int .i64 x.a.c.c1, .int .i64 x.a.c.c2, .int .i64 x.a.c.c3, .slice x.A x.a.c.l.length x.ca, .slice x.C x.a.e.length x.cc, .int .i64 x.b.c.c0, .int .i64 x.b.c.c1, .int .i64 x.b.c.c2, .int .i64 x.b.c.c3, .slice x.B x.b.c.l.length x.cb, .slice x.D x.b.e.length x.cd, .slice x.Q x.q.length x.cq] 53) = W := ⟨_, rfl⟩

   rw [hal, hwa]
   clear hal hth hone
   have hB : Hid (Inv w wa w.heap.size base u7 s t Q ∧ Cls wa wr.heap.size [.int .i64 x.k, .int .i64 x.x1, .int .i64 x.x2, .int .i64 x.x3, .int .i64 x.x4, .int .i64 x.x5, .int .i64 x.a.c.c0, .int .i64 x.a.c.c1, .int .i64 x.a.c.c2, .int .i64 x.a.c.c3, .slice x.A x.a.c.l.length x.ca, .slice x.C x.a.e.length x.cc, .int .i64 x.b.c.c0, .int .i64 x.b.c.c1, .int .i64 x.b.c.c2, .int .i64 x.b.c.c3, .slice x.B x.b.c.l.length x.cb, .slice x.D x.b.e.length x.cd, .slice x.Q x.q.length x.cq] ∧ ActIn wa x) := by
    have hg : Gr wr wa := by rw [← hwa]; exact (Gr.refl _).alloc _
    have hI := hR.out.below hg.below
    exact ⟨hI, by rw [← hwa]; exact Cls.new wr _ _, (hAH.out.each x hxm.out).below hI.bel⟩
   have hrl : Hid (w.heap.size < wr.heap.size) := hR.out.nd.lt
   clear hwa hR hb hld
   have ak := hB.out.2.1.cell (j := 0) rfl
   go_upto_block 2 with fail
   clear ak
   go_cut [7, 72] from 72 to 160 (fun v7 v72 wx => v72 = .int .i64 k ∧ ∃ (s' t' : Tab) (Q' : List Qs), Hid (Inv w wx w.heap.size base v7 s' t' Q'))
   case first => as_aux_lemma =>
    have a0 := hB.out.2.1.cell (j := 0) rfl
    have a1 := hB.out.2.1.cell (j := 1) rfl
    have a2 := hB.out.2.1.cell (j := 2) rfl
    have a3 := hB.out.2.1.cell (j := 3) rfl
    have a4 := hB.out.2.1.cell (j := 4) rfl
    have a5 := hB.out.2.1.cell (j := 5) rfl
    have a6 := hB.out.2.1.cell (j := 6) rfl
    have a7 := hB.out.2.1.cell (j := 7) rfl
    have a8 := hB.out.2.1.cell (j := 8) rfl
    have a9 := hB.out.2.1.cell (j := 9) rfl
    have a10 := hB.out.2.1.cell (j := 10) rfl
    have a11 := hB.out.2.1.cell (j := 11) rfl
    have a12 := hB.out.2.1.cell (j := 12) rfl
    have a13 := hB.out.2.1.cell (j := 13) rfl
    have a14 := hB.out.2.1.cell (j := 14) rfl
    have a15 := hB.out.2.1.cell (j := 15) rfl
    have a16 := hB.out.2.1.cell (j := 16) rfl
    have a17 := hB.out.2.1.cell (j := 17) rfl
    have a18 := hB.out.2.1.cell (j := 18) rfl
    have hNl : w.heap.size ≤ w.heap.size := Nat.le_refl _
    by_cases h0 : x.k = 0
    ·as_aux_lemma =>
     have hC0 := doX hB.out.1.nd hB.out.1.ob x.x1 x.x2 x.x3 x.x4 x.x5
     have hC : Hid _ := hC0
     have hk0 : (x.k == 0) = true := by simpa using h0
     clear hC0 h0
     go_wp2_with fail
     refine Calls.mono (show Calls _ _ _ _ _ from hC.out) ?_
     rintro e wd ⟨rfl, f1, f2⟩
     have hfin : Hid (Inv w wd w.heap.size base u7 _ _ Q) := hB.out.1.wrote hNl f2 f1
     clear f1 f2 hC
     go_wp2_with fail
     go_meet
     case rel => exact ⟨rfl, _, _, Q, hfin⟩
    ·have hk0 : (x.k == 0) = false := by simpa using h0
     by_cases h1 : x.k = 1
     ·as_aux_lemma =>
      have hI := hB.out.2.2
      have hC0 := takeX hB.out.1.nd hB.out.1.ob x.a x.b x.A x.B x.C x.D x.ca x.cb x.cc x.cd hI.ra hI.rc hI.rb hI.rd hI.la hI.lc hI.lb hI.ld hI.na hI.nb
      have hC : Hid _ := hC0
      have hk1 : (x.k == 1) = true := by simpa using h1
      clear hC0 hI h0 h1
      go_wp2_with fail
      refine Calls.mono (show Calls _ _ _ _ _ from hC.out) ?_
      rintro e wd ⟨rfl, f1, f2⟩
      have hfin : Hid (Inv w wd w.heap.size base u7 _ _ Q) := hB.out.1.wrote hNl f2 f1
      clear f1 f2 hC
      go_wp2_with fail
      go_meet
      case rel => exact ⟨rfl, _, _, Q, hfin⟩
     ·have hk1 : (x.k == 1) = false := by simpa using h1
      by_cases h2 : x.k = 2
      ·as_aux_lemma =>
       have hI := hB.out.2.2
       have hC0 := watchX hB.out.1.nd hB.out.1.ob x.q x.Q x.cq hI.lq hI.st
       obtain ⟨E, hE⟩ : ∃ E, wtE x.q (Q.map Qs.q) = E := ⟨_, rfl⟩
       rw [hE] at hC0
       have hC : Hid _ := hC0
       have hEH : Hid (wtE x.q (Q.map Qs.q) = E) := hE
       have hk2 : (x.k == 2) = true := by simpa using h2
       clear hC0 hI h0 h1 h2 hE
       go_wp2_with fail
       refine Calls.mono (show Calls _ _ _ _ _ from hC.out) ?_
       rintro e wd ⟨rfl, f1, f2⟩
       cases hn : (E == 0)
       ·have hfin : Hid (Inv w wd w.heap.size base u7 s t Q) := by
         have h3 : ¬ E = 0 := by simpa using hn
         rw [show wtQ x.q (Q.map Qs.q) = Q.map Qs.q by unfold wtQ; rw [hEH.out, if_neg h3]] at f1
         exact hB.out.1.wrote hNl f2 f1
        clear f1 f2 hC
        go_wp2_with fail
        go_meet
        case rel => exact ⟨rfl, s, t, Q, hfin⟩
       ·obtain ⟨X, hX⟩ : ∃ X : Qs, X = ⟨x.Q, x.cq, x.q⟩ := ⟨_, rfl⟩
        have hfin : Hid (Nx wd w.heap.size 1 s t ((Q ++ [X]).map Qs.q) u7 ∧ Q.length < 4 ∧ OwnG encU 1 31 wd base u7 Q ∧ (∀ y ∈ Q, StP (fun b => b ≠ w.heap.size ∧ b < base) wd y.p y.q ∧ y.q.length ≤ maxLen) ∧ Below w.heap.size w wd ∧ Cls wd wr.heap.size [.int .i64 x.k, .int .i64 x.x1, .int .i64 x.x2, .int .i64 x.x3, .int .i64 x.x4, .int .i64 x.x5, .int .i64 x.a.c.c0, .int .i64 x.a.c.c1, .int .i64 x.a.c.c2, .int .i64 x.a.c.c3, .slice x.A x.a.c.l.length x.ca, .slice x.C x.a.e.length x.cc, .int .i64 x.b.c.c0, .int .i64 x.b.c.c1, .int .i64 x.b.c.c2, .int .i64 x.b.c.c3, .slice x.B x.b.c.l.length x.cb, .slice x.D x.b.e.length x.cd, .slice x.Q x.q.length x.cq] ∧ (StP (fun b => b ≠ w.heap.size ∧ b < base) wd X.p X.q ∧ X.q.length ≤ maxLen) ∧ base ≤ wd.heap.size ∧ w.heap.size < base) := by
         subst hX
         have h3 : E = 0 := by simpa using hn
         have hq : wtQ x.q (Q.map Qs.q) = Q.map Qs.q ++ [x.q] := by unfold wtQ; rw [hEH.out, if_pos h3]
         rw [hq] at f1
         have hle := f1.le
         simp only [List.length_append, List.length_map, List.length_singleton] at hle
         have hI := hB.out.1
         have hlo := hI.lo
         have hbl := hI.bel.trans (f2.bel hNl hI.nd.lt)
         have hst0 := (hAH.out.each x hxm.out).st
         have hst := hst0.below hbl
         have hra := hrl.out
         refine ⟨by rw [List.map_append]; exact f1, by omega, own_agr hI.own (f2.agr fun h' => by omega), fun y hy => ⟨(hI.each y hy).1.agr (f2.agr fun h' => h'.1 rfl), (hI.each y hy).2⟩, hbl, hB.out.2.1.keep (f2.oth _ hB.out.2.1.lt (by omega)), ⟨⟨hst, fun a ha hl => ?_, fun y hy a ha hl => ?_⟩, hB.out.2.2.lq⟩, Nat.le_trans hI.hi f2.size, hlo⟩
         ·have := hst0.row.lt a ha hl
          show a.block ≠ w.heap.size ∧ a.block < base
          omega
         ·have := (hst0.each y hy).1.lt a ha hl
          show a.block ≠ w.heap.size ∧ a.block < base
          omega
        clear f1 f2 hC
        have b18 := hfin.out.2.2.2.2.2.1.cell (j := 18) rfl
        have hrw : Hid (RowG encU 1 (wd.alloc (.cells #[.slice x.Q x.q.length x.cq] 31)) (some ⟨wd.heap.size, 0, none⟩) [X]) := by rw [hX]; exact row_lit encU_len rfl (Gr.refl _) rfl
        have how : Hid (OwnG encU 1 31 (wd.alloc (.cells #[.slice x.Q x.q.length x.cq] 31)) base u7 Q ∧ Q.length + 1 ≤ maxLen ∧ (Q.length + 1) * 24 ≤ 140737488355328 ∧ base ≤ (wd.alloc (.cells #[.slice x.Q x.q.length x.cq] 31)).heap.size) := by
         have h1 := hfin.out.2.1
         have h2 := hfin.out.2.2.2.2.2.2.2.1
         exact ⟨OwnG.gr hfin.out.2.2.1 ((Gr.refl _).alloc _), by unfold maxLen; omega, by omega, by simp; omega⟩
        clear hX
        go_wp2_with (at_builtin; refine wpList_append_u _ rfl (.tmp 97) (.tmp 100) rfl base u7 Q X ⟨wd.heap.size, 0, none⟩ 1 rfl rfl how.out.1 hrw.out how.out.2.1 how.out.2.2.1 how.out.2.2.2 ?_; intro v8 w8 hown8 hg8 hob8)
        have hfin2 : Hid (Inv w w8 w.heap.size base v8 s t (Q ++ [X])) := by
         obtain ⟨g1, _, _, g4, g5, _, g7, g8, g9⟩ := hfin.out
         exact Inv.more g1 how.out.1 g4 g7 g5 g9 g8 hwb.out ((Gr.refl _).alloc _) hown8 hg8 hob8
        clear hown8 hg8 hob8 hfin how hrw b18
        go_wp2_with fail
        go_meet
        case rel => exact ⟨rfl, s, t, Q ++ [X], hfin2⟩
      ·as_aux_lemma =>
       have hk2 : (x.k == 2) = false := by simpa using h2
       have hfin : Hid (Inv w wa w.heap.size base u7 s t Q) := hB.out.1
       clear h0 h1 h2
       go_wp2_with fail
       go_meet
       case rel => exact ⟨rfl, s, t, Q, hfin⟩
   case rest => as_aux_lemma =>
    obtain ⟨rfl, s', t', Q', hI⟩ := hcut
    clear hB hrl hxm
    have hfp := fieldP
    have hC0 := wholeX hI.out.nd
    have hC : Hid _ := hC0
    clear hC0
    go_wp2_with fail
    refine Calls.mono (show Calls _ _ _ _ _ from hC.out) ?_
    rintro e wp ⟨EA, eca, EC, ecc, EB, ecb, ED, ecd, rfl, f1, f2⟩
    obtain ⟨wt, hwt⟩ : ∃ W, wp.alloc (.cells #[.int .i64 s'.c.c0, .int .i64 s'.c.c1, .int .i64 s'.c.c2, .int .i64 s'.c.c3, .slice EA s'.c.l.length eca, .slice EC s'.e.length ecc, .int .i64 t'.c.c0, .int .i64 t'.c.c1, .int .i64 t'.c.c2, .int .i64 t'.c.c3, .slice EB t'.c.l.length ecb, .slice ED t'.e.length ecd] 49) = W := ⟨_, rfl⟩
    have hT : Hid (Inv w wt w.heap.size base u7 s' t' Q' ∧ Cls wt wp.heap.size [.int .i64 s'.c.c0, .int .i64 s'.c.c1, .int .i64 s'.c.c2, .int .i64 s'.c.c3, .slice EA s'.c.l.length eca, .slice EC s'.e.length ecc, .int .i64 t'.c.c0, .int .i64 t'.c.c1, .int .i64 t'.c.c2, .int .i64 t'.c.c3, .slice EB t'.c.l.length ecb, .slice ED t'.e.length ecd] ∧ Row wt EA s'.c.l ∧ RowC wt EC s'.e ∧ Row wt EB t'.c.l ∧ RowC wt ED t'.e) := by
     have hg : Gr wp wt := by rw [← hwt]; exact (Gr.refl _).alloc _
     have hb := f2.trans (hg.below.mono f2.size)
     exact ⟨hI.out.below hb, by rw [← hwt]; exact Cls.new wp _ _, f1.1.gr hg, f1.2.1.gr hg, f1.2.2.1.gr hg, f1.2.2.2.gr hg⟩
    have hok : Hid (errT s' = 0 ∧ errT t' = 0) := hI.out.nd.ok
    clear f1 f2 hC hI
    have t0 := hT.out.2.1.cell (j := 0) rfl
    have t1 := hT.out.2.1.cell (j := 1) rfl
    have t2 := hT.out.2.1.cell (j := 2) rfl
    have t3 := hT.out.2.1.cell (j := 3) rfl
    have t4 := hT.out.2.1.cell (j := 4) rfl
    have t5 := hT.out.2.1.cell (j := 5) rfl
    have t6 := hT.out.2.1.cell (j := 6) rfl
    have t7 := hT.out.2.1.cell (j := 7) rfl
    have t8 := hT.out.2.1.cell (j := 8) rfl
    have t9 := hT.out.2.1.cell (j := 9) rfl
    have t10 := hT.out.2.1.cell (j := 10) rfl
    have t11 := hT.out.2.1.cell (j := 11) rfl
    have hlens : Hid (s'.c.l.length ≤ maxLen ∧ s'.e.length ≤ maxLen ∧ t'.c.l.length ≤ maxLen ∧ t'.e.length ≤ maxLen) := by
     have h1 := (errC_parts (errT_parts hok.out.1).1).2.1
     have h2 := (errT_parts hok.out.1).2.1
     have h3 := (errC_parts (errT_parts hok.out.2).1).2.1
     have h4 := (errT_parts hok.out.2).2.1
     unfold maxLen
     exact ⟨by omega, by omega, by omega, by omega⟩
    have hC0 := of_any s' EA eca EC ecc wt hlens.out.1 hlens.out.2.1 hT.out.2.2.1 hT.out.2.2.2.1
    rw [hok.out.1] at hC0
    have hC : Hid _ := hC0
    clear hC0
    go_wp2_with fail
    clear hwt
    refine Calls.mono (show Calls _ _ _ _ _ from hC.out) ?_
    rintro e wu ⟨La, CA, kA, rfl, f1, f2, f3, f4⟩
    have hU : Hid (Inv w wu w.heap.size base u7 s' t' Q' ∧ Cls wu wp.heap.size [.int .i64 s'.c.c0, .int .i64 s'.c.c1, .int .i64 s'.c.c2, .int .i64 s'.c.c3, .slice EA s'.c.l.length eca, .slice EC s'.e.length ecc, .int .i64 t'.c.c0, .int .i64 t'.c.c1, .int .i64 t'.c.c2, .int .i64 t'.c.c3, .slice EB t'.c.l.length ecb, .slice ED t'.e.length ecd] ∧ Row wu EB t'.c.l ∧ RowC wu ED t'.e ∧ Lv wu CA kA La ∧ La.map Itm.z = ofR s') := ⟨hT.out.1.below f4, hT.out.2.1.below f4, hT.out.2.2.2.2.1.below f4, hT.out.2.2.2.2.2.below f4, ⟨f2, f3, ts_small f1 hok.out.1⟩, f1⟩
    clear f1 f2 f3 f4 hC hT t0 t1 t2 t3 t4 t5 t6 t7 t8 t9 t10 t11
    have t0 := hU.out.2.1.cell (j := 0) rfl
    have t1 := hU.out.2.1.cell (j := 1) rfl
    have t2 := hU.out.2.1.cell (j := 2) rfl
    have t3 := hU.out.2.1.cell (j := 3) rfl
    have t4 := hU.out.2.1.cell (j := 4) rfl
    have t5 := hU.out.2.1.cell (j := 5) rfl
    have t6 := hU.out.2.1.cell (j := 6) rfl
    have t7 := hU.out.2.1.cell (j := 7) rfl
    have t8 := hU.out.2.1.cell (j := 8) rfl
    have t9 := hU.out.2.1.cell (j := 9) rfl
    have t10 := hU.out.2.1.cell (j := 10) rfl
    have t11 := hU.out.2.1.cell (j := 11) rfl
    have hC0 := of_any t' EB ecb ED ecd wu hlens.out.2.2.1 hlens.out.2.2.2 hU.out.2.2.1 hU.out.2.2.2.1
    rw [hok.out.2] at hC0
    have hC : Hid _ := hC0
    clear hC0
    go_wp2_with fail
    refine Calls.mono (show Calls _ _ _ _ _ from hC.out) ?_
    rintro e wv ⟨Lb, CB, kB, rfl, f1, f2, f3, f4⟩
    have hV : Hid (Inv w wv w.heap.size base u7 s' t' Q' ∧ Lv wv CA kA La ∧ La.map Itm.z = ofR s' ∧ Lv wv CB kB Lb ∧ Lb.map Itm.z = ofR t') := ⟨hU.out.1.below f4, hU.out.2.2.2.2.1.below f4, hU.out.2.2.2.2.2, ⟨f2, f3, ts_small f1 hok.out.2⟩, f1⟩
    clear f1 f2 f3 f4 hC hU t0 t1 t2 t3 t4 t5 t6 t7 t8 t9 t10 t11
    have hC0 := viewsX hV.out.1.nd
    rw [List.length_map] at hC0
    have hC : Hid _ := hC0
    clear hC0
    obtain ⟨QA, qcap, hv7, _, hqr, _⟩ := OwnG.row encU_len hV.out.1.own
    subst hv7
    have hqH : Hid (RowG encU 1 wv QA Q') := hqr
    have hQ4 : Q'.length ≤ 4 := by have := hV.out.1.nd.le; simpa using this
    clear hqr
    go_wp2_with fail
    refine Calls.mono (show Calls _ _ _ _ _ from hC.out) ?_
    rintro e wv2 ⟨rfl, rfl⟩
    clear hC
    go_wp2
    generalize wv2 = wz at hV hqH ⊢
    go_loopw [132] (fun i wr => ∃ j : Nat, j ≤ Q'.length ∧ i = .int .i64 j ∧ Hid (Below wz.heap.size wz wr)) (fun i _ => Q'.length - (intOf i).toNat)
    case atStart => exact ⟨0, Nat.zero_le _, rfl, Below.refl _ _⟩
    case round => as_aux_lemma =>
     rename World => wy
     obtain ⟨j, hj, rfl, hZ⟩ := hrel
     have hIy : Hid (Inv w wy w.heap.size base (.slice QA Q'.length qcap) s' t' Q' ∧ Lv wy CA kA La ∧ Lv wy CB kB Lb ∧ RowG encU 1 wy QA Q') := ⟨hV.out.1.below hZ.out, hV.out.2.1.below hZ.out, hV.out.2.2.2.1.below hZ.out, hqH.out.below hZ.out⟩
     by_cases hjl : j < Q'.length
     ·have hjz : (j : Int) < (Q'.length : Int) := by omega
      obtain ⟨qb, qo, hQA, _, hqc⟩ := hIy.out.2.2.2.at hjl
      subst hQA
      obtain ⟨x, hx⟩ : ∃ x, Q'[j] = x := ⟨_, rfl⟩
      have c0 : wy.cell? ⟨qb, qo + j, none⟩ = some (.slice x.p x.q.length x.c) := by
       have := hqc j hjl 0 (by omega)
       rw [hx] at this
       simpa [encU] using this
      have hxq : Hid (StP (fun b => b ≠ w.heap.size ∧ b < base) wy x.p x.q ∧ x.q.length ≤ maxLen) := by
       rw [← hx]
       exact hIy.out.1.each _ (List.getElem_mem hjl)
      have hxj : Hid (∀ h : j < (Q'.map Qs.q).length, (Q'.map Qs.q)[j] = x.q) := fun h => by rw [List.getElem_map, hx]
      clear hqc hx
      have hC0 := eval_any x.q x.p x.c La Lb CA CB kA kB wy hxq.out.2 hxq.out.1.st hIy.out.2.1 hIy.out.2.2.1
      rw [hV.out.2.2.1, hV.out.2.2.2.2] at hC0
      obtain ⟨E, hE⟩ : ∃ E, plnE x.q (ofR s') (ofR t') = E := ⟨_, rfl⟩
      obtain ⟨F, hF⟩ : ∃ F, evlF x.q (ofR s') (ofR t') = F := ⟨_, rfl⟩
      rw [hE, hF] at hC0
      have hC : Hid _ := hC0
      clear hC0
      go_wp2_with fail
      refine Calls.mono (show Calls _ _ _ _ _ from hC.out) ?_
      rintro e w1' ⟨L1, C1, k1, rfl, n1, n2, n3⟩
      have hS1 : Hid (Below wy.heap.size wy w1' ∧ Lv w1' C1 k1 L1 ∧ L1.map Itm.z = F) := ⟨n3, n2, n1⟩
      clear n1 n2 n3 hC
      have hjm : j < (Q'.map Qs.q).length := by rw [List.length_map]; exact hjl
      have hC0 := viewX (hIy.out.1.nd.below hS1.out.1) hjm
      rw [hxj.out hjm, hE, hF] at hC0
      have hC : Hid _ := hC0
      clear hC0 hE hF hjm
      go_wp2_with fail
      refine Calls.mono (show Calls _ _ _ _ _ from hC.out) ?_
      rintro e w2' ⟨L2, C2, k2, rfl, n1, n2, n3⟩
      have hS2 : Hid (Below wy.heap.size wy w2' ∧ Lv w2' C1 k1 L1 ∧ Lv w2' C2 k2 L2 ∧ L2.map Itm.z = L1.map Itm.z) := ⟨hS1.out.1.trans (n3.mono hS1.out.1.size), hS1.out.2.1.below n3, n2, by rw [n1, hS1.out.2.2]⟩
      clear n1 n2 n3 hC hS1
      have hC0 := sameV hS2.out.2.2.1 hS2.out.2.1 hS2.out.2.2.2
      have hC : Hid _ := hC0
      have hEE : (E != E) = false := by simp
      clear hC0
      go_wp2_with fail
      refine Calls.mono (show Calls _ _ _ _ _ from hC.out) ?_
      rintro e w3' ⟨rfl, n1⟩
      have hfin : Hid (Below wz.heap.size wz w3') := by
       have h1 := hS2.out.1.trans (n1.below.mono hS2.out.1.size)
       exact hZ.out.trans (h1.mono hZ.out.size)
      clear n1 hC hS2 hIy hZ
      go_wp2
      go_roundw
      case rel => exact ⟨j + 1, by omega, by go_num, hfin⟩
      case measure => simp [intOf]; omega
     ·have hjz : ¬ (j : Int) < (Q'.length : Int) := by omega
      have hfin : Hid (Inv w wy w.heap.size base (.slice QA Q'.length qcap) s' t' Q') := hIy.out.1
      clear hIy hZ
      go_wp2
      go_roundw
      case rel => exact ⟨k + 1, s', t', Q', by omega, by go_num, hfin⟩
      case measure => simp [intOf]; omega
  ·have hltz : ¬ (k : Int) < (l.length : Int) := by omega
   go_wp2
   go_ret
   exact ⟨rfl, hR.out.bel⟩
end Go.Proofs.YtmoicbmhjmdgdaaGreat
