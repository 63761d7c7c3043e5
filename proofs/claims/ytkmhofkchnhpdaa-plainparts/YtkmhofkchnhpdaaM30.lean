/-
  viewkeep.counted.
  viewkeep.PlainLinear.
-/
import Derived.Test.YtkmhofkchnhpdaaM29
namespace Go.Proofs.Ytkmhofkchnhpdaa
open Go.RowKit Go.Sort Go.Maps

theorem row_lit {α : Type} {enc : α → List Value} {k : Nat} (hk : ∀ x, (enc x).length = k) {W W' : World} {n : Nat} (hn : W.heap.size = n) {cs : Array Value} {T : TypeId} (hg : Gr (W.alloc (.cells cs T)) W') {l : List α} (h : flatG enc l = cs.toList) : RowG enc k W' (some ⟨n, 0, none⟩) l := by
  subst hn
  refine Or.inr ⟨W.heap.size, 0, rfl, Nat.lt_of_lt_of_le (by simp) hg.size, fun j hj i hi => ?_⟩
  have h1 := flatG_get hk l j hj i hi
  have hin : i < (enc l[j]).length := by rw [hk]; exact hi
  rw [List.getElem?_eq_getElem hin] at h1 ⊢
  rw [h, Array.getElem?_toList] at h1
  have := box1 (w := W) hg (j := j * k + i) h1
  rw [show 0 + j * k + i = j * k + i by omega]
  exact this
def cntQ : List Stp := [⟨1, 0, 0, 0, 0, 0, none, 0, []⟩, ⟨8, 0, 0, 1, 0, 0, none, 0, []⟩]
def cntA (n : Nat) : List Itm := [⟨some ⟨n + 1, 0, none⟩, 4, [1, 5, 0, 0], 1⟩, ⟨some ⟨n + 1 + 1, 0, none⟩, 4, [2, 5, 0, 0], 1⟩]
theorem cntA_z (n : Nat) : (cntA n).map Itm.z = [([1, 5, 0, 0], 1), ([2, 5, 0, 0], 1)] := rfl
theorem cnt_e : plnE cntQ [([1, 5, 0, 0], 1), ([2, 5, 0, 0], 1)] [] = 0 ∧ evlF cntQ [([1, 5, 0, 0], 1), ([2, 5, 0, 0], 1)] [] = [([5, 2], 1)] := by decide +kernel
def cntW (w : World) : World := ((((w.alloc (.cells #[.int .i64 1, .int .i64 0, .int .i64 0, .int .i64 0, .int .i64 0, .int .i64 0, .slice none 0 0, .int .i64 8, .int .i64 0, .int .i64 0, .int .i64 1, .int .i64 0, .int .i64 0, .slice none 0 0] 27)).alloc (.cells #[.int .i64 1, .int .i64 5, .int .i64 0, .int .i64 0] 3)).alloc (.cells #[.int .i64 2, .int .i64 5, .int .i64 0, .int .i64 0] 3)).alloc (.cells #[.slice (some ⟨w.heap.size + 1, 0, none⟩) 4 4, .int .i64 1, .slice (some ⟨w.heap.size + 1 + 1, 0, none⟩) 4 4, .int .i64 1] 48))
theorem cnt_gr (w : World) : Gr w (cntW w) := ((((Gr.refl _).alloc _).alloc _).alloc _).alloc _
theorem cnt_q (w : World) : Stps (cntW w) (some ⟨w.heap.size, 0, none⟩) cntQ := by
  refine ⟨row_lit encQ_len rfl ((((Gr.refl _).alloc _).alloc _).alloc _) rfl, fun s hs => ?_⟩
  rcases List.mem_cons.1 hs with e | e
  · rw [e]; exact ⟨Or.inl rfl, by simp [maxLen], fun _ => rfl⟩
  · rw [List.mem_singleton.1 e]; exact ⟨Or.inl rfl, by simp [maxLen], fun _ => rfl⟩
theorem cnt_a (w : World) : Lv (cntW w) (some ⟨w.heap.size + 1 + 1 + 1, 0, none⟩) 2 (cntA w.heap.size) := by
  refine ⟨⟨row_lit encT_len (by simp) (Gr.refl _) rfl, fun x hx => ?_⟩, NilC.mk (fun h => by cases h) (by simp [cntA]), by simp [cntA, maxLen]⟩
  rcases List.mem_cons.1 hx with e | e
  · rw [e]; exact ⟨row_lit encI_len (by simp) (((Gr.refl _).alloc _).alloc _) rfl, by simp [maxLen], fun h => by cases h⟩
  · rw [List.mem_singleton.1 e]; exact ⟨row_lit encI_len (by simp) ((Gr.refl _).alloc _) rfl, by simp [maxLen], fun h => by cases h⟩
set_option maxRecDepth 100000 in
set_option maxHeartbeats 1000000 in
theorem counted_any (w : World) : Calls Try.prog 6 #[] w fun e w' => e = .returned (.bool true) ∧ Below w.heap.size w w' := by
  have hC0 := eval_any cntQ (some ⟨w.heap.size, 0, none⟩) 2 (cntA w.heap.size) [] (some ⟨w.heap.size + 1 + 1 + 1, 0, none⟩) none 2 0 (cntW w) (by simp [cntQ, maxLen]) (cnt_q w) (cnt_a w) ⟨⟨Or.inl rfl, fun x hx => (by cases hx)⟩, fun _ => rfl, Nat.zero_le _⟩
  rw [cntA_z, show ([] : List Itm).map Itm.z = [] from rfl, cnt_e.1, cnt_e.2] at hC0
  have hC : Hid _ := hC0
  clear hC0
  go_enter Try.func6, Try.ntmps6
  go_wp2_with fail
  refine Calls.mono (show Calls _ _ _ _ _ from hC.out) ?_
  rintro e w1 ⟨L, C, k, rfl, h1, h2, h3⟩
  have hL : Hid (L.map Itm.z = [([5, 2], 1)] ∧ Lv w1 C k L ∧ Below w.heap.size w w1) := ⟨h1, h2, (cnt_gr w).below.trans (h3.mono (cnt_gr w).size)⟩
  clear hC h1 h2 h3
  have hS0 := sameV (W := (w1.alloc (.cells #[.int .i64 5, .int .i64 2] 3)).alloc (.cells #[.slice (some ⟨w1.heap.size, 0, none⟩) 2 2, .int .i64 1] 48)) (A := C) (c := k) (l := L) (B := some ⟨w1.heap.size + 1, 0, none⟩) (d := 1) (r := [⟨some ⟨w1.heap.size, 0, none⟩, 2, [5, 2], 1⟩]) (hL.out.2.1.gr (((Gr.refl _).alloc _).alloc _)) ⟨⟨row_lit encT_len (by simp) (Gr.refl _) rfl, fun x hx => by rw [List.mem_singleton.1 hx]; exact ⟨row_lit encI_len rfl ((Gr.refl _).alloc _) rfl, by simp [maxLen], fun h => by cases h⟩⟩, NilC.mk (fun h => by cases h) (by simp), by simp [maxLen]⟩ (by rw [hL.out.1]; rfl)
  have hS : Hid _ := hS0
  clear hS0
  go_wp2_with fail
  refine Calls.mono (show Calls _ _ _ _ _ from hS.out) ?_
  rintro e w2 ⟨rfl, hg2⟩
  have hB : Hid (Below w.heap.size w w2) := hL.out.2.2.trans (((((Gr.refl w1).alloc _).alloc _).trans hg2).below.mono hL.out.2.2.size)
  clear hS hg2
  go_wp2
  go_ret
  exact ⟨rfl, hB.out⟩
end Go.Proofs.Ytkmhofkchnhpdaa

namespace Go.Proofs.Ytkmhofkchnhpdaa
open Go.RowKit Go.Sort Go.Maps

theorem evalV {q : List Stp} {QA : Option Addr} {cq : Nat} {a b : List Itm} {A B : Option Addr} {ca cb : Nat} {w : World} (hl : q.length ≤ maxLen) (hq : Stps w QA q) (ha : Lv w A ca a) (hb : Lv w B cb b) {m n : List Zit} (hm : a.map Itm.z = m) (hn : b.map Itm.z = n) {E : Int} (hE : plnE q m n = E) :
    Calls Try.prog 7 #[.slice QA q.length cq, .slice A a.length ca, .slice B b.length cb] w fun e w' => ∃ (L : List Itm) (C : Option Addr) (k : Nat), e = .returned (.tuple #[.slice C L.length k, .int .i64 E]) ∧ L.map Itm.z = evlF q m n ∧ Lv w' C k L ∧ Below w.heap.size w w' := by
  subst hm hn hE
  exact eval_any q QA cq a b A B ca cb w hl hq ha hb
theorem addV2 {W : World} {A B : Option Addr} {c d : Nat} {l r : List Itm} (h : Lv W A c l) (h' : Lv W B d r) {m n : List Zit} (hm : l.map Itm.z = m) (hn : r.map Itm.z = n) {E : Int} (hE : addE m n = E) :
    Calls Try.prog 8 #[.slice A l.length c, .slice B r.length d] W fun e w' => ∃ (L : List Itm) (C : Option Addr) (k : Nat), e = .returned (.tuple #[.slice C L.length k, .int .i64 E]) ∧ L.map Itm.z = addL m n ∧ Lv w' C k L ∧ Below W.heap.size W w' := by
  subst hE
  exact addV h h' hm hn

set_option maxRecDepth 100000 in
set_option maxHeartbeats 2000000 in
theorem linear_any (q : List Stp) (QA : Option Addr) (cq : Nat) (a b c d : List Itm) (A B C D : Option Addr) (ca cb cc cd : Nat) (w : World) (hl : q.length ≤ maxLen) (hq : Stps w QA q) (ha : Lv w A ca a) (hb : Lv w B cb b) (hc : Lv w C cc c) (hd : Lv w D cd d) :
    Calls Try.prog 3 #[.slice QA q.length cq, .slice A a.length ca, .slice B b.length cb, .slice C c.length cc, .slice D d.length cd] w fun e w' => e = .returned (.bool true) ∧ Below w.heap.size w w' := by
  have hH : Hid (Stps w QA q ∧ Lv w A ca a ∧ Lv w B cb b ∧ Lv w C cc c ∧ Lv w D cd d ∧ q.length ≤ maxLen) := ⟨hq, ha, hb, hc, hd, hl⟩
  have hC0 := counted_any w
  have hC : Hid _ := hC0
  unfold maxLen at hl
  clear hC0 hq ha hb hc hd
  go_enter Try.func3, Try.ntmps3
  go_wp2_with fail
  refine Calls.mono (show Calls _ _ _ _ _ from hC.out) ?_
  rintro e w1 ⟨rfl, hb1⟩
  have hW1 : Hid (Stps w1 QA q ∧ Lv w1 A ca a ∧ Lv w1 B cb b ∧ Lv w1 C cc c ∧ Lv w1 D cd d ∧ Below w.heap.size w w1) := ⟨hH.out.1.below hb1, hH.out.2.1.below hb1, hH.out.2.2.1.below hb1, hH.out.2.2.2.1.below hb1, hH.out.2.2.2.2.1.below hb1, hb1⟩
  clear hC hb1
  go_wp2
  go_loopw [27] (fun i wr => ∃ j : Nat, j ≤ q.length ∧ i = .int .i64 j ∧ Hid ((∀ s ∈ q.take j, s.k ≠ 4 ∧ s.k ≤ 6) ∧ Gr w1 wr)) (fun i _ => q.length - (intOf i).toNat)
  case atStart => exact ⟨0, Nat.zero_le _, rfl, fun s hs => (by simp at hs), Gr.refl _⟩
  case round =>
    obtain ⟨j, hj, rfl, hR⟩ := hrel
    by_cases hlt : j < q.length
    · have hltz : (j : Int) < (q.length : Int) := by omega
      have hI : Hid (Stps wr QA q) := hW1.out.1.gr hR.out.2
      obtain ⟨bb, off, rfl, hb, hcs⟩ := hI.out.at hlt
      obtain ⟨s, hs⟩ : ∃ s, q[j] = s := ⟨_, rfl⟩
      rw [hs] at hcs
      have m0 : wr.cell? ⟨bb, off + j * 7, none⟩ = some (.int .i64 s.k) := hcs 0 (by omega)
      have m1 : wr.cell? ⟨bb, off + j * 7 + 1, none⟩ = some (.int .i64 s.a) := hcs 1 (by omega)
      have m2 : wr.cell? ⟨bb, off + j * 7 + 2, none⟩ = some (.int .i64 s.b) := hcs 2 (by omega)
      have m3 : wr.cell? ⟨bb, off + j * 7 + 3, none⟩ = some (.int .i64 s.c) := hcs 3 (by omega)
      have m4 : wr.cell? ⟨bb, off + j * 7 + 4, none⟩ = some (.int .i64 s.o) := hcs 4 (by omega)
      have m5 : wr.cell? ⟨bb, off + j * 7 + 5, none⟩ = some (.int .i64 s.v) := hcs 5 (by omega)
      have m6 : wr.cell? ⟨bb, off + j * 7 + 6, none⟩ = some (.slice s.p s.l.length s.n) := hcs 6 (by omega)
      have htk : Hid (q.take (j + 1) = q.take j ++ [s]) := by show _ = _; rw [List.take_succ_eq_append_getElem hlt, hs]
      have hgX : Hid (Gr w1 (wr.alloc (.cells #[.int .i64 s.k, .int .i64 s.a, .int .i64 s.b, .int .i64 s.c, .int .i64 s.o, .int .i64 s.v, .slice s.p s.l.length s.n] 27))) := hR.out.2.alloc _
      have hBX : Hid (Below w.heap.size w (wr.alloc (.cells #[.int .i64 s.k, .int .i64 s.a, .int .i64 s.b, .int .i64 s.c, .int .i64 s.o, .int .i64 s.v, .slice s.p s.l.length s.n] 27))) := hW1.out.2.2.2.2.2.trans (hgX.out.below.mono hW1.out.2.2.2.2.2.size)
      clear hcs hs
      cases h4 : (s.k == 4)
      · by_cases h6 : 6 < s.k
        · go_wp2
          go_ret
          exact ⟨rfl, hBX.out⟩
        · have hok : Hid (∀ y ∈ q.take (j + 1), y.k ≠ 4 ∧ y.k ≤ 6) := fun y hy => by
            rw [htk.out] at hy
            rcases List.mem_append.1 hy with e | e
            · exact hR.out.1 y e
            · rw [List.mem_singleton.1 e]; exact ⟨by simpa using h4, by omega⟩
          go_wp2
          go_roundw
          case rel => exact ⟨j + 1, by omega, by go_num, hok.out, hgX.out⟩
          case measure => simp [intOf]; omega
      · go_wp2
        go_ret
        exact ⟨rfl, hBX.out⟩
    · have hltz : ¬ (j : Int) < (q.length : Int) := by omega
      have hall : Hid (∀ s ∈ q, s.k ≠ 4 ∧ s.k ≤ 6) := by
        have := hR.out.1
        rw [List.take_of_length_le (by omega)] at this
        exact this
      obtain ⟨m, hm⟩ : ∃ m, a.map Itm.z = m := ⟨_, rfl⟩
      obtain ⟨n, hn⟩ : ∃ n, b.map Itm.z = n := ⟨_, rfl⟩
      obtain ⟨o, ho⟩ : ∃ o, c.map Itm.z = o := ⟨_, rfl⟩
      obtain ⟨p, hp⟩ : ∃ p, d.map Itm.z = p := ⟨_, rfl⟩
      obtain ⟨E1, hE1⟩ : ∃ E, plnE q m n = E := ⟨_, rfl⟩
      obtain ⟨E2, hE2⟩ : ∃ E, plnE q o p = E := ⟨_, rfl⟩
      obtain ⟨E3, hE3⟩ : ∃ E, addE m o = E := ⟨_, rfl⟩
      obtain ⟨E4, hE4⟩ : ∃ E, addE n p = E := ⟨_, rfl⟩
      obtain ⟨E5, hE5⟩ : ∃ E, plnE q (addL m o) (addL n p) = E := ⟨_, rfl⟩
      obtain ⟨E6, hE6⟩ : ∃ E, addE (evlF q m n) (evlF q o p) = E := ⟨_, rfl⟩
      have hZ : Hid (a.map Itm.z = m ∧ b.map Itm.z = n ∧ c.map Itm.z = o ∧ d.map Itm.z = p) := ⟨hm, hn, ho, hp⟩
      have hEs : Hid (plnE q m n = E1 ∧ plnE q o p = E2 ∧ addE m o = E3 ∧ addE n p = E4 ∧ plnE q (addL m o) (addL n p) = E5 ∧ addE (evlF q m n) (evlF q o p) = E6) := ⟨hE1, hE2, hE3, hE4, hE5, hE6⟩
      have hWr : Hid (Stps wr QA q ∧ Lv wr A ca a ∧ Lv wr B cb b ∧ Lv wr C cc c ∧ Lv wr D cd d ∧ Below w.heap.size w wr) := ⟨hW1.out.1.gr hR.out.2, hW1.out.2.1.gr hR.out.2, hW1.out.2.2.1.gr hR.out.2, hW1.out.2.2.2.1.gr hR.out.2, hW1.out.2.2.2.2.1.gr hR.out.2, hW1.out.2.2.2.2.2.trans (hR.out.2.below.mono hW1.out.2.2.2.2.2.size)⟩
      clear hm hn ho hp hE1 hE2 hE3 hE4 hE5 hE6 hW1 hR
      go_wp2_with fail
      refine Calls.mono (evalV hH.out.2.2.2.2.2 hWr.out.1 hWr.out.2.1 hWr.out.2.2.1 hZ.out.1 hZ.out.2.1 hEs.out.1) ?_
      rintro e w2 ⟨X, XA, xk, rfl, x1, x2, x3⟩
      have hW2 : Hid (Stps w2 QA q ∧ Lv w2 A ca a ∧ Lv w2 B cb b ∧ Lv w2 C cc c ∧ Lv w2 D cd d ∧ Below w.heap.size w w2 ∧ Lv w2 XA xk X ∧ X.map Itm.z = evlF q m n) := ⟨hWr.out.1.below x3, hWr.out.2.1.below x3, hWr.out.2.2.1.below x3, hWr.out.2.2.2.1.below x3, hWr.out.2.2.2.2.1.below x3, hWr.out.2.2.2.2.2.trans (x3.mono hWr.out.2.2.2.2.2.size), x2, x1⟩
      clear x1 x2 x3 hWr
      go_wp2_with fail
      refine Calls.mono (evalV hH.out.2.2.2.2.2 hW2.out.1 hW2.out.2.2.2.1 hW2.out.2.2.2.2.1 hZ.out.2.2.1 hZ.out.2.2.2 hEs.out.2.1) ?_
      rintro e w3 ⟨Y, YA, yk, rfl, x1, x2, x3⟩
      have hW3 : Hid (Stps w3 QA q ∧ Lv w3 A ca a ∧ Lv w3 B cb b ∧ Lv w3 C cc c ∧ Lv w3 D cd d ∧ Below w.heap.size w w3 ∧ Lv w3 XA xk X ∧ X.map Itm.z = evlF q m n ∧ Lv w3 YA yk Y ∧ Y.map Itm.z = evlF q o p) := ⟨hW2.out.1.below x3, hW2.out.2.1.below x3, hW2.out.2.2.1.below x3, hW2.out.2.2.2.1.below x3, hW2.out.2.2.2.2.1.below x3, hW2.out.2.2.2.2.2.1.trans (x3.mono hW2.out.2.2.2.2.2.1.size), hW2.out.2.2.2.2.2.2.1.below x3, hW2.out.2.2.2.2.2.2.2, x2, x1⟩
      clear x1 x2 x3 hW2
      go_wp2_with fail
      refine Calls.mono (addV2 hW3.out.2.1 hW3.out.2.2.2.1 hZ.out.1 hZ.out.2.2.1 hEs.out.2.2.1) ?_
      rintro e w4 ⟨G, GA, gk, rfl, x1, x2, x3⟩
      have hW4 : Hid (Stps w4 QA q ∧ Lv w4 B cb b ∧ Lv w4 D cd d ∧ Below w.heap.size w w4 ∧ Lv w4 XA xk X ∧ X.map Itm.z = evlF q m n ∧ Lv w4 YA yk Y ∧ Y.map Itm.z = evlF q o p ∧ Lv w4 GA gk G ∧ G.map Itm.z = addL m o) := ⟨hW3.out.1.below x3, hW3.out.2.2.1.below x3, hW3.out.2.2.2.2.1.below x3, hW3.out.2.2.2.2.2.1.trans (x3.mono hW3.out.2.2.2.2.2.1.size), hW3.out.2.2.2.2.2.2.1.below x3, hW3.out.2.2.2.2.2.2.2.1, hW3.out.2.2.2.2.2.2.2.2.1.below x3, hW3.out.2.2.2.2.2.2.2.2.2, x2, x1⟩
      clear x1 x2 x3 hW3
      go_wp2_with fail
      refine Calls.mono (addV2 hW4.out.2.1 hW4.out.2.2.1 hZ.out.2.1 hZ.out.2.2.2 hEs.out.2.2.2.1) ?_
      rintro e w5 ⟨H, HA, hk', rfl, x1, x2, x3⟩
      have hW5 : Hid (Stps w5 QA q ∧ Below w.heap.size w w5 ∧ Lv w5 XA xk X ∧ X.map Itm.z = evlF q m n ∧ Lv w5 YA yk Y ∧ Y.map Itm.z = evlF q o p ∧ Lv w5 GA gk G ∧ G.map Itm.z = addL m o ∧ Lv w5 HA hk' H ∧ H.map Itm.z = addL n p) := ⟨hW4.out.1.below x3, hW4.out.2.2.2.1.trans (x3.mono hW4.out.2.2.2.1.size), hW4.out.2.2.2.2.1.below x3, hW4.out.2.2.2.2.2.1, hW4.out.2.2.2.2.2.2.1.below x3, hW4.out.2.2.2.2.2.2.2.1, hW4.out.2.2.2.2.2.2.2.2.1.below x3, hW4.out.2.2.2.2.2.2.2.2.2, x2, x1⟩
      clear x1 x2 x3 hW4
      cases q1 : (E1 != 0)
      · cases q2 : (E2 != 0)
        · cases q3 : (E3 != 0)
          · cases q4 : (E4 != 0)
            · go_wp2_with fail
              refine Calls.mono (evalV hH.out.2.2.2.2.2 hW5.out.1 hW5.out.2.2.2.2.2.2.1 hW5.out.2.2.2.2.2.2.2.2.1 hW5.out.2.2.2.2.2.2.2.1 hW5.out.2.2.2.2.2.2.2.2.2 hEs.out.2.2.2.2.1) ?_
              rintro e w6 ⟨Z, ZA, zk, rfl, x1, x2, x3⟩
              have hW6 : Hid (Below w.heap.size w w6 ∧ Lv w6 XA xk X ∧ X.map Itm.z = evlF q m n ∧ Lv w6 YA yk Y ∧ Y.map Itm.z = evlF q o p ∧ Lv w6 ZA zk Z ∧ Z.map Itm.z = evlF q (addL m o) (addL n p)) := ⟨hW5.out.2.1.trans (x3.mono hW5.out.2.1.size), hW5.out.2.2.1.below x3, hW5.out.2.2.2.1, hW5.out.2.2.2.2.1.below x3, hW5.out.2.2.2.2.2.1, x2, x1⟩
              clear x1 x2 x3 hW5
              go_wp2_with fail
              refine Calls.mono (addV2 hW6.out.2.1 hW6.out.2.2.2.1 hW6.out.2.2.1 hW6.out.2.2.2.2.1 hEs.out.2.2.2.2.2) ?_
              rintro e w7 ⟨V, VA, vk, rfl, x1, x2, x3⟩
              have hW7 : Hid (Below w.heap.size w w7 ∧ Lv w7 ZA zk Z ∧ Z.map Itm.z = evlF q (addL m o) (addL n p) ∧ Lv w7 VA vk V ∧ V.map Itm.z = addL (evlF q m n) (evlF q o p)) := ⟨hW6.out.1.trans (x3.mono hW6.out.1.size), hW6.out.2.2.2.2.2.1.below x3, hW6.out.2.2.2.2.2.2, x2, x1⟩
              clear x1 x2 x3 hW6
              cases q5 : (E5 != 0)
              · cases q6 : (E6 != 0)
                · have hsame : Hid (Z.map Itm.z = V.map Itm.z) := by
                    show _ = _
                    rw [hW7.out.2.2.1, hW7.out.2.2.2.2]
                    exact linear hall.out (by rw [hEs.out.1]; simpa using q1) (by rw [hEs.out.2.1]; simpa using q2) (by rw [hEs.out.2.2.1]; simpa using q3) (by rw [hEs.out.2.2.2.1]; simpa using q4) (by rw [hEs.out.2.2.2.2.1]; simpa using q5) (by rw [hEs.out.2.2.2.2.2]; simpa using q6)
                  go_wp2_with fail
                  refine Calls.mono (sameV hW7.out.2.1 hW7.out.2.2.2.1 hsame.out) ?_
                  rintro e w8 ⟨rfl, hg8⟩
                  have hB8 : Hid (Below w.heap.size w w8) := hW7.out.1.trans (hg8.below.mono hW7.out.1.size)
                  clear hg8
                  go_wp2
                  go_ret
                  exact ⟨rfl, hB8.out⟩
                · go_wp2
                  go_ret
                  exact ⟨rfl, hW7.out.1⟩
              · go_wp2
                go_ret
                exact ⟨rfl, hW7.out.1⟩
            · go_wp2
              go_ret
              exact ⟨rfl, hW5.out.2.1⟩
          · go_wp2
            go_ret
            exact ⟨rfl, hW5.out.2.1⟩
        · go_wp2
          go_ret
          exact ⟨rfl, hW5.out.2.1⟩
      · go_wp2
        go_ret
        exact ⟨rfl, hW5.out.2.1⟩
end Go.Proofs.Ytkmhofkchnhpdaa
