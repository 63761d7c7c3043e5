/-
  Proved: whatever edits and numbers are handed in, TableWins returns true (who puts a value, while another one deletes the row, keeps it; two who put keep both), and each argument reads afterwards as it read before. No condition.
-/
import Derived.Test.YtjgefnipkaecgabKWinMath
import Derived.Test.YtjgefnipkaecgabKPuts
import Derived.Test.YtjgefnipkaecgabTOpen
import Derived.Deep.RegionHeld3
namespace Go.Proofs.Ytjgefnipkaecgab
section
open Go.RowKit Go.Sort Go.Shelf Go.Lib

/-- What was there is as it was. -/
structure BW (w W : World) : Prop where
  hw : Below w.heap.size w W
theorem BW.below {w W W' : World} (h : BW w W) (k : Below W.heap.size W W') : BW w W' := ⟨h.hw.trans (k.mono h.hw.size)⟩
theorem BW.gr {w W W' : World} (h : BW w W) (k : Gr W W') : BW w W' := h.below k.below
/-- A table is not too long to be read. -/
def Fits (t : Tab) : Prop := t.c.l.length ≤ maxLen ∧ t.e.length ≤ maxLen
theorem fits_ok {t : Tab} (h : errT t = 0) : Fits t := ⟨Nat.le_trans (errC_parts (errT_parts h).1).2.1 (by decide), Nat.le_trans (errT_parts h).2.1 (by decide)⟩
theorem small_ok {t : Tab} (h : errT t = 0) : t.e.length * 40 ≤ 140737488355328 := by have := (errT_parts h).2.1; omega
theorem onceL_max (l : List Int) (h : l.length ≤ 400) : (onceL l).length ≤ 9223372036854775807 ∧ (onceL l).length ≤ maxLen := by
  have := onceL_len l
  exact ⟨by omega, Nat.le_trans (Nat.le_trans this h) (by decide)⟩
theorem rowI_same {w : World} {C : Option Addr} {v : Int} (h : RowI w C [v]) {B : Nat} {u : Value} (hc : w.cell? ⟨B, 0, none⟩ = some u) : RowI (w.setCell ⟨B, 0, none⟩ (.int .i64 v)) C [v] := by
  obtain ⟨b, off, rfl, hb, hcs⟩ := h.at (m := 0) (by simp)
  refine Or.inr ⟨b, off, rfl, by simpa [World.setCell] using hb, fun j hj i hi => ?_⟩
  obtain rfl : j = 0 := by simp at hj; omega
  obtain rfl : i = 0 := by omega
  have h0 := hcs 0 (by simp) 0 (by omega)
  have h1 : w.cell? ⟨b, off, none⟩ = some (.int .i64 v) := by simpa [encI] using h0
  show (w.setCell ⟨B, 0, none⟩ (.int .i64 v)).cell? ⟨b, off + 0 * 1 + 0, none⟩ = some (.int .i64 v)
  simp only [Nat.zero_mul, Nat.add_zero]
  by_cases e : b = B ∧ off = 0
  · obtain ⟨rfl, rfl⟩ := e
    exact World.cell?_setCell_same _ _ _ h1
  · rw [World.cell?_setCell_other _ _ _ _ (by intro k; injection k with k1 k2; exact e ⟨k1.symm, k2.symm⟩)]
    exact h1
theorem rowI_put {w : World} {B : Nat} {v z : Int} (hc : w.cell? ⟨B, 0, none⟩ = some (.int .i64 z)) (hB : B < w.heap.size) : RowI (w.setCell ⟨B, 0, none⟩ (.int .i64 v)) (some ⟨B, 0, none⟩) [v] := by
  refine Or.inr ⟨B, 0, rfl, by simpa [World.setCell] using hB, fun j hj i hi => ?_⟩
  obtain rfl : j = 0 := by simp at hj; omega
  obtain rfl : i = 0 := by omega
  exact World.cell?_setCell_same _ _ _ hc

theorem rowNewI2 {W : World} {n : Nat} (hn : W.heap.size = n) (x y : Int) (T : TypeId) : RowI (W.alloc (.cells #[.int .i64 x, .int .i64 y] T)) (some ⟨n, 0, none⟩) [x, y] := by
  subst hn
  refine Or.inr ⟨W.heap.size, 0, rfl, by simp, fun j hj i hi => ?_⟩
  obtain rfl : i = 0 := by omega
  have hj' : j = 0 ∨ j = 1 := by simp at hj; omega
  rcases hj' with rfl | rfl
  · exact box1 (w := W) (Gr.refl _) (j := 0) rfl
  · exact box1 (w := W) (Gr.refl _) (j := 1) rfl

set_option maxRecDepth 100000 in
set_option maxHeartbeats 8000000 in
theorem tableWins_any (l : List Cel) (L : Option Addr) (cl : Nat) (key col v z : Int) (w : World) (hl : l.length ≤ maxLen) (hcl : l.length ≤ cl) (hr : RowC w L l) :
    Calls Try.prog 7 #[.slice L l.length cl, .int .i64 key, .int .i64 col, .int .i64 v, .int .i64 z] w fun e w' => e = .returned (.bool true) ∧ Below w.heap.size w w' := by
  have hlH : Hid (l.length ≤ maxLen ∧ l.length ≤ cl) := ⟨hl, hcl⟩
  have hrH : Hid (RowC w L l) := hr
  clear hl hcl hr
  go_enter Try.func7, Try.ntmps7
  go_wp2_with fail
  refine (puts_any _).mono ?_
  rintro e w1 ⟨rfl, hb1⟩
  have hF1 : BW w w1 := ⟨hb1⟩
  have hed := edited_any l L cl w1 hlH.out.1 hlH.out.2 (hrH.out.below hb1)
  have hedH : Hid _ := hed
  clear hed hb1
  go_wp2_with fail
  refine Calls.mono (show Calls _ _ _ _ _ from hedH.out) ?_
  rintro e u2 ⟨C2, p2, D2, q2, rfl, hr, hd, hn, -, hb⟩
  clear hedH
  have het := errT_edited l (min 60 l.length)
  obtain ⟨t, h0⟩ : ∃ t, editedTo l (min 60 l.length) = t := ⟨_, rfl⟩
  rw [h0] at hr hd het ⊢
  have hteH : Hid (errT t = 0) := het
  have hft : Hid (Fits t) := fits_ok het
  have hnt : Hid (C2 = none → p2 = 0) := hn
  have hg : Gr u2 (u2.alloc (.cells #[.int .i64 t.c.c0, .int .i64 t.c.c1, .int .i64 t.c.c2, .int .i64 t.c.c3, .slice C2 t.c.l.length p2, .slice D2 t.e.length q2] 46)) := (Gr.refl _).alloc _
  have hF2 := (hF1.below hb).gr hg
  have htt2 : TabAt (u2.alloc (.cells #[.int .i64 t.c.c0, .int .i64 t.c.c1, .int .i64 t.c.c2, .int .i64 t.c.c3, .slice C2 t.c.l.length p2, .slice D2 t.e.length q2] 46)) u2.heap.size t C2 p2 D2 q2 := TabAt.new 46 hr hd rfl
  clear h0 hn hg hr hd hb hF1 het
  obtain ⟨x0, x1, x2, x3, x4, x5, xlt, xrow, xrowC⟩ := (show TabAt _ _ _ _ _ _ _ from htt2)
  have hm := put_new t C2 p2 D2 q2 2 key col v _ hft.out.1 hft.out.2 xrow xrowC
  have hmH : Hid _ := hm
  clear hm xlt xrow xrowC
  go_wp2_with fail
  refine Calls.mono (show Calls _ _ _ _ _ from hmH.out) ?_
  rintro e u3 ⟨C3, p3, D3, q3, rfl, hr, hd, hn, -, -, -, hb⟩
  clear hmH x0 x1 x2 x3 x4 x5
  obtain ⟨pt, h0⟩ : ∃ t', putT t 2 key col v = t' := ⟨_, rfl⟩
  obtain ⟨ept, h1⟩ : ∃ e, putE t 2 key col v = e := ⟨_, rfl⟩
  have hfpt : Hid (Fits pt) := by show Fits _; rw [← h0]; exact putT_lenK _ _ _ _ _
  rw [h0] at hr hd ⊢
  rw [h1]
  have hzpt : Hid (putT t 2 key col v = pt ∧ putE t 2 key col v = ept) := ⟨h0, h1⟩
  have hnpt : Hid (C3 = none → p3 = 0) := hn
  have hg : Gr u3 (u3.alloc (.cells #[.int .i64 pt.c.c0, .int .i64 pt.c.c1, .int .i64 pt.c.c2, .int .i64 pt.c.c3, .slice C3 pt.c.l.length p3, .slice D3 pt.e.length q3] 46)) := (Gr.refl _).alloc _
  have hF3 := (hF2.below hb).gr hg
  have htt3 := (htt2.below hb).gr hg
  have htpt3 : TabAt (u3.alloc (.cells #[.int .i64 pt.c.c0, .int .i64 pt.c.c1, .int .i64 pt.c.c2, .int .i64 pt.c.c3, .slice C3 pt.c.l.length p3, .slice D3 pt.e.length q3] 46)) u3.heap.size pt C3 p3 D3 q3 := TabAt.new 46 hr hd rfl
  clear h0 h1 hn hg hr hd hb hF2 htt2
  obtain ⟨x0, x1, x2, x3, x4, x5, xlt, xrow, xrowC⟩ := (show TabAt _ _ _ _ _ _ _ from htt3)
  have hm := put_new t C2 p2 D2 q2 3 key col z _ hft.out.1 hft.out.2 xrow xrowC
  have hmH : Hid _ := hm
  clear hm xlt xrow xrowC
  go_wp2_with fail
  refine Calls.mono (show Calls _ _ _ _ _ from hmH.out) ?_
  rintro e u4 ⟨C4, p4, D4, q4, rfl, hr, hd, hn, -, -, -, hb⟩
  clear hmH x0 x1 x2 x3 x4 x5
  obtain ⟨qt, h0⟩ : ∃ t', putT t 3 key col z = t' := ⟨_, rfl⟩
  obtain ⟨eqt, h1⟩ : ∃ e, putE t 3 key col z = e := ⟨_, rfl⟩
  have hfqt : Hid (Fits qt) := by show Fits _; rw [← h0]; exact putT_lenK _ _ _ _ _
  rw [h0] at hr hd ⊢
  rw [h1]
  have hzqt : Hid (putT t 3 key col z = qt ∧ putE t 3 key col z = eqt) := ⟨h0, h1⟩
  have hnqt : Hid (C4 = none → p4 = 0) := hn
  have hg : Gr u4 (u4.alloc (.cells #[.int .i64 qt.c.c0, .int .i64 qt.c.c1, .int .i64 qt.c.c2, .int .i64 qt.c.c3, .slice C4 qt.c.l.length p4, .slice D4 qt.e.length q4] 46)) := (Gr.refl _).alloc _
  have hF4 := (hF3.below hb).gr hg
  have htt4 := (htt3.below hb).gr hg
  have htpt4 := (htpt3.below hb).gr hg
  have htqt4 : TabAt (u4.alloc (.cells #[.int .i64 qt.c.c0, .int .i64 qt.c.c1, .int .i64 qt.c.c2, .int .i64 qt.c.c3, .slice C4 qt.c.l.length p4, .slice D4 qt.e.length q4] 46)) u4.heap.size qt C4 p4 D4 q4 := TabAt.new 46 hr hd rfl
  clear h0 h1 hn hg hr hd hb hF3 htt3 htpt3
  by_cases hcpt : ept = 0
  · subst hcpt
    by_cases hcqt : eqt = 0
    · subst hcqt
      obtain ⟨x0, x1, x2, x3, x4, x5, xlt, xrow, xrowC⟩ := (show TabAt _ _ _ _ _ _ _ from htt4)
      obtain ⟨y0, y1, y2, y3, y4, y5, ylt, yrow, yrowC⟩ := (show TabAt _ _ _ _ _ _ _ from htpt4)
      have hm := merge_new t pt C2 C3 D2 D3 p2 p3 q2 q3 _ hft.out.1 hfpt.out.1 hft.out.2 hfpt.out.2 hnt.out hnpt.out xrow yrow xrowC yrowC
      have hmH : Hid _ := hm
      clear hm xlt ylt xrow yrow xrowC yrowC
      go_wp2_with fail
      refine Calls.mono (show Calls _ _ _ _ _ from hmH.out) ?_
      rintro e u5 ⟨C5, p5, D5, q5, rfl, hr, hd, hn, -, -, -, hb⟩
      clear hmH x0 x1 x2 x3 x4 x5 y0 y1 y2 y3 y4 y5
      obtain ⟨a, h0⟩ : ∃ t', mergeT t pt = t' := ⟨_, rfl⟩
      obtain ⟨ea, h1⟩ : ∃ e, mergeE t pt = e := ⟨_, rfl⟩
      have hfa : Hid (Fits a) := by show Fits _; rw [← h0]; exact mergeT_lenK _ _
      rw [h0] at hr hd ⊢
      rw [h1]
      have hza : Hid (mergeT t pt = a ∧ mergeE t pt = ea) := ⟨h0, h1⟩
      have hna : Hid (C5 = none → p5 = 0) := hn
      have hg : Gr u5 (u5.alloc (.cells #[.int .i64 a.c.c0, .int .i64 a.c.c1, .int .i64 a.c.c2, .int .i64 a.c.c3, .slice C5 a.c.l.length p5, .slice D5 a.e.length q5] 46)) := (Gr.refl _).alloc _
      have hF5 := (hF4.below hb).gr hg
      have htt5 := (htt4.below hb).gr hg
      have htpt5 := (htpt4.below hb).gr hg
      have htqt5 := (htqt4.below hb).gr hg
      have hta5 : TabAt (u5.alloc (.cells #[.int .i64 a.c.c0, .int .i64 a.c.c1, .int .i64 a.c.c2, .int .i64 a.c.c3, .slice C5 a.c.l.length p5, .slice D5 a.e.length q5] 46)) u5.heap.size a C5 p5 D5 q5 := TabAt.new 46 hr hd rfl
      clear h0 h1 hn hg hr hd hb hF4 htt4 htpt4 htqt4
      obtain ⟨x0, x1, x2, x3, x4, x5, xlt, xrow, xrowC⟩ := (show TabAt _ _ _ _ _ _ _ from htt5)
      obtain ⟨y0, y1, y2, y3, y4, y5, ylt, yrow, yrowC⟩ := (show TabAt _ _ _ _ _ _ _ from htqt5)
      have hm := merge_new t qt C2 C4 D2 D4 p2 p4 q2 q4 _ hft.out.1 hfqt.out.1 hft.out.2 hfqt.out.2 hnt.out hnqt.out xrow yrow xrowC yrowC
      have hmH : Hid _ := hm
      clear hm xlt ylt xrow yrow xrowC yrowC
      go_wp2_with fail
      refine Calls.mono (show Calls _ _ _ _ _ from hmH.out) ?_
      rintro e u6 ⟨C6, p6, D6, q6, rfl, hr, hd, hn, -, -, -, hb⟩
      clear hmH x0 x1 x2 x3 x4 x5 y0 y1 y2 y3 y4 y5
      obtain ⟨b, h0⟩ : ∃ t', mergeT t qt = t' := ⟨_, rfl⟩
      obtain ⟨eb, h1⟩ : ∃ e, mergeE t qt = e := ⟨_, rfl⟩
      have hfb : Hid (Fits b) := by show Fits _; rw [← h0]; exact mergeT_lenK _ _
      rw [h0] at hr hd ⊢
      rw [h1]
      have hzb : Hid (mergeT t qt = b ∧ mergeE t qt = eb) := ⟨h0, h1⟩
      have hnb : Hid (C6 = none → p6 = 0) := hn
      have hg : Gr u6 (u6.alloc (.cells #[.int .i64 b.c.c0, .int .i64 b.c.c1, .int .i64 b.c.c2, .int .i64 b.c.c3, .slice C6 b.c.l.length p6, .slice D6 b.e.length q6] 46)) := (Gr.refl _).alloc _
      have hF6 := (hF5.below hb).gr hg
      have htt6 := (htt5.below hb).gr hg
      have htpt6 := (htpt5.below hb).gr hg
      have htqt6 := (htqt5.below hb).gr hg
      have hta6 := (hta5.below hb).gr hg
      have htb6 : TabAt (u6.alloc (.cells #[.int .i64 b.c.c0, .int .i64 b.c.c1, .int .i64 b.c.c2, .int .i64 b.c.c3, .slice C6 b.c.l.length p6, .slice D6 b.e.length q6] 46)) u6.heap.size b C6 p6 D6 q6 := TabAt.new 46 hr hd rfl
      clear h0 h1 hn hg hr hd hb hF5 htt5 htpt5 htqt5 hta5
      by_cases hca : ea = 0
      · subst hca
        by_cases hcb : eb = 0
        · subst hcb
          obtain ⟨N, M, hBB⟩ := both_of (a := a) (b := b) hzpt.out.2 hzqt.out.2 (by rw [hzpt.out.1]; exact hza.out.2) (by rw [hzqt.out.1]; exact hzb.out.2) (by rw [hzpt.out.1]; exact hza.out.1) (by rw [hzqt.out.1]; exact hzb.out.1)
          have hBH : Hid (Both2 t a b key col v z N M) := hBB
          clear hBB
          obtain ⟨x0, x1, x2, x3, x4, x5, xlt, xrow, xrowC⟩ := (show TabAt _ _ _ _ _ _ _ from hta6)
          obtain ⟨y0, y1, y2, y3, y4, y5, ylt, yrow, yrowC⟩ := (show TabAt _ _ _ _ _ _ _ from htb6)
          have hm := merge_new a b C5 C6 D5 D6 p5 p6 q5 q6 _ hfa.out.1 hfb.out.1 hfa.out.2 hfb.out.2 hna.out hnb.out xrow yrow xrowC yrowC
          have hmH : Hid _ := hm
          clear hm xlt ylt xrow yrow xrowC yrowC
          go_wp2_with fail
          refine Calls.mono (show Calls _ _ _ _ _ from hmH.out) ?_
          rintro e u7 ⟨C7, p7, D7, q7, rfl, hr, hd, hn, -, -, -, hb⟩
          clear hmH x0 x1 x2 x3 x4 x5 y0 y1 y2 y3 y4 y5
          obtain ⟨ab, h0⟩ : ∃ t', mergeT a b = t' := ⟨_, rfl⟩
          obtain ⟨eab, h1⟩ : ∃ e, mergeE a b = e := ⟨_, rfl⟩
          have hfab : Hid (Fits ab) := by show Fits _; rw [← h0]; exact mergeT_lenK _ _
          rw [h0] at hr hd ⊢
          rw [h1]
          have hzab : Hid (mergeT a b = ab ∧ mergeE a b = eab) := ⟨h0, h1⟩
          have hnab : Hid (C7 = none → p7 = 0) := hn
          have hg : Gr u7 (u7.alloc (.cells #[.int .i64 ab.c.c0, .int .i64 ab.c.c1, .int .i64 ab.c.c2, .int .i64 ab.c.c3, .slice C7 ab.c.l.length p7, .slice D7 ab.e.length q7] 46)) := (Gr.refl _).alloc _
          have hF7 := (hF6.below hb).gr hg
          have htt7 := (htt6.below hb).gr hg
          have htpt7 := (htpt6.below hb).gr hg
          have htqt7 := (htqt6.below hb).gr hg
          have hta7 := (hta6.below hb).gr hg
          have htb7 := (htb6.below hb).gr hg
          have htab7 : TabAt (u7.alloc (.cells #[.int .i64 ab.c.c0, .int .i64 ab.c.c1, .int .i64 ab.c.c2, .int .i64 ab.c.c3, .slice C7 ab.c.l.length p7, .slice D7 ab.e.length q7] 46)) u7.heap.size ab C7 p7 D7 q7 := TabAt.new 46 hr hd rfl
          clear h0 h1 hn hg hr hd hb hF6 htt6 htpt6 htqt6 hta6 htb6
          by_cases hcab : eab = 0
          · subst hcab
            have hEab : Hid (errT ab = 0) := by show errT ab = 0; rw [← hzab.out.1]; exact errT_merge hzab.out.2
            obtain ⟨Vs, hV1⟩ : ∃ V, onceL (valsOf key col ab.e) = V := ⟨_, rfl⟩
            obtain ⟨x0, x1, x2, x3, x4, x5, xlt, xrow, xrowC⟩ := (show TabAt _ _ _ _ _ _ _ from htab7)
            have hv := values_any ab C7 p7 D7 q7 key col _ (small_ok hEab.out) xrow xrowC
            rw [hV1] at hv
            have hvH : Hid _ := hv
            clear hv xlt xrow xrowC
            go_wp2_with fail
            refine Calls.mono (show Calls _ _ _ _ _ from hvH.out) ?_
            rintro e u20 ⟨Q20, r20, rfl, hq20, hb⟩
            clear hvH x0 x1 x2 x3 x4 x5
            have hF20 := hF7.below hb
            have htt20 := htt7.below hb
            have htpt20 := htpt7.below hb
            have htqt20 := htqt7.below hb
            have hta20 := hta7.below hb
            have htb20 := htb7.below hb
            have htab20 := htab7.below hb
            clear hb hF7 htt7 htpt7 htqt7 hta7 htb7 htab7
            by_cases hvz : v = z
            · have h1 : Vs = [v] := by rw [← hV1, ← hzab.out.1]; exact hBH.out.one hzab.out.2 hvz
              subst h1
              subst hvz
              have hmin : min v v = v := by omega
              have hmax : max v v = v := by omega
              have he : Calls Try.prog 23 #[.slice Q20 1 r20, .slice (some ⟨u20.heap.size, 0, none⟩) 2 2] (u20.alloc (.cells #[.int .i64 v, .int .i64 v] 3)) fun e w' => e = .returned (.bool false) ∧ Gr (u20.alloc (.cells #[.int .i64 v, .int .i64 v] 3)) w' := by
                have h := equalI_anyK [v] [v, v] Q20 (some ⟨u20.heap.size, 0, none⟩) r20 2 (u20.alloc (.cells #[.int .i64 v, .int .i64 v] 3)) (show 1 ≤ 9223372036854775807 by decide) (show 2 ≤ 9223372036854775807 by decide) (hq20.gr ((Gr.refl _).alloc _)) (rowNewI2 rfl v v 3)
                rw [decide_eq_false (by simp)] at h
                exact h
              have heH : Hid _ := he
              clear he
              go_wp2_with fail
              refine Calls.mono (show Calls _ _ _ _ _ from heH.out) ?_
              rintro e u21 ⟨rfl, hg⟩
              clear heH
              have hF21 := (hF20.gr ((Gr.refl _).alloc _)).gr hg
              have htt21 := (htt20.gr ((Gr.refl _).alloc _)).gr hg
              have htpt21 := (htpt20.gr ((Gr.refl _).alloc _)).gr hg
              have htqt21 := (htqt20.gr ((Gr.refl _).alloc _)).gr hg
              have hta21 := (hta20.gr ((Gr.refl _).alloc _)).gr hg
              have htb21 := (htb20.gr ((Gr.refl _).alloc _)).gr hg
              have htab21 := (htab20.gr ((Gr.refl _).alloc _)).gr hg
              clear hF20 htt20 htpt20 htqt20 hta20 htb20 htab20
              have hq21 := (hq20.gr ((Gr.refl _).alloc _)).gr hg
              clear hg hq20 hmin hmax
              have he : Calls Try.prog 23 #[.slice Q20 1 r20, .slice (some ⟨u21.heap.size, 0, none⟩) 1 1] (u21.alloc (.cells #[.int .i64 v] 3)) fun e w' => e = .returned (.bool true) ∧ Gr (u21.alloc (.cells #[.int .i64 v] 3)) w' := by
                have h := equalI_anyK [v] [v] Q20 (some ⟨u21.heap.size, 0, none⟩) r20 1 (u21.alloc (.cells #[.int .i64 v] 3)) (show 1 ≤ 9223372036854775807 by decide) (show 1 ≤ 9223372036854775807 by decide) (hq21.gr ((Gr.refl _).alloc _)) (rowNewI rfl v 3)
                rw [decide_eq_true rfl] at h
                exact h
              have heH : Hid _ := he
              clear he
              go_wp2_with fail
              refine Calls.mono (show Calls _ _ _ _ _ from heH.out) ?_
              rintro e u22 ⟨rfl, hg⟩
              clear heH
              have hF22 := (hF21.gr ((Gr.refl _).alloc _)).gr hg
              have htt22 := (htt21.gr ((Gr.refl _).alloc _)).gr hg
              have htpt22 := (htpt21.gr ((Gr.refl _).alloc _)).gr hg
              have htqt22 := (htqt21.gr ((Gr.refl _).alloc _)).gr hg
              have hta22 := (hta21.gr ((Gr.refl _).alloc _)).gr hg
              have htb22 := (htb21.gr ((Gr.refl _).alloc _)).gr hg
              have htab22 := (htab21.gr ((Gr.refl _).alloc _)).gr hg
              clear hF21 htt21 htpt21 htqt21 hta21 htb21 htab21
              clear hg hq21
              obtain ⟨x0, x1, x2, x3, x4, x5, xlt, xrow, xrowC⟩ := (show TabAt _ _ _ _ _ _ _ from htb22)
              have hm := del_any b C6 p6 D6 q6 key _ hfb.out.1 hfb.out.2 xrow xrowC
              rw [hBH.out.del] at hm
              have hmH : Hid _ := hm
              clear hm xlt xrow xrowC
              go_wp2_with fail
              refine Calls.mono (show Calls _ _ _ _ _ from hmH.out) ?_
              rintro e u32 ⟨C32, p32, rfl, hr, hn, -, hb⟩
              clear hmH x0 x1 x2 x3 x4 x5
              obtain ⟨dc, h0⟩ : ∃ c, delC b key = c := ⟨_, rfl⟩
              have hfd : Hid (Fits ⟨dc, []⟩) := by show Fits _; rw [← h0]; exact ⟨delC_lenK _ _, Nat.zero_le _⟩
              rw [h0] at hr ⊢
              have hzdc : Hid (delC b key = dc) := h0
              have hnd : Hid (C32 = none → p32 = 0) := hn
              have h1 := hn
              have hg : Gr u32 (u32.alloc (.cells #[.int .i64 dc.c0, .int .i64 dc.c1, .int .i64 dc.c2, .int .i64 dc.c3, .slice C32 dc.l.length p32, .slice none 0 0] 46)) := (Gr.refl _).alloc _
              have hF32 := (hF22.below hb).gr hg
              have htt32 := (htt22.below hb).gr hg
              have htpt32 := (htpt22.below hb).gr hg
              have htqt32 := (htqt22.below hb).gr hg
              have hta32 := (hta22.below hb).gr hg
              have htb32 := (htb22.below hb).gr hg
              have htab32 := (htab22.below hb).gr hg
              have htd32 : TabAt (u32.alloc (.cells #[.int .i64 dc.c0, .int .i64 dc.c1, .int .i64 dc.c2, .int .i64 dc.c3, .slice C32 dc.l.length p32, .slice none 0 0] 46)) u32.heap.size ⟨dc, []⟩ C32 p32 none 0 := TabAt.new (t := ⟨dc, []⟩) 46 hr (Or.inl rfl) rfl
              clear h0 h1 hn hg hr  hb hF22 htt22 htpt22 htqt22 hta22 htb22 htab22
              obtain ⟨x0, x1, x2, x3, x4, x5, xlt, xrow, xrowC⟩ := (show TabAt _ _ _ _ _ _ _ from htb32)
              obtain ⟨y0, y1, y2, y3, y4, y5, ylt, yrow, yrowC⟩ := (show TabAt _ _ _ _ _ _ _ from htd32)
              have hm := merge_new b ⟨dc, []⟩ C6 C32 D6 none p6 p32 q6 0 _ hfb.out.1 hfd.out.1 hfb.out.2 hfd.out.2 hnb.out hnd.out xrow yrow xrowC yrowC
              have hmH : Hid _ := hm
              clear hm xlt ylt xrow yrow xrowC yrowC
              go_wp2_with fail
              refine Calls.mono (show Calls _ _ _ _ _ from hmH.out) ?_
              rintro e u33 ⟨C33, p33, D33, q33, rfl, hr, hd, hn, -, -, -, hb⟩
              clear hmH x0 x1 x2 x3 x4 x5 y0 y1 y2 y3 y4 y5
              obtain ⟨g, h0⟩ : ∃ t', mergeT b ⟨dc, []⟩ = t' := ⟨_, rfl⟩
              obtain ⟨eg, h1⟩ : ∃ e, mergeE b ⟨dc, []⟩ = e := ⟨_, rfl⟩
              have hfg : Hid (Fits g) := by show Fits _; rw [← h0]; exact mergeT_lenK _ _
              rw [h0] at hr hd ⊢
              rw [h1]
              have hzg : Hid (mergeT b ⟨dc, []⟩ = g ∧ mergeE b ⟨dc, []⟩ = eg) := ⟨h0, h1⟩
              have hng : Hid (C33 = none → p33 = 0) := hn
              have hg : Gr u33 (u33.alloc (.cells #[.int .i64 g.c.c0, .int .i64 g.c.c1, .int .i64 g.c.c2, .int .i64 g.c.c3, .slice C33 g.c.l.length p33, .slice D33 g.e.length q33] 46)) := (Gr.refl _).alloc _
              have hF33 := (hF32.below hb).gr hg
              have htt33 := (htt32.below hb).gr hg
              have htpt33 := (htpt32.below hb).gr hg
              have htqt33 := (htqt32.below hb).gr hg
              have hta33 := (hta32.below hb).gr hg
              have htb33 := (htb32.below hb).gr hg
              have htab33 := (htab32.below hb).gr hg
              have htd33 := (htd32.below hb).gr hg
              have htg33 : TabAt (u33.alloc (.cells #[.int .i64 g.c.c0, .int .i64 g.c.c1, .int .i64 g.c.c2, .int .i64 g.c.c3, .slice C33 g.c.l.length p33, .slice D33 g.e.length q33] 46)) u33.heap.size g C33 p33 D33 q33 := TabAt.new 46 hr hd rfl
              clear h0 h1 hn hg hr hd hb hF32 htt32 htpt32 htqt32 hta32 htb32 htab32 htd32
              obtain rfl : eg = 0 := by rw [← hzg.out.2, ← hzdc.out]; exact (del_cells hBH.out.del).2.2.1
              have hgo := hBH.out.gone (g := g) (by rw [hzdc.out]; exact hzg.out.2) (by rw [hzdc.out]; exact hzg.out.1)
              have hgoH : Hid _ := hgo
              clear hgo
              obtain ⟨x0, x1, x2, x3, x4, x5, xlt, xrow, xrowC⟩ := (show TabAt _ _ _ _ _ _ _ from htg33)
              obtain ⟨y0, y1, y2, y3, y4, y5, ylt, yrow, yrowC⟩ := (show TabAt _ _ _ _ _ _ _ from hta33)
              have hm := merge_new g a C33 C5 D33 D5 p33 p5 q33 q5 _ hfg.out.1 hfa.out.1 hfg.out.2 hfa.out.2 hng.out hna.out xrow yrow xrowC yrowC
              have hmH : Hid _ := hm
              clear hm xlt ylt xrow yrow xrowC yrowC
              go_wp2_with fail
              refine Calls.mono (show Calls _ _ _ _ _ from hmH.out) ?_
              rintro e u34 ⟨C34, p34, D34, q34, rfl, hr, hd, hn, -, -, -, hb⟩
              clear hmH x0 x1 x2 x3 x4 x5 y0 y1 y2 y3 y4 y5
              obtain ⟨xx, h0⟩ : ∃ t', mergeT g a = t' := ⟨_, rfl⟩
              obtain ⟨exx, h1⟩ : ∃ e, mergeE g a = e := ⟨_, rfl⟩
              have hfxx : Hid (Fits xx) := by show Fits _; rw [← h0]; exact mergeT_lenK _ _
              rw [h0] at hr hd ⊢
              rw [h1]
              have hzxx : Hid (mergeT g a = xx ∧ mergeE g a = exx) := ⟨h0, h1⟩
              have hnxx : Hid (C34 = none → p34 = 0) := hn
              have hg : Gr u34 (u34.alloc (.cells #[.int .i64 xx.c.c0, .int .i64 xx.c.c1, .int .i64 xx.c.c2, .int .i64 xx.c.c3, .slice C34 xx.c.l.length p34, .slice D34 xx.e.length q34] 46)) := (Gr.refl _).alloc _
              have hF34 := (hF33.below hb).gr hg
              have htt34 := (htt33.below hb).gr hg
              have htpt34 := (htpt33.below hb).gr hg
              have htqt34 := (htqt33.below hb).gr hg
              have hta34 := (hta33.below hb).gr hg
              have htb34 := (htb33.below hb).gr hg
              have htab34 := (htab33.below hb).gr hg
              have htd34 := (htd33.below hb).gr hg
              have htg34 := (htg33.below hb).gr hg
              have htxx34 : TabAt (u34.alloc (.cells #[.int .i64 xx.c.c0, .int .i64 xx.c.c1, .int .i64 xx.c.c2, .int .i64 xx.c.c3, .slice C34 xx.c.l.length p34, .slice D34 xx.e.length q34] 46)) u34.heap.size xx C34 p34 D34 q34 := TabAt.new 46 hr hd rfl
              clear h0 h1 hn hg hr hd hb hF33 htt33 htpt33 htqt33 hta33 htb33 htab33 htd33 htg33
              by_cases hcxx : exx = 0
              · subst hcxx
                have hEx : Hid (errT xx = 0) := by show errT xx = 0; rw [← hzxx.out.1]; exact errT_merge hzxx.out.2
                have hV2 : onceL (valsOf key col xx.e) = [v] := by rw [← hzxx.out.1]; exact hBH.out.last (g := g) (by rw [hzdc.out]; exact hzg.out.2) (by rw [hzdc.out]; exact hzg.out.1) hzxx.out.2
                have hExx := hEx
                obtain ⟨x0, x1, x2, x3, x4, x5, xlt, xrow, xrowC⟩ := (show TabAt _ _ _ _ _ _ _ from htxx34)
                have hv := values_any xx C34 p34 D34 q34 key col _ (small_ok hExx.out) xrow xrowC
                rw [hV2] at hv
                have hvH : Hid _ := hv
                clear hv xlt xrow xrowC
                go_wp2_with fail
                refine Calls.mono (show Calls _ _ _ _ _ from hvH.out) ?_
                rintro e u35 ⟨Q35, r35, rfl, hq35, hb⟩
                clear hvH x0 x1 x2 x3 x4 x5
                have hF35 := hF34.below hb
                have htt35 := htt34.below hb
                have htpt35 := htpt34.below hb
                have htqt35 := htqt34.below hb
                have hta35 := hta34.below hb
                have htb35 := htb34.below hb
                have htab35 := htab34.below hb
                have htd35 := htd34.below hb
                have htg35 := htg34.below hb
                have htxx35 := htxx34.below hb
                clear hb hF34 htt34 htpt34 htqt34 hta34 htb34 htab34 htd34 htg34 htxx34
                have he : Calls Try.prog 23 #[.slice Q35 1 r35, .slice (some ⟨u35.heap.size, 0, none⟩) 1 1] (u35.alloc (.cells #[.int .i64 v] 3)) fun e w' => e = .returned (.bool true) ∧ Gr (u35.alloc (.cells #[.int .i64 v] 3)) w' := by
                  have h := equalI_anyK [v] [v] Q35 (some ⟨u35.heap.size, 0, none⟩) r35 1 (u35.alloc (.cells #[.int .i64 v] 3)) (show 1 ≤ 9223372036854775807 by decide) (show 1 ≤ 9223372036854775807 by decide) (hq35.gr ((Gr.refl _).alloc _)) (rowNewI rfl v 3)
                  rw [decide_eq_true rfl] at h
                  exact h
                have heH : Hid _ := he
                clear he
                go_wp2_with fail
                refine Calls.mono (show Calls _ _ _ _ _ from heH.out) ?_
                rintro e u36 ⟨rfl, hg⟩
                clear heH
                have hbwH : Hid (BW w _) := (hF35.gr ((Gr.refl _).alloc _)).gr hg
                clear hg hq35 hF35 htt35 htpt35 htqt35 hta35 htb35 htab35 htd35 htg35 htxx35
                go_wp2
                go_ret
                exact ⟨rfl, hbwH.out.hw⟩
              · have hx : exx = 2 := by rw [← hzxx.out.2]; exact merge_room hgoH.out.1 hBH.out.ea hgoH.out.2.1 (by rw [hzxx.out.2]; exact hcxx)
                subst hx
                clear hcxx
                have hbwH : Hid (BW w _) := hF34
                clear hF34 htt34 htpt34 htqt34 hta34 htb34 htab34 htd34 htg34 htxx34
                go_wp2
                go_ret
                exact ⟨rfl, hbwH.out.hw⟩
            · have h1 : Vs = [min v z, max v z] := by rw [← hV1, ← hzab.out.1]; exact hBH.out.two hzab.out.2 hvz
              subst h1
              clear hvz
              have he : Calls Try.prog 23 #[.slice Q20 2 r20, .slice (some ⟨u20.heap.size, 0, none⟩) 2 2] (u20.alloc (.cells #[.int .i64 (min v z), .int .i64 (max v z)] 3)) fun e w' => e = .returned (.bool true) ∧ Gr (u20.alloc (.cells #[.int .i64 (min v z), .int .i64 (max v z)] 3)) w' := by
                have h := equalI_anyK [min v z, max v z] [min v z, max v z] Q20 (some ⟨u20.heap.size, 0, none⟩) r20 2 (u20.alloc (.cells #[.int .i64 (min v z), .int .i64 (max v z)] 3)) (show 2 ≤ 9223372036854775807 by decide) (show 2 ≤ 9223372036854775807 by decide) (hq20.gr ((Gr.refl _).alloc _)) (rowNewI2 rfl (min v z) (max v z) 3)
                rw [decide_eq_true rfl] at h
                exact h
              have heH : Hid _ := he
              clear he
              go_wp2_with fail
              refine Calls.mono (show Calls _ _ _ _ _ from heH.out) ?_
              rintro e u21 ⟨rfl, hg⟩
              clear heH
              have hF21 := (hF20.gr ((Gr.refl _).alloc _)).gr hg
              have htt21 := (htt20.gr ((Gr.refl _).alloc _)).gr hg
              have htpt21 := (htpt20.gr ((Gr.refl _).alloc _)).gr hg
              have htqt21 := (htqt20.gr ((Gr.refl _).alloc _)).gr hg
              have hta21 := (hta20.gr ((Gr.refl _).alloc _)).gr hg
              have htb21 := (htb20.gr ((Gr.refl _).alloc _)).gr hg
              have htab21 := (htab20.gr ((Gr.refl _).alloc _)).gr hg
              clear hF20 htt20 htpt20 htqt20 hta20 htb20 htab20
              clear hg hq20
              obtain ⟨x0, x1, x2, x3, x4, x5, xlt, xrow, xrowC⟩ := (show TabAt _ _ _ _ _ _ _ from htb21)
              have hm := del_any b C6 p6 D6 q6 key _ hfb.out.1 hfb.out.2 xrow xrowC
              rw [hBH.out.del] at hm
              have hmH : Hid _ := hm
              clear hm xlt xrow xrowC
              go_wp2_with fail
              refine Calls.mono (show Calls _ _ _ _ _ from hmH.out) ?_
              rintro e u31 ⟨C31, p31, rfl, hr, hn, -, hb⟩
              clear hmH x0 x1 x2 x3 x4 x5
              obtain ⟨dc, h0⟩ : ∃ c, delC b key = c := ⟨_, rfl⟩
              have hfd : Hid (Fits ⟨dc, []⟩) := by show Fits _; rw [← h0]; exact ⟨delC_lenK _ _, Nat.zero_le _⟩
              rw [h0] at hr ⊢
              have hzdc : Hid (delC b key = dc) := h0
              have hnd : Hid (C31 = none → p31 = 0) := hn
              have h1 := hn
              have hg : Gr u31 (u31.alloc (.cells #[.int .i64 dc.c0, .int .i64 dc.c1, .int .i64 dc.c2, .int .i64 dc.c3, .slice C31 dc.l.length p31, .slice none 0 0] 46)) := (Gr.refl _).alloc _
              have hF31 := (hF21.below hb).gr hg
              have htt31 := (htt21.below hb).gr hg
              have htpt31 := (htpt21.below hb).gr hg
              have htqt31 := (htqt21.below hb).gr hg
              have hta31 := (hta21.below hb).gr hg
              have htb31 := (htb21.below hb).gr hg
              have htab31 := (htab21.below hb).gr hg
              have htd31 : TabAt (u31.alloc (.cells #[.int .i64 dc.c0, .int .i64 dc.c1, .int .i64 dc.c2, .int .i64 dc.c3, .slice C31 dc.l.length p31, .slice none 0 0] 46)) u31.heap.size ⟨dc, []⟩ C31 p31 none 0 := TabAt.new (t := ⟨dc, []⟩) 46 hr (Or.inl rfl) rfl
              clear h0 h1 hn hg hr  hb hF21 htt21 htpt21 htqt21 hta21 htb21 htab21
              obtain ⟨x0, x1, x2, x3, x4, x5, xlt, xrow, xrowC⟩ := (show TabAt _ _ _ _ _ _ _ from htb31)
              obtain ⟨y0, y1, y2, y3, y4, y5, ylt, yrow, yrowC⟩ := (show TabAt _ _ _ _ _ _ _ from htd31)
              have hm := merge_new b ⟨dc, []⟩ C6 C31 D6 none p6 p31 q6 0 _ hfb.out.1 hfd.out.1 hfb.out.2 hfd.out.2 hnb.out hnd.out xrow yrow xrowC yrowC
              have hmH : Hid _ := hm
              clear hm xlt ylt xrow yrow xrowC yrowC
              go_wp2_with fail
              refine Calls.mono (show Calls _ _ _ _ _ from hmH.out) ?_
              rintro e u32 ⟨C32, p32, D32, q32, rfl, hr, hd, hn, -, -, -, hb⟩
              clear hmH x0 x1 x2 x3 x4 x5 y0 y1 y2 y3 y4 y5
              obtain ⟨g, h0⟩ : ∃ t', mergeT b ⟨dc, []⟩ = t' := ⟨_, rfl⟩
              obtain ⟨eg, h1⟩ : ∃ e, mergeE b ⟨dc, []⟩ = e := ⟨_, rfl⟩
              have hfg : Hid (Fits g) := by show Fits _; rw [← h0]; exact mergeT_lenK _ _
              rw [h0] at hr hd ⊢
              rw [h1]
              have hzg : Hid (mergeT b ⟨dc, []⟩ = g ∧ mergeE b ⟨dc, []⟩ = eg) := ⟨h0, h1⟩
              have hng : Hid (C32 = none → p32 = 0) := hn
              have hg : Gr u32 (u32.alloc (.cells #[.int .i64 g.c.c0, .int .i64 g.c.c1, .int .i64 g.c.c2, .int .i64 g.c.c3, .slice C32 g.c.l.length p32, .slice D32 g.e.length q32] 46)) := (Gr.refl _).alloc _
              have hF32 := (hF31.below hb).gr hg
              have htt32 := (htt31.below hb).gr hg
              have htpt32 := (htpt31.below hb).gr hg
              have htqt32 := (htqt31.below hb).gr hg
              have hta32 := (hta31.below hb).gr hg
              have htb32 := (htb31.below hb).gr hg
              have htab32 := (htab31.below hb).gr hg
              have htd32 := (htd31.below hb).gr hg
              have htg32 : TabAt (u32.alloc (.cells #[.int .i64 g.c.c0, .int .i64 g.c.c1, .int .i64 g.c.c2, .int .i64 g.c.c3, .slice C32 g.c.l.length p32, .slice D32 g.e.length q32] 46)) u32.heap.size g C32 p32 D32 q32 := TabAt.new 46 hr hd rfl
              clear h0 h1 hn hg hr hd hb hF31 htt31 htpt31 htqt31 hta31 htb31 htab31 htd31
              obtain rfl : eg = 0 := by rw [← hzg.out.2, ← hzdc.out]; exact (del_cells hBH.out.del).2.2.1
              have hgo := hBH.out.gone (g := g) (by rw [hzdc.out]; exact hzg.out.2) (by rw [hzdc.out]; exact hzg.out.1)
              have hgoH : Hid _ := hgo
              clear hgo
              obtain ⟨x0, x1, x2, x3, x4, x5, xlt, xrow, xrowC⟩ := (show TabAt _ _ _ _ _ _ _ from htg32)
              obtain ⟨y0, y1, y2, y3, y4, y5, ylt, yrow, yrowC⟩ := (show TabAt _ _ _ _ _ _ _ from hta32)
              have hm := merge_new g a C32 C5 D32 D5 p32 p5 q32 q5 _ hfg.out.1 hfa.out.1 hfg.out.2 hfa.out.2 hng.out hna.out xrow yrow xrowC yrowC
              have hmH : Hid _ := hm
              clear hm xlt ylt xrow yrow xrowC yrowC
              go_wp2_with fail
              refine Calls.mono (show Calls _ _ _ _ _ from hmH.out) ?_
              rintro e u33 ⟨C33, p33, D33, q33, rfl, hr, hd, hn, -, -, -, hb⟩
              clear hmH x0 x1 x2 x3 x4 x5 y0 y1 y2 y3 y4 y5
              obtain ⟨xx, h0⟩ : ∃ t', mergeT g a = t' := ⟨_, rfl⟩
              obtain ⟨exx, h1⟩ : ∃ e, mergeE g a = e := ⟨_, rfl⟩
              have hfxx : Hid (Fits xx) := by show Fits _; rw [← h0]; exact mergeT_lenK _ _
              rw [h0] at hr hd ⊢
              rw [h1]
              have hzxx : Hid (mergeT g a = xx ∧ mergeE g a = exx) := ⟨h0, h1⟩
              have hnxx : Hid (C33 = none → p33 = 0) := hn
              have hg : Gr u33 (u33.alloc (.cells #[.int .i64 xx.c.c0, .int .i64 xx.c.c1, .int .i64 xx.c.c2, .int .i64 xx.c.c3, .slice C33 xx.c.l.length p33, .slice D33 xx.e.length q33] 46)) := (Gr.refl _).alloc _
              have hF33 := (hF32.below hb).gr hg
              have htt33 := (htt32.below hb).gr hg
              have htpt33 := (htpt32.below hb).gr hg
              have htqt33 := (htqt32.below hb).gr hg
              have hta33 := (hta32.below hb).gr hg
              have htb33 := (htb32.below hb).gr hg
              have htab33 := (htab32.below hb).gr hg
              have htd33 := (htd32.below hb).gr hg
              have htg33 := (htg32.below hb).gr hg
              have htxx33 : TabAt (u33.alloc (.cells #[.int .i64 xx.c.c0, .int .i64 xx.c.c1, .int .i64 xx.c.c2, .int .i64 xx.c.c3, .slice C33 xx.c.l.length p33, .slice D33 xx.e.length q33] 46)) u33.heap.size xx C33 p33 D33 q33 := TabAt.new 46 hr hd rfl
              clear h0 h1 hn hg hr hd hb hF32 htt32 htpt32 htqt32 hta32 htb32 htab32 htd32 htg32
              by_cases hcxx : exx = 0
              · subst hcxx
                have hEx : Hid (errT xx = 0) := by show errT xx = 0; rw [← hzxx.out.1]; exact errT_merge hzxx.out.2
                have hV2 : onceL (valsOf key col xx.e) = [v] := by rw [← hzxx.out.1]; exact hBH.out.last (g := g) (by rw [hzdc.out]; exact hzg.out.2) (by rw [hzdc.out]; exact hzg.out.1) hzxx.out.2
                have hExx := hEx
                obtain ⟨x0, x1, x2, x3, x4, x5, xlt, xrow, xrowC⟩ := (show TabAt _ _ _ _ _ _ _ from htxx33)
                have hv := values_any xx C33 p33 D33 q33 key col _ (small_ok hExx.out) xrow xrowC
                rw [hV2] at hv
                have hvH : Hid _ := hv
                clear hv xlt xrow xrowC
                go_wp2_with fail
                refine Calls.mono (show Calls _ _ _ _ _ from hvH.out) ?_
                rintro e u34 ⟨Q34, r34, rfl, hq34, hb⟩
                clear hvH x0 x1 x2 x3 x4 x5
                have hF34 := hF33.below hb
                have htt34 := htt33.below hb
                have htpt34 := htpt33.below hb
                have htqt34 := htqt33.below hb
                have hta34 := hta33.below hb
                have htb34 := htb33.below hb
                have htab34 := htab33.below hb
                have htd34 := htd33.below hb
                have htg34 := htg33.below hb
                have htxx34 := htxx33.below hb
                clear hb hF33 htt33 htpt33 htqt33 hta33 htb33 htab33 htd33 htg33 htxx33
                have he : Calls Try.prog 23 #[.slice Q34 1 r34, .slice (some ⟨u34.heap.size, 0, none⟩) 1 1] (u34.alloc (.cells #[.int .i64 v] 3)) fun e w' => e = .returned (.bool true) ∧ Gr (u34.alloc (.cells #[.int .i64 v] 3)) w' := by
                  have h := equalI_anyK [v] [v] Q34 (some ⟨u34.heap.size, 0, none⟩) r34 1 (u34.alloc (.cells #[.int .i64 v] 3)) (show 1 ≤ 9223372036854775807 by decide) (show 1 ≤ 9223372036854775807 by decide) (hq34.gr ((Gr.refl _).alloc _)) (rowNewI rfl v 3)
                  rw [decide_eq_true rfl] at h
                  exact h
                have heH : Hid _ := he
                clear he
                go_wp2_with fail
                refine Calls.mono (show Calls _ _ _ _ _ from heH.out) ?_
                rintro e u35 ⟨rfl, hg⟩
                clear heH
                have hbwH : Hid (BW w _) := (hF34.gr ((Gr.refl _).alloc _)).gr hg
                clear hg hq34 hF34 htt34 htpt34 htqt34 hta34 htb34 htab34 htd34 htg34 htxx34
                go_wp2
                go_ret
                exact ⟨rfl, hbwH.out.hw⟩
              · have hx : exx = 2 := by rw [← hzxx.out.2]; exact merge_room hgoH.out.1 hBH.out.ea hgoH.out.2.1 (by rw [hzxx.out.2]; exact hcxx)
                subst hx
                clear hcxx
                have hbwH : Hid (BW w _) := hF33
                clear hF33 htt33 htpt33 htqt33 hta33 htb33 htab33 htd33 htg33 htxx33
                go_wp2
                go_ret
                exact ⟨rfl, hbwH.out.hw⟩
          · have hx : eab = 2 := by rw [← hzab.out.2]; exact merge_room hBH.out.ea hBH.out.eb hBH.out.clash (by rw [hzab.out.2]; exact hcab)
            subst hx
            clear hcab
            have hbwH : Hid (BW w _) := hF7
            clear hF7 htt7 htpt7 htqt7 hta7 htb7 htab7
            go_wp2
            go_ret
            exact ⟨rfl, hbwH.out.hw⟩
        · have hx : eb = 2 := by have h := put_room hzqt.out.2 (by rw [hzqt.out.1, hzb.out.2]; exact hcb); rw [hzqt.out.1, hzb.out.2] at h; exact h
          subst hx
          clear hcb
          have hbwH : Hid (BW w _) := hF6
          clear hF6 htt6 htpt6 htqt6 hta6 htb6
          go_wp2
          go_ret
          exact ⟨rfl, hbwH.out.hw⟩
      · have hx : ea = 2 := by have h := put_room hzpt.out.2 (by rw [hzpt.out.1, hza.out.2]; exact hca); rw [hzpt.out.1, hza.out.2] at h; exact h
        subst hx
        clear hca
        have hbwH : Hid (BW w _) := hF6
        clear hF6 htt6 htpt6 htqt6 hta6 htb6
        go_wp2
        go_ret
        exact ⟨rfl, hbwH.out.hw⟩
    · have hb : (eqt != 0) = true := by simpa using hcqt
      clear hcqt
      have hbwH : Hid (BW w _) := hF4
      clear hF4 htt4 htpt4 htqt4
      go_wp2
      go_ret
      exact ⟨rfl, hbwH.out.hw⟩
  · have hb : (ept != 0) = true := by simpa using hcpt
    clear hcpt
    have hbwH : Hid (BW w _) := hF4
    clear hF4 htt4 htpt4 htqt4
    go_wp2
    go_ret
    exact ⟨rfl, hbwH.out.hw⟩

end

open Go.ChangeShapes Go.WideShapes Go.ChangeAt Go.RowKit Go.Deep

set_option maxRecDepth 100000 in
theorem open_edi {H : Type} {enc : TypeId × Value → H} {W : World} {fuel : Nat} {cs : List Value} {x : DataW H × List MemPlace} (hl : cs.length = 5) (h : DataW.trod enc Try.prog W 0 (fun _ => true) true fuel 72 cs = some x) : ∃ y : Cel, cs = encC y := by
  match cs, hl with
  | [v0, v1, v2, v3, v4], _ =>
    obtain ⟨xs, n, _, _, _, hxl, hf⟩ := DataW.trod_struct Try.underlying72 h
    have c1 : Try.prog.cellsOf 3 = 1 := by kernel_rfl
    have hx5 : xs.length = 5 := hxl
    match xs, hx5 with
    | [y0, y1, y2, y3, y4], _ =>
      have g0 := hf 0 _ rfl
      have g1 := hf 1 _ rfl
      have g2 := hf 2 _ rfl
      have g3 := hf 3 _ rfl
      have g4 := hf 4 _ rfl
      simp [c1] at g0 g1 g2 g3 g4
      obtain ⟨z0, e0, _⟩ := DataW.trod_int Try.underlying3 g0
      obtain ⟨z1, e1, _⟩ := DataW.trod_int Try.underlying3 g1
      obtain ⟨z2, e2, _⟩ := DataW.trod_int Try.underlying3 g2
      obtain ⟨z3, e3, _⟩ := DataW.trod_int Try.underlying3 g3
      obtain ⟨z4, e4, _⟩ := DataW.trod_int Try.underlying3 g4
      simp only [List.cons.injEq, and_true] at e0 e1 e2 e3 e4
      exact ⟨((z0, z1), z2, z3, z4), by rw [e0, e1, e2, e3, e4]; rfl⟩

set_option maxRecDepth 100000 in
theorem open_edits {H : Type} {enc : TypeId × Value → H} {W : World} {r : Reach} {b0 : Nat} {v : Value} {d : DataW H} {p : List MemPlace} (hv : Value.okWide Try.prog W r b0 53 v) (h : DataW.Trod enc Try.prog W 0 (fun _ => true) true 53 v d p) :
    ∃ A cap l, v = .slice A (l : List Cel).length cap ∧ l.length ≤ cap ∧ RowC W A l ∧ l.length ≤ maxLen := by
  obtain ⟨aL, lenL, capL, rfl⟩ := okWide_slice Try.underlying53 hv
  obtain ⟨fuel, hf⟩ := h
  rcases open_slice Try.underlying53 hf with ⟨hcs, _⟩ | ⟨a, len, cap, m, n, D, Pl, hcs, _, hl, hm, hmm, hx, hi⟩
  · simp [Value.cells] at hcs
    obtain ⟨rfl, rfl, rfl⟩ := hcs
    exact ⟨none, 0, [], rfl, by simp, Or.inl rfl, by simp⟩
  · simp [Value.cells] at hcs
    obtain ⟨rfl, rfl, rfl⟩ := hcs
    have c5 : Try.prog.cellsOf 72 = 5 := by kernel_rfl
    have hlm : lenL ≤ m := by rw [hmm]; simp; exact hl
    obtain ⟨Z, hZ⟩ := choose_lt (α := Cel) (n := lenL) (p := fun i z => ∀ j, j < 5 → W.cell? (a.add (i * 5 + j)) = (encC z)[j]?) (fun i hi' => by
      obtain ⟨cs', h1, h2⟩ := hi i (by omega)
      rw [c5] at h1
      obtain ⟨_, hlen, hcell⟩ := World.cells?_some h1
      obtain ⟨y, hy⟩ := open_edi hlen h2
      refine ⟨y, fun j hj => ?_⟩
      have := hcell j (by omega)
      rw [add_add] at this
      rw [this, ← hy, List.getElem?_eq_getElem (by omega)])
    refine ⟨some a, capL, (List.range lenL).map Z, by simp, by simpa using hl, ?_, by simp; omega⟩
    by_cases h0 : lenL = 0
    · exact Or.inl (by rw [h0]; rfl)
    · have hc0 := hZ 0 (by omega) 0 (by omega)
      obtain ⟨b, off, spot⟩ := a
      have hc1 : W.cell? (Addr.add ⟨b, off, spot⟩ (0 * 5 + 0)) = some (.int .i64 (Z 0).1.1) := hc0
      have hspot : spot = none := by simpa [Addr.add] using World.cell?_spot hc1
      subst hspot
      refine Or.inr ⟨b, off, rfl, ?_, fun j hj i hi5 => ?_⟩
      · have := World.block_lt_of_cell? W _ hc1
        simpa [Addr.add_lit] using this
      · have hj' : j < lenL := by simpa using hj
        have := hZ j hj' i hi5
        simp only [Addr.add_lit, ← Nat.add_assoc] at this
        simpa using this

set_option maxRecDepth 100000 in
theorem tableWins_lifted (os : Os) (started : os.Started) (H : Type) (enc : TypeId × Value → H) :
    ReturnsInHanded {} Try.checked os 7 .any (Rows.tableWinsSpec.pre6 enc Try.prog Try.f7 Rows.tableWinsRow.domain false) (Rows.tableWinsSpec.post enc Try.prog Try.f7 false true false false) := by
  refine returnsInHanded_of_change (C := Try.checked) ownK started (by kernel_rfl) Try.func7
    (ChangeSpec.witness6 (enc := enc) (C := Try.checked) false ⟨#[], #[.slice none 0 0, .int .i64 0, .int .i64 0, .int .i64 0, .int .i64 0], []⟩ 8 (by kernel_rfl) (by kernel_rfl) (by kernel_rfl) (by kernel_rfl)) ?_
  intro W base args ds gs before hval0 hW hcnd _
  have hval : ∀ (j : Nat) t v, Try.f7.params[j]? = some t → args[j]? = some v → Value.okWide Try.prog W .any base t v := hval0
  have hW' := hW
  obtain ⟨p, q, hA0, hV, rfl, hfz, hnd⟩ := hW
  have hA : DataW.TrodAll enc Try.prog W 0 (fun _ => true) true Try.f7.params.toList args.toList ds p := hA0
  rw [Try.params7] at hA hval
  obtain ⟨v0, vs0, d0, ds0, p0, q0, hargs, rfl, rfl, h0, r0⟩ := trodAll_cons hA
  obtain ⟨v1, vs1, d1, ds1, p1, q1, rfl, rfl, rfl, h1, r1⟩ := trodAll_cons r0
  obtain ⟨v2, vs2, d2, ds2, p2, q2, rfl, rfl, rfl, h2, r2⟩ := trodAll_cons r1
  obtain ⟨v3, vs3, d3, ds3, p3, q3, rfl, rfl, rfl, h3, r3⟩ := trodAll_cons r2
  obtain ⟨v4, vs4, d4, ds4, p4, q4, rfl, rfl, rfl, h4, r4⟩ := trodAll_cons r3
  obtain ⟨rfl, rfl, rfl⟩ := trodAll_nil r4
  obtain rfl : args = #[v0, v1, v2, v3, v4] := by cases args; simp_all
  obtain ⟨rfl, rfl⟩ := trodVars_none hV
  have lt0 : ∀ x ∈ p0, x.block < W.heap.size := by obtain ⟨m, hm⟩ := h0; exact DataW.trod_lt m _ _ _ hm
  have k0 := h0
  have lt1 : ∀ x ∈ p1, x.block < W.heap.size := by obtain ⟨m, hm⟩ := h1; exact DataW.trod_lt m _ _ _ hm
  have k1 := h1
  have lt2 : ∀ x ∈ p2, x.block < W.heap.size := by obtain ⟨m, hm⟩ := h2; exact DataW.trod_lt m _ _ _ hm
  have k2 := h2
  have lt3 : ∀ x ∈ p3, x.block < W.heap.size := by obtain ⟨m, hm⟩ := h3; exact DataW.trod_lt m _ _ _ hm
  have k3 := h3
  have lt4 : ∀ x ∈ p4, x.block < W.heap.size := by obtain ⟨m, hm⟩ := h4; exact DataW.trod_lt m _ _ _ hm
  have k4 := h4
  obtain ⟨L, cl, l, rfl, hcl, hrl, hll⟩ := open_edits (hval 0 53 v0 rfl rfl) h0
  obtain ⟨n1, rfl, rfl, rfl, w1⟩ := open_int Try.underlying3 (hval 1 3 v1 rfl rfl) h1
  obtain ⟨n2, rfl, rfl, rfl, w2⟩ := open_int Try.underlying3 (hval 2 3 v2 rfl rfl) h2
  obtain ⟨n3, rfl, rfl, rfl, w3⟩ := open_int Try.underlying3 (hval 3 3 v3 rfl rfl) h3
  obtain ⟨n4, rfl, rfl, rfl, w4⟩ := open_int Try.underlying3 (hval 4 3 v4 rfl rfl) h4
  clear hA0 hval0
  refine (tableWins_any l L cl n1 n2 n3 n4 W hll hcl hrl).mono fun e W' ⟨he, bel⟩ => ?_
  subst he
  exact ⟨_, rfl, _, _, _, [], _, [], hW', trodAll_mk1 (shut_bool Try.underlying4 _),
    (trodAll_cons_mk (Below.trod laidAll (by kernel_rfl) (of_decide_eq_true (by kernel_rfl)) k0 bel lt0) (trodAll_cons_mk (Below.trod laidAll (by kernel_rfl) (of_decide_eq_true (by kernel_rfl)) k1 bel lt1) (trodAll_cons_mk (Below.trod laidAll (by kernel_rfl) (of_decide_eq_true (by kernel_rfl)) k2 bel lt2) (trodAll_cons_mk (Below.trod laidAll (by kernel_rfl) (of_decide_eq_true (by kernel_rfl)) k3 bel lt3) (trodAll_cons_mk (Below.trod laidAll (by kernel_rfl) (of_decide_eq_true (by kernel_rfl)) k4 bel lt4) trodAll_mk0))))), rfl, bel.frame _, fun h => by cases h⟩

theorem tableWins_holds : Rows.TableWinsSaid :=
  OpenClaim.holds_of_wide 7 Try.f7 rfl rfl rfl rfl rfl rfl rfl ⟨rfl, rfl, rfl, rfl, rfl⟩ rfl rfl rfl rfl rfl (by kernel_rfl) Try.func7 (by kernel_rfl)
    (of_decide_eq_true (by kernel_rfl)) (by unfold Func.isWrapper; first | (rw [if_pos (by decide +kernel)]; kernel_rfl) | (rw [if_neg (by decide +kernel)]; exact ⟨rfl, rfl⟩))
    (fun os started H enc _ => tableWins_lifted os started H enc)

#print axioms tableWins_holds
end Go.Proofs.Ytjgefnipkaecgab
