/-
  viewkeep.puts: is a value put told?
-/
import Derived.Test.YtjgefnipkaecgacKEdited
import Derived.Test.YtjgefnipkaecgacTInts
import Derived.Test.YtjgefnipkaecgacEqI
namespace Go.Proofs.Ytjgefnipkaecgac
open Go.RowKit Go.Sort Go.Shelf Go.Lib

theorem srt_nil : srt [] = [] := by simp [srt]
theorem srt_one (x : Int × Int) : srt [x] = [x] := by simp [srt]
theorem srtC_nil : srtC [] = [] := by simp [srtC]
theorem srtC_one (x : Cel) : srtC [x] = [x] := by simp [srtC]

theorem mk0 : makeC [] = zeroC := by unfold makeC foldS; rw [srt_nil]; rfl
theorem mk1 : makeC [(0, 1)] = ⟨1, 0, 0, 0, []⟩ := by unfold makeC foldS; rw [srt_one]; rfl
theorem mk2 : makeC [(1, 1)] = ⟨0, 1, 0, 0, []⟩ := by unfold makeC foldS; rw [srt_one]; rfl
theorem jf (a0 a1 a2 a3 b0 b1 b2 b3 : Int) : joinF ⟨a0, a1, a2, a3, []⟩ ⟨b0, b1, b2, b3, []⟩ = ⟨max a0 b0, max a1 b1, max a2 b2, max a3 b3, []⟩ := by unfold joinF foldS joinK; rw [List.append_nil, srt_nil]; rfl
theorem je1 : joinE zeroC ⟨1, 0, 0, 0, []⟩ = 0 := by unfold joinE zeroC; rw [jf]; rfl
theorem jc1 : joinC zeroC ⟨1, 0, 0, 0, []⟩ = ⟨1, 0, 0, 0, []⟩ := by unfold joinC; rw [je1, if_pos rfl]; unfold zeroC; rw [jf]; rfl
theorem je2 : joinE ⟨1, 0, 0, 0, []⟩ ⟨0, 1, 0, 0, []⟩ = 0 := by unfold joinE; rw [jf]; rfl
theorem jc2 : joinC ⟨1, 0, 0, 0, []⟩ ⟨0, 1, 0, 0, []⟩ = ⟨1, 1, 0, 0, []⟩ := by unfold joinC; rw [je2, if_pos rfl, jf]; rfl
theorem je3 : joinE ⟨1, 0, 0, 0, []⟩ ⟨1, 1, 0, 0, []⟩ = 0 := by unfold joinE; rw [jf]; rfl
theorem jc3 : joinC ⟨1, 0, 0, 0, []⟩ ⟨1, 1, 0, 0, []⟩ = ⟨1, 1, 0, 0, []⟩ := by unfold joinC; rw [je3, if_pos rfl, jf]; rfl

theorem p1E : putE ⟨zeroC, []⟩ 0 3 1 7 = 0 := by
  unfold putE
  rw [show dotsOf (fitP 3 1) (⟨zeroC, []⟩ : Tab).e = [] from rfl, show (nextA (⟨zeroC, []⟩ : Tab).c 0).1 = (0, 1) from rfl, mk0, mk1, je1]
  rfl
theorem p1T : putT ⟨zeroC, []⟩ 0 3 1 7 = ⟨⟨1, 0, 0, 0, []⟩, [((0, 1), 3, 1, 7)]⟩ := by
  unfold putT
  rw [p1E, if_pos rfl, show dotsOf (fitP 3 1) (⟨zeroC, []⟩ : Tab).e = [] from rfl, show (nextA (⟨zeroC, []⟩ : Tab).c 0).1 = (0, 1) from rfl, mk0, mk1, jc1]
theorem p2E : putE ⟨⟨1, 0, 0, 0, []⟩, [((0, 1), 3, 1, 7)]⟩ 1 3 1 5 = 0 := by
  unfold putE
  rw [show dotsOf (fitP 3 1) (⟨⟨1, 0, 0, 0, []⟩, [((0, 1), 3, 1, 7)]⟩ : Tab).e = [(0, 1)] from rfl, show (nextA (⟨⟨1, 0, 0, 0, []⟩, [((0, 1), 3, 1, 7)]⟩ : Tab).c 1).1 = (1, 1) from rfl, mk1, mk2, je2]
  rfl
theorem p2T : putT ⟨⟨1, 0, 0, 0, []⟩, [((0, 1), 3, 1, 7)]⟩ 1 3 1 5 = ⟨⟨1, 1, 0, 0, []⟩, [((1, 1), 3, 1, 5)]⟩ := by
  unfold putT
  rw [p2E, if_pos rfl, show dotsOf (fitP 3 1) (⟨⟨1, 0, 0, 0, []⟩, [((0, 1), 3, 1, 7)]⟩ : Tab).e = [(0, 1)] from rfl, show (nextA (⟨⟨1, 0, 0, 0, []⟩, [((0, 1), 3, 1, 7)]⟩ : Tab).c 1).1 = (1, 1) from rfl, mk1, mk2, jc2]
theorem b1 : mrg ⟨zeroC, []⟩ ⟨⟨1, 0, 0, 0, []⟩, [((0, 1), 3, 1, 7)]⟩ = [((0, 1), 3, 1, 7)] := by
  unfold mrg
  rw [show both ⟨zeroC, []⟩ ⟨⟨1, 0, 0, 0, []⟩, [((0, 1), 3, 1, 7)]⟩ = [((0, 1), 3, 1, 7)] from rfl, srtC_one]
theorem b2 : mrg ⟨⟨1, 0, 0, 0, []⟩, [((0, 1), 3, 1, 7)]⟩ ⟨⟨1, 1, 0, 0, []⟩, [((1, 1), 3, 1, 5)]⟩ = [((1, 1), 3, 1, 5)] := by
  unfold mrg
  rw [show both ⟨⟨1, 0, 0, 0, []⟩, [((0, 1), 3, 1, 7)]⟩ ⟨⟨1, 1, 0, 0, []⟩, [((1, 1), 3, 1, 5)]⟩ = [((1, 1), 3, 1, 5)] from rfl, srtC_one]
theorem m1E : mergeE ⟨zeroC, []⟩ ⟨⟨1, 0, 0, 0, []⟩, [((0, 1), 3, 1, 7)]⟩ = 0 := by
  unfold mergeE
  rw [b1, show joinE (⟨zeroC, []⟩ : Tab).c (⟨⟨1, 0, 0, 0, []⟩, [((0, 1), 3, 1, 7)]⟩ : Tab).c = 0 from je1]
  rfl
theorem m2E : mergeE ⟨⟨1, 0, 0, 0, []⟩, [((0, 1), 3, 1, 7)]⟩ ⟨⟨1, 1, 0, 0, []⟩, [((1, 1), 3, 1, 5)]⟩ = 0 := by
  unfold mergeE
  rw [b2, show joinE (⟨⟨1, 0, 0, 0, []⟩, [((0, 1), 3, 1, 7)]⟩ : Tab).c (⟨⟨1, 1, 0, 0, []⟩, [((1, 1), 3, 1, 5)]⟩ : Tab).c = 0 from je3]
  rfl
theorem edited_one : editT ⟨zeroC, []⟩ 0 ((1, 0), 3, 1, 7) = ⟨⟨1, 0, 0, 0, []⟩, [((0, 1), 3, 1, 7)]⟩ := by
  have hE : editE ⟨zeroC, []⟩ 0 ((1, 0), 3, 1, 7) = 0 := p1E
  have hD : editD ⟨zeroC, []⟩ 0 ((1, 0), 3, 1, 7) = ⟨⟨1, 0, 0, 0, []⟩, [((0, 1), 3, 1, 7)]⟩ := p1T
  unfold editT mergeT
  rw [hE, hD, m1E, if_pos ⟨rfl, rfl⟩, if_pos rfl, b1, show joinC (⟨zeroC, []⟩ : Tab).c (⟨⟨1, 0, 0, 0, []⟩, [((0, 1), 3, 1, 7)]⟩ : Tab).c = _ from jc1]
theorem edited_two : editedTo [((1, 0), 3, 1, 7), ((1, 0), 3, 1, 5)] 2 = ⟨⟨1, 1, 0, 0, []⟩, [((1, 1), 3, 1, 5)]⟩ := by
  show editT (editT ⟨zeroC, []⟩ 0 ((1, 0), 3, 1, 7)) 1 ((1, 0), 3, 1, 5) = _
  rw [edited_one]
  have hE : editE ⟨⟨1, 0, 0, 0, []⟩, [((0, 1), 3, 1, 7)]⟩ 1 ((1, 0), 3, 1, 5) = 0 := p2E
  have hD : editD ⟨⟨1, 0, 0, 0, []⟩, [((0, 1), 3, 1, 7)]⟩ 1 ((1, 0), 3, 1, 5) = ⟨⟨1, 1, 0, 0, []⟩, [((1, 1), 3, 1, 5)]⟩ := p2T
  unfold editT mergeT
  rw [hE, hD, m2E, if_pos ⟨rfl, rfl⟩, if_pos rfl, b2, show joinC (⟨⟨1, 0, 0, 0, []⟩, [((0, 1), 3, 1, 7)]⟩ : Tab).c (⟨⟨1, 1, 0, 0, []⟩, [((1, 1), 3, 1, 5)]⟩ : Tab).c = _ from jc3]


set_option maxRecDepth 100000 in
set_option maxHeartbeats 2000000 in
theorem puts_any (w : World) : Calls Try.prog 6 #[] w fun e w' => e = .returned (.bool true) ∧ Below w.heap.size w w' := by
  have hg0 : Gr w (w.alloc (.cells #[.int .i64 1, .int .i64 0, .int .i64 3, .int .i64 1, .int .i64 7, .int .i64 1, .int .i64 0, .int .i64 3, .int .i64 1, .int .i64 5] 50)) := (Gr.refl _).alloc _
  have hrE : RowC (w.alloc (.cells #[.int .i64 1, .int .i64 0, .int .i64 3, .int .i64 1, .int .i64 7, .int .i64 1, .int .i64 0, .int .i64 3, .int .i64 1, .int .i64 5] 50)) (some ⟨w.heap.size, 0, none⟩) [((1, 0), 3, 1, 7), ((1, 0), 3, 1, 5)] := by
    refine Or.inr ⟨w.heap.size, 0, rfl, by simp, fun j hj i hi => ?_⟩
    have hb := fun (i : Nat) (v : Value) (h : (#[.int .i64 1, .int .i64 0, .int .i64 3, .int .i64 1, .int .i64 7, .int .i64 1, .int .i64 0, .int .i64 3, .int .i64 1, .int .i64 5] : Array Value)[i]? = some v) => box1 (w := w) (Gr.refl (w.alloc (.cells #[.int .i64 1, .int .i64 0, .int .i64 3, .int .i64 1, .int .i64 7, .int .i64 1, .int .i64 0, .int .i64 3, .int .i64 1, .int .i64 5] 50))) (j := i) h
    have hj' : j = 0 ∨ j = 1 := by simp at hj; omega
    have hi' : i = 0 ∨ i = 1 ∨ i = 2 ∨ i = 3 ∨ i = 4 := by omega
    rcases hj' with rfl | rfl <;> rcases hi' with rfl | rfl | rfl | rfl | rfl
    · exact hb 0 _ rfl
    · exact hb 1 _ rfl
    · exact hb 2 _ rfl
    · exact hb 3 _ rfl
    · exact hb 4 _ rfl
    · exact hb 5 _ rfl
    · exact hb 6 _ rfl
    · exact hb 7 _ rfl
    · exact hb 8 _ rfl
    · exact hb 9 _ rfl
  have hed := edited_any [((1, 0), 3, 1, 7), ((1, 0), 3, 1, 5)] (some ⟨w.heap.size, 0, none⟩) 2 _ (by decide) (by decide) hrE
  rw [show min 60 ([((1, 0), 3, 1, 7), ((1, 0), 3, 1, 5)] : List Cel).length = 2 from rfl, edited_two] at hed
  obtain ⟨T, hT⟩ : ∃ T : Tab, (⟨⟨1, 1, 0, 0, []⟩, [((1, 1), 3, 1, 5)]⟩ : Tab) = T := ⟨_, rfl⟩
  rw [hT] at hed
  have hT4 : T.e.length * 40 ≤ 140737488355328 := by rw [← hT]; decide
  have hTv : onceL (valsOf 3 1 T.e) = [5] := by rw [← hT]; exact onceL_one 5
  have hTk : onceL (keysOf T.e) = [3] := by rw [← hT]; exact onceL_one 3
  have hedH : Hid (Calls Try.prog 18 #[.slice (some ⟨w.heap.size, 0, none⟩) 2 2] _ _) := hed
  clear hed hT
  go_enter Try.func6, Try.ntmps6
  go_wp2_with fail
  refine Calls.mono (show Calls _ _ _ _ _ from hedH.out) ?_
  rintro e w1 ⟨A, ca, D, cd, rfl, hr1, hd1, -, -, hb1⟩
  clear hedH
  have hbw1 : Below w.heap.size w w1 := hg0.below.trans (hb1.mono hg0.size)
  have hgT : Gr w1 (w1.alloc (.cells #[.int .i64 T.c.c0, .int .i64 T.c.c1, .int .i64 T.c.c2, .int .i64 T.c.c3, .slice A T.c.l.length ca, .slice D T.e.length cd] 28)) := (Gr.refl _).alloc _
  have hT2 : TabAt (w1.alloc (.cells #[.int .i64 T.c.c0, .int .i64 T.c.c1, .int .i64 T.c.c2, .int .i64 T.c.c3, .slice A T.c.l.length ca, .slice D T.e.length cd] 28)) w1.heap.size T A ca D cd := TabAt.new 28 hr1 hd1 rfl
  have hbw2 : Below w.heap.size w (w1.alloc (.cells #[.int .i64 T.c.c0, .int .i64 T.c.c1, .int .i64 T.c.c2, .int .i64 T.c.c3, .slice A T.c.l.length ca, .slice D T.e.length cd] 28)) := hbw1.alloc hbw1.size _
  have hva := values_any T A ca D cd 3 1 _ hT4 hT2.row hT2.rowC
  rw [hTv] at hva
  have hvaH : Hid (Calls Try.prog 21 _ _ fun e w' => ∃ C cp, e = .returned (.slice C 1 cp) ∧ RowI w' C [5] ∧ Below _ _ w') := hva
  clear hva hg0 hb1 hrE hr1 hd1 hgT hbw1
  go_wp2_with fail
  refine Calls.mono (show Calls _ _ _ _ _ from hvaH.out) ?_
  rintro e w3 ⟨C3, p3, rfl, hr3, hb3⟩
  clear hvaH
  have hT3 := hT2.below hb3
  have hbw3 : Below w.heap.size w w3 := hbw2.trans (hb3.mono hbw2.size)
  have hr4 := hr3.gr ((Gr.refl w3).alloc (.cells #[.int .i64 5] 3))
  have hn4 : RowI (w3.alloc (.cells #[.int .i64 5] 3)) (some ⟨w3.heap.size, 0, none⟩) [5] := rowNewI rfl 5 3
  have heq := equalI_anyK [5] [5] C3 (some ⟨w3.heap.size, 0, none⟩) p3 1 _ (by decide) (by decide) hr4 hn4
  rw [decide_eq_true rfl] at heq
  have heqH : Hid (Calls Try.prog 19 #[.slice C3 1 p3, .slice (some ⟨w3.heap.size, 0, none⟩) 1 1] (w3.alloc (.cells #[.int .i64 5] 3)) fun e w' => e = .returned (.bool true) ∧ Gr _ w') := heq
  clear heq hr4 hn4 hr3 hT2 hb3 hbw2
  go_wp2_with fail
  refine Calls.mono (show Calls _ _ _ _ _ from heqH.out) ?_
  rintro e w5 ⟨rfl, hg5⟩
  clear heqH
  have hT5 := hT3.gr (((Gr.refl _).alloc _).trans hg5)
  have hbw5 : Below w.heap.size w w5 := hbw3.trans ((((Gr.refl _).alloc _).trans hg5).below.mono hbw3.size)
  obtain ⟨t0, t1, t2, t3, t4, t5, tlt, trow, trowC⟩ := (show TabAt _ _ _ _ _ _ _ from hT5)
  have hke := keys_any T A ca D cd w5 hT4 trow trowC
  rw [hTk] at hke
  have hkeH : Hid (Calls Try.prog 20 _ _ fun e w' => ∃ C cp, e = .returned (.slice C 1 cp) ∧ RowI w' C [3] ∧ Below _ _ w') := hke
  clear hke trow trowC hT3 hbw3 hg5
  go_wp2_with fail
  refine Calls.mono (show Calls _ _ _ _ _ from hkeH.out) ?_
  rintro e w6 ⟨C6, p6, rfl, hr6, hb6⟩
  clear hkeH t0 t1 t2 t3 t4 t5
  have hbw6 : Below w.heap.size w w6 := hbw5.trans (hb6.mono hbw5.size)
  have hr7 := hr6.gr ((Gr.refl w6).alloc (.cells #[.int .i64 3] 3))
  have hn7 : RowI (w6.alloc (.cells #[.int .i64 3] 3)) (some ⟨w6.heap.size, 0, none⟩) [3] := rowNewI rfl 3 3
  have heq := equalI_anyK [3] [3] C6 (some ⟨w6.heap.size, 0, none⟩) p6 1 _ (by decide) (by decide) hr7 hn7
  rw [decide_eq_true rfl] at heq
  have heqH : Hid (Calls Try.prog 19 #[.slice C6 1 p6, .slice (some ⟨w6.heap.size, 0, none⟩) 1 1] (w6.alloc (.cells #[.int .i64 3] 3)) fun e w' => e = .returned (.bool true) ∧ Gr _ w') := heq
  clear heq hr7 hn7 hr6 hb6
  go_wp2_with fail
  refine Calls.mono (show Calls _ _ _ _ _ from heqH.out) ?_
  rintro e w8 ⟨rfl, hg8⟩
  clear heqH
  go_wp2
  go_ret
  exact ⟨rfl, hbw6.trans ((((Gr.refl _).alloc _).trans hg8).below.mono hbw6.size)⟩

end Go.Proofs.Ytjgefnipkaecgac
