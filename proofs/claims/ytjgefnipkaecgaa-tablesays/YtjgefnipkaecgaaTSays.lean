/-
  The law TableSays, walked: it answers true whatever table and numbers are handed in.
-/
import Derived.Test.YtjgefnipkaecgaaRPut
import Derived.Test.YtjgefnipkaecgaaRVals
import Derived.Test.YtjgefnipkaecgaaTSame
import Derived.Test.YtjgefnipkaecgaaLatMath
import Derived.Deep.RegionHeld3
namespace Go.Proofs.Ytjgefnipkaecgaa
open Go.RowKit Go.Sort Go.Shelf Go.Lib

theorem rowI_cell {w : World} {b off : Nat} {l : List Int} (h : RowI w (some ⟨b, off, none⟩) l) : ∀ j, j < l.length → w.cell? ⟨b, off + j, none⟩ = some (.int .i64 (l.getD j 0)) := by
  intro j hj
  obtain ⟨b', off', hA, _, hc⟩ := h.at hj
  obtain ⟨rfl, rfl⟩ : b = b' ∧ off = off' := by injection hA with hA; injection hA with h1 h2; exact ⟨h1, h2⟩
  have := hc j hj 0 (by omega)
  have e : l.getD j 0 = l[j] := by simp [hj]
  rw [e]
  simpa [encI] using this

/-- slices.Equal at numbers: of one list it is true. -/
theorem equalI_any (l : List Int) (A B : Option Addr) (c d : Nat) (w : World) (hl : l.length ≤ 9223372036854775807) (hr : RowI w A l) (hs : RowI w B l) :
    Calls Try.prog 34 #[.slice A l.length c, .slice B l.length d] w fun e w' => e = .returned (.bool true) ∧ Gr w w' := by
  by_cases h0 : l = []
  · subst h0
    have h := Any.slices_Equal_int_empty Try.equalInt A B c 0 d w (by omega)
    change Calls Try.prog 34 _ _ _ at h
    refine h.mono ?_
    rintro e w' ⟨rfl, rfl⟩
    exact ⟨rfl, Gr.refl _⟩
  · have hpos : 0 < l.length := List.length_pos_iff.2 h0
    obtain ⟨b, off, rfl, _, _⟩ := hr.at hpos
    obtain ⟨b', off', rfl, _, _⟩ := hs.at hpos
    have h := Any.slices_Equal_int Try.equalInt b off l.length c b' off' l.length d l l w (Nat.le_refl _) (Nat.le_refl _) hl hl (rowI_cell hr) (rowI_cell hs)
    change Calls Try.prog 34 _ _ _ at h
    refine h.mono ?_
    rintro e w' ⟨rfl, q, rfl⟩
    exact ⟨by simp, ⟨q, #[], by rw [grow_empty]⟩⟩

theorem onceL_small {key col : Int} {e : List Cel} (h : e.length * 40 ≤ 140737488355328) : (onceL (valsOf key col e)).length ≤ 9223372036854775807 ∧ (onceL (keysOf e)).length ≤ 9223372036854775807 := by
  have h1 := onceL_len (valsOf key col e)
  have h2 := valsOf_len key col e
  have h3 := onceL_len (keysOf e)
  have h4 := keysOf_len e
  omega

theorem joinC_lenT (a b : Ctx) : (joinC a b).l.length ≤ maxLen := by
  by_cases h : joinE a b = 0
  · rw [(joinE_ok h).2.2.2.1]
    exact Nat.le_trans (joinE_ok h).2.2.2.2 (by decide)
  · have : joinC a b = zeroC := by simp [joinC, h]
    rw [this]; decide
theorem putT_len (t : Tab) (n key col v : Int) : (putT t n key col v).c.l.length ≤ maxLen ∧ (putT t n key col v).e.length ≤ maxLen := by
  unfold putT
  by_cases h : putE t n key col v = 0
  · rw [if_pos h]
    exact ⟨joinC_lenT _ _, show 1 ≤ maxLen by decide⟩
  · rw [if_neg h]
    exact ⟨by decide, by decide⟩
theorem delC_len (t : Tab) (key : Int) : (delC t key).l.length ≤ maxLen := by
  unfold delC
  by_cases h : delE t key = 0
  · rw [if_pos h]
    have h1 : errT t = 0 := by
      by_cases h1 : errT t = 0
      · exact h1
      · unfold delE at h
        rw [if_pos h1] at h
        exact absurd h h1
    exact makeC_len _ (Nat.le_trans (dotsOf_len _ _) (errT_parts h1).2.1)
  · rw [if_neg h]; decide

set_option maxRecDepth 100000 in
set_option maxHeartbeats 4000000 in
theorem tableSays_any (t : Tab) (A : Option Addr) (ca : Nat) (D : Option Addr) (cd : Nat) (n key col v : Int) (w : World) (hl : t.c.l.length ≤ maxLen) (hel : t.e.length ≤ maxLen) (hsz : t.e.length * 40 ≤ 140737488355328) (hr : Row w A t.c.l) (hd : RowC w D t.e) :
    Calls Try.prog 5 #[.agg #[.int .i64 t.c.c0, .int .i64 t.c.c1, .int .i64 t.c.c2, .int .i64 t.c.c3, .slice A t.c.l.length ca, .slice D t.e.length cd], .int .i64 n, .int .i64 key, .int .i64 col, .int .i64 v] w fun e w' => e = .returned (.bool true) ∧ Below w.heap.size w w' := by
  have ht0 : TabAt (w.alloc (.cells #[.int .i64 t.c.c0, .int .i64 t.c.c1, .int .i64 t.c.c2, .int .i64 t.c.c3, .slice A t.c.l.length ca, .slice D t.e.length cd] 51)) w.heap.size t A ca D cd := TabAt.new 51 hr hd rfl
  have hb0 : Below w.heap.size w (w.alloc (.cells #[.int .i64 t.c.c0, .int .i64 t.c.c1, .int .i64 t.c.c2, .int .i64 t.c.c3, .slice A t.c.l.length ca, .slice D t.e.length cd] 51)) := ((Gr.refl w).alloc _).below
  have hlH : Hid (t.c.l.length ≤ maxLen ∧ t.e.length ≤ maxLen ∧ t.e.length * 40 ≤ 140737488355328) := ⟨hl, hel, hsz⟩
  have hc1 := put_any t A ca D cd n key col v _ hl hel ht0.row ht0.rowC
  have hc1H : Hid _ := hc1
  have hpl : Hid ((putT t n key col v).c.l.length ≤ maxLen ∧ (putT t n key col v).e.length ≤ maxLen ∧ (delC t key).l.length ≤ maxLen) := ⟨(putT_len t n key col v).1, (putT_len t n key col v).2, delC_len t key⟩
  clear hc1 hl hel hsz hr hd
  go_enter Try.func5, Try.ntmps5
  go_wp2_with fail
  refine Calls.mono (show Calls _ _ _ _ _ from hc1H.out) ?_
  rintro e w1 ⟨C1, p1, D1, q1, rfl, hr1, hd1, -, -, hb1⟩
  clear hc1H
  obtain ⟨a, ha⟩ : ∃ a, putT t n key col v = a := ⟨_, rfl⟩
  obtain ⟨ea, hea⟩ : ∃ ea, putE t n key col v = ea := ⟨_, rfl⟩
  rw [ha] at hr1 hd1 hpl ⊢
  rw [hea]
  have haH : Hid (putT t n key col v = a ∧ putE t n key col v = ea) := ⟨ha, hea⟩
  clear ha hea
  have hgA : Gr w1 (w1.alloc (.cells #[.int .i64 a.c.c0, .int .i64 a.c.c1, .int .i64 a.c.c2, .int .i64 a.c.c3, .slice C1 a.c.l.length p1, .slice D1 a.e.length q1] 51)) := (Gr.refl _).alloc _
  have ht1 := (ht0.below hb1).gr hgA
  have ha1 : TabAt (w1.alloc (.cells #[.int .i64 a.c.c0, .int .i64 a.c.c1, .int .i64 a.c.c2, .int .i64 a.c.c3, .slice C1 a.c.l.length p1, .slice D1 a.e.length q1] 51)) w1.heap.size a C1 p1 D1 q1 := TabAt.new 51 hr1 hd1 rfl
  have hbw1 : Below w.heap.size w (w1.alloc (.cells #[.int .i64 a.c.c0, .int .i64 a.c.c1, .int .i64 a.c.c2, .int .i64 a.c.c3, .slice C1 a.c.l.length p1, .slice D1 a.e.length q1] 51)) := (hb0.trans (hb1.mono hb0.size)).trans (hgA.below.mono (hb0.trans (hb1.mono hb0.size)).size)
  obtain ⟨s0, s1, s2, s3, s4, s5, slt, srow, srowC⟩ := (show TabAt _ _ _ _ _ _ _ from ht1)
  have hc2 := rput_any t A ca D cd n key col v _ hlH.out.1 hlH.out.2.1 srow srowC
  have hc2H : Hid _ := hc2
  clear hc2 hgA hr1 hd1 ht0 hb0 hb1 slt
  go_wp2_with fail
  refine Calls.mono (show Calls _ _ _ _ _ from hc2H.out) ?_
  rintro e w2 ⟨C2, p2, D2, q2, rfl, hr2, hd2, -, -, hb2⟩
  clear hc2H s0 s1 s2 s3 s4 s5 srow srowC
  rw [haH.out.1] at hr2 hd2 ⊢
  rw [haH.out.2]
  have hgB : Gr w2 (w2.alloc (.cells #[.int .i64 a.c.c0, .int .i64 a.c.c1, .int .i64 a.c.c2, .int .i64 a.c.c3, .slice C2 a.c.l.length p2, .slice D2 a.e.length q2] 51)) := (Gr.refl _).alloc _
  have ht2 := (ht1.below hb2).gr hgB
  have ha2 := (ha1.below hb2).gr hgB
  have hB2 : TabAt (w2.alloc (.cells #[.int .i64 a.c.c0, .int .i64 a.c.c1, .int .i64 a.c.c2, .int .i64 a.c.c3, .slice C2 a.c.l.length p2, .slice D2 a.e.length q2] 51)) w2.heap.size a C2 p2 D2 q2 := TabAt.new 51 hr2 hd2 rfl
  have hbw2 : Below w.heap.size w (w2.alloc (.cells #[.int .i64 a.c.c0, .int .i64 a.c.c1, .int .i64 a.c.c2, .int .i64 a.c.c3, .slice C2 a.c.l.length p2, .slice D2 a.e.length q2] 51)) := (hbw1.trans (hb2.mono hbw1.size)).trans (hgB.below.mono (hbw1.trans (hb2.mono hbw1.size)).size)
  obtain ⟨s0, s1, s2, s3, s4, s5, slt, srow, srowC⟩ := (show TabAt _ _ _ _ _ _ _ from ht2)
  have hc3 := del_any t A ca D cd key _ hlH.out.1 hlH.out.2.1 srow srowC
  have hc3H : Hid _ := hc3
  clear hc3 hgB hr2 hd2 ht1 ha1 hbw1 hb2 slt
  go_wp2_with fail
  refine Calls.mono (show Calls _ _ _ _ _ from hc3H.out) ?_
  rintro e w3 ⟨C3, p3, rfl, hr3, -, -, hb3⟩
  clear hc3H s0 s1 s2 s3 s4 s5 srow srowC
  obtain ⟨c, hc⟩ : ∃ c, delC t key = c := ⟨_, rfl⟩
  obtain ⟨ec, hec⟩ : ∃ ec, delE t key = ec := ⟨_, rfl⟩
  rw [hc] at hr3 hpl ⊢
  rw [hec]
  have hcH : Hid (delC t key = c ∧ delE t key = ec) := ⟨hc, hec⟩
  clear hc hec
  have hgC : Gr w3 (w3.alloc (.cells #[.int .i64 c.c0, .int .i64 c.c1, .int .i64 c.c2, .int .i64 c.c3, .slice C3 c.l.length p3, .slice none 0 0] 51)) := (Gr.refl _).alloc _
  have ht3 := (ht2.below hb3).gr hgC
  have ha3 := (ha2.below hb3).gr hgC
  have hB3 := (hB2.below hb3).gr hgC
  have hC3 : TabAt (w3.alloc (.cells #[.int .i64 c.c0, .int .i64 c.c1, .int .i64 c.c2, .int .i64 c.c3, .slice C3 c.l.length p3, .slice none 0 0] 51)) w3.heap.size ⟨c, []⟩ C3 p3 none 0 := TabAt.new (t := ⟨c, []⟩) 51 hr3 (Or.inl rfl) rfl
  have hbw3 : Below w.heap.size w (w3.alloc (.cells #[.int .i64 c.c0, .int .i64 c.c1, .int .i64 c.c2, .int .i64 c.c3, .slice C3 c.l.length p3, .slice none 0 0] 51)) := (hbw2.trans (hb3.mono hbw2.size)).trans (hgC.below.mono (hbw2.trans (hb3.mono hbw2.size)).size)
  obtain ⟨s0, s1, s2, s3, s4, s5, slt, srow, srowC⟩ := (show TabAt _ _ _ _ _ _ _ from ht3)
  have hc4 := rdel_any t A ca D cd key _ hlH.out.1 hlH.out.2.1 srow srowC
  have hc4H : Hid _ := hc4
  clear hc4 hgC hr3 ht2 ha2 hB2 hbw2 hb3 slt
  go_wp2_with fail
  refine Calls.mono (show Calls _ _ _ _ _ from hc4H.out) ?_
  rintro e w4 ⟨C4, p4, rfl, hr4, -, hb4⟩
  clear hc4H s0 s1 s2 s3 s4 s5 srow srowC
  rw [hcH.out.1] at hr4 ⊢
  rw [hcH.out.2]
  have hgD : Gr w4 (w4.alloc (.cells #[.int .i64 c.c0, .int .i64 c.c1, .int .i64 c.c2, .int .i64 c.c3, .slice C4 c.l.length p4, .slice none 0 0] 51)) := (Gr.refl _).alloc _
  have ht4 := (ht3.below hb4).gr hgD
  have ha4 := (ha3.below hb4).gr hgD
  have hB4 := (hB3.below hb4).gr hgD
  have hC4 := (hC3.below hb4).gr hgD
  have hD4 : TabAt (w4.alloc (.cells #[.int .i64 c.c0, .int .i64 c.c1, .int .i64 c.c2, .int .i64 c.c3, .slice C4 c.l.length p4, .slice none 0 0] 51)) w4.heap.size ⟨c, []⟩ C4 p4 none 0 := TabAt.new (t := ⟨c, []⟩) 51 hr4 (Or.inl rfl) rfl
  have hbw4 : Below w.heap.size w (w4.alloc (.cells #[.int .i64 c.c0, .int .i64 c.c1, .int .i64 c.c2, .int .i64 c.c3, .slice C4 c.l.length p4, .slice none 0 0] 51)) := (hbw3.trans (hb4.mono hbw3.size)).trans (hgD.below.mono (hbw3.trans (hb4.mono hbw3.size)).size)
  clear hgD hr4 ht3 ha3 hB3 hC3 hbw3 hb4
  go_upto_region 5 with fail
  generalize w4.alloc (.cells #[.int .i64 c.c0, .int .i64 c.c1, .int .i64 c.c2, .int .i64 c.c3, .slice C4 c.l.length p4, .slice none 0 0] 51) = X at ht4 ha4 hB4 hC4 hD4 hbw4 ⊢
  obtain ⟨V, hV⟩ : ∃ V, onceL (valsOf key col t.e) = V := ⟨_, rfl⟩
  obtain ⟨Q, hQ⟩ : ∃ Q, onceL (keysOf t.e) = Q := ⟨_, rfl⟩
  have hsm := onceL_small (key := key) (col := col) hlH.out.2.2
  rw [hV, hQ] at hsm
  have hsmH : Hid (V.length ≤ 9223372036854775807 ∧ Q.length ≤ 9223372036854775807) := hsm
  have hchk : Hid (∀ W, Below X.heap.size X W → Calls Try.prog 31 #[.agg #[.int .i64 t.c.c0, .int .i64 t.c.c1, .int .i64 t.c.c2, .int .i64 t.c.c3, .slice A t.c.l.length ca, .slice D t.e.length cd]] W fun e w' => e = .returned (.int .i64 (errT t)) ∧ Gr W w') := fun W hb => checkT_any t A ca D cd W hlH.out.1 hlH.out.2.1 (ht4.below hb).row (ht4.below hb).rowC
  have hrtb : Hid (∀ W, Below X.heap.size X W → Calls Try.prog 32 #[.agg #[.int .i64 t.c.c0, .int .i64 t.c.c1, .int .i64 t.c.c2, .int .i64 t.c.c3, .slice A t.c.l.length ca, .slice D t.e.length cd]] W fun e w' => e = .returned (.int .i64 (errT t)) ∧ Gr W w') := fun W hb => rtable_any t A ca D cd W hlH.out.1 hlH.out.2.1 (ht4.below hb).row (ht4.below hb).rowC
  have hs1 : Hid (∀ W, Below X.heap.size X W → Calls Try.prog 33 #[.agg #[.int .i64 a.c.c0, .int .i64 a.c.c1, .int .i64 a.c.c2, .int .i64 a.c.c3, .slice C1 a.c.l.length p1, .slice D1 a.e.length q1], .agg #[.int .i64 a.c.c0, .int .i64 a.c.c1, .int .i64 a.c.c2, .int .i64 a.c.c3, .slice C2 a.c.l.length p2, .slice D2 a.e.length q2]] W fun e w' => e = .returned (.bool true) ∧ Gr W w') := fun W hb => by
    have := sameT_any a a C1 D1 C2 D2 p1 q1 p2 q2 W hpl.out.1 hpl.out.1 hpl.out.2.1 hpl.out.2.1 (ha4.below hb).row (hB4.below hb).row (ha4.below hb).rowC (hB4.below hb).rowC
    rw [sameT_self] at this
    exact this
  have hs2 : Hid (∀ W, Below X.heap.size X W → Calls Try.prog 33 #[.agg #[.int .i64 c.c0, .int .i64 c.c1, .int .i64 c.c2, .int .i64 c.c3, .slice C3 c.l.length p3, .slice none 0 0], .agg #[.int .i64 c.c0, .int .i64 c.c1, .int .i64 c.c2, .int .i64 c.c3, .slice C4 c.l.length p4, .slice none 0 0]] W fun e w' => e = .returned (.bool true) ∧ Gr W w') := fun W hb => by
    have := sameT_any ⟨c, []⟩ ⟨c, []⟩ C3 none C4 none p3 0 p4 0 W hpl.out.2.2 hpl.out.2.2 (by simp) (by simp) (hC4.below hb).row (hD4.below hb).row (Or.inl rfl) (Or.inl rfl)
    rw [sameT_self] at this
    exact this
  have hval : Hid (∀ W, Below X.heap.size X W → Calls Try.prog 35 #[.agg #[.int .i64 t.c.c0, .int .i64 t.c.c1, .int .i64 t.c.c2, .int .i64 t.c.c3, .slice A t.c.l.length ca, .slice D t.e.length cd], .int .i64 key, .int .i64 col] W fun e w' => ∃ C cp, e = .returned (.slice C V.length cp) ∧ RowI w' C V ∧ Below W.heap.size W w') := fun W hb => by
    rw [← hV]; exact values_any t A ca D cd key col W hlH.out.2.2 (ht4.below hb).row (ht4.below hb).rowC
  have hrval : Hid (∀ W, Below X.heap.size X W → Calls Try.prog 36 #[.agg #[.int .i64 t.c.c0, .int .i64 t.c.c1, .int .i64 t.c.c2, .int .i64 t.c.c3, .slice A t.c.l.length ca, .slice D t.e.length cd], .int .i64 key, .int .i64 col] W fun e w' => ∃ C cp, e = .returned (.slice C V.length cp) ∧ RowI w' C V ∧ Below W.heap.size W w') := fun W hb => by
    rw [← hV]; exact rvalues_any t A ca D cd key col W hlH.out.2.2 (ht4.below hb).row (ht4.below hb).rowC
  have hkey : Hid (∀ W, Below X.heap.size X W → Calls Try.prog 37 #[.agg #[.int .i64 t.c.c0, .int .i64 t.c.c1, .int .i64 t.c.c2, .int .i64 t.c.c3, .slice A t.c.l.length ca, .slice D t.e.length cd]] W fun e w' => ∃ C cp, e = .returned (.slice C Q.length cp) ∧ RowI w' C Q ∧ Below W.heap.size W w') := fun W hb => by
    rw [← hQ]; exact keys_any t A ca D cd W hlH.out.2.2 (ht4.below hb).row (ht4.below hb).rowC
  have hrkey : Hid (∀ W, Below X.heap.size X W → Calls Try.prog 38 #[.agg #[.int .i64 t.c.c0, .int .i64 t.c.c1, .int .i64 t.c.c2, .int .i64 t.c.c3, .slice A t.c.l.length ca, .slice D t.e.length cd]] W fun e w' => ∃ C cp, e = .returned (.slice C Q.length cp) ∧ RowI w' C Q ∧ Below W.heap.size W w') := fun W hb => by
    rw [← hQ]; exact rkeys_any t A ca D cd W hlH.out.2.2 (ht4.below hb).row (ht4.below hb).rowC
  have hKeep : Hid (∀ w' : World, Below X.heap.size X w' → (fun w' => w'.cell? ⟨w.heap.size, 0, none⟩ = some (.int .i64 t.c.c0) ∧ w'.cell? ⟨w.heap.size, 1, none⟩ = some (.int .i64 t.c.c1) ∧ w'.cell? ⟨w.heap.size, 2, none⟩ = some (.int .i64 t.c.c2) ∧ w'.cell? ⟨w.heap.size, 3, none⟩ = some (.int .i64 t.c.c3) ∧ w'.cell? ⟨w.heap.size, 4, none⟩ = some (.slice A t.c.l.length ca) ∧ w'.cell? ⟨w.heap.size, 5, none⟩ = some (.slice D t.e.length cd) ∧ w'.cell? ⟨w1.heap.size, 0, none⟩ = some (.int .i64 a.c.c0) ∧ w'.cell? ⟨w1.heap.size, 1, none⟩ = some (.int .i64 a.c.c1) ∧ w'.cell? ⟨w1.heap.size, 2, none⟩ = some (.int .i64 a.c.c2) ∧ w'.cell? ⟨w1.heap.size, 3, none⟩ = some (.int .i64 a.c.c3) ∧ w'.cell? ⟨w1.heap.size, 4, none⟩ = some (.slice C1 a.c.l.length p1) ∧ w'.cell? ⟨w1.heap.size, 5, none⟩ = some (.slice D1 a.e.length q1) ∧ w'.cell? ⟨w2.heap.size, 0, none⟩ = some (.int .i64 a.c.c0) ∧ w'.cell? ⟨w2.heap.size, 1, none⟩ = some (.int .i64 a.c.c1) ∧ w'.cell? ⟨w2.heap.size, 2, none⟩ = some (.int .i64 a.c.c2) ∧ w'.cell? ⟨w2.heap.size, 3, none⟩ = some (.int .i64 a.c.c3) ∧ w'.cell? ⟨w2.heap.size, 4, none⟩ = some (.slice C2 a.c.l.length p2) ∧ w'.cell? ⟨w2.heap.size, 5, none⟩ = some (.slice D2 a.e.length q2) ∧ w'.cell? ⟨w3.heap.size, 0, none⟩ = some (.int .i64 c.c0) ∧ w'.cell? ⟨w3.heap.size, 1, none⟩ = some (.int .i64 c.c1) ∧ w'.cell? ⟨w3.heap.size, 2, none⟩ = some (.int .i64 c.c2) ∧ w'.cell? ⟨w3.heap.size, 3, none⟩ = some (.int .i64 c.c3) ∧ w'.cell? ⟨w3.heap.size, 4, none⟩ = some (.slice C3 c.l.length p3) ∧ w'.cell? ⟨w3.heap.size, 5, none⟩ = some (.slice none 0 0) ∧ w'.cell? ⟨w4.heap.size, 0, none⟩ = some (.int .i64 c.c0) ∧ w'.cell? ⟨w4.heap.size, 1, none⟩ = some (.int .i64 c.c1) ∧ w'.cell? ⟨w4.heap.size, 2, none⟩ = some (.int .i64 c.c2) ∧ w'.cell? ⟨w4.heap.size, 3, none⟩ = some (.int .i64 c.c3) ∧ w'.cell? ⟨w4.heap.size, 4, none⟩ = some (.slice C4 c.l.length p4) ∧ w'.cell? ⟨w4.heap.size, 5, none⟩ = some (.slice none 0 0))  w') := fun w' hb => by
    have h1 := ht4.below hb
    have h2 := ha4.below hb
    have h3 := hB4.below hb
    have h4 := hC4.below hb
    have h5 := hD4.below hb
    exact ⟨h1.k0, h1.k1, h1.k2, h1.k3, h1.k4, h1.k5, h2.k0, h2.k1, h2.k2, h2.k3, h2.k4, h2.k5, h3.k0, h3.k1, h3.k2, h3.k3, h3.k4, h3.k5, h4.k0, h4.k1, h4.k2, h4.k3, h4.k4, h4.k5, h5.k0, h5.k1, h5.k2, h5.k3, h5.k4, h5.k5⟩
  have hbd : Below X.heap.size X X.drew := (Below.refl _ _).drew
  have hbwH : Hid (Below w.heap.size w X) := hbw4
  clear ht4 ha4 hB4 hC4 hD4 hbw4 hV hQ hsm hlH hpl haH hcH
  go_region_held3 (fun w' => w'.cell? ⟨w.heap.size, 0, none⟩ = some (.int .i64 t.c.c0) ∧ w'.cell? ⟨w.heap.size, 1, none⟩ = some (.int .i64 t.c.c1) ∧ w'.cell? ⟨w.heap.size, 2, none⟩ = some (.int .i64 t.c.c2) ∧ w'.cell? ⟨w.heap.size, 3, none⟩ = some (.int .i64 t.c.c3) ∧ w'.cell? ⟨w.heap.size, 4, none⟩ = some (.slice A t.c.l.length ca) ∧ w'.cell? ⟨w.heap.size, 5, none⟩ = some (.slice D t.e.length cd) ∧ w'.cell? ⟨w1.heap.size, 0, none⟩ = some (.int .i64 a.c.c0) ∧ w'.cell? ⟨w1.heap.size, 1, none⟩ = some (.int .i64 a.c.c1) ∧ w'.cell? ⟨w1.heap.size, 2, none⟩ = some (.int .i64 a.c.c2) ∧ w'.cell? ⟨w1.heap.size, 3, none⟩ = some (.int .i64 a.c.c3) ∧ w'.cell? ⟨w1.heap.size, 4, none⟩ = some (.slice C1 a.c.l.length p1) ∧ w'.cell? ⟨w1.heap.size, 5, none⟩ = some (.slice D1 a.e.length q1) ∧ w'.cell? ⟨w2.heap.size, 0, none⟩ = some (.int .i64 a.c.c0) ∧ w'.cell? ⟨w2.heap.size, 1, none⟩ = some (.int .i64 a.c.c1) ∧ w'.cell? ⟨w2.heap.size, 2, none⟩ = some (.int .i64 a.c.c2) ∧ w'.cell? ⟨w2.heap.size, 3, none⟩ = some (.int .i64 a.c.c3) ∧ w'.cell? ⟨w2.heap.size, 4, none⟩ = some (.slice C2 a.c.l.length p2) ∧ w'.cell? ⟨w2.heap.size, 5, none⟩ = some (.slice D2 a.e.length q2) ∧ w'.cell? ⟨w3.heap.size, 0, none⟩ = some (.int .i64 c.c0) ∧ w'.cell? ⟨w3.heap.size, 1, none⟩ = some (.int .i64 c.c1) ∧ w'.cell? ⟨w3.heap.size, 2, none⟩ = some (.int .i64 c.c2) ∧ w'.cell? ⟨w3.heap.size, 3, none⟩ = some (.int .i64 c.c3) ∧ w'.cell? ⟨w3.heap.size, 4, none⟩ = some (.slice C3 c.l.length p3) ∧ w'.cell? ⟨w3.heap.size, 5, none⟩ = some (.slice none 0 0) ∧ w'.cell? ⟨w4.heap.size, 0, none⟩ = some (.int .i64 c.c0) ∧ w'.cell? ⟨w4.heap.size, 1, none⟩ = some (.int .i64 c.c1) ∧ w'.cell? ⟨w4.heap.size, 2, none⟩ = some (.int .i64 c.c2) ∧ w'.cell? ⟨w4.heap.size, 3, none⟩ = some (.int .i64 c.c3) ∧ w'.cell? ⟨w4.heap.size, 4, none⟩ = some (.slice C4 c.l.length p4) ∧ w'.cell? ⟨w4.heap.size, 5, none⟩ = some (.slice none 0 0)) (first | with_reducible exact hKeep.out _ hbd | with_reducible exact hKeep.out _ hb1.out | with_reducible exact hKeep.out _ hb2.out | with_reducible exact hKeep.out _ hb3.out | with_reducible exact hKeep.out _ hb4.out | with_reducible exact hKeep.out _ hb5.out | with_reducible exact hKeep.out _ hb6.out | with_reducible exact hKeep.out _ hb7.out | with_reducible exact hKeep.out _ hb8.out | with_reducible exact hKeep.out _ hb9.out | with_reducible exact hKeep.out _ hb10.out)
    (first
      | (go_at_call 31; (with_reducible refine Calls.mono (show Calls _ _ _ _ _ from hchk.out _ hbd) ?_); rintro e x1 ⟨rfl, hg⟩; have hb1 : Hid (Below X.heap.size X x1) := hbd.trans (hg.below.mono hbd.size); clear hg)
      | (go_at_call 32; (with_reducible refine Calls.mono (show Calls _ _ _ _ _ from hrtb.out _ hb1.out) ?_); rintro e x2 ⟨rfl, hg⟩; have hb2 : Hid (Below X.heap.size X x2) := hb1.out.trans (hg.below.mono hb1.out.size); clear hg)
      | (go_at_call 33; (with_reducible refine Calls.mono (show Calls _ _ _ _ _ from hs2.out _ hb3.out) ?_); rintro e x4 ⟨rfl, hg⟩; have hb4 : Hid (Below X.heap.size X x4) := hb3.out.trans (hg.below.mono hb3.out.size); clear hg)
      | (go_at_call 33; (with_reducible refine Calls.mono (show Calls _ _ _ _ _ from hs1.out _ hb2.out) ?_); rintro e x3 ⟨rfl, hg⟩; have hb3 : Hid (Below X.heap.size X x3) := hb2.out.trans (hg.below.mono hb2.out.size); clear hg)
      | (go_at_call 35; (with_reducible refine Calls.mono (show Calls _ _ _ _ _ from hval.out _ hb4.out) ?_); rintro e x5 ⟨V1, v1, rfl, hrV, hg⟩; have hrV1 : Hid (RowI x5 V1 V) := hrV; have hb5 : Hid (Below X.heap.size X x5) := hb4.out.trans (hg.mono hb4.out.size); clear hg hrV)
      | (go_at_call 36; (with_reducible refine Calls.mono (show Calls _ _ _ _ _ from hrval.out _ hb5.out) ?_); rintro e x6 ⟨V2, v2, rfl, hrV, hg⟩; have hrV2 : Hid (RowI x6 V1 V ∧ RowI x6 V2 V) := ⟨hrV1.out.below hg, hrV⟩; have hb6 : Hid (Below X.heap.size X x6) := hb5.out.trans (hg.mono hb5.out.size); clear hg hrV)
      | (go_at_call 34; (with_reducible refine Calls.mono (show Calls _ _ _ _ _ from equalI_any Q Q1 Q2 r1 r2 _ hsmH.out.2 hrQ2.out.1 hrQ2.out.2) ?_); rintro e x10 ⟨rfl, hg⟩; have hb10 : Hid (Below X.heap.size X x10) := hb9.out.trans (hg.below.mono hb9.out.size); clear hg)
      | (go_at_call 34; (with_reducible refine Calls.mono (show Calls _ _ _ _ _ from equalI_any V V1 V2 v1 v2 _ hsmH.out.1 hrV2.out.1 hrV2.out.2) ?_); rintro e x7 ⟨rfl, hg⟩; have hb7 : Hid (Below X.heap.size X x7) := hb6.out.trans (hg.below.mono hb6.out.size); clear hg)
      | (go_at_call 37; (with_reducible refine Calls.mono (show Calls _ _ _ _ _ from hkey.out _ hb7.out) ?_); rintro e x8 ⟨Q1, r1, rfl, hrV, hg⟩; have hrQ1 : Hid (RowI x8 Q1 Q) := hrV; have hb8 : Hid (Below X.heap.size X x8) := hb7.out.trans (hg.mono hb7.out.size); clear hg hrV)
      | (go_at_call 38; (with_reducible refine Calls.mono (show Calls _ _ _ _ _ from hrkey.out _ hb8.out) ?_); rintro e x9 ⟨Q2, r2, rfl, hrV, hg⟩; have hrQ2 : Hid (RowI x9 Q1 Q ∧ RowI x9 Q2 Q) := ⟨hrQ1.out.below hg, hrV⟩; have hb9 : Hid (Below X.heap.size X x9) := hb8.out.trans (hg.mono hb8.out.size); clear hg hrV))
  go_wp2
  go_ret
  exact ⟨rfl, hbwH.out.trans (hb10.out.mono hbwH.out.size)⟩

end Go.Proofs.Ytjgefnipkaecgaa
