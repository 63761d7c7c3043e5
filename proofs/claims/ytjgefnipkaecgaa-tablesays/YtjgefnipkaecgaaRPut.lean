/-
  viewref.Put: the table that puts a value, as the document says it.
-/
import Derived.Test.YtjgefnipkaecgaaTPut
import Derived.Test.YtjgefnipkaecgaaRDel
import Derived.Test.YtjgefnipkaecgaaRNext
namespace Go.Proofs.Ytjgefnipkaecgaa
open Go.RowKit Go.Sort

theorem next_right {c : Ctx} {n : Int} (h : errC c = 0) (hn : inB n 0 3 = true) (he : nextE c n = 0) : rightB (nextD c n) = true := by
  have hok := (errC_parts h).1
  have hn' : 0 ≤ n ∧ n < 4 := by simp [inB] at hn; omega
  have hc := clk_of_ok hok n hn'.1 hn'.2
  have hlo := topS_lo c n c.l
  have ht : ¬ 1099511627776 ≤ topS c n c.l := by
    intro h1
    unfold nextE at he
    rw [if_pos h1] at he
    cases he
  unfold nextD
  rw [if_neg ht]
  simp [rightB, inB]
  omega

/-- What Put's context has: packed at once, or joined of two. -/
theorem put_pack {l : List (Int × Int)} {d : Int × Int} (hl : l.length ≤ 400) (hr : ∀ x ∈ l, rightB x = true) (hd : rightB d = true) : foldS zeroC (d :: l) = joinF (makeC l) (makeC [d]) := by
  have hd' : ∀ x ∈ [d], rightB x = true := fun x hx => by simp at hx; rw [hx]; exact hd
  have hc1 := foldS_can (c := zeroC) rfl (by decide) hr
  have hc2 := foldS_can (c := zeroC) rfl (by decide) hd'
  have hall : ∀ x ∈ d :: l, rightB x = true := fun x hx => by
    rcases List.mem_cons.1 hx with h | h
    · rw [h]; exact hd
    · exact hr x h
  rw [makeC_right hl hr, makeC_right (by simp) hd']
  refine can_eq (foldS_can rfl (by decide) hall) (joinF_can hc1 hc2) fun z => ?_
  rw [foldS_has rfl hall, joinF_has hc1 hc2, foldS_has rfl hr, foldS_has rfl hd']
  simp only [List.mem_cons, List.not_mem_nil, or_false]
  constructor
  · rintro (h | h | h)
    · exact Or.inl (Or.inl h)
    · exact Or.inr (Or.inr h)
    · exact Or.inl (Or.inr h)
  · rintro ((h | h) | (h | h))
    · exact Or.inl h
    · exact Or.inr (Or.inr h)
    · exact Or.inl h
    · exact Or.inr (Or.inl h)

theorem make_err {l : List (Int × Int)} (hl : l.length ≤ 400) (hr : ∀ x ∈ l, rightB x = true) : errC (makeC l) = 0 := by
  have h := makeC_right hl hr
  refine err_of_can (by rw [h]; exact foldS_can rfl (by decide) hr) ?_
  rw [h]
  unfold foldS
  have := foldTo_len zeroC (srt l) (srt l).length
  rw [srt_length] at this ⊢
  have hz : zeroC.l.length = 0 := rfl
  omega

theorem put_all {t : Tab} {n key col v : Int} (h : errT t = 0) (hp : okPlace key col v = true) (hn : inB n 0 3 = true) (he : nextE t.c n = 0) :
    putE t n key col v = (if 400 < (foldS zeroC (nextD t.c n :: dotsOf (fitP key col) t.e)).l.length then 2 else 0) ∧
    putT t n key col v = (if 400 < (foldS zeroC (nextD t.c n :: dotsOf (fitP key col) t.e)).l.length then ⟨zeroC, []⟩ else ⟨foldS zeroC (nextD t.c n :: dotsOf (fitP key col) t.e), [(nextD t.c n, key, col, v)]⟩) := by
  have hpt := errT_parts h
  have hA : nextA t.c n = (nextD t.c n, nextE t.c n) := by unfold nextA; rw [if_pos hpt.1, if_pos hn]
  have hl : (dotsOf (fitP key col) t.e).length ≤ 400 := Nat.le_trans (dotsOf_len _ _) hpt.2.1
  have hr := dotsOf_right h (fitP key col)
  have hd := next_right hpt.1 hn he
  have hd' : ∀ x ∈ [nextD t.c n], rightB x = true := fun x hx => by simp at hx; rw [hx]; exact hd
  have hE : putE t n key col v = joinE (makeC (dotsOf (fitP key col) t.e)) (makeC [nextD t.c n]) := by
    unfold putE
    rw [hA, h, hp, he, makeE_right hl hr, makeE_right (by simp) hd']
    rfl
  have hb : errB (makeC (dotsOf (fitP key col) t.e)) (makeC [nextD t.c n]) = 0 := by
    unfold errB
    rw [if_pos (make_err hl hr)]
    exact make_err (by simp) hd'
  have hE2 : putE t n key col v = (if 400 < (foldS zeroC (nextD t.c n :: dotsOf (fitP key col) t.e)).l.length then 2 else 0) := by
    rw [hE, put_pack hl hr hd]
    unfold joinE
    rw [if_pos hb]
  refine ⟨hE2, ?_⟩
  unfold putT
  rw [hE2, hA]
  by_cases h4 : 400 < (foldS zeroC (nextD t.c n :: dotsOf (fitP key col) t.e)).l.length
  · rw [if_pos h4, if_pos h4, if_neg (by decide)]
  · rw [if_neg h4, if_neg h4, if_pos rfl]
    have hj : joinE (makeC (dotsOf (fitP key col) t.e)) (makeC [nextD t.c n]) = 0 := by rw [← hE, hE2, if_neg h4]
    rw [(joinE_ok hj).2.2.2.1, put_pack hl hr hd]

theorem put_arg {t : Tab} {n key col v : Int} (h : errT t = 0) (hx : inB n 0 3 = false ∨ okPlace key col v = false) : putE t n key col v = 1 ∧ putT t n key col v = ⟨zeroC, []⟩ := by
  have hE : putE t n key col v = 1 := by
    unfold putE
    rw [h]
    cases hp : okPlace key col v
    · simp
    · rcases hx with hn | hn
      · have hA : nextA t.c n = ((0, 0), 1) := by unfold nextA; rw [if_pos (errT_parts h).1, if_neg (by simp [hn])]
        rw [hA]; simp
      · rw [hp] at hn; cases hn
  exact ⟨hE, by unfold putT; rw [hE]; rfl⟩
theorem put_next {t : Tab} {n key col v : Int} (h : errT t = 0) (hp : okPlace key col v = true) (hn : inB n 0 3 = true) (he : nextE t.c n ≠ 0) : putE t n key col v = nextE t.c n ∧ putT t n key col v = ⟨zeroC, []⟩ := by
  have hA : nextA t.c n = (nextD t.c n, nextE t.c n) := by unfold nextA; rw [if_pos (errT_parts h).1, if_pos hn]
  have hE : putE t n key col v = nextE t.c n := by
    unfold putE
    rw [h, hp, hA]; simp [he]
  exact ⟨hE, by unfold putT; rw [hE, if_neg he]⟩

theorem ownNew {W : World} {base : Nat} (hb : base ≤ W.heap.size) (d : Int × Int) : Own (W.alloc (.cells #[.int .i64 d.1, .int .i64 d.2] 27)) base (.slice (some ⟨W.heap.size, 0, none⟩) 1 1) [d] :=
  ⟨rfl, Or.inr ⟨W.heap.size, 1, #[.int .i64 d.1, .int .i64 d.2], rfl, hb, by show (W.heap.push _)[W.heap.size]? = _; simp, Nat.le_refl _, by decide, rfl, rfl⟩⟩

set_option maxRecDepth 100000 in
set_option maxHeartbeats 2000000 in
theorem rput_any (t : Tab) (A : Option Addr) (ca : Nat) (D : Option Addr) (cd : Nat) (n key col v : Int) (w : World) (hl : t.c.l.length ≤ maxLen) (hel : t.e.length ≤ maxLen) (hr : Row w A t.c.l) (hd : RowC w D t.e) :
    Calls Try.prog 28 #[.agg #[.int .i64 t.c.c0, .int .i64 t.c.c1, .int .i64 t.c.c2, .int .i64 t.c.c3, .slice A t.c.l.length ca, .slice D t.e.length cd], .int .i64 n, .int .i64 key, .int .i64 col, .int .i64 v] w fun e w' => ∃ C cp D' cd', e = .returned (.tuple #[.agg #[.int .i64 (putT t n key col v).c.c0, .int .i64 (putT t n key col v).c.c1, .int .i64 (putT t n key col v).c.c2, .int .i64 (putT t n key col v).c.c3, .slice C (putT t n key col v).c.l.length cp, .slice D' (putT t n key col v).e.length cd'], .int .i64 (putE t n key col v)]) ∧ Row w' C (putT t n key col v).c.l ∧ RowC w' D' (putT t n key col v).e ∧ (C = none → cp = 0) ∧ (D' = none → cd' = 0) ∧ Below w.heap.size w w' := by
  have hg0 : Gr w ((w.alloc (.cells #[.int .i64 t.c.c0, .int .i64 t.c.c1, .int .i64 t.c.c2, .int .i64 t.c.c3, .slice A t.c.l.length ca, .slice D t.e.length cd] 51)).alloc (.cells #[.int .i64 0, .int .i64 0, .int .i64 0, .int .i64 0, .slice none 0 0, .slice none 0 0] 51)) := ((Gr.refl w).alloc _).alloc _
  have ht0 : TabAt ((w.alloc (.cells #[.int .i64 t.c.c0, .int .i64 t.c.c1, .int .i64 t.c.c2, .int .i64 t.c.c3, .slice A t.c.l.length ca, .slice D t.e.length cd] 51)).alloc (.cells #[.int .i64 0, .int .i64 0, .int .i64 0, .int .i64 0, .slice none 0 0, .slice none 0 0] 51)) w.heap.size t A ca D cd := (TabAt.new 51 hr hd rfl).gr ((Gr.refl _).alloc _)
  have hz0 : ZTab ((w.alloc (.cells #[.int .i64 t.c.c0, .int .i64 t.c.c1, .int .i64 t.c.c2, .int .i64 t.c.c3, .slice A t.c.l.length ca, .slice D t.e.length cd] 51)).alloc (.cells #[.int .i64 0, .int .i64 0, .int .i64 0, .int .i64 0, .slice none 0 0, .slice none 0 0] 51)) (w.heap.size + 1) := Six.new _ _ _ _ _ _ _ 51 (by simp)
  have hck := rtable_any t A ca D cd _ hl hel ht0.row ht0.rowC
  have hckH : Hid _ := hck
  have hlH : Hid (t.c.l.length ≤ maxLen) := hl
  clear hck hl
  go_enter Try.func28, Try.ntmps28
  go_wp2_with fail
  refine Calls.mono (show Calls _ _ _ _ _ from hckH.out) ?_
  rintro e w1 ⟨rfl, hg1⟩
  clear hckH
  have ht1 := ht0.gr hg1
  have hz1 := hz0.gr hg1
  have hbw1 : Below w.heap.size w w1 := (hg0.trans hg1).below
  have hs1 := hz1.lt
  clear hg0 ht0 hz0 hg1
  obtain ⟨E1, hE1⟩ : ∃ E, errT t = E := ⟨_, rfl⟩
  rw [hE1]
  by_cases h1 : E1 = 0
  · subst h1
    have heH : Hid (errT t = 0) := hE1
    have hel4 : t.e.length ≤ 400 := (errT_parts hE1).2.1
    clear hE1
    cases hnn : inB n 0 3
    · have hfin : Hid (putE t n key col v = 1 ∧ putT t n key col v = ⟨zeroC, []⟩) := put_arg heH.out (Or.inl hnn)
      obtain ⟨z0, z1, z2, z3, z4, z5, zf, zlt⟩ := (show Six _ _ _ _ _ _ _ _ from hz1)
      go_wp2_with (go_at_call 13; (first | with_reducible refine (in_g hnn _).mono ?_); rintro e w1 ⟨rfl, rfl⟩)
      rw [hfin.out.1, hfin.out.2]
      exact bodyPost_ret (v := .tuple #[.agg #[.int .i64 0, .int .i64 0, .int .i64 0, .int .i64 0, .slice none 0 0, .slice none 0 0], .int .i64 1]) (by simp [results, Try.results28, go_sem, z0, z1, z2, z3, z4, z5]) rfl ⟨none, 0, none, 0, rfl, Or.inl rfl, Or.inl rfl, fun _ => rfl, fun _ => rfl, below_set6 hbw1 (by omega) _ _ _ _ _ _⟩
    · cases hk1 : inB key 0 49
      · have hfin : Hid (putE t n key col v = 1 ∧ putT t n key col v = ⟨zeroC, []⟩) := put_arg heH.out (Or.inr (by simp [okPlace, hk1]))
        obtain ⟨z0, z1, z2, z3, z4, z5, zf, zlt⟩ := (show Six _ _ _ _ _ _ _ _ from hz1)
        go_wp2_with (go_at_call 13; (first | with_reducible refine (in_g hnn _).mono ?_ | with_reducible refine (in_g hk1 _).mono ?_); rintro e w1 ⟨rfl, rfl⟩)
        rw [hfin.out.1, hfin.out.2]
        exact bodyPost_ret (v := .tuple #[.agg #[.int .i64 0, .int .i64 0, .int .i64 0, .int .i64 0, .slice none 0 0, .slice none 0 0], .int .i64 1]) (by simp [results, Try.results28, go_sem, z0, z1, z2, z3, z4, z5]) rfl ⟨none, 0, none, 0, rfl, Or.inl rfl, Or.inl rfl, fun _ => rfl, fun _ => rfl, below_set6 hbw1 (by omega) _ _ _ _ _ _⟩
      · cases hk2 : inB col 0 2
        · have hfin : Hid (putE t n key col v = 1 ∧ putT t n key col v = ⟨zeroC, []⟩) := put_arg heH.out (Or.inr (by simp [okPlace, hk2]))
          obtain ⟨z0, z1, z2, z3, z4, z5, zf, zlt⟩ := (show Six _ _ _ _ _ _ _ _ from hz1)
          go_wp2_with (go_at_call 13; (first | with_reducible refine (in_g hnn _).mono ?_ | with_reducible refine (in_g hk1 _).mono ?_ | with_reducible refine (in_g hk2 _).mono ?_); rintro e w1 ⟨rfl, rfl⟩)
          rw [hfin.out.1, hfin.out.2]
          exact bodyPost_ret (v := .tuple #[.agg #[.int .i64 0, .int .i64 0, .int .i64 0, .int .i64 0, .slice none 0 0, .slice none 0 0], .int .i64 1]) (by simp [results, Try.results28, go_sem, z0, z1, z2, z3, z4, z5]) rfl ⟨none, 0, none, 0, rfl, Or.inl rfl, Or.inl rfl, fun _ => rfl, fun _ => rfl, below_set6 hbw1 (by omega) _ _ _ _ _ _⟩
        · cases hk3 : inB v (-1000) 1000
          · have hfin : Hid (putE t n key col v = 1 ∧ putT t n key col v = ⟨zeroC, []⟩) := put_arg heH.out (Or.inr (by simp [okPlace, hk3]))
            obtain ⟨z0, z1, z2, z3, z4, z5, zf, zlt⟩ := (show Six _ _ _ _ _ _ _ _ from hz1)
            go_wp2_with (go_at_call 13; (first | with_reducible refine (in_g hnn _).mono ?_ | with_reducible refine (in_g hk1 _).mono ?_ | with_reducible refine (in_g hk2 _).mono ?_ | with_reducible refine (in_g hk3 _).mono ?_); rintro e w1 ⟨rfl, rfl⟩)
            rw [hfin.out.1, hfin.out.2]
            exact bodyPost_ret (v := .tuple #[.agg #[.int .i64 0, .int .i64 0, .int .i64 0, .int .i64 0, .slice none 0 0, .slice none 0 0], .int .i64 1]) (by simp [results, Try.results28, go_sem, z0, z1, z2, z3, z4, z5]) rfl ⟨none, 0, none, 0, rfl, Or.inl rfl, Or.inl rfl, fun _ => rfl, fun _ => rfl, below_set6 hbw1 (by omega) _ _ _ _ _ _⟩
          · have hpl : okPlace key col v = true := by unfold okPlace; rw [hk1, hk2, hk3]; rfl
            have hn4 : 0 ≤ n ∧ n < 4 := by simp [inB] at hnn; omega
            obtain ⟨k0, k1, k2, k3, k4, k5, klt, krow, krowC⟩ := (show TabAt _ _ _ _ _ _ _ from ht1)
            have hnx := rnext_any t.c A ca n w1 hlH.out krow (errC_parts (errT_parts heH.out).1).1 hn4.1 hn4.2
            have hnxH : Hid _ := hnx
            clear hnx
            go_wp2_with (first | (go_at_call 13; (first | with_reducible refine (in_g hnn _).mono ?_ | with_reducible refine (in_g hk1 _).mono ?_ | with_reducible refine (in_g hk2 _).mono ?_ | with_reducible refine (in_g hk3 _).mono ?_); rintro e w1 ⟨rfl, rfl⟩) | fail)
            refine Calls.mono (show Calls _ _ _ _ _ from hnxH.out) ?_
            rintro e w2 ⟨rfl, hg2⟩
            clear hnxH k0 k1 k2 k3 k4 k5 klt krow krowC hn4
            have hPN := fun (h0 : nextE t.c n ≠ 0) => put_next (v := v) heH.out hpl hnn h0
            have hPA := fun (h0 : nextE t.c n = 0) => put_all (v := v) heH.out hpl hnn h0
            have hNR := fun (h0 : nextE t.c n = 0) => next_right (errT_parts heH.out).1 hnn h0
            obtain ⟨N, hN⟩ : ∃ N, nextD t.c n = N := ⟨_, rfl⟩
            obtain ⟨E2, hE2⟩ : ∃ E, nextE t.c n = E := ⟨_, rfl⟩
            rw [hN] at hPA hNR ⊢
            rw [hE2] at hPN hPA hNR ⊢
            clear hN hE2 hnn hk1 hk2 hk3 hpl
            have ht2 := ht1.gr hg2
            have hz2 := hz1.gr hg2
            have hbw2 : Below w.heap.size w w2 := hbw1.trans (hg2.below.mono (by omega))
            clear ht1 hz1 hbw1
            go_upto_region 7 with fail
            have hgN : Gr w2 (w2.alloc (.cells #[.int .i64 N.1, .int .i64 N.2] 27)) := (Gr.refl _).alloc _
            have ht3 := ht2.gr hgN
            have hz3 := hz2.gr hgN
            have hn3 : DotAt (w2.alloc (.cells #[.int .i64 N.1, .int .i64 N.2] 27)) w2.heap.size N.1 N.2 := DotAt.new 27 rfl
            have hbw3 : Below w.heap.size w (w2.alloc (.cells #[.int .i64 N.1, .int .i64 N.2] 27)) := hbw2.trans (hgN.below.mono hbw2.size)
            generalize w2.alloc (.cells #[.int .i64 N.1, .int .i64 N.2] 27) = w3 at ht3 hz3 hn3 hbw3 ⊢
            clear ht2 hz2 hbw2 hgN hg2
            generalize w2.heap.size = bN at hn3 ⊢
            have hs3 := hz3.lt
            by_cases h2 : E2 = 0
            · subst h2
              have hPF := hPA rfl
              have hNRi := hNR rfl
              clear hPN hPA hNR
              obtain ⟨n0, n1, nlt⟩ := (show DotAt _ _ _ _ from hn3)
              go_wp2
              have hown0 := ownNew (W := w3) (Nat.le_refl _) N
              have hb0 : Below w3.heap.size w3 (w3.alloc (.cells #[.int .i64 N.1, .int .i64 N.2] 27)) := ((Gr.refl _).alloc _).below
              clear n0 n1 nlt
              go_loopw [15, 16] (fun v i wr => ∃ k : Nat, k ≤ t.e.length ∧ i = .int .i64 k ∧ Own wr w3.heap.size v (N :: dotsOf (fitP key col) (t.e.take k)) ∧ Below w3.heap.size w3 wr) (fun _ i _ => t.e.length - (intOf i).toNat)
              case atStart => exact ⟨0, by omega, rfl, hown0, hb0⟩
              case round =>
                clear hown0 hb0
                obtain ⟨k, hk, rfl, hov, hbel⟩ := hrel
                obtain ⟨A1, cap1, rfl, hA1, hrow1, hlt1⟩ := hov.row
                have htR := ht3.below hbel
                have r5 := htR.k5
                have hsR : w3.heap.size ≤ wr.heap.size := hbel.size
                by_cases hlt : k < t.e.length
                · have hltz : (k : Int) < (t.e.length : Int) := by omega
                  obtain ⟨bb, off, rfl, hb, hcs⟩ := RowC.get htR.rowC hlt
                  obtain ⟨x, hx⟩ : ∃ x, t.e[k] = x := ⟨_, rfl⟩
                  obtain ⟨e0, e1, e2, e3, e4⟩ := hcs k hlt
                  rw [hx] at e0 e1 e2 e3 e4
                  have hst := dotsOf_take (p := (fitP key col)) hlt hx
                  clear hcs hx
                  obtain ⟨M, HM⟩ : ∃ M, dotsOf (fitP key col) (t.e.take k) = M := ⟨_, rfl⟩
                  have hMl : M.length ≤ 400 := by rw [← HM]; exact Nat.le_trans (dotsOf_len _ _) (by rw [List.length_take]; omega)
                  rw [HM] at hov hst hrow1 ⊢
                  clear HM
                  have hovH : Hid (Own wr w3.heap.size (.slice A1 (N :: M).length cap1) (N :: M)) := hov
                  have hbelH : Hid (Below w3.heap.size w3 wr) := hbel
                  clear hov hbel hrow1
                  by_cases hq : x.2.1 = key
                  · have hqb : (x.2.1 == key) = true := by simpa using hq
                    by_cases hq2 : x.2.2.1 = col
                    · have hqb2 : (x.2.2.1 == col) = true := by simpa using hq2
                      have hst2 : Hid (dotsOf (fitP key col) (t.e.take (k + 1)) = M ++ [x.1]) := by show _ = _; rw [hst, if_pos (by simp [fitP, hq, hq2])]
                      have hbd : Hid (((N :: M).length + [x.1].length) * 16 ≤ 140737488355328) := by show _ ≤ _; simp only [List.length_cons, List.length_nil]; omega
                      clear hst
                      go_wp2_with (at_builtin; refine wpList_append_dots _ rfl _ _ rfl w3.heap.size (.slice A1 (N :: M).length cap1) (N :: M) [x.1] (some ⟨wr.heap.size, 0, none⟩) 1 rfl rfl ?ho ?hr (fun h => by cases h) hbd.out ?hs ?_)
                      case ho => exact hovH.out.gr ((Gr.refl _).alloc _)
                      case hr => exact rowNew rfl x.1.1 x.1.2 _
                      case hs => simp; omega
                      intro v1 w5 hown1 hgr1 hat1
                      have hb5 : Hid (Below w3.heap.size w3 w5) := hbelH.out.trans ((((Gr.refl wr).alloc _).below.mono hsR).trans (Own.grown_below (hovH.out.gr ((Gr.refl _).alloc _)) hgr1 (by simp; omega)))
                      have hownH : Hid (Own w5 w3.heap.size v1 (N :: (M ++ [x.1]))) := hown1
                      clear hown1 hgr1 hat1
                      go_wp2
                      go_roundw
                      case rel => exact ⟨k + 1, by omega, by go_num, by rw [hst2.out]; exact hownH.out, hb5.out⟩
                      case measure => simp [intOf]; omega
                    · have hqb2 : (x.2.2.1 == col) = false := by simpa using hq2
                      have hst2 : Hid (dotsOf (fitP key col) (t.e.take (k + 1)) = M) := by show _ = _; rw [hst, if_neg (by simp [fitP, hq2])]; simp
                      clear hst
                      go_wp2
                      go_roundw
                      case rel => exact ⟨k + 1, by omega, by go_num, by rw [hst2.out]; exact hovH.out, hbelH.out⟩
                      case measure => simp [intOf]; omega
                  · have hqb : (x.2.1 == key) = false := by simpa using hq
                    have hst2 : Hid (dotsOf (fitP key col) (t.e.take (k + 1)) = M) := by show _ = _; rw [hst, if_neg (by simp [fitP, hq])]; simp
                    clear hst
                    go_wp2
                    go_roundw
                    case rel => exact ⟨k + 1, by omega, by go_num, by rw [hst2.out]; exact hovH.out, hbelH.out⟩
                    case measure => simp [intOf]; omega
                · have hltz : ¬ (k : Int) < (t.e.length : Int) := by omega
                  have hke : t.e.take k = t.e := List.take_of_length_le (by omega)
                  rw [hke] at hov hrow1 ⊢
                  clear hke
                  have hDl : (dotsOf (fitP key col) t.e).length ≤ 400 := Nat.le_trans (dotsOf_len _ _) hel4
                  have hri : ∀ y ∈ N :: dotsOf (fitP key col) t.e, rightB y = true := fun y hy => by
                    rcases List.mem_cons.1 hy with h | h
                    · rw [h]; exact hNRi
                    · exact dotsOf_right heH.out (fitP key col) y h
                  obtain ⟨M, HM⟩ : ∃ M, dotsOf (fitP key col) t.e = M := ⟨_, rfl⟩
                  rw [HM] at hov hrow1 hDl hri hPF ⊢
                  clear HM
                  have hpk := packed_any zeroC (N :: M) A1 cap1 wr rfl (by decide) (by rw [List.length_cons]; omega) hri hrow1 hA1
                  rw [pack_fold rfl hri] at hpk
                  obtain ⟨F, hF⟩ : ∃ F, foldS zeroC (N :: M) = F := ⟨_, rfl⟩
                  rw [hF] at hpk hPF
                  clear hF
                  change Calls Try.prog 12 #[.agg #[.int .i64 0, .int .i64 0, .int .i64 0, .int .i64 0], .slice A1 (N :: M).length cap1] wr _ at hpk
                  have hpkH : Hid _ := hpk
                  have hbwR : Below w.heap.size w wr := hbw3.trans (hbel.mono (by omega))
                  have hzR := hz3.below hbel
                  have hnR := hn3.below hbel
                  clear hpk hov hrow1
                  go_wp2_with fail
                  refine Calls.mono (show Calls _ _ _ _ _ from hpkH.out) ?_
                  rintro e w5 ⟨C, cp, rfl, hr5, hC, hCb, hb5⟩
                  clear hpkH
                  have hz5 := hzR.below hb5
                  have hn5 := hnR.below hb5
                  have hbw5 : Below w.heap.size w w5 := hbwR.trans (hb5.mono (by omega))
                  go_upto_region 16 with fail
                  have hgC : Gr w5 (w5.alloc (.cells #[.int .i64 F.c0, .int .i64 F.c1, .int .i64 F.c2, .int .i64 F.c3, .slice C F.l.length cp] 25)) := (Gr.refl _).alloc _
                  have hz6 := hz5.gr hgC
                  have hn6 := hn5.gr hgC
                  have hbw6 : Below w.heap.size w (w5.alloc (.cells #[.int .i64 F.c0, .int .i64 F.c1, .int .i64 F.c2, .int .i64 F.c3, .slice C F.l.length cp] 25)) := hbw5.trans (hgC.below.mono hbw5.size)
                  have hc6 : CtxAt (w5.alloc (.cells #[.int .i64 F.c0, .int .i64 F.c1, .int .i64 F.c2, .int .i64 F.c3, .slice C F.l.length cp] 25)) w5.heap.size F C cp := CtxAt.new 25 hr5 rfl
                  have hCn8 : Hid (∀ a, C = some a → a.block ≠ w.heap.size + 1) := fun a ha => by have := hCb a ha; omega
                  generalize w5.alloc (.cells #[.int .i64 F.c0, .int .i64 F.c1, .int .i64 F.c2, .int .i64 F.c3, .slice C F.l.length cp] 25) = V at hz6 hn6 hbw6 hc6 ⊢
                  clear hz5 hn5 hbw5 hgC hr5 hb5 hzR hnR hbwR htR r5 hbel hCb
                  generalize w5.heap.size = bC at hc6 ⊢
                  have hs6 := hz6.lt
                  obtain ⟨z0, z1, z2, z3, z4, z5, zf, zlt⟩ := (show Six _ _ _ _ _ _ _ _ from hz6)
                  obtain ⟨c0, c1, c2, c3, c4, clt, crow⟩ := (show CtxAt _ _ _ _ _ from hc6)
                  obtain ⟨n0, n1, nlt⟩ := (show DotAt _ _ _ _ from hn6)
                  by_cases h400 : 400 < F.l.length
                  · have h400z : (400 : Int) < (F.l.length : Int) := by omega
                    rw [if_pos h400, if_pos h400] at hPF
                    have hfin : Hid (putE t n key col v = 2 ∧ putT t n key col v = ⟨zeroC, []⟩) := hPF
                    clear hPF
                    go_wp2
                    rw [hfin.out.1, hfin.out.2]
                    exact bodyPost_ret (v := .tuple #[.agg #[.int .i64 0, .int .i64 0, .int .i64 0, .int .i64 0, .slice none 0 0, .slice none 0 0], .int .i64 2]) (by simp [results, Try.results28, go_sem, z0, z1, z2, z3, z4, z5]) rfl ⟨none, 0, none, 0, rfl, Or.inl rfl, Or.inl rfl, fun _ => rfl, fun _ => rfl, below_set6 hbw6 (by omega) _ _ _ _ _ _⟩
                  · have h400z : ¬ (400 : Int) < (F.l.length : Int) := by omega
                    rw [if_neg h400, if_neg h400] at hPF
                    have hfin : Hid (putE t n key col v = 0 ∧ putT t n key col v = ⟨F, [(N, key, col, v)]⟩) := hPF
                    clear hPF
                    have hCn : ∀ a, C = some a → a.block ≠ w.heap.size + 1 := hCn8.out
                    have hV := (hz6.set (.int .i64 F.c0) (.int .i64 F.c1) (.int .i64 F.c2) (.int .i64 F.c3) (.slice C F.l.length cp) (.slice (some ⟨V.heap.size, 0, none⟩) 1 1)).gr ((Gr.refl _).alloc (.cells #[.int .i64 N.1, .int .i64 N.2, .int .i64 key, .int .i64 col, .int .i64 v] 72))
                    have hrV : Row _ C F.l := (((((((crow.setCell (B := w.heap.size + 1) (j := 0) (.int .i64 F.c0) hCn).setCell (j := 1) (.int .i64 F.c1) hCn).setCell (j := 2) (.int .i64 F.c2) hCn).setCell (j := 3) (.int .i64 F.c3) hCn).setCell (j := 4) (.slice C F.l.length cp) hCn).setCell (j := 5) (.slice (some ⟨V.heap.size, 0, none⟩) 1 1) hCn)).gr ((Gr.refl _).alloc (.cells #[.int .i64 N.1, .int .i64 N.2, .int .i64 key, .int .i64 col, .int .i64 v] 72))
                    have hbV := (below_set6 hbw6 (B := w.heap.size + 1) (by omega) (.int .i64 F.c0) (.int .i64 F.c1) (.int .i64 F.c2) (.int .i64 F.c3) (.slice C F.l.length cp) (.slice (some ⟨V.heap.size, 0, none⟩) 1 1)).alloc (by simp; omega) (.cells #[.int .i64 N.1, .int .i64 N.2, .int .i64 key, .int .i64 col, .int .i64 v] 72)
                    have hdV := rowNewC (W := (((((V.setCell ⟨w.heap.size + 1, 0, none⟩ (.int .i64 F.c0)).setCell ⟨w.heap.size + 1, 1, none⟩ (.int .i64 F.c1)).setCell ⟨w.heap.size + 1, 2, none⟩ (.int .i64 F.c2)).setCell ⟨w.heap.size + 1, 3, none⟩ (.int .i64 F.c3)).setCell ⟨w.heap.size + 1, 4, none⟩ (.slice C F.l.length cp)).setCell ⟨w.heap.size + 1, 5, none⟩ (.slice (some ⟨V.heap.size, 0, none⟩) 1 1)) (n := V.heap.size) (by simp) (N, key, col, v) 72
                    have hVH : Hid _ := hV
                    have hbVH : Hid _ := hbV
                    have hrVH : Hid _ := hrV
                    have hdVH : Hid _ := hdV
                    clear hV hbV hrV hdV hCn
                    go_wp2
                    obtain ⟨v0, v1, v2, v3, v4, v5, vf, vlt⟩ := (show Six _ _ _ _ _ _ _ _ from hVH.out)
                    have hbV := hbVH.out
                    have hrV := hrVH.out
                    have hdV := hdVH.out
                    rw [hfin.out.1, hfin.out.2]
                    generalize World.alloc _ _ = X at v0 v1 v2 v3 v4 v5 hbV hrV hdV ⊢
                    exact bodyPost_ret (v := .tuple #[.agg #[.int .i64 F.c0, .int .i64 F.c1, .int .i64 F.c2, .int .i64 F.c3, .slice C F.l.length cp, .slice (some ⟨V.heap.size, 0, none⟩) 1 1], .int .i64 0]) (by simp [results, Try.results28, go_sem, v0, v1, v2, v3, v4, v5]) rfl ⟨C, cp, _, 1, rfl, hrV, hdV, hC, fun h => (by cases h), hbV⟩
            · have hfin : Hid (putE t n key col v = E2 ∧ putT t n key col v = ⟨zeroC, []⟩) := hPN h2
              have heb : (E2 != 0) = true := by simpa using h2
              clear h2 hPN hPA hNR
              obtain ⟨z0, z1, z2, z3, z4, z5, zf, zlt⟩ := (show Six _ _ _ _ _ _ _ _ from hz3)
              go_wp2
              rw [hfin.out.1, hfin.out.2]
              exact bodyPost_ret (v := .tuple #[.agg #[.int .i64 0, .int .i64 0, .int .i64 0, .int .i64 0, .slice none 0 0, .slice none 0 0], .int .i64 E2]) (by simp [results, Try.results28, go_sem, z0, z1, z2, z3, z4, z5]) rfl ⟨none, 0, none, 0, rfl, Or.inl rfl, Or.inl rfl, fun _ => rfl, fun _ => rfl, below_set6 hbw3 (by omega) _ _ _ _ _ _⟩
  · have hfin : Hid (putE t n key col v = E1 ∧ putT t n key col v = ⟨zeroC, []⟩) := by
      have h2 : putE t n key col v = E1 := by unfold putE; rw [hE1, if_pos h1]
      exact ⟨h2, by unfold putT; rw [h2, if_neg h1]⟩
    have heb : (E1 != 0) = true := by simpa using h1
    clear h1 hE1
    obtain ⟨z0, z1, z2, z3, z4, z5, zf, zlt⟩ := (show Six _ _ _ _ _ _ _ _ from hz1)
    go_wp2
    rw [hfin.out.1, hfin.out.2]
    exact bodyPost_ret (v := .tuple #[.agg #[.int .i64 0, .int .i64 0, .int .i64 0, .int .i64 0, .slice none 0 0, .slice none 0 0], .int .i64 E1]) (by simp [results, Try.results28, go_sem, z0, z1, z2, z3, z4, z5]) rfl ⟨none, 0, none, 0, rfl, Or.inl rfl, Or.inl rfl, fun _ => rfl, fun _ => rfl, below_set6 hbw1 (by omega) _ _ _ _ _ _⟩

end Go.Proofs.Ytjgefnipkaecgaa
