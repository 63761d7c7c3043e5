/-
  viewref.Del: the table that deletes a row, as the document says it.
-/
import Derived.Test.YtjgefnipkaecgaaTDel
import Derived.Test.YtjgefnipkaecgaaRTable
import Derived.Test.YtjgefnipkaecgaaPackMath
namespace Go.Proofs.Ytjgefnipkaecgaa
open Go.RowKit Go.Sort

/-- The dots of a right table's cells are right. -/
theorem dotsOf_right {t : Tab} (h : errT t = 0) (p : Cel → Bool) : ∀ x ∈ dotsOf p t.e, rightB x = true := by
  intro x hx
  obtain ⟨y, hy, rfl⟩ := List.mem_map.1 hx
  obtain ⟨j, hj, rfl⟩ := List.getElem_of_mem (List.mem_filter.1 hy).1
  have hp := errT_parts h
  have hk := hp.2.2 j hj
  have hg : t.e.getD j ((0, 0), 0, 0, 0) = t.e[j] := by simp [hj]
  unfold okCel at hk
  rw [hg] at hk
  simp only [Bool.and_eq_true] at hk
  exact has_right (can_of_err hp.1) hk.1.1
theorem makeE_right {l : List (Int × Int)} (hl : l.length ≤ 400) (h : ∀ x ∈ l, rightB x = true) : makeE l = 0 := by
  unfold makeE
  rw [if_neg (by omega), if_neg]
  rw [badL_not fun j hj => h _ (List.getElem_mem hj)]
  simp
theorem makeC_right {l : List (Int × Int)} (hl : l.length ≤ 400) (h : ∀ x ∈ l, rightB x = true) : makeC l = foldS zeroC l := by
  unfold makeC
  rw [if_pos (makeE_right hl h)]
theorem dotsOf_any {p : Cel → Bool} {l : List Cel} : l.any p = decide (0 < (dotsOf p l).length) := by
  unfold dotsOf
  rw [List.length_map]
  induction l with
  | nil => rfl
  | cons x l ih =>
    rw [List.any_cons, ih]
    cases hx : p x <;> simp [hx]

/-- R.Packed of right dots is Make's. -/
theorem packed_make {l : List (Int × Int)} {A : Option Addr} {cap : Nat} {w : World} {n : Nat} (hn : n = l.length) (hl : l.length ≤ 400) (hri : ∀ x ∈ l, rightB x = true) (hr : Row w A l) (hA : A = none → cap = 0) :
    Calls Try.prog 12 #[.agg #[.int .i64 0, .int .i64 0, .int .i64 0, .int .i64 0], .slice A n cap] w fun e w' => ∃ C cp, e = .returned (.agg #[.int .i64 (makeC l).c0, .int .i64 (makeC l).c1, .int .i64 (makeC l).c2, .int .i64 (makeC l).c3, .slice C (makeC l).l.length cp]) ∧ Row w' C (makeC l).l ∧ (C = none → cp = 0) ∧ (∀ a, C = some a → w.heap.size ≤ a.block) ∧ Below w.heap.size w w' := by
  subst hn
  have h := packed_any zeroC l A cap w rfl (by decide) (by omega) hri hr hA
  rw [pack_fold rfl hri, ← makeC_right hl hri] at h
  exact h

set_option maxRecDepth 100000 in
set_option maxHeartbeats 2000000 in
theorem rdel_any (t : Tab) (A : Option Addr) (ca : Nat) (D : Option Addr) (cd : Nat) (key : Int) (w : World) (hl : t.c.l.length ≤ maxLen) (hel : t.e.length ≤ maxLen) (hr : Row w A t.c.l) (hd : RowC w D t.e) :
    Calls Try.prog 30 #[.agg #[.int .i64 t.c.c0, .int .i64 t.c.c1, .int .i64 t.c.c2, .int .i64 t.c.c3, .slice A t.c.l.length ca, .slice D t.e.length cd], .int .i64 key] w fun e w' => ∃ C cp, e = .returned (.tuple #[.agg #[.int .i64 (delC t key).c0, .int .i64 (delC t key).c1, .int .i64 (delC t key).c2, .int .i64 (delC t key).c3, .slice C (delC t key).l.length cp, .slice none 0 0], .int .i64 (delE t key)]) ∧ Row w' C (delC t key).l ∧ (C = none → cp = 0) ∧ Below w.heap.size w w' := by
  have hg0 : Gr w ((w.alloc (.cells #[.int .i64 t.c.c0, .int .i64 t.c.c1, .int .i64 t.c.c2, .int .i64 t.c.c3, .slice A t.c.l.length ca, .slice D t.e.length cd] 51)).alloc (.cells #[.int .i64 0, .int .i64 0, .int .i64 0, .int .i64 0, .slice none 0 0, .slice none 0 0] 51)) := ((Gr.refl w).alloc _).alloc _
  have ht0 : TabAt ((w.alloc (.cells #[.int .i64 t.c.c0, .int .i64 t.c.c1, .int .i64 t.c.c2, .int .i64 t.c.c3, .slice A t.c.l.length ca, .slice D t.e.length cd] 51)).alloc (.cells #[.int .i64 0, .int .i64 0, .int .i64 0, .int .i64 0, .slice none 0 0, .slice none 0 0] 51)) w.heap.size t A ca D cd := (TabAt.new 51 hr hd rfl).gr ((Gr.refl _).alloc _)
  have hz0 : ZTab ((w.alloc (.cells #[.int .i64 t.c.c0, .int .i64 t.c.c1, .int .i64 t.c.c2, .int .i64 t.c.c3, .slice A t.c.l.length ca, .slice D t.e.length cd] 51)).alloc (.cells #[.int .i64 0, .int .i64 0, .int .i64 0, .int .i64 0, .slice none 0 0, .slice none 0 0] 51)) (w.heap.size + 1) := Six.new _ _ _ _ _ _ _ 51 (by simp)
  have hck := rtable_any t A ca D cd _ hl hel ht0.row ht0.rowC
  have hckH : Hid _ := hck
  clear hck
  go_enter Try.func30, Try.ntmps30
  go_wp2_with fail
  refine Calls.mono (show Calls _ _ _ _ _ from hckH.out) ?_
  rintro e w1 ⟨rfl, hg1⟩
  clear hckH
  have ht1 := ht0.gr hg1
  have hz1 := hz0.gr hg1
  have hbw1 : Below w.heap.size w w1 := (hg0.trans hg1).below
  have hs1 := hz1.lt
  clear hg0 ht0 hz0 hg1
  obtain ⟨E1, hE1⟩ : ∃ E, errT t = E := ⟨_, rfl⟩
  rw [hE1]
  by_cases h1 : E1 = 0
  · subst h1
    have heH : Hid (errT t = 0) := hE1
    have hel4 : t.e.length ≤ 400 := (errT_parts hE1).2.1
    clear hE1
    cases hky : inB key 0 49
    · have hfin : Hid (delE t key = 1 ∧ delC t key = zeroC) := by
        have h1 : delE t key = 1 := by simp [delE, heH.out, hky]
        exact ⟨h1, by simp [delC, h1]⟩
      obtain ⟨z0, z1, z2, z3, z4, z5, zf, zlt⟩ := (show Six _ _ _ _ _ _ _ _ from hz1)
      go_wp2_with (go_at_call 13; refine (in_g hky _).mono ?_; rintro e w1 ⟨rfl, rfl⟩)
      rw [hfin.out.1, hfin.out.2]
      exact bodyPost_ret (v := .tuple #[.agg #[.int .i64 0, .int .i64 0, .int .i64 0, .int .i64 0, .slice none 0 0, .slice none 0 0], .int .i64 1]) (by simp [results, Try.results30, go_sem, z0, z1, z2, z3, z4, z5]) rfl ⟨none, 0, rfl, Or.inl rfl, fun _ => rfl, below_set6 hbw1 (by omega) _ _ _ _ _ _⟩
    · go_wp2_with (go_at_call 13; refine (in_g hky _).mono ?_; rintro e w1 ⟨rfl, rfl⟩)
      go_loopw [7, 8] (fun v i wr => ∃ k : Nat, k ≤ t.e.length ∧ i = .int .i64 k ∧ Own wr w1.heap.size v (dotsOf (fitD key) (t.e.take k)) ∧ Below w1.heap.size w1 wr) (fun _ i _ => t.e.length - (intOf i).toNat)
      case atStart => exact ⟨0, by omega, rfl, Own.nil _ _, Below.refl _ _⟩
      case round =>
        obtain ⟨k, hk, rfl, hov, hbel⟩ := hrel
        obtain ⟨A1, cap1, rfl, hA1, hrow1, hlt1⟩ := hov.row
        have htR := ht1.below hbel
        have r5 := htR.k5
        have hsR : w1.heap.size ≤ wr.heap.size := hbel.size
        by_cases hlt : k < t.e.length
        · have hltz : (k : Int) < (t.e.length : Int) := by omega
          obtain ⟨bb, off, rfl, hb, hcs⟩ := RowC.get htR.rowC hlt
          obtain ⟨x, hx⟩ : ∃ x, t.e[k] = x := ⟨_, rfl⟩
          obtain ⟨e0, e1, e2, e3, e4⟩ := hcs k hlt
          rw [hx] at e0 e1 e2 e3 e4
          have hst := dotsOf_take (p := (fitD key)) hlt hx
          clear hcs hx
          obtain ⟨M, HM⟩ : ∃ M, dotsOf (fitD key) (t.e.take k) = M := ⟨_, rfl⟩
          have hMl : M.length ≤ 400 := by rw [← HM]; exact Nat.le_trans (dotsOf_len _ _) (by rw [List.length_take]; omega)
          rw [HM] at hov hst hrow1 ⊢
          clear HM
          have hovH : Hid (Own wr w1.heap.size (.slice A1 M.length cap1) M) := hov
          have hbelH : Hid (Below w1.heap.size w1 wr) := hbel
          clear hov hbel hrow1
          by_cases hq : x.2.1 = key
          · have hqb : (x.2.1 == key) = true := by simpa using hq
            have hst2 : Hid (dotsOf (fitD key) (t.e.take (k + 1)) = M ++ [x.1]) := by show _ = _; rw [hst, if_pos (by simp [fitD, hq])]
            have hbd : Hid ((M.length + [x.1].length) * 16 ≤ 140737488355328) := by show _ ≤ _; simp only [List.length_cons, List.length_nil]; omega
            clear hst
            go_wp2_with (at_builtin; refine wpList_append_dots _ rfl _ _ rfl w1.heap.size (.slice A1 M.length cap1) M [x.1] (some ⟨wr.heap.size, 0, none⟩) 1 rfl rfl ?ho ?hr (fun h => by cases h) hbd.out ?hs ?_)
            case ho => exact hovH.out.gr ((Gr.refl _).alloc _)
            case hr => exact rowNew rfl x.1.1 x.1.2 _
            case hs => simp; omega
            intro v1 w3 hown1 hgr1 hat1
            have hb3 : Hid (Below w1.heap.size w1 w3) := hbelH.out.trans ((((Gr.refl wr).alloc _).below.mono hsR).trans (Own.grown_below (hovH.out.gr ((Gr.refl _).alloc _)) hgr1 (by simp; omega)))
            have hownH : Hid (Own w3 w1.heap.size v1 (M ++ [x.1])) := hown1
            clear hown1 hgr1 hat1
            go_wp2
            go_roundw
            case rel => exact ⟨k + 1, by omega, by go_num, by rw [hst2.out]; exact hownH.out, hb3.out⟩
            case measure => simp [intOf]; omega
          · have hqb : (x.2.1 == key) = false := by simpa using hq
            have hst2 : Hid (dotsOf (fitD key) (t.e.take (k + 1)) = M) := by show _ = _; rw [hst, if_neg (by simp [fitD, hq])]; simp
            clear hst
            go_wp2
            go_roundw
            case rel => exact ⟨k + 1, by omega, by go_num, by rw [hst2.out]; exact hovH.out, hbelH.out⟩
            case measure => simp [intOf]; omega
        · have hltz : ¬ (k : Int) < (t.e.length : Int) := by omega
          have hke : t.e.take k = t.e := List.take_of_length_le (by omega)
          rw [hke] at hov hrow1 ⊢
          clear hke
          have hDl : (dotsOf (fitD key) t.e).length ≤ 400 := Nat.le_trans (dotsOf_len _ _) hel4
          have hri := dotsOf_right heH.out (fitD key)
          have hme := makeE_right hDl hri
          have han := dotsOf_any (p := fitD key) (l := t.e)
          have hD : delE t key = if (dotsOf (fitD key) t.e).length = 0 then 4 else 0 := by
            unfold delE
            rw [if_neg (by simpa using heH.out), if_neg (by simp [hky]), han, hme]
            by_cases h0 : (dotsOf (fitD key) t.e).length = 0
            · rw [if_pos h0, if_pos (by simp [h0])]
            · rw [if_neg h0, if_neg (by rw [decide_eq_true (by omega)]; simp)]
          have hCx : delC t key = if (dotsOf (fitD key) t.e).length = 0 then zeroC else makeC (dotsOf (fitD key) t.e) := by
            unfold delC
            rw [hD]
            by_cases h0 : (dotsOf (fitD key) t.e).length = 0 <;> simp [h0]
          obtain ⟨M, HM⟩ : ∃ M, dotsOf (fitD key) t.e = M := ⟨_, rfl⟩
          rw [HM] at hov hrow1 hDl hri hD hCx ⊢
          clear HM hme han
          have hbwR : Below w.heap.size w wr := hbw1.trans (hbel.mono (by omega))
          have hzR := hz1.below hbel
          by_cases h0 : M.length = 0
          · have h0z : ((M.length : Int) == 0) = true := beq_iff_eq.2 (by omega)
            have hfin : Hid (delE t key = 4 ∧ delC t key = zeroC) := ⟨by rw [hD, if_pos h0], by rw [hCx, if_pos h0]⟩
            obtain ⟨z0, z1, z2, z3, z4, z5, zf, zlt⟩ := (show Six _ _ _ _ _ _ _ _ from hzR)
            clear h0 hD hCx hov hrow1
            go_wp2
            rw [hfin.out.1, hfin.out.2]
            exact bodyPost_ret (v := .tuple #[.agg #[.int .i64 0, .int .i64 0, .int .i64 0, .int .i64 0, .slice none 0 0, .slice none 0 0], .int .i64 4]) (by simp [results, Try.results30, go_sem, z0, z1, z2, z3, z4, z5]) rfl ⟨none, 0, rfl, Or.inl rfl, fun _ => rfl, below_set6 hbwR (by omega) _ _ _ _ _ _⟩
          · have h0z : ((M.length : Int) == 0) = false := beq_eq_false_iff_ne.2 (by omega)
            have hfin : Hid (delE t key = 0 ∧ delC t key = makeC M) := ⟨by rw [hD, if_neg h0], by rw [hCx, if_neg h0]⟩
            have hpk := packed_make (A := A1) (cap := cap1) (w := wr) (n := M.length) rfl hDl hri hrow1 hA1
            have hpkH : Hid _ := hpk
            clear hpk h0 hD hCx hov hrow1
            go_wp2_with fail
            refine Calls.mono (show Calls _ _ _ _ _ from hpkH.out) ?_
            rintro e w3 ⟨C, cp, rfl, hrow3, hC, hCb, hb3⟩
            clear hpkH
            obtain ⟨F, hF⟩ : ∃ F, makeC M = F := ⟨_, rfl⟩
            rw [hF] at hrow3 ⊢
            have HF : Hid (makeC M = F) := hF
            clear hF
            have hz3 := hzR.below hb3
            have hbw3 : Below w.heap.size w w3 := hbwR.trans (hb3.mono (by omega))
            have hCn : ∀ a, C = some a → a.block ≠ w.heap.size + 1 := fun a ha => by have := hCb a ha; omega
            obtain ⟨z0, z1, z2, z3, z4, z5, zf, zlt⟩ := (show Six _ _ _ _ _ _ _ _ from hz3)
            go_wp2
            rw [hfin.out.1, hfin.out.2, HF.out]
            exact bodyPost_ret (v := .tuple #[.agg #[.int .i64 F.c0, .int .i64 F.c1, .int .i64 F.c2, .int .i64 F.c3, .slice C F.l.length cp, .slice none 0 0], .int .i64 0]) (by simp [results, Try.results30, go_sem, z0, z1, z2, z3, z4, z5]) rfl ⟨C, cp, rfl, (((((hrow3.setCell _ hCn).setCell _ hCn).setCell _ hCn).setCell _ hCn).setCell _ hCn).setCell _ hCn, hC, below_set6 hbw3 (by omega) _ _ _ _ _ _⟩
  · have hfin : Hid (delE t key = E1 ∧ delC t key = zeroC) := by
      have h2 : delE t key = E1 := by unfold delE; rw [hE1, if_pos h1]
      exact ⟨h2, by unfold delC; rw [h2, if_neg h1]⟩
    have heb : (E1 != 0) = true := by simpa using h1
    clear h1 hE1
    obtain ⟨z0, z1, z2, z3, z4, z5, zf, zlt⟩ := (show Six _ _ _ _ _ _ _ _ from hz1)
    go_wp2
    rw [hfin.out.1, hfin.out.2]
    exact bodyPost_ret (v := .tuple #[.agg #[.int .i64 0, .int .i64 0, .int .i64 0, .int .i64 0, .slice none 0 0, .slice none 0 0], .int .i64 E1]) (by simp [results, Try.results30, go_sem, z0, z1, z2, z3, z4, z5]) rfl ⟨none, 0, rfl, Or.inl rfl, fun _ => rfl, below_set6 hbw1 (by omega) _ _ _ _ _ _⟩

end Go.Proofs.Ytjgefnipkaecgaa
