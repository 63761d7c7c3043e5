/-
  viewref.Widths: the document's widths of all steps.
-/
import Derived.Test.YtoodkgmpggabdaaDoorQRefM
namespace Go.Proofs.YtoodkgmpggabdaaDoor
open Go.RowKit Go.Sort

theorem inQ_g {n lo hi : Int} {r : Bool} (h : inB n lo hi = r) (w : World) : Calls Tryd.prog 33 #[.int .i64 n, .int .i64 lo, .int .i64 hi] w fun e w' => e = .returned (.bool r) ∧ w' = w := by rw [← h]; exact inQ_any n lo hi w

set_option maxRecDepth 100000 in
set_option maxHeartbeats 200000000 in
theorem refWidths_any (q : List Stp) (A : Option Addr) (ca : Nat) (w : World) (hl : q.length ≤ 8) (hq : Stps w A q) :
    Calls Tryd.prog 24 #[.slice A q.length ca] w fun e w' => ∃ (C : Option Addr) (c : Nat), e = .returned (.tuple #[.slice C ((widsF q []).getD []).length c, .bool (widsF q []).isSome]) ∧ RowI w' C ((widsF q []).getD []) ∧ (C = none → c = 0) ∧ Below w.heap.size w w' := by
  have mixed : Tryd.prog.follows .mixedOrders = true := by kernel_rfl
  have hqH : Hid (Stps w A q) := hq
  clear hq
  go_enter Tryd.func24, Tryd.ntmps24
  go_wp2
  go_loopw [4, 5] (fun v i wr => ∃ (j : Nat) (ah : List Int), j ≤ q.length ∧ i = .int .i64 j ∧ Hid (ah.length = j ∧ (∀ x ∈ ah, 1 ≤ x ∧ x ≤ 8) ∧ widsF q [] = widsF (q.drop j) ah) ∧ Hid (OwnI wr w.heap.size v ah ∧ Below w.heap.size w wr)) (fun _ i _ => q.length - (intOf i).toNat)
  case atStart => exact ⟨0, [], by omega, rfl, ⟨rfl, (fun x hx => by cases hx), by simp⟩, OwnG.nil _ _ _ _ _, Below.refl _ _⟩
  case round =>
    obtain ⟨j, ah, hj, rfl, hfo, hov⟩ := hrel
    by_cases hlt : j < q.length
    · have hltz : (j : Int) < (q.length : Int) := by omega
      have hI : Hid (Stps wr A q) := hqH.out.below hov.out.2
      obtain ⟨bb, off, rfl, hb, hcs⟩ := hI.out.at hlt
      obtain ⟨s, hs⟩ : ∃ s, q[j] = s := ⟨_, rfl⟩
      have hsr : Hid (RowI wr s.p s.l ∧ s.l.length ≤ maxLen) := ⟨(hI.out.each s (by rw [← hs]; exact List.getElem_mem hlt)).1, (hI.out.each s (by rw [← hs]; exact List.getElem_mem hlt)).2.1⟩
      rw [hs] at hcs
      have m0 : wr.cell? ⟨bb, off + j * 7, none⟩ = some (.int .i64 s.k) := hcs 0 (by omega)
      have m1 : wr.cell? ⟨bb, off + j * 7 + 1, none⟩ = some (.int .i64 s.a) := hcs 1 (by omega)
      have m2 : wr.cell? ⟨bb, off + j * 7 + 2, none⟩ = some (.int .i64 s.b) := hcs 2 (by omega)
      have m3 : wr.cell? ⟨bb, off + j * 7 + 3, none⟩ = some (.int .i64 s.c) := hcs 3 (by omega)
      have m4 : wr.cell? ⟨bb, off + j * 7 + 4, none⟩ = some (.int .i64 s.o) := hcs 4 (by omega)
      have m5 : wr.cell? ⟨bb, off + j * 7 + 5, none⟩ = some (.int .i64 s.v) := hcs 5 (by omega)
      have m6 : wr.cell? ⟨bb, off + j * 7 + 6, none⟩ = some (.slice s.p s.l.length s.n) := hcs 6 (by omega)
      have hstep : Hid (widsF q [] = if widW s ah = 0 then none else widsF (q.drop (j + 1)) (ah ++ [widW s ah])) := by
        show _ = _
        rw [hfo.out.2.2, List.drop_eq_getElem_cons hlt, hs]
        rfl
      have hnone : Hid (widW s ah = 0 → (widsF q []).isSome = false ∧ (widsF q []).getD [] = []) := fun h => by rw [hstep.out, if_pos h]; exact ⟨rfl, rfl⟩
      have hwb : Hid (0 ≤ widW s ah ∧ widW s ah ≤ 8) := widW_b s (fun x hx => ⟨by have := (hfo.out.2.1 x hx).1; omega, (hfo.out.2.1 x hx).2⟩)
      obtain ⟨G, gc, rfl, hG, hrow, hlt4⟩ := OwnG.row encI_len hov.out.1
      have hg0 : Gr wr (wr.alloc (.cells #[.int .i64 s.k, .int .i64 s.a, .int .i64 s.b, .int .i64 s.c, .int .i64 s.o, .int .i64 s.v, .slice s.p s.l.length s.n] 32)) := (Gr.refl wr).alloc _
      have hrowH : Hid (RowI (wr.alloc (.cells #[.int .i64 s.k, .int .i64 s.a, .int .i64 s.b, .int .i64 s.c, .int .i64 s.o, .int .i64 s.v, .slice s.p s.l.length s.n] 32)) G ah) := hrow.gr hg0
      have hbF : Hid (Below w.heap.size w (wr.alloc (.cells #[.int .i64 s.k, .int .i64 s.a, .int .i64 s.b, .int .i64 s.c, .int .i64 s.o, .int .i64 s.v, .slice s.p s.l.length s.n] 32))) := hov.out.2.trans (hg0.below.mono hov.out.2.size)
      have hahl : ah.length = j := hfo.out.1
      have c0 : (wr.alloc (.cells #[.int .i64 s.k, .int .i64 s.a, .int .i64 s.b, .int .i64 s.c, .int .i64 s.o, .int .i64 s.v, .slice s.p s.l.length s.n] 32)).cell? ⟨wr.heap.size, 0, none⟩ = some (.int .i64 s.k) := box1 (Gr.refl _) rfl
      have c1 : (wr.alloc (.cells #[.int .i64 s.k, .int .i64 s.a, .int .i64 s.b, .int .i64 s.c, .int .i64 s.o, .int .i64 s.v, .slice s.p s.l.length s.n] 32)).cell? ⟨wr.heap.size, 1, none⟩ = some (.int .i64 s.a) := box1 (Gr.refl _) rfl
      have c2 : (wr.alloc (.cells #[.int .i64 s.k, .int .i64 s.a, .int .i64 s.b, .int .i64 s.c, .int .i64 s.o, .int .i64 s.v, .slice s.p s.l.length s.n] 32)).cell? ⟨wr.heap.size, 2, none⟩ = some (.int .i64 s.b) := box1 (Gr.refl _) rfl
      have c3 : (wr.alloc (.cells #[.int .i64 s.k, .int .i64 s.a, .int .i64 s.b, .int .i64 s.c, .int .i64 s.o, .int .i64 s.v, .slice s.p s.l.length s.n] 32)).cell? ⟨wr.heap.size, 3, none⟩ = some (.int .i64 s.c) := box1 (Gr.refl _) rfl
      have c4 : (wr.alloc (.cells #[.int .i64 s.k, .int .i64 s.a, .int .i64 s.b, .int .i64 s.c, .int .i64 s.o, .int .i64 s.v, .slice s.p s.l.length s.n] 32)).cell? ⟨wr.heap.size, 4, none⟩ = some (.int .i64 s.o) := box1 (Gr.refl _) rfl
      have c5 : (wr.alloc (.cells #[.int .i64 s.k, .int .i64 s.a, .int .i64 s.b, .int .i64 s.c, .int .i64 s.o, .int .i64 s.v, .slice s.p s.l.length s.n] 32)).cell? ⟨wr.heap.size, 5, none⟩ = some (.int .i64 s.v) := box1 (Gr.refl _) rfl
      have c6 : (wr.alloc (.cells #[.int .i64 s.k, .int .i64 s.a, .int .i64 s.b, .int .i64 s.c, .int .i64 s.o, .int .i64 s.v, .slice s.p s.l.length s.n] 32)).cell? ⟨wr.heap.size, 6, none⟩ = some (.slice s.p s.l.length s.n) := box1 (Gr.refl _) rfl
      clear hcs hs hrow hG hlt4
      by_cases hk : s.k = 1
      · as_aux_lemma =>
          rw [hk] at c0 c1 c2 c3 c4 c5 c6 hrowH hbF hg0 m0
          have hkH : Hid (s.k = 1) := hk
          go_wp2_with fail
          cases hA : inB s.a 0 1
          · have hf : Hid ((widsF q []).isSome = false ∧ (widsF q []).getD [] = []) := hnone.out (by rw [wid1 hk ah, hA]; simp)
            refine Calls.mono (show Calls _ _ _ _ _ from inQ_g hA _) ?_
            rintro e w' ⟨rfl, hw'⟩
            subst w'
            go_wp2
            go_ret2
            exact ⟨none, 0, by rw [hf.out.1, hf.out.2]; rfl, by rw [hf.out.2]; exact Or.inl rfl, fun _ => rfl, hbF.out⟩
          refine Calls.mono (show Calls _ _ _ _ _ from inQ_g hA _) ?_
          rintro e w' ⟨rfl, hw'⟩
          subst w'
          cases hB : (s.b != 0)
          rotate_left
          · have hB' : ¬ s.b = 0 := by simpa using hB
            have hf : Hid ((widsF q []).isSome = false ∧ (widsF q []).getD [] = []) := hnone.out (by rw [wid1 hk ah]; simp [hB'])
            clear hB'
            go_wp2
            go_ret2
            exact ⟨none, 0, by rw [hf.out.1, hf.out.2]; rfl, by rw [hf.out.2]; exact Or.inl rfl, fun _ => rfl, hbF.out⟩
          have hBz : Hid (s.b = 0) := by simpa [Hid] using hB
          cases hC : (s.c != 0)
          rotate_left
          · have hC' : ¬ s.c = 0 := by simpa using hC
            have hf : Hid ((widsF q []).isSome = false ∧ (widsF q []).getD [] = []) := hnone.out (by rw [wid1 hk ah]; simp [hC'])
            clear hC'
            go_wp2
            go_ret2
            exact ⟨none, 0, by rw [hf.out.1, hf.out.2]; rfl, by rw [hf.out.2]; exact Or.inl rfl, fun _ => rfl, hbF.out⟩
          have hCz : Hid (s.c = 0) := by simpa [Hid] using hC
          cases hO : (s.o != 0)
          rotate_left
          · have hO' : ¬ s.o = 0 := by simpa using hO
            have hf : Hid ((widsF q []).isSome = false ∧ (widsF q []).getD [] = []) := hnone.out (by rw [wid1 hk ah]; simp [hO'])
            clear hO'
            go_wp2
            go_ret2
            exact ⟨none, 0, by rw [hf.out.1, hf.out.2]; rfl, by rw [hf.out.2]; exact Or.inl rfl, fun _ => rfl, hbF.out⟩
          have hOz : Hid (s.o = 0) := by simpa [Hid] using hO
          cases hV : (s.v != 0)
          rotate_left
          · have hV' : ¬ s.v = 0 := by simpa using hV
            have hf : Hid ((widsF q []).isSome = false ∧ (widsF q []).getD [] = []) := hnone.out (by rw [wid1 hk ah]; simp [hV'])
            clear hV'
            go_wp2
            go_ret2
            exact ⟨none, 0, by rw [hf.out.1, hf.out.2]; rfl, by rw [hf.out.2]; exact Or.inl rfl, fun _ => rfl, hbF.out⟩
          have hVz : Hid (s.v = 0) := by simpa [Hid] using hV
          cases hL : ((s.l.length : Int) != 0)
          rotate_left
          · have hL' : ¬ s.l = [] := fun e => by rw [e] at hL; simp at hL
            have hf : Hid ((widsF q []).isSome = false ∧ (widsF q []).getD [] = []) := hnone.out (by rw [wid1 hk ah]; simp [hL'])
            clear hL'
            go_wp2
            go_ret2
            exact ⟨none, 0, by rw [hf.out.1, hf.out.2]; rfl, by rw [hf.out.2]; exact Or.inl rfl, fun _ => rfl, hbF.out⟩
          have hLe : Hid (s.l = []) := by have : s.l.length = 0 := (by simpa using hL); exact List.eq_nil_of_length_eq_zero this
          have hw : widW s ah = 4 := by rw [wid1 hk ah]; simp [hA, hBz.out, hCz.out, hOz.out, hVz.out, hLe.out]
          have hn1 : 1 ≤ widW s ah ∧ widW s ah ≤ 8 := by rw [hw]; omega
          have hnext : Hid ((ah ++ [4]).length = j + 1 ∧ (∀ x ∈ ah ++ [4], 1 ≤ x ∧ x ≤ 8) ∧ widsF q [] = widsF (q.drop (j + 1)) (ah ++ [4])) := by
            rw [hw] at hn1
            have h9 := hstep.out
            rw [hw, if_neg (by omega)] at h9
            refine ⟨by simp [hahl], fun x hx => ?_, h9⟩
            rcases List.mem_append.1 hx with e | e
            · exact hfo.out.2.1 x e
            · rw [List.mem_singleton.1 e]; exact hn1
          have hovj := hov.out.1
          rw [hahl] at hovj
          have hoX : Hid (OwnI ((wr.alloc (.cells #[.int .i64 1, .int .i64 s.a, .int .i64 s.b, .int .i64 s.c, .int .i64 s.o, .int .i64 s.v, .slice s.p s.l.length s.n] 32)).alloc (.cells #[.int .i64 (4)] 3)) w.heap.size (.slice G j gc) ah ∧ RowI ((wr.alloc (.cells #[.int .i64 1, .int .i64 s.a, .int .i64 s.b, .int .i64 s.c, .int .i64 s.o, .int .i64 s.v, .slice s.p s.l.length s.n] 32)).alloc (.cells #[.int .i64 (4)] 3)) (some ⟨wr.heap.size + 1, 0, none⟩) [4] ∧ ah.length + 1 ≤ maxLen ∧ (ah.length + 1) * 8 ≤ 140737488355328 ∧ Below w.heap.size w ((wr.alloc (.cells #[.int .i64 1, .int .i64 s.a, .int .i64 s.b, .int .i64 s.c, .int .i64 s.o, .int .i64 s.v, .slice s.p s.l.length s.n] 32)).alloc (.cells #[.int .i64 (4)] 3))) := ⟨hovj.gr (hg0.alloc _), rowNewI (by simp) _ 3, by unfold maxLen; omega, by omega, (hbF.out).alloc (hbF.out).size _⟩
          clear hovj hn1 hw hov hk
          go_wp2_with (at_builtin; refine wpList_append_i _ rfl (.tmp 71) (.tmp 72) rfl w.heap.size (.slice G j gc) ah [4] (some ⟨wr.heap.size + 1, 0, none⟩) 1 rfl rfl hoX.out.1 hoX.out.2.1 (fun h => by cases h) hoX.out.2.2.1 hoX.out.2.2.2.1 hoX.out.2.2.2.2.size ?_; intro v7 w7 hown7 hg7)
          have hfin7 : Hid (OwnI w7 w.heap.size v7 (ah ++ [4]) ∧ Below w.heap.size w w7) := ⟨hown7, hoX.out.2.2.2.2.trans (OwnG.grown_below hoX.out.1 hg7 hoX.out.2.2.2.2.size)⟩
          clear hown7 hg7 hoX
          go_roundw
          case rel => exact ⟨j + 1, ah ++ [4], by omega, by go_num, hnext, hfin7⟩
          case measure => simp [intOf]; omega
      by_cases hk : s.k = 2
      · as_aux_lemma =>
          rw [hk] at c0 c1 c2 c3 c4 c5 c6 hrowH hbF hg0 m0
          have hkH : Hid (s.k = 2) := hk
          go_wp2_with fail
          refine Calls.mono (show Calls _ _ _ _ _ from inQ_g (show inB 2 1 9 = true from rfl) _) ?_
          rintro e w' ⟨rfl, hw'⟩
          subst w'
          go_wp2_with fail
          cases hA : inB s.a 0 ((j : Int) - 1)
          · have hf : Hid ((widsF q []).isSome = false ∧ (widsF q []).getD [] = []) := hnone.out (by rw [wid2 hk ah, hahl, hA]; simp)
            refine Calls.mono (show Calls _ _ _ _ _ from inQ_g hA _) ?_
            rintro e w' ⟨rfl, hw'⟩
            subst w'
            go_wp2
            go_ret2
            exact ⟨none, 0, by rw [hf.out.1, hf.out.2]; rfl, by rw [hf.out.2]; exact Or.inl rfl, fun _ => rfl, hbF.out⟩
          refine Calls.mono (show Calls _ _ _ _ _ from inQ_g hA _) ?_
          rintro e w' ⟨rfl, hw'⟩
          subst w'
          have hAH : Hid (inB s.a 0 ((j : Int) - 1) = true) := hA
          cases hB : (s.b != 0)
          rotate_left
          · have hB' : ¬ s.b = 0 := by simpa using hB
            have hf : Hid ((widsF q []).isSome = false ∧ (widsF q []).getD [] = []) := hnone.out (by rw [wid2 hk ah]; simp [hB'])
            clear hB'
            go_wp2
            go_ret2
            exact ⟨none, 0, by rw [hf.out.1, hf.out.2]; rfl, by rw [hf.out.2]; exact Or.inl rfl, fun _ => rfl, hbF.out⟩
          have hB0 : s.b = 0 := by simpa using hB
          have hB0H : Hid (s.b = 0) := hB0
          rw [hB0] at c0 c1 c2 c3 c4 c5 c6 hrowH hbF hg0 m2 ⊢
          clear hB hB0
          cases hL : ((s.l.length : Int) != 0)
          rotate_left
          · have hL' : ¬ s.l = [] := fun e => by rw [e] at hL; simp at hL
            have hf : Hid ((widsF q []).isSome = false ∧ (widsF q []).getD [] = []) := hnone.out (by rw [wid2 hk ah]; simp [hL'])
            clear hL'
            go_wp2
            go_ret2
            exact ⟨none, 0, by rw [hf.out.1, hf.out.2]; rfl, by rw [hf.out.2]; exact Or.inl rfl, fun _ => rfl, hbF.out⟩
          have hLe : Hid (s.l = []) := by have : s.l.length = 0 := (by simpa using hL); exact List.eq_nil_of_length_eq_zero this
          obtain ⟨ka, hka, hkal⟩ := below_nat (show belowB s.a ah.length = true by rw [below_in, hahl]; exact hA)
          obtain ⟨ba, oa, hGa, hba, hca⟩ := hrowH.out.at hkal
          subst hGa
          obtain ⟨xa, hxa⟩ : ∃ x, ah[ka] = x := ⟨_, rfl⟩
          have ea0 := hca ka hkal 0 (by omega)
          rw [hxa] at ea0
          have hga : Hid (ah.getD s.a.toNat 0 = xa ∧ 1 ≤ xa ∧ xa ≤ 8) := ⟨by rw [hka, Int.toNat_natCast, getD_in hkal, hxa], hfo.out.2.1 xa (by rw [← hxa]; exact List.getElem_mem hkal)⟩
          obtain ⟨xb, hxb⟩ : ∃ x, ah[0]'(by omega) = x := ⟨_, rfl⟩
          have eb0 := hca 0 (by omega) 0 (by omega)
          rw [hxb] at eb0
          have hkaH : Hid (s.a = ka) := hka
          have ea : _ = some (Value.int .i64 xa) := ea0
          have eb : _ = some (Value.int .i64 xb) := eb0
          simp only [hka, Nat.mul_one, Nat.add_zero] at c0 c1 c2 c3 c4 c5 c6 hbF hg0 ea eb hba hA ⊢
          have hkz : (ka : Int) < (j : Int) := by omega
          clear ea0 eb0 hca hrowH
          go_wp2_with fail
          have xlt : wr.heap.size < (wr.alloc (.cells #[.int .i64 2, .int .i64 (ka : Int), .int .i64 0, .int .i64 s.c, .int .i64 s.o, .int .i64 s.v, .slice s.p s.l.length s.n] 32)).heap.size := by simp
          have g1 := (Gr.refl (wr.alloc (.cells #[.int .i64 2, .int .i64 (ka : Int), .int .i64 0, .int .i64 s.c, .int .i64 s.o, .int .i64 s.v, .slice s.p s.l.length s.n] 32))).cellG (a := ⟨wr.heap.size, 1, none⟩) xlt c1
          have g2 := (Gr.refl (wr.alloc (.cells #[.int .i64 2, .int .i64 (ka : Int), .int .i64 0, .int .i64 s.c, .int .i64 s.o, .int .i64 s.v, .slice s.p s.l.length s.n] 32))).cellG (a := ⟨wr.heap.size, 2, none⟩) xlt c2
          have ga := (Gr.refl (wr.alloc (.cells #[.int .i64 2, .int .i64 (ka : Int), .int .i64 0, .int .i64 s.c, .int .i64 s.o, .int .i64 s.v, .slice s.p s.l.length s.n] 32))).cellG (a := ⟨ba, oa + ka, none⟩) hba ea
          have gb := (Gr.refl (wr.alloc (.cells #[.int .i64 2, .int .i64 (ka : Int), .int .i64 0, .int .i64 s.c, .int .i64 s.o, .int .i64 s.v, .slice s.p s.l.length s.n] 32))).cellG (a := ⟨ba, oa, none⟩) hba eb
          refine wp_region_quiet_grown mixed (by kernel_rfl) ?_
          repeat (go_big_quiet_step (fail))
          refine wpQuiet_nil ?_
          rintro _ ⟨⟨nq2, osq2⟩, rfl⟩
          have hg2 : Gr (wr.alloc (.cells #[.int .i64 2, .int .i64 (ka : Int), .int .i64 0, .int .i64 s.c, .int .i64 s.o, .int .i64 s.v, .slice s.p s.l.length s.n] 32)) (grow ((wr.alloc (.cells #[.int .i64 2, .int .i64 (ka : Int), .int .i64 0, .int .i64 s.c, .int .i64 s.o, .int .i64 s.v, .slice s.p s.l.length s.n] 32)).drewN nq2) osq2) := ⟨nq2, osq2, rfl⟩
          generalize grow ((wr.alloc (.cells #[.int .i64 2, .int .i64 (ka : Int), .int .i64 0, .int .i64 s.c, .int .i64 s.o, .int .i64 s.v, .slice s.p s.l.length s.n] 32)).drewN nq2) osq2 = w2 at hg2 ⊢
          have hbD : Hid (Below w.heap.size w w2) := hbF.out.trans (hg2.below.mono hbF.out.size)
          have hgw2 : Hid (Gr wr w2) := hg0.trans hg2
          have d3 : w2.cell? ⟨wr.heap.size, 3, none⟩ = some (.int .i64 s.c) := box1 hg2 rfl
          have d4 : w2.cell? ⟨wr.heap.size, 4, none⟩ = some (.int .i64 s.o) := box1 hg2 rfl
          have d5 : w2.cell? ⟨wr.heap.size, 5, none⟩ = some (.int .i64 s.v) := box1 hg2 rfl
          have d6 : w2.cell? ⟨wr.heap.size, 6, none⟩ = some (.slice s.p s.l.length s.n) := box1 hg2 rfl
          clear hbF hg0 hg2 c0 c1 c2 c3 c4 c5 c6 ea eb g1 g2 ga gb xlt m0 m1 m2 m3 m4 m5 m6
          obtain ⟨hx1, hx2⟩ := hga.out.2
          go_wp2_with fail
          cases hO : inB s.o 1 3
          · have hf : Hid ((widsF q []).isSome = false ∧ (widsF q []).getD [] = []) := hnone.out (by rw [wid2 hk ah, hga.out.1, hO]; simp)
            refine Calls.mono (show Calls _ _ _ _ _ from inQ_g hO _) ?_
            rintro e w' ⟨rfl, hw'⟩
            subst w'
            go_wp2
            go_ret2
            exact ⟨none, 0, by rw [hf.out.1, hf.out.2]; rfl, by rw [hf.out.2]; exact Or.inl rfl, fun _ => rfl, hbD.out⟩
          refine Calls.mono (show Calls _ _ _ _ _ from inQ_g hO _) ?_
          rintro e w' ⟨rfl, hw'⟩
          subst w'
          go_wp2_with fail
          cases hV : inB s.v (-1073741824) 1073741824
          · have hf : Hid ((widsF q []).isSome = false ∧ (widsF q []).getD [] = []) := hnone.out (by rw [wid2 hk ah, hga.out.1, hV]; simp)
            refine Calls.mono (show Calls _ _ _ _ _ from inQ_g hV _) ?_
            rintro e w' ⟨rfl, hw'⟩
            subst w'
            go_wp2
            go_ret2
            exact ⟨none, 0, by rw [hf.out.1, hf.out.2]; rfl, by rw [hf.out.2]; exact Or.inl rfl, fun _ => rfl, hbD.out⟩
          refine Calls.mono (show Calls _ _ _ _ _ from inQ_g hV _) ?_
          rintro e w' ⟨rfl, hw'⟩
          subst w'
          go_wp2_with fail
          cases hC : inB s.c 0 (xa - 1)
          · have hf : Hid ((widsF q []).isSome = false ∧ (widsF q []).getD [] = []) := hnone.out (by rw [wid2 hk ah, hga.out.1, hC]; simp)
            refine Calls.mono (show Calls _ _ _ _ _ from inQ_g hC _) ?_
            rintro e w' ⟨rfl, hw'⟩
            subst w'
            go_wp2
            go_ret2
            exact ⟨none, 0, by rw [hf.out.1, hf.out.2]; rfl, by rw [hf.out.2]; exact Or.inl rfl, fun _ => rfl, hbD.out⟩
          refine Calls.mono (show Calls _ _ _ _ _ from inQ_g hC _) ?_
          rintro e w' ⟨rfl, hw'⟩
          subst w'
          have hw : widW s ah = xa := by rw [wid2 hk ah, hga.out.1, hahl]; simp [hAH.out, hB0H.out, hLe.out, hO, hV, hC]
          have hn1 : 1 ≤ widW s ah ∧ widW s ah ≤ 8 := by rw [hw]; omega
          have hnext : Hid ((ah ++ [xa]).length = j + 1 ∧ (∀ x ∈ ah ++ [xa], 1 ≤ x ∧ x ≤ 8) ∧ widsF q [] = widsF (q.drop (j + 1)) (ah ++ [xa])) := by
            rw [hw] at hn1
            have h9 := hstep.out
            rw [hw, if_neg (by omega)] at h9
            refine ⟨by simp [hahl], fun x hx => ?_, h9⟩
            rcases List.mem_append.1 hx with e | e
            · exact hfo.out.2.1 x e
            · rw [List.mem_singleton.1 e]; exact hn1
          have hovj := hov.out.1
          rw [hahl] at hovj
          have hoX : Hid (OwnI (w2.alloc (.cells #[.int .i64 (xa)] 3)) w.heap.size (.slice (some ⟨ba, oa, none⟩) j gc) ah ∧ RowI (w2.alloc (.cells #[.int .i64 (xa)] 3)) (some ⟨w2.heap.size, 0, none⟩) [xa] ∧ ah.length + 1 ≤ maxLen ∧ (ah.length + 1) * 8 ≤ 140737488355328 ∧ Below w.heap.size w (w2.alloc (.cells #[.int .i64 (xa)] 3))) := ⟨hovj.gr (hgw2.out.alloc _), rowNewI (by simp) _ 3, by unfold maxLen; omega, by omega, (hbD.out).alloc (hbD.out).size _⟩
          clear hovj hn1 hw hov hk
          go_wp2_with (at_builtin; refine wpList_append_i _ rfl (.tmp 229) (.tmp 231) rfl w.heap.size (.slice (some ⟨ba, oa, none⟩) j gc) ah [xa] (some ⟨w2.heap.size, 0, none⟩) 1 rfl rfl hoX.out.1 hoX.out.2.1 (fun h => by cases h) hoX.out.2.2.1 hoX.out.2.2.2.1 hoX.out.2.2.2.2.size ?_; intro v7 w7 hown7 hg7)
          have hfin7 : Hid (OwnI w7 w.heap.size v7 (ah ++ [xa]) ∧ Below w.heap.size w w7) := ⟨hown7, hoX.out.2.2.2.2.trans (OwnG.grown_below hoX.out.1 hg7 hoX.out.2.2.2.2.size)⟩
          clear hown7 hg7 hoX
          go_roundw
          case rel => exact ⟨j + 1, ah ++ [xa], by omega, by go_num, hnext, hfin7⟩
          case measure => simp [intOf]; omega
      by_cases hk : s.k = 3
      · as_aux_lemma =>
          rw [hk] at c0 c1 c2 c3 c4 c5 c6 hrowH hbF hg0 m0
          have hkH : Hid (s.k = 3) := hk
          go_wp2_with fail
          refine Calls.mono (show Calls _ _ _ _ _ from inQ_g (show inB 3 1 9 = true from rfl) _) ?_
          rintro e w' ⟨rfl, hw'⟩
          subst w'
          go_wp2_with fail
          cases hA : inB s.a 0 ((j : Int) - 1)
          · have hf : Hid ((widsF q []).isSome = false ∧ (widsF q []).getD [] = []) := hnone.out (by rw [wid3 hk ah, hahl, hA]; simp)
            refine Calls.mono (show Calls _ _ _ _ _ from inQ_g hA _) ?_
            rintro e w' ⟨rfl, hw'⟩
            subst w'
            go_wp2
            go_ret2
            exact ⟨none, 0, by rw [hf.out.1, hf.out.2]; rfl, by rw [hf.out.2]; exact Or.inl rfl, fun _ => rfl, hbF.out⟩
          refine Calls.mono (show Calls _ _ _ _ _ from inQ_g hA _) ?_
          rintro e w' ⟨rfl, hw'⟩
          subst w'
          have hAH : Hid (inB s.a 0 ((j : Int) - 1) = true) := hA
          cases hB : (s.b != 0)
          rotate_left
          · have hB' : ¬ s.b = 0 := by simpa using hB
            have hf : Hid ((widsF q []).isSome = false ∧ (widsF q []).getD [] = []) := hnone.out (by rw [wid3 hk ah]; simp [hB'])
            clear hB'
            go_wp2
            go_ret2
            exact ⟨none, 0, by rw [hf.out.1, hf.out.2]; rfl, by rw [hf.out.2]; exact Or.inl rfl, fun _ => rfl, hbF.out⟩
          have hB0 : s.b = 0 := by simpa using hB
          have hB0H : Hid (s.b = 0) := hB0
          rw [hB0] at c0 c1 c2 c3 c4 c5 c6 hrowH hbF hg0 m2 ⊢
          clear hB hB0
          cases hL : ((s.l.length : Int) != 0)
          all_goals
            obtain ⟨ka, hka, hkal⟩ := below_nat (show belowB s.a ah.length = true by rw [below_in, hahl]; exact hA)
            obtain ⟨ba, oa, hGa, hba, hca⟩ := hrowH.out.at hkal
            subst hGa
            obtain ⟨xa, hxa⟩ : ∃ x, ah[ka] = x := ⟨_, rfl⟩
            have ea0 := hca ka hkal 0 (by omega)
            rw [hxa] at ea0
            have hga : Hid (ah.getD s.a.toNat 0 = xa ∧ 1 ≤ xa ∧ xa ≤ 8) := ⟨by rw [hka, Int.toNat_natCast, getD_in hkal, hxa], hfo.out.2.1 xa (by rw [← hxa]; exact List.getElem_mem hkal)⟩
            obtain ⟨xb, hxb⟩ : ∃ x, ah[0]'(by omega) = x := ⟨_, rfl⟩
            have eb0 := hca 0 (by omega) 0 (by omega)
            rw [hxb] at eb0
            have hkaH : Hid (s.a = ka) := hka
            have ea : _ = some (Value.int .i64 xa) := ea0
            have eb : _ = some (Value.int .i64 xb) := eb0
            simp only [hka, Nat.mul_one, Nat.add_zero] at c0 c1 c2 c3 c4 c5 c6 hbF hg0 ea eb hba hA ⊢
            have hkz : (ka : Int) < (j : Int) := by omega
            clear ea0 eb0 hca hrowH
            go_wp2_with fail
            have xlt : wr.heap.size < (wr.alloc (.cells #[.int .i64 3, .int .i64 (ka : Int), .int .i64 0, .int .i64 s.c, .int .i64 s.o, .int .i64 s.v, .slice s.p s.l.length s.n] 32)).heap.size := by simp
            have g1 := (Gr.refl (wr.alloc (.cells #[.int .i64 3, .int .i64 (ka : Int), .int .i64 0, .int .i64 s.c, .int .i64 s.o, .int .i64 s.v, .slice s.p s.l.length s.n] 32))).cellG (a := ⟨wr.heap.size, 1, none⟩) xlt c1
            have g2 := (Gr.refl (wr.alloc (.cells #[.int .i64 3, .int .i64 (ka : Int), .int .i64 0, .int .i64 s.c, .int .i64 s.o, .int .i64 s.v, .slice s.p s.l.length s.n] 32))).cellG (a := ⟨wr.heap.size, 2, none⟩) xlt c2
            have ga := (Gr.refl (wr.alloc (.cells #[.int .i64 3, .int .i64 (ka : Int), .int .i64 0, .int .i64 s.c, .int .i64 s.o, .int .i64 s.v, .slice s.p s.l.length s.n] 32))).cellG (a := ⟨ba, oa + ka, none⟩) hba ea
            have gb := (Gr.refl (wr.alloc (.cells #[.int .i64 3, .int .i64 (ka : Int), .int .i64 0, .int .i64 s.c, .int .i64 s.o, .int .i64 s.v, .slice s.p s.l.length s.n] 32))).cellG (a := ⟨ba, oa, none⟩) hba eb
            refine wp_region_quiet_grown mixed (by kernel_rfl) ?_
            repeat (go_big_quiet_step (fail))
            refine wpQuiet_nil ?_
            rintro _ ⟨⟨nq2, osq2⟩, rfl⟩
            have hg2 : Gr (wr.alloc (.cells #[.int .i64 3, .int .i64 (ka : Int), .int .i64 0, .int .i64 s.c, .int .i64 s.o, .int .i64 s.v, .slice s.p s.l.length s.n] 32)) (grow ((wr.alloc (.cells #[.int .i64 3, .int .i64 (ka : Int), .int .i64 0, .int .i64 s.c, .int .i64 s.o, .int .i64 s.v, .slice s.p s.l.length s.n] 32)).drewN nq2) osq2) := ⟨nq2, osq2, rfl⟩
            generalize grow ((wr.alloc (.cells #[.int .i64 3, .int .i64 (ka : Int), .int .i64 0, .int .i64 s.c, .int .i64 s.o, .int .i64 s.v, .slice s.p s.l.length s.n] 32)).drewN nq2) osq2 = w2 at hg2 ⊢
            have hbD : Hid (Below w.heap.size w w2) := hbF.out.trans (hg2.below.mono hbF.out.size)
            have hgw2 : Hid (Gr wr w2) := hg0.trans hg2
            have d3 : w2.cell? ⟨wr.heap.size, 3, none⟩ = some (.int .i64 s.c) := box1 hg2 rfl
            have d4 : w2.cell? ⟨wr.heap.size, 4, none⟩ = some (.int .i64 s.o) := box1 hg2 rfl
            have d5 : w2.cell? ⟨wr.heap.size, 5, none⟩ = some (.int .i64 s.v) := box1 hg2 rfl
            have d6 : w2.cell? ⟨wr.heap.size, 6, none⟩ = some (.slice s.p s.l.length s.n) := box1 hg2 rfl
            clear hbF hg0 hg2 c0 c1 c2 c3 c4 c5 c6 ea eb g1 g2 ga gb xlt m0 m1 m2 m3 m4 m5 m6
            obtain ⟨hx1, hx2⟩ := hga.out.2
            obtain ⟨hx1, hx2⟩ := hga.out.2
            have hsl : Hid (RowI w2 s.p s.l) := hsr.out.1.gr hgw2.out
            have hslm : s.l.length ≤ 9223372036854775807 := by have := hsr.out.2; unfold maxLen at this; exact this
            go_wp2_with fail
            obtain ⟨b0, hb0⟩ : ∃ b, inB (s.l.length : Int) 1 8 = b := ⟨_, rfl⟩
            refine Calls.mono (show Calls _ _ _ _ _ from inQ_g hb0 _) ?_
            rintro e w' ⟨rfl, hw'⟩
            subst w'
            go_wp2
            go_loopw [12, 16] (fun o i wz => ∃ m : Nat, m ≤ s.l.length ∧ i = .int .i64 m ∧ o = .bool (b0 && (s.l.take m).all (fun n => inB n 0 (xa - 1))) ∧ wz = w2) (fun _ i _ => s.l.length - (intOf i).toNat)
            case atStart => exact ⟨0, by omega, rfl, by simp, rfl⟩
            case round =>
              rename World => wz
              obtain ⟨m, hm, rfl, rfl, hwz⟩ := hrel
              subst wz
              obtain ⟨o, ho⟩ : ∃ o, (b0 && (s.l.take m).all (fun n => inB n 0 (xa - 1))) = o := ⟨_, rfl⟩
              rw [ho]
              have hoH : Hid ((b0 && (s.l.take m).all (fun n => inB n 0 (xa - 1))) = o) := ho
              clear ho
              by_cases hml : m < s.l.length
              · have hmz : (m : Int) < (s.l.length : Int) := by omega
                obtain ⟨b3, o3, h3, hb3, hc3⟩ := hsl.out.at hml
                obtain ⟨x, hx⟩ : ∃ x, s.l[m] = x := ⟨_, rfl⟩
                have e30 := hc3 m hml 0 (by omega)
                rw [hx] at e30
                have e3 : _ = some (Value.int .i64 x) := e30
                simp only [Nat.mul_one, Nat.add_zero] at e3
                have hnx : Hid ((b0 && (s.l.take (m + 1)).all (fun n => inB n 0 (xa - 1))) = (o && inB x 0 (xa - 1))) := by
                  show _ = _
                  rw [List.take_succ_eq_append_getElem hml, hx, List.all_append, ← hoH.out]
                  simp [Bool.and_assoc]
                rw [h3] at d6
                clear e30 hc3 hx h3
                cases o
                · go_wp2
                  go_roundw
                  case rel => exact ⟨m + 1, by omega, by go_num, by rw [hnx.out]; rfl, by trivial⟩
                  case measure => simp [intOf]; omega
                · go_wp2_with fail
                  cases hc : inB x 0 (xa - 1)
                  · rw [hc] at hnx
                    refine Calls.mono (show Calls _ _ _ _ _ from inQ_g hc _) ?_
                    rintro e w' ⟨rfl, hw'⟩
                    subst w'
                    go_wp2
                    go_roundw
                    case rel =>
                      first
                        | exact ⟨m + 1, by omega, by go_num, by rw [hnx.out]; rfl, by trivial⟩
                        | (repeat (apply Exists.intro); refine ⟨?r, ?e⟩; (case e => rfl); (case r => exact ⟨m + 1, by omega, by go_num, by rw [hnx.out]; rfl, by trivial⟩))
                    case measure => simp [intOf]; omega
                  · rw [hc] at hnx
                    refine Calls.mono (show Calls _ _ _ _ _ from inQ_g hc _) ?_
                    rintro e w' ⟨rfl, hw'⟩
                    subst w'
                    go_wp2
                    go_roundw
                    case rel =>
                      first
                        | exact ⟨m + 1, by omega, by go_num, by rw [hnx.out]; rfl, by trivial⟩
                        | (repeat (apply Exists.intro); refine ⟨?r, ?e⟩; (case e => rfl); (case r => exact ⟨m + 1, by omega, by go_num, by rw [hnx.out]; rfl, by trivial⟩))
                    case measure => simp [intOf]; omega
              · have hmz : ¬ (m : Int) < (s.l.length : Int) := by omega
                have hall : Hid ((b0 && s.l.all (fun n => inB n 0 (xa - 1))) = o) := by show _ = _; rw [← hoH.out, List.take_of_length_le (by omega)]
                cases o
                · have hf : Hid ((widsF q []).isSome = false ∧ (widsF q []).getD [] = []) := hnone.out (by
                    have h9 := hall.out
                    rw [wid3 hk ah, hga.out.1, hb0]
                    rw [Bool.and_eq_false_iff] at h9
                    rcases h9 with h9 | h9 <;> simp [h9])
                  go_wp2
                  go_ret2
                  exact ⟨none, 0, by rw [hf.out.1, hf.out.2]; rfl, by rw [hf.out.2]; exact Or.inl rfl, fun _ => rfl, hbD.out⟩
                have hbt : b0 = true ∧ s.l.all (fun n => inB n 0 (xa - 1)) = true := by simpa using hall.out
                have hbtH : Hid (inB (s.l.length : Int) 1 8 = true ∧ s.l.all (fun n => inB n 0 (xa - 1)) = true) := ⟨by rw [hb0]; exact hbt.1, hbt.2⟩
                clear hbt
                cases hC : (s.c != 0)
                rotate_left
                · have hC' : ¬ s.c = 0 := by simpa using hC
                  have hf : Hid ((widsF q []).isSome = false ∧ (widsF q []).getD [] = []) := hnone.out (by rw [wid3 hk ah, hga.out.1]; simp [hC'])
                  clear hC'
                  go_wp2
                  go_ret2
                  exact ⟨none, 0, by rw [hf.out.1, hf.out.2]; rfl, by rw [hf.out.2]; exact Or.inl rfl, fun _ => rfl, hbD.out⟩
                have hCz : Hid (s.c = 0) := by simpa [Hid] using hC
                cases hO : (s.o != 0)
                rotate_left
                · have hO' : ¬ s.o = 0 := by simpa using hO
                  have hf : Hid ((widsF q []).isSome = false ∧ (widsF q []).getD [] = []) := hnone.out (by rw [wid3 hk ah, hga.out.1]; simp [hO'])
                  clear hO'
                  go_wp2
                  go_ret2
                  exact ⟨none, 0, by rw [hf.out.1, hf.out.2]; rfl, by rw [hf.out.2]; exact Or.inl rfl, fun _ => rfl, hbD.out⟩
                have hOz : Hid (s.o = 0) := by simpa [Hid] using hO
                cases hV : (s.v != 0)
                rotate_left
                · have hV' : ¬ s.v = 0 := by simpa using hV
                  have hf : Hid ((widsF q []).isSome = false ∧ (widsF q []).getD [] = []) := hnone.out (by rw [wid3 hk ah, hga.out.1]; simp [hV'])
                  clear hV'
                  go_wp2
                  go_ret2
                  exact ⟨none, 0, by rw [hf.out.1, hf.out.2]; rfl, by rw [hf.out.2]; exact Or.inl rfl, fun _ => rfl, hbD.out⟩
                have hVz : Hid (s.v = 0) := by simpa [Hid] using hV
                have hw : widW s ah = (s.l.length : Int) := by rw [wid3 hk ah, hga.out.1, hahl, hAH.out, hB0H.out, hbtH.out.1, hbtH.out.2, hCz.out, hOz.out, hVz.out]; rfl
                have hn8 : 1 ≤ (s.l.length : Int) ∧ (s.l.length : Int) ≤ 8 := by have := hbtH.out.1; simp only [inB, Bool.and_eq_true, decide_eq_true_eq] at this; exact this
                have hn1 : 1 ≤ widW s ah ∧ widW s ah ≤ 8 := by rw [hw]; omega
                have hnext : Hid ((ah ++ [(s.l.length : Int)]).length = j + 1 ∧ (∀ x ∈ ah ++ [(s.l.length : Int)], 1 ≤ x ∧ x ≤ 8) ∧ widsF q [] = widsF (q.drop (j + 1)) (ah ++ [(s.l.length : Int)])) := by
                  rw [hw] at hn1
                  have h9 := hstep.out
                  rw [hw, if_neg (by omega)] at h9
                  refine ⟨by simp [hahl], fun x hx => ?_, h9⟩
                  rcases List.mem_append.1 hx with e | e
                  · exact hfo.out.2.1 x e
                  · rw [List.mem_singleton.1 e]; exact hn1
                have hovj := hov.out.1
                rw [hahl] at hovj
                have hoX : Hid (OwnI (w2.alloc (.cells #[.int .i64 ((s.l.length : Int))] 3)) w.heap.size (.slice (some ⟨ba, oa, none⟩) j gc) ah ∧ RowI (w2.alloc (.cells #[.int .i64 ((s.l.length : Int))] 3)) (some ⟨w2.heap.size, 0, none⟩) [(s.l.length : Int)] ∧ ah.length + 1 ≤ maxLen ∧ (ah.length + 1) * 8 ≤ 140737488355328 ∧ Below w.heap.size w (w2.alloc (.cells #[.int .i64 ((s.l.length : Int))] 3))) := ⟨hovj.gr (hgw2.out.alloc _), rowNewI (by simp) _ 3, by unfold maxLen; omega, by omega, (hbD.out).alloc (hbD.out).size _⟩
                clear hovj hn1 hw hov hk
                go_wp2_with (at_builtin; refine wpList_append_i _ rfl (.tmp 229) (.tmp 231) rfl w.heap.size (.slice (some ⟨ba, oa, none⟩) j gc) ah [(s.l.length : Int)] (some ⟨w2.heap.size, 0, none⟩) 1 rfl rfl hoX.out.1 hoX.out.2.1 (fun h => by cases h) hoX.out.2.2.1 hoX.out.2.2.2.1 hoX.out.2.2.2.2.size ?_; intro v7 w7 hown7 hg7)
                have hfin7 : Hid (OwnI w7 w.heap.size v7 (ah ++ [(s.l.length : Int)]) ∧ Below w.heap.size w w7) := ⟨hown7, hoX.out.2.2.2.2.trans (OwnG.grown_below hoX.out.1 hg7 hoX.out.2.2.2.2.size)⟩
                clear hown7 hg7 hoX
                go_roundw
                case rel => exact ⟨j + 1, ah ++ [(s.l.length : Int)], by omega, by go_num, hnext, hfin7⟩
                case measure => simp [intOf]; omega
      by_cases hk : s.k = 4
      · as_aux_lemma =>
          rw [hk] at c0 c1 c2 c3 c4 c5 c6 hrowH hbF hg0 m0
          have hkH : Hid (s.k = 4) := hk
          go_wp2_with fail
          refine Calls.mono (show Calls _ _ _ _ _ from inQ_g (show inB 4 1 9 = true from rfl) _) ?_
          rintro e w' ⟨rfl, hw'⟩
          subst w'
          go_wp2_with fail
          cases hA : inB s.a 0 ((j : Int) - 1)
          · have hf : Hid ((widsF q []).isSome = false ∧ (widsF q []).getD [] = []) := hnone.out (by rw [wid4 hk ah, hahl, hA]; simp)
            refine Calls.mono (show Calls _ _ _ _ _ from inQ_g hA _) ?_
            rintro e w' ⟨rfl, hw'⟩
            subst w'
            go_wp2
            go_ret2
            exact ⟨none, 0, by rw [hf.out.1, hf.out.2]; rfl, by rw [hf.out.2]; exact Or.inl rfl, fun _ => rfl, hbF.out⟩
          refine Calls.mono (show Calls _ _ _ _ _ from inQ_g hA _) ?_
          rintro e w' ⟨rfl, hw'⟩
          subst w'
          have hAH : Hid (inB s.a 0 ((j : Int) - 1) = true) := hA
          go_wp2_with fail
          cases hBi : inB s.b 0 ((j : Int) - 1)
          · have hf : Hid ((widsF q []).isSome = false ∧ (widsF q []).getD [] = []) := hnone.out (by rw [wid4 hk ah, hahl, hBi]; simp)
            refine Calls.mono (show Calls _ _ _ _ _ from inQ_g hBi _) ?_
            rintro e w' ⟨rfl, hw'⟩
            subst w'
            go_wp2
            go_ret2
            exact ⟨none, 0, by rw [hf.out.1, hf.out.2]; rfl, by rw [hf.out.2]; exact Or.inl rfl, fun _ => rfl, hbF.out⟩
          refine Calls.mono (show Calls _ _ _ _ _ from inQ_g hBi _) ?_
          rintro e w' ⟨rfl, hw'⟩
          subst w'
          have hBH : Hid (inB s.b 0 ((j : Int) - 1) = true) := hBi
          cases hL : ((s.l.length : Int) != 0)
          rotate_left
          · have hL' : ¬ s.l = [] := fun e => by rw [e] at hL; simp at hL
            have hf : Hid ((widsF q []).isSome = false ∧ (widsF q []).getD [] = []) := hnone.out (by rw [wid4 hk ah]; simp [hL'])
            clear hL'
            go_wp2
            go_ret2
            exact ⟨none, 0, by rw [hf.out.1, hf.out.2]; rfl, by rw [hf.out.2]; exact Or.inl rfl, fun _ => rfl, hbF.out⟩
          have hLe : Hid (s.l = []) := by have : s.l.length = 0 := (by simpa using hL); exact List.eq_nil_of_length_eq_zero this
          obtain ⟨ka, hka, hkal⟩ := below_nat (show belowB s.a ah.length = true by rw [below_in, hahl]; exact hA)
          obtain ⟨ba, oa, hGa, hba, hca⟩ := hrowH.out.at hkal
          subst hGa
          obtain ⟨xa, hxa⟩ : ∃ x, ah[ka] = x := ⟨_, rfl⟩
          have ea0 := hca ka hkal 0 (by omega)
          rw [hxa] at ea0
          have hga : Hid (ah.getD s.a.toNat 0 = xa ∧ 1 ≤ xa ∧ xa ≤ 8) := ⟨by rw [hka, Int.toNat_natCast, getD_in hkal, hxa], hfo.out.2.1 xa (by rw [← hxa]; exact List.getElem_mem hkal)⟩
          obtain ⟨kb, hkb, hkbl⟩ := below_nat (show belowB s.b ah.length = true by rw [below_in, hahl]; exact hBi)
          obtain ⟨xb, hxb⟩ : ∃ x, ah[kb] = x := ⟨_, rfl⟩
          have eb0 := hca kb hkbl 0 (by omega)
          rw [hxb] at eb0
          have hgb : Hid (ah.getD s.b.toNat 0 = xb ∧ 1 ≤ xb ∧ xb ≤ 8) := ⟨by rw [hkb, Int.toNat_natCast, getD_in hkbl, hxb], hfo.out.2.1 xb (by rw [← hxb]; exact List.getElem_mem hkbl)⟩
          have hkaH : Hid (s.a = ka) := hka
          have ea : _ = some (Value.int .i64 xa) := ea0
          have eb : _ = some (Value.int .i64 xb) := eb0
          simp only [hka, hkb, Nat.mul_one, Nat.add_zero] at c0 c1 c2 c3 c4 c5 c6 hbF hg0 ea eb hba hA ⊢
          have hkz : (ka : Int) < (j : Int) := by omega
          clear ea0 eb0 hca hrowH
          have hkbz : (kb : Int) < (j : Int) := by omega
          go_wp2_with fail
          have xlt : wr.heap.size < (wr.alloc (.cells #[.int .i64 4, .int .i64 (ka : Int), .int .i64 (kb : Int), .int .i64 s.c, .int .i64 s.o, .int .i64 s.v, .slice s.p s.l.length s.n] 32)).heap.size := by simp
          have g1 := (Gr.refl (wr.alloc (.cells #[.int .i64 4, .int .i64 (ka : Int), .int .i64 (kb : Int), .int .i64 s.c, .int .i64 s.o, .int .i64 s.v, .slice s.p s.l.length s.n] 32))).cellG (a := ⟨wr.heap.size, 1, none⟩) xlt c1
          have g2 := (Gr.refl (wr.alloc (.cells #[.int .i64 4, .int .i64 (ka : Int), .int .i64 (kb : Int), .int .i64 s.c, .int .i64 s.o, .int .i64 s.v, .slice s.p s.l.length s.n] 32))).cellG (a := ⟨wr.heap.size, 2, none⟩) xlt c2
          have ga := (Gr.refl (wr.alloc (.cells #[.int .i64 4, .int .i64 (ka : Int), .int .i64 (kb : Int), .int .i64 s.c, .int .i64 s.o, .int .i64 s.v, .slice s.p s.l.length s.n] 32))).cellG (a := ⟨ba, oa + ka, none⟩) hba ea
          have gb := (Gr.refl (wr.alloc (.cells #[.int .i64 4, .int .i64 (ka : Int), .int .i64 (kb : Int), .int .i64 s.c, .int .i64 s.o, .int .i64 s.v, .slice s.p s.l.length s.n] 32))).cellG (a := ⟨ba, oa + kb, none⟩) hba eb
          refine wp_region_quiet_grown mixed (by kernel_rfl) ?_
          repeat (go_big_quiet_step (fail))
          refine wpQuiet_nil ?_
          rintro _ ⟨⟨nq2, osq2⟩, rfl⟩
          have hg2 : Gr (wr.alloc (.cells #[.int .i64 4, .int .i64 (ka : Int), .int .i64 (kb : Int), .int .i64 s.c, .int .i64 s.o, .int .i64 s.v, .slice s.p s.l.length s.n] 32)) (grow ((wr.alloc (.cells #[.int .i64 4, .int .i64 (ka : Int), .int .i64 (kb : Int), .int .i64 s.c, .int .i64 s.o, .int .i64 s.v, .slice s.p s.l.length s.n] 32)).drewN nq2) osq2) := ⟨nq2, osq2, rfl⟩
          generalize grow ((wr.alloc (.cells #[.int .i64 4, .int .i64 (ka : Int), .int .i64 (kb : Int), .int .i64 s.c, .int .i64 s.o, .int .i64 s.v, .slice s.p s.l.length s.n] 32)).drewN nq2) osq2 = w2 at hg2 ⊢
          have hbD : Hid (Below w.heap.size w w2) := hbF.out.trans (hg2.below.mono hbF.out.size)
          have hgw2 : Hid (Gr wr w2) := hg0.trans hg2
          have d3 : w2.cell? ⟨wr.heap.size, 3, none⟩ = some (.int .i64 s.c) := box1 hg2 rfl
          have d4 : w2.cell? ⟨wr.heap.size, 4, none⟩ = some (.int .i64 s.o) := box1 hg2 rfl
          have d5 : w2.cell? ⟨wr.heap.size, 5, none⟩ = some (.int .i64 s.v) := box1 hg2 rfl
          have d6 : w2.cell? ⟨wr.heap.size, 6, none⟩ = some (.slice s.p s.l.length s.n) := box1 hg2 rfl
          clear hbF hg0 hg2 c0 c1 c2 c3 c4 c5 c6 ea eb g1 g2 ga gb xlt m0 m1 m2 m3 m4 m5 m6
          obtain ⟨hx1, hx2⟩ := hga.out.2
          obtain ⟨hy1, hy2⟩ := hgb.out.2
          by_cases h8 : xa + xb ≤ 8
          rotate_left
          · have hf : Hid ((widsF q []).isSome = false ∧ (widsF q []).getD [] = []) := hnone.out (by rw [wid4 hk ah, hga.out.1, hgb.out.1]; simp [h8])
            go_wp2
            go_ret2
            exact ⟨none, 0, by rw [hf.out.1, hf.out.2]; rfl, by rw [hf.out.2]; exact Or.inl rfl, fun _ => rfl, hbD.out⟩
          go_wp2_with fail
          cases hV : inB s.v 0 (xb - 1)
          · have hf : Hid ((widsF q []).isSome = false ∧ (widsF q []).getD [] = []) := hnone.out (by rw [wid4 hk ah, hga.out.1, hgb.out.1, hV]; simp)
            refine Calls.mono (show Calls _ _ _ _ _ from inQ_g hV _) ?_
            rintro e w' ⟨rfl, hw'⟩
            subst w'
            go_wp2
            go_ret2
            exact ⟨none, 0, by rw [hf.out.1, hf.out.2]; rfl, by rw [hf.out.2]; exact Or.inl rfl, fun _ => rfl, hbD.out⟩
          refine Calls.mono (show Calls _ _ _ _ _ from inQ_g hV _) ?_
          rintro e w' ⟨rfl, hw'⟩
          subst w'
          go_wp2_with fail
          cases hC : inB s.c 0 (xa - 1)
          · have hf : Hid ((widsF q []).isSome = false ∧ (widsF q []).getD [] = []) := hnone.out (by rw [wid4 hk ah, hga.out.1, hgb.out.1, hC]; simp)
            refine Calls.mono (show Calls _ _ _ _ _ from inQ_g hC _) ?_
            rintro e w' ⟨rfl, hw'⟩
            subst w'
            go_wp2
            go_ret2
            exact ⟨none, 0, by rw [hf.out.1, hf.out.2]; rfl, by rw [hf.out.2]; exact Or.inl rfl, fun _ => rfl, hbD.out⟩
          refine Calls.mono (show Calls _ _ _ _ _ from inQ_g hC _) ?_
          rintro e w' ⟨rfl, hw'⟩
          subst w'
          cases hO : (s.o != 0)
          rotate_left
          · have hO' : ¬ s.o = 0 := by simpa using hO
            have hf : Hid ((widsF q []).isSome = false ∧ (widsF q []).getD [] = []) := hnone.out (by rw [wid4 hk ah, hga.out.1, hgb.out.1]; simp [hO'])
            clear hO'
            go_wp2
            go_ret2
            exact ⟨none, 0, by rw [hf.out.1, hf.out.2]; rfl, by rw [hf.out.2]; exact Or.inl rfl, fun _ => rfl, hbD.out⟩
          have hOz : Hid (s.o = 0) := by simpa [Hid] using hO
          have hw : widW s ah = xa + xb := by rw [wid4 hk ah, hga.out.1, hgb.out.1, hahl]; simp [hAH.out, hBH.out, hLe.out, h8, hV, hC, hOz.out]
          have hn1 : 1 ≤ widW s ah ∧ widW s ah ≤ 8 := by rw [hw]; omega
          have hnext : Hid ((ah ++ [xa + xb]).length = j + 1 ∧ (∀ x ∈ ah ++ [xa + xb], 1 ≤ x ∧ x ≤ 8) ∧ widsF q [] = widsF (q.drop (j + 1)) (ah ++ [xa + xb])) := by
            rw [hw] at hn1
            have h9 := hstep.out
            rw [hw, if_neg (by omega)] at h9
            refine ⟨by simp [hahl], fun x hx => ?_, h9⟩
            rcases List.mem_append.1 hx with e | e
            · exact hfo.out.2.1 x e
            · rw [List.mem_singleton.1 e]; exact hn1
          have hovj := hov.out.1
          rw [hahl] at hovj
          have hoX : Hid (OwnI (w2.alloc (.cells #[.int .i64 (xa + xb)] 3)) w.heap.size (.slice (some ⟨ba, oa, none⟩) j gc) ah ∧ RowI (w2.alloc (.cells #[.int .i64 (xa + xb)] 3)) (some ⟨w2.heap.size, 0, none⟩) [xa + xb] ∧ ah.length + 1 ≤ maxLen ∧ (ah.length + 1) * 8 ≤ 140737488355328 ∧ Below w.heap.size w (w2.alloc (.cells #[.int .i64 (xa + xb)] 3))) := ⟨hovj.gr (hgw2.out.alloc _), rowNewI (by simp) _ 3, by unfold maxLen; omega, by omega, (hbD.out).alloc (hbD.out).size _⟩
          clear hovj hn1 hw hov hk
          go_wp2_with (at_builtin; refine wpList_append_i _ rfl (.tmp 229) (.tmp 231) rfl w.heap.size (.slice (some ⟨ba, oa, none⟩) j gc) ah [xa + xb] (some ⟨w2.heap.size, 0, none⟩) 1 rfl rfl hoX.out.1 hoX.out.2.1 (fun h => by cases h) hoX.out.2.2.1 hoX.out.2.2.2.1 hoX.out.2.2.2.2.size ?_; intro v7 w7 hown7 hg7)
          have hfin7 : Hid (OwnI w7 w.heap.size v7 (ah ++ [xa + xb]) ∧ Below w.heap.size w w7) := ⟨hown7, hoX.out.2.2.2.2.trans (OwnG.grown_below hoX.out.1 hg7 hoX.out.2.2.2.2.size)⟩
          clear hown7 hg7 hoX
          go_roundw
          case rel => exact ⟨j + 1, ah ++ [xa + xb], by omega, by go_num, hnext, hfin7⟩
          case measure => simp [intOf]; omega
      by_cases hk : s.k = 5
      · as_aux_lemma =>
          rw [hk] at c0 c1 c2 c3 c4 c5 c6 hrowH hbF hg0 m0
          have hkH : Hid (s.k = 5) := hk
          go_wp2_with fail
          refine Calls.mono (show Calls _ _ _ _ _ from inQ_g (show inB 5 1 9 = true from rfl) _) ?_
          rintro e w' ⟨rfl, hw'⟩
          subst w'
          go_wp2_with fail
          cases hA : inB s.a 0 ((j : Int) - 1)
          · have hf : Hid ((widsF q []).isSome = false ∧ (widsF q []).getD [] = []) := hnone.out (by rw [wid5 hk ah, hahl, hA]; simp)
            refine Calls.mono (show Calls _ _ _ _ _ from inQ_g hA _) ?_
            rintro e w' ⟨rfl, hw'⟩
            subst w'
            go_wp2
            go_ret2
            exact ⟨none, 0, by rw [hf.out.1, hf.out.2]; rfl, by rw [hf.out.2]; exact Or.inl rfl, fun _ => rfl, hbF.out⟩
          refine Calls.mono (show Calls _ _ _ _ _ from inQ_g hA _) ?_
          rintro e w' ⟨rfl, hw'⟩
          subst w'
          have hAH : Hid (inB s.a 0 ((j : Int) - 1) = true) := hA
          go_wp2_with fail
          cases hBi : inB s.b 0 ((j : Int) - 1)
          · have hf : Hid ((widsF q []).isSome = false ∧ (widsF q []).getD [] = []) := hnone.out (by rw [wid5 hk ah, hahl, hBi]; simp)
            refine Calls.mono (show Calls _ _ _ _ _ from inQ_g hBi _) ?_
            rintro e w' ⟨rfl, hw'⟩
            subst w'
            go_wp2
            go_ret2
            exact ⟨none, 0, by rw [hf.out.1, hf.out.2]; rfl, by rw [hf.out.2]; exact Or.inl rfl, fun _ => rfl, hbF.out⟩
          refine Calls.mono (show Calls _ _ _ _ _ from inQ_g hBi _) ?_
          rintro e w' ⟨rfl, hw'⟩
          subst w'
          have hBH : Hid (inB s.b 0 ((j : Int) - 1) = true) := hBi
          cases hL : ((s.l.length : Int) != 0)
          rotate_left
          · have hL' : ¬ s.l = [] := fun e => by rw [e] at hL; simp at hL
            have hf : Hid ((widsF q []).isSome = false ∧ (widsF q []).getD [] = []) := hnone.out (by rw [wid5 hk ah]; simp [hL'])
            clear hL'
            go_wp2
            go_ret2
            exact ⟨none, 0, by rw [hf.out.1, hf.out.2]; rfl, by rw [hf.out.2]; exact Or.inl rfl, fun _ => rfl, hbF.out⟩
          have hLe : Hid (s.l = []) := by have : s.l.length = 0 := (by simpa using hL); exact List.eq_nil_of_length_eq_zero this
          obtain ⟨ka, hka, hkal⟩ := below_nat (show belowB s.a ah.length = true by rw [below_in, hahl]; exact hA)
          obtain ⟨ba, oa, hGa, hba, hca⟩ := hrowH.out.at hkal
          subst hGa
          obtain ⟨xa, hxa⟩ : ∃ x, ah[ka] = x := ⟨_, rfl⟩
          have ea0 := hca ka hkal 0 (by omega)
          rw [hxa] at ea0
          have hga : Hid (ah.getD s.a.toNat 0 = xa ∧ 1 ≤ xa ∧ xa ≤ 8) := ⟨by rw [hka, Int.toNat_natCast, getD_in hkal, hxa], hfo.out.2.1 xa (by rw [← hxa]; exact List.getElem_mem hkal)⟩
          obtain ⟨kb, hkb, hkbl⟩ := below_nat (show belowB s.b ah.length = true by rw [below_in, hahl]; exact hBi)
          obtain ⟨xb, hxb⟩ : ∃ x, ah[kb] = x := ⟨_, rfl⟩
          have eb0 := hca kb hkbl 0 (by omega)
          rw [hxb] at eb0
          have hgb : Hid (ah.getD s.b.toNat 0 = xb ∧ 1 ≤ xb ∧ xb ≤ 8) := ⟨by rw [hkb, Int.toNat_natCast, getD_in hkbl, hxb], hfo.out.2.1 xb (by rw [← hxb]; exact List.getElem_mem hkbl)⟩
          have hkaH : Hid (s.a = ka) := hka
          have ea : _ = some (Value.int .i64 xa) := ea0
          have eb : _ = some (Value.int .i64 xb) := eb0
          simp only [hka, hkb, Nat.mul_one, Nat.add_zero] at c0 c1 c2 c3 c4 c5 c6 hbF hg0 ea eb hba hA ⊢
          have hkz : (ka : Int) < (j : Int) := by omega
          clear ea0 eb0 hca hrowH
          have hkbz : (kb : Int) < (j : Int) := by omega
          go_wp2_with fail
          have xlt : wr.heap.size < (wr.alloc (.cells #[.int .i64 5, .int .i64 (ka : Int), .int .i64 (kb : Int), .int .i64 s.c, .int .i64 s.o, .int .i64 s.v, .slice s.p s.l.length s.n] 32)).heap.size := by simp
          have g1 := (Gr.refl (wr.alloc (.cells #[.int .i64 5, .int .i64 (ka : Int), .int .i64 (kb : Int), .int .i64 s.c, .int .i64 s.o, .int .i64 s.v, .slice s.p s.l.length s.n] 32))).cellG (a := ⟨wr.heap.size, 1, none⟩) xlt c1
          have g2 := (Gr.refl (wr.alloc (.cells #[.int .i64 5, .int .i64 (ka : Int), .int .i64 (kb : Int), .int .i64 s.c, .int .i64 s.o, .int .i64 s.v, .slice s.p s.l.length s.n] 32))).cellG (a := ⟨wr.heap.size, 2, none⟩) xlt c2
          have ga := (Gr.refl (wr.alloc (.cells #[.int .i64 5, .int .i64 (ka : Int), .int .i64 (kb : Int), .int .i64 s.c, .int .i64 s.o, .int .i64 s.v, .slice s.p s.l.length s.n] 32))).cellG (a := ⟨ba, oa + ka, none⟩) hba ea
          have gb := (Gr.refl (wr.alloc (.cells #[.int .i64 5, .int .i64 (ka : Int), .int .i64 (kb : Int), .int .i64 s.c, .int .i64 s.o, .int .i64 s.v, .slice s.p s.l.length s.n] 32))).cellG (a := ⟨ba, oa + kb, none⟩) hba eb
          refine wp_region_quiet_grown mixed (by kernel_rfl) ?_
          repeat (go_big_quiet_step (fail))
          refine wpQuiet_nil ?_
          rintro _ ⟨⟨nq2, osq2⟩, rfl⟩
          have hg2 : Gr (wr.alloc (.cells #[.int .i64 5, .int .i64 (ka : Int), .int .i64 (kb : Int), .int .i64 s.c, .int .i64 s.o, .int .i64 s.v, .slice s.p s.l.length s.n] 32)) (grow ((wr.alloc (.cells #[.int .i64 5, .int .i64 (ka : Int), .int .i64 (kb : Int), .int .i64 s.c, .int .i64 s.o, .int .i64 s.v, .slice s.p s.l.length s.n] 32)).drewN nq2) osq2) := ⟨nq2, osq2, rfl⟩
          generalize grow ((wr.alloc (.cells #[.int .i64 5, .int .i64 (ka : Int), .int .i64 (kb : Int), .int .i64 s.c, .int .i64 s.o, .int .i64 s.v, .slice s.p s.l.length s.n] 32)).drewN nq2) osq2 = w2 at hg2 ⊢
          have hbD : Hid (Below w.heap.size w w2) := hbF.out.trans (hg2.below.mono hbF.out.size)
          have hgw2 : Hid (Gr wr w2) := hg0.trans hg2
          have d3 : w2.cell? ⟨wr.heap.size, 3, none⟩ = some (.int .i64 s.c) := box1 hg2 rfl
          have d4 : w2.cell? ⟨wr.heap.size, 4, none⟩ = some (.int .i64 s.o) := box1 hg2 rfl
          have d5 : w2.cell? ⟨wr.heap.size, 5, none⟩ = some (.int .i64 s.v) := box1 hg2 rfl
          have d6 : w2.cell? ⟨wr.heap.size, 6, none⟩ = some (.slice s.p s.l.length s.n) := box1 hg2 rfl
          clear hbF hg0 hg2 c0 c1 c2 c3 c4 c5 c6 ea eb g1 g2 ga gb xlt m0 m1 m2 m3 m4 m5 m6
          obtain ⟨hx1, hx2⟩ := hga.out.2
          obtain ⟨hy1, hy2⟩ := hgb.out.2
          by_cases hab : xa = xb
          rotate_left
          · have hf : Hid ((widsF q []).isSome = false ∧ (widsF q []).getD [] = []) := hnone.out (by rw [wid5 hk ah, hga.out.1, hgb.out.1]; simp [hab])
            have habb : (xa == xb) = false := beq_eq_false_iff_ne.2 hab
            go_wp2
            go_ret2
            exact ⟨none, 0, by rw [hf.out.1, hf.out.2]; rfl, by rw [hf.out.2]; exact Or.inl rfl, fun _ => rfl, hbD.out⟩
          subst hab
          cases hC : (s.c != 0)
          rotate_left
          · have hC' : ¬ s.c = 0 := by simpa using hC
            have hf : Hid ((widsF q []).isSome = false ∧ (widsF q []).getD [] = []) := hnone.out (by rw [wid5 hk ah, hga.out.1, hgb.out.1]; simp [hC'])
            clear hC'
            go_wp2
            go_ret2
            exact ⟨none, 0, by rw [hf.out.1, hf.out.2]; rfl, by rw [hf.out.2]; exact Or.inl rfl, fun _ => rfl, hbD.out⟩
          have hCz : Hid (s.c = 0) := by simpa [Hid] using hC
          cases hO : (s.o != 0)
          rotate_left
          · have hO' : ¬ s.o = 0 := by simpa using hO
            have hf : Hid ((widsF q []).isSome = false ∧ (widsF q []).getD [] = []) := hnone.out (by rw [wid5 hk ah, hga.out.1, hgb.out.1]; simp [hO'])
            clear hO'
            go_wp2
            go_ret2
            exact ⟨none, 0, by rw [hf.out.1, hf.out.2]; rfl, by rw [hf.out.2]; exact Or.inl rfl, fun _ => rfl, hbD.out⟩
          have hOz : Hid (s.o = 0) := by simpa [Hid] using hO
          cases hV : (s.v != 0)
          rotate_left
          · have hV' : ¬ s.v = 0 := by simpa using hV
            have hf : Hid ((widsF q []).isSome = false ∧ (widsF q []).getD [] = []) := hnone.out (by rw [wid5 hk ah, hga.out.1, hgb.out.1]; simp [hV'])
            clear hV'
            go_wp2
            go_ret2
            exact ⟨none, 0, by rw [hf.out.1, hf.out.2]; rfl, by rw [hf.out.2]; exact Or.inl rfl, fun _ => rfl, hbD.out⟩
          have hVz : Hid (s.v = 0) := by simpa [Hid] using hV
          have hw : widW s ah = xa := by rw [wid5 hk ah, hga.out.1, hgb.out.1, hahl]; simp [hAH.out, hBH.out, hLe.out, hCz.out, hOz.out, hVz.out]
          have hn1 : 1 ≤ widW s ah ∧ widW s ah ≤ 8 := by rw [hw]; omega
          have hnext : Hid ((ah ++ [xa]).length = j + 1 ∧ (∀ x ∈ ah ++ [xa], 1 ≤ x ∧ x ≤ 8) ∧ widsF q [] = widsF (q.drop (j + 1)) (ah ++ [xa])) := by
            rw [hw] at hn1
            have h9 := hstep.out
            rw [hw, if_neg (by omega)] at h9
            refine ⟨by simp [hahl], fun x hx => ?_, h9⟩
            rcases List.mem_append.1 hx with e | e
            · exact hfo.out.2.1 x e
            · rw [List.mem_singleton.1 e]; exact hn1
          have hovj := hov.out.1
          rw [hahl] at hovj
          have hoX : Hid (OwnI (w2.alloc (.cells #[.int .i64 (xa)] 3)) w.heap.size (.slice (some ⟨ba, oa, none⟩) j gc) ah ∧ RowI (w2.alloc (.cells #[.int .i64 (xa)] 3)) (some ⟨w2.heap.size, 0, none⟩) [xa] ∧ ah.length + 1 ≤ maxLen ∧ (ah.length + 1) * 8 ≤ 140737488355328 ∧ Below w.heap.size w (w2.alloc (.cells #[.int .i64 (xa)] 3))) := ⟨hovj.gr (hgw2.out.alloc _), rowNewI (by simp) _ 3, by unfold maxLen; omega, by omega, (hbD.out).alloc (hbD.out).size _⟩
          clear hovj hn1 hw hov hk
          go_wp2_with (at_builtin; refine wpList_append_i _ rfl (.tmp 229) (.tmp 231) rfl w.heap.size (.slice (some ⟨ba, oa, none⟩) j gc) ah [xa] (some ⟨w2.heap.size, 0, none⟩) 1 rfl rfl hoX.out.1 hoX.out.2.1 (fun h => by cases h) hoX.out.2.2.1 hoX.out.2.2.2.1 hoX.out.2.2.2.2.size ?_; intro v7 w7 hown7 hg7)
          have hfin7 : Hid (OwnI w7 w.heap.size v7 (ah ++ [xa]) ∧ Below w.heap.size w w7) := ⟨hown7, hoX.out.2.2.2.2.trans (OwnG.grown_below hoX.out.1 hg7 hoX.out.2.2.2.2.size)⟩
          clear hown7 hg7 hoX
          go_roundw
          case rel => exact ⟨j + 1, ah ++ [xa], by omega, by go_num, hnext, hfin7⟩
          case measure => simp [intOf]; omega
      by_cases hk : s.k = 6
      · as_aux_lemma =>
          rw [hk] at c0 c1 c2 c3 c4 c5 c6 hrowH hbF hg0 m0
          have hkH : Hid (s.k = 6) := hk
          go_wp2_with fail
          refine Calls.mono (show Calls _ _ _ _ _ from inQ_g (show inB 6 1 9 = true from rfl) _) ?_
          rintro e w' ⟨rfl, hw'⟩
          subst w'
          go_wp2_with fail
          cases hA : inB s.a 0 ((j : Int) - 1)
          · have hf : Hid ((widsF q []).isSome = false ∧ (widsF q []).getD [] = []) := hnone.out (by rw [wid6 hk ah, hahl, hA]; simp)
            refine Calls.mono (show Calls _ _ _ _ _ from inQ_g hA _) ?_
            rintro e w' ⟨rfl, hw'⟩
            subst w'
            go_wp2
            go_ret2
            exact ⟨none, 0, by rw [hf.out.1, hf.out.2]; rfl, by rw [hf.out.2]; exact Or.inl rfl, fun _ => rfl, hbF.out⟩
          refine Calls.mono (show Calls _ _ _ _ _ from inQ_g hA _) ?_
          rintro e w' ⟨rfl, hw'⟩
          subst w'
          have hAH : Hid (inB s.a 0 ((j : Int) - 1) = true) := hA
          go_wp2_with fail
          cases hBi : inB s.b 0 ((j : Int) - 1)
          · have hf : Hid ((widsF q []).isSome = false ∧ (widsF q []).getD [] = []) := hnone.out (by rw [wid6 hk ah, hahl, hBi]; simp)
            refine Calls.mono (show Calls _ _ _ _ _ from inQ_g hBi _) ?_
            rintro e w' ⟨rfl, hw'⟩
            subst w'
            go_wp2
            go_ret2
            exact ⟨none, 0, by rw [hf.out.1, hf.out.2]; rfl, by rw [hf.out.2]; exact Or.inl rfl, fun _ => rfl, hbF.out⟩
          refine Calls.mono (show Calls _ _ _ _ _ from inQ_g hBi _) ?_
          rintro e w' ⟨rfl, hw'⟩
          subst w'
          have hBH : Hid (inB s.b 0 ((j : Int) - 1) = true) := hBi
          cases hL : ((s.l.length : Int) != 0)
          rotate_left
          · have hL' : ¬ s.l = [] := fun e => by rw [e] at hL; simp at hL
            have hf : Hid ((widsF q []).isSome = false ∧ (widsF q []).getD [] = []) := hnone.out (by rw [wid6 hk ah]; simp [hL'])
            clear hL'
            go_wp2
            go_ret2
            exact ⟨none, 0, by rw [hf.out.1, hf.out.2]; rfl, by rw [hf.out.2]; exact Or.inl rfl, fun _ => rfl, hbF.out⟩
          have hLe : Hid (s.l = []) := by have : s.l.length = 0 := (by simpa using hL); exact List.eq_nil_of_length_eq_zero this
          obtain ⟨ka, hka, hkal⟩ := below_nat (show belowB s.a ah.length = true by rw [below_in, hahl]; exact hA)
          obtain ⟨ba, oa, hGa, hba, hca⟩ := hrowH.out.at hkal
          subst hGa
          obtain ⟨xa, hxa⟩ : ∃ x, ah[ka] = x := ⟨_, rfl⟩
          have ea0 := hca ka hkal 0 (by omega)
          rw [hxa] at ea0
          have hga : Hid (ah.getD s.a.toNat 0 = xa ∧ 1 ≤ xa ∧ xa ≤ 8) := ⟨by rw [hka, Int.toNat_natCast, getD_in hkal, hxa], hfo.out.2.1 xa (by rw [← hxa]; exact List.getElem_mem hkal)⟩
          obtain ⟨kb, hkb, hkbl⟩ := below_nat (show belowB s.b ah.length = true by rw [below_in, hahl]; exact hBi)
          obtain ⟨xb, hxb⟩ : ∃ x, ah[kb] = x := ⟨_, rfl⟩
          have eb0 := hca kb hkbl 0 (by omega)
          rw [hxb] at eb0
          have hgb : Hid (ah.getD s.b.toNat 0 = xb ∧ 1 ≤ xb ∧ xb ≤ 8) := ⟨by rw [hkb, Int.toNat_natCast, getD_in hkbl, hxb], hfo.out.2.1 xb (by rw [← hxb]; exact List.getElem_mem hkbl)⟩
          have hkaH : Hid (s.a = ka) := hka
          have ea : _ = some (Value.int .i64 xa) := ea0
          have eb : _ = some (Value.int .i64 xb) := eb0
          simp only [hka, hkb, Nat.mul_one, Nat.add_zero] at c0 c1 c2 c3 c4 c5 c6 hbF hg0 ea eb hba hA ⊢
          have hkz : (ka : Int) < (j : Int) := by omega
          clear ea0 eb0 hca hrowH
          have hkbz : (kb : Int) < (j : Int) := by omega
          go_wp2_with fail
          have xlt : wr.heap.size < (wr.alloc (.cells #[.int .i64 6, .int .i64 (ka : Int), .int .i64 (kb : Int), .int .i64 s.c, .int .i64 s.o, .int .i64 s.v, .slice s.p s.l.length s.n] 32)).heap.size := by simp
          have g1 := (Gr.refl (wr.alloc (.cells #[.int .i64 6, .int .i64 (ka : Int), .int .i64 (kb : Int), .int .i64 s.c, .int .i64 s.o, .int .i64 s.v, .slice s.p s.l.length s.n] 32))).cellG (a := ⟨wr.heap.size, 1, none⟩) xlt c1
          have g2 := (Gr.refl (wr.alloc (.cells #[.int .i64 6, .int .i64 (ka : Int), .int .i64 (kb : Int), .int .i64 s.c, .int .i64 s.o, .int .i64 s.v, .slice s.p s.l.length s.n] 32))).cellG (a := ⟨wr.heap.size, 2, none⟩) xlt c2
          have ga := (Gr.refl (wr.alloc (.cells #[.int .i64 6, .int .i64 (ka : Int), .int .i64 (kb : Int), .int .i64 s.c, .int .i64 s.o, .int .i64 s.v, .slice s.p s.l.length s.n] 32))).cellG (a := ⟨ba, oa + ka, none⟩) hba ea
          have gb := (Gr.refl (wr.alloc (.cells #[.int .i64 6, .int .i64 (ka : Int), .int .i64 (kb : Int), .int .i64 s.c, .int .i64 s.o, .int .i64 s.v, .slice s.p s.l.length s.n] 32))).cellG (a := ⟨ba, oa + kb, none⟩) hba eb
          refine wp_region_quiet_grown mixed (by kernel_rfl) ?_
          repeat (go_big_quiet_step (fail))
          refine wpQuiet_nil ?_
          rintro _ ⟨⟨nq2, osq2⟩, rfl⟩
          have hg2 : Gr (wr.alloc (.cells #[.int .i64 6, .int .i64 (ka : Int), .int .i64 (kb : Int), .int .i64 s.c, .int .i64 s.o, .int .i64 s.v, .slice s.p s.l.length s.n] 32)) (grow ((wr.alloc (.cells #[.int .i64 6, .int .i64 (ka : Int), .int .i64 (kb : Int), .int .i64 s.c, .int .i64 s.o, .int .i64 s.v, .slice s.p s.l.length s.n] 32)).drewN nq2) osq2) := ⟨nq2, osq2, rfl⟩
          generalize grow ((wr.alloc (.cells #[.int .i64 6, .int .i64 (ka : Int), .int .i64 (kb : Int), .int .i64 s.c, .int .i64 s.o, .int .i64 s.v, .slice s.p s.l.length s.n] 32)).drewN nq2) osq2 = w2 at hg2 ⊢
          have hbD : Hid (Below w.heap.size w w2) := hbF.out.trans (hg2.below.mono hbF.out.size)
          have hgw2 : Hid (Gr wr w2) := hg0.trans hg2
          have d3 : w2.cell? ⟨wr.heap.size, 3, none⟩ = some (.int .i64 s.c) := box1 hg2 rfl
          have d4 : w2.cell? ⟨wr.heap.size, 4, none⟩ = some (.int .i64 s.o) := box1 hg2 rfl
          have d5 : w2.cell? ⟨wr.heap.size, 5, none⟩ = some (.int .i64 s.v) := box1 hg2 rfl
          have d6 : w2.cell? ⟨wr.heap.size, 6, none⟩ = some (.slice s.p s.l.length s.n) := box1 hg2 rfl
          clear hbF hg0 hg2 c0 c1 c2 c3 c4 c5 c6 ea eb g1 g2 ga gb xlt m0 m1 m2 m3 m4 m5 m6
          obtain ⟨hx1, hx2⟩ := hga.out.2
          obtain ⟨hy1, hy2⟩ := hgb.out.2
          by_cases hab : xa = xb
          rotate_left
          · have hf : Hid ((widsF q []).isSome = false ∧ (widsF q []).getD [] = []) := hnone.out (by rw [wid6 hk ah, hga.out.1, hgb.out.1]; simp [hab])
            have habb : (xa == xb) = false := beq_eq_false_iff_ne.2 hab
            go_wp2
            go_ret2
            exact ⟨none, 0, by rw [hf.out.1, hf.out.2]; rfl, by rw [hf.out.2]; exact Or.inl rfl, fun _ => rfl, hbD.out⟩
          subst hab
          cases hC : (s.c != 0)
          rotate_left
          · have hC' : ¬ s.c = 0 := by simpa using hC
            have hf : Hid ((widsF q []).isSome = false ∧ (widsF q []).getD [] = []) := hnone.out (by rw [wid6 hk ah, hga.out.1, hgb.out.1]; simp [hC'])
            clear hC'
            go_wp2
            go_ret2
            exact ⟨none, 0, by rw [hf.out.1, hf.out.2]; rfl, by rw [hf.out.2]; exact Or.inl rfl, fun _ => rfl, hbD.out⟩
          have hCz : Hid (s.c = 0) := by simpa [Hid] using hC
          cases hO : (s.o != 0)
          rotate_left
          · have hO' : ¬ s.o = 0 := by simpa using hO
            have hf : Hid ((widsF q []).isSome = false ∧ (widsF q []).getD [] = []) := hnone.out (by rw [wid6 hk ah, hga.out.1, hgb.out.1]; simp [hO'])
            clear hO'
            go_wp2
            go_ret2
            exact ⟨none, 0, by rw [hf.out.1, hf.out.2]; rfl, by rw [hf.out.2]; exact Or.inl rfl, fun _ => rfl, hbD.out⟩
          have hOz : Hid (s.o = 0) := by simpa [Hid] using hO
          cases hV : (s.v != 0)
          rotate_left
          · have hV' : ¬ s.v = 0 := by simpa using hV
            have hf : Hid ((widsF q []).isSome = false ∧ (widsF q []).getD [] = []) := hnone.out (by rw [wid6 hk ah, hga.out.1, hgb.out.1]; simp [hV'])
            clear hV'
            go_wp2
            go_ret2
            exact ⟨none, 0, by rw [hf.out.1, hf.out.2]; rfl, by rw [hf.out.2]; exact Or.inl rfl, fun _ => rfl, hbD.out⟩
          have hVz : Hid (s.v = 0) := by simpa [Hid] using hV
          have hw : widW s ah = xa := by rw [wid6 hk ah, hga.out.1, hgb.out.1, hahl]; simp [hAH.out, hBH.out, hLe.out, hCz.out, hOz.out, hVz.out]
          have hn1 : 1 ≤ widW s ah ∧ widW s ah ≤ 8 := by rw [hw]; omega
          have hnext : Hid ((ah ++ [xa]).length = j + 1 ∧ (∀ x ∈ ah ++ [xa], 1 ≤ x ∧ x ≤ 8) ∧ widsF q [] = widsF (q.drop (j + 1)) (ah ++ [xa])) := by
            rw [hw] at hn1
            have h9 := hstep.out
            rw [hw, if_neg (by omega)] at h9
            refine ⟨by simp [hahl], fun x hx => ?_, h9⟩
            rcases List.mem_append.1 hx with e | e
            · exact hfo.out.2.1 x e
            · rw [List.mem_singleton.1 e]; exact hn1
          have hovj := hov.out.1
          rw [hahl] at hovj
          have hoX : Hid (OwnI (w2.alloc (.cells #[.int .i64 (xa)] 3)) w.heap.size (.slice (some ⟨ba, oa, none⟩) j gc) ah ∧ RowI (w2.alloc (.cells #[.int .i64 (xa)] 3)) (some ⟨w2.heap.size, 0, none⟩) [xa] ∧ ah.length + 1 ≤ maxLen ∧ (ah.length + 1) * 8 ≤ 140737488355328 ∧ Below w.heap.size w (w2.alloc (.cells #[.int .i64 (xa)] 3))) := ⟨hovj.gr (hgw2.out.alloc _), rowNewI (by simp) _ 3, by unfold maxLen; omega, by omega, (hbD.out).alloc (hbD.out).size _⟩
          clear hovj hn1 hw hov hk
          go_wp2_with (at_builtin; refine wpList_append_i _ rfl (.tmp 229) (.tmp 231) rfl w.heap.size (.slice (some ⟨ba, oa, none⟩) j gc) ah [xa] (some ⟨w2.heap.size, 0, none⟩) 1 rfl rfl hoX.out.1 hoX.out.2.1 (fun h => by cases h) hoX.out.2.2.1 hoX.out.2.2.2.1 hoX.out.2.2.2.2.size ?_; intro v7 w7 hown7 hg7)
          have hfin7 : Hid (OwnI w7 w.heap.size v7 (ah ++ [xa]) ∧ Below w.heap.size w w7) := ⟨hown7, hoX.out.2.2.2.2.trans (OwnG.grown_below hoX.out.1 hg7 hoX.out.2.2.2.2.size)⟩
          clear hown7 hg7 hoX
          go_roundw
          case rel => exact ⟨j + 1, ah ++ [xa], by omega, by go_num, hnext, hfin7⟩
          case measure => simp [intOf]; omega
      by_cases hk : s.k = 7
      · as_aux_lemma =>
          rw [hk] at c0 c1 c2 c3 c4 c5 c6 hrowH hbF hg0 m0
          have hkH : Hid (s.k = 7) := hk
          go_wp2_with fail
          refine Calls.mono (show Calls _ _ _ _ _ from inQ_g (show inB 7 1 9 = true from rfl) _) ?_
          rintro e w' ⟨rfl, hw'⟩
          subst w'
          go_wp2_with fail
          cases hA : inB s.a 0 ((j : Int) - 1)
          · have hf : Hid ((widsF q []).isSome = false ∧ (widsF q []).getD [] = []) := hnone.out (by rw [wid7 hk ah, hahl, hA]; simp)
            refine Calls.mono (show Calls _ _ _ _ _ from inQ_g hA _) ?_
            rintro e w' ⟨rfl, hw'⟩
            subst w'
            go_wp2
            go_ret2
            exact ⟨none, 0, by rw [hf.out.1, hf.out.2]; rfl, by rw [hf.out.2]; exact Or.inl rfl, fun _ => rfl, hbF.out⟩
          refine Calls.mono (show Calls _ _ _ _ _ from inQ_g hA _) ?_
          rintro e w' ⟨rfl, hw'⟩
          subst w'
          have hAH : Hid (inB s.a 0 ((j : Int) - 1) = true) := hA
          cases hB : (s.b != 0)
          rotate_left
          · have hB' : ¬ s.b = 0 := by simpa using hB
            have hf : Hid ((widsF q []).isSome = false ∧ (widsF q []).getD [] = []) := hnone.out (by rw [wid7 hk ah]; simp [hB'])
            clear hB'
            go_wp2
            go_ret2
            exact ⟨none, 0, by rw [hf.out.1, hf.out.2]; rfl, by rw [hf.out.2]; exact Or.inl rfl, fun _ => rfl, hbF.out⟩
          have hB0 : s.b = 0 := by simpa using hB
          have hB0H : Hid (s.b = 0) := hB0
          rw [hB0] at c0 c1 c2 c3 c4 c5 c6 hrowH hbF hg0 m2 ⊢
          clear hB hB0
          cases hL : ((s.l.length : Int) != 0)
          rotate_left
          · have hL' : ¬ s.l = [] := fun e => by rw [e] at hL; simp at hL
            have hf : Hid ((widsF q []).isSome = false ∧ (widsF q []).getD [] = []) := hnone.out (by rw [wid7 hk ah]; simp [hL'])
            clear hL'
            go_wp2
            go_ret2
            exact ⟨none, 0, by rw [hf.out.1, hf.out.2]; rfl, by rw [hf.out.2]; exact Or.inl rfl, fun _ => rfl, hbF.out⟩
          have hLe : Hid (s.l = []) := by have : s.l.length = 0 := (by simpa using hL); exact List.eq_nil_of_length_eq_zero this
          obtain ⟨ka, hka, hkal⟩ := below_nat (show belowB s.a ah.length = true by rw [below_in, hahl]; exact hA)
          obtain ⟨ba, oa, hGa, hba, hca⟩ := hrowH.out.at hkal
          subst hGa
          obtain ⟨xa, hxa⟩ : ∃ x, ah[ka] = x := ⟨_, rfl⟩
          have ea0 := hca ka hkal 0 (by omega)
          rw [hxa] at ea0
          have hga : Hid (ah.getD s.a.toNat 0 = xa ∧ 1 ≤ xa ∧ xa ≤ 8) := ⟨by rw [hka, Int.toNat_natCast, getD_in hkal, hxa], hfo.out.2.1 xa (by rw [← hxa]; exact List.getElem_mem hkal)⟩
          obtain ⟨xb, hxb⟩ : ∃ x, ah[0]'(by omega) = x := ⟨_, rfl⟩
          have eb0 := hca 0 (by omega) 0 (by omega)
          rw [hxb] at eb0
          have hkaH : Hid (s.a = ka) := hka
          have ea : _ = some (Value.int .i64 xa) := ea0
          have eb : _ = some (Value.int .i64 xb) := eb0
          simp only [hka, Nat.mul_one, Nat.add_zero] at c0 c1 c2 c3 c4 c5 c6 hbF hg0 ea eb hba hA ⊢
          have hkz : (ka : Int) < (j : Int) := by omega
          clear ea0 eb0 hca hrowH
          go_wp2_with fail
          have xlt : wr.heap.size < (wr.alloc (.cells #[.int .i64 7, .int .i64 (ka : Int), .int .i64 0, .int .i64 s.c, .int .i64 s.o, .int .i64 s.v, .slice s.p s.l.length s.n] 32)).heap.size := by simp
          have g1 := (Gr.refl (wr.alloc (.cells #[.int .i64 7, .int .i64 (ka : Int), .int .i64 0, .int .i64 s.c, .int .i64 s.o, .int .i64 s.v, .slice s.p s.l.length s.n] 32))).cellG (a := ⟨wr.heap.size, 1, none⟩) xlt c1
          have g2 := (Gr.refl (wr.alloc (.cells #[.int .i64 7, .int .i64 (ka : Int), .int .i64 0, .int .i64 s.c, .int .i64 s.o, .int .i64 s.v, .slice s.p s.l.length s.n] 32))).cellG (a := ⟨wr.heap.size, 2, none⟩) xlt c2
          have ga := (Gr.refl (wr.alloc (.cells #[.int .i64 7, .int .i64 (ka : Int), .int .i64 0, .int .i64 s.c, .int .i64 s.o, .int .i64 s.v, .slice s.p s.l.length s.n] 32))).cellG (a := ⟨ba, oa + ka, none⟩) hba ea
          have gb := (Gr.refl (wr.alloc (.cells #[.int .i64 7, .int .i64 (ka : Int), .int .i64 0, .int .i64 s.c, .int .i64 s.o, .int .i64 s.v, .slice s.p s.l.length s.n] 32))).cellG (a := ⟨ba, oa, none⟩) hba eb
          refine wp_region_quiet_grown mixed (by kernel_rfl) ?_
          repeat (go_big_quiet_step (fail))
          refine wpQuiet_nil ?_
          rintro _ ⟨⟨nq2, osq2⟩, rfl⟩
          have hg2 : Gr (wr.alloc (.cells #[.int .i64 7, .int .i64 (ka : Int), .int .i64 0, .int .i64 s.c, .int .i64 s.o, .int .i64 s.v, .slice s.p s.l.length s.n] 32)) (grow ((wr.alloc (.cells #[.int .i64 7, .int .i64 (ka : Int), .int .i64 0, .int .i64 s.c, .int .i64 s.o, .int .i64 s.v, .slice s.p s.l.length s.n] 32)).drewN nq2) osq2) := ⟨nq2, osq2, rfl⟩
          generalize grow ((wr.alloc (.cells #[.int .i64 7, .int .i64 (ka : Int), .int .i64 0, .int .i64 s.c, .int .i64 s.o, .int .i64 s.v, .slice s.p s.l.length s.n] 32)).drewN nq2) osq2 = w2 at hg2 ⊢
          have hbD : Hid (Below w.heap.size w w2) := hbF.out.trans (hg2.below.mono hbF.out.size)
          have hgw2 : Hid (Gr wr w2) := hg0.trans hg2
          have d3 : w2.cell? ⟨wr.heap.size, 3, none⟩ = some (.int .i64 s.c) := box1 hg2 rfl
          have d4 : w2.cell? ⟨wr.heap.size, 4, none⟩ = some (.int .i64 s.o) := box1 hg2 rfl
          have d5 : w2.cell? ⟨wr.heap.size, 5, none⟩ = some (.int .i64 s.v) := box1 hg2 rfl
          have d6 : w2.cell? ⟨wr.heap.size, 6, none⟩ = some (.slice s.p s.l.length s.n) := box1 hg2 rfl
          clear hbF hg0 hg2 c0 c1 c2 c3 c4 c5 c6 ea eb g1 g2 ga gb xlt m0 m1 m2 m3 m4 m5 m6
          obtain ⟨hx1, hx2⟩ := hga.out.2
          cases hC : (s.c != 0)
          rotate_left
          · have hC' : ¬ s.c = 0 := by simpa using hC
            have hf : Hid ((widsF q []).isSome = false ∧ (widsF q []).getD [] = []) := hnone.out (by rw [wid7 hk ah, hga.out.1]; simp [hC'])
            clear hC'
            go_wp2
            go_ret2
            exact ⟨none, 0, by rw [hf.out.1, hf.out.2]; rfl, by rw [hf.out.2]; exact Or.inl rfl, fun _ => rfl, hbD.out⟩
          have hCz : Hid (s.c = 0) := by simpa [Hid] using hC
          cases hO : (s.o != 0)
          rotate_left
          · have hO' : ¬ s.o = 0 := by simpa using hO
            have hf : Hid ((widsF q []).isSome = false ∧ (widsF q []).getD [] = []) := hnone.out (by rw [wid7 hk ah, hga.out.1]; simp [hO'])
            clear hO'
            go_wp2
            go_ret2
            exact ⟨none, 0, by rw [hf.out.1, hf.out.2]; rfl, by rw [hf.out.2]; exact Or.inl rfl, fun _ => rfl, hbD.out⟩
          have hOz : Hid (s.o = 0) := by simpa [Hid] using hO
          cases hV : (s.v != 0)
          rotate_left
          · have hV' : ¬ s.v = 0 := by simpa using hV
            have hf : Hid ((widsF q []).isSome = false ∧ (widsF q []).getD [] = []) := hnone.out (by rw [wid7 hk ah, hga.out.1]; simp [hV'])
            clear hV'
            go_wp2
            go_ret2
            exact ⟨none, 0, by rw [hf.out.1, hf.out.2]; rfl, by rw [hf.out.2]; exact Or.inl rfl, fun _ => rfl, hbD.out⟩
          have hVz : Hid (s.v = 0) := by simpa [Hid] using hV
          have hw : widW s ah = xa := by rw [wid7 hk ah, hga.out.1, hahl]; simp [hAH.out, hB0H.out, hLe.out, hCz.out, hOz.out, hVz.out]
          have hn1 : 1 ≤ widW s ah ∧ widW s ah ≤ 8 := by rw [hw]; omega
          have hnext : Hid ((ah ++ [xa]).length = j + 1 ∧ (∀ x ∈ ah ++ [xa], 1 ≤ x ∧ x ≤ 8) ∧ widsF q [] = widsF (q.drop (j + 1)) (ah ++ [xa])) := by
            rw [hw] at hn1
            have h9 := hstep.out
            rw [hw, if_neg (by omega)] at h9
            refine ⟨by simp [hahl], fun x hx => ?_, h9⟩
            rcases List.mem_append.1 hx with e | e
            · exact hfo.out.2.1 x e
            · rw [List.mem_singleton.1 e]; exact hn1
          have hovj := hov.out.1
          rw [hahl] at hovj
          have hoX : Hid (OwnI (w2.alloc (.cells #[.int .i64 (xa)] 3)) w.heap.size (.slice (some ⟨ba, oa, none⟩) j gc) ah ∧ RowI (w2.alloc (.cells #[.int .i64 (xa)] 3)) (some ⟨w2.heap.size, 0, none⟩) [xa] ∧ ah.length + 1 ≤ maxLen ∧ (ah.length + 1) * 8 ≤ 140737488355328 ∧ Below w.heap.size w (w2.alloc (.cells #[.int .i64 (xa)] 3))) := ⟨hovj.gr (hgw2.out.alloc _), rowNewI (by simp) _ 3, by unfold maxLen; omega, by omega, (hbD.out).alloc (hbD.out).size _⟩
          clear hovj hn1 hw hov hk
          go_wp2_with (at_builtin; refine wpList_append_i _ rfl (.tmp 229) (.tmp 231) rfl w.heap.size (.slice (some ⟨ba, oa, none⟩) j gc) ah [xa] (some ⟨w2.heap.size, 0, none⟩) 1 rfl rfl hoX.out.1 hoX.out.2.1 (fun h => by cases h) hoX.out.2.2.1 hoX.out.2.2.2.1 hoX.out.2.2.2.2.size ?_; intro v7 w7 hown7 hg7)
          have hfin7 : Hid (OwnI w7 w.heap.size v7 (ah ++ [xa]) ∧ Below w.heap.size w w7) := ⟨hown7, hoX.out.2.2.2.2.trans (OwnG.grown_below hoX.out.1 hg7 hoX.out.2.2.2.2.size)⟩
          clear hown7 hg7 hoX
          go_roundw
          case rel => exact ⟨j + 1, ah ++ [xa], by omega, by go_num, hnext, hfin7⟩
          case measure => simp [intOf]; omega
      by_cases hk : s.k = 8
      · as_aux_lemma =>
          rw [hk] at c0 c1 c2 c3 c4 c5 c6 hrowH hbF hg0 m0
          have hkH : Hid (s.k = 8) := hk
          go_wp2_with fail
          refine Calls.mono (show Calls _ _ _ _ _ from inQ_g (show inB 8 1 9 = true from rfl) _) ?_
          rintro e w' ⟨rfl, hw'⟩
          subst w'
          go_wp2_with fail
          cases hA : inB s.a 0 ((j : Int) - 1)
          · have hf : Hid ((widsF q []).isSome = false ∧ (widsF q []).getD [] = []) := hnone.out (by rw [wid8 hk ah, hahl, hA]; simp)
            refine Calls.mono (show Calls _ _ _ _ _ from inQ_g hA _) ?_
            rintro e w' ⟨rfl, hw'⟩
            subst w'
            go_wp2
            go_ret2
            exact ⟨none, 0, by rw [hf.out.1, hf.out.2]; rfl, by rw [hf.out.2]; exact Or.inl rfl, fun _ => rfl, hbF.out⟩
          refine Calls.mono (show Calls _ _ _ _ _ from inQ_g hA _) ?_
          rintro e w' ⟨rfl, hw'⟩
          subst w'
          have hAH : Hid (inB s.a 0 ((j : Int) - 1) = true) := hA
          cases hB : (s.b != 0)
          rotate_left
          · have hB' : ¬ s.b = 0 := by simpa using hB
            have hf : Hid ((widsF q []).isSome = false ∧ (widsF q []).getD [] = []) := hnone.out (by rw [wid8 hk ah]; simp [hB'])
            clear hB'
            go_wp2
            go_ret2
            exact ⟨none, 0, by rw [hf.out.1, hf.out.2]; rfl, by rw [hf.out.2]; exact Or.inl rfl, fun _ => rfl, hbF.out⟩
          have hB0 : s.b = 0 := by simpa using hB
          have hB0H : Hid (s.b = 0) := hB0
          rw [hB0] at c0 c1 c2 c3 c4 c5 c6 hrowH hbF hg0 m2 ⊢
          clear hB hB0
          cases hL : ((s.l.length : Int) != 0)
          rotate_left
          · have hL' : ¬ s.l = [] := fun e => by rw [e] at hL; simp at hL
            have hf : Hid ((widsF q []).isSome = false ∧ (widsF q []).getD [] = []) := hnone.out (by rw [wid8 hk ah]; simp [hL'])
            clear hL'
            go_wp2
            go_ret2
            exact ⟨none, 0, by rw [hf.out.1, hf.out.2]; rfl, by rw [hf.out.2]; exact Or.inl rfl, fun _ => rfl, hbF.out⟩
          have hLe : Hid (s.l = []) := by have : s.l.length = 0 := (by simpa using hL); exact List.eq_nil_of_length_eq_zero this
          obtain ⟨ka, hka, hkal⟩ := below_nat (show belowB s.a ah.length = true by rw [below_in, hahl]; exact hA)
          obtain ⟨ba, oa, hGa, hba, hca⟩ := hrowH.out.at hkal
          subst hGa
          obtain ⟨xa, hxa⟩ : ∃ x, ah[ka] = x := ⟨_, rfl⟩
          have ea0 := hca ka hkal 0 (by omega)
          rw [hxa] at ea0
          have hga : Hid (ah.getD s.a.toNat 0 = xa ∧ 1 ≤ xa ∧ xa ≤ 8) := ⟨by rw [hka, Int.toNat_natCast, getD_in hkal, hxa], hfo.out.2.1 xa (by rw [← hxa]; exact List.getElem_mem hkal)⟩
          obtain ⟨xb, hxb⟩ : ∃ x, ah[0]'(by omega) = x := ⟨_, rfl⟩
          have eb0 := hca 0 (by omega) 0 (by omega)
          rw [hxb] at eb0
          have hkaH : Hid (s.a = ka) := hka
          have ea : _ = some (Value.int .i64 xa) := ea0
          have eb : _ = some (Value.int .i64 xb) := eb0
          simp only [hka, Nat.mul_one, Nat.add_zero] at c0 c1 c2 c3 c4 c5 c6 hbF hg0 ea eb hba hA ⊢
          have hkz : (ka : Int) < (j : Int) := by omega
          clear ea0 eb0 hca hrowH
          go_wp2_with fail
          have xlt : wr.heap.size < (wr.alloc (.cells #[.int .i64 8, .int .i64 (ka : Int), .int .i64 0, .int .i64 s.c, .int .i64 s.o, .int .i64 s.v, .slice s.p s.l.length s.n] 32)).heap.size := by simp
          have g1 := (Gr.refl (wr.alloc (.cells #[.int .i64 8, .int .i64 (ka : Int), .int .i64 0, .int .i64 s.c, .int .i64 s.o, .int .i64 s.v, .slice s.p s.l.length s.n] 32))).cellG (a := ⟨wr.heap.size, 1, none⟩) xlt c1
          have g2 := (Gr.refl (wr.alloc (.cells #[.int .i64 8, .int .i64 (ka : Int), .int .i64 0, .int .i64 s.c, .int .i64 s.o, .int .i64 s.v, .slice s.p s.l.length s.n] 32))).cellG (a := ⟨wr.heap.size, 2, none⟩) xlt c2
          have ga := (Gr.refl (wr.alloc (.cells #[.int .i64 8, .int .i64 (ka : Int), .int .i64 0, .int .i64 s.c, .int .i64 s.o, .int .i64 s.v, .slice s.p s.l.length s.n] 32))).cellG (a := ⟨ba, oa + ka, none⟩) hba ea
          have gb := (Gr.refl (wr.alloc (.cells #[.int .i64 8, .int .i64 (ka : Int), .int .i64 0, .int .i64 s.c, .int .i64 s.o, .int .i64 s.v, .slice s.p s.l.length s.n] 32))).cellG (a := ⟨ba, oa, none⟩) hba eb
          refine wp_region_quiet_grown mixed (by kernel_rfl) ?_
          repeat (go_big_quiet_step (fail))
          refine wpQuiet_nil ?_
          rintro _ ⟨⟨nq2, osq2⟩, rfl⟩
          have hg2 : Gr (wr.alloc (.cells #[.int .i64 8, .int .i64 (ka : Int), .int .i64 0, .int .i64 s.c, .int .i64 s.o, .int .i64 s.v, .slice s.p s.l.length s.n] 32)) (grow ((wr.alloc (.cells #[.int .i64 8, .int .i64 (ka : Int), .int .i64 0, .int .i64 s.c, .int .i64 s.o, .int .i64 s.v, .slice s.p s.l.length s.n] 32)).drewN nq2) osq2) := ⟨nq2, osq2, rfl⟩
          generalize grow ((wr.alloc (.cells #[.int .i64 8, .int .i64 (ka : Int), .int .i64 0, .int .i64 s.c, .int .i64 s.o, .int .i64 s.v, .slice s.p s.l.length s.n] 32)).drewN nq2) osq2 = w2 at hg2 ⊢
          have hbD : Hid (Below w.heap.size w w2) := hbF.out.trans (hg2.below.mono hbF.out.size)
          have hgw2 : Hid (Gr wr w2) := hg0.trans hg2
          have d3 : w2.cell? ⟨wr.heap.size, 3, none⟩ = some (.int .i64 s.c) := box1 hg2 rfl
          have d4 : w2.cell? ⟨wr.heap.size, 4, none⟩ = some (.int .i64 s.o) := box1 hg2 rfl
          have d5 : w2.cell? ⟨wr.heap.size, 5, none⟩ = some (.int .i64 s.v) := box1 hg2 rfl
          have d6 : w2.cell? ⟨wr.heap.size, 6, none⟩ = some (.slice s.p s.l.length s.n) := box1 hg2 rfl
          clear hbF hg0 hg2 c0 c1 c2 c3 c4 c5 c6 ea eb g1 g2 ga gb xlt m0 m1 m2 m3 m4 m5 m6
          obtain ⟨hx1, hx2⟩ := hga.out.2
          go_wp2_with fail
          cases hC : inB s.c 0 (xa - 1)
          · have hf : Hid ((widsF q []).isSome = false ∧ (widsF q []).getD [] = []) := hnone.out (by rw [wid8 hk ah, hga.out.1, hC]; simp)
            refine Calls.mono (show Calls _ _ _ _ _ from inQ_g hC _) ?_
            rintro e w' ⟨rfl, hw'⟩
            subst w'
            go_wp2
            go_ret2
            exact ⟨none, 0, by rw [hf.out.1, hf.out.2]; rfl, by rw [hf.out.2]; exact Or.inl rfl, fun _ => rfl, hbD.out⟩
          refine Calls.mono (show Calls _ _ _ _ _ from inQ_g hC _) ?_
          rintro e w' ⟨rfl, hw'⟩
          subst w'
          cases hO : (s.o != 0)
          rotate_left
          · have hO' : ¬ s.o = 0 := by simpa using hO
            have hf : Hid ((widsF q []).isSome = false ∧ (widsF q []).getD [] = []) := hnone.out (by rw [wid8 hk ah, hga.out.1]; simp [hO'])
            clear hO'
            go_wp2
            go_ret2
            exact ⟨none, 0, by rw [hf.out.1, hf.out.2]; rfl, by rw [hf.out.2]; exact Or.inl rfl, fun _ => rfl, hbD.out⟩
          have hOz : Hid (s.o = 0) := by simpa [Hid] using hO
          cases hV : (s.v != 0)
          rotate_left
          · have hV' : ¬ s.v = 0 := by simpa using hV
            have hf : Hid ((widsF q []).isSome = false ∧ (widsF q []).getD [] = []) := hnone.out (by rw [wid8 hk ah, hga.out.1]; simp [hV'])
            clear hV'
            go_wp2
            go_ret2
            exact ⟨none, 0, by rw [hf.out.1, hf.out.2]; rfl, by rw [hf.out.2]; exact Or.inl rfl, fun _ => rfl, hbD.out⟩
          have hVz : Hid (s.v = 0) := by simpa [Hid] using hV
          have hw : widW s ah = 2 := by rw [wid8 hk ah, hga.out.1, hahl]; simp [hAH.out, hB0H.out, hLe.out, hC, hOz.out, hVz.out]
          have hn1 : 1 ≤ widW s ah ∧ widW s ah ≤ 8 := by rw [hw]; omega
          have hnext : Hid ((ah ++ [2]).length = j + 1 ∧ (∀ x ∈ ah ++ [2], 1 ≤ x ∧ x ≤ 8) ∧ widsF q [] = widsF (q.drop (j + 1)) (ah ++ [2])) := by
            rw [hw] at hn1
            have h9 := hstep.out
            rw [hw, if_neg (by omega)] at h9
            refine ⟨by simp [hahl], fun x hx => ?_, h9⟩
            rcases List.mem_append.1 hx with e | e
            · exact hfo.out.2.1 x e
            · rw [List.mem_singleton.1 e]; exact hn1
          have hovj := hov.out.1
          rw [hahl] at hovj
          have hoX : Hid (OwnI (w2.alloc (.cells #[.int .i64 (2)] 3)) w.heap.size (.slice (some ⟨ba, oa, none⟩) j gc) ah ∧ RowI (w2.alloc (.cells #[.int .i64 (2)] 3)) (some ⟨w2.heap.size, 0, none⟩) [2] ∧ ah.length + 1 ≤ maxLen ∧ (ah.length + 1) * 8 ≤ 140737488355328 ∧ Below w.heap.size w (w2.alloc (.cells #[.int .i64 (2)] 3))) := ⟨hovj.gr (hgw2.out.alloc _), rowNewI (by simp) _ 3, by unfold maxLen; omega, by omega, (hbD.out).alloc (hbD.out).size _⟩
          clear hovj hn1 hw hov hk
          go_wp2_with (at_builtin; refine wpList_append_i _ rfl (.tmp 229) (.tmp 231) rfl w.heap.size (.slice (some ⟨ba, oa, none⟩) j gc) ah [2] (some ⟨w2.heap.size, 0, none⟩) 1 rfl rfl hoX.out.1 hoX.out.2.1 (fun h => by cases h) hoX.out.2.2.1 hoX.out.2.2.2.1 hoX.out.2.2.2.2.size ?_; intro v7 w7 hown7 hg7)
          have hfin7 : Hid (OwnI w7 w.heap.size v7 (ah ++ [2]) ∧ Below w.heap.size w w7) := ⟨hown7, hoX.out.2.2.2.2.trans (OwnG.grown_below hoX.out.1 hg7 hoX.out.2.2.2.2.size)⟩
          clear hown7 hg7 hoX
          go_roundw
          case rel => exact ⟨j + 1, ah ++ [2], by omega, by go_num, hnext, hfin7⟩
          case measure => simp [intOf]; omega
      by_cases hk : s.k = 9
      · as_aux_lemma =>
          rw [hk] at c0 c1 c2 c3 c4 c5 c6 hrowH hbF hg0 m0
          have hkH : Hid (s.k = 9) := hk
          go_wp2_with fail
          refine Calls.mono (show Calls _ _ _ _ _ from inQ_g (show inB 9 1 9 = true from rfl) _) ?_
          rintro e w' ⟨rfl, hw'⟩
          subst w'
          go_wp2_with fail
          cases hA : inB s.a 0 ((j : Int) - 1)
          · have hf : Hid ((widsF q []).isSome = false ∧ (widsF q []).getD [] = []) := hnone.out (by rw [wid9 hk ah, hahl, hA]; simp)
            refine Calls.mono (show Calls _ _ _ _ _ from inQ_g hA _) ?_
            rintro e w' ⟨rfl, hw'⟩
            subst w'
            go_wp2
            go_ret2
            exact ⟨none, 0, by rw [hf.out.1, hf.out.2]; rfl, by rw [hf.out.2]; exact Or.inl rfl, fun _ => rfl, hbF.out⟩
          refine Calls.mono (show Calls _ _ _ _ _ from inQ_g hA _) ?_
          rintro e w' ⟨rfl, hw'⟩
          subst w'
          have hAH : Hid (inB s.a 0 ((j : Int) - 1) = true) := hA
          cases hB : (s.b != 0)
          rotate_left
          · have hB' : ¬ s.b = 0 := by simpa using hB
            have hf : Hid ((widsF q []).isSome = false ∧ (widsF q []).getD [] = []) := hnone.out (by rw [wid9 hk ah]; simp [hB'])
            clear hB'
            go_wp2
            go_ret2
            exact ⟨none, 0, by rw [hf.out.1, hf.out.2]; rfl, by rw [hf.out.2]; exact Or.inl rfl, fun _ => rfl, hbF.out⟩
          have hB0 : s.b = 0 := by simpa using hB
          have hB0H : Hid (s.b = 0) := hB0
          rw [hB0] at c0 c1 c2 c3 c4 c5 c6 hrowH hbF hg0 m2 ⊢
          clear hB hB0
          cases hL : ((s.l.length : Int) != 0)
          rotate_left
          · have hL' : ¬ s.l = [] := fun e => by rw [e] at hL; simp at hL
            have hf : Hid ((widsF q []).isSome = false ∧ (widsF q []).getD [] = []) := hnone.out (by rw [wid9 hk ah]; simp [hL'])
            clear hL'
            go_wp2
            go_ret2
            exact ⟨none, 0, by rw [hf.out.1, hf.out.2]; rfl, by rw [hf.out.2]; exact Or.inl rfl, fun _ => rfl, hbF.out⟩
          have hLe : Hid (s.l = []) := by have : s.l.length = 0 := (by simpa using hL); exact List.eq_nil_of_length_eq_zero this
          obtain ⟨ka, hka, hkal⟩ := below_nat (show belowB s.a ah.length = true by rw [below_in, hahl]; exact hA)
          obtain ⟨ba, oa, hGa, hba, hca⟩ := hrowH.out.at hkal
          subst hGa
          obtain ⟨xa, hxa⟩ : ∃ x, ah[ka] = x := ⟨_, rfl⟩
          have ea0 := hca ka hkal 0 (by omega)
          rw [hxa] at ea0
          have hga : Hid (ah.getD s.a.toNat 0 = xa ∧ 1 ≤ xa ∧ xa ≤ 8) := ⟨by rw [hka, Int.toNat_natCast, getD_in hkal, hxa], hfo.out.2.1 xa (by rw [← hxa]; exact List.getElem_mem hkal)⟩
          obtain ⟨xb, hxb⟩ : ∃ x, ah[0]'(by omega) = x := ⟨_, rfl⟩
          have eb0 := hca 0 (by omega) 0 (by omega)
          rw [hxb] at eb0
          have hkaH : Hid (s.a = ka) := hka
          have ea : _ = some (Value.int .i64 xa) := ea0
          have eb : _ = some (Value.int .i64 xb) := eb0
          simp only [hka, Nat.mul_one, Nat.add_zero] at c0 c1 c2 c3 c4 c5 c6 hbF hg0 ea eb hba hA ⊢
          have hkz : (ka : Int) < (j : Int) := by omega
          clear ea0 eb0 hca hrowH
          go_wp2_with fail
          have xlt : wr.heap.size < (wr.alloc (.cells #[.int .i64 9, .int .i64 (ka : Int), .int .i64 0, .int .i64 s.c, .int .i64 s.o, .int .i64 s.v, .slice s.p s.l.length s.n] 32)).heap.size := by simp
          have g1 := (Gr.refl (wr.alloc (.cells #[.int .i64 9, .int .i64 (ka : Int), .int .i64 0, .int .i64 s.c, .int .i64 s.o, .int .i64 s.v, .slice s.p s.l.length s.n] 32))).cellG (a := ⟨wr.heap.size, 1, none⟩) xlt c1
          have g2 := (Gr.refl (wr.alloc (.cells #[.int .i64 9, .int .i64 (ka : Int), .int .i64 0, .int .i64 s.c, .int .i64 s.o, .int .i64 s.v, .slice s.p s.l.length s.n] 32))).cellG (a := ⟨wr.heap.size, 2, none⟩) xlt c2
          have ga := (Gr.refl (wr.alloc (.cells #[.int .i64 9, .int .i64 (ka : Int), .int .i64 0, .int .i64 s.c, .int .i64 s.o, .int .i64 s.v, .slice s.p s.l.length s.n] 32))).cellG (a := ⟨ba, oa + ka, none⟩) hba ea
          have gb := (Gr.refl (wr.alloc (.cells #[.int .i64 9, .int .i64 (ka : Int), .int .i64 0, .int .i64 s.c, .int .i64 s.o, .int .i64 s.v, .slice s.p s.l.length s.n] 32))).cellG (a := ⟨ba, oa, none⟩) hba eb
          refine wp_region_quiet_grown mixed (by kernel_rfl) ?_
          repeat (go_big_quiet_step (fail))
          refine wpQuiet_nil ?_
          rintro _ ⟨⟨nq2, osq2⟩, rfl⟩
          have hg2 : Gr (wr.alloc (.cells #[.int .i64 9, .int .i64 (ka : Int), .int .i64 0, .int .i64 s.c, .int .i64 s.o, .int .i64 s.v, .slice s.p s.l.length s.n] 32)) (grow ((wr.alloc (.cells #[.int .i64 9, .int .i64 (ka : Int), .int .i64 0, .int .i64 s.c, .int .i64 s.o, .int .i64 s.v, .slice s.p s.l.length s.n] 32)).drewN nq2) osq2) := ⟨nq2, osq2, rfl⟩
          generalize grow ((wr.alloc (.cells #[.int .i64 9, .int .i64 (ka : Int), .int .i64 0, .int .i64 s.c, .int .i64 s.o, .int .i64 s.v, .slice s.p s.l.length s.n] 32)).drewN nq2) osq2 = w2 at hg2 ⊢
          have hbD : Hid (Below w.heap.size w w2) := hbF.out.trans (hg2.below.mono hbF.out.size)
          have hgw2 : Hid (Gr wr w2) := hg0.trans hg2
          have d3 : w2.cell? ⟨wr.heap.size, 3, none⟩ = some (.int .i64 s.c) := box1 hg2 rfl
          have d4 : w2.cell? ⟨wr.heap.size, 4, none⟩ = some (.int .i64 s.o) := box1 hg2 rfl
          have d5 : w2.cell? ⟨wr.heap.size, 5, none⟩ = some (.int .i64 s.v) := box1 hg2 rfl
          have d6 : w2.cell? ⟨wr.heap.size, 6, none⟩ = some (.slice s.p s.l.length s.n) := box1 hg2 rfl
          clear hbF hg0 hg2 c0 c1 c2 c3 c4 c5 c6 ea eb g1 g2 ga gb xlt m0 m1 m2 m3 m4 m5 m6
          obtain ⟨hx1, hx2⟩ := hga.out.2
          go_wp2_with fail
          cases hV : inB s.v 0 (xa - 1)
          · have hf : Hid ((widsF q []).isSome = false ∧ (widsF q []).getD [] = []) := hnone.out (by rw [wid9 hk ah, hga.out.1, hV]; simp)
            refine Calls.mono (show Calls _ _ _ _ _ from inQ_g hV _) ?_
            rintro e w' ⟨rfl, hw'⟩
            subst w'
            go_wp2
            go_ret2
            exact ⟨none, 0, by rw [hf.out.1, hf.out.2]; rfl, by rw [hf.out.2]; exact Or.inl rfl, fun _ => rfl, hbD.out⟩
          refine Calls.mono (show Calls _ _ _ _ _ from inQ_g hV _) ?_
          rintro e w' ⟨rfl, hw'⟩
          subst w'
          go_wp2_with fail
          cases hC : inB s.c 0 (xa - 1)
          · have hf : Hid ((widsF q []).isSome = false ∧ (widsF q []).getD [] = []) := hnone.out (by rw [wid9 hk ah, hga.out.1, hC]; simp)
            refine Calls.mono (show Calls _ _ _ _ _ from inQ_g hC _) ?_
            rintro e w' ⟨rfl, hw'⟩
            subst w'
            go_wp2
            go_ret2
            exact ⟨none, 0, by rw [hf.out.1, hf.out.2]; rfl, by rw [hf.out.2]; exact Or.inl rfl, fun _ => rfl, hbD.out⟩
          refine Calls.mono (show Calls _ _ _ _ _ from inQ_g hC _) ?_
          rintro e w' ⟨rfl, hw'⟩
          subst w'
          cases hO : (s.o != 0)
          rotate_left
          · have hO' : ¬ s.o = 0 := by simpa using hO
            have hf : Hid ((widsF q []).isSome = false ∧ (widsF q []).getD [] = []) := hnone.out (by rw [wid9 hk ah, hga.out.1]; simp [hO'])
            clear hO'
            go_wp2
            go_ret2
            exact ⟨none, 0, by rw [hf.out.1, hf.out.2]; rfl, by rw [hf.out.2]; exact Or.inl rfl, fun _ => rfl, hbD.out⟩
          have hOz : Hid (s.o = 0) := by simpa [Hid] using hO
          have hw : widW s ah = 2 := by rw [wid9 hk ah, hga.out.1, hahl]; simp [hAH.out, hB0H.out, hLe.out, hV, hC, hOz.out]
          have hn1 : 1 ≤ widW s ah ∧ widW s ah ≤ 8 := by rw [hw]; omega
          have hnext : Hid ((ah ++ [2]).length = j + 1 ∧ (∀ x ∈ ah ++ [2], 1 ≤ x ∧ x ≤ 8) ∧ widsF q [] = widsF (q.drop (j + 1)) (ah ++ [2])) := by
            rw [hw] at hn1
            have h9 := hstep.out
            rw [hw, if_neg (by omega)] at h9
            refine ⟨by simp [hahl], fun x hx => ?_, h9⟩
            rcases List.mem_append.1 hx with e | e
            · exact hfo.out.2.1 x e
            · rw [List.mem_singleton.1 e]; exact hn1
          have hovj := hov.out.1
          rw [hahl] at hovj
          have hoX : Hid (OwnI (w2.alloc (.cells #[.int .i64 (2)] 3)) w.heap.size (.slice (some ⟨ba, oa, none⟩) j gc) ah ∧ RowI (w2.alloc (.cells #[.int .i64 (2)] 3)) (some ⟨w2.heap.size, 0, none⟩) [2] ∧ ah.length + 1 ≤ maxLen ∧ (ah.length + 1) * 8 ≤ 140737488355328 ∧ Below w.heap.size w (w2.alloc (.cells #[.int .i64 (2)] 3))) := ⟨hovj.gr (hgw2.out.alloc _), rowNewI (by simp) _ 3, by unfold maxLen; omega, by omega, (hbD.out).alloc (hbD.out).size _⟩
          clear hovj hn1 hw hov hk
          go_wp2_with (at_builtin; refine wpList_append_i _ rfl (.tmp 229) (.tmp 231) rfl w.heap.size (.slice (some ⟨ba, oa, none⟩) j gc) ah [2] (some ⟨w2.heap.size, 0, none⟩) 1 rfl rfl hoX.out.1 hoX.out.2.1 (fun h => by cases h) hoX.out.2.2.1 hoX.out.2.2.2.1 hoX.out.2.2.2.2.size ?_; intro v7 w7 hown7 hg7)
          have hfin7 : Hid (OwnI w7 w.heap.size v7 (ah ++ [2]) ∧ Below w.heap.size w w7) := ⟨hown7, hoX.out.2.2.2.2.trans (OwnG.grown_below hoX.out.1 hg7 hoX.out.2.2.2.2.size)⟩
          clear hown7 hg7 hoX
          go_roundw
          case rel => exact ⟨j + 1, ah ++ [2], by omega, by go_num, hnext, hfin7⟩
          case measure => simp [intOf]; omega
      have hf : Hid ((widsF q []).isSome = false ∧ (widsF q []).getD [] = []) := hnone.out (alone0 (by omega))
      have q1 : (s.k == 1) = false := beq_eq_false_iff_ne.2 (by omega)
      have q2 : (s.k == 2) = false := beq_eq_false_iff_ne.2 (by omega)
      have q3 : (s.k == 3) = false := beq_eq_false_iff_ne.2 (by omega)
      have q4 : (s.k == 4) = false := beq_eq_false_iff_ne.2 (by omega)
      have q5 : (s.k == 5) = false := beq_eq_false_iff_ne.2 (by omega)
      have q6 : (s.k == 6) = false := beq_eq_false_iff_ne.2 (by omega)
      have q7 : (s.k == 7) = false := beq_eq_false_iff_ne.2 (by omega)
      have q8 : (s.k == 8) = false := beq_eq_false_iff_ne.2 (by omega)
      have q9 : (s.k == 9) = false := beq_eq_false_iff_ne.2 (by omega)
      have hI9 : inB s.k 1 9 = false := by simp [inB]; omega
      go_wp2_with fail
      refine Calls.mono (show Calls _ _ _ _ _ from inQ_g hI9 _) ?_
      rintro e w' ⟨rfl, hw'⟩
      subst w'
      go_wp2
      go_ret2
      exact ⟨none, 0, by rw [hf.out.1, hf.out.2]; rfl, by rw [hf.out.2]; exact Or.inl rfl, fun _ => rfl, hbF.out⟩
    · have hltz : ¬ (j : Int) < (q.length : Int) := by omega
      have hfin : Hid (widsF q [] = some ah) := by
        have h1 := hfo.out.2.2
        rw [List.drop_eq_nil_of_le (by omega)] at h1
        exact h1
      obtain ⟨G, gc, rfl, hG, hrow, hlt4⟩ := OwnG.row encI_len hov.out.1
      have hfin2 : Hid (RowI wr G ah ∧ (G = none → gc = 0) ∧ Below w.heap.size w wr) := ⟨hrow, hG, hov.out.2⟩
      clear hrow hG hlt4 hov
      go_wp2
      go_ret2
      exact ⟨G, gc, by rw [hfin.out]; rfl, by rw [hfin.out]; exact hfin2.out.1, hfin2.out.2.1, hfin2.out.2.2⟩

end Go.Proofs.YtoodkgmpggabdaaDoor
