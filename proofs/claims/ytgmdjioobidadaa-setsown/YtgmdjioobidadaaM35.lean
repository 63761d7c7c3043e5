/-
  The law SetsOwn: sets that are handed in stay, and what is told shares nothing with them.
  What is handed in, opened: a list of steps.
-/
import Derived.Test.YtgmdjioobidadaaM33
import Derived.Test.YtgmdjioobidadaaM34
import Derived.Test.YtgmdjioobidadaaM14
import Derived.Test.YtgmdjioobidadaaM18
namespace Go.Proofs.Ytgmdjioobidadaa
open Go.RowKit Go.Sort

set_option maxRecDepth 100000 in
set_option maxHeartbeats 16000000 in
theorem setsOwn_any (q : List Stp) (QA : Option Addr) (cq : Nat) (a b : List Itm) (A B : Option Addr) (ca cb : Nat) (cs : List Int) (CA : Option Addr) (cc : Nat) (w : World) (hql : q.length ≤ maxLen) (hq : Stps w QA q) (ha : Lv w A ca a) (hb : Lv w B cb b) (hal : a.length * 32 ≤ 140737488351232) (hbl : b.length * 32 ≤ 140737488351232)
    (har : ∀ x ∈ a, x.r.length * 8 ≤ 140737488351232) (hbr : ∀ x ∈ b, x.r.length * 8 ≤ 140737488351232) (hc : RowI w CA cs) (hcl : cs.length ≤ maxLen) :
    Calls Try.prog 3 #[.slice QA q.length cq, .slice A a.length ca, .slice B b.length cb, .slice CA cs.length cc] w fun e w' => e = .returned (.bool true) ∧ Below w.heap.size w w' := by
  have hH : Hid (Stps w QA q ∧ Lv w A ca a ∧ Lv w B cb b ∧ RowI w CA cs) := ⟨hq, ha, hb, hc⟩
  have hL : Hid (q.length ≤ maxLen ∧ a.length * 32 ≤ 140737488351232 ∧ b.length * 32 ≤ 140737488351232 ∧ (∀ x ∈ a, x.r.length * 8 ≤ 140737488351232) ∧ (∀ x ∈ b, x.r.length * 8 ≤ 140737488351232) ∧ cs.length ≤ maxLen) := ⟨hql, hal, hbl, har, hbr, hcl⟩
  have hct : Hid _ := counted_any w
  clear hql hq ha hb hal hbl har hbr hc hcl
  go_enter Try.func3, Try.ntmps3
  go_wp2_with fail
  refine Calls.mono (show Calls _ _ _ _ _ from hct.out) ?_
  rintro e w0 ⟨rfl, hb0⟩
  clear hct
  have hc1 : Hid _ := copied_any a A ca w0 hL.out.2.1 (hH.out.2.1.below hb0).items hL.out.2.2.2.1
  go_wp2_with fail
  refine Calls.mono (show Calls _ _ _ _ _ from hc1.out) ?_
  rintro e w1 ⟨X, XC, xk, rfl, hxz, hxl, hb1⟩
  clear hc1
  have hbw1 : Hid (Below w.heap.size w w1) := hb0.trans (hb1.mono hb0.size)
  have hX1 : Hid (X.map Itm.z = a.map Itm.z ∧ Lv w1 XC xk X) := ⟨hxz, hxl⟩
  clear hb0 hb1 hxz hxl
  have hc2 : Hid _ := copied_any b B cb w1 hL.out.2.2.1 (hH.out.2.2.1.below hbw1.out).items hL.out.2.2.2.2.1
  go_wp2_with fail
  refine Calls.mono (show Calls _ _ _ _ _ from hc2.out) ?_
  rintro e w2 ⟨Y, YC, yk, rfl, hyz, hyl, hb2⟩
  clear hc2
  have hbw2 : Hid (Below w.heap.size w w2) := hbw1.out.trans (hb2.mono hbw1.out.size)
  have hXY : Hid (X.map Itm.z = a.map Itm.z ∧ Y.map Itm.z = b.map Itm.z ∧ Lv w2 XC xk X ∧ Lv w2 YC yk Y) := ⟨hX1.out.1, hyz, hX1.out.2.below hb2, hyl⟩
  clear hb2 hyz hyl hX1 hbw1
  obtain ⟨P, hP⟩ : ∃ P, plnE q (X.map Itm.z) (Y.map Itm.z) = P := ⟨_, rfl⟩
  have hPH : Hid (plnE q (X.map Itm.z) (Y.map Itm.z) = P) := hP
  have hal0 := all_new q QA cq X Y XC YC xk yk w2 hL.out.1 (hH.out.1.below hbw2.out) hXY.out.2.2.1 hXY.out.2.2.2
  rw [hP] at hal0
  have hal : Hid _ := hal0
  clear hal0
  go_wp2_with fail
  refine Calls.mono (show Calls _ _ _ _ _ from hal.out) ?_
  rintro e w3 ⟨ss, C, k, rfl, hS, hb3, hNS⟩
  clear hal
  have hS3 : Hid (Sts w3 C ss (plnF q (X.map Itm.z) (Y.map Itm.z)) ∧ Below w2.heap.size w2 w3 ∧ NewS w3 w2.heap.size C k ss) := ⟨hS, hb3, hNS⟩
  clear hS hb3 hNS
  have hev0 := eval_new q QA cq X Y XC YC xk yk w3 hL.out.1 (hH.out.1.below (hbw2.out.trans (hS3.out.2.1.mono hbw2.out.size))) (hXY.out.2.2.1.below hS3.out.2.1) (hXY.out.2.2.2.below hS3.out.2.1)
  rw [hP] at hev0
  have hev : Hid _ := hev0
  clear hev0 hP
  go_wp2_with fail
  refine Calls.mono (show Calls _ _ _ _ _ from hev.out) ?_
  rintro e w4 ⟨M, MC, mk, rfl, hMz, hMl, hb4, hMn⟩
  clear hev
  have hB4 : Hid (Below w2.heap.size w2 w4) := hS3.out.2.1.trans (hb4.mono hS3.out.2.1.size)
  have hM4 : Hid (M.map Itm.z = evlF q (X.map Itm.z) (Y.map Itm.z) ∧ Lv w4 MC mk M ∧ NwT w4 mk w3.heap.size MC M ∧ Below w3.heap.size w3 w4) := ⟨hMz, hMl, hMn, hb4⟩
  clear hMz hMl hMn hb4
  have had : Hid _ := addVn (hXY.out.2.2.1.below hB4.out) (hXY.out.2.2.2.below hB4.out) rfl rfl
  obtain ⟨E5, hE5⟩ : ∃ E, addE (X.map Itm.z) (Y.map Itm.z) = E := ⟨_, rfl⟩
  go_wp2_with fail
  refine Calls.mono (show Calls _ _ _ _ _ from had.out) ?_
  rintro e w5 ⟨D, DC, dk, rfl, _, hDl, hb5, hDn⟩
  clear had
  rw [hE5]
  clear hE5
  have hB5 : Hid (Below w2.heap.size w2 w5) := hB4.out.trans (hb5.mono hB4.out.size)
  have hD5 : Hid (Lv w5 DC dk D ∧ NwT w5 dk w4.heap.size DC D ∧ Below w4.heap.size w4 w5) := ⟨hDl, hDn, hb5⟩
  clear hDl hDn hb5
  have hne : Hid _ := negVn (hXY.out.2.2.1.below hB5.out) rfl
  obtain ⟨E6, hE6⟩ : ∃ E, errZ (X.map Itm.z) = E := ⟨_, rfl⟩
  go_wp2_with fail
  refine Calls.mono (show Calls _ _ _ _ _ from hne.out) ?_
  rintro e w6 ⟨G, GC, gk, rfl, _, hGl, hb6, hGn⟩
  clear hne
  rw [hE6]
  clear hE6
  have hB6 : Hid (Below w2.heap.size w2 w6) := hB5.out.trans (hb6.mono hB5.out.size)
  have hG6 : Hid (Lv w6 GC gk G ∧ NwT w6 gk w5.heap.size GC G ∧ Below w5.heap.size w5 w6) := ⟨hGl, hGn, hb6⟩
  clear hGl hGn hb6
  have hno : Hid _ := normVn (hXY.out.2.2.1.below hB6.out) rfl
  obtain ⟨E7, hE7⟩ : ∃ E, normE (X.map Itm.z) = E := ⟨_, rfl⟩
  go_wp2_with fail
  refine Calls.mono (show Calls _ _ _ _ _ from hno.out) ?_
  rintro e w7 ⟨O, OC, ok, rfl, _, hOl, hb7, hOn⟩
  clear hno
  rw [hE7]
  clear hE7
  have hB7 : Hid (Below w2.heap.size w2 w7) := hB6.out.trans (hb7.mono hB6.out.size)
  have hO7 : Hid (Lv w7 OC ok O ∧ NwT w7 ok w6.heap.size OC O ∧ Below w6.heap.size w6 w7) := ⟨hOl, hOn, hb7⟩
  clear hOl hOn hb7
  have hro : Hid _ := rows_any X XC xk cs CA cc 400 w7 (hXY.out.2.2.1.below hB7.out) (hH.out.2.2.2.below (hbw2.out.trans (hB7.out.mono hbw2.out.size))) hL.out.2.2.2.2.2
  obtain ⟨E8, hE8⟩ : ∃ E, rnkE (X.map Itm.z) cs 400 = E := ⟨_, rfl⟩
  go_wp2_with fail
  refine Calls.mono (show Calls _ _ _ _ _ from hro.out) ?_
  rintro e w8 ⟨vR, rfl, hRw, hb8⟩
  clear hro
  rw [hE8]
  clear hE8
  obtain ⟨RL, hRo, _⟩ := hRw.has
  have hB8 : Hid (Below w2.heap.size w2 w8) := hB7.out.trans (hb8.mono hB7.out.size)
  obtain ⟨RA, rk, hvR, _, _, _⟩ := OwnG.row encW_len hRo.own
  subst hvR
  obtain ⟨T, hT⟩ : ∃ T : List Sl, T = [⟨MC, mk, M⟩, ⟨DC, dk, D⟩, ⟨GC, gk, G⟩, ⟨OC, ok, O⟩] := ⟨_, rfl⟩
  have hTH : Hid (T = [⟨MC, mk, M⟩, ⟨DC, dk, D⟩, ⟨GC, gk, G⟩, ⟨OC, ok, O⟩]) := hT
  have hM8 : Hid (Lv w8 MC mk M ∧ NwT w8 mk w3.heap.size MC M) := by
    have q5 := hD5.out.2.2.trans ((hG6.out.2.2.trans ((hO7.out.2.2.trans (hb8.mono hO7.out.2.2.size)).mono hG6.out.2.2.size)).mono hD5.out.2.2.size)
    exact ⟨hM4.out.2.1.below q5, hM4.out.2.2.1.below q5⟩
  have hSO : Hid (SOw w2 w8 w8.heap.size (.slice C ss.length k) ss T (.slice RA RL.length rk) RL) := by
    have q7 : Below w7.heap.size w7 w8 := hb8
    have q6 := hO7.out.2.2.trans (q7.mono hO7.out.2.2.size)
    have q5 := hG6.out.2.2.trans (q6.mono hG6.out.2.2.size)
    have q4 := hD5.out.2.2.trans (q5.mono hD5.out.2.2.size)
    have q3 := hM4.out.2.2.2.trans (q4.mono hM4.out.2.2.2.size)
    refine ⟨hB8.out, Nat.le_refl _, hS3.out.2.2.own.below q3, fun s hs => ?_, hRo.own.mono hB7.out.size, fun x hx => ?_⟩
    · rcases List.mem_append.1 hs with h | h
      · exact ((hS3.out.2.2.each s h).below q3).setH ((hS3.out.1.each s h).below q3)
      · rw [hT] at h
        simp only [List.mem_cons, List.not_mem_nil, or_false] at h
        rcases h with rfl | rfl | rfl | rfl
        · exact (hM8.out.2.mono hS3.out.2.1.size).setH hM8.out.1
        · exact ((hD5.out.2.1.below q5).mono hB4.out.size).setH (hD5.out.1.below q5)
        · exact ((hG6.out.2.1.below q6).mono hB5.out.size).setH (hG6.out.1.below q6)
        · exact ((hO7.out.2.1.below q7).mono hB6.out.size).setH (hO7.out.1.below q7)
    · obtain ⟨h1, h2, h3⟩ := hRo.rowW x hx
      exact ⟨h1, h2, fun a ha => ⟨Nat.le_trans hB7.out.size (h3 a ha).1, (h3 a ha).2⟩⟩
  have hS8 : Hid (Sts w8 C ss (plnF q (X.map Itm.z) (Y.map Itm.z)) ∧ NewS w8 w2.heap.size C k ss) := by
    have q7 : Below w7.heap.size w7 w8 := hb8
    have q6 := hO7.out.2.2.trans (q7.mono hO7.out.2.2.size)
    have q5 := hG6.out.2.2.trans (q6.mono hG6.out.2.2.size)
    have q4 := hD5.out.2.2.trans (q5.mono hD5.out.2.2.size)
    have q3 := hM4.out.2.2.2.trans (q4.mono hM4.out.2.2.2.size)
    exact ⟨hS3.out.1.below q3, ⟨hS3.out.2.2.own.below q3, fun s hs => (hS3.out.2.2.each s hs).below q3, hS3.out.2.2.sep⟩⟩
  have hMz : Hid (M.map Itm.z = evlF q (X.map Itm.z) (Y.map Itm.z) ∧ w3.heap.size ≤ w8.heap.size) := ⟨hM4.out.1, by
    have q7 : Below w7.heap.size w7 w8 := hb8
    exact Nat.le_trans hM4.out.2.2.2.size (Nat.le_trans hD5.out.2.2.size (Nat.le_trans hG6.out.2.2.size (Nat.le_trans hO7.out.2.2.size q7.size)))⟩
  have hs3 : Hid (∀ s0 t, ss = s0 :: t → ∃ N, N ≤ w3.heap.size ∧ SetW w8 w2.heap.size N s0.A s0.l.length s0.cap ∧ ∀ s ∈ t, NewT N s.A s.l) := by
    intro s0 t ht
    have q7 : Below w7.heap.size w7 w8 := hb8
    have q6 := hO7.out.2.2.trans (q7.mono hO7.out.2.2.size)
    have q5 := hG6.out.2.2.trans (q6.mono hG6.out.2.2.size)
    have q4 := hD5.out.2.2.trans (q5.mono hD5.out.2.2.size)
    have q3 := hM4.out.2.2.2.trans (q4.mono hM4.out.2.2.2.size)
    have hNS := hS3.out.2.2
    have hL0 := hS3.out.1.each s0 (by rw [ht]; exact List.mem_cons_self ..)
    rw [ht] at hNS
    obtain ⟨N, hN1, hN2, hN3⟩ := first_set hNS hL0
    exact ⟨N, hN1, hN2.spl (Spl.of (lo := 0) (hi := 0) q3), hN3⟩
  have hssl : ss.length ≤ 9223372036854775807 := by have := hSO.out.own.small; unfold maxLen at this; omega
  clear hT hRw hRo hb8 hS3 hM4 hD5 hG6 hO7 hB4 hB5 hB6 hB7 hB8
  have hs8 : Hid (ss.length ≤ 1000) := by
    show _ ≤ _
    have h1 := congrArg List.length hS8.out.1.z
    rw [List.length_map] at h1
    by_cases hp : P = 0
    · have h0 : plnE q (X.map Itm.z) (Y.map Itm.z) = 0 := by rw [hPH.out, hp]
      have h2 := plnF_len h0
      have h3 := (errQ_wids (ahdE_parts (plnE_parts h0).1).1).2.1
      omega
    · have : plnF q (X.map Itm.z) (Y.map Itm.z) = [] := by unfold plnF; rw [if_neg (by rw [hPH.out]; exact hp)]
      rw [this] at h1
      simp at h1
      rw [h1]; simp
  by_cases hss : 0 < ss.length
  · have hssz : (0 : Int) < (ss.length : Int) := by omega
    obtain ⟨bb, cap, hv, e0⟩ := hSO.out.own.slotS hss
    injection hv with hv1 _ hv2
    subst hv1 hv2
    obtain ⟨s0, hs0⟩ : ∃ s, ss[0] = s := ⟨_, rfl⟩
    rw [hs0] at e0
    obtain ⟨t, ht⟩ : ∃ t, ss = s0 :: t := by
      cases ss with
      | nil => exact absurd hss (by simp)
      | cons y r => exact ⟨r, by simp at hs0; rw [hs0]⟩
    obtain ⟨N, hN1, hN2, hN3⟩ := hs3.out s0 t ht
    have hN3H : Hid ((∀ s ∈ t, NewT N s.A s.l) ∧ ss = s0 :: t ∧ N ≤ w3.heap.size) := ⟨hN3, ht, hN1⟩
    have hsp : Hid _ := spoilSet_any s0.A s0.l.length s0.cap w2.heap.size N w8 hN2 (Nat.le_trans hN1 hMz.out.2)
    clear hN1 hN2 hN3 hs0 ht
    go_wp2_with fail
    refine Calls.mono (show Calls _ _ _ _ _ from hsp.out) ?_
    rintro e w9 ⟨rfl, hq9⟩
    clear hsp e0
    have hS9 : Hid (SOw w2 w9 w8.heap.size (.slice (some ⟨bb, 0, none⟩) ss.length k) ss T (.slice RA RL.length rk) RL) := hSO.out.spl hq9
    by_cases hs1 : 1 < ss.length
    · have hs1z : (1 : Int) < (ss.length : Int) := by omega
      obtain ⟨n, hn⟩ : ∃ n, ss.length = n + 1 := ⟨ss.length - 1, by omega⟩
      have hnl : n < ss.length := by omega
      obtain ⟨b2, cap2, hv, e1⟩ := hS9.out.own.slotS hnl
      injection hv with hv1 _ hv2
      injection hv1 with hv1
      injection hv1 with hv1
      subst hv1
      clear hv2
      obtain ⟨x, hx⟩ : ∃ x, ss[n] = x := ⟨_, rfl⟩
      rw [hx] at e1
      have hxt : Hid (x ∈ ss ∧ NewT N x.A x.l) := by
        refine ⟨by rw [← hx]; exact List.getElem_mem hnl, ?_⟩
        have hxm : x ∈ t := by
          have h1 := hN3H.out.2.1
          subst h1
          cases n with
          | zero => omega
          | succ m => rw [← hx]; simp
        exact hN3H.out.1 x hxm
      have hlx : Hid (Lv w9 x.A x.cap x.l) := (hS8.out.1.each x hxt.out.1).outside hq9 hxt.out.2
      have hlm : Hid (Lv w9 MC mk M) := hM8.out.1.outside hq9 (hM8.out.2.new.mono hN3H.out.2.2)
      have hval : Hid (x.l.map Itm.z = M.map Itm.z) := by
        show _ = _
        rw [hMz.out.1]
        have hz := hS8.out.1.z
        have hp : P = 0 := by
          by_cases hp : P = 0
          · exact hp
          · have : plnF q (X.map Itm.z) (Y.map Itm.z) = [] := by unfold plnF; rw [if_neg (by rw [hPH.out]; exact hp)]
            rw [this] at hz
            have := congrArg List.length hz
            simp at this
            rw [this] at hss
            exact absurd hss (by simp)
        have h0 : plnE q (X.map Itm.z) (Y.map Itm.z) = 0 := by rw [hPH.out, hp]
        have h2 := plnF_len h0
        have h3 : ss.length = q.length := by
          have := congrArg List.length hz
          rw [List.length_map] at this
          omega
        unfold evlF
        rw [← hz, show q.length - 1 = n by omega, List.getD_eq_getElem?_getD, List.getElem?_map, List.getElem?_eq_getElem hnl, hx]
        rfl
      have hsa : Hid _ := sameV hlx.out hlm.out hval.out
      have hwn : wrap64 (n : Int) = (n : Int) := by have := hs8.out; unfold wrap64; omega
      have hi2 : (ss.length : Int) - 1 = (n : Int) := by omega
      have hnz : (n : Int) < (ss.length : Int) := by omega
      clear hxt hlx hlm hval hx hn
      go_wp2_with fail
      refine Calls.mono (show Calls _ _ _ _ _ from hsa.out) ?_
      rintro e w10 ⟨rfl, hg10⟩
      clear hsa e1 hwn hi2 hnz
      have hSt : Hid (SOw w2 w10 w8.heap.size (.slice (some ⟨bb, 0, none⟩) ss.length k) ss T (.slice RA RL.length rk) RL) := hS9.out.gr hg10
      clear hS9 hSO hS8 hM8 hMz hs3 hq9 hg10
      have hgX : Gr w10 (w10.alloc (.cells #[.slice MC M.length mk, .slice DC D.length dk, .slice GC G.length gk, .slice OC O.length ok] 23)) := (Gr.refl _).alloc _
      have hSX := hSt.out.gr hgX
      have hrow4 : RowG encS 1 (w10.alloc (.cells #[.slice MC M.length mk, .slice DC D.length dk, .slice GC G.length gk, .slice OC O.length ok] 23)) (some ⟨w10.heap.size, 0, none⟩) T := by
        rw [hTH.out]
        exact rowS4 rfl ⟨MC, mk, M⟩ ⟨DC, dk, D⟩ ⟨GC, gk, G⟩ ⟨OC, ok, O⟩ _
      have hT4 : T.length = 4 := by rw [hTH.out]; rfl
      have hap : Hid (ss.length + T.length ≤ maxLen ∧ (ss.length + T.length) * 24 ≤ 140737488355328) := by rw [hT4]; have := hs8.out; unfold maxLen; constructor <;> omega
      have hXH : Hid (OwnG encS 1 23 (w10.alloc (.cells #[.slice MC M.length mk, .slice DC D.length dk, .slice GC G.length gk, .slice OC O.length ok] 23)) w2.heap.size (.slice (some ⟨bb, 0, none⟩) ss.length k) ss ∧ RowG encS 1 (w10.alloc (.cells #[.slice MC M.length mk, .slice DC D.length dk, .slice GC G.length gk, .slice OC O.length ok] 23)) (some ⟨w10.heap.size, 0, none⟩) T ∧ w2.heap.size ≤ (w10.alloc (.cells #[.slice MC M.length mk, .slice DC D.length dk, .slice GC G.length gk, .slice OC O.length ok] 23)).heap.size) := ⟨hSX.own, hrow4, hSX.bel.size⟩
      have hSXH : Hid (SOw w2 (w10.alloc (.cells #[.slice MC M.length mk, .slice DC D.length dk, .slice GC G.length gk, .slice OC O.length ok] 23)) w8.heap.size (.slice (some ⟨bb, 0, none⟩) ss.length k) ss T (.slice RA RL.length rk) RL) := hSX
      have hx4 : Hid ((Value.slice (some ⟨w10.heap.size, 0, none⟩) 4 4) = .slice (some ⟨w10.heap.size, 0, none⟩) T.length 4) := by show _ = _; rw [hT4]
      clear hSX hrow4 hgX hT4
      go_wp2_with (at_builtin; refine wpList_append_sT _ rfl (.tmp 90) (.tmp 95) rfl w2.heap.size (.slice (some ⟨bb, 0, none⟩) ss.length k) ss T (some ⟨w10.heap.size, 0, none⟩) 4 rfl hx4.out hXH.out.1 hXH.out.2.1 (fun h => by cases h) hap.out.1 hap.out.2 hXH.out.2.2 ?_)
      intro v9 wA hownA hgA
      have hSA0 := hSXH.out.more hgA hownA
      obtain ⟨U, hU⟩ : ∃ U : List Sl, ss ++ T = U := ⟨_, rfl⟩
      rw [hU] at hSA0 hownA
      obtain ⟨UA, uk, hv9, _, _, _⟩ := OwnG.row encS_len hownA
      subst hv9
      have hSA : Hid (SOw w2 wA w8.heap.size (.slice UA U.length uk) U [] (.slice RA RL.length rk) RL) := hSA0
      have hUl : U.length ≤ 9223372036854775807 := by have := hSA.out.own.small; unfold maxLen at this; omega
      have hRl : RL.length ≤ 9223372036854775807 := by have := hSA.out.rowo.small; unfold maxLen at this; omega
      clear hSA0 hownA hgA hXH hSXH hx4 hU hap
      go_wp2
      go_loopw [98] (fun i wr => ∃ j : Nat, j ≤ U.length ∧ i = .int .i64 j ∧ Hid (SOw w2 wr w8.heap.size (.slice UA U.length uk) U [] (.slice RA RL.length rk) RL)) (fun i _ => U.length - (intOf i).toNat)
      case atStart => exact ⟨0, Nat.zero_le _, rfl, hSA⟩
      case round =>
        rename World => wr
        obtain ⟨j, hj, rfl, hR⟩ := hrel
        clear hSA
        by_cases hlt : j < U.length
        · have hltz : (j : Int) < (U.length : Int) := by omega
          obtain ⟨bb, cap, hv, e0⟩ := hR.out.own.slotS hlt
          injection hv with hv1 _ hv2
          subst hv1 hv2
          have hsp : Hid _ := spoilSet_any U[j].A U[j].l.length U[j].cap w2.heap.size w8.heap.size wr (hR.out.sets U[j] (by rw [List.append_nil]; exact List.getElem_mem hlt)) hR.out.top
          go_wp2_with fail
          refine Calls.mono (show Calls _ _ _ _ _ from hsp.out) ?_
          rintro e wq ⟨rfl, hq1⟩
          clear hsp e0
          have hR2 : Hid (SOw w2 wq w8.heap.size (.slice (some ⟨bb, 0, none⟩) U.length uk) U [] (.slice RA RL.length rk) RL) := hR.out.spl hq1
          go_wp2
          go_roundw
          case rel => exact ⟨j + 1, by omega, by go_num, hR2⟩
          case measure => simp [intOf]; omega
        · have hltz : ¬ (j : Int) < (U.length : Int) := by omega
          go_wp2
          go_loopw [107] (fun i wr => ∃ j : Nat, j ≤ RL.length ∧ i = .int .i64 j ∧ Hid (SOw w2 wr w8.heap.size (.slice UA U.length uk) U [] (.slice RA RL.length rk) RL)) (fun i _ => RL.length - (intOf i).toNat)
          case atStart => exact ⟨0, Nat.zero_le _, rfl, hR⟩
          case round =>
            rename World => wi
            clear hR
            obtain ⟨i, hi, rfl, hR⟩ := hrel
            by_cases hil : i < RL.length
            · have hilz : (i : Int) < (RL.length : Int) := by omega
              obtain ⟨bb, cap, hv, e0⟩ := hR.out.rowo.slotW hil
              injection hv with hv1 _ hv2
              subst hv1 hv2
              have hsp : Hid _ := spoilI_any RL[i].p RL[i].r.length RL[i].c 8 w2.heap.size w8.heap.size wi (hR.out.rows RL[i] (List.getElem_mem hil))
              go_wp2_with fail
              refine Calls.mono (show Calls _ _ _ _ _ from hsp.out) ?_
              rintro e wq ⟨rfl, hq1⟩
              clear hsp e0
              have hR2 : Hid (SOw w2 wq w8.heap.size (.slice UA U.length uk) U [] (.slice (some ⟨bb, 0, none⟩) RL.length rk) RL) := hR.out.spl hq1
              go_wp2
              go_roundw
              case rel => exact ⟨i + 1, by omega, by go_num, hR2⟩
              case measure => simp [intOf]; omega
            · have hilz : ¬ (i : Int) < (RL.length : Int) := by omega
              have hbz : Hid (Below w2.heap.size w2 wi) := hR.out.bel
              have hbwz : Hid (Below w.heap.size w wi) := hbw2.out.trans (hbz.out.mono hbw2.out.size)
              have hsa : Hid _ := sameV (hXY.out.2.2.1.below hbz.out) (hH.out.2.1.below hbwz.out) hXY.out.1
              go_wp2_with fail
              refine Calls.mono (show Calls _ _ _ _ _ from hsa.out) ?_
              rintro e wy ⟨rfl, hgy⟩
              clear hsa
              have hsb : Hid _ := sameV ((hXY.out.2.2.2.below hbz.out).gr hgy) ((hH.out.2.2.1.below hbwz.out).gr hgy) hXY.out.2.1
              go_wp2_with fail
              refine Calls.mono (show Calls _ _ _ _ _ from hsb.out) ?_
              rintro e wz ⟨rfl, hgz⟩
              clear hsb
              have hfin : Hid (Below w.heap.size w wz) := hbwz.out.trans ((hgy.trans hgz).below.mono hbwz.out.size)
              go_wp2
              go_ret
              exact ⟨rfl, hfin.out⟩
    · have hs1z : ¬ (1 : Int) < (ss.length : Int) := by omega
      have hSt : Hid (SOw w2 w9 w8.heap.size (.slice (some ⟨bb, 0, none⟩) ss.length k) ss T (.slice RA RL.length rk) RL) := hS9.out
      clear hS9 hSO hS8 hM8 hMz hs3 hq9
      have hgX : Gr w9 (w9.alloc (.cells #[.slice MC M.length mk, .slice DC D.length dk, .slice GC G.length gk, .slice OC O.length ok] 23)) := (Gr.refl _).alloc _
      have hSX := hSt.out.gr hgX
      have hrow4 : RowG encS 1 (w9.alloc (.cells #[.slice MC M.length mk, .slice DC D.length dk, .slice GC G.length gk, .slice OC O.length ok] 23)) (some ⟨w9.heap.size, 0, none⟩) T := by
        rw [hTH.out]
        exact rowS4 rfl ⟨MC, mk, M⟩ ⟨DC, dk, D⟩ ⟨GC, gk, G⟩ ⟨OC, ok, O⟩ _
      have hT4 : T.length = 4 := by rw [hTH.out]; rfl
      have hap : Hid (ss.length + T.length ≤ maxLen ∧ (ss.length + T.length) * 24 ≤ 140737488355328) := by rw [hT4]; have := hs8.out; unfold maxLen; constructor <;> omega
      have hXH : Hid (OwnG encS 1 23 (w9.alloc (.cells #[.slice MC M.length mk, .slice DC D.length dk, .slice GC G.length gk, .slice OC O.length ok] 23)) w2.heap.size (.slice (some ⟨bb, 0, none⟩) ss.length k) ss ∧ RowG encS 1 (w9.alloc (.cells #[.slice MC M.length mk, .slice DC D.length dk, .slice GC G.length gk, .slice OC O.length ok] 23)) (some ⟨w9.heap.size, 0, none⟩) T ∧ w2.heap.size ≤ (w9.alloc (.cells #[.slice MC M.length mk, .slice DC D.length dk, .slice GC G.length gk, .slice OC O.length ok] 23)).heap.size) := ⟨hSX.own, hrow4, hSX.bel.size⟩
      have hSXH : Hid (SOw w2 (w9.alloc (.cells #[.slice MC M.length mk, .slice DC D.length dk, .slice GC G.length gk, .slice OC O.length ok] 23)) w8.heap.size (.slice (some ⟨bb, 0, none⟩) ss.length k) ss T (.slice RA RL.length rk) RL) := hSX
      have hx4 : Hid ((Value.slice (some ⟨w9.heap.size, 0, none⟩) 4 4) = .slice (some ⟨w9.heap.size, 0, none⟩) T.length 4) := by show _ = _; rw [hT4]
      clear hSX hrow4 hgX hT4
      go_wp2_with (at_builtin; refine wpList_append_sT _ rfl (.tmp 90) (.tmp 95) rfl w2.heap.size (.slice (some ⟨bb, 0, none⟩) ss.length k) ss T (some ⟨w9.heap.size, 0, none⟩) 4 rfl hx4.out hXH.out.1 hXH.out.2.1 (fun h => by cases h) hap.out.1 hap.out.2 hXH.out.2.2 ?_)
      intro v9 wA hownA hgA
      have hSA0 := hSXH.out.more hgA hownA
      obtain ⟨U, hU⟩ : ∃ U : List Sl, ss ++ T = U := ⟨_, rfl⟩
      rw [hU] at hSA0 hownA
      obtain ⟨UA, uk, hv9, _, _, _⟩ := OwnG.row encS_len hownA
      subst hv9
      have hSA : Hid (SOw w2 wA w8.heap.size (.slice UA U.length uk) U [] (.slice RA RL.length rk) RL) := hSA0
      have hUl : U.length ≤ 9223372036854775807 := by have := hSA.out.own.small; unfold maxLen at this; omega
      have hRl : RL.length ≤ 9223372036854775807 := by have := hSA.out.rowo.small; unfold maxLen at this; omega
      clear hSA0 hownA hgA hXH hSXH hx4 hU hap
      go_wp2
      go_loopw [98] (fun i wr => ∃ j : Nat, j ≤ U.length ∧ i = .int .i64 j ∧ Hid (SOw w2 wr w8.heap.size (.slice UA U.length uk) U [] (.slice RA RL.length rk) RL)) (fun i _ => U.length - (intOf i).toNat)
      case atStart => exact ⟨0, Nat.zero_le _, rfl, hSA⟩
      case round =>
        rename World => wr
        obtain ⟨j, hj, rfl, hR⟩ := hrel
        clear hSA
        by_cases hlt : j < U.length
        · have hltz : (j : Int) < (U.length : Int) := by omega
          obtain ⟨bb, cap, hv, e0⟩ := hR.out.own.slotS hlt
          injection hv with hv1 _ hv2
          subst hv1 hv2
          have hsp : Hid _ := spoilSet_any U[j].A U[j].l.length U[j].cap w2.heap.size w8.heap.size wr (hR.out.sets U[j] (by rw [List.append_nil]; exact List.getElem_mem hlt)) hR.out.top
          go_wp2_with fail
          refine Calls.mono (show Calls _ _ _ _ _ from hsp.out) ?_
          rintro e wq ⟨rfl, hq1⟩
          clear hsp e0
          have hR2 : Hid (SOw w2 wq w8.heap.size (.slice (some ⟨bb, 0, none⟩) U.length uk) U [] (.slice RA RL.length rk) RL) := hR.out.spl hq1
          go_wp2
          go_roundw
          case rel => exact ⟨j + 1, by omega, by go_num, hR2⟩
          case measure => simp [intOf]; omega
        · have hltz : ¬ (j : Int) < (U.length : Int) := by omega
          go_wp2
          go_loopw [107] (fun i wr => ∃ j : Nat, j ≤ RL.length ∧ i = .int .i64 j ∧ Hid (SOw w2 wr w8.heap.size (.slice UA U.length uk) U [] (.slice RA RL.length rk) RL)) (fun i _ => RL.length - (intOf i).toNat)
          case atStart => exact ⟨0, Nat.zero_le _, rfl, hR⟩
          case round =>
            rename World => wi
            clear hR
            obtain ⟨i, hi, rfl, hR⟩ := hrel
            by_cases hil : i < RL.length
            · have hilz : (i : Int) < (RL.length : Int) := by omega
              obtain ⟨bb, cap, hv, e0⟩ := hR.out.rowo.slotW hil
              injection hv with hv1 _ hv2
              subst hv1 hv2
              have hsp : Hid _ := spoilI_any RL[i].p RL[i].r.length RL[i].c 8 w2.heap.size w8.heap.size wi (hR.out.rows RL[i] (List.getElem_mem hil))
              go_wp2_with fail
              refine Calls.mono (show Calls _ _ _ _ _ from hsp.out) ?_
              rintro e wq ⟨rfl, hq1⟩
              clear hsp e0
              have hR2 : Hid (SOw w2 wq w8.heap.size (.slice UA U.length uk) U [] (.slice (some ⟨bb, 0, none⟩) RL.length rk) RL) := hR.out.spl hq1
              go_wp2
              go_roundw
              case rel => exact ⟨i + 1, by omega, by go_num, hR2⟩
              case measure => simp [intOf]; omega
            · have hilz : ¬ (i : Int) < (RL.length : Int) := by omega
              have hbz : Hid (Below w2.heap.size w2 wi) := hR.out.bel
              have hbwz : Hid (Below w.heap.size w wi) := hbw2.out.trans (hbz.out.mono hbw2.out.size)
              have hsa : Hid _ := sameV (hXY.out.2.2.1.below hbz.out) (hH.out.2.1.below hbwz.out) hXY.out.1
              go_wp2_with fail
              refine Calls.mono (show Calls _ _ _ _ _ from hsa.out) ?_
              rintro e wy ⟨rfl, hgy⟩
              clear hsa
              have hsb : Hid _ := sameV ((hXY.out.2.2.2.below hbz.out).gr hgy) ((hH.out.2.2.1.below hbwz.out).gr hgy) hXY.out.2.1
              go_wp2_with fail
              refine Calls.mono (show Calls _ _ _ _ _ from hsb.out) ?_
              rintro e wz ⟨rfl, hgz⟩
              clear hsb
              have hfin : Hid (Below w.heap.size w wz) := hbwz.out.trans ((hgy.trans hgz).below.mono hbwz.out.size)
              go_wp2
              go_ret
              exact ⟨rfl, hfin.out⟩
  · have hssz : ¬ (0 : Int) < (ss.length : Int) := by omega
    have hSt : Hid (SOw w2 w8 w8.heap.size (.slice C ss.length k) ss T (.slice RA RL.length rk) RL) := hSO.out
    clear hSO hS8 hM8 hMz hs3
    have hgX : Gr w8 (w8.alloc (.cells #[.slice MC M.length mk, .slice DC D.length dk, .slice GC G.length gk, .slice OC O.length ok] 23)) := (Gr.refl _).alloc _
    have hSX := hSt.out.gr hgX
    have hrow4 : RowG encS 1 (w8.alloc (.cells #[.slice MC M.length mk, .slice DC D.length dk, .slice GC G.length gk, .slice OC O.length ok] 23)) (some ⟨w8.heap.size, 0, none⟩) T := by
      rw [hTH.out]
      exact rowS4 rfl ⟨MC, mk, M⟩ ⟨DC, dk, D⟩ ⟨GC, gk, G⟩ ⟨OC, ok, O⟩ _
    have hT4 : T.length = 4 := by rw [hTH.out]; rfl
    have hap : Hid (ss.length + T.length ≤ maxLen ∧ (ss.length + T.length) * 24 ≤ 140737488355328) := by rw [hT4]; have := hs8.out; unfold maxLen; constructor <;> omega
    have hXH : Hid (OwnG encS 1 23 (w8.alloc (.cells #[.slice MC M.length mk, .slice DC D.length dk, .slice GC G.length gk, .slice OC O.length ok] 23)) w2.heap.size (.slice C ss.length k) ss ∧ RowG encS 1 (w8.alloc (.cells #[.slice MC M.length mk, .slice DC D.length dk, .slice GC G.length gk, .slice OC O.length ok] 23)) (some ⟨w8.heap.size, 0, none⟩) T ∧ w2.heap.size ≤ (w8.alloc (.cells #[.slice MC M.length mk, .slice DC D.length dk, .slice GC G.length gk, .slice OC O.length ok] 23)).heap.size) := ⟨hSX.own, hrow4, hSX.bel.size⟩
    have hSXH : Hid (SOw w2 (w8.alloc (.cells #[.slice MC M.length mk, .slice DC D.length dk, .slice GC G.length gk, .slice OC O.length ok] 23)) w8.heap.size (.slice C ss.length k) ss T (.slice RA RL.length rk) RL) := hSX
    have hx4 : Hid ((Value.slice (some ⟨w8.heap.size, 0, none⟩) 4 4) = .slice (some ⟨w8.heap.size, 0, none⟩) T.length 4) := by show _ = _; rw [hT4]
    clear hSX hrow4 hgX hT4
    go_wp2_with (at_builtin; refine wpList_append_sT _ rfl (.tmp 90) (.tmp 95) rfl w2.heap.size (.slice C ss.length k) ss T (some ⟨w8.heap.size, 0, none⟩) 4 rfl hx4.out hXH.out.1 hXH.out.2.1 (fun h => by cases h) hap.out.1 hap.out.2 hXH.out.2.2 ?_)
    intro v9 wA hownA hgA
    have hSA0 := hSXH.out.more hgA hownA
    obtain ⟨U, hU⟩ : ∃ U : List Sl, ss ++ T = U := ⟨_, rfl⟩
    rw [hU] at hSA0 hownA
    obtain ⟨UA, uk, hv9, _, _, _⟩ := OwnG.row encS_len hownA
    subst hv9
    have hSA : Hid (SOw w2 wA w8.heap.size (.slice UA U.length uk) U [] (.slice RA RL.length rk) RL) := hSA0
    have hUl : U.length ≤ 9223372036854775807 := by have := hSA.out.own.small; unfold maxLen at this; omega
    have hRl : RL.length ≤ 9223372036854775807 := by have := hSA.out.rowo.small; unfold maxLen at this; omega
    clear hSA0 hownA hgA hXH hSXH hx4 hU hap
    go_wp2
    go_loopw [98] (fun i wr => ∃ j : Nat, j ≤ U.length ∧ i = .int .i64 j ∧ Hid (SOw w2 wr w8.heap.size (.slice UA U.length uk) U [] (.slice RA RL.length rk) RL)) (fun i _ => U.length - (intOf i).toNat)
    case atStart => exact ⟨0, Nat.zero_le _, rfl, hSA⟩
    case round =>
      rename World => wr
      obtain ⟨j, hj, rfl, hR⟩ := hrel
      clear hSA
      by_cases hlt : j < U.length
      · have hltz : (j : Int) < (U.length : Int) := by omega
        obtain ⟨bb, cap, hv, e0⟩ := hR.out.own.slotS hlt
        injection hv with hv1 _ hv2
        subst hv1 hv2
        have hsp : Hid _ := spoilSet_any U[j].A U[j].l.length U[j].cap w2.heap.size w8.heap.size wr (hR.out.sets U[j] (by rw [List.append_nil]; exact List.getElem_mem hlt)) hR.out.top
        go_wp2_with fail
        refine Calls.mono (show Calls _ _ _ _ _ from hsp.out) ?_
        rintro e wq ⟨rfl, hq1⟩
        clear hsp e0
        have hR2 : Hid (SOw w2 wq w8.heap.size (.slice (some ⟨bb, 0, none⟩) U.length uk) U [] (.slice RA RL.length rk) RL) := hR.out.spl hq1
        go_wp2
        go_roundw
        case rel => exact ⟨j + 1, by omega, by go_num, hR2⟩
        case measure => simp [intOf]; omega
      · have hltz : ¬ (j : Int) < (U.length : Int) := by omega
        go_wp2
        go_loopw [107] (fun i wr => ∃ j : Nat, j ≤ RL.length ∧ i = .int .i64 j ∧ Hid (SOw w2 wr w8.heap.size (.slice UA U.length uk) U [] (.slice RA RL.length rk) RL)) (fun i _ => RL.length - (intOf i).toNat)
        case atStart => exact ⟨0, Nat.zero_le _, rfl, hR⟩
        case round =>
          rename World => wi
          clear hR
          obtain ⟨i, hi, rfl, hR⟩ := hrel
          by_cases hil : i < RL.length
          · have hilz : (i : Int) < (RL.length : Int) := by omega
            obtain ⟨bb, cap, hv, e0⟩ := hR.out.rowo.slotW hil
            injection hv with hv1 _ hv2
            subst hv1 hv2
            have hsp : Hid _ := spoilI_any RL[i].p RL[i].r.length RL[i].c 8 w2.heap.size w8.heap.size wi (hR.out.rows RL[i] (List.getElem_mem hil))
            go_wp2_with fail
            refine Calls.mono (show Calls _ _ _ _ _ from hsp.out) ?_
            rintro e wq ⟨rfl, hq1⟩
            clear hsp e0
            have hR2 : Hid (SOw w2 wq w8.heap.size (.slice UA U.length uk) U [] (.slice (some ⟨bb, 0, none⟩) RL.length rk) RL) := hR.out.spl hq1
            go_wp2
            go_roundw
            case rel => exact ⟨i + 1, by omega, by go_num, hR2⟩
            case measure => simp [intOf]; omega
          · have hilz : ¬ (i : Int) < (RL.length : Int) := by omega
            have hbz : Hid (Below w2.heap.size w2 wi) := hR.out.bel
            have hbwz : Hid (Below w.heap.size w wi) := hbw2.out.trans (hbz.out.mono hbw2.out.size)
            have hsa : Hid _ := sameV (hXY.out.2.2.1.below hbz.out) (hH.out.2.1.below hbwz.out) hXY.out.1
            go_wp2_with fail
            refine Calls.mono (show Calls _ _ _ _ _ from hsa.out) ?_
            rintro e wy ⟨rfl, hgy⟩
            clear hsa
            have hsb : Hid _ := sameV ((hXY.out.2.2.2.below hbz.out).gr hgy) ((hH.out.2.2.1.below hbwz.out).gr hgy) hXY.out.2.1
            go_wp2_with fail
            refine Calls.mono (show Calls _ _ _ _ _ from hsb.out) ?_
            rintro e wz ⟨rfl, hgz⟩
            clear hsb
            have hfin : Hid (Below w.heap.size w wz) := hbwz.out.trans ((hgy.trans hgz).below.mono hbwz.out.size)
            go_wp2
            go_ret
            exact ⟨rfl, hfin.out⟩

end Go.Proofs.Ytgmdjioobidadaa

namespace Go.Proofs.Ytgmdjioobidadaa
open Go.ChangeShapes Go.WideShapes Go.ChangeAt Go.RowKit Go.Deep

variable {H : Type} {enc : TypeId × Value → H} {W : World}

theorem list7 {cs : List Value} (h : cs.length = 7) : ∃ a b c d e f g, cs = [a, b, c, d, e, f, g] := by
  match cs, h with
  | [a, b, c, d, e, f, g], _ => exact ⟨a, b, c, d, e, f, g, rfl⟩

set_option maxRecDepth 100000 in
theorem open_step {fuel : Nat} {cs : List Value} {x : DataW H × List MemPlace} (hl : cs.length = 7) (h : DataW.trod enc Try.prog W 0 (fun _ => true) true fuel 43 cs = some x) : ∃ y : Stp, cs = encQ y ∧ RowI W y.p y.l ∧ y.l.length ≤ maxLen ∧ (y.p = none → y.n = 0) := by
  obtain ⟨v0, v1, v2, v3, v4, v5, v6, rfl⟩ := list7 hl
  obtain ⟨xs, n, _, _, _, hxl, hf⟩ := DataW.trod_struct Try.underlying43 h
  have c1 : Try.prog.cellsOf 3 = 1 := by kernel_rfl
  have c2 : Try.prog.cellsOf 24 = 1 := by kernel_rfl
  have hx7 : xs.length = 7 := hxl
  match xs, hx7 with
  | [y0, y1, y2, y3, y4, y5, y6], _ =>
    have g0 := hf 0 _ rfl
    have g1 := hf 1 _ rfl
    have g2 := hf 2 _ rfl
    have g3 := hf 3 _ rfl
    have g4 := hf 4 _ rfl
    have g5 := hf 5 _ rfl
    have g6 := hf 6 _ rfl
    simp [c1, c2] at g0 g1 g2 g3 g4 g5 g6
    obtain ⟨z0, e0, _⟩ := DataW.trod_int Try.underlying3 g0
    obtain ⟨z1, e1, _⟩ := DataW.trod_int Try.underlying3 g1
    obtain ⟨z2, e2, _⟩ := DataW.trod_int Try.underlying3 g2
    obtain ⟨z3, e3, _⟩ := DataW.trod_int Try.underlying3 g3
    obtain ⟨z4, e4, _⟩ := DataW.trod_int Try.underlying3 g4
    obtain ⟨z5, e5, _⟩ := DataW.trod_int Try.underlying3 g5
    obtain ⟨A, cap, l, e6, hA, hr, hm⟩ := open_row g6
    simp only [List.cons.injEq, and_true] at e0 e1 e2 e3 e4 e5 e6
    exact ⟨⟨z0, z1, z2, z3, z4, z5, A, cap, l⟩, by rw [e0, e1, e2, e3, e4, e5, e6]; rfl, hr, hm, hA⟩

set_option maxRecDepth 100000 in
theorem open_steps {r : Reach} {b0 : Nat} {v : Value} {d : DataW H} {p : List MemPlace} (hv : Value.okWide Try.prog W r b0 22 v) (h : DataW.Trod enc Try.prog W 0 (fun _ => true) true 22 v d p) :
    ∃ A cap l, v = .slice A (l : List Stp).length cap ∧ (A = none → cap = 0) ∧ Stps W A l ∧ l.length ≤ maxLen := by
  obtain ⟨aL, lenL, capL, rfl⟩ := okWide_slice Try.underlying22 hv
  obtain ⟨fuel, hf⟩ := h
  rcases open_slice Try.underlying22 hf with ⟨hcs, _⟩ | ⟨a, len, cap, m, n, D, Pl, hcs, _, hl, hm, hmm, hx, hi⟩
  · simp [Value.cells] at hcs
    obtain ⟨rfl, rfl, rfl⟩ := hcs
    exact ⟨none, 0, [], rfl, by simp, ⟨Or.inl rfl, fun x hx => by cases hx⟩, by simp⟩
  · simp [Value.cells] at hcs
    obtain ⟨rfl, rfl, rfl⟩ := hcs
    have c2 : Try.prog.cellsOf 43 = 7 := by kernel_rfl
    have hlm : lenL ≤ m := by rw [hmm]; simp; exact hl
    haveI : Inhabited Stp := ⟨⟨0, 0, 0, 0, 0, 0, none, 0, []⟩⟩
    obtain ⟨Z, hZ⟩ := choose_lt (α := Stp) (n := lenL) (p := fun i z => (∀ j, j < 7 → W.cell? (a.add (i * 7 + j)) = (encQ z)[j]?) ∧ RowI W z.p z.l ∧ z.l.length ≤ maxLen ∧ (z.p = none → z.n = 0)) (fun i hi' => by
      obtain ⟨cs', h1, h2⟩ := hi i (by omega)
      rw [c2] at h1
      obtain ⟨_, hlen, hcell⟩ := World.cells?_some h1
      obtain ⟨y, hy, hy2⟩ := open_step hlen h2
      refine ⟨y, fun j hj => ?_, hy2⟩
      have := hcell j (by omega)
      rw [add_add] at this
      rw [this, ← hy, List.getElem?_eq_getElem (by omega)])
    refine ⟨some a, capL, (List.range lenL).map Z, by simp, (fun h => by cases h), ⟨?_, fun x hx => ?_⟩, by simp; omega⟩
    · by_cases h0 : lenL = 0
      · exact Or.inl (by rw [h0]; rfl)
      · have hc0 := (hZ 0 (by omega)).1 0 (by omega)
        obtain ⟨b, off, spot⟩ := a
        have hc1 : W.cell? (Addr.add ⟨b, off, spot⟩ (0 * 7 + 0)) = some (.int .i64 (Z 0).k) := hc0
        have hspot : spot = none := by simpa [Addr.add] using World.cell?_spot hc1
        subst hspot
        refine Or.inr ⟨b, off, rfl, ?_, fun j hj i hi5 => ?_⟩
        · have := World.block_lt_of_cell? W _ hc1
          simpa [Addr.add_lit] using this
        · have hj' : j < lenL := by simpa using hj
          have := (hZ j hj').1 i hi5
          simp only [Addr.add_lit, ← Nat.add_assoc] at this
          simpa using this
    · obtain ⟨i, hi', rfl⟩ := List.mem_map.1 hx
      exact (hZ i (by simpa using hi')).2

end Go.Proofs.Ytgmdjioobidadaa
