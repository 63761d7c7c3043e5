/-
  viewref.Sets: the sets of all steps.
  viewref.Pool: a view as the document has it: its query asked anew each time.
  Meals in memory; what comes to a view's answer.
-/
import Derived.Test.YtoanlaedkpkpnaaGreatDoorM28
import Derived.Test.YtoanlaedkpkpnaaGreatDoorM15
import Derived.Test.YtoanlaedkpkpnaaGreatDoorM19
import Derived.Test.YtoanlaedkpkpnaaGreatDoorM24
import Derived.Test.YtoanlaedkpkpnaaGreatDoorM22
namespace Go.Proofs.YtoanlaedkpkpnaaGreatDoor
open Go.RowKit Go.Sort Go.Maps

theorem par_ab {s : Stp} {ah : List Int} (h : widW s ah ≠ 0) (hk : s.k ≠ 1) : inB s.a 0 ((ah.length : Int) - 1) = true ∧ inB s.b 0 ((ah.length : Int) - 1) = true := by
  have one : ∀ {c : Int}, inB s.a 0 ((ah.length : Int) - 1) = true → c = 0 → s.b = c → inB s.b 0 ((ah.length : Int) - 1) = true := fun h1 h2 h3 => by
    simp only [inB, Bool.and_eq_true, decide_eq_true_eq] at h1 ⊢
    omega
  rcases kinds h with k | k | k | k | k | k | k | k | k
  · exact absurd k hk
  · have h1 := (par2 h k).1
    rw [wid2 k] at h
    obtain ⟨h2, _⟩ := ite_parts h
    simp only [Bool.and_eq_true, decide_eq_true_eq] at h2
    exact ⟨h1, one h1 rfl h2.1.1.1.1.2⟩
  · have h1 := (par3 h k).1
    rw [wid3 k] at h
    obtain ⟨h2, _⟩ := ite_parts h
    simp only [Bool.and_eq_true, decide_eq_true_eq] at h2
    exact ⟨h1, one h1 rfl (by simp_all)⟩
  · exact ⟨(par4 h k).1, (par4 h k).2.1⟩
  · exact ⟨(par5 h k).1, (par5 h k).2.1⟩
  · exact ⟨(par6 h k).1, (par6 h k).2.1⟩
  · have h1 := (par7 h k).1
    rw [wid7 k] at h
    obtain ⟨h2, _⟩ := ite_parts h
    simp only [Bool.and_eq_true, decide_eq_true_eq] at h2
    exact ⟨h1, one h1 rfl h2.1.1.1.1.2⟩
  · have h1 := (par8 h k).1
    rw [wid8 k] at h
    obtain ⟨h2, _⟩ := ite_parts h
    simp only [Bool.and_eq_true, decide_eq_true_eq] at h2
    exact ⟨h1, one h1 rfl h2.1.1.1.1.2⟩
  · have h1 := (par9 h k).1
    rw [wid9 k] at h
    obtain ⟨h2, _⟩ := ite_parts h
    simp only [Bool.and_eq_true, decide_eq_true_eq] at h2
    exact ⟨h1, one h1 rfl (by simp_all)⟩
theorem set_wd {l : List Itm} (e : errZ (l.map Itm.z) = 0) : Wd l := WdZ.wd (wdz_ok (by have := (set_ok e).1; omega) (set_ok e).2)

set_option maxRecDepth 100000 in
set_option maxHeartbeats 2000000 in
theorem rsets_any (q : List Stp) (QA : Option Addr) (cq : Nat) (a b : List Itm) (A B : Option Addr) (ca cb : Nat) (w : World) (hl : q.length ≤ maxLen) (hq : Stps w QA q) (ha : Lv w A ca a) (hb : Lv w B cb b) (ht : Tens w) :
    Calls Tryz.prog 21 #[.slice QA q.length cq, .slice A a.length ca, .slice B b.length cb] w fun e w' => ∃ (ss : List Sl) (C : Option Addr) (k : Nat), e = .returned (.tuple #[.slice C ss.length k, .int .i64 (plnE q (a.map Itm.z) (b.map Itm.z))]) ∧ Sts w' C ss (plnF q (a.map Itm.z) (b.map Itm.z)) ∧ Below w.heap.size w w' := by
  have mixed : Tryz.prog.follows .mixedOrders = true := by kernel_rfl
  obtain ⟨E, hE⟩ : ∃ E, ahdE q (a.map Itm.z) (b.map Itm.z) = E := ⟨_, rfl⟩
  obtain ⟨P, hP⟩ : ∃ P, plnE q (a.map Itm.z) (b.map Itm.z) = P := ⟨_, rfl⟩
  have hC0 := rbased_any q QA cq a b A B ca cb w hl hq ha hb
  rw [hE] at hC0
  have hC : Hid _ := hC0
  have hH : Hid (ahdE q (a.map Itm.z) (b.map Itm.z) = E ∧ plnE q (a.map Itm.z) (b.map Itm.z) = P) := ⟨hE, hP⟩
  have hV : Hid (Stps w QA q ∧ Lv w A ca a ∧ Lv w B cb b ∧ Tens w) := ⟨hq, ha, hb, ht⟩
  rw [hP]
  clear hC0 hq ha hb ht hE hP hl
  go_enter Tryz.func21, Tryz.ntmps21
  go_wp2_with fail
  refine Calls.mono (show Calls _ _ _ _ _ from hC.out) ?_
  rintro e w1 ⟨rfl, hb0⟩
  have hbW : Hid (Below w.heap.size w w1 ∧ Stps w1 QA q ∧ Lv w1 A ca a ∧ Lv w1 B cb b ∧ Tens w1) := ⟨hb0, hV.out.1.below hb0, hV.out.2.1.below hb0, hV.out.2.2.1.below hb0, hV.out.2.2.2.below hb0⟩
  clear hb0 hC hV
  cases h0 : (E != 0)
  rotate_left
  focus
    have hfin : Hid (E = P ∧ plnF q (a.map Itm.z) (b.map Itm.z) = []) := by
      have hn : ¬ E = 0 := by simpa using h0
      have hp : P = E := by rw [← hH.out.2]; unfold plnE; rw [if_neg (by rw [hH.out.1]; exact hn)]; exact hH.out.1
      refine ⟨hp.symm, ?_⟩
      unfold plnF; rw [if_neg (by rw [hH.out.2, hp]; exact hn)]
    go_wp2
    go_ret2
    exact ⟨[], none, 0, by rw [← hfin.out.1]; rfl, ⟨Or.inl rfl, fun s hs => (by cases hs), by rw [hfin.out.2]; rfl⟩, hbW.out.1⟩
  have hE0 : ahdE q (a.map Itm.z) (b.map Itm.z) = 0 := by rw [hH.out.1]; simpa using h0
  have hQ : Hid (ahdE q (a.map Itm.z) (b.map Itm.z) = 0 ∧ P = allE (a.map Itm.z) (b.map Itm.z) q []) := ⟨hE0, by rw [← hH.out.2]; unfold plnE; rw [if_pos hE0]⟩
  have h8 : q.length ≤ 8 := (errQ_wids (ahdE_parts hE0).1).2.1
  clear hE0
  go_wp2
  go_loopw [9, 10] (fun u i wr => ∃ (j : Nat) (ss : List Sl) (S : List (List Zit)) (ah : List Int), j ≤ q.length ∧ i = .int .i64 j ∧ Hid (AInv w1 wr (a.map Itm.z) (b.map Itm.z) q j u ss S ah)) (fun _ i _ => q.length - (intOf i).toNat)
  case atStart => exact ⟨0, [], [], [], Nat.zero_le _, rfl, show AInv _ _ _ _ _ _ _ _ _ _ from ⟨OwnG.nil _ _ _ _ _, fun s hs => (by cases hs), rfl, rfl, Ahd.nil, by rw [List.drop_zero]; exact (errQ_wids (ahdE_parts hQ.out.1).1).2.2, by rw [List.drop_zero], by rw [List.drop_zero], Below.refl _ _⟩⟩
  case round =>
    obtain ⟨j, ss, S, ah, hj, rfl, hR⟩ := hrel
    obtain ⟨GA, gc, hu, hgn, hrow, _⟩ := hR.out.own.row encS_len
    have hrwH : Hid (RowG encS 1 wr GA ss) := hrow
    subst hu
    clear hrow
    by_cases hlt : j < q.length
    · have hltz : (j : Int) < (q.length : Int) := by omega
      have hI : Hid (Stps wr QA q) := hbW.out.2.1.below hR.out.bel
      obtain ⟨qb, qo, rfl, hb, hcs⟩ := hI.out.at hlt
      obtain ⟨s, hs⟩ : ∃ s, q[j] = s := ⟨_, rfl⟩
      have hsm : Hid (s ∈ q) := by show _ ∈ _; rw [← hs]; exact List.getElem_mem hlt
      have hdr : Hid (q.drop j = s :: q.drop (j + 1)) := by show _ = _; rw [← hs]; exact List.drop_eq_getElem_cons hlt
      rw [hs] at hcs
      have m0 : wr.cell? ⟨qb, qo + j * 7, none⟩ = some (.int .i64 s.k) := hcs 0 (by omega)
      have m1 : wr.cell? ⟨qb, qo + j * 7 + 1, none⟩ = some (.int .i64 s.a) := hcs 1 (by omega)
      have m2 : wr.cell? ⟨qb, qo + j * 7 + 2, none⟩ = some (.int .i64 s.b) := hcs 2 (by omega)
      have m3 : wr.cell? ⟨qb, qo + j * 7 + 3, none⟩ = some (.int .i64 s.c) := hcs 3 (by omega)
      have m4 : wr.cell? ⟨qb, qo + j * 7 + 4, none⟩ = some (.int .i64 s.o) := hcs 4 (by omega)
      have m5 : wr.cell? ⟨qb, qo + j * 7 + 5, none⟩ = some (.int .i64 s.v) := hcs 5 (by omega)
      have m6 : wr.cell? ⟨qb, qo + j * 7 + 6, none⟩ = some (.slice s.p s.l.length s.n) := hcs 6 (by omega)
      have hwH : Hid (widW s ah ≠ 0) := (widsF_cons (by rw [← hdr.out]; exact hR.out.wid)).1
      obtain ⟨WX, hWX⟩ : ∃ WX, (wr.alloc (.cells #[.int .i64 s.k, .int .i64 s.a, .int .i64 s.b, .int .i64 s.c, .int .i64 s.o, .int .i64 s.v, .slice s.p s.l.length s.n] 64)) = WX := ⟨_, rfl⟩
      have hgX : Hid (Gr wr WX) := by show Gr _ _; rw [← hWX]; exact (Gr.refl _).alloc _
      have hbX : Hid (Below w1.heap.size w1 WX) := hR.out.bel.trans (hgX.out.below.mono hR.out.bel.size)
      obtain ⟨T, hT⟩ : ∃ T, tellE s (a.map Itm.z) (b.map Itm.z) S = T := ⟨_, rfl⟩
      have hTH : Hid (tellE s (a.map Itm.z) (b.map Itm.z) S = T) := hT
      have hTM : Hid (tellE s (a.map Itm.z) (b.map Itm.z) S = madE (refS s (a.map Itm.z) (b.map Itm.z) S) ∧ tellF s (a.map Itm.z) (b.map Itm.z) S = madL (refS s (a.map Itm.z) (b.map Itm.z) S)) := tell_made hwH.out hR.out.ahd (ahdE_parts hQ.out.1).2.1 (ahdE_parts hQ.out.1).2.2.1
      have x0 : WX.cell? ⟨wr.heap.size, 0, none⟩ = some (.int .i64 s.k) := by rw [← hWX]; exact box1 (w := wr) (Gr.refl _) rfl
      have x1 : WX.cell? ⟨wr.heap.size, 1, none⟩ = some (.int .i64 s.a) := by rw [← hWX]; exact box1 (w := wr) (Gr.refl _) rfl
      have x2 : WX.cell? ⟨wr.heap.size, 2, none⟩ = some (.int .i64 s.b) := by rw [← hWX]; exact box1 (w := wr) (Gr.refl _) rfl
      have x3 : WX.cell? ⟨wr.heap.size, 3, none⟩ = some (.int .i64 s.c) := by rw [← hWX]; exact box1 (w := wr) (Gr.refl _) rfl
      have x4 : WX.cell? ⟨wr.heap.size, 4, none⟩ = some (.int .i64 s.o) := by rw [← hWX]; exact box1 (w := wr) (Gr.refl _) rfl
      have x5 : WX.cell? ⟨wr.heap.size, 5, none⟩ = some (.int .i64 s.v) := by rw [← hWX]; exact box1 (w := wr) (Gr.refl _) rfl
      have x6 : WX.cell? ⟨wr.heap.size, 6, none⟩ = some (.slice s.p s.l.length s.n) := by rw [← hWX]; exact box1 (w := wr) (Gr.refl _) rfl
      have hsX : wr.heap.size < WX.heap.size := by rw [← hWX]; simp
      clear hcs hs hT
      by_cases hk : s.k = 1
      · have hk2 : (s.k == 1) = true := beq_iff_eq.2 hk
        have hkH : Hid (s.k = 1) := hk
        clear hk
        rcases (par1 hwH.out hkH.out).1 with h1 | h1
        · have ha2 : (s.a == 1) = false := by rw [h1]; rfl
          have hMf : Hid (a.map Itm.z = refS s (a.map Itm.z) (b.map Itm.z) S ∧ Items WX A a ∧ Below WX.heap.size WX WX ∧ Wd a) := ⟨by unfold refS tabF; rw [if_pos hkH.out, if_pos h1], (hbW.out.2.2.1.below hbX.out).items, Below.refl _ _, set_wd (ahdE_parts hQ.out.1).2.1⟩
          clear h1
          have hMd0 := rmade_any a A ca WX hMf.out.2.2.2 hMf.out.2.1 (hbW.out.2.2.2.2.below (hbX.out.trans (hMf.out.2.2.1.mono hbX.out.size)))
          rw [hMf.out.1, ← hTM.out.1, ← hTM.out.2, hTH.out] at hMd0
          have hMd : Hid _ := hMd0
          clear hMd0
          cases hq : (T != 0)
          · have hT0 : Hid (tellE s (a.map Itm.z) (b.map Itm.z) S = 0) := by show _ = _; rw [hTH.out]; simpa using hq
            have hj8 : Hid (ss.length = j) := hR.out.len
            go_wp2_with (first | (go_at_call 36; (refine Calls.mono (show Calls _ _ _ _ _ from hMd.out) ?_); rintro e w2 ⟨L, C, k, rfl, h1, h2, h3, h4⟩; have hB2 := hMf.out.2.2.1.trans (h3.mono hMf.out.2.2.1.size); have hTl : Hid (L.map Itm.z = tellF s (a.map Itm.z) (b.map Itm.z) S ∧ Lv w2 C k L ∧ Below WX.heap.size WX w2 ∧ NewT WX.heap.size C L) := ⟨h1, h2, hB2, h4.mono hMf.out.2.2.1.size⟩; have hoX : Hid (OwnG encS 1 30 (w2.alloc (.cells #[.slice C L.length k] 30)) w1.heap.size (.slice GA ss.length gc) ss ∧ ss.length + 1 ≤ maxLen ∧ (ss.length + 1) * 24 ≤ 140737488355328 ∧ w1.heap.size ≤ (w2.alloc (.cells #[.slice C L.length k] 30)).heap.size) := ⟨((hR.out.own.gr hgX.out).below hB2).gr ((Gr.refl _).alloc _), by have := hj8.out; unfold maxLen; omega, by have := hj8.out; omega, Nat.le_trans hbX.out.size (Nat.le_trans hB2.size (by simp))⟩; clear h1 h2 h3 h4 hB2) | (at_builtin; refine wpList_append_s _ rfl (.tmp 60) (.tmp 62) rfl w1.heap.size (.slice GA ss.length gc) ss ⟨C, k, L⟩ ⟨w2.heap.size, 0, none⟩ 1 rfl rfl hoX.out.1 (rowNewS rfl ⟨C, k, L⟩ _) hoX.out.2.1 hoX.out.2.2.1 hoX.out.2.2.2 ?_; intro v3 w3 hown3 hg3 hloc3) | fail)
            have hfin : Hid (AInv w1 w3 (a.map Itm.z) (b.map Itm.z) q (j + 1) v3 (ss ++ [⟨C, k, L⟩]) (S ++ [tellF s (a.map Itm.z) (b.map Itm.z) S]) (ah ++ [widW s ah])) := hR.out.step hdr.out (ahdE_parts hQ.out.1).2.2.2.1 (ahdE_parts hQ.out.1).2.2.2.2 hT0.out hgX.out hTl.out.1 hTl.out.2.1 hTl.out.2.2.1 hTl.out.2.2.2 hown3 hg3 hloc3
            clear hown3 hg3 hloc3
            go_roundw
            case rel => exact ⟨j + 1, ss ++ [(⟨C, k, L⟩ : Sl)], S ++ [tellF s (a.map Itm.z) (b.map Itm.z) S], ah ++ [widW s ah], by omega, by go_num, hfin⟩
            case measure => simp [intOf]; omega
          · have hT0 : Hid (P = T ∧ plnF q (a.map Itm.z) (b.map Itm.z) = []) := by
              have hn : ¬ T = 0 := by simpa using hq
              have hp : P = T := by
                rw [hQ.out.2, ← hR.out.e, hdr.out]
                show (if tellE s (a.map Itm.z) (b.map Itm.z) S = 0 then _ else _) = _
                rw [if_neg (by rw [hTH.out]; exact hn), hTH.out]
              refine ⟨hp, ?_⟩
              unfold plnF; rw [if_neg (by rw [hH.out.2, hp]; exact hn)]
            go_wp2_with (go_at_call 36; (refine Calls.mono (show Calls _ _ _ _ _ from hMd.out) ?_); rintro e w2 ⟨L, C, k, rfl, h1, h2, h3, h4⟩)
            go_ret2
            exact ⟨[], none, 0, by rw [hT0.out.1]; rfl, ⟨Or.inl rfl, fun s hs => (by cases hs), by rw [hT0.out.2]; rfl⟩, hbW.out.1.trans ((hbX.out.trans ((hMf.out.2.2.1.trans (h3.mono hMf.out.2.2.1.size)).mono hbX.out.size)).mono hbW.out.1.size)⟩
        · have ha2 : (s.a == 1) = true := by rw [h1]; rfl
          have hMf : Hid (b.map Itm.z = refS s (a.map Itm.z) (b.map Itm.z) S ∧ Items WX B b ∧ Below WX.heap.size WX WX ∧ Wd b) := ⟨by unfold refS tabF; rw [if_pos hkH.out, if_neg (by omega)], (hbW.out.2.2.2.1.below hbX.out).items, Below.refl _ _, set_wd (ahdE_parts hQ.out.1).2.2.1⟩
          clear h1
          have hMd0 := rmade_any b B cb WX hMf.out.2.2.2 hMf.out.2.1 (hbW.out.2.2.2.2.below (hbX.out.trans (hMf.out.2.2.1.mono hbX.out.size)))
          rw [hMf.out.1, ← hTM.out.1, ← hTM.out.2, hTH.out] at hMd0
          have hMd : Hid _ := hMd0
          clear hMd0
          cases hq : (T != 0)
          · have hT0 : Hid (tellE s (a.map Itm.z) (b.map Itm.z) S = 0) := by show _ = _; rw [hTH.out]; simpa using hq
            have hj8 : Hid (ss.length = j) := hR.out.len
            go_wp2_with (first | (go_at_call 36; (refine Calls.mono (show Calls _ _ _ _ _ from hMd.out) ?_); rintro e w2 ⟨L, C, k, rfl, h1, h2, h3, h4⟩; have hB2 := hMf.out.2.2.1.trans (h3.mono hMf.out.2.2.1.size); have hTl : Hid (L.map Itm.z = tellF s (a.map Itm.z) (b.map Itm.z) S ∧ Lv w2 C k L ∧ Below WX.heap.size WX w2 ∧ NewT WX.heap.size C L) := ⟨h1, h2, hB2, h4.mono hMf.out.2.2.1.size⟩; have hoX : Hid (OwnG encS 1 30 (w2.alloc (.cells #[.slice C L.length k] 30)) w1.heap.size (.slice GA ss.length gc) ss ∧ ss.length + 1 ≤ maxLen ∧ (ss.length + 1) * 24 ≤ 140737488355328 ∧ w1.heap.size ≤ (w2.alloc (.cells #[.slice C L.length k] 30)).heap.size) := ⟨((hR.out.own.gr hgX.out).below hB2).gr ((Gr.refl _).alloc _), by have := hj8.out; unfold maxLen; omega, by have := hj8.out; omega, Nat.le_trans hbX.out.size (Nat.le_trans hB2.size (by simp))⟩; clear h1 h2 h3 h4 hB2) | (at_builtin; refine wpList_append_s _ rfl (.tmp 60) (.tmp 62) rfl w1.heap.size (.slice GA ss.length gc) ss ⟨C, k, L⟩ ⟨w2.heap.size, 0, none⟩ 1 rfl rfl hoX.out.1 (rowNewS rfl ⟨C, k, L⟩ _) hoX.out.2.1 hoX.out.2.2.1 hoX.out.2.2.2 ?_; intro v3 w3 hown3 hg3 hloc3) | fail)
            have hfin : Hid (AInv w1 w3 (a.map Itm.z) (b.map Itm.z) q (j + 1) v3 (ss ++ [⟨C, k, L⟩]) (S ++ [tellF s (a.map Itm.z) (b.map Itm.z) S]) (ah ++ [widW s ah])) := hR.out.step hdr.out (ahdE_parts hQ.out.1).2.2.2.1 (ahdE_parts hQ.out.1).2.2.2.2 hT0.out hgX.out hTl.out.1 hTl.out.2.1 hTl.out.2.2.1 hTl.out.2.2.2 hown3 hg3 hloc3
            clear hown3 hg3 hloc3
            go_roundw
            case rel => exact ⟨j + 1, ss ++ [(⟨C, k, L⟩ : Sl)], S ++ [tellF s (a.map Itm.z) (b.map Itm.z) S], ah ++ [widW s ah], by omega, by go_num, hfin⟩
            case measure => simp [intOf]; omega
          · have hT0 : Hid (P = T ∧ plnF q (a.map Itm.z) (b.map Itm.z) = []) := by
              have hn : ¬ T = 0 := by simpa using hq
              have hp : P = T := by
                rw [hQ.out.2, ← hR.out.e, hdr.out]
                show (if tellE s (a.map Itm.z) (b.map Itm.z) S = 0 then _ else _) = _
                rw [if_neg (by rw [hTH.out]; exact hn), hTH.out]
              refine ⟨hp, ?_⟩
              unfold plnF; rw [if_neg (by rw [hH.out.2, hp]; exact hn)]
            go_wp2_with (go_at_call 36; (refine Calls.mono (show Calls _ _ _ _ _ from hMd.out) ?_); rintro e w2 ⟨L, C, k, rfl, h1, h2, h3, h4⟩)
            go_ret2
            exact ⟨[], none, 0, by rw [hT0.out.1]; rfl, ⟨Or.inl rfl, fun s hs => (by cases hs), by rw [hT0.out.2]; rfl⟩, hbW.out.1.trans ((hbX.out.trans ((hMf.out.2.2.1.trans (h3.mono hMf.out.2.2.1.size)).mono hbX.out.size)).mono hbW.out.1.size)⟩
      · have hk2 : (s.k == 1) = false := beq_eq_false_iff_ne.2 hk
        have hSts : Sts wr GA ss S := ⟨hrwH.out, fun s hs => (hR.out.each s hs).1, hR.out.z⟩
        have hab := par_ab hwH.out hk
        obtain ⟨ha0, ha1, ea, wa⟩ := hR.out.ahd.at hab.1
        obtain ⟨hb0, hb1, eb, wb⟩ := hR.out.ahd.at hab.2
        obtain ⟨gb, go, na, x, hA, hgb, hna, hnal, hxc, hxl, hxz⟩ := hSts.at ha0 ha1
        obtain ⟨gb', go', nb, y, hA', _, hnb, hnbl, hyc, hyl, hyz⟩ := hSts.at hb0 hb1
        subst hA
        cases hA'
        have hC0 := made_any hwH.out hk x.l y.l x.A y.A x.cap y.cap WX.drew (((hI.out.each s hsm.out).1.gr hgX.out).gr (Gr.refl _).drew) ((hxl.gr hgX.out).gr (Gr.refl _).drew) ((hyl.gr hgX.out).gr (Gr.refl _).drew) (by rw [hxz]; exact ea) (by rw [hyz]; exact eb) (by rw [hxz]; exact wa) (by rw [hyz]; exact wb)
        rw [hxz, hyz] at hC0
        have hrf : madeS s (getS S s.a) (getS S s.b) = refS s (a.map Itm.z) (b.map Itm.z) S := by unfold refS; rw [if_neg hk]
        rw [hrf, hna, hnb] at hC0
        have hC : Hid _ := hC0
        obtain ⟨xb, hxb⟩ : ∃ xb, wr.heap.size = xb := ⟨_, rfl⟩
        rw [hxb] at hsX x0 x1 x2 x3 x4 x5 x6
        have hKeep : Hid (∀ W', Below WX.heap.size WX W' → (fun w' => w'.cell? ⟨xb, 0, none⟩ = some (.int .i64 s.k) ∧ w'.cell? ⟨xb, 1, none⟩ = some (.int .i64 (na : Int)) ∧ w'.cell? ⟨xb, 2, none⟩ = some (.int .i64 (nb : Int)) ∧ w'.cell? ⟨xb, 3, none⟩ = some (.int .i64 s.c) ∧ w'.cell? ⟨xb, 4, none⟩ = some (.int .i64 s.o) ∧ w'.cell? ⟨xb, 5, none⟩ = some (.int .i64 s.v) ∧ w'.cell? ⟨xb, 6, none⟩ = some (.slice s.p s.l.length s.n) ∧ w'.cell? ⟨gb, go + na, none⟩ = some (.slice x.A x.l.length x.cap) ∧ w'.cell? ⟨gb, go + nb, none⟩ = some (.slice y.A y.l.length y.cap)) W') := fun W' h => ⟨(h.cell (p := ⟨xb, 0, none⟩) hsX).trans x0, (h.cell (p := ⟨xb, 1, none⟩) hsX).trans (by rw [x1, hna]), (h.cell (p := ⟨xb, 2, none⟩) hsX).trans (by rw [x2, hnb]), (h.cell (p := ⟨xb, 3, none⟩) hsX).trans x3, (h.cell (p := ⟨xb, 4, none⟩) hsX).trans x4, (h.cell (p := ⟨xb, 5, none⟩) hsX).trans x5, (h.cell (p := ⟨xb, 6, none⟩) hsX).trans x6, (h.cell (p := ⟨gb, go + na, none⟩) (Nat.lt_of_lt_of_le hgb hgX.out.size)).trans ((hgX.out.below.cell (p := ⟨gb, go + na, none⟩) hgb).trans hxc), (h.cell (p := ⟨gb, go + nb, none⟩) (Nat.lt_of_lt_of_le hgb hgX.out.size)).trans ((hgX.out.below.cell (p := ⟨gb, go + nb, none⟩) hgb).trans hyc)⟩
        have hbD : Hid (Below WX.heap.size WX WX.drew) := (Below.refl _ _).drew
        have hnaz : (na : Int) < (ss.length : Int) := by omega
        have hnbz : (nb : Int) < (ss.length : Int) := by omega
        clear hC0 hrf hk hSts hab ha0 ha1 ea wa hb0 hb1 eb wb hnal hxc hxl hxz hnbl hyc hyl hyz hna hnb hgb
        go_wp2
        clear hWX
        try rw [hxb]
        clear hxb
        refine wp_region_noPanic ?_
        refine wp_region_held_drew (S := (fun w' => w'.cell? ⟨xb, 0, none⟩ = some (.int .i64 s.k) ∧ w'.cell? ⟨xb, 1, none⟩ = some (.int .i64 (na : Int)) ∧ w'.cell? ⟨xb, 2, none⟩ = some (.int .i64 (nb : Int)) ∧ w'.cell? ⟨xb, 3, none⟩ = some (.int .i64 s.c) ∧ w'.cell? ⟨xb, 4, none⟩ = some (.int .i64 s.o) ∧ w'.cell? ⟨xb, 5, none⟩ = some (.int .i64 s.v) ∧ w'.cell? ⟨xb, 6, none⟩ = some (.slice s.p s.l.length s.n) ∧ w'.cell? ⟨gb, go + na, none⟩ = some (.slice x.A x.l.length x.cap) ∧ w'.cell? ⟨gb, go + nb, none⟩ = some (.slice y.A y.l.length y.cap))) (by kernel_rfl) (hKeep.out _ hbD.out) (fun hHeld => ?_)
        refine wpAnyH_take (i := 0) (oi := ?ois1) (v := ?vs1) ?hops1 ?hss1 ?hfs1 ?hrs1 ?hQs1 ?hys1 (by assumption) ?rests1
        case hops1 => (simp only [List.getElem?_toArray, List.getElem?_cons_zero]; rfl)
        case hss1 => kernel_rfl
        case hfs1 => kernel_rfl
        case hrs1 => kernel_rfl
        case hQs1 => exact fun _ _ _ h => h
        case hys1 => (refine Or.inl ⟨by rfl, ?_⟩; intro w hSw; (try dsimp only at hSw); go_simp <;> with_reducible rfl)
        try simp only [Act.put, List.setIfInBounds_toArray, List.set_cons_zero, List.set_cons_succ]
        refine wpAnyH_take (i := 1) (oi := ?ois2) (v := ?vs2) ?hops2 ?hss2 ?hfs2 ?hrs2 ?hQs2 ?hys2 (by assumption) ?rests2
        case hops2 => (simp only [List.getElem?_toArray, List.getElem?_cons_zero, List.getElem?_cons_succ]; rfl)
        case hss2 => kernel_rfl
        case hfs2 => kernel_rfl
        case hrs2 => kernel_rfl
        case hQs2 => exact fun _ _ _ h => h
        case hys2 => (refine Or.inl ⟨by rfl, ?_⟩; intro w hSw; (try dsimp only at hSw); go_simp <;> with_reducible rfl)
        try simp only [Act.put, List.setIfInBounds_toArray, List.set_cons_zero, List.set_cons_succ]
        refine wpAnyH_take (i := 2) (oi := ?ois3) (v := ?vs3) ?hops3 ?hss3 ?hfs3 ?hrs3 ?hQs3 ?hys3 (by assumption) ?rests3
        case hops3 => (simp only [List.getElem?_toArray, List.getElem?_cons_zero, List.getElem?_cons_succ]; rfl)
        case hss3 => kernel_rfl
        case hfs3 => kernel_rfl
        case hrs3 => kernel_rfl
        case hQs3 => exact fun _ _ _ h => h
        case hys3 => (refine Or.inl ⟨by rfl, ?_⟩; intro w hSw; (try dsimp only at hSw); go_simp <;> with_reducible rfl)
        try simp only [Act.put, List.setIfInBounds_toArray, List.set_cons_zero, List.set_cons_succ]
        refine wpAnyH_take (i := 3) (oi := ?ois4) (v := ?vs4) ?hops4 ?hss4 ?hfs4 ?hrs4 ?hQs4 ?hys4 (by assumption) ?rests4
        case hops4 => (simp only [List.getElem?_toArray, List.getElem?_cons_zero, List.getElem?_cons_succ]; rfl)
        case hss4 => kernel_rfl
        case hfs4 => kernel_rfl
        case hrs4 => kernel_rfl
        case hQs4 => exact fun _ _ _ h => h
        case hys4 => (refine Or.inl ⟨by rfl, ?_⟩; intro w hSw; (try dsimp only at hSw); go_simp <;> with_reducible rfl)
        try simp only [Act.put, List.setIfInBounds_toArray, List.set_cons_zero, List.set_cons_succ]
        refine wpAnyH_take (i := 4) (oi := ?ois5) (v := ?vs5) ?hops5 ?hss5 ?hfs5 ?hrs5 ?hQs5 ?hys5 (by assumption) ?rests5
        case hops5 => (simp only [List.getElem?_toArray, List.getElem?_cons_zero, List.getElem?_cons_succ]; rfl)
        case hss5 => kernel_rfl
        case hfs5 => kernel_rfl
        case hrs5 => kernel_rfl
        case hQs5 => exact fun _ _ _ h => h
        case hys5 => (refine Or.inl ⟨by rfl, ?_⟩; intro w hSw; (try dsimp only at hSw); go_simp <;> with_reducible rfl)
        try simp only [Act.put, List.setIfInBounds_toArray, List.set_cons_zero, List.set_cons_succ]
        refine wpAnyH_take (i := 5) (oi := ?ois6) (v := ?vs6) ?hops6 ?hss6 ?hfs6 ?hrs6 ?hQs6 ?hys6 (by assumption) ?rests6
        case hops6 => (simp only [List.getElem?_toArray, List.getElem?_cons_zero, List.getElem?_cons_succ]; rfl)
        case hss6 => kernel_rfl
        case hfs6 => kernel_rfl
        case hrs6 => kernel_rfl
        case hQs6 => exact fun _ _ _ h => h
        case hys6 => (refine Or.inl ⟨by rfl, ?_⟩; intro w hSw; (try dsimp only at hSw); go_simp <;> with_reducible rfl)
        try simp only [Act.put, List.setIfInBounds_toArray, List.set_cons_zero, List.set_cons_succ]
        refine wpAnyH_take (i := 6) (oi := ?ois7) (v := ?vs7) ?hops7 ?hss7 ?hfs7 ?hrs7 ?hQs7 ?hys7 (by assumption) ?rests7
        case hops7 => (simp only [List.getElem?_toArray, List.getElem?_cons_zero, List.getElem?_cons_succ]; rfl)
        case hss7 => kernel_rfl
        case hfs7 => kernel_rfl
        case hrs7 => kernel_rfl
        case hQs7 => exact fun _ _ _ h => h
        case hys7 => (refine Or.inl ⟨by rfl, ?_⟩; intro w hSw; (try dsimp only at hSw); go_simp <;> with_reducible rfl)
        try simp only [Act.put, List.setIfInBounds_toArray, List.set_cons_zero, List.set_cons_succ]
        refine wpAnyH_take (i := 7) (oi := ?ois8) (v := ?vs8) ?hops8 ?hss8 ?hfs8 ?hrs8 ?hQs8 ?hys8 (by assumption) ?rests8
        case hops8 => (simp only [List.getElem?_toArray, List.getElem?_cons_zero, List.getElem?_cons_succ]; rfl)
        case hss8 => kernel_rfl
        case hfs8 => kernel_rfl
        case hrs8 => kernel_rfl
        case hQs8 => exact fun _ _ _ h => h
        case hys8 => (refine Or.inl ⟨by rfl, ?_⟩; intro w hSw; (try dsimp only at hSw); go_simp <;> with_reducible rfl)
        try simp only [Act.put, List.setIfInBounds_toArray, List.set_cons_zero, List.set_cons_succ]
        refine wpAnyH_take (i := 8) (oi := ?ois9) (v := ?vs9) ?hops9 ?hss9 ?hfs9 ?hrs9 ?hQs9 ?hys9 (by assumption) ?rests9
        case hops9 => (simp only [List.getElem?_toArray, List.getElem?_cons_zero, List.getElem?_cons_succ]; rfl)
        case hss9 => kernel_rfl
        case hfs9 => kernel_rfl
        case hrs9 => kernel_rfl
        case hQs9 => exact fun _ _ _ h => h
        case hys9 => (refine Or.inl ⟨by rfl, ?_⟩; intro w hSw; (try dsimp only at hSw); go_simp <;> with_reducible rfl)
        try simp only [Act.put, List.setIfInBounds_toArray, List.set_cons_zero, List.set_cons_succ]
        refine wpAnyH_take (i := 9) (oi := ?ois10) (v := ?vs10) ?hops10 ?hss10 ?hfs10 ?hrs10 ?hQs10 ?hys10 (by assumption) ?rests10
        case hops10 => (simp only [List.getElem?_toArray, List.getElem?_cons_zero, List.getElem?_cons_succ]; rfl)
        case hss10 => kernel_rfl
        case hfs10 => kernel_rfl
        case hrs10 => kernel_rfl
        case hQs10 => exact fun _ _ _ h => h
        case hys10 => (refine Or.inl ⟨by rfl, ?_⟩; intro w hSw; (try dsimp only at hSw); go_simp <;> with_reducible rfl)
        try simp only [Act.put, List.setIfInBounds_toArray, List.set_cons_zero, List.set_cons_succ]
        refine wpAnyH_take (i := 10) (oi := ?ois11) (v := ?vs11) ?hops11 ?hss11 ?hfs11 ?hrs11 ?hQs11 ?hys11 (by assumption) ?rests11
        case hops11 => (simp only [List.getElem?_toArray, List.getElem?_cons_zero, List.getElem?_cons_succ]; rfl)
        case hss11 => kernel_rfl
        case hfs11 => kernel_rfl
        case hrs11 => kernel_rfl
        case hQs11 => exact fun _ _ _ h => h
        case hys11 => (refine Or.inl ⟨by rfl, ?_⟩; intro w hSw; (try dsimp only at hSw); go_simp <;> with_reducible rfl)
        try simp only [Act.put, List.setIfInBounds_toArray, List.set_cons_zero, List.set_cons_succ]
        refine wpAnyH_ready (rs := [11]) (by kernel_rfl) (by simp) ?_
        refine AllReadyH.cons (o := ?ois12) ?hops12 (fun K hK => ?steps12) ?mores12
        case hops12 => (simp only [List.getElem?_toArray, List.getElem?_cons_zero, List.getElem?_cons_succ]; rfl)
        case mores12 => exact AllReadyH.nil
        go_simp
        (go_at_call 37; (refine Calls.mono (show Calls _ _ _ _ _ from hC.out) ?_); rintro e wm ⟨M, MA, mc, rfl, h1, h2, h3, h4⟩; have hb2 : Hid (Below WX.heap.size WX wm) := hbD.out.trans (h3.mono hbD.out.size); have hMf : Hid (M.map Itm.z = refS s (a.map Itm.z) (b.map Itm.z) S ∧ Items wm MA M ∧ Below WX.heap.size WX wm ∧ Wd M) := ⟨h1, h2, hb2.out, h4⟩; clear h1 h2 h3 h4)
        first | (go_wp2_with fail) | skip
        refine hK.out _ _ ?_ (fun hHeld => ?_)
        · (try dsimp only); first | with_reducible exact hKeep.out _ hbD.out | with_reducible exact hKeep.out _ hb2.out | exact hKeep.out _ hbD.out | exact hKeep.out _ hb2.out
        clear hK K
        try simp only [Act.put, List.setIfInBounds_toArray, List.set_cons_zero, List.set_cons_succ]
        refine wpAnyH_take (i := 12) (oi := ?ois13) (v := ?vs13) ?hops13 ?hss13 ?hfs13 ?hrs13 ?hQs13 ?hys13 (by assumption) ?rests13
        case hops13 => (simp only [List.getElem?_toArray, List.getElem?_cons_zero, List.getElem?_cons_succ]; rfl)
        case hss13 => kernel_rfl
        case hfs13 => kernel_rfl
        case hrs13 => kernel_rfl
        case hQs13 => exact fun _ _ _ h => h
        case hys13 => (refine Or.inl ⟨by rfl, ?_⟩; intro w hSw; (try dsimp only at hSw); go_simp <;> with_reducible rfl)
        try simp only [Act.put, List.setIfInBounds_toArray, List.set_cons_zero, List.set_cons_succ]
        refine wpAnyH_done (by kernel_rfl) ?_ _
        refine NoPanic.normal ?_
        have hMd0 := rmade_any M MA mc wm hMf.out.2.2.2 hMf.out.2.1 (hbW.out.2.2.2.2.below (hbX.out.trans (hMf.out.2.2.1.mono hbX.out.size)))
        rw [hMf.out.1, ← hTM.out.1, ← hTM.out.2, hTH.out] at hMd0
        have hMd : Hid _ := hMd0
        clear hMd0
        cases hq : (T != 0)
        · have hT0 : Hid (tellE s (a.map Itm.z) (b.map Itm.z) S = 0) := by show _ = _; rw [hTH.out]; simpa using hq
          have hj8 : Hid (ss.length = j) := hR.out.len
          go_wp2_with (first | (go_at_call 36; (refine Calls.mono (show Calls _ _ _ _ _ from hMd.out) ?_); rintro e w2 ⟨L, C, k, rfl, h1, h2, h3, h4⟩; have hB2 := hMf.out.2.2.1.trans (h3.mono hMf.out.2.2.1.size); have hTl : Hid (L.map Itm.z = tellF s (a.map Itm.z) (b.map Itm.z) S ∧ Lv w2 C k L ∧ Below WX.heap.size WX w2 ∧ NewT WX.heap.size C L) := ⟨h1, h2, hB2, h4.mono hMf.out.2.2.1.size⟩; have hoX : Hid (OwnG encS 1 30 (w2.alloc (.cells #[.slice C L.length k] 30)) w1.heap.size (.slice (some ⟨gb, go, none⟩) ss.length gc) ss ∧ ss.length + 1 ≤ maxLen ∧ (ss.length + 1) * 24 ≤ 140737488355328 ∧ w1.heap.size ≤ (w2.alloc (.cells #[.slice C L.length k] 30)).heap.size) := ⟨((hR.out.own.gr hgX.out).below hB2).gr ((Gr.refl _).alloc _), by have := hj8.out; unfold maxLen; omega, by have := hj8.out; omega, Nat.le_trans hbX.out.size (Nat.le_trans hB2.size (by simp))⟩; clear h1 h2 h3 h4 hB2) | (at_builtin; refine wpList_append_s _ rfl (.tmp 60) (.tmp 62) rfl w1.heap.size (.slice (some ⟨gb, go, none⟩) ss.length gc) ss ⟨C, k, L⟩ ⟨w2.heap.size, 0, none⟩ 1 rfl rfl hoX.out.1 (rowNewS rfl ⟨C, k, L⟩ _) hoX.out.2.1 hoX.out.2.2.1 hoX.out.2.2.2 ?_; intro v3 w3 hown3 hg3 hloc3) | fail)
          have hfin : Hid (AInv w1 w3 (a.map Itm.z) (b.map Itm.z) q (j + 1) v3 (ss ++ [⟨C, k, L⟩]) (S ++ [tellF s (a.map Itm.z) (b.map Itm.z) S]) (ah ++ [widW s ah])) := hR.out.step hdr.out (ahdE_parts hQ.out.1).2.2.2.1 (ahdE_parts hQ.out.1).2.2.2.2 hT0.out hgX.out hTl.out.1 hTl.out.2.1 hTl.out.2.2.1 hTl.out.2.2.2 hown3 hg3 hloc3
          clear hown3 hg3 hloc3
          go_roundw
          case rel => exact ⟨j + 1, ss ++ [(⟨C, k, L⟩ : Sl)], S ++ [tellF s (a.map Itm.z) (b.map Itm.z) S], ah ++ [widW s ah], by omega, by go_num, hfin⟩
          case measure => simp [intOf]; omega
        · have hT0 : Hid (P = T ∧ plnF q (a.map Itm.z) (b.map Itm.z) = []) := by
            have hn : ¬ T = 0 := by simpa using hq
            have hp : P = T := by
              rw [hQ.out.2, ← hR.out.e, hdr.out]
              show (if tellE s (a.map Itm.z) (b.map Itm.z) S = 0 then _ else _) = _
              rw [if_neg (by rw [hTH.out]; exact hn), hTH.out]
            refine ⟨hp, ?_⟩
            unfold plnF; rw [if_neg (by rw [hH.out.2, hp]; exact hn)]
          go_wp2_with (go_at_call 36; (refine Calls.mono (show Calls _ _ _ _ _ from hMd.out) ?_); rintro e w2 ⟨L, C, k, rfl, h1, h2, h3, h4⟩)
          go_ret2
          exact ⟨[], none, 0, by rw [hT0.out.1]; rfl, ⟨Or.inl rfl, fun s hs => (by cases hs), by rw [hT0.out.2]; rfl⟩, hbW.out.1.trans ((hbX.out.trans ((hMf.out.2.2.1.trans (h3.mono hMf.out.2.2.1.size)).mono hbX.out.size)).mono hbW.out.1.size)⟩
    · have hltz : ¬ (j : Int) < (q.length : Int) := by omega
      have hfin : Hid (P = 0 ∧ Sts wr GA ss (plnF q (a.map Itm.z) (b.map Itm.z)) ∧ Below w.heap.size w wr) := by
        have hd : q.drop j = [] := List.drop_eq_nil_of_le (by omega)
        have he := hR.out.e
        have hf := hR.out.f
        rw [hd] at he hf
        have hP0 : P = 0 := by rw [hQ.out.2, ← he]; rfl
        refine ⟨hP0, ⟨hrwH.out, fun s hs => (hR.out.each s hs).1, ?_⟩, hbW.out.1.trans (hR.out.bel.mono hbW.out.1.size)⟩
        unfold plnF
        rw [if_pos (by rw [hH.out.2]; exact hP0), ← hf, hR.out.z]
        rfl
      go_wp2
      go_ret2
      exact ⟨ss, GA, ⟨gc, by rw [hfin.out.1]; rfl⟩, hfin.out.2.1, hfin.out.2.2⟩
end Go.Proofs.YtoanlaedkpkpnaaGreatDoor

namespace Go.Proofs.YtoanlaedkpkpnaaGreatDoor
open Go.RowKit Go.Sort Go.Maps

theorem Sts.len9 {w : World} {A : Option Addr} {ss : List Sl} {q : List Stp} {a b : List Zit} (h : Sts w A ss (plnF q a b)) (e : plnE q a b = 0) : 0 < ss.length ∧ ss.length = q.length ∧ ss.length ≤ 8 := by
  have h1 := congrArg List.length h.z
  rw [List.length_map] at h1
  obtain ⟨h2, h3, h4⟩ := plnE_parts e
  obtain ⟨p1, _, _, p4, p5⟩ := ahdE_parts h2
  obtain ⟨q1, q2, q3⟩ := errQ_wids p1
  obtain ⟨ah', _, hl⟩ := all_right p4 p5 q [] [] q3 Ahd.nil h3
  rw [h4, hl] at h1
  have hq : 0 < q.length := List.length_pos_iff.2 q1
  simp only [List.length_nil] at h1
  exact ⟨by omega, by omega, by omega⟩
theorem Sts.nth9 {w : World} {A : Option Addr} {ss : List Sl} {S : List (List Zit)} (h : Sts w A ss S) {k : Nat} (hk : k < ss.length) : ss[k].l.map Itm.z = S.getD k [] := by
  rw [← h.z, List.getD_eq_getElem?_getD, List.getElem?_map, List.getElem?_eq_getElem hk]
  rfl

/-- A pool in memory. -/
structure Pl (w : World) (V : Nat) (q : List Stp) (QA : Option Addr) (cq : Nat) (a : List Itm) (A : Option Addr) (ca : Nat) (b : List Itm) (B : Option Addr) (cb : Nat) (t : List Itm) (T : Option Addr) (ct : Nat) : Prop where
  lt : V < w.heap.size
  fz : ∀ j, w.frozen? ⟨V, j, none⟩ = false
  slo : Slo w V
  c0 : w.cell? ⟨V, 0, none⟩ = some (.slice QA q.length cq)
  c1 : w.cell? ⟨V, 1, none⟩ = some (.slice A a.length ca)
  c2 : w.cell? ⟨V, 2, none⟩ = some (.slice B b.length cb)
  c3 : w.cell? ⟨V, 3, none⟩ = some (.slice T t.length ct)
  st : Stps w QA q
  la : Lv w A ca a
  lb : Lv w B cb b
  ltd : Lv w T ct t
theorem Pl.below {w w' : World} {V : Nat} {q : List Stp} {QA : Option Addr} {cq : Nat} {a : List Itm} {A : Option Addr} {ca : Nat} {b : List Itm} {B : Option Addr} {cb : Nat} {t : List Itm} {T : Option Addr} {ct : Nat} (h : Pl w V q QA cq a A ca b B cb t T ct) (k : Below w.heap.size w w') : Pl w' V q QA cq a A ca b B cb t T ct :=
  ⟨Nat.lt_of_lt_of_le h.lt k.size, fun j => (k.frozen (p := ⟨V, j, none⟩) h.lt).trans (h.fz j), fun j v hv => h.slo j v ((k.cell (p := ⟨V, j, none⟩) h.lt).symm.trans hv), (k.cell (p := ⟨V, 0, none⟩) h.lt).trans h.c0, (k.cell (p := ⟨V, 1, none⟩) h.lt).trans h.c1, (k.cell (p := ⟨V, 2, none⟩) h.lt).trans h.c2, (k.cell (p := ⟨V, 3, none⟩) h.lt).trans h.c3, h.st.below k, h.la.below k, h.lb.below k, h.ltd.below k⟩
theorem Pl.gr {w w' : World} {V : Nat} {q : List Stp} {QA : Option Addr} {cq : Nat} {a : List Itm} {A : Option Addr} {ca : Nat} {b : List Itm} {B : Option Addr} {cb : Nat} {t : List Itm} {T : Option Addr} {ct : Nat} (h : Pl w V q QA cq a A ca b B cb t T ct) (k : Gr w w') : Pl w' V q QA cq a A ca b B cb t T ct := h.below k.below
/-- Another block of slices is written: this pool stays. -/
theorem Pl.other {w w' : World} {V V2 : Nat} {q : List Stp} {QA : Option Addr} {cq : Nat} {a : List Itm} {A : Option Addr} {ca : Nat} {b : List Itm} {B : Option Addr} {cb : Nat} {t : List Itm} {T : Option Addr} {ct : Nat} (h : Pl w V2 q QA cq a A ca b B cb t T ct) (hs : Slo w V) (hne : V2 ≠ V) (hg : w.grownBy w' (some V)) : Pl w' V2 q QA cq a A ca b B cb t T ct := by
  have hb : w'.heap[V2]? = w.heap[V2]? := hg.block V2 h.lt (fun e => by injection e with e; exact hne e)
  exact ⟨Nat.lt_of_lt_of_le h.lt hg.size, fun j => (World.frozen?_of_block (a := ⟨V2, j, none⟩) hb).trans (h.fz j), fun j v hv => h.slo j v ((grown_cell hg hne h.lt).symm.trans hv), (grown_cell hg hne h.lt).trans h.c0, (grown_cell hg hne h.lt).trans h.c1, (grown_cell hg hne h.lt).trans h.c2, (grown_cell hg hne h.lt).trans h.c3, hs.stps h.st hg, hs.keep h.la hg, hs.keep h.lb hg, hs.keep h.ltd hg⟩
/-- The tables of a pool and what it told are laid anew. -/
theorem set_pool {w : World} {V : Nat} {q : List Stp} {QA : Option Addr} {cq : Nat} {a a' : List Itm} {A A' : Option Addr} {ca ca' : Nat} {b b' : List Itm} {B B' : Option Addr} {cb cb' : Nat} {t t' : List Itm} {T T' : Option Addr} {ct ct' : Nat} (h : Pl w V q QA cq a A ca b B cb t T ct) (ha : Lv w A' ca' a') (hb : Lv w B' cb' b') (ht : Lv w T' ct' t') :
    Pl (((w.setCell ⟨V, 1, none⟩ (.slice A' a'.length ca')).setCell ⟨V, 2, none⟩ (.slice B' b'.length cb')).setCell ⟨V, 3, none⟩ (.slice T' t'.length ct')) V q QA cq a' A' ca' b' B' cb' t' T' ct' ∧ w.grownBy (((w.setCell ⟨V, 1, none⟩ (.slice A' a'.length ca')).setCell ⟨V, 2, none⟩ (.slice B' b'.length cb')).setCell ⟨V, 3, none⟩ (.slice T' t'.length ct')) (some V) := by
  obtain ⟨W, hW⟩ : ∃ W, ((w.setCell ⟨V, 1, none⟩ (.slice A' a'.length ca')).setCell ⟨V, 2, none⟩ (.slice B' b'.length cb')).setCell ⟨V, 3, none⟩ (.slice T' t'.length ct') = W := ⟨_, rfl⟩
  have hg : w.grownBy W (some V) := by
    rw [← hW]
    refine ⟨rfl, rfl, rfl, by simp, fun k hk hne => ?_⟩
    have hne' : V ≠ k := fun e => hne (by rw [e])
    rw [Below.heap_setCell _ _ _ _ hne'.symm, Below.heap_setCell _ _ _ _ hne'.symm, Below.heap_setCell _ _ _ _ hne'.symm]
  have o1 : ∀ {W : World} {i j : Nat} {v : Value}, i ≠ j → (W.setCell ⟨V, i, none⟩ v).cell? ⟨V, j, none⟩ = W.cell? ⟨V, j, none⟩ := fun hij => World.cell?_setCell_other _ _ _ _ (by intro e; injection e with _ e; exact hij e)
  have k0 : W.cell? ⟨V, 0, none⟩ = some (.slice QA q.length cq) := by rw [← hW, o1 (by omega), o1 (by omega), o1 (by omega)]; exact h.c0
  have k1 : W.cell? ⟨V, 1, none⟩ = some (.slice A' a'.length ca') := by rw [← hW, o1 (by omega), o1 (by omega)]; exact World.cell?_setCell_same _ _ _ h.c1
  have k2 : W.cell? ⟨V, 2, none⟩ = some (.slice B' b'.length cb') := by rw [← hW, o1 (by omega)]; exact World.cell?_setCell_same _ _ _ (u := .slice B b.length cb) (by rw [o1 (by omega)]; exact h.c2)
  have k3 : W.cell? ⟨V, 3, none⟩ = some (.slice T' t'.length ct') := by rw [← hW]; exact World.cell?_setCell_same _ _ _ (u := .slice T t.length ct) (by rw [o1 (by omega), o1 (by omega)]; exact h.c3)
  have kj : ∀ j, j ≠ 1 → j ≠ 2 → j ≠ 3 → W.cell? ⟨V, j, none⟩ = w.cell? ⟨V, j, none⟩ := fun j e1 e2 e3 => by rw [← hW, o1 (fun e => e3 e.symm), o1 (fun e => e2 e.symm), o1 (fun e => e1 e.symm)]
  have kf : ∀ j, W.frozen? ⟨V, j, none⟩ = w.frozen? ⟨V, j, none⟩ := fun j => by rw [← hW]; simp
  have ks : w.heap.size = W.heap.size := by rw [← hW]; simp
  rw [hW]
  refine ⟨⟨by rw [← ks]; exact h.lt, fun j => (kf j).trans (h.fz j), fun j v hv => ?_, k0, k1, k2, k3, h.slo.stps h.st hg, h.slo.keep ha hg, h.slo.keep hb hg, h.slo.keep ht hg⟩, hg⟩
  by_cases e3 : j = 3
  · subst e3; rw [k3] at hv; exact ⟨_, _, _, (Option.some.inj hv).symm⟩
  · by_cases e2 : j = 2
    · subst e2; rw [k2] at hv; exact ⟨_, _, _, (Option.some.inj hv).symm⟩
    · by_cases e1 : j = 1
      · subst e1; rw [k1] at hv; exact ⟨_, _, _, (Option.some.inj hv).symm⟩
      · rw [kj j e1 e2 e3] at hv
        exact h.slo j v hv

set_option maxRecDepth 100000 in
set_option maxHeartbeats 2000000 in
/-- A meal that is refused. -/
theorem pfeed_bad (w : World) (V : Nat) (q : List Stp) (QA : Option Addr) (cq : Nat) (a : List Itm) (A : Option Addr) (ca : Nat) (b : List Itm) (B : Option Addr) (cb : Nat) (t : List Itm) (T : Option Addr) (ct : Nat) (h : Pl w V q QA cq a A ca b B cb t T ct) (hql : q.length ≤ 8) (hq : errQ q = 0) (htn : Tens w) (x y : List Itm) (X Y : Option Addr) (cx cy : Nat) (hx : Lv w X cx x) (hy : Lv w Y cy y) {F : Int} (hF : fedE q (a.map Itm.z) (b.map Itm.z) (x.map Itm.z) (y.map Itm.z) = F) (he : ¬ F = 0) :
    Calls Tryz.prog 7 #[.pointer (some ⟨V, 0, none⟩), .slice X x.length cx, .slice Y y.length cy] w fun e w' => e = .returned (.tuple #[.slice none 0 0, .int .i64 F]) ∧ Below w.heap.size w w' := by
  obtain ⟨E1, hE1⟩ : ∃ E, tblE (x.map Itm.z) (y.map Itm.z) = E := ⟨_, rfl⟩
  have hqm : q.length ≤ maxLen := by unfold maxLen; omega
  have hC0 := rbased_any q QA cq x y X Y cx cy w hqm h.st hx hy
  rw [ahd_tbl, if_pos hq, hE1] at hC0
  have hC : Hid _ := hC0
  have hH : Hid (Pl w V q QA cq a A ca b B cb t T ct ∧ Lv w X cx x ∧ Lv w Y cy y ∧ tblE (x.map Itm.z) (y.map Itm.z) = E1 ∧ Tens w ∧ q.length ≤ maxLen) := ⟨h, hx, hy, hE1, htn, hqm⟩
  have hFH : Hid (fedE q (a.map Itm.z) (b.map Itm.z) (x.map Itm.z) (y.map Itm.z) = F) := hF
  have hF0 : (F != 0) = true := by simpa using he
  have c0 := h.c0
  clear hC0 h hx hy hE1 he hF htn hqm
  go_enter Tryz.func7, Tryz.ntmps7
  go_wp2_with fail
  refine Calls.mono (show Calls _ _ _ _ _ from hC.out) ?_
  rintro e w1 ⟨rfl, hb1⟩
  have hW1 : Hid (Pl w1 V q QA cq a A ca b B cb t T ct ∧ Lv w1 X cx x ∧ Lv w1 Y cy y ∧ Below w.heap.size w w1) := ⟨hH.out.1.below hb1, hH.out.2.1.below hb1, hH.out.2.2.1.below hb1, hb1⟩
  clear hC hb1 c0
  cases h1 : (E1 != 0)
  rotate_left
  focus
    have hfin : Hid (E1 = F) := by
      have hn : ¬ tblE (x.map Itm.z) (y.map Itm.z) = 0 := by rw [hH.out.2.2.2.1]; simpa using h1
      show _ = _; rw [← hFH.out]; unfold fedE; rw [if_neg hn]; exact hH.out.2.2.2.1.symm
    go_wp2
    go_ret2
    exact ⟨by rw [hfin.out]; rfl, hW1.out.2.2.2⟩
  have hT0 : Hid (tblE (x.map Itm.z) (y.map Itm.z) = 0) := by show _ = _; rw [hH.out.2.2.2.1]; simpa using h1
  have c1 := hW1.out.1.c1
  obtain ⟨E2, hE2⟩ : ∃ E, addE (a.map Itm.z) (x.map Itm.z) = E := ⟨_, rfl⟩
  have hA0 := radd_any a x A X ca cx w1 hW1.out.1.la hW1.out.2.1 (hH.out.2.2.2.2.1.below hW1.out.2.2.2)
  rw [hE2] at hA0
  have hA : Hid _ := hA0
  have hE2H : Hid (addE (a.map Itm.z) (x.map Itm.z) = E2) := hE2
  clear hA0 hE2
  go_wp2_with fail
  refine Calls.mono (show Calls _ _ _ _ _ from hA.out) ?_
  rintro e w2 ⟨P, PA, pc, rfl, p1, p2, p3⟩
  have hW2 : Hid (Pl w2 V q QA cq a A ca b B cb t T ct ∧ Lv w2 Y cy y ∧ Below w.heap.size w w2 ∧ Lv w2 PA pc P ∧ P.map Itm.z = addL (a.map Itm.z) (x.map Itm.z)) := ⟨hW1.out.1.below p3, hW1.out.2.2.1.below p3, hW1.out.2.2.2.trans (p3.mono hW1.out.2.2.2.size), p2, p1⟩
  clear hA p1 p2 p3 c1 hW1
  cases h2 : (E2 != 0)
  rotate_left
  focus
    have hfin : Hid (E2 = F) := by
      have hn : ¬ addE (a.map Itm.z) (x.map Itm.z) = 0 := by rw [hE2H.out]; simpa using h2
      show _ = _; rw [← hFH.out]; unfold fedE; rw [if_pos hT0.out, if_neg hn]; exact hE2H.out.symm
    go_wp2
    go_ret2
    exact ⟨by rw [hfin.out]; rfl, hW2.out.2.2.1⟩
  have hT2 : Hid (addE (a.map Itm.z) (x.map Itm.z) = 0) := by show _ = _; rw [hE2H.out]; simpa using h2
  have c2 := hW2.out.1.c2
  obtain ⟨E3, hE3⟩ : ∃ E, addE (b.map Itm.z) (y.map Itm.z) = E := ⟨_, rfl⟩
  have hA0 := radd_any b y B Y cb cy w2 hW2.out.1.lb hW2.out.2.1 (hH.out.2.2.2.2.1.below hW2.out.2.2.1)
  rw [hE3] at hA0
  have hA : Hid _ := hA0
  have hE3H : Hid (addE (b.map Itm.z) (y.map Itm.z) = E3) := hE3
  clear hA0 hE3
  go_wp2_with fail
  refine Calls.mono (show Calls _ _ _ _ _ from hA.out) ?_
  rintro e w3 ⟨R, RA, rc, rfl, p1, p2, p3⟩
  have hW3 : Hid (Pl w3 V q QA cq a A ca b B cb t T ct ∧ Below w.heap.size w w3 ∧ Lv w3 PA pc P ∧ P.map Itm.z = addL (a.map Itm.z) (x.map Itm.z) ∧ Lv w3 RA rc R ∧ R.map Itm.z = addL (b.map Itm.z) (y.map Itm.z)) := ⟨hW2.out.1.below p3, hW2.out.2.2.1.trans (p3.mono hW2.out.2.2.1.size), hW2.out.2.2.2.1.below p3, hW2.out.2.2.2.2, p2, p1⟩
  clear hA p1 p2 p3 c2 hW2
  cases h3 : (E3 != 0)
  rotate_left
  focus
    have hfin : Hid (E3 = F) := by
      have hn : ¬ addE (b.map Itm.z) (y.map Itm.z) = 0 := by rw [hE3H.out]; simpa using h3
      show _ = _; rw [← hFH.out]; unfold fedE; rw [if_pos hT0.out, if_pos hT2.out, if_neg hn]; exact hE3H.out.symm
    go_wp2
    go_ret2
    exact ⟨by rw [hfin.out]; rfl, hW3.out.2.1⟩
  have hT3 : Hid (addE (b.map Itm.z) (y.map Itm.z) = 0) := by show _ = _; rw [hE3H.out]; simpa using h3
  have c0 := hW3.out.1.c0
  have hV0 := rsets_any q QA cq P R PA RA pc rc w3 hH.out.2.2.2.2.2 hW3.out.1.st hW3.out.2.2.1 hW3.out.2.2.2.2.1 (hH.out.2.2.2.2.1.below hW3.out.2.1)
  have hPF : Hid (plnE q (P.map Itm.z) (R.map Itm.z) = F) := by
    show _ = _
    rw [hW3.out.2.2.2.1, hW3.out.2.2.2.2.2, ← hFH.out]
    unfold fedE
    rw [if_pos hT0.out, if_pos hT2.out, if_pos hT3.out]
  rw [hPF.out] at hV0
  have hV : Hid _ := hV0
  clear hV0
  go_wp2_with fail
  refine Calls.mono (show Calls _ _ _ _ _ from hV.out) ?_
  rintro e w4 ⟨N, NA, nc, rfl, n1, n3⟩
  have hfin : Hid (Below w.heap.size w w4) := hW3.out.2.1.trans (n3.mono hW3.out.2.1.size)
  clear hV n1 n3 c0
  go_wp2
  go_ret2
  exact ⟨rfl, hfin.out⟩
end Go.Proofs.YtoanlaedkpkpnaaGreatDoor

namespace Go.Proofs.YtoanlaedkpkpnaaGreatDoor
open Go.RowKit Go.Sort Go.Maps

/-- A meal: both sets, and where they lie. -/
structure Fd where
  A : Option Addr
  ca : Nat
  a : List Itm
  B : Option Addr
  cb : Nat
  b : List Itm
def encF (f : Fd) : List Value := [.slice f.A f.a.length f.ca, .slice f.B f.b.length f.cb]
theorem encF_len (f : Fd) : (encF f).length = 2 := rfl
structure Meals (w : World) (A : Option Addr) (l : List Fd) : Prop where
  row : RowG encF 2 w A l
  each : ∀ f ∈ l, Lv w f.A f.ca f.a ∧ Lv w f.B f.cb f.b
theorem Meals.below {w w' : World} {A : Option Addr} {l : List Fd} (h : Meals w A l) (k : Below w.heap.size w w') : Meals w' A l := ⟨h.row.below k, fun f hf => ⟨(h.each f hf).1.below k, (h.each f hf).2.below k⟩⟩
theorem Meals.at {w : World} {A : Option Addr} {l : List Fd} (h : Meals w A l) {k : Nat} (hk : k < l.length) {f : Fd} (hf : l[k] = f) : ∃ b off, A = some ⟨b, off, none⟩ ∧ b < w.heap.size ∧ w.cell? ⟨b, off + k * 2, none⟩ = some (.slice f.A f.a.length f.ca) ∧ w.cell? ⟨b, off + k * 2 + 1, none⟩ = some (.slice f.B f.b.length f.cb) := by
  obtain ⟨b, off, hA, hb, hc⟩ := h.row.at hk
  have h0 := hc k hk 0 (by omega)
  have h1 := hc k hk 1 (by omega)
  rw [hf] at h0 h1
  exact ⟨b, off, hA, hb, h0, h1⟩
/-- What comes to a view's answer is no wonder. -/
theorem dif_ok {a b : List Zit} (ha : errZ a = 0) (hb : errZ b = 0) : ∀ x ∈ difL a b, okR x.1 = true ∧ -2097152 ≤ x.2 ∧ x.2 ≤ 2097152 := by
  intro x hx
  have h1 := (errZ_iff a).1 ha
  have h2 := (errZ_iff b).1 hb
  have hT := totL_is (a ++ negP b)
  have bnd : ∀ {l : List Zit}, errZ l = 0 → ∀ r, -1048576 ≤ wt l r ∧ wt l r ≤ 1048576 := fun {l} hl r => by
    have h3 := (errZ_iff l).1 hl
    by_cases h0 : wt l r = 0
    · omega
    · obtain ⟨y, hy, e⟩ := wt_some h0
      rw [← e, h3.2.2.wt hy]
      have := (okZ_parts (h3.2.1 y hy)).2.1
      simp only [okW, inB, Bool.and_eq_true, decide_eq_true_eq] at this
      omega
  refine ⟨?_, ?_⟩
  · obtain ⟨y, hy, e⟩ := hT.row hx
    rw [← e]
    rcases List.mem_append.1 hy with k | k
    · exact (okZ_parts (h1.2.1 y k)).1
    · obtain ⟨z, hz, e2⟩ := mem_neg k
      rw [← e2]; exact (okZ_parts (h2.2.1 z hz)).1
  · have h3 := hT.same x.1
    rw [hT.rise.wt hx, wt_dif] at h3
    have h4 := bnd ha x.1
    have h5 := bnd hb x.1
    omega
theorem okR_i64 {r : List Int} (h : okR r = true) : r.length ≤ 100 ∧ ∀ n ∈ r, I64 n := by
  simp only [okR, Bool.and_eq_true, decide_eq_true_eq] at h
  refine ⟨by omega, fun n hn => ?_⟩
  have := List.all_eq_true.1 h.2 n hn
  simp only [okN, inB, Bool.and_eq_true, decide_eq_true_eq] at this
  exact ⟨by omega, by omega⟩
theorem wd_both {T L : List Itm} {a b : List Zit} (ha : errZ a = 0) (hb : errZ b = 0) (hT : T.map Itm.z = b) (hL : L.map Itm.z = difL a b) (hl : L.length ≤ 800) : Wd (T ++ L) := by
  have hb' := (errZ_iff b).1 hb
  have hd := dif_ok ha hb
  have hTl : T.length ≤ 400 := by have := congrArg List.length hT; simp at this; omega
  have key : ∀ x ∈ T ++ L, okR x.r = true ∧ -2097152 ≤ x.n ∧ x.n ≤ 2097152 := fun x hx => by
    rcases List.mem_append.1 hx with k | k
    · have hz : x.z ∈ b := by rw [← hT]; exact List.mem_map.2 ⟨x, k, rfl⟩
      have h1 := okZ_parts (hb'.2.1 x.z hz)
      have h2 := h1.2.1
      simp only [okW, inB, Bool.and_eq_true, decide_eq_true_eq] at h2
      exact ⟨h1.1, by have := h2.1; show -2097152 ≤ x.z.2; omega, by show x.z.2 ≤ _; omega⟩
    · have hz : x.z ∈ difL a b := by rw [← hL]; exact List.mem_map.2 ⟨x, k, rfl⟩
      exact hd x.z hz
  exact ⟨by simp; omega, fun x hx => okR_i64 (key x hx).1, fun x hx => ⟨by have := (key x hx).2.1; omega, by have := (key x hx).2.2; omega⟩⟩
end Go.Proofs.YtoanlaedkpkpnaaGreatDoor
