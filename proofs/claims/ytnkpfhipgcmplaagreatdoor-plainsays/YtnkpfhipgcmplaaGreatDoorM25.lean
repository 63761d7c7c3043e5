/-
  plain.All.
  viewref.Sets: the sets of all steps.
  plain.Eval.
-/
import Derived.Test.YtnkpfhipgcmplaaGreatDoorM24
import Derived.Test.YtnkpfhipgcmplaaGreatDoorM21
namespace Go.Proofs.YtnkpfhipgcmplaaGreatDoor
open Go.RowKit Go.Sort Go.Maps

/-- What is carried through the steps. -/
structure AInv (w wr : World) (a b : List Zit) (q : List Stp) (j : Nat) (u : Value) (ss : List Sl) (S : List (List Zit)) (ah : List Int) : Prop where
  own : OwnG encS 1 22 wr w.heap.size u ss
  each : ∀ s ∈ ss, Lv wr s.A s.cap s.l ∧ Far u.ownBlock s
  z : ss.map (fun s => s.l.map Itm.z) = S
  len : ss.length = j
  ahd : Ahd S ah
  wid : (widsF (q.drop j) ah).isSome = true
  e : allE a b (q.drop j) S = allE a b q []
  f : allF a b (q.drop j) S = allF a b q []
  bel : Below w.heap.size w wr

theorem AInv.step {w wr WX w2 w3 : World} {a b : List Zit} {q : List Stp} {j : Nat} {u v3 : Value} {ss : List Sl} {S : List (List Zit)} {ah : List Int} {s : Stp} {L : List Itm} {C : Option Addr} {k : Nat} {o : Obj} (h : AInv w wr a b q j u ss S ah) (hs : q.drop j = s :: q.drop (j + 1)) (ha : Wide 4 a) (hb : Wide 4 b) (hT : tellE s a b S = 0) (hgX : Gr wr WX) (hz : L.map Itm.z = tellF s a b S) (hL : Lv w2 C k L) (hB : Below WX.heap.size WX w2) (hN : NewT WX.heap.size C L)
    (hown : OwnG encS 1 22 w3 w.heap.size v3 (ss ++ [⟨C, k, L⟩])) (hg : (w2.alloc o).grownBy w3 u.ownBlock) (hloc : v3.ownBlock = u.ownBlock ∨ v3.ownBlock = some (w2.alloc o).heap.size) : AInv w w3 a b q (j + 1) v3 (ss ++ [⟨C, k, L⟩]) (S ++ [tellF s a b S]) (ah ++ [widW s ah]) := by
  have hw := widsF_cons (by rw [← hs]; exact h.wid)
  have hr := tell_right hw.1 h.ahd ha hb hT
  have hgA : Gr w2 (w2.alloc o) := (Gr.refl _).alloc _
  have hb2 : Below wr.heap.size wr (w2.alloc o) := hgX.below.trans ((hB.trans (hgA.below.mono hB.size)).mono hgX.size)
  have hlt : ∀ g, u.ownBlock = some g → g < wr.heap.size ∧ w.heap.size ≤ g := fun g e => ⟨(World.ownsRow.lt h.own g e).2, (World.ownsRow.lt h.own g e).1⟩
  have hfar : ∀ (x : Sl), Lv (w2.alloc o) x.A x.cap x.l → Far u.ownBlock x → Far v3.ownBlock x := fun x hx hf => by
    rcases hloc with e | e
    · rw [e]; exact hf
    · rw [e]; exact Far.top hx (Nat.le_refl _)
  have he : allE a b (q.drop j) S = allE a b (q.drop (j + 1)) (S ++ [tellF s a b S]) := by
    rw [hs]
    show (if tellE s a b S = 0 then _ else _) = _
    rw [if_pos hT]
  have hf : allF a b (q.drop j) S = allF a b (q.drop (j + 1)) (S ++ [tellF s a b S]) := by
    rw [hs]
    show (if tellE s a b S = 0 then _ else _) = _
    rw [if_pos hT]
  refine ⟨hown, fun x hx => ?_, by rw [List.map_append, h.z]; simp [hz], by simp [h.len], h.ahd.snoc hr.1 hr.2, hw.2, by rw [← he]; exact h.e, by rw [← hf]; exact h.f, ?_⟩
  · rcases List.mem_append.1 hx with e | e
    · have h1 := h.each x e
      have h2 := h1.1.below hb2
      exact ⟨h2.grown hg h1.2, hfar x h2 h1.2⟩
    · rw [List.mem_singleton.1 e]
      have h2 : Lv (w2.alloc o) C k L := hL.gr hgA
      have hf2 : Far u.ownBlock ⟨C, k, L⟩ := Far.new (n := WX.heap.size) hN (fun g e2 => Nat.lt_of_lt_of_le (hlt g e2).1 hgX.size)
      exact ⟨Lv.grown (s := ⟨C, k, L⟩) h2 hg hf2, hfar ⟨C, k, L⟩ h2 hf2⟩
  · exact (h.bel.trans (hb2.mono h.bel.size)).grown hg (Nat.le_trans h.bel.size hb2.size) (fun g e => (hlt g e).2)
theorem rowNewS {W : World} {n : Nat} (hn : W.heap.size = n) (x : Sl) (T : TypeId) : RowG encS 1 (W.alloc (.cells #[.slice x.A x.l.length x.cap] T)) (some ⟨n, 0, none⟩) [x] := by
  subst hn
  refine Or.inr ⟨W.heap.size, 0, rfl, by simp, fun j hj i hi => ?_⟩
  obtain rfl : j = 0 := by simp at hj; omega
  obtain rfl : i = 0 := by omega
  exact box1 (w := W) (Gr.refl _) (j := 0) rfl

set_option maxRecDepth 100000 in
set_option maxHeartbeats 1000000 in
theorem all_any (q : List Stp) (QA : Option Addr) (cq : Nat) (a b : List Itm) (A B : Option Addr) (ca cb : Nat) (w : World) (hl : q.length ≤ maxLen) (hq : Stps w QA q) (ha : Lv w A ca a) (hb : Lv w B cb b) :
    Calls Tryz.prog 20 #[.slice QA q.length cq, .slice A a.length ca, .slice B b.length cb] w fun e w' => ∃ (ss : List Sl) (C : Option Addr) (k : Nat), e = .returned (.tuple #[.slice C ss.length k, .int .i64 (plnE q (a.map Itm.z) (b.map Itm.z))]) ∧ Sts w' C ss (plnF q (a.map Itm.z) (b.map Itm.z)) ∧ Below w.heap.size w w' := by
  obtain ⟨E1, hE1⟩ : ∃ E, errQ q = E := ⟨_, rfl⟩
  obtain ⟨E2, hE2⟩ : ∃ E, tblE (a.map Itm.z) (b.map Itm.z) = E := ⟨_, rfl⟩
  have hC0 := checkQV (A := QA) (ca := cq) hE1 hl hq
  have hC : Hid _ := hC0
  obtain ⟨P, hP⟩ : ∃ P, plnE q (a.map Itm.z) (b.map Itm.z) = P := ⟨_, rfl⟩
  rw [hP]
  have hH : Hid (Stps w QA q ∧ Lv w A ca a ∧ Lv w B cb b ∧ errQ q = E1 ∧ plnE q (a.map Itm.z) (b.map Itm.z) = P ∧ tblE (a.map Itm.z) (b.map Itm.z) = E2) := ⟨hq, ha, hb, hE1, hP, hE2⟩
  clear hC0 hq ha hb hE1 hE2 hP hl
  go_enter Tryz.func20, Tryz.ntmps20
  go_wp2_with fail
  refine Calls.mono (show Calls _ _ _ _ _ from hC.out) ?_
  rintro e w0 ⟨rfl, hb0⟩
  have hbZ : Hid (Below w.heap.size w w0 ∧ Stps w0 QA q ∧ Lv w0 A ca a ∧ Lv w0 B cb b) := ⟨hb0, hH.out.1.below hb0, hH.out.2.1.below hb0, hH.out.2.2.1.below hb0⟩
  clear hb0 hC
  cases h0 : (E1 != 0)
  rotate_left
  focus
    have hfin : Hid (E1 = P ∧ plnF q (a.map Itm.z) (b.map Itm.z) = []) := by
      have hn : ¬ E1 = 0 := by simpa using h0
      have hp : P = E1 := by rw [← hH.out.2.2.2.2.1]; unfold plnE; rw [ahd_tbl, if_neg (show ¬ errQ q = 0 by rw [hH.out.2.2.2.1]; exact hn), if_neg (show ¬ errQ q = 0 by rw [hH.out.2.2.2.1]; exact hn)]; exact hH.out.2.2.2.1
      refine ⟨hp.symm, ?_⟩
      unfold plnF; rw [if_neg (by rw [hH.out.2.2.2.2.1, hp]; exact hn)]
    go_wp2
    go_ret2
    exact ⟨[], none, 0, by rw [← hfin.out.1]; rfl, ⟨Or.inl rfl, fun s hs => (by cases hs), by rw [hfin.out.2]; rfl⟩, hbZ.out.1⟩
  have hE10 : Hid (errQ q = 0) := by show _ = _; rw [hH.out.2.2.2.1]; simpa using h0
  have hT0 := tables_any a b A B ca cb w0 hbZ.out.2.2.1 hbZ.out.2.2.2
  rw [hH.out.2.2.2.2.2] at hT0
  have hT : Hid _ := hT0
  clear hT0
  go_wp2_with fail
  refine Calls.mono (show Calls _ _ _ _ _ from hT.out) ?_
  rintro e wt0 ⟨rfl, hgt⟩
  have hbY : Hid (Below w.heap.size w wt0 ∧ Stps wt0 QA q ∧ Lv wt0 A ca a ∧ Lv wt0 B cb b) := ⟨hbZ.out.1.trans (hgt.below.mono hbZ.out.1.size), hbZ.out.2.1.gr hgt, hbZ.out.2.2.1.gr hgt, hbZ.out.2.2.2.gr hgt⟩
  clear hgt hT hbZ
  cases h1 : (E2 != 0)
  · have hE0 : ahdE q (a.map Itm.z) (b.map Itm.z) = 0 := by rw [ahd_tbl, if_pos hE10.out, hH.out.2.2.2.2.2]; simpa using h1
    have hQ : Hid (ahdE q (a.map Itm.z) (b.map Itm.z) = 0 ∧ P = allE (a.map Itm.z) (b.map Itm.z) q []) := ⟨hE0, by rw [← hH.out.2.2.2.2.1]; unfold plnE; rw [if_pos hE0]⟩
    have h8 : q.length ≤ 8 := (errQ_wids (ahdE_parts hE0).1).2.1
    clear hE0
    obtain ⟨w1, hWX⟩ : ∃ WX, (wt0.alloc (.cells #[.slice A a.length ca, .slice B b.length cb] 56)) = WX := ⟨_, rfl⟩
    have hgX : Hid (Gr wt0 w1) := by show Gr _ _; rw [← hWX]; exact (Gr.refl _).alloc _
    have s0 : w1.cell? ⟨wt0.heap.size, 0, none⟩ = some (.slice A a.length ca) := by rw [← hWX]; exact box1 (w := wt0) (Gr.refl _) rfl
    have s1 : w1.cell? ⟨wt0.heap.size, 1, none⟩ = some (.slice B b.length cb) := by rw [← hWX]; exact box1 (w := wt0) (Gr.refl _) rfl
    have hst1 : wt0.heap.size < w1.heap.size := by rw [← hWX]; simp
    have hbW : Hid (Below w.heap.size w w1 ∧ Stps w1 QA q ∧ Lv w1 A ca a ∧ Lv w1 B cb b) := ⟨hbY.out.1.trans (hgX.out.below.mono hbY.out.1.size), hbY.out.2.1.gr hgX.out, hbY.out.2.2.1.gr hgX.out, hbY.out.2.2.2.gr hgX.out⟩
    clear hgX hbY
    go_wp2
    clear hWX
    go_loopw [11, 32] (fun u i wr => ∃ (j : Nat) (ss : List Sl) (S : List (List Zit)) (ah : List Int), j ≤ q.length ∧ i = .int .i64 j ∧ Hid (AInv w1 wr (a.map Itm.z) (b.map Itm.z) q j u ss S ah)) (fun _ i _ => q.length - (intOf i).toNat)
    case atStart => exact ⟨0, [], [], [], Nat.zero_le _, rfl, show AInv _ _ _ _ _ _ _ _ _ _ from ⟨OwnG.nil _ _ _ _ _, fun s hs => (by cases hs), rfl, rfl, Ahd.nil, by rw [List.drop_zero]; exact (errQ_wids (ahdE_parts hQ.out.1).1).2.2, by rw [List.drop_zero], by rw [List.drop_zero], Below.refl _ _⟩⟩
    case round =>
      obtain ⟨j, ss, S, ah, hj, rfl, hR⟩ := hrel
      obtain ⟨GA, gc, hu, hgn, hrow, _⟩ := hR.out.own.row encS_len
      have hrwH : Hid (RowG encS 1 wr GA ss) := hrow
      subst hu
      clear hrow
      by_cases hlt : j < q.length
      · have hltz : (j : Int) < (q.length : Int) := by omega
        have hI : Hid (Stps wr QA q) := hbW.out.2.1.below hR.out.bel
        obtain ⟨bb, off, rfl, hb, hcs⟩ := hI.out.at hlt
        obtain ⟨s, hs⟩ : ∃ s, q[j] = s := ⟨_, rfl⟩
        have hsm : Hid (s ∈ q) := by show _ ∈ _; rw [← hs]; exact List.getElem_mem hlt
        have hdr : Hid (q.drop j = s :: q.drop (j + 1)) := by show _ = _; rw [← hs]; exact List.drop_eq_getElem_cons hlt
        rw [hs] at hcs
        have m0 : wr.cell? ⟨bb, off + j * 7, none⟩ = some (.int .i64 s.k) := hcs 0 (by omega)
        have m1 : wr.cell? ⟨bb, off + j * 7 + 1, none⟩ = some (.int .i64 s.a) := hcs 1 (by omega)
        have m2 : wr.cell? ⟨bb, off + j * 7 + 2, none⟩ = some (.int .i64 s.b) := hcs 2 (by omega)
        have m3 : wr.cell? ⟨bb, off + j * 7 + 3, none⟩ = some (.int .i64 s.c) := hcs 3 (by omega)
        have m4 : wr.cell? ⟨bb, off + j * 7 + 4, none⟩ = some (.int .i64 s.o) := hcs 4 (by omega)
        have m5 : wr.cell? ⟨bb, off + j * 7 + 5, none⟩ = some (.int .i64 s.v) := hcs 5 (by omega)
        have m6 : wr.cell? ⟨bb, off + j * 7 + 6, none⟩ = some (.slice s.p s.l.length s.n) := hcs 6 (by omega)
        have hw := widsF_cons (by rw [← hdr.out]; exact hR.out.wid)
        obtain ⟨WX, hWX⟩ : ∃ WX, (wr.alloc (.cells #[.int .i64 s.k, .int .i64 s.a, .int .i64 s.b, .int .i64 s.c, .int .i64 s.o, .int .i64 s.v, .slice s.p s.l.length s.n] 88)) = WX := ⟨_, rfl⟩
        have hgX : Hid (Gr wr WX) := by show Gr _ _; rw [← hWX]; exact (Gr.refl _).alloc _
        have hbX : Hid (Below w1.heap.size w1 WX) := hR.out.bel.trans (hgX.out.below.mono hR.out.bel.size)
        obtain ⟨T, hT⟩ : ∃ T, tellE s (a.map Itm.z) (b.map Itm.z) S = T := ⟨_, rfl⟩
        have hC0 := tellV (sc := gc) hw.1 hR.out.ahd (Sts.gr ⟨hrwH.out, fun s hs => (hR.out.each s hs).1, hR.out.z⟩ hgX.out) (hbW.out.2.2.1.below hbX.out) (hbW.out.2.2.2.below hbX.out) ((hI.out.each s hsm.out).1.gr hgX.out)
        rw [hT] at hC0
        have hC : Hid _ := hC0
        have hTH : Hid (tellE s (a.map Itm.z) (b.map Itm.z) S = T) := hT
        have x0 : WX.cell? ⟨wr.heap.size, 0, none⟩ = some (.int .i64 s.k) := by rw [← hWX]; exact box1 (w := wr) (Gr.refl _) rfl
        have x1 : WX.cell? ⟨wr.heap.size, 1, none⟩ = some (.int .i64 s.a) := by rw [← hWX]; exact box1 (w := wr) (Gr.refl _) rfl
        have x2 : WX.cell? ⟨wr.heap.size, 2, none⟩ = some (.int .i64 s.b) := by rw [← hWX]; exact box1 (w := wr) (Gr.refl _) rfl
        have x3 : WX.cell? ⟨wr.heap.size, 3, none⟩ = some (.int .i64 s.c) := by rw [← hWX]; exact box1 (w := wr) (Gr.refl _) rfl
        have x4 : WX.cell? ⟨wr.heap.size, 4, none⟩ = some (.int .i64 s.o) := by rw [← hWX]; exact box1 (w := wr) (Gr.refl _) rfl
        have x5 : WX.cell? ⟨wr.heap.size, 5, none⟩ = some (.int .i64 s.v) := by rw [← hWX]; exact box1 (w := wr) (Gr.refl _) rfl
        have x6 : WX.cell? ⟨wr.heap.size, 6, none⟩ = some (.slice s.p s.l.length s.n) := by rw [← hWX]; exact box1 (w := wr) (Gr.refl _) rfl
        have z0 : WX.cell? ⟨wt0.heap.size, 0, none⟩ = some (.slice A a.length ca) := (hbX.out.cell (p := ⟨wt0.heap.size, 0, none⟩) hst1).trans s0
        have z1 : WX.cell? ⟨wt0.heap.size, 1, none⟩ = some (.slice B b.length cb) := (hbX.out.cell (p := ⟨wt0.heap.size, 1, none⟩) hst1).trans s1
        clear hC0 hcs hs hw hT
        cases hq : (T != 0)
        · have hT0 : Hid (tellE s (a.map Itm.z) (b.map Itm.z) S = 0) := by show _ = _; rw [hTH.out]; simpa using hq
          have hj8 : Hid (ss.length = j) := hR.out.len
          go_wp2_with (first | (go_at_call 54; (refine Calls.mono (show Calls _ _ _ _ _ from hC.out) ?_); rintro e w2 ⟨L, C, k, rfl, h1, h2, h3, h4⟩; have hTl : Hid (L.map Itm.z = tellF s (a.map Itm.z) (b.map Itm.z) S ∧ Lv w2 C k L ∧ Below WX.heap.size WX w2 ∧ NewT WX.heap.size C L) := ⟨h1, h2, h3, h4⟩; have hoX : Hid (OwnG encS 1 22 (w2.alloc (.cells #[.slice C L.length k] 22)) w1.heap.size (.slice GA ss.length gc) ss ∧ ss.length + 1 ≤ maxLen ∧ (ss.length + 1) * 24 ≤ 140737488355328 ∧ w1.heap.size ≤ (w2.alloc (.cells #[.slice C L.length k] 22)).heap.size) := ⟨((hR.out.own.gr hgX.out).below h3).gr ((Gr.refl _).alloc _), by have := hj8.out; unfold maxLen; omega, by have := hj8.out; omega, Nat.le_trans hbX.out.size (Nat.le_trans h3.size (by simp))⟩; clear h1 h2 h3 h4) | (at_builtin; refine wpList_append_s _ rfl (.tmp 46) (.tmp 48) rfl w1.heap.size (.slice GA ss.length gc) ss ⟨C, k, L⟩ ⟨w2.heap.size, 0, none⟩ 1 rfl rfl hoX.out.1 (rowNewS rfl ⟨C, k, L⟩ _) hoX.out.2.1 hoX.out.2.2.1 hoX.out.2.2.2 ?_; intro v3 w3 hown3 hg3 hloc3) | fail)
          have hfin : Hid (AInv w1 w3 (a.map Itm.z) (b.map Itm.z) q (j + 1) v3 (ss ++ [⟨C, k, L⟩]) (S ++ [tellF s (a.map Itm.z) (b.map Itm.z) S]) (ah ++ [widW s ah])) := hR.out.step hdr.out (ahdE_parts hQ.out.1).2.2.2.1 (ahdE_parts hQ.out.1).2.2.2.2 hT0.out hgX.out hTl.out.1 hTl.out.2.1 hTl.out.2.2.1 hTl.out.2.2.2 hown3 hg3 hloc3
          clear hown3 hg3 hloc3
          go_roundw
          case rel => exact ⟨j + 1, ss ++ [(⟨C, k, L⟩ : Sl)], S ++ [tellF s (a.map Itm.z) (b.map Itm.z) S], ah ++ [widW s ah], by omega, by go_num, hfin⟩
          case measure => simp [intOf]; omega
        · have hT0 : Hid (P = T ∧ plnF q (a.map Itm.z) (b.map Itm.z) = []) := by
            have hn : ¬ T = 0 := by simpa using hq
            have hp : P = T := by
              rw [hQ.out.2, ← hR.out.e, hdr.out]
              show (if tellE s (a.map Itm.z) (b.map Itm.z) S = 0 then _ else _) = _
              rw [if_neg (by rw [hTH.out]; exact hn), hTH.out]
            refine ⟨hp, ?_⟩
            unfold plnF; rw [if_neg (by rw [hH.out.2.2.2.2.1, hp]; exact hn)]
          go_wp2_with (go_at_call 54; (refine Calls.mono (show Calls _ _ _ _ _ from hC.out) ?_); rintro e w2 ⟨L, C, k, rfl, h1, h2, h3, h4⟩)
          go_ret2
          exact ⟨[], none, 0, by rw [hT0.out.1]; rfl, ⟨Or.inl rfl, fun s hs => (by cases hs), by rw [hT0.out.2]; rfl⟩, hbW.out.1.trans ((hbX.out.trans (h3.mono hbX.out.size)).mono hbW.out.1.size)⟩
      · have hltz : ¬ (j : Int) < (q.length : Int) := by omega
        have hfin : Hid (P = 0 ∧ Sts wr GA ss (plnF q (a.map Itm.z) (b.map Itm.z)) ∧ Below w.heap.size w wr) := by
          have hd : q.drop j = [] := List.drop_eq_nil_of_le (by omega)
          have he := hR.out.e
          have hf := hR.out.f
          rw [hd] at he hf
          have hP0 : P = 0 := by rw [hQ.out.2, ← he]; rfl
          refine ⟨hP0, ⟨hrwH.out, fun s hs => (hR.out.each s hs).1, ?_⟩, hbW.out.1.trans (hR.out.bel.mono hbW.out.1.size)⟩
          unfold plnF
          rw [if_pos (by rw [hH.out.2.2.2.2.1]; exact hP0), ← hf, hR.out.z]
          rfl
        go_wp2
        go_ret2
        exact ⟨ss, GA, ⟨gc, by rw [hfin.out.1]; rfl⟩, hfin.out.2.1, hfin.out.2.2⟩
  · have hfin : Hid (E2 = P ∧ plnF q (a.map Itm.z) (b.map Itm.z) = []) := by
      have hn : ¬ E2 = 0 := by simpa using h1
      have hah : ahdE q (a.map Itm.z) (b.map Itm.z) = E2 := by rw [ahd_tbl, if_pos hE10.out]; exact hH.out.2.2.2.2.2
      have hp : P = E2 := by rw [← hH.out.2.2.2.2.1]; unfold plnE; rw [if_neg (by rw [hah]; exact hn)]; exact hah
      refine ⟨hp.symm, ?_⟩
      unfold plnF; rw [if_neg (by rw [hH.out.2.2.2.2.1, hp]; exact hn)]
    go_wp2
    go_ret2
    exact ⟨[], none, 0, by rw [← hfin.out.1]; rfl, ⟨Or.inl rfl, fun s hs => (by cases hs), by rw [hfin.out.2]; rfl⟩, hbY.out.1⟩
end Go.Proofs.YtnkpfhipgcmplaaGreatDoor

namespace Go.Proofs.YtnkpfhipgcmplaaGreatDoor
open Go.RowKit Go.Sort Go.Maps

theorem par_ab {s : Stp} {ah : List Int} (h : widW s ah ≠ 0) (hk : s.k ≠ 1) : inB s.a 0 ((ah.length : Int) - 1) = true ∧ inB s.b 0 ((ah.length : Int) - 1) = true := by
  have one : ∀ {c : Int}, inB s.a 0 ((ah.length : Int) - 1) = true → c = 0 → s.b = c → inB s.b 0 ((ah.length : Int) - 1) = true := fun h1 h2 h3 => by
    simp only [inB, Bool.and_eq_true, decide_eq_true_eq] at h1 ⊢
    omega
  rcases kinds h with k | k | k | k | k | k | k | k | k
  · exact absurd k hk
  · have h1 := (par2 h k).1
    rw [wid2 k] at h
    obtain ⟨h2, _⟩ := ite_parts h
    simp only [Bool.and_eq_true, decide_eq_true_eq] at h2
    exact ⟨h1, one h1 rfl h2.1.1.1.1.2⟩
  · have h1 := (par3 h k).1
    rw [wid3 k] at h
    obtain ⟨h2, _⟩ := ite_parts h
    simp only [Bool.and_eq_true, decide_eq_true_eq] at h2
    exact ⟨h1, one h1 rfl (by simp_all)⟩
  · exact ⟨(par4 h k).1, (par4 h k).2.1⟩
  · exact ⟨(par5 h k).1, (par5 h k).2.1⟩
  · exact ⟨(par6 h k).1, (par6 h k).2.1⟩
  · have h1 := (par7 h k).1
    rw [wid7 k] at h
    obtain ⟨h2, _⟩ := ite_parts h
    simp only [Bool.and_eq_true, decide_eq_true_eq] at h2
    exact ⟨h1, one h1 rfl h2.1.1.1.1.2⟩
  · have h1 := (par8 h k).1
    rw [wid8 k] at h
    obtain ⟨h2, _⟩ := ite_parts h
    simp only [Bool.and_eq_true, decide_eq_true_eq] at h2
    exact ⟨h1, one h1 rfl h2.1.1.1.1.2⟩
  · have h1 := (par9 h k).1
    rw [wid9 k] at h
    obtain ⟨h2, _⟩ := ite_parts h
    simp only [Bool.and_eq_true, decide_eq_true_eq] at h2
    exact ⟨h1, one h1 rfl (by simp_all)⟩
theorem set_wd {l : List Itm} (e : errZ (l.map Itm.z) = 0) : Wd l := WdZ.wd (wdz_ok (by have := (set_ok e).1; omega) (set_ok e).2)

set_option maxRecDepth 100000 in
set_option maxHeartbeats 2000000 in
theorem rsets_any (q : List Stp) (QA : Option Addr) (cq : Nat) (a b : List Itm) (A B : Option Addr) (ca cb : Nat) (w : World) (hl : q.length ≤ maxLen) (hq : Stps w QA q) (ha : Lv w A ca a) (hb : Lv w B cb b) (ht : Tens w) :
    Calls Tryz.prog 21 #[.slice QA q.length cq, .slice A a.length ca, .slice B b.length cb] w fun e w' => ∃ (ss : List Sl) (C : Option Addr) (k : Nat), e = .returned (.tuple #[.slice C ss.length k, .int .i64 (plnE q (a.map Itm.z) (b.map Itm.z))]) ∧ Sts w' C ss (plnF q (a.map Itm.z) (b.map Itm.z)) ∧ Below w.heap.size w w' := by
  have mixed : Tryz.prog.follows .mixedOrders = true := by kernel_rfl
  obtain ⟨E, hE⟩ : ∃ E, ahdE q (a.map Itm.z) (b.map Itm.z) = E := ⟨_, rfl⟩
  obtain ⟨P, hP⟩ : ∃ P, plnE q (a.map Itm.z) (b.map Itm.z) = P := ⟨_, rfl⟩
  have hC0 := rbased_any q QA cq a b A B ca cb w hl hq ha hb
  rw [hE] at hC0
  have hC : Hid _ := hC0
  have hH : Hid (ahdE q (a.map Itm.z) (b.map Itm.z) = E ∧ plnE q (a.map Itm.z) (b.map Itm.z) = P) := ⟨hE, hP⟩
  have hV : Hid (Stps w QA q ∧ Lv w A ca a ∧ Lv w B cb b ∧ Tens w) := ⟨hq, ha, hb, ht⟩
  rw [hP]
  clear hC0 hq ha hb ht hE hP hl
  go_enter Tryz.func21, Tryz.ntmps21
  go_wp2_with fail
  refine Calls.mono (show Calls _ _ _ _ _ from hC.out) ?_
  rintro e w1 ⟨rfl, hb0⟩
  have hbW : Hid (Below w.heap.size w w1 ∧ Stps w1 QA q ∧ Lv w1 A ca a ∧ Lv w1 B cb b ∧ Tens w1) := ⟨hb0, hV.out.1.below hb0, hV.out.2.1.below hb0, hV.out.2.2.1.below hb0, hV.out.2.2.2.below hb0⟩
  clear hb0 hC hV
  cases h0 : (E != 0)
  rotate_left
  focus
    have hfin : Hid (E = P ∧ plnF q (a.map Itm.z) (b.map Itm.z) = []) := by
      have hn : ¬ E = 0 := by simpa using h0
      have hp : P = E := by rw [← hH.out.2]; unfold plnE; rw [if_neg (by rw [hH.out.1]; exact hn)]; exact hH.out.1
      refine ⟨hp.symm, ?_⟩
      unfold plnF; rw [if_neg (by rw [hH.out.2, hp]; exact hn)]
    go_wp2
    go_ret2
    exact ⟨[], none, 0, by rw [← hfin.out.1]; rfl, ⟨Or.inl rfl, fun s hs => (by cases hs), by rw [hfin.out.2]; rfl⟩, hbW.out.1⟩
  have hE0 : ahdE q (a.map Itm.z) (b.map Itm.z) = 0 := by rw [hH.out.1]; simpa using h0
  have hQ : Hid (ahdE q (a.map Itm.z) (b.map Itm.z) = 0 ∧ P = allE (a.map Itm.z) (b.map Itm.z) q []) := ⟨hE0, by rw [← hH.out.2]; unfold plnE; rw [if_pos hE0]⟩
  have h8 : q.length ≤ 8 := (errQ_wids (ahdE_parts hE0).1).2.1
  clear hE0
  go_wp2
  go_loopw [9, 10] (fun u i wr => ∃ (j : Nat) (ss : List Sl) (S : List (List Zit)) (ah : List Int), j ≤ q.length ∧ i = .int .i64 j ∧ Hid (AInv w1 wr (a.map Itm.z) (b.map Itm.z) q j u ss S ah)) (fun _ i _ => q.length - (intOf i).toNat)
  case atStart => exact ⟨0, [], [], [], Nat.zero_le _, rfl, show AInv _ _ _ _ _ _ _ _ _ _ from ⟨OwnG.nil _ _ _ _ _, fun s hs => (by cases hs), rfl, rfl, Ahd.nil, by rw [List.drop_zero]; exact (errQ_wids (ahdE_parts hQ.out.1).1).2.2, by rw [List.drop_zero], by rw [List.drop_zero], Below.refl _ _⟩⟩
  case round =>
    obtain ⟨j, ss, S, ah, hj, rfl, hR⟩ := hrel
    obtain ⟨GA, gc, hu, hgn, hrow, _⟩ := hR.out.own.row encS_len
    have hrwH : Hid (RowG encS 1 wr GA ss) := hrow
    subst hu
    clear hrow
    by_cases hlt : j < q.length
    · have hltz : (j : Int) < (q.length : Int) := by omega
      have hI : Hid (Stps wr QA q) := hbW.out.2.1.below hR.out.bel
      obtain ⟨qb, qo, rfl, hb, hcs⟩ := hI.out.at hlt
      obtain ⟨s, hs⟩ : ∃ s, q[j] = s := ⟨_, rfl⟩
      have hsm : Hid (s ∈ q) := by show _ ∈ _; rw [← hs]; exact List.getElem_mem hlt
      have hdr : Hid (q.drop j = s :: q.drop (j + 1)) := by show _ = _; rw [← hs]; exact List.drop_eq_getElem_cons hlt
      rw [hs] at hcs
      have m0 : wr.cell? ⟨qb, qo + j * 7, none⟩ = some (.int .i64 s.k) := hcs 0 (by omega)
      have m1 : wr.cell? ⟨qb, qo + j * 7 + 1, none⟩ = some (.int .i64 s.a) := hcs 1 (by omega)
      have m2 : wr.cell? ⟨qb, qo + j * 7 + 2, none⟩ = some (.int .i64 s.b) := hcs 2 (by omega)
      have m3 : wr.cell? ⟨qb, qo + j * 7 + 3, none⟩ = some (.int .i64 s.c) := hcs 3 (by omega)
      have m4 : wr.cell? ⟨qb, qo + j * 7 + 4, none⟩ = some (.int .i64 s.o) := hcs 4 (by omega)
      have m5 : wr.cell? ⟨qb, qo + j * 7 + 5, none⟩ = some (.int .i64 s.v) := hcs 5 (by omega)
      have m6 : wr.cell? ⟨qb, qo + j * 7 + 6, none⟩ = some (.slice s.p s.l.length s.n) := hcs 6 (by omega)
      have hwH : Hid (widW s ah ≠ 0) := (widsF_cons (by rw [← hdr.out]; exact hR.out.wid)).1
      obtain ⟨WX, hWX⟩ : ∃ WX, (wr.alloc (.cells #[.int .i64 s.k, .int .i64 s.a, .int .i64 s.b, .int .i64 s.c, .int .i64 s.o, .int .i64 s.v, .slice s.p s.l.length s.n] 88)) = WX := ⟨_, rfl⟩
      have hgX : Hid (Gr wr WX) := by show Gr _ _; rw [← hWX]; exact (Gr.refl _).alloc _
      have hbX : Hid (Below w1.heap.size w1 WX) := hR.out.bel.trans (hgX.out.below.mono hR.out.bel.size)
      obtain ⟨T, hT⟩ : ∃ T, tellE s (a.map Itm.z) (b.map Itm.z) S = T := ⟨_, rfl⟩
      have hTH : Hid (tellE s (a.map Itm.z) (b.map Itm.z) S = T) := hT
      have hTM : Hid (tellE s (a.map Itm.z) (b.map Itm.z) S = madE (refS s (a.map Itm.z) (b.map Itm.z) S) ∧ tellF s (a.map Itm.z) (b.map Itm.z) S = madL (refS s (a.map Itm.z) (b.map Itm.z) S)) := tell_made hwH.out hR.out.ahd (ahdE_parts hQ.out.1).2.1 (ahdE_parts hQ.out.1).2.2.1
      have x0 : WX.cell? ⟨wr.heap.size, 0, none⟩ = some (.int .i64 s.k) := by rw [← hWX]; exact box1 (w := wr) (Gr.refl _) rfl
      have x1 : WX.cell? ⟨wr.heap.size, 1, none⟩ = some (.int .i64 s.a) := by rw [← hWX]; exact box1 (w := wr) (Gr.refl _) rfl
      have x2 : WX.cell? ⟨wr.heap.size, 2, none⟩ = some (.int .i64 s.b) := by rw [← hWX]; exact box1 (w := wr) (Gr.refl _) rfl
      have x3 : WX.cell? ⟨wr.heap.size, 3, none⟩ = some (.int .i64 s.c) := by rw [← hWX]; exact box1 (w := wr) (Gr.refl _) rfl
      have x4 : WX.cell? ⟨wr.heap.size, 4, none⟩ = some (.int .i64 s.o) := by rw [← hWX]; exact box1 (w := wr) (Gr.refl _) rfl
      have x5 : WX.cell? ⟨wr.heap.size, 5, none⟩ = some (.int .i64 s.v) := by rw [← hWX]; exact box1 (w := wr) (Gr.refl _) rfl
      have x6 : WX.cell? ⟨wr.heap.size, 6, none⟩ = some (.slice s.p s.l.length s.n) := by rw [← hWX]; exact box1 (w := wr) (Gr.refl _) rfl
      have hsX : wr.heap.size < WX.heap.size := by rw [← hWX]; simp
      clear hcs hs hT
      by_cases hk : s.k = 1
      · have hk2 : (s.k == 1) = true := beq_iff_eq.2 hk
        have hkH : Hid (s.k = 1) := hk
        clear hk
        rcases (par1 hwH.out hkH.out).1 with h1 | h1
        · have ha2 : (s.a == 1) = false := by rw [h1]; rfl
          have hMf : Hid (a.map Itm.z = refS s (a.map Itm.z) (b.map Itm.z) S ∧ Items WX A a ∧ Below WX.heap.size WX WX ∧ Wd a) := ⟨by unfold refS tabF; rw [if_pos hkH.out, if_pos h1], (hbW.out.2.2.1.below hbX.out).items, Below.refl _ _, set_wd (ahdE_parts hQ.out.1).2.1⟩
          clear h1
          have hMd0 := rmade_any a A ca WX hMf.out.2.2.2 hMf.out.2.1 (hbW.out.2.2.2.2.below (hbX.out.trans (hMf.out.2.2.1.mono hbX.out.size)))
          rw [hMf.out.1, ← hTM.out.1, ← hTM.out.2, hTH.out] at hMd0
          have hMd : Hid _ := hMd0
          clear hMd0
          cases hq : (T != 0)
          · have hT0 : Hid (tellE s (a.map Itm.z) (b.map Itm.z) S = 0) := by show _ = _; rw [hTH.out]; simpa using hq
            have hj8 : Hid (ss.length = j) := hR.out.len
            go_wp2_with (first | (go_at_call 36; (refine Calls.mono (show Calls _ _ _ _ _ from hMd.out) ?_); rintro e w2 ⟨L, C, k, rfl, h1, h2, h3, h4⟩; have hB2 := hMf.out.2.2.1.trans (h3.mono hMf.out.2.2.1.size); have hTl : Hid (L.map Itm.z = tellF s (a.map Itm.z) (b.map Itm.z) S ∧ Lv w2 C k L ∧ Below WX.heap.size WX w2 ∧ NewT WX.heap.size C L) := ⟨h1, h2, hB2, h4.mono hMf.out.2.2.1.size⟩; have hoX : Hid (OwnG encS 1 22 (w2.alloc (.cells #[.slice C L.length k] 22)) w1.heap.size (.slice GA ss.length gc) ss ∧ ss.length + 1 ≤ maxLen ∧ (ss.length + 1) * 24 ≤ 140737488355328 ∧ w1.heap.size ≤ (w2.alloc (.cells #[.slice C L.length k] 22)).heap.size) := ⟨((hR.out.own.gr hgX.out).below hB2).gr ((Gr.refl _).alloc _), by have := hj8.out; unfold maxLen; omega, by have := hj8.out; omega, Nat.le_trans hbX.out.size (Nat.le_trans hB2.size (by simp))⟩; clear h1 h2 h3 h4 hB2) | (at_builtin; refine wpList_append_s _ rfl (.tmp 60) (.tmp 62) rfl w1.heap.size (.slice GA ss.length gc) ss ⟨C, k, L⟩ ⟨w2.heap.size, 0, none⟩ 1 rfl rfl hoX.out.1 (rowNewS rfl ⟨C, k, L⟩ _) hoX.out.2.1 hoX.out.2.2.1 hoX.out.2.2.2 ?_; intro v3 w3 hown3 hg3 hloc3) | fail)
            have hfin : Hid (AInv w1 w3 (a.map Itm.z) (b.map Itm.z) q (j + 1) v3 (ss ++ [⟨C, k, L⟩]) (S ++ [tellF s (a.map Itm.z) (b.map Itm.z) S]) (ah ++ [widW s ah])) := hR.out.step hdr.out (ahdE_parts hQ.out.1).2.2.2.1 (ahdE_parts hQ.out.1).2.2.2.2 hT0.out hgX.out hTl.out.1 hTl.out.2.1 hTl.out.2.2.1 hTl.out.2.2.2 hown3 hg3 hloc3
            clear hown3 hg3 hloc3
            go_roundw
            case rel => exact ⟨j + 1, ss ++ [(⟨C, k, L⟩ : Sl)], S ++ [tellF s (a.map Itm.z) (b.map Itm.z) S], ah ++ [widW s ah], by omega, by go_num, hfin⟩
            case measure => simp [intOf]; omega
          · have hT0 : Hid (P = T ∧ plnF q (a.map Itm.z) (b.map Itm.z) = []) := by
              have hn : ¬ T = 0 := by simpa using hq
              have hp : P = T := by
                rw [hQ.out.2, ← hR.out.e, hdr.out]
                show (if tellE s (a.map Itm.z) (b.map Itm.z) S = 0 then _ else _) = _
                rw [if_neg (by rw [hTH.out]; exact hn), hTH.out]
              refine ⟨hp, ?_⟩
              unfold plnF; rw [if_neg (by rw [hH.out.2, hp]; exact hn)]
            go_wp2_with (go_at_call 36; (refine Calls.mono (show Calls _ _ _ _ _ from hMd.out) ?_); rintro e w2 ⟨L, C, k, rfl, h1, h2, h3, h4⟩)
            go_ret2
            exact ⟨[], none, 0, by rw [hT0.out.1]; rfl, ⟨Or.inl rfl, fun s hs => (by cases hs), by rw [hT0.out.2]; rfl⟩, hbW.out.1.trans ((hbX.out.trans ((hMf.out.2.2.1.trans (h3.mono hMf.out.2.2.1.size)).mono hbX.out.size)).mono hbW.out.1.size)⟩
        · have ha2 : (s.a == 1) = true := by rw [h1]; rfl
          have hMf : Hid (b.map Itm.z = refS s (a.map Itm.z) (b.map Itm.z) S ∧ Items WX B b ∧ Below WX.heap.size WX WX ∧ Wd b) := ⟨by unfold refS tabF; rw [if_pos hkH.out, if_neg (by omega)], (hbW.out.2.2.2.1.below hbX.out).items, Below.refl _ _, set_wd (ahdE_parts hQ.out.1).2.2.1⟩
          clear h1
          have hMd0 := rmade_any b B cb WX hMf.out.2.2.2 hMf.out.2.1 (hbW.out.2.2.2.2.below (hbX.out.trans (hMf.out.2.2.1.mono hbX.out.size)))
          rw [hMf.out.1, ← hTM.out.1, ← hTM.out.2, hTH.out] at hMd0
          have hMd : Hid _ := hMd0
          clear hMd0
          cases hq : (T != 0)
          · have hT0 : Hid (tellE s (a.map Itm.z) (b.map Itm.z) S = 0) := by show _ = _; rw [hTH.out]; simpa using hq
            have hj8 : Hid (ss.length = j) := hR.out.len
            go_wp2_with (first | (go_at_call 36; (refine Calls.mono (show Calls _ _ _ _ _ from hMd.out) ?_); rintro e w2 ⟨L, C, k, rfl, h1, h2, h3, h4⟩; have hB2 := hMf.out.2.2.1.trans (h3.mono hMf.out.2.2.1.size); have hTl : Hid (L.map Itm.z = tellF s (a.map Itm.z) (b.map Itm.z) S ∧ Lv w2 C k L ∧ Below WX.heap.size WX w2 ∧ NewT WX.heap.size C L) := ⟨h1, h2, hB2, h4.mono hMf.out.2.2.1.size⟩; have hoX : Hid (OwnG encS 1 22 (w2.alloc (.cells #[.slice C L.length k] 22)) w1.heap.size (.slice GA ss.length gc) ss ∧ ss.length + 1 ≤ maxLen ∧ (ss.length + 1) * 24 ≤ 140737488355328 ∧ w1.heap.size ≤ (w2.alloc (.cells #[.slice C L.length k] 22)).heap.size) := ⟨((hR.out.own.gr hgX.out).below hB2).gr ((Gr.refl _).alloc _), by have := hj8.out; unfold maxLen; omega, by have := hj8.out; omega, Nat.le_trans hbX.out.size (Nat.le_trans hB2.size (by simp))⟩; clear h1 h2 h3 h4 hB2) | (at_builtin; refine wpList_append_s _ rfl (.tmp 60) (.tmp 62) rfl w1.heap.size (.slice GA ss.length gc) ss ⟨C, k, L⟩ ⟨w2.heap.size, 0, none⟩ 1 rfl rfl hoX.out.1 (rowNewS rfl ⟨C, k, L⟩ _) hoX.out.2.1 hoX.out.2.2.1 hoX.out.2.2.2 ?_; intro v3 w3 hown3 hg3 hloc3) | fail)
            have hfin : Hid (AInv w1 w3 (a.map Itm.z) (b.map Itm.z) q (j + 1) v3 (ss ++ [⟨C, k, L⟩]) (S ++ [tellF s (a.map Itm.z) (b.map Itm.z) S]) (ah ++ [widW s ah])) := hR.out.step hdr.out (ahdE_parts hQ.out.1).2.2.2.1 (ahdE_parts hQ.out.1).2.2.2.2 hT0.out hgX.out hTl.out.1 hTl.out.2.1 hTl.out.2.2.1 hTl.out.2.2.2 hown3 hg3 hloc3
            clear hown3 hg3 hloc3
            go_roundw
            case rel => exact ⟨j + 1, ss ++ [(⟨C, k, L⟩ : Sl)], S ++ [tellF s (a.map Itm.z) (b.map Itm.z) S], ah ++ [widW s ah], by omega, by go_num, hfin⟩
            case measure => simp [intOf]; omega
          · have hT0 : Hid (P = T ∧ plnF q (a.map Itm.z) (b.map Itm.z) = []) := by
              have hn : ¬ T = 0 := by simpa using hq
              have hp : P = T := by
                rw [hQ.out.2, ← hR.out.e, hdr.out]
                show (if tellE s (a.map Itm.z) (b.map Itm.z) S = 0 then _ else _) = _
                rw [if_neg (by rw [hTH.out]; exact hn), hTH.out]
              refine ⟨hp, ?_⟩
              unfold plnF; rw [if_neg (by rw [hH.out.2, hp]; exact hn)]
            go_wp2_with (go_at_call 36; (refine Calls.mono (show Calls _ _ _ _ _ from hMd.out) ?_); rintro e w2 ⟨L, C, k, rfl, h1, h2, h3, h4⟩)
            go_ret2
            exact ⟨[], none, 0, by rw [hT0.out.1]; rfl, ⟨Or.inl rfl, fun s hs => (by cases hs), by rw [hT0.out.2]; rfl⟩, hbW.out.1.trans ((hbX.out.trans ((hMf.out.2.2.1.trans (h3.mono hMf.out.2.2.1.size)).mono hbX.out.size)).mono hbW.out.1.size)⟩
      · have hk2 : (s.k == 1) = false := beq_eq_false_iff_ne.2 hk
        have hSts : Sts wr GA ss S := ⟨hrwH.out, fun s hs => (hR.out.each s hs).1, hR.out.z⟩
        have hab := par_ab hwH.out hk
        obtain ⟨ha0, ha1, ea, wa⟩ := hR.out.ahd.at hab.1
        obtain ⟨hb0, hb1, eb, wb⟩ := hR.out.ahd.at hab.2
        obtain ⟨gb, go, na, x, hA, hgb, hna, hnal, hxc, hxl, hxz⟩ := hSts.at ha0 ha1
        obtain ⟨gb', go', nb, y, hA', _, hnb, hnbl, hyc, hyl, hyz⟩ := hSts.at hb0 hb1
        subst hA
        cases hA'
        have hC0 := made_any hwH.out hk x.l y.l x.A y.A x.cap y.cap WX.drew (((hI.out.each s hsm.out).1.gr hgX.out).gr (Gr.refl _).drew) ((hxl.gr hgX.out).gr (Gr.refl _).drew) ((hyl.gr hgX.out).gr (Gr.refl _).drew) (by rw [hxz]; exact ea) (by rw [hyz]; exact eb) (by rw [hxz]; exact wa) (by rw [hyz]; exact wb)
        rw [hxz, hyz] at hC0
        have hrf : madeS s (getS S s.a) (getS S s.b) = refS s (a.map Itm.z) (b.map Itm.z) S := by unfold refS; rw [if_neg hk]
        rw [hrf, hna, hnb] at hC0
        have hC : Hid _ := hC0
        obtain ⟨xb, hxb⟩ : ∃ xb, wr.heap.size = xb := ⟨_, rfl⟩
        rw [hxb] at hsX x0 x1 x2 x3 x4 x5 x6
        have hKeep : Hid (∀ W', Below WX.heap.size WX W' → (fun w' => w'.cell? ⟨xb, 0, none⟩ = some (.int .i64 s.k) ∧ w'.cell? ⟨xb, 1, none⟩ = some (.int .i64 (na : Int)) ∧ w'.cell? ⟨xb, 2, none⟩ = some (.int .i64 (nb : Int)) ∧ w'.cell? ⟨xb, 3, none⟩ = some (.int .i64 s.c) ∧ w'.cell? ⟨xb, 4, none⟩ = some (.int .i64 s.o) ∧ w'.cell? ⟨xb, 5, none⟩ = some (.int .i64 s.v) ∧ w'.cell? ⟨xb, 6, none⟩ = some (.slice s.p s.l.length s.n) ∧ w'.cell? ⟨gb, go + na, none⟩ = some (.slice x.A x.l.length x.cap) ∧ w'.cell? ⟨gb, go + nb, none⟩ = some (.slice y.A y.l.length y.cap)) W') := fun W' h => ⟨(h.cell (p := ⟨xb, 0, none⟩) hsX).trans x0, (h.cell (p := ⟨xb, 1, none⟩) hsX).trans (by rw [x1, hna]), (h.cell (p := ⟨xb, 2, none⟩) hsX).trans (by rw [x2, hnb]), (h.cell (p := ⟨xb, 3, none⟩) hsX).trans x3, (h.cell (p := ⟨xb, 4, none⟩) hsX).trans x4, (h.cell (p := ⟨xb, 5, none⟩) hsX).trans x5, (h.cell (p := ⟨xb, 6, none⟩) hsX).trans x6, (h.cell (p := ⟨gb, go + na, none⟩) (Nat.lt_of_lt_of_le hgb hgX.out.size)).trans ((hgX.out.below.cell (p := ⟨gb, go + na, none⟩) hgb).trans hxc), (h.cell (p := ⟨gb, go + nb, none⟩) (Nat.lt_of_lt_of_le hgb hgX.out.size)).trans ((hgX.out.below.cell (p := ⟨gb, go + nb, none⟩) hgb).trans hyc)⟩
        have hbD : Hid (Below WX.heap.size WX WX.drew) := (Below.refl _ _).drew
        have hnaz : (na : Int) < (ss.length : Int) := by omega
        have hnbz : (nb : Int) < (ss.length : Int) := by omega
        clear hC0 hrf hk hSts hab ha0 ha1 ea wa hb0 hb1 eb wb hnal hxc hxl hxz hnbl hyc hyl hyz hna hnb hgb
        go_wp2
        clear hWX
        try rw [hxb]
        clear hxb
        refine wp_region_noPanic ?_
        refine wp_region_held_drew (S := (fun w' => w'.cell? ⟨xb, 0, none⟩ = some (.int .i64 s.k) ∧ w'.cell? ⟨xb, 1, none⟩ = some (.int .i64 (na : Int)) ∧ w'.cell? ⟨xb, 2, none⟩ = some (.int .i64 (nb : Int)) ∧ w'.cell? ⟨xb, 3, none⟩ = some (.int .i64 s.c) ∧ w'.cell? ⟨xb, 4, none⟩ = some (.int .i64 s.o) ∧ w'.cell? ⟨xb, 5, none⟩ = some (.int .i64 s.v) ∧ w'.cell? ⟨xb, 6, none⟩ = some (.slice s.p s.l.length s.n) ∧ w'.cell? ⟨gb, go + na, none⟩ = some (.slice x.A x.l.length x.cap) ∧ w'.cell? ⟨gb, go + nb, none⟩ = some (.slice y.A y.l.length y.cap))) (by kernel_rfl) (hKeep.out _ hbD.out) (fun hHeld => ?_)
        refine wpAnyH_take (i := 0) (oi := ?ois1) (v := ?vs1) ?hops1 ?hss1 ?hfs1 ?hrs1 ?hQs1 ?hys1 (by assumption) ?rests1
        case hops1 => (simp only [List.getElem?_toArray, List.getElem?_cons_zero]; rfl)
        case hss1 => kernel_rfl
        case hfs1 => kernel_rfl
        case hrs1 => kernel_rfl
        case hQs1 => exact fun _ _ _ h => h
        case hys1 => (refine Or.inl ⟨by rfl, ?_⟩; intro w hSw; (try dsimp only at hSw); go_simp <;> with_reducible rfl)
        try simp only [Act.put, List.setIfInBounds_toArray, List.set_cons_zero, List.set_cons_succ]
        refine wpAnyH_take (i := 1) (oi := ?ois2) (v := ?vs2) ?hops2 ?hss2 ?hfs2 ?hrs2 ?hQs2 ?hys2 (by assumption) ?rests2
        case hops2 => (simp only [List.getElem?_toArray, List.getElem?_cons_zero, List.getElem?_cons_succ]; rfl)
        case hss2 => kernel_rfl
        case hfs2 => kernel_rfl
        case hrs2 => kernel_rfl
        case hQs2 => exact fun _ _ _ h => h
        case hys2 => (refine Or.inl ⟨by rfl, ?_⟩; intro w hSw; (try dsimp only at hSw); go_simp <;> with_reducible rfl)
        try simp only [Act.put, List.setIfInBounds_toArray, List.set_cons_zero, List.set_cons_succ]
        refine wpAnyH_take (i := 2) (oi := ?ois3) (v := ?vs3) ?hops3 ?hss3 ?hfs3 ?hrs3 ?hQs3 ?hys3 (by assumption) ?rests3
        case hops3 => (simp only [List.getElem?_toArray, List.getElem?_cons_zero, List.getElem?_cons_succ]; rfl)
        case hss3 => kernel_rfl
        case hfs3 => kernel_rfl
        case hrs3 => kernel_rfl
        case hQs3 => exact fun _ _ _ h => h
        case hys3 => (refine Or.inl ⟨by rfl, ?_⟩; intro w hSw; (try dsimp only at hSw); go_simp <;> with_reducible rfl)
        try simp only [Act.put, List.setIfInBounds_toArray, List.set_cons_zero, List.set_cons_succ]
        refine wpAnyH_take (i := 3) (oi := ?ois4) (v := ?vs4) ?hops4 ?hss4 ?hfs4 ?hrs4 ?hQs4 ?hys4 (by assumption) ?rests4
        case hops4 => (simp only [List.getElem?_toArray, List.getElem?_cons_zero, List.getElem?_cons_succ]; rfl)
        case hss4 => kernel_rfl
        case hfs4 => kernel_rfl
        case hrs4 => kernel_rfl
        case hQs4 => exact fun _ _ _ h => h
        case hys4 => (refine Or.inl ⟨by rfl, ?_⟩; intro w hSw; (try dsimp only at hSw); go_simp <;> with_reducible rfl)
        try simp only [Act.put, List.setIfInBounds_toArray, List.set_cons_zero, List.set_cons_succ]
        refine wpAnyH_take (i := 4) (oi := ?ois5) (v := ?vs5) ?hops5 ?hss5 ?hfs5 ?hrs5 ?hQs5 ?hys5 (by assumption) ?rests5
        case hops5 => (simp only [List.getElem?_toArray, List.getElem?_cons_zero, List.getElem?_cons_succ]; rfl)
        case hss5 => kernel_rfl
        case hfs5 => kernel_rfl
        case hrs5 => kernel_rfl
        case hQs5 => exact fun _ _ _ h => h
        case hys5 => (refine Or.inl ⟨by rfl, ?_⟩; intro w hSw; (try dsimp only at hSw); go_simp <;> with_reducible rfl)
        try simp only [Act.put, List.setIfInBounds_toArray, List.set_cons_zero, List.set_cons_succ]
        refine wpAnyH_take (i := 5) (oi := ?ois6) (v := ?vs6) ?hops6 ?hss6 ?hfs6 ?hrs6 ?hQs6 ?hys6 (by assumption) ?rests6
        case hops6 => (simp only [List.getElem?_toArray, List.getElem?_cons_zero, List.getElem?_cons_succ]; rfl)
        case hss6 => kernel_rfl
        case hfs6 => kernel_rfl
        case hrs6 => kernel_rfl
        case hQs6 => exact fun _ _ _ h => h
        case hys6 => (refine Or.inl ⟨by rfl, ?_⟩; intro w hSw; (try dsimp only at hSw); go_simp <;> with_reducible rfl)
        try simp only [Act.put, List.setIfInBounds_toArray, List.set_cons_zero, List.set_cons_succ]
        refine wpAnyH_take (i := 6) (oi := ?ois7) (v := ?vs7) ?hops7 ?hss7 ?hfs7 ?hrs7 ?hQs7 ?hys7 (by assumption) ?rests7
        case hops7 => (simp only [List.getElem?_toArray, List.getElem?_cons_zero, List.getElem?_cons_succ]; rfl)
        case hss7 => kernel_rfl
        case hfs7 => kernel_rfl
        case hrs7 => kernel_rfl
        case hQs7 => exact fun _ _ _ h => h
        case hys7 => (refine Or.inl ⟨by rfl, ?_⟩; intro w hSw; (try dsimp only at hSw); go_simp <;> with_reducible rfl)
        try simp only [Act.put, List.setIfInBounds_toArray, List.set_cons_zero, List.set_cons_succ]
        refine wpAnyH_take (i := 7) (oi := ?ois8) (v := ?vs8) ?hops8 ?hss8 ?hfs8 ?hrs8 ?hQs8 ?hys8 (by assumption) ?rests8
        case hops8 => (simp only [List.getElem?_toArray, List.getElem?_cons_zero, List.getElem?_cons_succ]; rfl)
        case hss8 => kernel_rfl
        case hfs8 => kernel_rfl
        case hrs8 => kernel_rfl
        case hQs8 => exact fun _ _ _ h => h
        case hys8 => (refine Or.inl ⟨by rfl, ?_⟩; intro w hSw; (try dsimp only at hSw); go_simp <;> with_reducible rfl)
        try simp only [Act.put, List.setIfInBounds_toArray, List.set_cons_zero, List.set_cons_succ]
        refine wpAnyH_take (i := 8) (oi := ?ois9) (v := ?vs9) ?hops9 ?hss9 ?hfs9 ?hrs9 ?hQs9 ?hys9 (by assumption) ?rests9
        case hops9 => (simp only [List.getElem?_toArray, List.getElem?_cons_zero, List.getElem?_cons_succ]; rfl)
        case hss9 => kernel_rfl
        case hfs9 => kernel_rfl
        case hrs9 => kernel_rfl
        case hQs9 => exact fun _ _ _ h => h
        case hys9 => (refine Or.inl ⟨by rfl, ?_⟩; intro w hSw; (try dsimp only at hSw); go_simp <;> with_reducible rfl)
        try simp only [Act.put, List.setIfInBounds_toArray, List.set_cons_zero, List.set_cons_succ]
        refine wpAnyH_take (i := 9) (oi := ?ois10) (v := ?vs10) ?hops10 ?hss10 ?hfs10 ?hrs10 ?hQs10 ?hys10 (by assumption) ?rests10
        case hops10 => (simp only [List.getElem?_toArray, List.getElem?_cons_zero, List.getElem?_cons_succ]; rfl)
        case hss10 => kernel_rfl
        case hfs10 => kernel_rfl
        case hrs10 => kernel_rfl
        case hQs10 => exact fun _ _ _ h => h
        case hys10 => (refine Or.inl ⟨by rfl, ?_⟩; intro w hSw; (try dsimp only at hSw); go_simp <;> with_reducible rfl)
        try simp only [Act.put, List.setIfInBounds_toArray, List.set_cons_zero, List.set_cons_succ]
        refine wpAnyH_take (i := 10) (oi := ?ois11) (v := ?vs11) ?hops11 ?hss11 ?hfs11 ?hrs11 ?hQs11 ?hys11 (by assumption) ?rests11
        case hops11 => (simp only [List.getElem?_toArray, List.getElem?_cons_zero, List.getElem?_cons_succ]; rfl)
        case hss11 => kernel_rfl
        case hfs11 => kernel_rfl
        case hrs11 => kernel_rfl
        case hQs11 => exact fun _ _ _ h => h
        case hys11 => (refine Or.inl ⟨by rfl, ?_⟩; intro w hSw; (try dsimp only at hSw); go_simp <;> with_reducible rfl)
        try simp only [Act.put, List.setIfInBounds_toArray, List.set_cons_zero, List.set_cons_succ]
        refine wpAnyH_ready (rs := [11]) (by kernel_rfl) (by simp) ?_
        refine AllReadyH.cons (o := ?ois12) ?hops12 (fun K hK => ?steps12) ?mores12
        case hops12 => (simp only [List.getElem?_toArray, List.getElem?_cons_zero, List.getElem?_cons_succ]; rfl)
        case mores12 => exact AllReadyH.nil
        go_simp
        (go_at_call 56; (refine Calls.mono (show Calls _ _ _ _ _ from hC.out) ?_); rintro e wm ⟨M, MA, mc, rfl, h1, h2, h3, h4⟩; have hb2 : Hid (Below WX.heap.size WX wm) := hbD.out.trans (h3.mono hbD.out.size); have hMf : Hid (M.map Itm.z = refS s (a.map Itm.z) (b.map Itm.z) S ∧ Items wm MA M ∧ Below WX.heap.size WX wm ∧ Wd M) := ⟨h1, h2, hb2.out, h4⟩; clear h1 h2 h3 h4)
        first | (go_wp2_with fail) | skip
        refine hK.out _ _ ?_ (fun hHeld => ?_)
        · (try dsimp only); first | with_reducible exact hKeep.out _ hbD.out | with_reducible exact hKeep.out _ hb2.out | exact hKeep.out _ hbD.out | exact hKeep.out _ hb2.out
        clear hK K
        try simp only [Act.put, List.setIfInBounds_toArray, List.set_cons_zero, List.set_cons_succ]
        refine wpAnyH_take (i := 12) (oi := ?ois13) (v := ?vs13) ?hops13 ?hss13 ?hfs13 ?hrs13 ?hQs13 ?hys13 (by assumption) ?rests13
        case hops13 => (simp only [List.getElem?_toArray, List.getElem?_cons_zero, List.getElem?_cons_succ]; rfl)
        case hss13 => kernel_rfl
        case hfs13 => kernel_rfl
        case hrs13 => kernel_rfl
        case hQs13 => exact fun _ _ _ h => h
        case hys13 => (refine Or.inl ⟨by rfl, ?_⟩; intro w hSw; (try dsimp only at hSw); go_simp <;> with_reducible rfl)
        try simp only [Act.put, List.setIfInBounds_toArray, List.set_cons_zero, List.set_cons_succ]
        refine wpAnyH_done (by kernel_rfl) ?_ _
        refine NoPanic.normal ?_
        have hMd0 := rmade_any M MA mc wm hMf.out.2.2.2 hMf.out.2.1 (hbW.out.2.2.2.2.below (hbX.out.trans (hMf.out.2.2.1.mono hbX.out.size)))
        rw [hMf.out.1, ← hTM.out.1, ← hTM.out.2, hTH.out] at hMd0
        have hMd : Hid _ := hMd0
        clear hMd0
        cases hq : (T != 0)
        · have hT0 : Hid (tellE s (a.map Itm.z) (b.map Itm.z) S = 0) := by show _ = _; rw [hTH.out]; simpa using hq
          have hj8 : Hid (ss.length = j) := hR.out.len
          go_wp2_with (first | (go_at_call 36; (refine Calls.mono (show Calls _ _ _ _ _ from hMd.out) ?_); rintro e w2 ⟨L, C, k, rfl, h1, h2, h3, h4⟩; have hB2 := hMf.out.2.2.1.trans (h3.mono hMf.out.2.2.1.size); have hTl : Hid (L.map Itm.z = tellF s (a.map Itm.z) (b.map Itm.z) S ∧ Lv w2 C k L ∧ Below WX.heap.size WX w2 ∧ NewT WX.heap.size C L) := ⟨h1, h2, hB2, h4.mono hMf.out.2.2.1.size⟩; have hoX : Hid (OwnG encS 1 22 (w2.alloc (.cells #[.slice C L.length k] 22)) w1.heap.size (.slice (some ⟨gb, go, none⟩) ss.length gc) ss ∧ ss.length + 1 ≤ maxLen ∧ (ss.length + 1) * 24 ≤ 140737488355328 ∧ w1.heap.size ≤ (w2.alloc (.cells #[.slice C L.length k] 22)).heap.size) := ⟨((hR.out.own.gr hgX.out).below hB2).gr ((Gr.refl _).alloc _), by have := hj8.out; unfold maxLen; omega, by have := hj8.out; omega, Nat.le_trans hbX.out.size (Nat.le_trans hB2.size (by simp))⟩; clear h1 h2 h3 h4 hB2) | (at_builtin; refine wpList_append_s _ rfl (.tmp 60) (.tmp 62) rfl w1.heap.size (.slice (some ⟨gb, go, none⟩) ss.length gc) ss ⟨C, k, L⟩ ⟨w2.heap.size, 0, none⟩ 1 rfl rfl hoX.out.1 (rowNewS rfl ⟨C, k, L⟩ _) hoX.out.2.1 hoX.out.2.2.1 hoX.out.2.2.2 ?_; intro v3 w3 hown3 hg3 hloc3) | fail)
          have hfin : Hid (AInv w1 w3 (a.map Itm.z) (b.map Itm.z) q (j + 1) v3 (ss ++ [⟨C, k, L⟩]) (S ++ [tellF s (a.map Itm.z) (b.map Itm.z) S]) (ah ++ [widW s ah])) := hR.out.step hdr.out (ahdE_parts hQ.out.1).2.2.2.1 (ahdE_parts hQ.out.1).2.2.2.2 hT0.out hgX.out hTl.out.1 hTl.out.2.1 hTl.out.2.2.1 hTl.out.2.2.2 hown3 hg3 hloc3
          clear hown3 hg3 hloc3
          go_roundw
          case rel => exact ⟨j + 1, ss ++ [(⟨C, k, L⟩ : Sl)], S ++ [tellF s (a.map Itm.z) (b.map Itm.z) S], ah ++ [widW s ah], by omega, by go_num, hfin⟩
          case measure => simp [intOf]; omega
        · have hT0 : Hid (P = T ∧ plnF q (a.map Itm.z) (b.map Itm.z) = []) := by
            have hn : ¬ T = 0 := by simpa using hq
            have hp : P = T := by
              rw [hQ.out.2, ← hR.out.e, hdr.out]
              show (if tellE s (a.map Itm.z) (b.map Itm.z) S = 0 then _ else _) = _
              rw [if_neg (by rw [hTH.out]; exact hn), hTH.out]
            refine ⟨hp, ?_⟩
            unfold plnF; rw [if_neg (by rw [hH.out.2, hp]; exact hn)]
          go_wp2_with (go_at_call 36; (refine Calls.mono (show Calls _ _ _ _ _ from hMd.out) ?_); rintro e w2 ⟨L, C, k, rfl, h1, h2, h3, h4⟩)
          go_ret2
          exact ⟨[], none, 0, by rw [hT0.out.1]; rfl, ⟨Or.inl rfl, fun s hs => (by cases hs), by rw [hT0.out.2]; rfl⟩, hbW.out.1.trans ((hbX.out.trans ((hMf.out.2.2.1.trans (h3.mono hMf.out.2.2.1.size)).mono hbX.out.size)).mono hbW.out.1.size)⟩
    · have hltz : ¬ (j : Int) < (q.length : Int) := by omega
      have hfin : Hid (P = 0 ∧ Sts wr GA ss (plnF q (a.map Itm.z) (b.map Itm.z)) ∧ Below w.heap.size w wr) := by
        have hd : q.drop j = [] := List.drop_eq_nil_of_le (by omega)
        have he := hR.out.e
        have hf := hR.out.f
        rw [hd] at he hf
        have hP0 : P = 0 := by rw [hQ.out.2, ← he]; rfl
        refine ⟨hP0, ⟨hrwH.out, fun s hs => (hR.out.each s hs).1, ?_⟩, hbW.out.1.trans (hR.out.bel.mono hbW.out.1.size)⟩
        unfold plnF
        rw [if_pos (by rw [hH.out.2]; exact hP0), ← hf, hR.out.z]
        rfl
      go_wp2
      go_ret2
      exact ⟨ss, GA, ⟨gc, by rw [hfin.out.1]; rfl⟩, hfin.out.2.1, hfin.out.2.2⟩
end Go.Proofs.YtnkpfhipgcmplaaGreatDoor

namespace Go.Proofs.YtnkpfhipgcmplaaGreatDoor
open Go.RowKit Go.Sort Go.Maps

theorem plnF_len {q : List Stp} {a b : List Zit} (h : plnE q a b = 0) : (plnF q a b).length = q.length ∧ 0 < q.length := by
  obtain ⟨h1, h2, h3⟩ := plnE_parts h
  obtain ⟨k1, _, _, k4, k5⟩ := ahdE_parts h1
  obtain ⟨q1, _, q3⟩ := errQ_wids k1
  obtain ⟨ah', m1, m2⟩ := all_right k4 k5 q [] [] q3 Ahd.nil h2
  rw [h3, m2]
  exact ⟨by simp, List.length_pos_iff.2 q1⟩
theorem evl_no {q : List Stp} {a b : List Zit} (h : ¬ plnE q a b = 0) : evlF q a b = [] := by
  unfold evlF plnF
  rw [if_neg h]
  rfl
set_option maxRecDepth 100000 in
set_option maxHeartbeats 1000000 in
theorem eval_any (q : List Stp) (QA : Option Addr) (cq : Nat) (a b : List Itm) (A B : Option Addr) (ca cb : Nat) (w : World) (hl : q.length ≤ maxLen) (hq : Stps w QA q) (ha : Lv w A ca a) (hb : Lv w B cb b) :
    Calls Tryz.prog 22 #[.slice QA q.length cq, .slice A a.length ca, .slice B b.length cb] w fun e w' => ∃ (L : List Itm) (C : Option Addr) (k : Nat), e = .returned (.tuple #[.slice C L.length k, .int .i64 (plnE q (a.map Itm.z) (b.map Itm.z))]) ∧ L.map Itm.z = evlF q (a.map Itm.z) (b.map Itm.z) ∧ Lv w' C k L ∧ Below w.heap.size w w' := by
  have hC0 := all_any q QA cq a b A B ca cb w hl hq ha hb
  obtain ⟨P, hP⟩ : ∃ P, plnE q (a.map Itm.z) (b.map Itm.z) = P := ⟨_, rfl⟩
  have hPH : Hid (plnE q (a.map Itm.z) (b.map Itm.z) = P) := hP
  rw [hP] at hC0 ⊢
  have hC : Hid _ := hC0
  clear hC0 hP hl hq ha hb
  go_enter Tryz.func22, Tryz.ntmps22
  go_wp2_with fail
  refine Calls.mono (show Calls _ _ _ _ _ from hC.out) ?_
  rintro e w1 ⟨ss, C, k, rfl, hS0, hb0⟩
  have hS : Hid (Sts w1 C ss (plnF q (a.map Itm.z) (b.map Itm.z)) ∧ Below w.heap.size w w1) := ⟨hS0, hb0⟩
  clear hC hS0 hb0
  cases h1 : (P != 0)
  · have hP0 : P = 0 := by simpa using h1
    have h0 : plnE q (a.map Itm.z) (b.map Itm.z) = 0 := by rw [hPH.out, hP0]
    have hlen := plnF_len h0
    have hsl : ss.length = q.length := by
      have := congrArg List.length hS.out.1.z
      simp at this
      omega
    obtain ⟨bb, off, n, x, rfl, hbb, hn, hnl, hxc, hxl, hxz⟩ := hS.out.1.at (i := ((q.length - 1 : Nat) : Int)) (by omega) (by rw [hlen.1]; omega)
    have hn' : n = q.length - 1 := by omega
    have hfin : Hid (x.l.map Itm.z = evlF q (a.map Itm.z) (b.map Itm.z) ∧ Lv w1 x.A x.cap x.l) := ⟨hxz, hxl⟩
    have hq8 := (errQ_wids (ahdE_parts (plnE_parts h0).1).1).2.1
    have hn8 : (n : Int) ≤ 8 := by omega
    have hwn : wrap64 (n : Int) = (n : Int) := by unfold wrap64; omega
    have hi2 : (ss.length : Int) - 1 = (n : Int) := by omega
    have hnz : (n : Int) < (ss.length : Int) := by omega
    clear hxl hxz hn hn' hsl hlen h0 hq8
    go_wp2
    go_ret2
    exact ⟨x.l, x.A, x.cap, by rw [hP0]; rfl, hfin.out.1, hfin.out.2, hS.out.2⟩
  · have hfin : Hid (evlF q (a.map Itm.z) (b.map Itm.z) = []) := evl_no (by rw [hPH.out]; simpa using h1)
    go_wp2
    go_ret2
    exact ⟨[], none, 0, rfl, by rw [hfin.out]; rfl, ⟨⟨Or.inl rfl, fun x hx => (by cases hx)⟩, fun _ => rfl, Nat.zero_le _⟩, hS.out.2⟩
end Go.Proofs.YtnkpfhipgcmplaaGreatDoor
