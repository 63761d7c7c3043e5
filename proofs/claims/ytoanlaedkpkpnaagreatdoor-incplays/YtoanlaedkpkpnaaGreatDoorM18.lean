/-
  Views in memory; inc.New, All.
  The first steps of a query tell what they do alone; one more step.
  inc.Feed: what comes to a view, and what it tells more.
-/
import Derived.Test.YtoanlaedkpkpnaaGreatDoorM16
import Derived.Test.YtoanlaedkpkpnaaGreatDoorM17
namespace Go.Proofs.YtoanlaedkpkpnaaGreatDoor
open Go.RowKit Go.Sort Go.Maps

/-- A block that has slices alone. -/
def Slo (w : World) (V : Nat) : Prop := ∀ j v, w.cell? ⟨V, j, none⟩ = some v → ∃ p n c, v = .slice p n c
theorem Slo.rowI {w : World} {V : Nat} (h : Slo w V) {A : Option Addr} {l : List Int} (hr : RowI w A l) : ∀ a, A = some a → l ≠ [] → a.block ≠ V := by
  intro a ha hl e
  obtain ⟨b, off, hA, _, hc⟩ := hr.at (m := 0) (List.length_pos_iff.2 hl)
  rw [ha] at hA
  cases hA
  subst e
  obtain ⟨p, n, c, hv⟩ := h _ _ (hc 0 (List.length_pos_iff.2 hl) 0 (by omega))
  cases hv
theorem Slo.lv {w : World} {V : Nat} (h : Slo w V) {A : Option Addr} {c : Nat} {l : List Itm} (hl : Lv w A c l) : Far (some V) ⟨A, c, l⟩ := by
  refine ⟨fun a ha hne e => ?_, fun x hx a ha hne e => ?_⟩
  · have ha' : A = some a := ha
    have hne' : l ≠ [] := hne
    obtain ⟨b, off, hA, _, hc⟩ := hl.items.row.at (m := 0) (List.length_pos_iff.2 hne')
    rw [ha'] at hA
    cases hA
    have e' : b = V := by injection e
    subst e'
    obtain ⟨p, n, k, hv⟩ := h _ _ (hc 0 (List.length_pos_iff.2 hne') 1 (by omega))
    cases hv
  · exact h.rowI (hl.items.each x hx).1 a ha hne (by injection e)
theorem Slo.stps {w w' : World} {V : Nat} (h : Slo w V) {A : Option Addr} {q : List Stp} (hq : Stps w A q) (hg : w.grownBy w' (some V)) : Stps w' A q := by
  refine ⟨hq.row.grown hg fun a ha hne e => ?_, fun s hs => ⟨(hq.each s hs).1.grown hg fun a ha hne e => ?_, (hq.each s hs).2⟩⟩
  · obtain ⟨b, off, hA, _, hc⟩ := hq.row.at (m := 0) (List.length_pos_iff.2 hne)
    rw [ha] at hA
    cases hA
    have e' : b = V := by injection e
    subst e'
    obtain ⟨p, n, k, hv⟩ := h _ _ (hc 0 (List.length_pos_iff.2 hne) 0 (by omega))
    cases hv
  · exact h.rowI (hq.each s hs).1 a ha hne (by injection e)
theorem Slo.keep {w w' : World} {V : Nat} (h : Slo w V) {A : Option Addr} {c : Nat} {l : List Itm} (hl : Lv w A c l) (hg : w.grownBy w' (some V)) : Lv w' A c l := Lv.grown (s := ⟨A, c, l⟩) hl hg (h.lv hl)

/-- A view in memory. -/
structure Vw (w : World) (V : Nat) (q : List Stp) (QA : Option Addr) (cq : Nat) (a : List Itm) (A : Option Addr) (ca : Nat) (b : List Itm) (B : Option Addr) (cb : Nat) : Prop where
  lt : V < w.heap.size
  fz : ∀ j, w.frozen? ⟨V, j, none⟩ = false
  slo : Slo w V
  c0 : w.cell? ⟨V, 0, none⟩ = some (.slice QA q.length cq)
  c1 : w.cell? ⟨V, 1, none⟩ = some (.slice A a.length ca)
  c2 : w.cell? ⟨V, 2, none⟩ = some (.slice B b.length cb)
  st : Stps w QA q
  len : q.length ≤ 8
  la : Lv w A ca a
  lb : Lv w B cb b
theorem Vw.below {w w' : World} {V : Nat} {q : List Stp} {QA : Option Addr} {cq : Nat} {a : List Itm} {A : Option Addr} {ca : Nat} {b : List Itm} {B : Option Addr} {cb : Nat} (h : Vw w V q QA cq a A ca b B cb) (k : Below w.heap.size w w') : Vw w' V q QA cq a A ca b B cb :=
  ⟨Nat.lt_of_lt_of_le h.lt k.size, fun j => (k.frozen (p := ⟨V, j, none⟩) h.lt).trans (h.fz j), fun j v hv => h.slo j v ((k.cell (p := ⟨V, j, none⟩) h.lt).symm.trans hv), (k.cell (p := ⟨V, 0, none⟩) h.lt).trans h.c0, (k.cell (p := ⟨V, 1, none⟩) h.lt).trans h.c1, (k.cell (p := ⟨V, 2, none⟩) h.lt).trans h.c2, h.st.below k, h.len, h.la.below k, h.lb.below k⟩
theorem Vw.gr {w w' : World} {V : Nat} {q : List Stp} {QA : Option Addr} {cq : Nat} {a : List Itm} {A : Option Addr} {ca : Nat} {b : List Itm} {B : Option Addr} {cb : Nat} (h : Vw w V q QA cq a A ca b B cb) (k : Gr w w') : Vw w' V q QA cq a A ca b B cb := h.below k.below
theorem lv_nil (w : World) : Lv w none 0 [] := ⟨⟨Or.inl rfl, fun x hx => (by cases hx)⟩, fun _ => rfl, Nat.zero_le _⟩

set_option maxHeartbeats 1000000 in
theorem new_bad (q : List Stp) (QA : Option Addr) (cq : Nat) (w : World) (hl : q.length ≤ maxLen) (hq : Stps w QA q) (he : ¬ errQ q = 0) :
    Calls Tryz.prog 4 #[.slice QA q.length cq] w fun e w' => e = .returned (.tuple #[.pointer none, .int .i64 (errQ q)]) ∧ Below w.heap.size w w' := by
  have hC0 := checkQV (A := QA) (ca := cq) rfl hl hq
  obtain ⟨E, hE⟩ : ∃ E, errQ q = E := ⟨_, rfl⟩
  rw [hE] at hC0 he ⊢
  have hE0 : (E != 0) = true := by simpa using he
  have hC : Hid _ := hC0
  clear hC0 hq hl he hE
  go_enter Tryz.func4, Tryz.ntmps4
  go_wp2_with fail
  refine Calls.mono (show Calls _ _ _ _ _ from hC.out) ?_
  rintro e w1 ⟨rfl, hb1⟩
  have hbH : Hid (Below w.heap.size w w1) := hb1
  clear hb1 hC
  go_wp2
  go_ret2
  exact ⟨rfl, hbH.out⟩

set_option maxRecDepth 100000 in
set_option maxHeartbeats 1000000 in
theorem new_ok (q : List Stp) (QA : Option Addr) (cq : Nat) (w : World) (hl : q.length ≤ maxLen) (hq : Stps w QA q) (he : errQ q = 0) :
    Calls Tryz.prog 4 #[.slice QA q.length cq] w fun e w' => ∃ (V : Nat) (q' : List Stp) (QB : Option Addr) (cr : Nat), e = .returned (.tuple #[.pointer (some ⟨V, 0, none⟩), .int .i64 0]) ∧ q'.map bare = q.map bare ∧ Vw w' V q' QB cr [] none 0 [] none 0 ∧ w.heap.size ≤ V ∧ Below w.heap.size w w' := by
  have hC0 := checkQV (A := QA) (ca := cq) he hl hq
  have hC : Hid _ := hC0
  have hs := errQ_short he
  have hH : Hid (Stps w QA q ∧ q.length ≤ 8 ∧ ∀ s ∈ q, s.l.length ≤ 8) := ⟨hq, hs.1, hs.2⟩
  clear hC0 hq hl he hs
  go_enter Tryz.func4, Tryz.ntmps4
  go_wp2_with fail
  refine Calls.mono (show Calls _ _ _ _ _ from hC.out) ?_
  rintro e w1 ⟨rfl, hb1⟩
  have hD0 := copyS_any q QA cq w1 hH.out.2.1 hH.out.2.2 (hH.out.1.below hb1)
  have hD : Hid _ := hD0
  have hbH : Hid (Below w.heap.size w w1) := hb1
  clear hb1 hC hD0
  go_wp2_with fail
  refine Calls.mono (show Calls _ _ _ _ _ from hD.out) ?_
  rintro e w2 ⟨q', C, k, rfl, h1, h2, h3, h4, h5⟩
  have hfin : Hid (q'.map bare = q.map bare ∧ Vw (w2.alloc (.cells #[.slice C q'.length k, .slice none 0 0, .slice none 0 0] 45)) w2.heap.size q' C k [] none 0 [] none 0 ∧ w.heap.size ≤ w2.heap.size ∧ Below w.heap.size w (w2.alloc (.cells #[.slice C q'.length k, .slice none 0 0, .slice none 0 0] 45))) := by
    have hg : Gr w2 (w2.alloc (.cells #[.slice C q'.length k, .slice none 0 0, .slice none 0 0] 45)) := (Gr.refl _).alloc _
    have hbw := hbH.out.trans (h5.mono hbH.out.size)
    have hlen : q'.length = q.length := by have := congrArg List.length h1; simpa using this
    refine ⟨h1, ⟨by simp, fun j => box1f (w := w2) (Gr.refl _) j, fun j v hv => ?_, box1 (w := w2) (Gr.refl _) rfl, box1 (w := w2) (Gr.refl _) rfl, box1 (w := w2) (Gr.refl _) rfl, h2.gr hg, by rw [hlen]; exact hH.out.2.1, lv_nil _, lv_nil _⟩, hbw.size, hbw.trans (hg.below.mono hbw.size)⟩
    rw [World.cell?_alloc_new] at hv
    match j, hv with
    | 0, hv => exact ⟨_, _, _, (Option.some.inj hv).symm⟩
    | 1, hv => exact ⟨_, _, _, (Option.some.inj hv).symm⟩
    | 2, hv => exact ⟨_, _, _, (Option.some.inj hv).symm⟩
    | n + 3, hv => simp at hv
  clear h1 h2 h3 h4 h5 hD
  go_wp2
  go_ret2
  exact ⟨w2.heap.size, q', C, k, rfl, hfin.out⟩

set_option maxRecDepth 100000 in
set_option maxHeartbeats 1000000 in
theorem allW_any (w : World) (V : Nat) (q : List Stp) (QA : Option Addr) (cq : Nat) (a : List Itm) (A : Option Addr) (ca : Nat) (b : List Itm) (B : Option Addr) (cb : Nat) (h : Vw w V q QA cq a A ca b B cb) :
    Calls Tryz.prog 9 #[.pointer (some ⟨V, 0, none⟩)] w fun e w' => ∃ (L : List Itm) (C : Option Addr) (k : Nat), e = .returned (.slice C L.length k) ∧ L.map Itm.z = evlF q (a.map Itm.z) (b.map Itm.z) ∧ Lv w' C k L ∧ Below w.heap.size w w' := by
  have mixed : Tryz.prog.follows .mixedOrders = true := by kernel_rfl
  have hq8 := h.len
  have hE0 : Hid (∀ W, Gr w W → Calls Tryz.prog 17 #[.slice QA q.length cq, .slice A a.length ca, .slice B b.length cb] W fun e w' => ∃ (L : List Itm) (C : Option Addr) (k : Nat), e = .returned (.tuple #[.slice C L.length k, .int .i64 (plnE q (a.map Itm.z) (b.map Itm.z))]) ∧ L.map Itm.z = evlF q (a.map Itm.z) (b.map Itm.z) ∧ Lv w' C k L ∧ Below W.heap.size W w') := fun W hg => eval_any q QA cq a b A B ca cb W (by unfold maxLen; omega) (h.st.gr hg) (h.la.gr hg) (h.lb.gr hg)
  have c0 := h.c0
  have c1 := h.c1
  have c2 := h.c2
  clear h hq8
  go_enter Tryz.func9, Tryz.ntmps9
  go_wp2
  go_region_with (go_at_call 17; refine Calls.mono (hE0.out _ (Gr.refl w).drew) ?_; rintro e w1 ⟨L, C, k, rfl, h1, h2, h3⟩)
  all_goals
    have hfin : Hid (L.map Itm.z = evlF q (a.map Itm.z) (b.map Itm.z) ∧ Lv w1 C k L ∧ Below w.heap.size w w1) := ⟨h1, h2, (Gr.refl w).drew.below.trans h3⟩
    clear h1 h2 h3
    go_wp2
    go_ret
    exact ⟨L, C, k, rfl, hfin.out⟩
end Go.Proofs.YtoanlaedkpkpnaaGreatDoor

namespace Go.Proofs.YtoanlaedkpkpnaaGreatDoor

theorem allE_append {a b : List Zit} : ∀ (q r : List Stp) (S : List (List Zit)), allE a b q S = 0 → allE a b (q ++ r) S = allE a b r (allF a b q S)
  | [], _, _, _ => rfl
  | s :: t, r, S, h => by
    obtain ⟨h1, h2, h3⟩ := allE_cons h
    rw [h3, ← allE_append t r _ h2]
    show (if tellE s a b S = 0 then _ else _) = _
    rw [if_pos h1]
    rfl
theorem allF_append {a b : List Zit} : ∀ (q r : List Stp) (S : List (List Zit)), allE a b q S = 0 → allF a b (q ++ r) S = allF a b r (allF a b q S)
  | [], _, _, _ => rfl
  | s :: t, r, S, h => by
    obtain ⟨h1, h2, h3⟩ := allE_cons h
    rw [h3, ← allF_append t r _ h2]
    show (if tellE s a b S = 0 then _ else _) = _
    rw [if_pos h1]
    rfl
theorem allE_left {a b : List Zit} : ∀ (q r : List Stp) (S : List (List Zit)), allE a b (q ++ r) S = 0 → allE a b q S = 0
  | [], _, _, _ => rfl
  | s :: t, r, S, h => by
    obtain ⟨h1, h2, _⟩ := allE_cons (t := t ++ r) h
    show (if tellE s a b S = 0 then _ else _) = _
    rw [if_pos h1]
    exact allE_left t r _ h2
theorem allF_pre {a b : List Zit} : ∀ (r : List Stp) (S : List (List Zit)), allE a b r S = 0 → ∀ i, i < S.length → (allF a b r S).getD i [] = S.getD i []
  | [], _, _, _, _ => rfl
  | s :: t, S, h, i, hi => by
    obtain ⟨_, h2, h3⟩ := allE_cons h
    rw [h3, allF_pre t _ h2 i (by simp; omega), getD_snoc, if_pos hi]
theorem widsF_append : ∀ (q r : List Stp) (ah : List Int), widsF (q ++ r) ah = (widsF q ah).bind (widsF r)
  | [], _, _ => rfl
  | s :: t, r, ah => by
    show (if widW s ah = 0 then none else widsF (t ++ r) (ah ++ [widW s ah])) = (if widW s ah = 0 then none else widsF t (ah ++ [widW s ah])).bind (widsF r)
    by_cases e : widW s ah = 0
    · rw [if_pos e, if_pos e]; rfl
    · rw [if_neg e, if_neg e]; exact widsF_append t r _
theorem widsF_left {q r : List Stp} (h : (widsF (q ++ r) []).isSome = true) : (widsF q []).isSome = true := by
  rw [widsF_append] at h
  cases e : widsF q [] with
  | none => rw [e] at h; cases h
  | some l => rfl
theorem errQ_ok {q : List Stp} (h1 : q ≠ []) (h2 : q.length ≤ 8) (h3 : (widsF q []).isSome = true) : errQ q = 0 := by
  unfold errQ
  rw [if_neg (by have := List.length_pos_iff.2 h1; omega), if_neg (by omega), if_pos h3]
theorem ahdE_q {q q' : List Stp} {a b : List Zit} (h : ahdE q a b = 0) (hq : errQ q' = 0) : ahdE q' a b = 0 := by
  unfold ahdE at h ⊢
  rw [if_pos hq]
  have h1 := (ahdE_parts (q := q) (a := a) (b := b) (by unfold ahdE; exact h)).1
  rw [if_pos h1] at h
  exact h
/-- The first steps. -/
theorem first_steps {q : List Stp} {a b : List Zit} (h : plnE q a b = 0) {k : Nat} (hk : k < q.length) : plnE (q.take (k + 1)) a b = 0 ∧ evlF (q.take (k + 1)) a b = (plnF q a b).getD k [] := by
  obtain ⟨h1, h2, h3⟩ := plnE_parts h
  obtain ⟨q1, q2, q3⟩ := errQ_wids (ahdE_parts h1).1
  have hq : q = q.take (k + 1) ++ q.drop (k + 1) := (List.take_append_drop _ _).symm
  have hl : (q.take (k + 1)).length = k + 1 := by simp; omega
  have e1 : allE a b (q.take (k + 1)) [] = 0 := allE_left _ (q.drop (k + 1)) [] (by rw [← hq]; exact h2)
  have e2 : errQ (q.take (k + 1)) = 0 := errQ_ok (fun e => by rw [e] at hl; cases hl) (by omega) (widsF_left (r := q.drop (k + 1)) (by rw [← hq]; exact q3))
  have e3 : ahdE (q.take (k + 1)) a b = 0 := ahdE_q h1 e2
  have e4 : plnE (q.take (k + 1)) a b = 0 := by unfold plnE; rw [if_pos e3]; exact e1
  refine ⟨e4, ?_⟩
  obtain ⟨_, _, e5⟩ := plnE_parts e4
  have hw := (ahdE_parts h1).2.2.2
  obtain ⟨_, m1, m2⟩ := all_right hw.1 hw.2 (q.take (k + 1)) [] [] (errQ_wids e2).2.2 Ahd.nil e1
  unfold evlF
  rw [e5, h3, hl]
  have : allF a b q [] = allF a b (q.drop (k + 1)) (allF a b (q.take (k + 1)) []) := by rw [← allF_append _ _ _ e1, ← hq]
  rw [this, allF_pre _ _ (by rw [← allE_append _ _ _ e1, ← hq]; exact h2) k (by rw [m2, hl]; simp)]
  simp
/-- The widths behind a query's steps. -/
theorem ahd_of {q : List Stp} {a b : List Zit} (h : plnE q a b = 0) : ∃ ah, widsF q [] = some ah ∧ Ahd (plnF q a b) ah ∧ (∀ x ∈ ah, x ≠ 0) := by
  obtain ⟨h1, h2, h3⟩ := plnE_parts h
  obtain ⟨q1, q2, q3⟩ := errQ_wids (ahdE_parts h1).1
  have hw := (ahdE_parts h1).2.2.2
  rw [h3]
  have key : ∀ (r : List Stp) (S : List (List Zit)) (ah : List Int), (widsF r ah).isSome = true → Ahd S ah → (∀ x ∈ ah, x ≠ 0) → allE a b r S = 0 → ∃ ah', widsF r ah = some ah' ∧ Ahd (allF a b r S) ah' ∧ ∀ x ∈ ah', x ≠ 0 := by
    intro r
    induction r with
    | nil => intro S ah _ hS hn _; exact ⟨ah, rfl, hS, hn⟩
    | cons s t ih =>
      intro S ah hw' hS hn he
      obtain ⟨w1, w2⟩ := widsF_cons hw'
      obtain ⟨e1, e2, e3⟩ := allE_cons he
      obtain ⟨r1, r2⟩ := tell_right w1 hS hw.1 hw.2 e1
      obtain ⟨ah', k1, k2, k3⟩ := ih _ _ w2 (hS.snoc r1 r2) (fun x hx => by
        rcases List.mem_append.1 hx with e | e
        · exact hn x e
        · rw [List.mem_singleton.1 e]; exact w1) e2
      refine ⟨ah', ?_, by rw [e3]; exact k2, k3⟩
      show (if widW s ah = 0 then none else widsF t (ah ++ [widW s ah])) = _
      rw [if_neg w1]; exact k1
  exact key q [] [] q3 Ahd.nil (fun x hx => by cases hx) h2
/-- One more step. -/
theorem one_more {q : List Stp} {a b : List Zit} (h : plnE q a b = 0) (h7 : q.length ≤ 7) {ah : List Int} (hah : widsF q [] = some ah) {s : Stp} (hw : widW s ah ≠ 0) (ht : tellE s a b (plnF q a b) = 0) : plnE (q ++ [s]) a b = 0 ∧ plnF (q ++ [s]) a b = plnF q a b ++ [tellF s a b (plnF q a b)] ∧ evlF (q ++ [s]) a b = tellF s a b (plnF q a b) := by
  obtain ⟨h1, h2, h3⟩ := plnE_parts h
  have hw2 : (widsF (q ++ [s]) []).isSome = true := by
    rw [widsF_append, hah]
    show (if widW s ah = 0 then none else widsF [] (ah ++ [widW s ah])).isSome = true
    rw [if_neg hw]; rfl
  have e2 : errQ (q ++ [s]) = 0 := errQ_ok (by simp) (by simp; omega) hw2
  have e3 := ahdE_q h1 e2
  have e4 : allE a b (q ++ [s]) [] = 0 := by
    rw [allE_append _ _ _ h2, ← h3]
    show (if tellE s a b (plnF q a b) = 0 then 0 else _) = 0
    rw [if_pos ht]
  have e5 : plnE (q ++ [s]) a b = 0 := by unfold plnE; rw [if_pos e3]; exact e4
  have e6 : plnF (q ++ [s]) a b = plnF q a b ++ [tellF s a b (plnF q a b)] := by
    obtain ⟨_, _, k⟩ := plnE_parts e5
    rw [k, allF_append _ _ _ h2, ← h3]
    show (if tellE s a b (plnF q a b) = 0 then _ else _) = _
    rw [if_pos ht]; rfl
  refine ⟨e5, e6, ?_⟩
  have hl := (plnF_len h).1
  unfold evlF
  rw [e6, getD_snoc, hl]
  simp
theorem dist_right {l : List Zit} (h : errZ l = 0) : normE (distL l) = 0 ∧ normL (distL l) = distL l ∧ errZ (distL l) = 0 ∧ distL (distL l) = distL l := by
  obtain ⟨h1, h2, h3⟩ := (errZ_iff l).1 h
  have hrise : Rise (distL l) := by
    unfold distL Rise
    rw [List.pairwise_map]
    exact (h3.filter _)
  have hmem : ∀ x ∈ distL l, okR x.1 = true ∧ x.2 = 1 := fun x hx => by
    unfold distL at hx
    obtain ⟨y, hy, rfl⟩ := List.mem_map.1 hx
    exact ⟨(okZ_parts (h2 y (List.mem_filter.1 hy).1)).1, rfl⟩
  have hok : ∀ x ∈ distL l, okZ x = true := fun x hx => by
    obtain ⟨k1, k2⟩ := hmem x hx
    unfold okZ
    rw [k1, k2]; rfl
  have hlen : (distL l).length ≤ 400 := by
    unfold distL
    rw [List.length_map]
    exact Nat.le_trans (List.length_filter_le _ _) h1
  have herr : errZ (distL l) = 0 := (errZ_iff _).2 ⟨hlen, hok, hrise⟩
  have htot : distL l = totL (distL l) := IsTot.eq ⟨hrise, okZ_noz hok, fun _ => rfl⟩
  have hE : normE (distL l) = 0 := by
    unfold normE
    rw [if_neg (by omega), if_pos]
    · unfold totE
      rw [← htot, if_pos]
      rw [List.all_eq_true]
      intro x hx
      rw [(hmem x hx).2]; rfl
    · rw [List.all_eq_true]
      intro x hx
      rw [(hmem x hx).1, (hmem x hx).2]; rfl
  refine ⟨hE, ?_, herr, ?_⟩
  · unfold normL; rw [if_pos hE, ← htot]
  · have key : ∀ m : List Zit, (∀ x ∈ m, x.2 = 1) → distL m = m := fun m hm => by
      unfold distL
      rw [List.filter_eq_self.2 (fun x hx => by rw [hm x hx]; rfl)]
      have : m.map (fun x => (x.1, (1 : Int))) = m.map id := List.map_congr_left fun x hx => by
        have := hm x hx
        cases x
        simp at this
        simp [this]
      rw [this, List.map_id]
    exact key _ fun x hx => (hmem x hx).2
end Go.Proofs.YtoanlaedkpkpnaaGreatDoor

namespace Go.Proofs.YtoanlaedkpkpnaaGreatDoor
open Go.RowKit Go.Sort Go.Maps

theorem evl_errZ (q : List Stp) (a b : List Zit) : errZ (evlF q a b) = 0 := by
  by_cases h : plnE q a b = 0
  · exact evl_right h
  · rw [evl_no h]; decide
/-- The tables of a view are laid anew. -/
theorem set_tabs {w : World} {V : Nat} {q : List Stp} {QA : Option Addr} {cq : Nat} {a a' : List Itm} {A A' : Option Addr} {ca ca' : Nat} {b b' : List Itm} {B B' : Option Addr} {cb cb' : Nat} (h : Vw w V q QA cq a A ca b B cb) (ha : Lv w A' ca' a') (hb : Lv w B' cb' b') :
    Vw ((w.setCell ⟨V, 1, none⟩ (.slice A' a'.length ca')).setCell ⟨V, 2, none⟩ (.slice B' b'.length cb')) V q QA cq a' A' ca' b' B' cb' ∧ w.grownBy ((w.setCell ⟨V, 1, none⟩ (.slice A' a'.length ca')).setCell ⟨V, 2, none⟩ (.slice B' b'.length cb')) (some V) := by
  have hg : w.grownBy ((w.setCell ⟨V, 1, none⟩ (.slice A' a'.length ca')).setCell ⟨V, 2, none⟩ (.slice B' b'.length cb')) (some V) := by
    refine ⟨rfl, rfl, rfl, by simp, fun k hk hne => ?_⟩
    have hne' : V ≠ k := fun e => hne (by rw [e])
    rw [Below.heap_setCell _ _ _ _ hne'.symm, Below.heap_setCell _ _ _ _ hne'.symm]
  have o1 : ∀ {W : World} {i j : Nat} {v : Value}, i ≠ j → (W.setCell ⟨V, i, none⟩ v).cell? ⟨V, j, none⟩ = W.cell? ⟨V, j, none⟩ := fun hij => World.cell?_setCell_other _ _ _ _ (by intro e; injection e with _ e; exact hij e)
  have k0 : ((w.setCell ⟨V, 1, none⟩ (.slice A' a'.length ca')).setCell ⟨V, 2, none⟩ (.slice B' b'.length cb')).cell? ⟨V, 0, none⟩ = some (.slice QA q.length cq) := by rw [o1 (by omega), o1 (by omega)]; exact h.c0
  have k1 : ((w.setCell ⟨V, 1, none⟩ (.slice A' a'.length ca')).setCell ⟨V, 2, none⟩ (.slice B' b'.length cb')).cell? ⟨V, 1, none⟩ = some (.slice A' a'.length ca') := by rw [o1 (by omega)]; exact World.cell?_setCell_same _ _ _ h.c1
  have k2 : ((w.setCell ⟨V, 1, none⟩ (.slice A' a'.length ca')).setCell ⟨V, 2, none⟩ (.slice B' b'.length cb')).cell? ⟨V, 2, none⟩ = some (.slice B' b'.length cb') := World.cell?_setCell_same _ _ _ (u := .slice B b.length cb) (by rw [o1 (by omega)]; exact h.c2)
  refine ⟨⟨by simpa using h.lt, fun j => by simpa using h.fz j, fun j v hv => ?_, k0, k1, k2, h.slo.stps h.st hg, h.len, h.slo.keep ha hg, h.slo.keep hb hg⟩, hg⟩
  by_cases e2 : j = 2
  · subst e2; rw [k2] at hv; exact ⟨_, _, _, (Option.some.inj hv).symm⟩
  · by_cases e1 : j = 1
    · subst e1; rw [k1] at hv; exact ⟨_, _, _, (Option.some.inj hv).symm⟩
    · rw [o1 (fun e => e2 e.symm), o1 (fun e => e1 e.symm)] at hv
      exact h.slo j v hv

set_option maxRecDepth 100000 in
set_option maxHeartbeats 2000000 in
/-- A meal that is refused. -/
theorem feed_bad (w : World) (V : Nat) (q : List Stp) (QA : Option Addr) (cq : Nat) (a : List Itm) (A : Option Addr) (ca : Nat) (b : List Itm) (B : Option Addr) (cb : Nat) (h : Vw w V q QA cq a A ca b B cb) (x y : List Itm) (X Y : Option Addr) (cx cy : Nat) (hx : Lv w X cx x) (hy : Lv w Y cy y) (he : ¬ fedE q (a.map Itm.z) (b.map Itm.z) (x.map Itm.z) (y.map Itm.z) = 0) :
    Calls Tryz.prog 6 #[.pointer (some ⟨V, 0, none⟩), .slice X x.length cx, .slice Y y.length cy] w fun e w' => ∃ E, e = .returned (.tuple #[.slice none 0 0, .int .i64 E]) ∧ E = fedE q (a.map Itm.z) (b.map Itm.z) (x.map Itm.z) (y.map Itm.z) ∧ Below w.heap.size w w' := by
  obtain ⟨E1, hE1⟩ : ∃ E, tblE (x.map Itm.z) (y.map Itm.z) = E := ⟨_, rfl⟩
  have hC0 := tables_any x y X Y cx cy w hx hy
  rw [hE1] at hC0
  have hC : Hid _ := hC0
  have hH : Hid (Vw w V q QA cq a A ca b B cb ∧ Lv w X cx x ∧ Lv w Y cy y ∧ tblE (x.map Itm.z) (y.map Itm.z) = E1 ∧ ¬ fedE q (a.map Itm.z) (b.map Itm.z) (x.map Itm.z) (y.map Itm.z) = 0) := ⟨h, hx, hy, hE1, he⟩
  have hU : Hid (∀ E, fedE q (a.map Itm.z) (b.map Itm.z) (x.map Itm.z) (y.map Itm.z) = E → True) := fun _ _ => trivial
  obtain ⟨F, hF⟩ : ∃ F, fedE q (a.map Itm.z) (b.map Itm.z) (x.map Itm.z) (y.map Itm.z) = F := ⟨_, rfl⟩
  have hFH : Hid (fedE q (a.map Itm.z) (b.map Itm.z) (x.map Itm.z) (y.map Itm.z) = F) := hF
  rw [hF]
  clear hC0 h hx hy hE1 he hF hU
  go_enter Tryz.func6, Tryz.ntmps6
  go_wp2_with fail
  refine Calls.mono (show Calls _ _ _ _ _ from hC.out) ?_
  rintro e w1 ⟨rfl, hg1⟩
  have hW1 : Hid (Vw w1 V q QA cq a A ca b B cb ∧ Lv w1 X cx x ∧ Lv w1 Y cy y ∧ Below w.heap.size w w1) := ⟨hH.out.1.gr hg1, hH.out.2.1.gr hg1, hH.out.2.2.1.gr hg1, hg1.below⟩
  clear hC hg1
  cases h1 : (E1 != 0)
  rotate_left
  focus
    have hfin : Hid (E1 = F) := by
      have hn : ¬ tblE (x.map Itm.z) (y.map Itm.z) = 0 := by rw [hH.out.2.2.2.1]; simpa using h1
      show _ = _; rw [← hFH.out]; unfold fedE; rw [if_neg hn]; exact hH.out.2.2.2.1.symm
    go_wp2
    go_ret2
    exact ⟨E1, rfl, hfin.out, hW1.out.2.2.2⟩
  have hT0 : Hid (tblE (x.map Itm.z) (y.map Itm.z) = 0) := by show _ = _; rw [hH.out.2.2.2.1]; simpa using h1
  have c1 := hW1.out.1.c1
  obtain ⟨E2, hE2⟩ : ∃ E, addE (a.map Itm.z) (x.map Itm.z) = E := ⟨_, rfl⟩
  have hA0 := addV hW1.out.1.la hW1.out.2.1 rfl rfl
  rw [hE2] at hA0
  have hA : Hid _ := hA0
  have hE2H : Hid (addE (a.map Itm.z) (x.map Itm.z) = E2) := hE2
  clear hA0 hE2
  go_wp2_with fail
  refine Calls.mono (show Calls _ _ _ _ _ from hA.out) ?_
  rintro e w2 ⟨P, PA, pc, rfl, p1, p2, p3⟩
  have hW2 : Hid (Vw w2 V q QA cq a A ca b B cb ∧ Lv w2 Y cy y ∧ Below w.heap.size w w2 ∧ Lv w2 PA pc P ∧ P.map Itm.z = addL (a.map Itm.z) (x.map Itm.z)) := ⟨hW1.out.1.below p3, hW1.out.2.2.1.below p3, hW1.out.2.2.2.trans (p3.mono hW1.out.2.2.2.size), p2, p1⟩
  clear hA p1 p2 p3 c1 hW1
  cases h2 : (E2 != 0)
  rotate_left
  focus
    have hfin : Hid (E2 = F) := by
      have hn : ¬ addE (a.map Itm.z) (x.map Itm.z) = 0 := by rw [hE2H.out]; simpa using h2
      show _ = _; rw [← hFH.out]; unfold fedE; rw [if_pos hT0.out, if_neg hn]; exact hE2H.out.symm
    go_wp2
    go_ret2
    exact ⟨E2, rfl, hfin.out, hW2.out.2.2.1⟩
  have hT2 : Hid (addE (a.map Itm.z) (x.map Itm.z) = 0) := by show _ = _; rw [hE2H.out]; simpa using h2
  have c2 := hW2.out.1.c2
  obtain ⟨E3, hE3⟩ : ∃ E, addE (b.map Itm.z) (y.map Itm.z) = E := ⟨_, rfl⟩
  have hA0 := addV hW2.out.1.lb hW2.out.2.1 rfl rfl
  rw [hE3] at hA0
  have hA : Hid _ := hA0
  have hE3H : Hid (addE (b.map Itm.z) (y.map Itm.z) = E3) := hE3
  clear hA0 hE3
  go_wp2_with fail
  refine Calls.mono (show Calls _ _ _ _ _ from hA.out) ?_
  rintro e w3 ⟨R, RA, rc, rfl, p1, p2, p3⟩
  have hW3 : Hid (Vw w3 V q QA cq a A ca b B cb ∧ Below w.heap.size w w3 ∧ Lv w3 PA pc P ∧ P.map Itm.z = addL (a.map Itm.z) (x.map Itm.z) ∧ Lv w3 RA rc R ∧ R.map Itm.z = addL (b.map Itm.z) (y.map Itm.z)) := ⟨hW2.out.1.below p3, hW2.out.2.2.1.trans (p3.mono hW2.out.2.2.1.size), hW2.out.2.2.2.1.below p3, hW2.out.2.2.2.2, p2, p1⟩
  clear hA p1 p2 p3 c2 hW2
  cases h3 : (E3 != 0)
  rotate_left
  focus
    have hfin : Hid (E3 = F) := by
      have hn : ¬ addE (b.map Itm.z) (y.map Itm.z) = 0 := by rw [hE3H.out]; simpa using h3
      show _ = _; rw [← hFH.out]; unfold fedE; rw [if_pos hT0.out, if_pos hT2.out, if_neg hn]; exact hE3H.out.symm
    go_wp2
    go_ret2
    exact ⟨E3, rfl, hfin.out, hW3.out.2.1⟩
  have hT3 : Hid (addE (b.map Itm.z) (y.map Itm.z) = 0) := by show _ = _; rw [hE3H.out]; simpa using h3
  have c0 := hW3.out.1.c0
  have hq8 := hW3.out.1.len
  have hV0 := eval_any q QA cq P R PA RA pc rc w3 (by unfold maxLen; omega) hW3.out.1.st hW3.out.2.2.1 hW3.out.2.2.2.2.1
  have hPF : Hid (plnE q (P.map Itm.z) (R.map Itm.z) = F) := by
    show _ = _
    rw [hW3.out.2.2.2.1, hW3.out.2.2.2.2.2, ← hFH.out]
    unfold fedE
    rw [if_pos hT0.out, if_pos hT2.out, if_pos hT3.out]
  rw [hPF.out] at hV0
  have hV : Hid _ := hV0
  have hF0 : (F != 0) = true := by have := hH.out.2.2.2.2; rw [hFH.out] at this; simpa using this
  clear hV0 hq8
  go_wp2_with fail
  refine Calls.mono (show Calls _ _ _ _ _ from hV.out) ?_
  rintro e w4 ⟨N, NA, nc, rfl, n1, n2, n3⟩
  have hfin : Hid (Below w.heap.size w w4) := hW3.out.2.1.trans (n3.mono hW3.out.2.1.size)
  clear hV n1 n2 n3 c0
  go_wp2
  go_ret2
  exact ⟨F, rfl, rfl, hfin.out⟩

set_option maxRecDepth 100000 in
set_option maxHeartbeats 2000000 in
/-- A meal that is taken. -/
theorem feed_ok (w : World) (V : Nat) (q : List Stp) (QA : Option Addr) (cq : Nat) (a : List Itm) (A : Option Addr) (ca : Nat) (b : List Itm) (B : Option Addr) (cb : Nat) (h : Vw w V q QA cq a A ca b B cb) (x y : List Itm) (X Y : Option Addr) (cx cy : Nat) (hx : Lv w X cx x) (hy : Lv w Y cy y) (he : fedE q (a.map Itm.z) (b.map Itm.z) (x.map Itm.z) (y.map Itm.z) = 0) :
    Calls Tryz.prog 6 #[.pointer (some ⟨V, 0, none⟩), .slice X x.length cx, .slice Y y.length cy] w fun e w' => ∃ (L : List Itm) (C : Option Addr) (k : Nat) (a' : List Itm) (A' : Option Addr) (ca' : Nat) (b' : List Itm) (B' : Option Addr) (cb' : Nat), e = .returned (.tuple #[.slice C L.length k, .int .i64 0]) ∧ L.map Itm.z = difL (evlF q (a'.map Itm.z) (b'.map Itm.z)) (evlF q (a.map Itm.z) (b.map Itm.z)) ∧ a'.map Itm.z = addL (a.map Itm.z) (x.map Itm.z) ∧ b'.map Itm.z = addL (b.map Itm.z) (y.map Itm.z) ∧ Vw w' V q QA cq a' A' ca' b' B' cb' ∧ w.grownBy w' (some V) ∧ Lv w' C k L ∧ L.length ≤ 800 := by
  obtain ⟨f1, f2, f3, f4⟩ := fedE_parts he
  have hC0 := tables_any x y X Y cx cy w hx hy
  rw [f1] at hC0
  have hC : Hid _ := hC0
  have hH : Hid (Vw w V q QA cq a A ca b B cb ∧ Lv w X cx x ∧ Lv w Y cy y) := ⟨h, hx, hy⟩
  have hF : Hid (addE (a.map Itm.z) (x.map Itm.z) = 0 ∧ addE (b.map Itm.z) (y.map Itm.z) = 0 ∧ plnE q (addL (a.map Itm.z) (x.map Itm.z)) (addL (b.map Itm.z) (y.map Itm.z)) = 0) := ⟨f2, f3, f4⟩
  clear hC0 h hx hy he f1 f2 f3 f4
  go_enter Tryz.func6, Tryz.ntmps6
  go_wp2_with fail
  refine Calls.mono (show Calls _ _ _ _ _ from hC.out) ?_
  rintro e w1 ⟨rfl, hg1⟩
  have hW1 : Hid (Vw w1 V q QA cq a A ca b B cb ∧ Lv w1 X cx x ∧ Lv w1 Y cy y ∧ Below w.heap.size w w1) := ⟨hH.out.1.gr hg1, hH.out.2.1.gr hg1, hH.out.2.2.gr hg1, hg1.below⟩
  clear hC hg1
  have c1 := hW1.out.1.c1
  have hA0 := addV hW1.out.1.la hW1.out.2.1 rfl rfl
  rw [hF.out.1] at hA0
  have hA : Hid _ := hA0
  clear hA0
  go_wp2_with fail
  refine Calls.mono (show Calls _ _ _ _ _ from hA.out) ?_
  rintro e w2 ⟨P, PA, pc, rfl, p1, p2, p3⟩
  have hW2 : Hid (Vw w2 V q QA cq a A ca b B cb ∧ Lv w2 Y cy y ∧ Below w.heap.size w w2 ∧ Lv w2 PA pc P ∧ P.map Itm.z = addL (a.map Itm.z) (x.map Itm.z)) := ⟨hW1.out.1.below p3, hW1.out.2.2.1.below p3, hW1.out.2.2.2.trans (p3.mono hW1.out.2.2.2.size), p2, p1⟩
  clear hA p1 p2 p3 c1 hW1
  have c2 := hW2.out.1.c2
  have hA0 := addV hW2.out.1.lb hW2.out.2.1 rfl rfl
  rw [hF.out.2.1] at hA0
  have hA : Hid _ := hA0
  clear hA0
  go_wp2_with fail
  refine Calls.mono (show Calls _ _ _ _ _ from hA.out) ?_
  rintro e w3 ⟨R, RA, rc, rfl, p1, p2, p3⟩
  have hW3 : Hid (Vw w3 V q QA cq a A ca b B cb ∧ Below w.heap.size w w3 ∧ Lv w3 PA pc P ∧ P.map Itm.z = addL (a.map Itm.z) (x.map Itm.z) ∧ Lv w3 RA rc R ∧ R.map Itm.z = addL (b.map Itm.z) (y.map Itm.z)) := ⟨hW2.out.1.below p3, hW2.out.2.2.1.trans (p3.mono hW2.out.2.2.1.size), hW2.out.2.2.2.1.below p3, hW2.out.2.2.2.2, p2, p1⟩
  clear hA p1 p2 p3 c2 hW2
  have c0 := hW3.out.1.c0
  have hq8 := hW3.out.1.len
  have hV0 := eval_any q QA cq P R PA RA pc rc w3 (by unfold maxLen; omega) hW3.out.1.st hW3.out.2.2.1 hW3.out.2.2.2.2.1
  have hP0 : plnE q (P.map Itm.z) (R.map Itm.z) = 0 := by rw [hW3.out.2.2.2.1, hW3.out.2.2.2.2.2]; exact hF.out.2.2
  rw [hP0] at hV0
  have hV : Hid _ := hV0
  clear hV0 hq8 hP0
  go_wp2_with fail
  refine Calls.mono (show Calls _ _ _ _ _ from hV.out) ?_
  rintro e w4 ⟨N, NA, nc, rfl, n1, n2, n3⟩
  have hW4 : Hid (Vw w4 V q QA cq a A ca b B cb ∧ Below w.heap.size w w4 ∧ Lv w4 PA pc P ∧ P.map Itm.z = addL (a.map Itm.z) (x.map Itm.z) ∧ Lv w4 RA rc R ∧ R.map Itm.z = addL (b.map Itm.z) (y.map Itm.z) ∧ Lv w4 NA nc N ∧ N.map Itm.z = evlF q (P.map Itm.z) (R.map Itm.z)) := ⟨hW3.out.1.below n3, hW3.out.2.1.trans (n3.mono hW3.out.2.1.size), hW3.out.2.2.1.below n3, hW3.out.2.2.2.1, hW3.out.2.2.2.2.1.below n3, hW3.out.2.2.2.2.2, n2, n1⟩
  clear hV n1 n2 n3 c0 hW3
  have hO0 := allW_any w4 V q QA cq a A ca b B cb hW4.out.1
  have hO : Hid _ := hO0
  clear hO0
  go_wp2_with fail
  refine Calls.mono (show Calls _ _ _ _ _ from hO.out) ?_
  rintro e w5 ⟨M, MA, mc, rfl, m1, m2, m3⟩
  have hW5 : Hid (Vw w5 V q QA cq a A ca b B cb ∧ Below w.heap.size w w5 ∧ Lv w5 PA pc P ∧ P.map Itm.z = addL (a.map Itm.z) (x.map Itm.z) ∧ Lv w5 RA rc R ∧ R.map Itm.z = addL (b.map Itm.z) (y.map Itm.z) ∧ Lv w5 NA nc N ∧ N.map Itm.z = evlF q (P.map Itm.z) (R.map Itm.z) ∧ Lv w5 MA mc M ∧ M.map Itm.z = evlF q (a.map Itm.z) (b.map Itm.z)) := ⟨hW4.out.1.below m3, hW4.out.2.1.trans (m3.mono hW4.out.2.1.size), hW4.out.2.2.1.below m3, hW4.out.2.2.2.1, hW4.out.2.2.2.2.1.below m3, hW4.out.2.2.2.2.2.1, hW4.out.2.2.2.2.2.2.1.below m3, hW4.out.2.2.2.2.2.2.2, m2, m1⟩
  clear hO m1 m2 m3 hW4
  have c1 := hW5.out.1.c1
  have c2 := hW5.out.1.c2
  have z1 := hW5.out.1.fz 1
  have z2 := hW5.out.1.fz 2
  obtain ⟨w6, hw6⟩ : ∃ W, (w5.setCell ⟨V, 1, none⟩ (.slice PA P.length pc)).setCell ⟨V, 2, none⟩ (.slice RA R.length rc) = W := ⟨_, rfl⟩
  have hS := set_tabs hW5.out.1 hW5.out.2.2.1 hW5.out.2.2.2.2.1
  rw [hw6] at hS
  have hW6 : Hid (Vw w6 V q QA cq P PA pc R RA rc ∧ w.grownBy w6 (some V) ∧ Lv w6 NA nc N ∧ Lv w6 MA mc M) := by
    have hb := hW5.out.2.1
    refine ⟨hS.1, ⟨hS.2.os.trans hb.os, hS.2.tape.trans hb.tape, hS.2.output.trans hb.output, Nat.le_trans hb.size hS.2.size, fun k hk hne => (hS.2.block k (Nat.lt_of_lt_of_le hk hb.size) hne).trans (hb.block k hk)⟩, hW5.out.1.slo.keep hW5.out.2.2.2.2.2.2.1 hS.2, hW5.out.1.slo.keep hW5.out.2.2.2.2.2.2.2.2.1 hS.2⟩
  have hD0 := diff_any N M NA MA nc mc w6 hW6.out.2.2.1.items hW6.out.2.2.2.items hW6.out.2.2.1.nilc.cap hW6.out.2.2.2.nilc.cap (by rw [hW5.out.2.2.2.2.2.2.2.1]; exact evl_errZ _ _ _) (by rw [hW5.out.2.2.2.2.2.2.2.2.2]; exact evl_errZ _ _ _)
  have hD : Hid _ := hD0
  clear hS hD0
  go_wp2_with fail
  clear hw6 c1 c2 z1 z2
  refine Calls.mono (show Calls _ _ _ _ _ from hD.out) ?_
  rintro e w7 ⟨L, C, k, rfl, d1, d2, d3, d4, d5⟩
  have hfin : Hid (L.map Itm.z = difL (evlF q (P.map Itm.z) (R.map Itm.z)) (evlF q (a.map Itm.z) (b.map Itm.z)) ∧ P.map Itm.z = addL (a.map Itm.z) (x.map Itm.z) ∧ R.map Itm.z = addL (b.map Itm.z) (y.map Itm.z) ∧ Vw w7 V q QA cq P PA pc R RA rc ∧ w.grownBy w7 (some V) ∧ Lv w7 C k L ∧ L.length ≤ 800) := by
    have hg := hW6.out.2.1
    refine ⟨by rw [d1, hW5.out.2.2.2.2.2.2.2.1, hW5.out.2.2.2.2.2.2.2.2.2], hW5.out.2.2.2.1, hW5.out.2.2.2.2.2.1, hW6.out.1.below d5, ⟨d5.os.trans hg.os, d5.tape.trans hg.tape, d5.output.trans hg.output, Nat.le_trans hg.size d5.size, fun k hk hne => (d5.block k (Nat.lt_of_lt_of_le hk hg.size)).trans (hg.block k hk hne)⟩, ⟨d2, d3, by unfold maxLen; omega⟩, d4⟩
  clear d1 d2 d3 d4 d5 hD
  go_wp2
  go_ret2
  exact ⟨L, C, k, P, PA, pc, R, RA, rc, rfl, hfin.out⟩
end Go.Proofs.YtoanlaedkpkpnaaGreatDoor
