/-
  plain.itemsOfOne, plain.minus.
  Where, pick, union and minus of two sets together are those of both, together: whole queries, on plain lists.
-/
import Derived.Test.YtkmhofkchnhpdaaGreatDoorM23
import Derived.Test.YtkmhofkchnhpdaaGreatDoorM24
import Derived.Test.YtkmhofkchnhpdaaGreatDoorM25
import Derived.Test.YtkmhofkchnhpdaaGreatDoorM19
namespace Go.Proofs.YtkmhofkchnhpdaaGreatDoor
open Go.RowKit Go.Sort Go.Maps

/-- What a step that takes one set asks of it. -/
structure OneOk (s : Stp) (l : List Itm) : Prop where
  len : l.length ≤ 400
  ok : ∀ x ∈ l, okR x.r = true ∧ okW x.n = true
  k2 : s.k = 2 → inB s.o 1 3 = true ∧ ∀ x ∈ l, inB s.c 0 ((x.r.length : Int) - 1) = true
  k3 : s.k = 3 → s.l.length ≤ 8 ∧ ∀ x ∈ l, ∀ c ∈ s.l, inB c 0 ((x.r.length : Int) - 1) = true
  k8 : s.k = 8 → ∀ x ∈ l, inB s.c 0 ((x.r.length : Int) - 1) = true
  k9 : s.k = 9 → ∀ x ∈ l, inB s.c 0 ((x.r.length : Int) - 1) = true ∧ inB s.v 0 ((x.r.length : Int) - 1) = true

set_option maxRecDepth 100000 in
set_option maxHeartbeats 1000000 in
theorem one_any (s : Stp) (l : List Itm) (A : Option Addr) (cap : Nat) (w : World) (hk : s.k = 2 ∨ s.k = 3 ∨ s.k = 8 ∨ s.k = 7 ∨ s.k = 9) (ho : OneOk s l) (hr : Items w A l) (hs : RowI w s.p s.l) :
    Calls Tryz.prog 56 #[.agg #[.int .i64 s.k, .int .i64 s.a, .int .i64 s.b, .int .i64 s.c, .int .i64 s.o, .int .i64 s.v, .slice s.p s.l.length s.n], .slice A l.length cap] w fun e w' => ∃ (L : List Itm) (C : Option Addr) (k : Nat), e = .returned (.slice C L.length k) ∧ L.map Itm.z = oneF s (l.map Itm.z) ∧ Lv w' C k L ∧ L.length ≤ 400 ∧ Below w.heap.size w w' := by
  have hgX : Hid (Gr w (w.alloc (.cells #[.int .i64 s.k, .int .i64 s.a, .int .i64 s.b, .int .i64 s.c, .int .i64 s.o, .int .i64 s.v, .slice s.p s.l.length s.n] 41))) := (Gr.refl _).alloc _
  have hH : Hid (OneOk s l ∧ Items w A l ∧ RowI w s.p s.l) := ⟨ho, hr, hs⟩
  clear ho hr hs
  rcases hk with hk | hk | hk | hk | hk
  · have hC0 := where_any l A cap s.c s.o s.v (w.alloc (.cells #[.int .i64 2, .int .i64 s.a, .int .i64 s.b, .int .i64 s.c, .int .i64 s.o, .int .i64 s.v, .slice s.p s.l.length s.n] 41)) hH.out.1.len (hH.out.2.1.gr ((Gr.refl _).alloc _)) (hH.out.1.k2 hk).2 (hH.out.1.k2 hk).1
    have hC : Hid _ := hC0
    have hF : Hid (oneF s (l.map Itm.z) = whereL (l.map Itm.z) s.c s.o s.v) := by show _ = _; unfold oneF; rw [if_pos hk]
    clear hC0
    rw [hk]
    clear hk
    go_enter Tryz.func56, Tryz.ntmps56
    go_wp2_with fail
    refine Calls.mono (show Calls _ _ _ _ _ from hC.out) ?_
    rintro e w2 ⟨L, C, k, rfl, h1, h2, h3, h4⟩
    have hfin : Hid (L.map Itm.z = oneF s (l.map Itm.z) ∧ Lv w2 C k L ∧ Below w.heap.size w w2) := ⟨by rw [hF.out]; exact h1, h2, ((Gr.refl _).alloc _).below.trans (h4.mono (by simp))⟩
    clear h1 h2 h4
    go_wp2
    go_ret
    exact ⟨L, C, k, rfl, hfin.out.1, hfin.out.2.1, h3, hfin.out.2.2⟩
  · have hC0 := pick_any l A s.p cap s.n s.l (w.alloc (.cells #[.int .i64 3, .int .i64 s.a, .int .i64 s.b, .int .i64 s.c, .int .i64 s.o, .int .i64 s.v, .slice s.p s.l.length s.n] 41)) hH.out.1.len (hH.out.1.k3 hk).1 (hH.out.2.1.gr ((Gr.refl _).alloc _)) (hH.out.2.2.gr ((Gr.refl _).alloc _)) (hH.out.1.k3 hk).2
    have hC : Hid _ := hC0
    have hF : Hid (oneF s (l.map Itm.z) = pickL (l.map Itm.z) s.l) := by show _ = _; unfold oneF; rw [if_neg (by omega), if_pos hk]
    clear hC0
    rw [hk]
    clear hk
    go_enter Tryz.func56, Tryz.ntmps56
    go_wp2_with fail
    refine Calls.mono (show Calls _ _ _ _ _ from hC.out) ?_
    rintro e w2 ⟨L, C, k, rfl, h1, h2, h3, h4⟩
    have hfin : Hid (L.map Itm.z = oneF s (l.map Itm.z) ∧ Lv w2 C k L ∧ Below w.heap.size w w2) := ⟨by rw [hF.out]; exact h1, h2, ((Gr.refl _).alloc _).below.trans (h4.mono (by simp))⟩
    clear h1 h2 h4
    go_wp2
    go_ret
    exact ⟨L, C, k, rfl, hfin.out.1, hfin.out.2.1, h3, hfin.out.2.2⟩
  · have hC0 := count_any l A cap s.c (w.alloc (.cells #[.int .i64 8, .int .i64 s.a, .int .i64 s.b, .int .i64 s.c, .int .i64 s.o, .int .i64 s.v, .slice s.p s.l.length s.n] 41)) hH.out.1.len (hH.out.2.1.gr ((Gr.refl _).alloc _)) (hH.out.1.k8 hk) hH.out.1.ok
    have hC : Hid _ := hC0
    have hF : Hid (oneF s (l.map Itm.z) = countL (l.map Itm.z) s.c) := by show _ = _; unfold oneF; rw [if_neg (by omega), if_neg (by omega), if_neg (by omega), if_pos hk]
    clear hC0
    rw [hk]
    clear hk
    go_enter Tryz.func56, Tryz.ntmps56
    go_wp2_with fail
    refine Calls.mono (show Calls _ _ _ _ _ from hC.out) ?_
    rintro e w2 ⟨L, C, k, rfl, h1, h2, h3, h4⟩
    have hfin : Hid (L.map Itm.z = oneF s (l.map Itm.z) ∧ Lv w2 C k L ∧ Below w.heap.size w w2) := ⟨by rw [hF.out]; exact h1, h2, ((Gr.refl _).alloc _).below.trans (h4.mono (by simp))⟩
    clear h1 h2 h4
    go_wp2
    go_ret
    exact ⟨L, C, k, rfl, hfin.out.1, hfin.out.2.1, h3, hfin.out.2.2⟩
  · have hC0 := dist_any l A cap (w.alloc (.cells #[.int .i64 7, .int .i64 s.a, .int .i64 s.b, .int .i64 s.c, .int .i64 s.o, .int .i64 s.v, .slice s.p s.l.length s.n] 41)) hH.out.1.len (hH.out.2.1.gr ((Gr.refl _).alloc _))
    have hC : Hid _ := hC0
    have hF : Hid (oneF s (l.map Itm.z) = distL (l.map Itm.z)) := by show _ = _; unfold oneF; rw [if_neg (by omega), if_neg (by omega), if_pos hk]
    clear hC0
    rw [hk]
    clear hk
    go_enter Tryz.func56, Tryz.ntmps56
    go_wp2_with fail
    refine Calls.mono (show Calls _ _ _ _ _ from hC.out) ?_
    rintro e w2 ⟨L, C, k, rfl, h1, h2, h3, h4⟩
    have hfin : Hid (L.map Itm.z = oneF s (l.map Itm.z) ∧ Lv w2 C k L ∧ Below w.heap.size w w2) := ⟨by rw [hF.out]; exact h1, h2, ((Gr.refl _).alloc _).below.trans (h4.mono (by simp))⟩
    clear h1 h2 h4
    go_wp2
    go_ret
    exact ⟨L, C, k, rfl, hfin.out.1, hfin.out.2.1, h3, hfin.out.2.2⟩
  · have hC0 := sumP_any l A cap s.c s.v (w.alloc (.cells #[.int .i64 9, .int .i64 s.a, .int .i64 s.b, .int .i64 s.c, .int .i64 s.o, .int .i64 s.v, .slice s.p s.l.length s.n] 41)) hH.out.1.len (hH.out.2.1.gr ((Gr.refl _).alloc _)) (fun x hx => (hH.out.1.k9 hk x hx).1) (fun x hx => (hH.out.1.k9 hk x hx).2) hH.out.1.ok
    have hC : Hid _ := hC0
    have hF : Hid (oneF s (l.map Itm.z) = sumL (l.map Itm.z) s.c s.v) := by show _ = _; unfold oneF; rw [if_neg (by omega), if_neg (by omega), if_neg (by omega), if_neg (by omega)]
    clear hC0
    rw [hk]
    clear hk
    go_enter Tryz.func56, Tryz.ntmps56
    go_wp2_with fail
    refine Calls.mono (show Calls _ _ _ _ _ from hC.out) ?_
    rintro e w2 ⟨L, C, k, rfl, h1, h2, h3, h4⟩
    have hfin : Hid (L.map Itm.z = oneF s (l.map Itm.z) ∧ Lv w2 C k L ∧ Below w.heap.size w w2) := ⟨by rw [hF.out]; exact h1, h2, ((Gr.refl _).alloc _).below.trans (h4.mono (by simp))⟩
    clear h1 h2 h4
    go_wp2
    go_ret
    exact ⟨L, C, k, rfl, hfin.out.1, hfin.out.2.1, h3, hfin.out.2.2⟩

theorem negL_ok' {b : List Zit} (h : errZ b = 0) : negL b = negP b := by unfold negL; rw [if_pos h]; rfl
set_option maxRecDepth 100000 in
set_option maxHeartbeats 1000000 in
theorem minus_any (a b : List Itm) (A B : Option Addr) (ca cb : Nat) (w : World) (ha : Lv w A ca a) (hb : Lv w B cb b) (he : errZ (b.map Itm.z) = 0) :
    Calls Tryz.prog 55 #[.slice A a.length ca, .slice B b.length cb] w fun e w' => ∃ (L : List Itm) (C : Option Addr) (k : Nat), e = .returned (.tuple #[.slice C L.length k, .int .i64 (minE (a.map Itm.z) (b.map Itm.z))]) ∧ L.map Itm.z = minF (a.map Itm.z) (b.map Itm.z) ∧ Lv w' C k L ∧ Below w.heap.size w w' ∧ NewT w.heap.size C L := by
  have hN0 := negV hb (m := b.map Itm.z) rfl
  have hN : Hid _ := hN0
  have hH : Hid (Lv w A ca a ∧ errZ (b.map Itm.z) = 0) := ⟨ha, he⟩
  clear hN0 ha hb
  rw [he] at hN
  clear he
  go_enter Tryz.func55, Tryz.ntmps55
  go_wp2_with fail
  refine Calls.mono (show Calls _ _ _ _ _ from hN.out) ?_
  rintro e w1 ⟨L1, C1, k1, rfl, h1, h2, h3⟩
  have hA0 := addVn (hH.out.1.below h3) h2 (m := a.map Itm.z) (n := negP (b.map Itm.z)) rfl (by rw [h1, negL_ok' hH.out.2])
  have hA : Hid _ := hA0
  have hB : Hid (Below w.heap.size w w1) := h3
  clear hA0 h1 h2 h3 hN
  go_wp2_with fail
  refine Calls.mono (show Calls _ _ _ _ _ from hA.out) ?_
  rintro e w2 ⟨L, C, k, rfl, h1, h2, h3, h4⟩
  have hNw : Hid (NewT w.heap.size C L) := h4.mono hB.out.size
  have hfin : Hid (addE (a.map Itm.z) (negP (b.map Itm.z)) = minE (a.map Itm.z) (b.map Itm.z) ∧ L.map Itm.z = minF (a.map Itm.z) (b.map Itm.z) ∧ Lv w2 C k L ∧ Below w.heap.size w w2) := by
    have hm : minE (a.map Itm.z) (b.map Itm.z) = addE (a.map Itm.z) (negP (b.map Itm.z)) := by unfold minE; rw [if_pos hH.out.2]
    refine ⟨hm.symm, ?_, h2, hB.out.trans (h3.mono hB.out.size)⟩
    rw [h1]
    unfold minF
    rw [hm]
    by_cases e : addE (a.map Itm.z) (negP (b.map Itm.z)) = 0
    · rw [if_pos e]
    · rw [if_neg e]; unfold addL; rw [if_neg e]
  clear h1 h2 h3 h4 hA
  go_wp2
  go_ret2
  exact ⟨L, C, k, by rw [hfin.out.1]; rfl, hfin.out.2.1, hfin.out.2.2.1, hfin.out.2.2.2, hNw.out⟩
theorem minusV {W : World} {A B : Option Addr} {c d : Nat} {l r : List Itm} (h : Lv W A c l) (h' : Lv W B d r) (he : errZ (r.map Itm.z) = 0) {m n : List Zit} (hm : l.map Itm.z = m) (hn : r.map Itm.z = n) :
    Calls Tryz.prog 55 #[.slice A l.length c, .slice B r.length d] W fun e w' => ∃ (L : List Itm) (C : Option Addr) (k : Nat), e = .returned (.tuple #[.slice C L.length k, .int .i64 (minE m n)]) ∧ L.map Itm.z = minF m n ∧ Lv w' C k L ∧ Below W.heap.size W w' ∧ NewT W.heap.size C L := by
  subst hm hn
  exact minus_any l r A B c d W h h' he
/-- What a join asks of its sets. -/
structure JoinOk (c v : Int) (l r : List Itm) : Prop where
  la : l.length ≤ 400
  lb : r.length ≤ 400
  c : ∀ x ∈ l, inB c 0 ((x.r.length : Int) - 1) = true
  v : ∀ x ∈ r, inB v 0 ((x.r.length : Int) - 1) = true
  oa : ∀ x ∈ l, okR x.r = true ∧ okW x.n = true
  ob : ∀ x ∈ r, okR x.r = true ∧ okW x.n = true
theorem joinV {W : World} {A B : Option Addr} {c d : Nat} {l r : List Itm} {cc v : Int} (h : Lv W A c l) (h' : Lv W B d r) (hJ : JoinOk cc v l r) {m n : List Zit} (hm : l.map Itm.z = m) (hn : r.map Itm.z = n) :
    Calls Tryz.prog 54 #[.slice A l.length c, .slice B r.length d, .int .i64 cc, .int .i64 v] W fun e w' => ∃ (L : List Itm) (C : Option Addr) (k : Nat), e = .returned (.tuple #[.slice C L.length k, .int .i64 (joinE m n cc v)]) ∧ L.map Itm.z = joinF m n cc v ∧ Lv w' C k L ∧ Below W.heap.size W w' ∧ NewT W.heap.size C L := by
  subst hm hn
  exact join_any l r A B c d cc v W hJ.la hJ.lb h h' hJ.c hJ.v hJ.oa hJ.ob
end Go.Proofs.YtkmhofkchnhpdaaGreatDoor

namespace Go.Proofs.YtkmhofkchnhpdaaGreatDoor

theorem widsF_cons {s : Stp} {t : List Stp} {ah : List Int} (h : (widsF (s :: t) ah).isSome = true) : widW s ah ≠ 0 ∧ (widsF t (ah ++ [widW s ah])).isSome = true := by
  have h' : (if widW s ah = 0 then none else widsF t (ah ++ [widW s ah])).isSome = true := h
  by_cases e : widW s ah = 0
  · rw [if_pos e] at h'; cases h'
  · rw [if_neg e] at h'; exact ⟨e, h'⟩
theorem errQ_wids {q : List Stp} (h : errQ q = 0) : q ≠ [] ∧ q.length ≤ 8 ∧ (widsF q []).isSome = true := by
  unfold errQ at h
  by_cases h0 : q.length = 0
  · rw [if_pos h0] at h; cases h
  · rw [if_neg h0] at h
    by_cases h8 : 8 < q.length
    · rw [if_pos h8] at h; cases h
    · rw [if_neg h8] at h
      by_cases hs : (widsF q []).isSome = true
      · exact ⟨fun e => h0 (by rw [e]; rfl), by omega, hs⟩
      · rw [if_neg hs] at h; cases h
theorem allE_cons {a b : List Zit} {s : Stp} {t : List Stp} {S : List (List Zit)} (h : allE a b (s :: t) S = 0) : tellE s a b S = 0 ∧ allE a b t (S ++ [tellF s a b S]) = 0 ∧ allF a b (s :: t) S = allF a b t (S ++ [tellF s a b S]) := by
  have h' : (if tellE s a b S = 0 then allE a b t (S ++ [tellF s a b S]) else tellE s a b S) = 0 := h
  by_cases e : tellE s a b S = 0
  · rw [if_pos e] at h'
    refine ⟨e, h', ?_⟩
    show (if tellE s a b S = 0 then _ else []) = _
    rw [if_pos e]
  · rw [if_neg e] at h'; exact absurd h' e
theorem all_right {a b : List Zit} (ha : Wide 4 a) (hb : Wide 4 b) : ∀ (q : List Stp) (ah : List Int) (S : List (List Zit)), (widsF q ah).isSome = true → Ahd S ah → allE a b q S = 0 → ∃ ah', Ahd (allF a b q S) ah' ∧ (allF a b q S).length = S.length + q.length
  | [], ah, S, _, hS, _ => ⟨ah, hS, by simp [allF]⟩
  | s :: t, ah, S, hw, hS, he => by
    obtain ⟨h1, h2⟩ := widsF_cons hw
    obtain ⟨e1, e2, e3⟩ := allE_cons he
    obtain ⟨r1, r2⟩ := tell_right h1 hS ha hb e1
    obtain ⟨ah', k1, k2⟩ := all_right ha hb t _ _ h2 (hS.snoc r1 r2) e2
    rw [e3]
    exact ⟨ah', k1, by rw [k2]; simp; omega⟩
theorem getD_snoc {S : List (List Zit)} {T : List Zit} {i : Nat} : (S ++ [T]).getD i [] = if i < S.length then S.getD i [] else if i = S.length then T else [] := by
  by_cases h : i < S.length
  · rw [if_pos h, List.getD_eq_getElem?_getD, List.getElem?_append_left h, ← List.getD_eq_getElem?_getD]
  · rw [if_neg h]
    by_cases e : i = S.length
    · rw [if_pos e, List.getD_eq_getElem?_getD, List.getElem?_append_right (by omega), e]; simp
    · rw [if_neg e, List.getD_eq_getElem?_getD, List.getElem?_eq_none (by simp; omega)]; rfl
theorem bth_nil : Bth [] [] [] := fun _ => rfl
theorem bth_norm {z x y : List Zit} (h : Bth z x y) (ez : normE z = 0) (ex : normE x = 0) (ey : normE y = 0) : Bth (normL z) (normL x) (normL y) := fun r => by rw [wt_norm ez, wt_norm ex, wt_norm ey, h r]
theorem bth_add {z x y z' x' y' : List Zit} (h : Bth z x y) (h' : Bth z' x' y') (ez : addE z z' = 0) (ex : addE x x' = 0) (ey : addE y y' = 0) : Bth (addL z z') (addL x x') (addL y y') := fun r => by rw [wt_add ez, wt_add ex, wt_add ey, h r, h' r]; omega
theorem bth_neg {z x y : List Zit} (h : Bth z x y) : Bth (negP z) (negP x) (negP y) := fun r => by unfold negP; rw [wt_neg, wt_neg, wt_neg, h r]; omega
theorem lin_step {s : Stp} {ah : List Int} {X Y Z : List (List Zit)} {a b c d m n : List Zit} (h : widW s ah ≠ 0) (hl : s.k ≠ 4 ∧ s.k ≤ 6) (hX : Ahd X ah) (hY : Ahd Y ah) (hZ : Ahd Z ah) (hB : ∀ i, Bth (Z.getD i []) (X.getD i []) (Y.getD i [])) (hm : Bth m a c) (hn : Bth n b d)
    (eX : tellE s a b X = 0) (eY : tellE s c d Y = 0) (eZ : tellE s m n Z = 0) : Bth (tellF s m n Z) (tellF s a b X) (tellF s c d Y) := by
  unfold tellE at eX eY eZ
  unfold tellF
  rcases kinds h with k | k | k | k | k | k | k | k | k
  · rw [if_pos k] at eX eY eZ
    rw [if_pos k, if_pos k, if_pos k]
    refine bth_norm ?_ eZ eX eY
    unfold tabF
    split
    · exact hm
    · exact hn
  · rw [if_neg (by omega), if_neg (by omega), if_neg (by omega), if_neg (by omega)] at eX eY eZ
    rw [if_neg (by omega), if_neg (by omega), if_neg (by omega), if_neg (by omega), if_neg (by omega), if_neg (by omega), if_neg (by omega), if_neg (by omega), if_neg (by omega), if_neg (by omega), if_neg (by omega), if_neg (by omega)]
    refine bth_norm ?_ eZ eX eY
    unfold oneF
    rw [if_pos k, if_pos k, if_pos k]
    exact both_where (hB _) _ _ _
  · rw [if_neg (by omega), if_neg (by omega), if_neg (by omega), if_neg (by omega)] at eX eY eZ
    rw [if_neg (by omega), if_neg (by omega), if_neg (by omega), if_neg (by omega), if_neg (by omega), if_neg (by omega), if_neg (by omega), if_neg (by omega), if_neg (by omega), if_neg (by omega), if_neg (by omega), if_neg (by omega)]
    refine bth_norm ?_ eZ eX eY
    unfold oneF
    have k2 : ¬ s.k = 2 := by omega
    simp only [if_neg k2, if_pos k]
    exact both_pick (hB _) _
  · exact absurd k hl.1
  · rw [if_neg (by omega), if_neg (by omega), if_pos k] at eX eY eZ
    rw [if_neg (by omega), if_neg (by omega), if_pos k, if_neg (by omega), if_neg (by omega), if_pos k, if_neg (by omega), if_neg (by omega), if_pos k]
    exact bth_add (hB _) (hB _) eZ eX eY
  · obtain ⟨h1, h2, _, _⟩ := par6 h k
    rw [if_neg (by omega), if_neg (by omega), if_neg (by omega), if_pos k] at eX eY eZ
    rw [if_neg (by omega), if_neg (by omega), if_neg (by omega), if_pos k, if_neg (by omega), if_neg (by omega), if_neg (by omega), if_pos k, if_neg (by omega), if_neg (by omega), if_neg (by omega), if_pos k]
    unfold minF
    rw [if_pos eX, if_pos eY, if_pos eZ]
    unfold minE at eX eY eZ
    rw [if_pos (hX.at h2).2.2.1] at eX
    rw [if_pos (hY.at h2).2.2.1] at eY
    rw [if_pos (hZ.at h2).2.2.1] at eZ
    exact bth_add (hB _) (bth_neg (hB _)) eZ eX eY
  · omega
  · omega
  · omega
theorem lin_all {a b c d m n : List Zit} (ha : Wide 4 a) (hb : Wide 4 b) (hc : Wide 4 c) (hd : Wide 4 d) (hm4 : Wide 4 m) (hn4 : Wide 4 n) (hm : Bth m a c) (hn : Bth n b d) : ∀ (q : List Stp) (ah : List Int) (X Y Z : List (List Zit)), (widsF q ah).isSome = true → (∀ s ∈ q, s.k ≠ 4 ∧ s.k ≤ 6) → Ahd X ah → Ahd Y ah → Ahd Z ah → (∀ i, Bth (Z.getD i []) (X.getD i []) (Y.getD i [])) → allE a b q X = 0 → allE c d q Y = 0 → allE m n q Z = 0 →
    ∀ i, Bth ((allF m n q Z).getD i []) ((allF a b q X).getD i []) ((allF c d q Y).getD i [])
  | [], _, _, _, _, _, _, _, _, _, hB, _, _, _ => hB
  | s :: t, ah, X, Y, Z, hw, hl, hX, hY, hZ, hB, eX, eY, eZ => by
    obtain ⟨h1, h2⟩ := widsF_cons hw
    obtain ⟨x1, x2, x3⟩ := allE_cons eX
    obtain ⟨y1, y2, y3⟩ := allE_cons eY
    obtain ⟨z1, z2, z3⟩ := allE_cons eZ
    have hlen : X.length = Y.length ∧ Y.length = Z.length := ⟨by rw [hX.len, hY.len], by rw [hY.len, hZ.len]⟩
    have st := lin_step h1 (hl s (List.mem_cons_self ..)) hX hY hZ hB hm hn x1 y1 z1
    obtain ⟨r1, r2⟩ := tell_right h1 hX ha hb x1
    obtain ⟨r3, r4⟩ := tell_right h1 hY hc hd y1
    obtain ⟨r5, r6⟩ := tell_right h1 hZ hm4 hn4 z1
    rw [x3, y3, z3]
    refine lin_all ha hb hc hd hm4 hn4 hm hn t _ _ _ _ h2 (fun s' hs' => hl s' (List.mem_cons_of_mem _ hs')) (hX.snoc r1 r2) (hY.snoc r3 r4) (hZ.snoc r5 r6) (fun i => ?_) x2 y2 z2
    rw [getD_snoc, getD_snoc, getD_snoc, ← hlen.2, ← hlen.1]
    by_cases h : i < X.length
    · rw [if_pos h, if_pos h, if_pos h]; exact hB i
    · rw [if_neg h, if_neg h, if_neg h]
      by_cases e : i = X.length
      · rw [if_pos e, if_pos e, if_pos e]; exact st
      · rw [if_neg e, if_neg e, if_neg e]; exact bth_nil
/-- What Eval tells. -/
def evlF (q : List Stp) (a b : List Zit) : List Zit := (plnF q a b).getD (q.length - 1) []
theorem plnE_parts {q : List Stp} {a b : List Zit} (h : plnE q a b = 0) : ahdE q a b = 0 ∧ allE a b q [] = 0 ∧ plnF q a b = allF a b q [] := by
  have h' := h
  unfold plnE at h
  by_cases e : ahdE q a b = 0
  · rw [if_pos e] at h
    exact ⟨e, h, by unfold plnF; rw [if_pos h']⟩
  · rw [if_neg e] at h; exact absurd h e
theorem ahdE_parts {q : List Stp} {a b : List Zit} (h : ahdE q a b = 0) : errQ q = 0 ∧ errZ a = 0 ∧ errZ b = 0 ∧ Wide 4 a ∧ Wide 4 b := by
  unfold ahdE at h
  by_cases h1 : errQ q = 0
  · rw [if_pos h1] at h
    by_cases h2 : errZ a = 0
    · rw [if_pos h2] at h
      by_cases h3 : errZ b = 0
      · rw [if_pos h3] at h
        by_cases h4 : (a ++ b).all (fun x => decide (x.1.length = 4)) = true
        · have h5 : ∀ x ∈ a ++ b, x.1.length = 4 := fun x hx => by simpa using List.all_eq_true.1 h4 x hx
          exact ⟨h1, h2, h3, fun x hx => by rw [h5 x (List.mem_append.2 (Or.inl hx))]; rfl, fun x hx => by rw [h5 x (List.mem_append.2 (Or.inr hx))]; rfl⟩
        · rw [if_neg h4] at h; cases h
      · rw [if_neg h3] at h; exact absurd h h3
    · rw [if_neg h2] at h; exact absurd h h2
  · rw [if_neg h1] at h; exact absurd h h1
theorem evl_right {q : List Stp} {a b : List Zit} (h : plnE q a b = 0) : errZ (evlF q a b) = 0 := by
  obtain ⟨h1, h2, h3⟩ := plnE_parts h
  obtain ⟨k1, _, _, k4, k5⟩ := ahdE_parts h1
  obtain ⟨q1, _, q3⟩ := errQ_wids k1
  obtain ⟨ah', m1, m2⟩ := all_right k4 k5 q [] [] q3 Ahd.nil h2
  have hq : 0 < q.length := List.length_pos_iff.2 q1
  unfold evlF
  rw [h3]
  exact (m1.ok _ (by rw [m2]; simp; omega)).1
/-- What PlainLinear says. -/
theorem linear {q : List Stp} {a b c d : List Zit} (hl : ∀ s ∈ q, s.k ≠ 4 ∧ s.k ≤ 6) (hx : plnE q a b = 0) (hy : plnE q c d = 0) (hac : addE a c = 0) (hbd : addE b d = 0) (hz : plnE q (addL a c) (addL b d) = 0) (hw : addE (evlF q a b) (evlF q c d) = 0) :
    evlF q (addL a c) (addL b d) = addL (evlF q a b) (evlF q c d) := by
  refine both_eq (evl_right hz) ?_ hw
  obtain ⟨x1, x2, x3⟩ := plnE_parts hx
  obtain ⟨y1, y2, y3⟩ := plnE_parts hy
  obtain ⟨z1, z2, z3⟩ := plnE_parts hz
  obtain ⟨xq, _, _, xa, xb⟩ := ahdE_parts x1
  obtain ⟨_, _, _, yc, yd⟩ := ahdE_parts y1
  obtain ⟨_, _, _, zm, zn⟩ := ahdE_parts z1
  unfold evlF
  rw [x3, y3, z3]
  exact lin_all xa xb yc yd zm zn (fun r => wt_add hac r) (fun r => wt_add hbd r) q [] [] [] [] (errQ_wids xq).2.2 hl Ahd.nil Ahd.nil Ahd.nil (fun i => bth_nil) x2 y2 z2 _
end Go.Proofs.YtkmhofkchnhpdaaGreatDoor
