/-
  viewref.Query: what the document says of a query.
  Where, pick, union and minus of two sets together are those of both, together: whole queries, on plain lists.
  Views: what is told of what is fed, on plain lists.
-/
import Derived.Test.YtnkpfhipgcmplaaGreatDoorQRef
import Derived.Test.YtnkpfhipgcmplaaGreatDoorM11
namespace Go.Proofs.YtnkpfhipgcmplaaGreatDoor
open Go.RowKit Go.Sort

set_option maxHeartbeats 1000000 in
theorem refQuery_any (q : List Stp) (A : Option Addr) (ca : Nat) (w : World) (hl : q.length ≤ maxLen) (hq : Stps w A q) :
    Calls Tryz.prog 25 #[.slice A q.length ca] w fun e w' => e = .returned (.int .i64 (errQ q)) ∧ Below w.heap.size w w' := by
  unfold maxLen at hl
  by_cases h0 : q.length = 0
  · have e1 : Hid (errQ q = 1) := by show _ = _; unfold errQ; rw [if_pos h0]
    have h0z : ((q.length : Int) == 0) = true := by rw [h0]; rfl
    clear h0
    go_enter Tryz.func25, Tryz.ntmps25
    go_wp2
    go_ret
    exact ⟨by rw [e1.out]; rfl, Below.refl _ _⟩
  have h0z : ((q.length : Int) == 0) = false := beq_eq_false_iff_ne.2 (by omega)
  by_cases h8 : 8 < q.length
  · have e1 : Hid (errQ q = 2) := by show _ = _; unfold errQ; rw [if_neg h0, if_pos h8]
    have h8z : (8 : Int) < (q.length : Int) := by omega
    clear h0
    go_enter Tryz.func25, Tryz.ntmps25
    go_wp2
    go_ret
    exact ⟨by rw [e1.out]; rfl, Below.refl _ _⟩
  have h8z : ¬ (8 : Int) < (q.length : Int) := by omega
  have herr : Hid (errQ q = if (widsF q []).isSome = true then 0 else 1) := by show _ = _; unfold errQ; rw [if_neg h0, if_neg h8]
  have hw := refWidths_any q A ca w (by omega) hq
  have hwH : Hid _ := hw
  clear hw hq h0
  go_enter Tryz.func25, Tryz.ntmps25
  go_wp2_with fail
  refine Calls.mono (show Calls _ _ _ _ _ from hwH.out) ?_
  rintro e w1 ⟨C, c, rfl, -, -, hb⟩
  clear hwH
  cases hs : (widsF q []).isSome
  · have e1 : Hid (errQ q = 1) := by show _ = _; rw [herr.out, hs]; rfl
    go_wp2
    go_ret
    exact ⟨by rw [e1.out]; rfl, hb⟩
  · have e1 : Hid (errQ q = 0) := by show _ = _; rw [herr.out, hs]; rfl
    go_wp2
    go_ret
    exact ⟨by rw [e1.out]; rfl, hb⟩

end Go.Proofs.YtnkpfhipgcmplaaGreatDoor

namespace Go.Proofs.YtnkpfhipgcmplaaGreatDoor

theorem widsF_cons {s : Stp} {t : List Stp} {ah : List Int} (h : (widsF (s :: t) ah).isSome = true) : widW s ah ≠ 0 ∧ (widsF t (ah ++ [widW s ah])).isSome = true := by
  have h' : (if widW s ah = 0 then none else widsF t (ah ++ [widW s ah])).isSome = true := h
  by_cases e : widW s ah = 0
  · rw [if_pos e] at h'; cases h'
  · rw [if_neg e] at h'; exact ⟨e, h'⟩
theorem errQ_wids {q : List Stp} (h : errQ q = 0) : q ≠ [] ∧ q.length ≤ 8 ∧ (widsF q []).isSome = true := by
  unfold errQ at h
  by_cases h0 : q.length = 0
  · rw [if_pos h0] at h; cases h
  · rw [if_neg h0] at h
    by_cases h8 : 8 < q.length
    · rw [if_pos h8] at h; cases h
    · rw [if_neg h8] at h
      by_cases hs : (widsF q []).isSome = true
      · exact ⟨fun e => h0 (by rw [e]; rfl), by omega, hs⟩
      · rw [if_neg hs] at h; cases h
theorem allE_cons {a b : List Zit} {s : Stp} {t : List Stp} {S : List (List Zit)} (h : allE a b (s :: t) S = 0) : tellE s a b S = 0 ∧ allE a b t (S ++ [tellF s a b S]) = 0 ∧ allF a b (s :: t) S = allF a b t (S ++ [tellF s a b S]) := by
  have h' : (if tellE s a b S = 0 then allE a b t (S ++ [tellF s a b S]) else tellE s a b S) = 0 := h
  by_cases e : tellE s a b S = 0
  · rw [if_pos e] at h'
    refine ⟨e, h', ?_⟩
    show (if tellE s a b S = 0 then _ else []) = _
    rw [if_pos e]
  · rw [if_neg e] at h'; exact absurd h' e
theorem all_right {a b : List Zit} (ha : Wide 4 a) (hb : Wide 4 b) : ∀ (q : List Stp) (ah : List Int) (S : List (List Zit)), (widsF q ah).isSome = true → Ahd S ah → allE a b q S = 0 → ∃ ah', Ahd (allF a b q S) ah' ∧ (allF a b q S).length = S.length + q.length
  | [], ah, S, _, hS, _ => ⟨ah, hS, by simp [allF]⟩
  | s :: t, ah, S, hw, hS, he => by
    obtain ⟨h1, h2⟩ := widsF_cons hw
    obtain ⟨e1, e2, e3⟩ := allE_cons he
    obtain ⟨r1, r2⟩ := tell_right h1 hS ha hb e1
    obtain ⟨ah', k1, k2⟩ := all_right ha hb t _ _ h2 (hS.snoc r1 r2) e2
    rw [e3]
    exact ⟨ah', k1, by rw [k2]; simp; omega⟩
theorem getD_snoc {S : List (List Zit)} {T : List Zit} {i : Nat} : (S ++ [T]).getD i [] = if i < S.length then S.getD i [] else if i = S.length then T else [] := by
  by_cases h : i < S.length
  · rw [if_pos h, List.getD_eq_getElem?_getD, List.getElem?_append_left h, ← List.getD_eq_getElem?_getD]
  · rw [if_neg h]
    by_cases e : i = S.length
    · rw [if_pos e, List.getD_eq_getElem?_getD, List.getElem?_append_right (by omega), e]; simp
    · rw [if_neg e, List.getD_eq_getElem?_getD, List.getElem?_eq_none (by simp; omega)]; rfl
theorem bth_nil : Bth [] [] [] := fun _ => rfl
theorem bth_norm {z x y : List Zit} (h : Bth z x y) (ez : normE z = 0) (ex : normE x = 0) (ey : normE y = 0) : Bth (normL z) (normL x) (normL y) := fun r => by rw [wt_norm ez, wt_norm ex, wt_norm ey, h r]
theorem bth_add {z x y z' x' y' : List Zit} (h : Bth z x y) (h' : Bth z' x' y') (ez : addE z z' = 0) (ex : addE x x' = 0) (ey : addE y y' = 0) : Bth (addL z z') (addL x x') (addL y y') := fun r => by rw [wt_add ez, wt_add ex, wt_add ey, h r, h' r]; omega
theorem bth_neg {z x y : List Zit} (h : Bth z x y) : Bth (negP z) (negP x) (negP y) := fun r => by unfold negP; rw [wt_neg, wt_neg, wt_neg, h r]; omega
theorem lin_step {s : Stp} {ah : List Int} {X Y Z : List (List Zit)} {a b c d m n : List Zit} (h : widW s ah ≠ 0) (hl : s.k ≠ 4 ∧ s.k ≤ 6) (hX : Ahd X ah) (hY : Ahd Y ah) (hZ : Ahd Z ah) (hB : ∀ i, Bth (Z.getD i []) (X.getD i []) (Y.getD i [])) (hm : Bth m a c) (hn : Bth n b d)
    (eX : tellE s a b X = 0) (eY : tellE s c d Y = 0) (eZ : tellE s m n Z = 0) : Bth (tellF s m n Z) (tellF s a b X) (tellF s c d Y) := by
  unfold tellE at eX eY eZ
  unfold tellF
  rcases kinds h with k | k | k | k | k | k | k | k | k
  · rw [if_pos k] at eX eY eZ
    rw [if_pos k, if_pos k, if_pos k]
    refine bth_norm ?_ eZ eX eY
    unfold tabF
    split
    · exact hm
    · exact hn
  · rw [if_neg (by omega), if_neg (by omega), if_neg (by omega), if_neg (by omega)] at eX eY eZ
    rw [if_neg (by omega), if_neg (by omega), if_neg (by omega), if_neg (by omega), if_neg (by omega), if_neg (by omega), if_neg (by omega), if_neg (by omega), if_neg (by omega), if_neg (by omega), if_neg (by omega), if_neg (by omega)]
    refine bth_norm ?_ eZ eX eY
    unfold oneF
    rw [if_pos k, if_pos k, if_pos k]
    exact both_where (hB _) _ _ _
  · rw [if_neg (by omega), if_neg (by omega), if_neg (by omega), if_neg (by omega)] at eX eY eZ
    rw [if_neg (by omega), if_neg (by omega), if_neg (by omega), if_neg (by omega), if_neg (by omega), if_neg (by omega), if_neg (by omega), if_neg (by omega), if_neg (by omega), if_neg (by omega), if_neg (by omega), if_neg (by omega)]
    refine bth_norm ?_ eZ eX eY
    unfold oneF
    have k2 : ¬ s.k = 2 := by omega
    simp only [if_neg k2, if_pos k]
    exact both_pick (hB _) _
  · exact absurd k hl.1
  · rw [if_neg (by omega), if_neg (by omega), if_pos k] at eX eY eZ
    rw [if_neg (by omega), if_neg (by omega), if_pos k, if_neg (by omega), if_neg (by omega), if_pos k, if_neg (by omega), if_neg (by omega), if_pos k]
    exact bth_add (hB _) (hB _) eZ eX eY
  · obtain ⟨h1, h2, _, _⟩ := par6 h k
    rw [if_neg (by omega), if_neg (by omega), if_neg (by omega), if_pos k] at eX eY eZ
    rw [if_neg (by omega), if_neg (by omega), if_neg (by omega), if_pos k, if_neg (by omega), if_neg (by omega), if_neg (by omega), if_pos k, if_neg (by omega), if_neg (by omega), if_neg (by omega), if_pos k]
    unfold minF
    rw [if_pos eX, if_pos eY, if_pos eZ]
    unfold minE at eX eY eZ
    rw [if_pos (hX.at h2).2.2.1] at eX
    rw [if_pos (hY.at h2).2.2.1] at eY
    rw [if_pos (hZ.at h2).2.2.1] at eZ
    exact bth_add (hB _) (bth_neg (hB _)) eZ eX eY
  · omega
  · omega
  · omega
theorem lin_all {a b c d m n : List Zit} (ha : Wide 4 a) (hb : Wide 4 b) (hc : Wide 4 c) (hd : Wide 4 d) (hm4 : Wide 4 m) (hn4 : Wide 4 n) (hm : Bth m a c) (hn : Bth n b d) : ∀ (q : List Stp) (ah : List Int) (X Y Z : List (List Zit)), (widsF q ah).isSome = true → (∀ s ∈ q, s.k ≠ 4 ∧ s.k ≤ 6) → Ahd X ah → Ahd Y ah → Ahd Z ah → (∀ i, Bth (Z.getD i []) (X.getD i []) (Y.getD i [])) → allE a b q X = 0 → allE c d q Y = 0 → allE m n q Z = 0 →
    ∀ i, Bth ((allF m n q Z).getD i []) ((allF a b q X).getD i []) ((allF c d q Y).getD i [])
  | [], _, _, _, _, _, _, _, _, _, hB, _, _, _ => hB
  | s :: t, ah, X, Y, Z, hw, hl, hX, hY, hZ, hB, eX, eY, eZ => by
    obtain ⟨h1, h2⟩ := widsF_cons hw
    obtain ⟨x1, x2, x3⟩ := allE_cons eX
    obtain ⟨y1, y2, y3⟩ := allE_cons eY
    obtain ⟨z1, z2, z3⟩ := allE_cons eZ
    have hlen : X.length = Y.length ∧ Y.length = Z.length := ⟨by rw [hX.len, hY.len], by rw [hY.len, hZ.len]⟩
    have st := lin_step h1 (hl s (List.mem_cons_self ..)) hX hY hZ hB hm hn x1 y1 z1
    obtain ⟨r1, r2⟩ := tell_right h1 hX ha hb x1
    obtain ⟨r3, r4⟩ := tell_right h1 hY hc hd y1
    obtain ⟨r5, r6⟩ := tell_right h1 hZ hm4 hn4 z1
    rw [x3, y3, z3]
    refine lin_all ha hb hc hd hm4 hn4 hm hn t _ _ _ _ h2 (fun s' hs' => hl s' (List.mem_cons_of_mem _ hs')) (hX.snoc r1 r2) (hY.snoc r3 r4) (hZ.snoc r5 r6) (fun i => ?_) x2 y2 z2
    rw [getD_snoc, getD_snoc, getD_snoc, ← hlen.2, ← hlen.1]
    by_cases h : i < X.length
    · rw [if_pos h, if_pos h, if_pos h]; exact hB i
    · rw [if_neg h, if_neg h, if_neg h]
      by_cases e : i = X.length
      · rw [if_pos e, if_pos e, if_pos e]; exact st
      · rw [if_neg e, if_neg e, if_neg e]; exact bth_nil
/-- What Eval tells. -/
def evlF (q : List Stp) (a b : List Zit) : List Zit := (plnF q a b).getD (q.length - 1) []
theorem plnE_parts {q : List Stp} {a b : List Zit} (h : plnE q a b = 0) : ahdE q a b = 0 ∧ allE a b q [] = 0 ∧ plnF q a b = allF a b q [] := by
  have h' := h
  unfold plnE at h
  by_cases e : ahdE q a b = 0
  · rw [if_pos e] at h
    exact ⟨e, h, by unfold plnF; rw [if_pos h']⟩
  · rw [if_neg e] at h; exact absurd h e
theorem ahdE_parts {q : List Stp} {a b : List Zit} (h : ahdE q a b = 0) : errQ q = 0 ∧ errZ a = 0 ∧ errZ b = 0 ∧ Wide 4 a ∧ Wide 4 b := by
  unfold ahdE at h
  by_cases h1 : errQ q = 0
  · rw [if_pos h1] at h
    by_cases h2 : errZ a = 0
    · rw [if_pos h2] at h
      by_cases h3 : errZ b = 0
      · rw [if_pos h3] at h
        by_cases h4 : (a ++ b).all (fun x => decide (x.1.length = 4)) = true
        · have h5 : ∀ x ∈ a ++ b, x.1.length = 4 := fun x hx => by simpa using List.all_eq_true.1 h4 x hx
          exact ⟨h1, h2, h3, fun x hx => by rw [h5 x (List.mem_append.2 (Or.inl hx))]; rfl, fun x hx => by rw [h5 x (List.mem_append.2 (Or.inr hx))]; rfl⟩
        · rw [if_neg h4] at h; cases h
      · rw [if_neg h3] at h; exact absurd h h3
    · rw [if_neg h2] at h; exact absurd h h2
  · rw [if_neg h1] at h; exact absurd h h1
theorem evl_right {q : List Stp} {a b : List Zit} (h : plnE q a b = 0) : errZ (evlF q a b) = 0 := by
  obtain ⟨h1, h2, h3⟩ := plnE_parts h
  obtain ⟨k1, _, _, k4, k5⟩ := ahdE_parts h1
  obtain ⟨q1, _, q3⟩ := errQ_wids k1
  obtain ⟨ah', m1, m2⟩ := all_right k4 k5 q [] [] q3 Ahd.nil h2
  have hq : 0 < q.length := List.length_pos_iff.2 q1
  unfold evlF
  rw [h3]
  exact (m1.ok _ (by rw [m2]; simp; omega)).1
/-- What PlainLinear says. -/
theorem linear {q : List Stp} {a b c d : List Zit} (hl : ∀ s ∈ q, s.k ≠ 4 ∧ s.k ≤ 6) (hx : plnE q a b = 0) (hy : plnE q c d = 0) (hac : addE a c = 0) (hbd : addE b d = 0) (hz : plnE q (addL a c) (addL b d) = 0) (hw : addE (evlF q a b) (evlF q c d) = 0) :
    evlF q (addL a c) (addL b d) = addL (evlF q a b) (evlF q c d) := by
  refine both_eq (evl_right hz) ?_ hw
  obtain ⟨x1, x2, x3⟩ := plnE_parts hx
  obtain ⟨y1, y2, y3⟩ := plnE_parts hy
  obtain ⟨z1, z2, z3⟩ := plnE_parts hz
  obtain ⟨xq, _, _, xa, xb⟩ := ahdE_parts x1
  obtain ⟨_, _, _, yc, yd⟩ := ahdE_parts y1
  obtain ⟨_, _, _, zm, zn⟩ := ahdE_parts z1
  unfold evlF
  rw [x3, y3, z3]
  exact lin_all xa xb yc yd zm zn (fun r => wt_add hac r) (fun r => wt_add hbd r) q [] [] [] [] (errQ_wids xq).2.2 hl Ahd.nil Ahd.nil Ahd.nil (fun i => bth_nil) x2 y2 z2 _
end Go.Proofs.YtnkpfhipgcmplaaGreatDoor

namespace Go.Proofs.YtnkpfhipgcmplaaGreatDoor

theorem tot_cons {l m : List Zit} {x : Zit} (hx : x.2 ≠ 0) (hlt : ∀ y ∈ m, cmpL x.1 y.1 < 0) (hw : ∀ r, wt l r = (if x.1 = r then x.2 else 0) + wt m r) : totL l = x :: totL m := by
  refine (totL_is l).uniq (m := l) (T := x :: totL m) ⟨?_, ?_, ?_⟩ (fun _ => rfl)
  · unfold Rise
    rw [List.pairwise_cons]
    exact ⟨fun y hy => by
      obtain ⟨z, hz, e⟩ := (totL_is m).row hy
      rw [← e]; exact hlt z hz, (totL_is m).rise⟩
  · intro y hy
    rcases List.mem_cons.1 hy with e | e
    · rw [e]; exact hx
    · exact (totL_is m).noz y e
  · intro r
    show (if x.1 = r then x.2 else 0) + wt (totL m) r = _
    rw [(totL_is m).same, hw]
/-- What is to be added to b to have a. -/
def difL (a b : List Zit) : List Zit := totL (a ++ negP b)
theorem wt_dif (a b : List Zit) (r : List Int) : wt (a ++ negP b) r = wt a r - wt b r := by
  rw [wt_append]
  have := wt_neg b r
  unfold negP
  omega
theorem mem_neg {b : List Zit} {z : Zit} (h : z ∈ negP b) : ∃ y ∈ b, y.1 = z.1 := by
  obtain ⟨y, hy, rfl⟩ := List.mem_map.1 h
  exact ⟨y, hy, rfl⟩
theorem dif_nil : difL [] [] = [] := rfl
/-- The first of a is ahead. -/
theorem dif_lt {x : Zit} {t b : List Zit} (ha : Rise (x :: t)) (hx : x.2 ≠ 0) (hb : ∀ y ∈ b, cmpL x.1 y.1 < 0) : difL (x :: t) b = x :: difL t b := by
  refine tot_cons hx (fun z hz => ?_) (fun r => ?_)
  · rcases List.mem_append.1 hz with e | e
    · exact (List.pairwise_cons.1 ha).1 z e
    · obtain ⟨y, hy, e2⟩ := mem_neg e
      rw [← e2]; exact hb y hy
  · rw [wt_dif, wt_dif]
    simp only [wt]
    omega
/-- The first of b is ahead. -/
theorem dif_gt {y : Zit} {a u : List Zit} (hb : Rise (y :: u)) (hy : y.2 ≠ 0) (ha : ∀ x ∈ a, cmpL y.1 x.1 < 0) : difL a (y :: u) = (y.1, -y.2) :: difL a u := by
  refine tot_cons (x := (y.1, -y.2)) (by show -y.2 ≠ 0; omega) (fun z hz => ?_) (fun r => ?_)
  · rcases List.mem_append.1 hz with e | e
    · exact ha z e
    · obtain ⟨v, hv, e2⟩ := mem_neg e
      rw [← e2]; exact (List.pairwise_cons.1 hb).1 v hv
  · rw [wt_dif, wt_dif]
    simp only [wt]
    by_cases e : y.1 = r
    · simp only [if_pos e]; omega
    · simp only [if_neg e]; omega
/-- Both begin with one row. -/
theorem dif_eq {x y : Zit} {t u : List Zit} (ha : Rise (x :: t)) (hb : Rise (y :: u)) (h : x.1 = y.1) : difL (x :: t) (y :: u) = if x.2 - y.2 = 0 then difL t u else (y.1, x.2 - y.2) :: difL t u := by
  have hw : ∀ r, wt ((x :: t) ++ negP (y :: u)) r = (if y.1 = r then x.2 - y.2 else 0) + wt (t ++ negP u) r := fun r => by
    rw [wt_dif, wt_dif]
    simp only [wt, h]
    by_cases e : y.1 = r
    · rw [if_pos e, if_pos e]; simp only [if_pos e]; omega
    · rw [if_neg e, if_neg e]; simp only [if_neg e]; omega
  by_cases h0 : x.2 - y.2 = 0
  · rw [if_pos h0]
    refine totL_same fun r => ?_
    rw [hw r, h0]
    by_cases e : y.1 = r
    · rw [if_pos e]; omega
    · rw [if_neg e]; omega
  · rw [if_neg h0]
    refine tot_cons (x := (y.1, x.2 - y.2)) h0 (fun z hz => ?_) hw
    rcases List.mem_append.1 hz with e | e
    · show cmpL y.1 z.1 < 0
      rw [← h]; exact (List.pairwise_cons.1 ha).1 z e
    · obtain ⟨v, hv, e2⟩ := mem_neg e
      rw [← e2]; exact (List.pairwise_cons.1 hb).1 v hv
/-- What was, and what is to be added, are what is. -/
theorem dif_back {a b : List Zit} (ha : errZ a = 0) : totL (b ++ difL a b) = a := by
  have h := (errZ_iff a).1 ha
  have h1 : IsTot a a := ⟨h.2.2, okZ_noz h.2.1, fun _ => rfl⟩
  refine (totL_is _).uniq h1 fun r => ?_
  rw [wt_append]
  unfold difL
  rw [(totL_is _).same, wt_dif]
  omega
theorem tot_self {a : List Zit} (ha : errZ a = 0) : totL a = a := by
  have h := (errZ_iff a).1 ha
  exact (totL_is _).uniq (⟨h.2.2, okZ_noz h.2.1, fun _ => rfl⟩ : IsTot a a) fun _ => rfl
theorem add_nil_left {a : List Zit} (ha : errZ a = 0) : addE [] a = 0 ∧ addL [] a = a := by
  have h := (errZ_iff a).1 ha
  have hbad : ¬ BadT a := by
    rintro ⟨r, hr⟩
    by_cases h0 : wt a r = 0
    · rw [h0] at hr; cases hr
    · obtain ⟨x, hx, e⟩ := wt_some h0
      rw [← e, h.2.2.wt hx, (okZ_parts (h.2.1 x hx)).2.1] at hr; cases hr
  have e0 : errZ [] = 0 := by decide
  have e1 : totE ([] ++ a) = 0 := totE_ok hbad
  have e2 : totL ([] ++ a) = a := tot_self ha
  have e3 : addE [] a = 0 := by
    unfold addE
    rw [if_pos e0, if_pos ha, if_pos e1, if_neg (by rw [e2]; omega)]
  exact ⟨e3, by unfold addL; rw [if_pos e3, e2]⟩

/-- What is wrong with the sets of both tables. -/
def tblE (a b : List Zit) : Int := if errZ a = 0 then (if errZ b = 0 then (if (a ++ b).all (fun x => decide (x.1.length = 4)) = true then 0 else 5) else errZ b) else errZ a
theorem ahd_tbl (q : List Stp) (a b : List Zit) : ahdE q a b = if errQ q = 0 then tblE a b else errQ q := rfl
theorem tblE_parts {a b : List Zit} (h : tblE a b = 0) : errZ a = 0 ∧ errZ b = 0 ∧ Wide 4 a ∧ Wide 4 b := by
  unfold tblE at h
  by_cases h1 : errZ a = 0
  · rw [if_pos h1] at h
    by_cases h2 : errZ b = 0
    · rw [if_pos h2] at h
      by_cases h3 : (a ++ b).all (fun x => decide (x.1.length = 4)) = true
      · have h4 := List.all_eq_true.1 h3
        exact ⟨h1, h2, fun x hx => by have := of_decide_eq_true (h4 x (List.mem_append.2 (Or.inl hx))); omega, fun x hx => by have := of_decide_eq_true (h4 x (List.mem_append.2 (Or.inr hx))); omega⟩
      · rw [if_neg h3] at h; cases h
    · rw [if_neg h2] at h; exact absurd h h2
  · rw [if_neg h1] at h; exact absurd h h1
theorem tblE_ok {a b : List Zit} (h1 : errZ a = 0) (h2 : errZ b = 0) (h3 : Wide 4 a) (h4 : Wide 4 b) : tblE a b = 0 := by
  unfold tblE
  rw [if_pos h1, if_pos h2, if_pos]
  rw [List.all_eq_true]
  intro x hx
  rcases List.mem_append.1 hx with e | e
  · exact decide_eq_true (by have := h3 x e; omega)
  · exact decide_eq_true (by have := h4 x e; omega)
/-- What Feed's error is: the query q, the tables s and t, what comes a and b. -/
def fedE (q : List Stp) (s t a b : List Zit) : Int := if tblE a b = 0 then (if addE s a = 0 then (if addE t b = 0 then plnE q (addL s a) (addL t b) else addE t b) else addE s a) else tblE a b
theorem fedE_parts {q : List Stp} {s t a b : List Zit} (h : fedE q s t a b = 0) : tblE a b = 0 ∧ addE s a = 0 ∧ addE t b = 0 ∧ plnE q (addL s a) (addL t b) = 0 := by
  unfold fedE at h
  by_cases h1 : tblE a b = 0
  · rw [if_pos h1] at h
    by_cases h2 : addE s a = 0
    · rw [if_pos h2] at h
      by_cases h3 : addE t b = 0
      · rw [if_pos h3] at h; exact ⟨h1, h2, h3, h⟩
      · rw [if_neg h3] at h; exact absurd h h3
    · rw [if_neg h2] at h; exact absurd h h2
  · rw [if_neg h1] at h; exact absurd h h1
theorem fedE_ok {q : List Stp} {s t a b : List Zit} (h1 : tblE a b = 0) (h2 : addE s a = 0) (h3 : addE t b = 0) (h4 : plnE q (addL s a) (addL t b) = 0) : fedE q s t a b = 0 := by
  unfold fedE
  rw [if_pos h1, if_pos h2, if_pos h3, h4]

/-- A step, but for where its list lies. -/
def bare (s : Stp) : Stp := { s with p := none, n := 0 }
theorem wid_bare (s : Stp) (ah : List Int) : widW (bare s) ah = widW s ah := rfl
theorem wids_bare : ∀ (q : List Stp) (ah : List Int), widsF (q.map bare) ah = widsF q ah
  | [], _ => rfl
  | s :: q, ah => by
    show (if widW (bare s) ah = 0 then none else widsF (q.map bare) (ah ++ [widW (bare s) ah])) = _
    rw [wid_bare, wids_bare q]
    rfl
theorem errQ_bare (q : List Stp) : errQ (q.map bare) = errQ q := by
  unfold errQ
  rw [List.length_map, wids_bare]
theorem tellE_bare (s : Stp) (a b : List Zit) (S : List (List Zit)) : tellE (bare s) a b S = tellE s a b S := rfl
theorem tellF_bare (s : Stp) (a b : List Zit) (S : List (List Zit)) : tellF (bare s) a b S = tellF s a b S := rfl
theorem allE_bare (a b : List Zit) : ∀ (q : List Stp) (S : List (List Zit)), allE a b (q.map bare) S = allE a b q S
  | [], _ => rfl
  | s :: q, S => by
    show (if tellE (bare s) a b S = 0 then allE a b (q.map bare) (S ++ [tellF (bare s) a b S]) else tellE (bare s) a b S) = _
    rw [tellE_bare, tellF_bare, allE_bare a b q]
    rfl
theorem allF_bare (a b : List Zit) : ∀ (q : List Stp) (S : List (List Zit)), allF a b (q.map bare) S = allF a b q S
  | [], _ => rfl
  | s :: q, S => by
    show (if tellE (bare s) a b S = 0 then allF a b (q.map bare) (S ++ [tellF (bare s) a b S]) else []) = _
    rw [tellE_bare, tellF_bare, allF_bare a b q]
    rfl
theorem plnE_bare (q : List Stp) (a b : List Zit) : plnE (q.map bare) a b = plnE q a b := by
  unfold plnE
  rw [ahd_tbl, ahd_tbl, errQ_bare, allE_bare]
theorem evlF_bare (q : List Stp) (a b : List Zit) : evlF (q.map bare) a b = evlF q a b := by
  unfold evlF plnF
  rw [plnE_bare, allF_bare, List.length_map]
theorem fedE_bare (q : List Stp) (s t a b : List Zit) : fedE (q.map bare) s t a b = fedE q s t a b := by
  unfold fedE
  rw [plnE_bare]
theorem same_plnE {q r : List Stp} (h : q.map bare = r.map bare) (a b : List Zit) : plnE q a b = plnE r a b := by rw [← plnE_bare q, h, plnE_bare]
theorem same_evlF {q r : List Stp} (h : q.map bare = r.map bare) (a b : List Zit) : evlF q a b = evlF r a b := by rw [← evlF_bare q, h, evlF_bare]
theorem same_fedE {q r : List Stp} (h : q.map bare = r.map bare) (s t a b : List Zit) : fedE q s t a b = fedE r s t a b := by rw [← fedE_bare q, h, fedE_bare]
/-- Of no rows nothing is told. -/
theorem normL_nil : normL [] = [] := by decide
theorem addL_nil : addL [] [] = [] := by decide
theorem minF_nil : minF [] [] = [] := by decide
theorem joinF_nil (c v : Int) : joinF [] [] c v = [] := by
  unfold joinF
  split
  · show normL ((pairL [] [] c v).take 401) = []
    exact normL_nil
  · rfl
theorem oneF_nil (s : Stp) : oneF s [] = [] := by
  unfold oneF
  repeat' split
  all_goals rfl
theorem getS_nil {S : List (List Zit)} (h : ∀ x ∈ S, x = []) (i : Int) : getS S i = [] := by
  unfold getS
  rw [List.getD_eq_getElem?_getD]
  cases e : S[i.toNat]? with
  | none => rfl
  | some x => exact h x (List.mem_of_getElem? e)
theorem tellF_nil (s : Stp) {S : List (List Zit)} (h : ∀ x ∈ S, x = []) : tellF s [] [] S = [] := by
  unfold tellF tabF
  rw [getS_nil h, getS_nil h, addL_nil, minF_nil, joinF_nil, oneF_nil]
  repeat' split
  all_goals first | rfl | exact normL_nil
theorem allF_nil : ∀ (q : List Stp) (S : List (List Zit)), (∀ x ∈ S, x = []) → ∀ y ∈ allF [] [] q S, y = []
  | [], S, h, y, hy => h y hy
  | s :: q, S, h, y, hy => by
    have hy' : y ∈ (if tellE s [] [] S = 0 then allF [] [] q (S ++ [tellF s [] [] S]) else []) := hy
    by_cases e : tellE s [] [] S = 0
    · rw [if_pos e] at hy'
      refine allF_nil q _ (fun x hx => ?_) y hy'
      rcases List.mem_append.1 hx with k | k
      · exact h x k
      · rw [List.mem_singleton.1 k]; exact tellF_nil s h
    · rw [if_neg e] at hy'; cases hy'
theorem evlF_nil (q : List Stp) : evlF q [] [] = [] := by
  unfold evlF plnF
  split
  · rw [List.getD_eq_getElem?_getD]
    cases e : (allF [] [] q [])[q.length - 1]? with
    | none => rfl
    | some x => exact allF_nil q [] (fun x hx => by cases hx) x (List.mem_of_getElem? e)
  · rfl
end Go.Proofs.YtnkpfhipgcmplaaGreatDoor
