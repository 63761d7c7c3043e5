/-
  viewref.Rest, slices.Clone at steps; one more step in a list.
  viewkeep.PlainParts.
-/
import Derived.Test.YtkmhofkchnhpdaaM31
import Derived.Test.YtkmhofkchnhpdaaM30
import Derived.WalkSpells
import Derived.Shelf.Slices.Clone
namespace Go.Proofs.Ytkmhofkchnhpdaa
open Go.RowKit Go.Sort

set_option maxHeartbeats 400000 in
theorem rest_any (n m : Int) (w : World) (hm : 0 < m ∧ m ≤ 8) : Calls Try.prog 11 #[.int .i64 n, .int .i64 m] w fun e w' => (∃ r : Nat, e = .returned (.int .i64 r) ∧ (r : Int) < m) ∧ w' = w := by
  have hm0 : m ≠ 0 := by omega
  have h1 := Int.tmod_lt_of_pos n hm.1
  have h2 : -m < n.tmod m := by
    have := Int.tmod_lt_of_pos (-n) hm.1
    rw [Int.neg_tmod] at this
    omega
  by_cases h : n.tmod m < 0
  · obtain ⟨r, hr⟩ : ∃ r : Nat, n.tmod m + m = r := ⟨(n.tmod m + m).toNat, by omega⟩
    have hrm : (r : Int) < m := by omega
    go_enter Try.func11, Try.ntmps11
    go_wp2
    go_ret
    exact ⟨⟨r, rfl, hrm⟩, rfl⟩
  · obtain ⟨r, hr⟩ : ∃ r : Nat, n.tmod m = r := ⟨(n.tmod m).toNat, by omega⟩
    go_enter Try.func11, Try.ntmps11
    go_wp2
    go_ret
    exact ⟨⟨r, rfl, by omega⟩, rfl⟩
theorem Try.infoQ : (Try.prog.info? 27).map (fun i => (i.zero, i.size, i.bytes)) = some (some (.agg #[.int .i64 0, .int .i64 0, .int .i64 0, .int .i64 0, .int .i64 0, .int .i64 0, .slice none 0 0]), 7, 72) := by kernel_rfl
theorem wpList_append_q (w : World) {ops : Array Oper} {rest : List Oper} {o : Oper} {a : Act} {Q : Exit → Act → World → Prop} (hgd : o.guard = none) (s x : Operand)
    (ho : o.op = .call { callee := .builtin .append, args := #[s, x], argTypes := #[22, 22] })
    (base : Nat) (v : Value) (l m : List Stp) (A : Option Addr) (cap : Nat) (hs : a.eval s = v) (hx : a.eval x = .slice A m.length cap) (hown : OwnG encQ 7 27 w base v l) (hr : RowG encQ 7 w A m) (hA : A = none → cap = 0)
    (hml : l.length + m.length ≤ maxLen) (hb : (l.length + m.length) * 72 ≤ 140737488355328) (hbase : base ≤ w.heap.size)
    (h : ∀ v' w', OwnG encQ 7 27 w' base v' (l ++ m) → w.grownBy w' v.ownBlock → wpList Try.prog ops Q rest (a.put o.dst v') w') : wpList Try.prog ops Q (o :: rest) a w :=
  wpList_plain hgd fun _ hK => wp_append_g encQ_len encQ_one (by omega) 22 Try.underlying22 (.agg #[.int .i64 0, .int .i64 0, .int .i64 0, .int .i64 0, .int .i64 0, .int .i64 0, .slice none 0 0]) 72 Try.infoQ rfl w s x ho base v l m A cap hs hx hown hr hA hml hb hbase fun v' w' h2 h3 => hK _ _ (h v' w' h2 h3)
set_option maxRecDepth 100000 in
set_option maxHeartbeats 400000 in
theorem clone_any (q : List Stp) (b off : Nat) (cap : Nat) (w : World) (hl : q.length ≤ 6) (hr : RowG encQ 7 w (some ⟨b, off, none⟩) q) :
    Calls Try.prog 12 #[.slice (some ⟨b, off, none⟩) q.length cap] w fun e w' => ∃ v, e = .returned v ∧ OwnG encQ 7 27 w' w.heap.size v q ∧ Below w.heap.size w w' := by
  have hrH : Hid (RowG encQ 7 w (some ⟨b, off, none⟩) q) := hr
  clear hr
  have q22 : ∀ (w : World) (a : Option Addr) (n c n' c' : Nat), (binOp .eql 22 (.slice a n c) (.slice none n' c')).run Try.prog w = .ok (.bool a.isNone) w := fun w a n c n' c' => Lib.run_eql_slice_nil w _ _ a n c n' c' Try.underlying22
  go_enter Try.func12, Try.ntmps12
  have hoX : Hid (OwnG encQ 7 27 (w.alloc (.cells #[] 27)) w.heap.size (.slice (some ⟨w.heap.size, 0, none⟩) 0 0) [] ∧ RowG encQ 7 (w.alloc (.cells #[] 27)) (some ⟨b, off, none⟩) q ∧ ([] : List Stp).length + q.length ≤ maxLen ∧ (([] : List Stp).length + q.length) * 72 ≤ 140737488355328 ∧ w.heap.size ≤ (w.alloc (.cells #[] 27)).heap.size) :=
    ⟨⟨rfl, Or.inr ⟨w.heap.size, 0, #[], rfl, Nat.le_refl _, (MapKept.heap_alloc _ _).1, Nat.le_refl _, by simp, rfl, rfl⟩⟩, hrH.out.gr ((Gr.refl _).alloc _), by unfold maxLen; simp; omega, by simp; omega, by simp⟩
  go_wp2_with (at_builtin; refine wpList_append_q _ rfl (.tmp 5) (.tmp 6) rfl w.heap.size (.slice (some ⟨w.heap.size, 0, none⟩) 0 0) [] q (some ⟨b, off, none⟩) cap rfl rfl hoX.out.1 hoX.out.2.1 (fun h => by cases h) hoX.out.2.2.1 hoX.out.2.2.2.1 hoX.out.2.2.2.2 ?_; intro v1 w1 hown1 hgr1)
  have hfin : Hid (OwnG encQ 7 27 w1 w.heap.size v1 q ∧ Below w.heap.size w w1) := ⟨hown1, ((Gr.refl w).alloc _).below.trans (OwnG.grown_below hoX.out.1 hgr1 hoX.out.2.2.2.2)⟩
  clear hown1 hgr1
  go_ret
  exact ⟨v1, rfl, hfin.out⟩
end Go.Proofs.Ytkmhofkchnhpdaa

namespace Go.Proofs.Ytkmhofkchnhpdaa
open Go.RowKit Go.Sort Go.Maps

theorem evalW {q : List Stp} {QA : Option Addr} {cq : Nat} {a b : List Itm} {A B : Option Addr} {ca cb : Nat} {w : World} (hl : q.length ≤ maxLen) (hq : Stps w QA q) (ha : Lv w A ca a) (hb : Lv w B cb b) {m n : List Zit} (hm : a.map Itm.z = m) (hn : b.map Itm.z = n) (hE : plnE q m n = 0) {X : List Zit} (hX : evlF q m n = X) {k : Nat} (hk : q.length = k) :
    Calls Try.prog 7 #[.slice QA k cq, .slice A a.length ca, .slice B b.length cb] w fun e w' => ∃ (L : List Itm) (C : Option Addr) (k : Nat), e = .returned (.tuple #[.slice C L.length k, .int .i64 0]) ∧ L.map Itm.z = X ∧ Lv w' C k L ∧ Below w.heap.size w w' := by
  subst hm hn hX hk
  have := eval_any q QA cq a b A B ca cb w hl hq ha hb
  rw [hE] at this
  exact this
def minStp (n : Int) : Stp := ⟨6, n, n, 0, 0, 0, none, 0, []⟩
def disStp (n : Int) : Stp := ⟨7, n, 0, 0, 0, 0, none, 0, []⟩
theorem min_e (n : Int) (a b : List Zit) (S : List (List Zit)) : tellE (minStp n) a b S = minE (getS S n) (getS S n) ∧ tellF (minStp n) a b S = minF (getS S n) (getS S n) := ⟨rfl, rfl⟩
theorem dis_e (n : Int) (a b : List Zit) (S : List (List Zit)) : tellE (disStp n) a b S = normE (distL (getS S n)) ∧ tellF (disStp n) a b S = normL (distL (getS S n)) := ⟨rfl, rfl⟩
theorem getS_last {q : List Stp} {a b : List Zit} : getS (plnF q a b) ((q.length - 1 : Nat) : Int) = evlF q a b := by
  unfold getS evlF
  rw [Int.toNat_natCast]
theorem last_in {q : List Stp} {ah : List Int} {a b : List Zit} (h : plnE q a b = 0) (hA : Ahd (plnF q a b) ah) : inB ((q.length - 1 : Nat) : Int) 0 ((ah.length : Int) - 1) = true ∧ ah.length = q.length := by
  have h1 := plnF_len h
  have h2 := hA.len
  refine ⟨?_, by omega⟩
  simp [inB]
  omega
theorem wid_last {q : List Stp} {ah : List Int} {a b : List Zit} (h : plnE q a b = 0) (hA : Ahd (plnF q a b) ah) (hn : ∀ x ∈ ah, x ≠ 0) : ah.getD (q.length - 1) 0 ≠ 0 := by
  have h1 := plnF_len h
  have h2 := hA.len
  have h3 : q.length - 1 < ah.length := by omega
  rw [List.getD_eq_getElem?_getD, List.getElem?_eq_getElem h3]
  exact hn _ (List.getElem_mem h3)
/-- A set less itself. -/
theorem parts_minus {q : List Stp} {a b : List Zit} (h : plnE q a b = 0) (h7 : q.length ≤ 7) : plnE (q ++ [minStp ((q.length - 1 : Nat) : Int)]) a b = 0 ∧ evlF (q ++ [minStp ((q.length - 1 : Nat) : Int)]) a b = [] := by
  obtain ⟨ah, k1, k2, k3⟩ := ahd_of h
  have hin := last_in h k2
  have hok := evl_right h
  have hw : widW (minStp ((q.length - 1 : Nat) : Int)) ah ≠ 0 := by
    rw [wid6 rfl, if_pos]
    · show ah.getD (((q.length - 1 : Nat) : Int)).toNat 0 ≠ 0
      rw [Int.toNat_natCast]; exact wid_last h k2 k3
    · simp [minStp, hin.1]
  have hsame := add_neg hok
  have e1 : tellE (minStp ((q.length - 1 : Nat) : Int)) a b (plnF q a b) = 0 := by
    rw [(min_e _ _ _ _).1, getS_last]
    unfold minE
    rw [if_pos hok]
    exact hsame.1
  have e2 : tellF (minStp ((q.length - 1 : Nat) : Int)) a b (plnF q a b) = [] := by
    rw [(min_e _ _ _ _).2, getS_last]
    unfold minF minE
    rw [if_pos hok, if_pos (show addE (evlF q a b) (negP (evlF q a b)) = 0 from hsame.1)]
    exact hsame.2
  obtain ⟨m1, _, m3⟩ := one_more h h7 k1 hw e1
  exact ⟨m1, by rw [m3, e2]⟩
/-- What is distinct. -/
theorem parts_dist {q : List Stp} {a b : List Zit} (h : plnE q a b = 0) (h7 : q.length ≤ 7) : plnE (q ++ [disStp ((q.length - 1 : Nat) : Int)]) a b = 0 ∧ evlF (q ++ [disStp ((q.length - 1 : Nat) : Int)]) a b = distL (evlF q a b) := by
  obtain ⟨ah, k1, k2, k3⟩ := ahd_of h
  have hin := last_in h k2
  have hok := evl_right h
  have hd := dist_right hok
  have hw : widW (disStp ((q.length - 1 : Nat) : Int)) ah ≠ 0 := by
    rw [wid7 rfl, if_pos]
    · show ah.getD (((q.length - 1 : Nat) : Int)).toNat 0 ≠ 0
      rw [Int.toNat_natCast]; exact wid_last h k2 k3
    · simp [disStp, hin.1]
  have e1 : tellE (disStp ((q.length - 1 : Nat) : Int)) a b (plnF q a b) = 0 := by
    rw [(dis_e _ _ _ _).1, getS_last]
    exact hd.1
  have e2 : tellF (disStp ((q.length - 1 : Nat) : Int)) a b (plnF q a b) = distL (evlF q a b) := by
    rw [(dis_e _ _ _ _).2, getS_last]
    exact hd.2.1
  obtain ⟨m1, _, m3⟩ := one_more h h7 k1 hw e1
  exact ⟨m1, by rw [m3, e2]⟩
theorem parts_twice {q : List Stp} {a b : List Zit} (h : plnE q a b = 0) (h6 : q.length ≤ 6) : plnE (q ++ [disStp ((q.length - 1 : Nat) : Int), disStp (((q.length - 1 : Nat) : Int) + 1)]) a b = 0 ∧ evlF (q ++ [disStp ((q.length - 1 : Nat) : Int), disStp (((q.length - 1 : Nat) : Int) + 1)]) a b = distL (evlF q a b) := by
  have h1 := parts_dist h (by omega)
  have h0 := (plnF_len h).2
  have h2 := parts_dist h1.1 (by simp; omega)
  have e : (((q ++ [disStp ((q.length - 1 : Nat) : Int)]).length - 1 : Nat) : Int) = ((q.length - 1 : Nat) : Int) + 1 := by simp; omega
  rw [e, List.append_assoc] at h2
  exact ⟨h2.1, by rw [show q ++ [disStp ((q.length - 1 : Nat) : Int), disStp (((q.length - 1 : Nat) : Int) + 1)] = q ++ ([disStp ((q.length - 1 : Nat) : Int)] ++ [disStp (((q.length - 1 : Nat) : Int) + 1)]) from rfl, h2.2, h1.2, (dist_right (evl_right h)).2.2.2]⟩

/-- A query with more steps behind it, in memory of its own. -/
theorem ext_stps {w4 w5 w6 : World} {A : Option Addr} {q r : List Stp} {v5 v6 : Value} {o : Obj} (h4 : Stps w4 A q) (hb5 : Below w4.heap.size w4 w5) (hown : OwnG encQ 7 27 (w5.alloc o) w4.heap.size v5 q) (hown6 : OwnG encQ 7 27 w6 w4.heap.size v6 (q ++ r)) (hg : (w5.alloc o).grownBy w6 v5.ownBlock) (hr : ∀ s ∈ r, s.p = none ∧ s.l = [] ∧ s.n = 0) :
    ∃ QB cB, v6 = .slice QB (q ++ r).length cB ∧ Stps w6 QB (q ++ r) ∧ Below w4.heap.size w4 w6 := by
  have hb6 : Below w4.heap.size w4 w6 := (hb5.alloc hb5.size o).grown hg (Nat.le_trans hb5.size (by simp)) (fun g e => (World.ownsRow.lt hown g e).1)
  obtain ⟨QB, cB, hv, _, hrow, _⟩ := hown6.row encQ_len
  refine ⟨QB, cB, hv, ⟨hrow, fun s hs => ?_⟩, hb6⟩
  rcases List.mem_append.1 hs with e | e
  · exact (h4.below hb6).each s e
  · obtain ⟨h1, h2, h3⟩ := hr s e
    rw [h1, h2, h3]
    exact ⟨Or.inl rfl, by simp [maxLen], fun _ => rfl⟩

set_option maxRecDepth 100000 in
set_option maxHeartbeats 2000000 in
theorem parts_any (q : List Stp) (QA : Option Addr) (cq : Nat) (a b : List Itm) (A B : Option Addr) (ca cb : Nat) (i : Int) (w : World) (hl : q.length ≤ maxLen) (hcap : q.length ≤ cq) (hq : Stps w QA q) (ha : Lv w A ca a) (hb : Lv w B cb b) :
    Calls Try.prog 4 #[.slice QA q.length cq, .slice A a.length ca, .slice B b.length cb, .int .i64 i] w fun e w' => e = .returned (.bool true) ∧ Below w.heap.size w w' := by
  obtain ⟨m, hm⟩ : ∃ m, a.map Itm.z = m := ⟨_, rfl⟩
  obtain ⟨n, hn⟩ : ∃ n, b.map Itm.z = n := ⟨_, rfl⟩
  obtain ⟨E, hE⟩ : ∃ E, plnE q m n = E := ⟨_, rfl⟩
  have hH : Hid (Stps w QA q ∧ Lv w A ca a ∧ Lv w B cb b ∧ q.length ≤ maxLen ∧ a.map Itm.z = m ∧ b.map Itm.z = n ∧ plnE q m n = E) := ⟨hq, ha, hb, hl, hm, hn, hE⟩
  have hC0 := counted_any w
  have hC : Hid _ := hC0
  unfold maxLen at hl
  clear hC0 hq ha hb hm hn hE
  go_enter Try.func4, Try.ntmps4
  go_wp2_with fail
  refine Calls.mono (show Calls _ _ _ _ _ from hC.out) ?_
  rintro e w1 ⟨rfl, hb1⟩
  have hW1 : Hid (Stps w1 QA q ∧ Lv w1 A ca a ∧ Lv w1 B cb b ∧ Below w.heap.size w w1) := ⟨hH.out.1.below hb1, hH.out.2.1.below hb1, hH.out.2.2.1.below hb1, hb1⟩
  clear hC hb1
  have hA0 := all_any q QA cq a b A B ca cb w1 hH.out.2.2.2.1 hW1.out.1 hW1.out.2.1 hW1.out.2.2.1
  rw [hH.out.2.2.2.2.1, hH.out.2.2.2.2.2.1, hH.out.2.2.2.2.2.2] at hA0
  have hA : Hid _ := hA0
  clear hA0
  go_wp2_with fail
  refine Calls.mono (show Calls _ _ _ _ _ from hA.out) ?_
  rintro e w2 ⟨ss, SC, sk, rfl, hs2, hb2⟩
  have hW2 : Hid (Stps w2 QA q ∧ Lv w2 A ca a ∧ Lv w2 B cb b ∧ Below w.heap.size w w2 ∧ Sts w2 SC ss (plnF q m n)) := ⟨hW1.out.1.below hb2, hW1.out.2.1.below hb2, hW1.out.2.2.1.below hb2, hW1.out.2.2.2.trans (hb2.mono hW1.out.2.2.2.size), hs2⟩
  clear hA hs2 hb2 hW1
  cases hq1 : (E != 0)
  · have hE0 : Hid (plnE q m n = 0) := by show _ = _; rw [hH.out.2.2.2.2.2.2]; simpa using hq1
    have hlen := plnF_len hE0.out
    have hq0 : ((q.length : Int) == 0) = false := by have := hlen.2; rw [beq_eq_false_iff_ne]; omega
    by_cases hq6 : 6 < q.length
    · have hq6z : (6 : Int) < (q.length : Int) := by omega
      go_wp2
      go_ret
      exact ⟨rfl, hW2.out.2.2.2.1⟩
    · have hq6z : ¬ (6 : Int) < (q.length : Int) := by omega
      have hpos := hlen.2
      clear hlen
      go_wp2_with fail
      refine Calls.mono (rest_any i q.length w2 ⟨by omega, by omega⟩) ?_
      rintro e w3 ⟨⟨k, rfl, hkz⟩, hw3⟩
      subst w3
      have hk : k < q.length := by omega
      obtain ⟨f1, f2⟩ := first_steps hE0.out hk
      have hstk : Hid (Stps w2 QA (q.take (k + 1))) := ⟨hW2.out.1.row.take _, fun s hs => hW2.out.1.each s (List.mem_of_mem_take hs)⟩
      have hV0 := evalW (QA := QA) (cq := cq) (k := k + 1) (by rw [List.length_take]; unfold maxLen; omega) hstk.out hW2.out.2.1 hW2.out.2.2.1 hH.out.2.2.2.2.1 hH.out.2.2.2.2.2.1 f1 f2 (by rw [List.length_take]; omega)
      have hV : Hid _ := hV0
      clear hV0 f1 f2 hstk
      obtain ⟨bq, oq, hQA, hbq, _⟩ := hW2.out.1.at hpos
      subst hQA
      obtain ⟨t, ht⟩ : ∃ t : Nat, q.length - 1 = t := ⟨_, rfl⟩
      have hlast : (q.length : Int) - 1 = (t : Int) := by omega
      have ht6 : (t : Int) ≤ 6 := by omega
      have hwt : wrap64 (t : Int) = (t : Int) := by unfold wrap64; omega
      have hwt1 : wrap64 ((t : Int) + 1) = (t : Int) + 1 := by unfold wrap64; omega
      have hpm := parts_minus hE0.out (by omega)
      have hpd := parts_dist hE0.out (by omega)
      have hpt := parts_twice hE0.out (by omega)
      rw [ht] at hpm hpd hpt
      have hP : Hid ((plnE (q ++ [minStp t]) m n = 0 ∧ evlF (q ++ [minStp t]) m n = []) ∧ (plnE (q ++ [disStp t]) m n = 0 ∧ evlF (q ++ [disStp t]) m n = distL (evlF q m n)) ∧ plnE (q ++ [disStp t, disStp ((t : Int) + 1)]) m n = 0 ∧ evlF (q ++ [disStp t, disStp ((t : Int) + 1)]) m n = distL (evlF q m n)) := ⟨hpm, hpd, hpt⟩
      clear hpm hpd hpt ht
      go_wp2_with fail
      refine Calls.mono (show Calls _ _ _ _ _ from hV.out) ?_
      rintro e w3 ⟨X, XA, xk, rfl, x1, x2, x3⟩
      have hW3 : Hid (Stps w3 (some ⟨bq, oq, none⟩) q ∧ Lv w3 A ca a ∧ Lv w3 B cb b ∧ Below w.heap.size w w3 ∧ Sts w3 SC ss (plnF q m n) ∧ Lv w3 XA xk X ∧ X.map Itm.z = (plnF q m n).getD k []) := ⟨hW2.out.1.below x3, hW2.out.2.1.below x3, hW2.out.2.2.1.below x3, hW2.out.2.2.2.1.trans (x3.mono hW2.out.2.2.2.1.size), hW2.out.2.2.2.2.below x3, x2, x1⟩
      clear x1 x2 x3 hV hW2
      obtain ⟨sb, so, kn, y, hSC, hsb, hkn, hknl, hyc, hyl, hyz⟩ := hW3.out.2.2.2.2.1.at (i := (k : Int)) (by omega) (by rw [(plnF_len hE0.out).1]; omega)
      subst hSC
      obtain rfl : k = kn := by omega
      have hknz : (k : Int) < (ss.length : Int) := by omega
      have hS0 := sameV hW3.out.2.2.2.2.2.1 hyl (by rw [hW3.out.2.2.2.2.2.2, hyz]; unfold getS; rw [Int.toNat_natCast])
      have hS : Hid _ := hS0
      clear hS0 hyl hyz hkn
      go_wp2_with fail
      refine Calls.mono (show Calls _ _ _ _ _ from hS.out) ?_
      rintro e w4 ⟨rfl, hg4⟩
      have hW4 : Hid (Stps w4 (some ⟨bq, oq, none⟩) q ∧ Lv w4 A ca a ∧ Lv w4 B cb b ∧ Below w.heap.size w w4) := ⟨hW3.out.1.gr hg4, hW3.out.2.1.gr hg4, hW3.out.2.2.1.gr hg4, hW3.out.2.2.2.1.trans (hg4.below.mono hW3.out.2.2.2.1.size)⟩
      clear hg4 hS hW3 hyc
      go_wp2_with fail
      refine Calls.mono (clone_any q bq oq cq w4 (by omega) hW4.out.1.row) ?_
      rintro e c6 ⟨vc6, rfl, o5, b5⟩
      have hc6 : Hid (Below w4.heap.size w4 c6 ∧ OwnG encQ 7 27 (c6.alloc (.cells #[.int .i64 6, .int .i64 (t : Int), .int .i64 (t : Int), .int .i64 0, .int .i64 0, .int .i64 0, .slice none 0 0] 27)) w4.heap.size vc6 q ∧ RowG encQ 7 (c6.alloc (.cells #[.int .i64 6, .int .i64 (t : Int), .int .i64 (t : Int), .int .i64 0, .int .i64 0, .int .i64 0, .slice none 0 0] 27)) (some ⟨c6.heap.size, 0, none⟩) [minStp t] ∧ q.length + [minStp t].length ≤ maxLen ∧ (q.length + [minStp t].length) * 72 ≤ 140737488355328 ∧ w4.heap.size ≤ (c6.alloc (.cells #[.int .i64 6, .int .i64 (t : Int), .int .i64 (t : Int), .int .i64 0, .int .i64 0, .int .i64 0, .slice none 0 0] 27)).heap.size) := ⟨b5, o5.gr ((Gr.refl _).alloc _), row_lit encQ_len rfl (Gr.refl _) rfl, by unfold maxLen; simp; omega, by simp; omega, Nat.le_trans b5.size (by simp)⟩
      clear o5 b5
      go_wp2_with (at_builtin; refine wpList_append_q _ rfl _ _ rfl w4.heap.size vc6 q [minStp t] (some ⟨c6.heap.size, 0, none⟩) 1 rfl rfl hc6.out.2.1 hc6.out.2.2.1 (fun h => by cases h) hc6.out.2.2.2.1 hc6.out.2.2.2.2.1 hc6.out.2.2.2.2.2 ?_; intro va6 d6 oa6 ga6)
      obtain ⟨QB6, cB6, hva, hst, hbd⟩ := ext_stps (r := [minStp t]) hW4.out.1 hc6.out.1 hc6.out.2.1 oa6 ga6 (fun s hs => by simp only [List.mem_cons, List.not_mem_nil, or_false] at hs; first | (rw [hs]; exact ⟨rfl, rfl, rfl⟩) | (rcases hs with e | e <;> rw [e] <;> exact ⟨rfl, rfl, rfl⟩))
      subst hva
      have hd6 : Hid (Stps d6 QB6 (q ++ [minStp t]) ∧ Below w4.heap.size w4 d6) := ⟨hst, hbd⟩
      have hV0 := evalW (QA := QB6) (cq := cB6) (k := q.length + 1) (by simp [maxLen]; omega) hd6.out.1 (hW4.out.2.1.below hd6.out.2) (hW4.out.2.2.1.below hd6.out.2) hH.out.2.2.2.2.1 hH.out.2.2.2.2.2.1 hP.out.1.1 hP.out.1.2 (by simp)
      have hV : Hid _ := hV0
      clear hV0 hst hbd oa6 ga6 hc6
      go_wp2_with fail
      refine Calls.mono (show Calls _ _ _ _ _ from hV.out) ?_
      rintro e w6 ⟨X6, XA6, xk6, rfl, x1, x2, x3⟩
      have hW6 : Hid (Stps w6 (some ⟨bq, oq, none⟩) q ∧ Lv w6 A ca a ∧ Lv w6 B cb b ∧ Below w.heap.size w w6) := ⟨(hW4.out.1.below hd6.out.2).below x3, (hW4.out.2.1.below hd6.out.2).below x3, (hW4.out.2.2.1.below hd6.out.2).below x3, hW4.out.2.2.2.trans ((hd6.out.2.trans (x3.mono hd6.out.2.size)).mono hW4.out.2.2.2.size)⟩
      have hnil : X6 = [] := List.map_eq_nil_iff.1 x1
      subst hnil
      clear x1 x2 x3 hV hd6 hW4
      go_wp2_with fail
      refine Calls.mono (clone_any q bq oq cq w6 (by omega) hW6.out.1.row) ?_
      rintro e c7 ⟨vc7, rfl, o5, b5⟩
      have hc7 : Hid (Below w6.heap.size w6 c7 ∧ OwnG encQ 7 27 (c7.alloc (.cells #[.int .i64 7, .int .i64 (t : Int), .int .i64 0, .int .i64 0, .int .i64 0, .int .i64 0, .slice none 0 0] 27)) w6.heap.size vc7 q ∧ RowG encQ 7 (c7.alloc (.cells #[.int .i64 7, .int .i64 (t : Int), .int .i64 0, .int .i64 0, .int .i64 0, .int .i64 0, .slice none 0 0] 27)) (some ⟨c7.heap.size, 0, none⟩) [disStp t] ∧ q.length + [disStp t].length ≤ maxLen ∧ (q.length + [disStp t].length) * 72 ≤ 140737488355328 ∧ w6.heap.size ≤ (c7.alloc (.cells #[.int .i64 7, .int .i64 (t : Int), .int .i64 0, .int .i64 0, .int .i64 0, .int .i64 0, .slice none 0 0] 27)).heap.size) := ⟨b5, o5.gr ((Gr.refl _).alloc _), row_lit encQ_len rfl (Gr.refl _) rfl, by unfold maxLen; simp; omega, by simp; omega, Nat.le_trans b5.size (by simp)⟩
      clear o5 b5
      go_wp2_with (at_builtin; refine wpList_append_q _ rfl _ _ rfl w6.heap.size vc7 q [disStp t] (some ⟨c7.heap.size, 0, none⟩) 1 rfl rfl hc7.out.2.1 hc7.out.2.2.1 (fun h => by cases h) hc7.out.2.2.2.1 hc7.out.2.2.2.2.1 hc7.out.2.2.2.2.2 ?_; intro va7 d7 oa7 ga7)
      obtain ⟨QB7, cB7, hva, hst, hbd⟩ := ext_stps (r := [disStp t]) hW6.out.1 hc7.out.1 hc7.out.2.1 oa7 ga7 (fun s hs => by simp only [List.mem_cons, List.not_mem_nil, or_false] at hs; first | (rw [hs]; exact ⟨rfl, rfl, rfl⟩) | (rcases hs with e | e <;> rw [e] <;> exact ⟨rfl, rfl, rfl⟩))
      subst hva
      have hd7 : Hid (Stps d7 QB7 (q ++ [disStp t]) ∧ Below w6.heap.size w6 d7) := ⟨hst, hbd⟩
      have hV0 := evalW (QA := QB7) (cq := cB7) (k := q.length + 1) (by simp [maxLen]; omega) hd7.out.1 (hW6.out.2.1.below hd7.out.2) (hW6.out.2.2.1.below hd7.out.2) hH.out.2.2.2.2.1 hH.out.2.2.2.2.2.1 hP.out.2.1.1 hP.out.2.1.2 (by simp)
      have hV : Hid _ := hV0
      clear hV0 hst hbd oa7 ga7 hc7
      go_wp2_with fail
      refine Calls.mono (show Calls _ _ _ _ _ from hV.out) ?_
      rintro e w7 ⟨X7, XA7, xk7, rfl, x1, x2, x3⟩
      have hW7 : Hid (Stps w7 (some ⟨bq, oq, none⟩) q ∧ Lv w7 A ca a ∧ Lv w7 B cb b ∧ Below w.heap.size w w7 ∧ Lv w7 XA7 xk7 X7 ∧ X7.map Itm.z = distL (evlF q m n)) := ⟨(hW6.out.1.below hd7.out.2).below x3, (hW6.out.2.1.below hd7.out.2).below x3, (hW6.out.2.2.1.below hd7.out.2).below x3, hW6.out.2.2.2.trans ((hd7.out.2.trans (x3.mono hd7.out.2.size)).mono hW6.out.2.2.2.size), x2, x1⟩
      clear x1 x2 x3 hV hd7 hW6
      go_wp2_with fail
      refine Calls.mono (clone_any q bq oq cq w7 (by omega) hW7.out.1.row) ?_
      rintro e c8 ⟨vc8, rfl, o5, b5⟩
      have hc8 : Hid (Below w7.heap.size w7 c8 ∧ OwnG encQ 7 27 (c8.alloc (.cells #[.int .i64 7, .int .i64 (t : Int), .int .i64 0, .int .i64 0, .int .i64 0, .int .i64 0, .slice none 0 0, .int .i64 7, .int .i64 ((t : Int) + 1), .int .i64 0, .int .i64 0, .int .i64 0, .int .i64 0, .slice none 0 0] 27)) w7.heap.size vc8 q ∧ RowG encQ 7 (c8.alloc (.cells #[.int .i64 7, .int .i64 (t : Int), .int .i64 0, .int .i64 0, .int .i64 0, .int .i64 0, .slice none 0 0, .int .i64 7, .int .i64 ((t : Int) + 1), .int .i64 0, .int .i64 0, .int .i64 0, .int .i64 0, .slice none 0 0] 27)) (some ⟨c8.heap.size, 0, none⟩) [disStp t, disStp ((t : Int) + 1)] ∧ q.length + [disStp t, disStp ((t : Int) + 1)].length ≤ maxLen ∧ (q.length + [disStp t, disStp ((t : Int) + 1)].length) * 72 ≤ 140737488355328 ∧ w7.heap.size ≤ (c8.alloc (.cells #[.int .i64 7, .int .i64 (t : Int), .int .i64 0, .int .i64 0, .int .i64 0, .int .i64 0, .slice none 0 0, .int .i64 7, .int .i64 ((t : Int) + 1), .int .i64 0, .int .i64 0, .int .i64 0, .int .i64 0, .slice none 0 0] 27)).heap.size) := ⟨b5, o5.gr ((Gr.refl _).alloc _), row_lit encQ_len rfl (Gr.refl _) rfl, by unfold maxLen; simp; omega, by simp; omega, Nat.le_trans b5.size (by simp)⟩
      clear o5 b5
      go_wp2_with (at_builtin; refine wpList_append_q _ rfl _ _ rfl w7.heap.size vc8 q [disStp t, disStp ((t : Int) + 1)] (some ⟨c8.heap.size, 0, none⟩) 2 rfl rfl hc8.out.2.1 hc8.out.2.2.1 (fun h => by cases h) hc8.out.2.2.2.1 hc8.out.2.2.2.2.1 hc8.out.2.2.2.2.2 ?_; intro va8 d8 oa8 ga8)
      obtain ⟨QB8, cB8, hva, hst, hbd⟩ := ext_stps (r := [disStp t, disStp ((t : Int) + 1)]) hW7.out.1 hc8.out.1 hc8.out.2.1 oa8 ga8 (fun s hs => by simp only [List.mem_cons, List.not_mem_nil, or_false] at hs; first | (rw [hs]; exact ⟨rfl, rfl, rfl⟩) | (rcases hs with e | e <;> rw [e] <;> exact ⟨rfl, rfl, rfl⟩))
      subst hva
      have hd8 : Hid (Stps d8 QB8 (q ++ [disStp t, disStp ((t : Int) + 1)]) ∧ Below w7.heap.size w7 d8) := ⟨hst, hbd⟩
      have hV0 := evalW (QA := QB8) (cq := cB8) (k := q.length + 2) (by simp [maxLen]; omega) hd8.out.1 (hW7.out.2.1.below hd8.out.2) (hW7.out.2.2.1.below hd8.out.2) hH.out.2.2.2.2.1 hH.out.2.2.2.2.2.1 hP.out.2.2.1 hP.out.2.2.2 (by simp)
      have hV : Hid _ := hV0
      clear hV0 hst hbd oa8 ga8 hc8
      go_wp2_with fail
      refine Calls.mono (show Calls _ _ _ _ _ from hV.out) ?_
      rintro e w8 ⟨X8, XA8, xk8, rfl, x1, x2, x3⟩
      have hW8 : Hid (Stps w8 (some ⟨bq, oq, none⟩) q ∧ Lv w8 A ca a ∧ Lv w8 B cb b ∧ Below w.heap.size w w8 ∧ Lv w8 XA7 xk7 X7 ∧ X7.map Itm.z = distL (evlF q m n) ∧ Lv w8 XA8 xk8 X8 ∧ X8.map Itm.z = distL (evlF q m n)) := ⟨(hW7.out.1.below hd8.out.2).below x3, (hW7.out.2.1.below hd8.out.2).below x3, (hW7.out.2.2.1.below hd8.out.2).below x3, hW7.out.2.2.2.1.trans ((hd8.out.2.trans (x3.mono hd8.out.2.size)).mono hW7.out.2.2.2.1.size), (hW7.out.2.2.2.2.1.below hd8.out.2).below x3, hW7.out.2.2.2.2.2, x2, x1⟩
      clear x1 x2 x3 hV hd8 hW7
      go_wp2_with fail
      refine Calls.mono (sameV hW8.out.2.2.2.2.1 hW8.out.2.2.2.2.2.2.1 (by rw [hW8.out.2.2.2.2.2.1, hW8.out.2.2.2.2.2.2.2])) ?_
      rintro e w9 ⟨rfl, hg9⟩
      have hB9 : Hid (Below w.heap.size w w9) := hW8.out.2.2.2.1.trans (hg9.below.mono hW8.out.2.2.2.1.size)
      clear hg9
      go_wp2
      go_ret
      exact ⟨rfl, hB9.out⟩
  · go_wp2
    go_ret
    exact ⟨rfl, hW2.out.2.2.2.1⟩
end Go.Proofs.Ytkmhofkchnhpdaa
