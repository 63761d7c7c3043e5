/-
  plain.Eval.
  Steps of one's own: append, one by one.
  The numbers of a step that may stand in a query are small.
-/
import Derived.Test.YtoanlaedkpkpnaaGreatDoorM15
import Derived.Test.YtoanlaedkpkpnaaGreatDoorQCheck
import Derived.Test.YtoanlaedkpkpnaaGreatDoorQRefM
namespace Go.Proofs.YtoanlaedkpkpnaaGreatDoor
open Go.RowKit Go.Sort Go.Maps

theorem plnF_len {q : List Stp} {a b : List Zit} (h : plnE q a b = 0) : (plnF q a b).length = q.length ∧ 0 < q.length := by
  obtain ⟨h1, h2, h3⟩ := plnE_parts h
  obtain ⟨k1, _, _, k4, k5⟩ := ahdE_parts h1
  obtain ⟨q1, _, q3⟩ := errQ_wids k1
  obtain ⟨ah', m1, m2⟩ := all_right k4 k5 q [] [] q3 Ahd.nil h2
  rw [h3, m2]
  exact ⟨by simp, List.length_pos_iff.2 q1⟩
theorem evl_no {q : List Stp} {a b : List Zit} (h : ¬ plnE q a b = 0) : evlF q a b = [] := by
  unfold evlF plnF
  rw [if_neg h]
  rfl
set_option maxRecDepth 100000 in
set_option maxHeartbeats 1000000 in
theorem eval_any (q : List Stp) (QA : Option Addr) (cq : Nat) (a b : List Itm) (A B : Option Addr) (ca cb : Nat) (w : World) (hl : q.length ≤ maxLen) (hq : Stps w QA q) (ha : Lv w A ca a) (hb : Lv w B cb b) :
    Calls Tryz.prog 17 #[.slice QA q.length cq, .slice A a.length ca, .slice B b.length cb] w fun e w' => ∃ (L : List Itm) (C : Option Addr) (k : Nat), e = .returned (.tuple #[.slice C L.length k, .int .i64 (plnE q (a.map Itm.z) (b.map Itm.z))]) ∧ L.map Itm.z = evlF q (a.map Itm.z) (b.map Itm.z) ∧ Lv w' C k L ∧ Below w.heap.size w w' := by
  have hC0 := all_any q QA cq a b A B ca cb w hl hq ha hb
  obtain ⟨P, hP⟩ : ∃ P, plnE q (a.map Itm.z) (b.map Itm.z) = P := ⟨_, rfl⟩
  have hPH : Hid (plnE q (a.map Itm.z) (b.map Itm.z) = P) := hP
  rw [hP] at hC0 ⊢
  have hC : Hid _ := hC0
  clear hC0 hP hl hq ha hb
  go_enter Tryz.func17, Tryz.ntmps17
  go_wp2_with fail
  refine Calls.mono (show Calls _ _ _ _ _ from hC.out) ?_
  rintro e w1 ⟨ss, C, k, rfl, hS0, hb0⟩
  have hS : Hid (Sts w1 C ss (plnF q (a.map Itm.z) (b.map Itm.z)) ∧ Below w.heap.size w w1) := ⟨hS0, hb0⟩
  clear hC hS0 hb0
  cases h1 : (P != 0)
  · have hP0 : P = 0 := by simpa using h1
    have h0 : plnE q (a.map Itm.z) (b.map Itm.z) = 0 := by rw [hPH.out, hP0]
    have hlen := plnF_len h0
    have hsl : ss.length = q.length := by
      have := congrArg List.length hS.out.1.z
      simp at this
      omega
    obtain ⟨bb, off, n, x, rfl, hbb, hn, hnl, hxc, hxl, hxz⟩ := hS.out.1.at (i := ((q.length - 1 : Nat) : Int)) (by omega) (by rw [hlen.1]; omega)
    have hn' : n = q.length - 1 := by omega
    have hfin : Hid (x.l.map Itm.z = evlF q (a.map Itm.z) (b.map Itm.z) ∧ Lv w1 x.A x.cap x.l) := ⟨hxz, hxl⟩
    have hq8 := (errQ_wids (ahdE_parts (plnE_parts h0).1).1).2.1
    have hn8 : (n : Int) ≤ 8 := by omega
    have hwn : wrap64 (n : Int) = (n : Int) := by unfold wrap64; omega
    have hi2 : (ss.length : Int) - 1 = (n : Int) := by omega
    have hnz : (n : Int) < (ss.length : Int) := by omega
    clear hxl hxz hn hn' hsl hlen h0 hq8
    go_wp2
    go_ret2
    exact ⟨x.l, x.A, x.cap, by rw [hP0]; rfl, hfin.out.1, hfin.out.2, hS.out.2⟩
  · have hfin : Hid (evlF q (a.map Itm.z) (b.map Itm.z) = []) := evl_no (by rw [hPH.out]; simpa using h1)
    go_wp2
    go_ret2
    exact ⟨[], none, 0, rfl, by rw [hfin.out]; rfl, ⟨⟨Or.inl rfl, fun x hx => (by cases hx)⟩, fun _ => rfl, Nat.zero_le _⟩, hS.out.2⟩
end Go.Proofs.YtoanlaedkpkpnaaGreatDoor

namespace Go.Proofs.YtoanlaedkpkpnaaGreatDoor
open Go.RowKit Go.Sort

theorem Tryz.infoQ2 : (Tryz.prog.info? 64).map (fun i => (i.zero, i.size, i.bytes)) = some (some (.agg #[.int .i64 0, .int .i64 0, .int .i64 0, .int .i64 0, .int .i64 0, .int .i64 0, .slice none 0 0]), 7, 72) := by kernel_rfl

/-- A row that lies apart from the block ob, in memory made behind base. -/
structure ApartS (w : World) (base : Nat) (ob : Option Nat) (x : Stp) : Prop where
  row : RowI w x.p x.l
  len : x.l.length ≤ maxLen
  nil : x.p = none → x.n = 0
  own : ∀ a, x.p = some a → base ≤ a.block ∧ a.block < w.heap.size ∧ ob ≠ some a.block
/-- A list of items of one's own. -/
structure OwnS (w : World) (base : Nat) (v : Value) (l : List Stp) : Prop where
  own : OwnG encQ 7 64 w base v l
  each : ∀ x ∈ l, ApartS w base v.ownBlock x
theorem OwnS.nil (w : World) (base : Nat) : OwnS w base (.slice none 0 0) [] := ⟨OwnG.nil _ _ _ _ _, fun x hx => by cases hx⟩
theorem ApartS.below {w w' : World} {base : Nat} {ob : Option Nat} {x : Stp} (h : ApartS w base ob x) (q : Below w.heap.size w w') : ApartS w' base ob x :=
  ⟨h.row.below q, h.len, h.nil, fun a ha => ⟨(h.own a ha).1, Nat.lt_of_lt_of_le (h.own a ha).2.1 q.size, (h.own a ha).2.2⟩⟩
theorem OwnS.below {w w' : World} {base : Nat} {v : Value} {l : List Stp} (h : OwnS w base v l) (q : Below w.heap.size w w') : OwnS w' base v l := ⟨h.own.below q, fun x hx => (h.each x hx).below q⟩
theorem OwnS.gr {w w' : World} {base : Nat} {v : Value} {l : List Stp} (h : OwnS w base v l) (q : Gr w w') : OwnS w' base v l := h.below q.below
theorem OwnS.stps {w : World} {base : Nat} {v : Value} {l : List Stp} (h : OwnS w base v l) : ∃ A cap, v = .slice A l.length cap ∧ (A = none → cap = 0) ∧ Stps w A l := by
  obtain ⟨A, cap, hv, hA, hr, ha⟩ := h.own.row encQ_len
  exact ⟨A, cap, hv, hA, ⟨hr, fun x hx => ⟨(h.each x hx).row, (h.each x hx).len, (h.each x hx).nil⟩⟩⟩
theorem ApartS.grown {w w' : World} {base : Nat} {ob ob' : Option Nat} {x : Stp} (h : ApartS w base ob x) (q : w.grownBy w' ob) (hob : ob' = ob ∨ ob' = some w.heap.size) : ApartS w' base ob' x := by
  refine ⟨?_, h.len, h.nil, fun a ha => ⟨(h.own a ha).1, Nat.lt_of_lt_of_le (h.own a ha).2.1 q.size, ?_⟩⟩
  · rcases h.row with k | ⟨b, off, hp, hb, hc⟩
    · exact Or.inl k
    · refine Or.inr ⟨b, off, hp, Nat.lt_of_lt_of_le hb q.size, fun j hj i hi => ?_⟩
      have hne := (h.own _ hp).2.2
      rw [World.cell?_of_block (a := ⟨b, off + j * 1 + i, none⟩) (q.block b hb fun e => hne e.symm)]
      exact hc j hj i hi
  · rcases hob with e | e
    · rw [e]; exact (h.own a ha).2.2
    · rw [e]
      intro k
      injection k with k
      have := (h.own a ha).2.1
      omega
/-- append(v, x) -/
theorem run_append_s2 (w : World) (ty : TypeId) (base : Nat) (v : Value) (l : List Stp) (x : Stp) (A : Addr) (cap : Nat) (hown : OwnS w base v l) (hr : RowG encQ 7 w (some A) [x]) (hx : ApartS w base v.ownBlock x)
    (hml : l.length + 1 ≤ maxLen) (hb : (l.length + 1) * 72 ≤ 140737488355328) (hbase : base ≤ w.heap.size) :
    ∃ v' w', (Builtin.append_ #[22, 22] ty #[v, .slice (some A) 1 cap]).run Tryz.prog w = .ok v' w' ∧ OwnS w' base v' (l ++ [x]) ∧ Below base w w' ∧ w.grownBy w' v.ownBlock := by
  obtain ⟨i0, hi, hz0, hz1, hz2⟩ := info_parts Tryz.infoQ2
  obtain ⟨v', w', g1, g2, g3, _, g5⟩ := run_append_own_at (P := Tryz.prog) w base 22 ty 64 i0 (.agg #[.int .i64 0, .int .i64 0, .int .i64 0, .int .i64 0, .int .i64 0, .int .i64 0, .slice none 0 0]) 7 72 Tryz.underlying22 hi hz0 hz1 hz2 rfl (by omega) v l.length (flatG encQ l) hown.own A 1 cap (flatG encQ [x]) (flatG_length encQ_len [x]) (hr.cells encQ_len (by omega)) (fun u hu => flatG_one encQ_one u [x] hu) hml hb hbase
  refine ⟨v', w', g1, ⟨?_, fun y hy => ?_⟩, OwnG.grown_below hown.own g3 hbase, g3⟩
  · show w'.ownsRow base _ 7 v' (l ++ [x]).length (flatG encQ (l ++ [x]))
    rw [List.length_append, flatG_append]
    exact g2
  · rcases List.mem_append.1 hy with k | k
    · exact (hown.each y k).grown g3 g5
    · have : y = x := by simpa using k
      subst this
      exact hx.grown g3 g5
theorem wpList_append_s2 (w : World) {ops : Array Oper} {rest : List Oper} {o : Oper} {a : Act} {Q : Exit → Act → World → Prop} (hgd : o.guard = none) (s z : Operand)
    (ho : o.op = .call { callee := .builtin .append, args := #[s, z], argTypes := #[22, 22] })
    (base : Nat) (v : Value) (l : List Stp) (x : Stp) (A : Addr) (cap : Nat) (hs : a.eval s = v) (hz : a.eval z = .slice (some A) 1 cap) (hown : OwnS w base v l) (hr : RowG encQ 7 w (some A) [x]) (hx : ApartS w base v.ownBlock x)
    (hml : l.length + 1 ≤ maxLen) (hb : (l.length + 1) * 72 ≤ 140737488355328) (hbase : base ≤ w.heap.size)
    (h : ∀ v' w', OwnS w' base v' (l ++ [x]) → Below base w w' → wpList Tryz.prog ops Q rest (a.put o.dst v') w') : wpList Tryz.prog ops Q (o :: rest) a w :=
  wpList_plain hgd fun _ hK => by
    obtain ⟨v', w', hr, h2, h3, _⟩ := run_append_s2 w o.type base v l x A cap hown hr hx hml hb hbase
    unfold Oper.wp execOp
    simp only [ho, resolve, invoke, builtin, Sem.run_bind, Sem.run_pure, Result.andThen_ok, List.map_toArray, List.map_cons, List.map_nil, hs, hz, hr]
    exact hK _ _ (h v' w' h2 h3)

end Go.Proofs.YtoanlaedkpkpnaaGreatDoor

namespace Go.Proofs.YtoanlaedkpkpnaaGreatDoor

/-- A small number. -/
def Small (n : Int) : Prop := -1073741824 ≤ n ∧ n ≤ 1073741824
/-- All numbers of a step are small, and its list is short. -/
structure Fine (s : Stp) : Prop where
  a : Small s.a
  b : Small s.b
  c : Small s.c
  o : Small s.o
  v : Small s.v
  l : s.l.length ≤ 8 ∧ ∀ x ∈ s.l, Small x
theorem small_in {n lo hi : Int} (h : inB n lo hi = true) (h1 : -1073741824 ≤ lo) (h2 : hi ≤ 1073741824) : Small n := by
  simp only [inB, Bool.and_eq_true, decide_eq_true_eq] at h
  exact ⟨by omega, by omega⟩
theorem small_zero {n : Int} (h : decide (n = 0) = true) : Small n := by
  have : n = 0 := by simpa using h
  exact ⟨by omega, by omega⟩
theorem fine_nil {l : List Int} (h : l.isEmpty = true) : l.length ≤ 8 ∧ ∀ x ∈ l, Small x := by
  have : l = [] := by simpa using h
  subst this
  exact ⟨by simp, fun x hx => by cases hx⟩
theorem widW_fine {s : Stp} {ah : List Int} (h : widW s ah ≠ 0) (hl : ah.length ≤ 8) (hah : ∀ x ∈ ah, 0 ≤ x ∧ x ≤ 8) : Fine s := by
  have ga := getD_b hah s.a.toNat
  have gb := getD_b hah s.b.toNat
  by_cases h9 : 1 ≤ s.k ∧ s.k ≤ 9
  · have hk : s.k = 1 ∨ s.k = 2 ∨ s.k = 3 ∨ s.k = 4 ∨ s.k = 5 ∨ s.k = 6 ∨ s.k = 7 ∨ s.k = 8 ∨ s.k = 9 := by omega
    rcases hk with hk | hk | hk | hk | hk | hk | hk | hk | hk
    · rw [wid1 hk] at h
      have t := Classical.not_not.1 (fun e => h (if_neg e))
      simp only [Bool.and_eq_true] at t
      obtain ⟨⟨⟨⟨⟨t1, t2⟩, t3⟩, t4⟩, t5⟩, t6⟩ := t
      exact ⟨small_in t1 (by omega) (by omega), small_zero t2, small_zero t3, small_zero t4, small_zero t5, fine_nil t6⟩
    · rw [wid2 hk] at h
      have t := Classical.not_not.1 (fun e => h (if_neg e))
      simp only [Bool.and_eq_true] at t
      obtain ⟨⟨⟨⟨⟨t1, t2⟩, t3⟩, t4⟩, t5⟩, t6⟩ := t
      exact ⟨small_in t1 (by omega) (by omega), small_zero t2, small_in t6 (by omega) (by omega), small_in t4 (by omega) (by omega), small_in t5 (by omega) (by omega), fine_nil t3⟩
    · rw [wid3 hk] at h
      have t := Classical.not_not.1 (fun e => h (if_neg e))
      simp only [Bool.and_eq_true] at t
      obtain ⟨⟨⟨⟨⟨⟨t1, t2⟩, t3⟩, t4⟩, t5⟩, t6⟩, t7⟩ := t
      exact ⟨small_in t1 (by omega) (by omega), small_zero t2, small_zero t5, small_zero t6, small_zero t7, ⟨by simp only [inB, Bool.and_eq_true, decide_eq_true_eq] at t3; omega, fun x hx => small_in (List.all_eq_true.1 t4 x hx) (by omega) (by omega)⟩⟩
    · rw [wid4 hk] at h
      have t := Classical.not_not.1 (fun e => h (if_neg e))
      simp only [Bool.and_eq_true] at t
      obtain ⟨⟨⟨⟨⟨⟨t1, t2⟩, t3⟩, t4⟩, t5⟩, t6⟩, t7⟩ := t
      exact ⟨small_in t1 (by omega) (by omega), small_in t2 (by omega) (by omega), small_in t6 (by omega) (by omega), small_zero t7, small_in t5 (by omega) (by omega), fine_nil t3⟩
    · rw [wid5 hk] at h
      have t := Classical.not_not.1 (fun e => h (if_neg e))
      simp only [Bool.and_eq_true] at t
      obtain ⟨⟨⟨⟨⟨⟨t1, t2⟩, t3⟩, t4⟩, t5⟩, t6⟩, t7⟩ := t
      exact ⟨small_in t1 (by omega) (by omega), small_in t2 (by omega) (by omega), small_zero t5, small_zero t6, small_zero t7, fine_nil t3⟩
    · rw [wid6 hk] at h
      have t := Classical.not_not.1 (fun e => h (if_neg e))
      simp only [Bool.and_eq_true] at t
      obtain ⟨⟨⟨⟨⟨⟨t1, t2⟩, t3⟩, t4⟩, t5⟩, t6⟩, t7⟩ := t
      exact ⟨small_in t1 (by omega) (by omega), small_in t2 (by omega) (by omega), small_zero t5, small_zero t6, small_zero t7, fine_nil t3⟩
    · rw [wid7 hk] at h
      have t := Classical.not_not.1 (fun e => h (if_neg e))
      simp only [Bool.and_eq_true] at t
      obtain ⟨⟨⟨⟨⟨t1, t2⟩, t3⟩, t4⟩, t5⟩, t6⟩ := t
      exact ⟨small_in t1 (by omega) (by omega), small_zero t2, small_zero t4, small_zero t5, small_zero t6, fine_nil t3⟩
    · rw [wid8 hk] at h
      have t := Classical.not_not.1 (fun e => h (if_neg e))
      simp only [Bool.and_eq_true] at t
      obtain ⟨⟨⟨⟨⟨t1, t2⟩, t3⟩, t4⟩, t5⟩, t6⟩ := t
      exact ⟨small_in t1 (by omega) (by omega), small_zero t2, small_in t4 (by omega) (by omega), small_zero t5, small_zero t6, fine_nil t3⟩
    · rw [wid9 hk] at h
      have t := Classical.not_not.1 (fun e => h (if_neg e))
      simp only [Bool.and_eq_true] at t
      obtain ⟨⟨⟨⟨⟨t1, t2⟩, t3⟩, t4⟩, t5⟩, t6⟩ := t
      exact ⟨small_in t1 (by omega) (by omega), small_zero t2, small_in t5 (by omega) (by omega), small_zero t6, small_in t4 (by omega) (by omega), fine_nil t3⟩
  · exact absurd (alone0 h9) h

end Go.Proofs.YtoanlaedkpkpnaaGreatDoor
