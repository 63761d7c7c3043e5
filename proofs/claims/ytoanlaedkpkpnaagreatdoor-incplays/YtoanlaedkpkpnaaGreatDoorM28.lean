/-
  viewref.made of any right step.
  viewref.Query: what the document says of a query.
  viewref.Based: what is wrong with a query and two sets.
-/
import Derived.Test.YtoanlaedkpkpnaaGreatDoorM24
import Derived.Test.YtoanlaedkpkpnaaGreatDoorM25
import Derived.Test.YtoanlaedkpkpnaaGreatDoorM26
import Derived.Test.YtoanlaedkpkpnaaGreatDoorM27
import Derived.Test.YtoanlaedkpkpnaaGreatDoorQRef
import Derived.Test.YtoanlaedkpkpnaaGreatDoorM22
import Derived.Test.YtoanlaedkpkpnaaGreatDoorM14
namespace Go.Proofs.YtoanlaedkpkpnaaGreatDoor
open Go.RowKit Go.Sort

theorem okN_I64 {n : Int} (h : okN n = true) : I64 n := by
  simp only [okN, inB, Bool.and_eq_true, decide_eq_true_eq] at h
  exact ⟨by omega, by omega⟩
theorem okR_all {r : List Int} (h : okR r = true) : r.length ≤ 8 ∧ ∀ n ∈ r, I64 n := by
  simp only [okR, Bool.and_eq_true, decide_eq_true_eq] at h
  exact ⟨h.1, fun n hn => okN_I64 (List.all_eq_true.1 h.2 n hn)⟩
theorem okW_all {n : Int} (h : okW n = true) : -1048576 ≤ n ∧ n ≤ 1048576 := by
  simpa [okW, inB] using h
/-- What is well within bounds, on plain lists. -/
def WdZ (m : List Zit) : Prop := m.length ≤ 400000 ∧ ∀ x ∈ m, (x.1.length ≤ 100 ∧ ∀ n ∈ x.1, I64 n) ∧ -2199023255552 ≤ x.2 ∧ x.2 ≤ 2199023255552
theorem WdZ.wd {L : List Itm} (h : WdZ (L.map Itm.z)) : Wd L :=
  ⟨by have := h.1; rwa [List.length_map] at this, fun x hx => (h.2 x.z (List.mem_map.2 ⟨x, hx, rfl⟩)).1, fun x hx => (h.2 x.z (List.mem_map.2 ⟨x, hx, rfl⟩)).2⟩
theorem set_ok {l : List Zit} (e : errZ l = 0) : l.length ≤ 400 ∧ ∀ x ∈ l, okR x.1 = true ∧ okW x.2 = true := by
  obtain ⟨h1, h2, _⟩ := (errZ_iff l).1 e
  exact ⟨h1, fun x hx => ⟨(okZ_parts (h2 x hx)).1, (okZ_parts (h2 x hx)).2.1⟩⟩
theorem wdz_ok {m : List Zit} (hl : m.length ≤ 400000) (h : ∀ x ∈ m, okR x.1 = true ∧ okW x.2 = true) : WdZ m :=
  ⟨hl, fun x hx => ⟨⟨by have := (okR_all (h x hx).1).1; omega, (okR_all (h x hx).1).2⟩, by have := okW_all (h x hx).2; omega, by have := okW_all (h x hx).2; omega⟩⟩
theorem pair_len (a b : List Zit) (c v : Int) : (pairL a b c v).length ≤ a.length * b.length := by
  induction a with
  | nil => simp [pairL]
  | cons x a ih =>
    have h1 := List.length_filter_le (fun y : Zit => decide (atI y.1 v = atI x.1 c)) b
    have e : pairL (x :: a) b c v = ((b.filter fun y => decide (atI y.1 v = atI x.1 c)).map fun y => (x.1 ++ y.1, x.2 * y.2)) ++ pairL a b c v := rfl
    rw [e, List.length_append, List.length_map, List.length_cons, Nat.succ_mul]
    omega
theorem times_z {l : List Zit} (h4 : l.length ≤ 400) (h : ∀ x ∈ l, okR x.1 = true ∧ okW x.2 = true) : I64 (timesL l) := by
  have := timesL_bound (l := l) fun x hx => (h x hx).2
  exact ⟨by omega, by omega⟩
theorem sum_z {l : List Zit} (v : Int) (h4 : l.length ≤ 400) (h : ∀ x ∈ l, okR x.1 = true ∧ okW x.2 = true) : I64 (sumAtL v l) := by
  have := sumZ_bound (l := l) (v := v) h
  exact ⟨by omega, by omega⟩
theorem wdz_grp {f : Int × List Zit → Option Zit} {a : List Zit} {c : Int} (h4 : a.length ≤ 400) (ha : ∀ x ∈ a, okR x.1 = true) (hf : ∀ key z, f (key, ofK a c key) = some z → z.2 = 1 ∧ ∃ n, z.1 = [key, n] ∧ I64 n) : WdZ ((keyL a c).filterMap fun key => f (key, ofK a c key)) := by
  have hk : (keyL a c).length ≤ a.length := by
    unfold keyL
    have := onceL_len (a.map fun x => atI x.1 c)
    rwa [List.length_map] at this
  refine ⟨by have := List.length_filterMap_le (fun key => f (key, ofK a c key)) (keyL a c); omega, fun z hz => ?_⟩
  obtain ⟨key, hkey, e⟩ := List.mem_filterMap.1 hz
  obtain ⟨e1, n, e2, e3⟩ := hf key z e
  have hK : I64 key := by
    unfold keyL at hkey
    rw [(once_good _).2] at hkey
    obtain ⟨x, hx, rfl⟩ := List.mem_map.1 hkey
    exact okN_I64 (okN_at (ha x hx))
  rw [e1, e2]
  refine ⟨⟨by simp, fun m hm => ?_⟩, by decide, by decide⟩
  simp only [List.mem_cons, List.not_mem_nil, or_false] at hm
  rcases hm with rfl | rfl
  · exact hK
  · exact e3
theorem ofK_set {a : List Zit} (h4 : a.length ≤ 400) (h : ∀ x ∈ a, okR x.1 = true ∧ okW x.2 = true) (c key : Int) : (ofK a c key).length ≤ 400 ∧ ∀ x ∈ ofK a c key, okR x.1 = true ∧ okW x.2 = true :=
  ⟨Nat.le_trans (List.length_filter_le _ _) h4, fun x hx => h x (List.mem_filter.1 hx).1⟩
theorem made_wd {s : Stp} {ah : List Int} (h : widW s ah ≠ 0) (hk1 : s.k ≠ 1) {a b : List Zit} (ea : errZ a = 0) (eb : errZ b = 0) : WdZ (madeS s a b) := by
  obtain ⟨la, oa⟩ := set_ok ea
  obtain ⟨lb, ob⟩ := set_ok eb
  rcases kinds h with k | k | k | k | k | k | k | k | k
  · exact absurd k hk1
  · have : WdZ (whereL a s.c s.o s.v) := wdz_ok (by have := List.length_filter_le (fun x : Zit => toB (atI x.1 s.c) s.o s.v) a; unfold whereL; omega) fun x hx => oa x (List.mem_filter.1 hx).1
    simpa [madeS, k] using this
  · have hp := (par3 h k).2.1
    have : WdZ (pickL a s.l) := wdz_ok (by unfold pickL; rw [List.length_map]; omega) fun x hx => by
      obtain ⟨y, hy, rfl⟩ := List.mem_map.1 hx
      exact ⟨okR_pick hp (oa y hy).1, (oa y hy).2⟩
    simpa [madeS, k] using this
  · have : WdZ (pairL a b s.c s.v) := by
      refine ⟨by have h1 := pair_len a b s.c s.v; have h2 : a.length * b.length ≤ 400 * 400 := Nat.mul_le_mul la lb; omega, fun x hx => ?_⟩
      unfold pairL at hx
      obtain ⟨y, hy, h2⟩ := List.mem_flatMap.1 hx
      obtain ⟨z, hz, rfl⟩ := List.mem_map.1 h2
      have hy2 := oa y hy
      have hz2 := ob z (List.mem_filter.1 hz).1
      have r1 := okR_all hy2.1
      have r2 := okR_all hz2.1
      have hm : -1099511627776 ≤ y.2 * z.2 ∧ y.2 * z.2 ≤ 1099511627776 := by
        have w1 := okW_all hy2.2
        have w2 := okW_all hz2.2
        have h3 : (y.2 * z.2).natAbs ≤ 1048576 * 1048576 := by rw [Int.natAbs_mul]; exact Nat.mul_le_mul (by omega) (by omega)
        omega
      refine ⟨⟨by rw [List.length_append]; omega, fun n hn => ?_⟩, by show _ ≤ y.2 * z.2; omega, by show y.2 * z.2 ≤ _; omega⟩
      rcases List.mem_append.1 hn with e | e
      · exact r1.2 n e
      · exact r2.2 n e
    simpa [madeS, k] using this
  · have : WdZ (a ++ b) := wdz_ok (by rw [List.length_append]; omega) fun x hx => (List.mem_append.1 hx).elim (oa x) (ob x)
    simpa [madeS, k] using this
  · have : WdZ (a ++ negP b) := wdz_ok (by unfold negP; rw [List.length_append, List.length_map]; omega) fun x hx => by
      rcases List.mem_append.1 hx with e | e
      · exact oa x e
      · obtain ⟨y, hy, rfl⟩ := List.mem_map.1 e
        exact ⟨(ob y hy).1, by rw [okW_neg]; exact (ob y hy).2⟩
    simpa [madeS, k] using this
  · have : WdZ (distL a) := wdz_ok (by have := List.length_filter_le (fun x : Zit => decide (0 < x.2)) a; unfold distL; rw [List.length_map]; omega) fun x hx => by
      obtain ⟨y, hy, rfl⟩ := List.mem_map.1 hx
      exact ⟨(oa y (List.mem_filter.1 hy).1).1, rfl⟩
    simpa [madeS, k] using this
  · have : WdZ ((keyL a s.c).filterMap fun key => cntG (key, ofK a s.c key)) := wdz_grp la (fun x hx => (oa x hx).1) fun key z e => by
      unfold cntG at e
      split at e
      · cases e
      · injection e with e; subst e
        exact ⟨rfl, _, rfl, times_z (ofK_set la oa s.c key).1 (ofK_set la oa s.c key).2⟩
    simpa [madeS, k] using this
  · have : WdZ ((keyL a s.c).filterMap fun key => sumG s.v (key, ofK a s.c key)) := wdz_grp la (fun x hx => (oa x hx).1) fun key z e => by
      unfold sumG at e
      split at e
      · cases e
      · injection e with e; subst e
        exact ⟨rfl, _, rfl, sum_z s.v (ofK_set la oa s.c key).1 (ofK_set la oa s.c key).2⟩
    simpa [madeS, k] using this

theorem col_in {l : List Itm} {n c : Int} (hw : Wide n (l.map Itm.z)) (h : inB c 0 (n - 1) = true) : ∀ x ∈ l, inB c 0 ((x.r.length : Int) - 1) = true := fun x hx => by
  have := hw x.z (List.mem_map.2 ⟨x, hx, rfl⟩)
  have e : (x.r.length : Int) = n := this
  rw [e]; exact h
theorem itm_ok {l : List Itm} (e : errZ (l.map Itm.z) = 0) : l.length ≤ 400 ∧ ∀ x ∈ l, okR x.r = true ∧ okW x.n = true := by
  obtain ⟨h1, h2⟩ := set_ok e
  exact ⟨by rwa [List.length_map] at h1, fun x hx => h2 x.z (List.mem_map.2 ⟨x, hx, rfl⟩)⟩
theorem par8v {s : Stp} {ah : List Int} (h : widW s ah ≠ 0) (k : s.k = 8) : s.v = 0 := by
  rw [wid8 k] at h
  obtain ⟨h1, _⟩ := ite_parts h
  simp only [Bool.and_eq_true, decide_eq_true_eq] at h1
  omega

theorem made_any {s : Stp} {ah : List Int} (h : widW s ah ≠ 0) (hk1 : s.k ≠ 1) (a b : List Itm) (A B : Option Addr) (ca cb : Nat) (w : World) (hsp : RowI w s.p s.l) (ha : Lv w A ca a) (hb : Lv w B cb b) (ea : errZ (a.map Itm.z) = 0) (eb : errZ (b.map Itm.z) = 0) (wa : Wide (ah.getD s.a.toNat 0) (a.map Itm.z)) (wb : Wide (ah.getD s.b.toNat 0) (b.map Itm.z)) :
    Calls Tryz.prog 37 #[.agg #[.int .i64 s.k, .int .i64 s.a, .int .i64 s.b, .int .i64 s.c, .int .i64 s.o, .int .i64 s.v, .slice s.p s.l.length s.n], .slice A a.length ca, .slice B b.length cb] w fun e w' => ∃ (L : List Itm) (C : Option Addr) (k : Nat), e = .returned (.slice C L.length k) ∧ L.map Itm.z = madeS s (a.map Itm.z) (b.map Itm.z) ∧ Items w' C L ∧ Below w.heap.size w w' ∧ Wd L := by
  obtain ⟨la, oa⟩ := itm_ok ea
  obtain ⟨lb, ob⟩ := itm_ok eb
  have fin : ∀ {m : List Zit}, madeS s (a.map Itm.z) (b.map Itm.z) = m → ∀ {e : Ending} {w' : World}, (∃ (L : List Itm) (C : Option Addr) (k : Nat), e = .returned (.slice C L.length k) ∧ L.map Itm.z = m ∧ Items w' C L ∧ Below w.heap.size w w') → ∃ (L : List Itm) (C : Option Addr) (k : Nat), e = .returned (.slice C L.length k) ∧ L.map Itm.z = madeS s (a.map Itm.z) (b.map Itm.z) ∧ Items w' C L ∧ Below w.heap.size w w' ∧ Wd L := by
    rintro m hm e w' ⟨L, C, k, h1, h2, h3, h4⟩
    exact ⟨L, C, k, h1, h2.trans hm.symm, h3, h4, WdZ.wd (by rw [h2, ← hm]; exact made_wd h hk1 ea eb)⟩
  rcases kinds h with k | k | k | k | k | k | k | k | k
  · exact absurd k hk1
  · obtain ⟨_, p2, p3, _⟩ := par2 h k
    have ho : s.o = 1 ∨ s.o = 2 ∨ s.o = 3 := by
      simp only [inB, Bool.and_eq_true, decide_eq_true_eq] at p2
      omega
    rcases ho with o | o | o
    · exact (made21 s a b A B ca cb w k la ha.items o (col_in wa p3)).mono fun _ _ => fin (by simp [madeS, k, o])
    · exact (made22 s a b A B ca cb w k la ha.items o (col_in wa p3)).mono fun _ _ => fin (by simp [madeS, k, o])
    · exact (made23 s a b A B ca cb w k la ha.items o (col_in wa p3)).mono fun _ _ => fin (by simp [madeS, k, o])
  · obtain ⟨_, p2, p3, _⟩ := par3 h k
    exact (made3 s a b A B ca cb w k la ha.items p2 hsp (fun x hx c hc => col_in wa (p3 c hc) x hx)).mono fun _ _ => fin (by simp [madeS, k])
  · obtain ⟨_, _, p3, p4, _⟩ := par4 h k
    exact (made4 s a b A B ca cb w k la ha.items lb hb.items (col_in wa p4) (col_in wb p3) oa ob).mono fun _ _ => fin (by simp [madeS, k])
  · exact (made5 s a b A B ca cb w k la ha.items hb lb).mono fun _ _ => fin (by simp [madeS, k])
  · exact (made6 s a b A B ca cb w k la ha.items hb lb (fun x hx => (ob x hx).2)).mono fun _ _ => fin (by simp [madeS, k])
  · exact (made7 s a b A B ca cb w k la ha.items).mono fun _ _ => fin (by simp [madeS, k])
  · obtain ⟨_, p2, _⟩ := par8 h k
    have hv := par8v h k
    have p3 : inB s.v 0 ((ah.getD s.a.toNat 0) - 1) = true := by
      simp only [inB, Bool.and_eq_true, decide_eq_true_eq] at p2 ⊢
      omega
    exact (made8 s a b A B ca cb w k la ha.items (col_in wa p2) (col_in wa p3) oa).mono fun _ _ => fin (by simp [madeS, k])
  · obtain ⟨_, p2, p3, _⟩ := par9 h k
    exact (made9 s a b A B ca cb w k la ha.items (col_in wa p3) (col_in wa p2) oa).mono fun _ _ => fin (by simp [madeS, k])
end Go.Proofs.YtoanlaedkpkpnaaGreatDoor

namespace Go.Proofs.YtoanlaedkpkpnaaGreatDoor
open Go.RowKit Go.Sort

set_option maxHeartbeats 1000000 in
theorem refQuery_any (q : List Stp) (A : Option Addr) (ca : Nat) (w : World) (hl : q.length ≤ maxLen) (hq : Stps w A q) :
    Calls Tryz.prog 5 #[.slice A q.length ca] w fun e w' => e = .returned (.int .i64 (errQ q)) ∧ Below w.heap.size w w' := by
  unfold maxLen at hl
  by_cases h0 : q.length = 0
  · have e1 : Hid (errQ q = 1) := by show _ = _; unfold errQ; rw [if_pos h0]
    have h0z : ((q.length : Int) == 0) = true := by rw [h0]; rfl
    clear h0
    go_enter Tryz.func5, Tryz.ntmps5
    go_wp2
    go_ret
    exact ⟨by rw [e1.out]; rfl, Below.refl _ _⟩
  have h0z : ((q.length : Int) == 0) = false := beq_eq_false_iff_ne.2 (by omega)
  by_cases h8 : 8 < q.length
  · have e1 : Hid (errQ q = 2) := by show _ = _; unfold errQ; rw [if_neg h0, if_pos h8]
    have h8z : (8 : Int) < (q.length : Int) := by omega
    clear h0
    go_enter Tryz.func5, Tryz.ntmps5
    go_wp2
    go_ret
    exact ⟨by rw [e1.out]; rfl, Below.refl _ _⟩
  have h8z : ¬ (8 : Int) < (q.length : Int) := by omega
  have herr : Hid (errQ q = if (widsF q []).isSome = true then 0 else 1) := by show _ = _; unfold errQ; rw [if_neg h0, if_neg h8]
  have hw := refWidths_any q A ca w (by omega) hq
  have hwH : Hid _ := hw
  clear hw hq h0
  go_enter Tryz.func5, Tryz.ntmps5
  go_wp2_with fail
  refine Calls.mono (show Calls _ _ _ _ _ from hwH.out) ?_
  rintro e w1 ⟨C, c, rfl, -, -, hb⟩
  clear hwH
  cases hs : (widsF q []).isSome
  · have e1 : Hid (errQ q = 1) := by show _ = _; rw [herr.out, hs]; rfl
    go_wp2
    go_ret
    exact ⟨by rw [e1.out]; rfl, hb⟩
  · have e1 : Hid (errQ q = 0) := by show _ = _; rw [herr.out, hs]; rfl
    go_wp2
    go_ret
    exact ⟨by rw [e1.out]; rfl, hb⟩

end Go.Proofs.YtoanlaedkpkpnaaGreatDoor

namespace Go.Proofs.YtoanlaedkpkpnaaGreatDoor
open Go.RowKit Go.Sort Go.Maps

theorem ahd_bad (q : List Stp) {a b : List Itm} (h0 : errQ q = 0) (h1 : errZ (a.map Itm.z) = 0) (h2 : errZ (b.map Itm.z) = 0) : (∀ x ∈ a ++ b, ¬ x.r.length = 4 → ahdE q (a.map Itm.z) (b.map Itm.z) = 5) ∧ ((∀ x ∈ a, x.r.length = 4) → (∀ x ∈ b, x.r.length = 4) → ahdE q (a.map Itm.z) (b.map Itm.z) = 0) := by
  have e : ahdE q (a.map Itm.z) (b.map Itm.z) = if (a.map Itm.z ++ b.map Itm.z).all (fun x => decide (x.1.length = 4)) = true then 0 else 5 := by unfold ahdE; rw [if_pos h0, if_pos h1, if_pos h2]
  refine ⟨fun x hx hn => ?_, fun ha hb => ?_⟩
  · rw [e, if_neg]
    intro h
    rw [← List.map_append] at h
    have := List.all_eq_true.1 h x.z (List.mem_map.2 ⟨x, hx, rfl⟩)
    exact hn (of_decide_eq_true this)
  · rw [e, if_pos]
    rw [← List.map_append, List.all_eq_true]
    intro y hy
    obtain ⟨x, hx, rfl⟩ := List.mem_map.1 hy
    rcases List.mem_append.1 hx with e | e
    · exact decide_eq_true (ha x e)
    · exact decide_eq_true (hb x e)

set_option maxRecDepth 100000 in
set_option maxHeartbeats 1000000 in
theorem rbased_any (q : List Stp) (QA : Option Addr) (cq : Nat) (a b : List Itm) (A B : Option Addr) (ca cb : Nat) (w : World) (hl : q.length ≤ maxLen) (hq : Stps w QA q) (ha : Lv w A ca a) (hb : Lv w B cb b) :
    Calls Tryz.prog 19 #[.slice QA q.length cq, .slice A a.length ca, .slice B b.length cb] w fun e w' => e = .returned (.int .i64 (ahdE q (a.map Itm.z) (b.map Itm.z))) ∧ Below w.heap.size w w' := by
  obtain ⟨E, hE⟩ : ∃ E, ahdE q (a.map Itm.z) (b.map Itm.z) = E := ⟨_, rfl⟩
  obtain ⟨E1, hE1⟩ : ∃ E, errQ q = E := ⟨_, rfl⟩
  obtain ⟨E2, hE2⟩ : ∃ E, errZ (a.map Itm.z) = E := ⟨_, rfl⟩
  obtain ⟨E3, hE3⟩ : ∃ E, errZ (b.map Itm.z) = E := ⟨_, rfl⟩
  have hq0 := refQuery_any q QA cq w hl hq
  rw [hE1] at hq0
  have hqH : Hid _ := hq0
  have hZ : Hid ((∀ W, Below w.heap.size w W → Calls Tryz.prog 35 #[.slice A a.length ca] W fun e w' => e = .returned (.int .i64 E2) ∧ Gr W w') ∧ (∀ W, Below w.heap.size w W → Calls Tryz.prog 35 #[.slice B b.length cb] W fun e w' => e = .returned (.int .i64 E3) ∧ Gr W w')) :=
    ⟨fun W h => by rw [← hE2]; exact rset_any a A ca W ha.len (ha.below h).items, fun W h => by rw [← hE3]; exact rset_any b B cb W hb.len (hb.below h).items⟩
  have hH : Hid (ahdE q (a.map Itm.z) (b.map Itm.z) = E ∧ errQ q = E1 ∧ errZ (a.map Itm.z) = E2 ∧ errZ (b.map Itm.z) = E3 ∧ Lv w A ca a ∧ Lv w B cb b) := ⟨hE, hE1, hE2, hE3, ha, hb⟩
  rw [hE]
  clear hE hE1 hE2 hE3 hq0 hq ha hb
  go_enter Tryz.func19, Tryz.ntmps19
  go_wp2_with fail
  refine Calls.mono (show Calls _ _ _ _ _ from hqH.out) ?_
  rintro e w1 ⟨rfl, hb1⟩
  have hb1H : Hid (Below w.heap.size w w1) := hb1
  clear hqH hb1
  cases h1 : (E1 != 0)
  · have hE10 : E1 = 0 := by simpa using h1
    have hs2 := hZ.out.1 w1 hb1H.out
    have hs2H : Hid _ := hs2
    clear hs2
    go_wp2_with fail
    refine Calls.mono (show Calls _ _ _ _ _ from hs2H.out) ?_
    rintro e w2 ⟨rfl, hg2⟩
    have hb2H : Hid (Below w.heap.size w w2) := hb1H.out.trans (hg2.below.mono hb1H.out.size)
    clear hs2H hg2
    cases h2 : (E2 != 0)
    · have hE20 : E2 = 0 := by simpa using h2
      have hs3 := hZ.out.2 w2 hb2H.out
      have hs3H : Hid _ := hs3
      clear hs3
      go_wp2_with fail
      refine Calls.mono (show Calls _ _ _ _ _ from hs3H.out) ?_
      rintro e w3 ⟨rfl, hg3⟩
      have hb3H : Hid (Below w.heap.size w w3) := hb2H.out.trans (hg3.below.mono hb2H.out.size)
      clear hs3H hg3
      cases h3 : (E3 != 0)
      · have hE30 : E3 = 0 := by simpa using h3
        have hA := ahd_bad q (a := a) (b := b) (by rw [hH.out.2.1]; exact hE10) (by rw [hH.out.2.2.1]; exact hE20) (by rw [hH.out.2.2.2.1]; exact hE30)
        rw [hH.out.1] at hA
        have hAH : Hid _ := hA
        have hla : a.length ≤ 400 := ((errZ_iff _).1 (by rw [hH.out.2.2.1]; exact hE20)).1 |> fun h => by simpa using h
        have hlb : b.length ≤ 400 := ((errZ_iff _).1 (by rw [hH.out.2.2.2.1]; exact hE30)).1 |> fun h => by simpa using h
        have hgX : Hid (Gr w3 (w3.alloc (.cells #[.slice A a.length ca, .slice B b.length cb] 30))) := (Gr.refl _).alloc _
        obtain ⟨w4, hWX⟩ : ∃ WX, (w3.alloc (.cells #[.slice A a.length ca, .slice B b.length cb] 30)) = WX := ⟨_, rfl⟩
        have s0 : w4.cell? ⟨w3.heap.size, 0, none⟩ = some (.slice A a.length ca) := by rw [← hWX]; exact box1 (w := w3) (Gr.refl _) rfl
        have s1 : w4.cell? ⟨w3.heap.size, 1, none⟩ = some (.slice B b.length cb) := by rw [← hWX]; exact box1 (w := w3) (Gr.refl _) rfl
        rw [hWX] at hgX
        have hb4 : Hid (Below w.heap.size w w4 ∧ Items w4 A a ∧ Items w4 B b) := by
          have h := hb3H.out.trans (hgX.out.below.mono hb3H.out.size)
          exact ⟨h, (hH.out.2.2.2.2.1.below h).items, (hH.out.2.2.2.2.2.below h).items⟩
        clear hA hgX
        go_wp2
        clear hWX
        refine wp_loop_rounds 3 ?_
        rw [rounds_succ]
        go_wp2
        go_loopw [12] (fun i wr => ∃ k : Nat, k ≤ a.length ∧ i = .int .i64 k ∧ wr = w4 ∧ Hid (∀ x ∈ a.take k, x.r.length = 4)) (fun i _ => a.length - (intOf i).toNat)
        case atStart => exact ⟨0, Nat.zero_le _, rfl, rfl, fun x hx => (by simp at hx)⟩
        case round =>
          obtain ⟨k, hk, rfl, rfl, hR⟩ := hrel
          by_cases hlt : k < a.length
          · have hltz : (k : Int) < (a.length : Int) := by omega
            obtain ⟨bb, off, rfl, hb, hcs⟩ := hb4.out.2.1.at hlt
            obtain ⟨x, hx⟩ : ∃ x, a[k] = x := ⟨_, rfl⟩
            obtain ⟨e0, e1⟩ := hcs k hlt
            rw [hx] at e0 e1
            have hxm : Hid (x ∈ a) := by show _ ∈ _; rw [← hx]; exact List.getElem_mem hlt
            have htk : Hid (a.take (k + 1) = a.take k ++ [x]) := by show _ = _; rw [List.take_succ_eq_append_getElem hlt, hx]
            clear hcs hx
            cases h4 : ((x.r.length : Int) != 4)
            · have h4' : x.r.length = 4 := by have : (x.r.length : Int) = 4 := by simpa using h4
                                              omega
              have hfin : Hid (∀ y ∈ a.take (k + 1), y.r.length = 4) := fun y hy => by
                rw [htk.out] at hy
                rcases List.mem_append.1 hy with e | e
                · exact hR.out y e
                · rw [List.mem_singleton.1 e]; exact h4'
              clear h4'
              go_wp2
              go_roundw
              case rel => exact ⟨k + 1, by omega, by go_num, by first | rfl | trivial, hfin⟩
              case measure => simp [intOf]; omega
            · have h4' : ¬ x.r.length = 4 := by have : ¬ (x.r.length : Int) = 4 := by simpa using h4
                                                omega
              have hfin : Hid (E = 5) := hAH.out.1 x (by simp [hxm.out]) h4'
              clear h4'
              go_wp2
              go_ret
              exact ⟨by rw [hfin.out]; rfl, hb4.out.1⟩
          · have hltz : ¬ (k : Int) < (a.length : Int) := by omega
            have hallA : Hid (∀ x ∈ a, x.r.length = 4) := by
              have := hR.out
              rw [List.take_of_length_le (by omega)] at this
              exact this
            clear hR
            go_wp2
            rw [rounds_succ]
            go_wp2
            obtain ⟨w5, hw5⟩ : ∃ w5, wr = w5 := ⟨_, rfl⟩
            rw [hw5] at hb4 s0 s1 ⊢
            go_loopw [12] (fun i wr => ∃ k : Nat, k ≤ b.length ∧ i = .int .i64 k ∧ wr = w5 ∧ Hid (∀ x ∈ b.take k, x.r.length = 4)) (fun i _ => b.length - (intOf i).toNat)
            case atStart => exact ⟨0, Nat.zero_le _, rfl, rfl, fun x hx => (by simp at hx)⟩
            case round =>
              obtain ⟨k, hk, rfl, rfl, hR⟩ := hrel
              by_cases hlt : k < b.length
              · have hltz : (k : Int) < (b.length : Int) := by omega
                obtain ⟨bb, off, rfl, hb, hcs⟩ := hb4.out.2.2.at hlt
                obtain ⟨x, hx⟩ : ∃ x, b[k] = x := ⟨_, rfl⟩
                obtain ⟨e0, e1⟩ := hcs k hlt
                rw [hx] at e0 e1
                have hxm : Hid (x ∈ b) := by show _ ∈ _; rw [← hx]; exact List.getElem_mem hlt
                have htk : Hid (b.take (k + 1) = b.take k ++ [x]) := by show _ = _; rw [List.take_succ_eq_append_getElem hlt, hx]
                clear hcs hx
                cases h4 : ((x.r.length : Int) != 4)
                · have h4' : x.r.length = 4 := by have : (x.r.length : Int) = 4 := by simpa using h4
                                                  omega
                  have hfin : Hid (∀ y ∈ b.take (k + 1), y.r.length = 4) := fun y hy => by
                    rw [htk.out] at hy
                    rcases List.mem_append.1 hy with e | e
                    · exact hR.out y e
                    · rw [List.mem_singleton.1 e]; exact h4'
                  clear h4'
                  go_wp2
                  go_roundw
                  case rel => exact ⟨k + 1, by omega, by go_num, by first | rfl | trivial, hfin⟩
                  case measure => simp [intOf]; omega
                · have h4' : ¬ x.r.length = 4 := by have : ¬ (x.r.length : Int) = 4 := by simpa using h4
                                                    omega
                  have hfin : Hid (E = 5) := hAH.out.1 x (by simp [hxm.out]) h4'
                  clear h4'
                  go_wp2
                  go_ret
                  exact ⟨by rw [hfin.out]; rfl, hb4.out.1⟩
              · have hltz : ¬ (k : Int) < (b.length : Int) := by omega
                have hallB : Hid (∀ x ∈ b, x.r.length = 4) := by
                  have := hR.out
                  rw [List.take_of_length_le (by omega)] at this
                  exact this
                go_wp2
                rw [rounds_succ]
                go_wp2
                go_ret
                exact ⟨by rw [hAH.out.2 hallA.out hallB.out]; rfl, hb4.out.1⟩
      · have hfin : Hid (E3 = E) := by
          have hn : ¬ errZ (b.map Itm.z) = 0 := by rw [hH.out.2.2.2.1]; simpa using h3
          show _ = _; rw [← hH.out.1]; unfold ahdE; rw [if_pos (by rw [hH.out.2.1]; exact hE10), if_pos (by rw [hH.out.2.2.1]; exact hE20), if_neg hn]; exact hH.out.2.2.2.1.symm
        go_wp2
        go_ret
        exact ⟨by rw [← hfin.out]; rfl, hb3H.out⟩
    · have hfin : Hid (E2 = E) := by
        have hn : ¬ errZ (a.map Itm.z) = 0 := by rw [hH.out.2.2.1]; simpa using h2
        show _ = _; rw [← hH.out.1]; unfold ahdE; rw [if_pos (by rw [hH.out.2.1]; exact hE10), if_neg hn]; exact hH.out.2.2.1.symm
      go_wp2
      go_ret
      exact ⟨by rw [← hfin.out]; rfl, hb2H.out⟩
  · have hfin : Hid (E1 = E) := by
      have hn : ¬ errQ q = 0 := by rw [hH.out.2.1]; simpa using h1
      show _ = _; rw [← hH.out.1]; unfold ahdE; rw [if_neg hn]; exact hH.out.2.1.symm
    go_wp2
    go_ret
    exact ⟨by rw [← hfin.out]; rfl, hb1H.out⟩
end Go.Proofs.YtoanlaedkpkpnaaGreatDoor
