/-
  plain.Eval.
-/
import Derived.Test.YtehcciefbjiknaaPAll
namespace Go.Proofs.Ytehcciefbjiknaa
open Go.RowKit Go.Sort Go.Maps

theorem plnF_len {q : List Stp} {a b : List Zit} (h : plnE q a b = 0) : (plnF q a b).length = q.length ∧ 0 < q.length := by
  obtain ⟨h1, h2, h3⟩ := plnE_parts h
  obtain ⟨k1, _, _, k4, k5⟩ := ahdE_parts h1
  obtain ⟨q1, _, q3⟩ := errQ_wids k1
  obtain ⟨ah', m1, m2⟩ := all_right k4 k5 q [] [] q3 Ahd.nil h2
  rw [h3, m2]
  exact ⟨by simp, List.length_pos_iff.2 q1⟩
theorem evl_no {q : List Stp} {a b : List Zit} (h : ¬ plnE q a b = 0) : evlF q a b = [] := by
  unfold evlF plnF
  rw [if_neg h]
  rfl
set_option maxRecDepth 100000 in
set_option maxHeartbeats 1000000 in
theorem eval_any (q : List Stp) (QA : Option Addr) (cq : Nat) (a b : List Itm) (A B : Option Addr) (ca cb : Nat) (w : World) (hl : q.length ≤ maxLen) (hq : Stps w QA q) (hk : ∀ s ∈ q, KindL s) (ha : Lv w A ca a) (hb : Lv w B cb b) :
    Calls Try.prog 6 #[.slice QA q.length cq, .slice A a.length ca, .slice B b.length cb] w fun e w' => ∃ (L : List Itm) (C : Option Addr) (k : Nat), e = .returned (.tuple #[.slice C L.length k, .int .i64 (plnE q (a.map Itm.z) (b.map Itm.z))]) ∧ L.map Itm.z = evlF q (a.map Itm.z) (b.map Itm.z) ∧ Lv w' C k L ∧ Below w.heap.size w w' := by
  have hC0 := all_any q QA cq a b A B ca cb w hl hq hk ha hb
  obtain ⟨P, hP⟩ : ∃ P, plnE q (a.map Itm.z) (b.map Itm.z) = P := ⟨_, rfl⟩
  have hPH : Hid (plnE q (a.map Itm.z) (b.map Itm.z) = P) := hP
  rw [hP] at hC0 ⊢
  have hC : Hid _ := hC0
  clear hC0 hP hl hq hk ha hb
  go_enter Try.func6, Try.ntmps6
  go_wp2_with fail
  refine Calls.mono (show Calls _ _ _ _ _ from hC.out) ?_
  rintro e w1 ⟨ss, C, k, rfl, hS0, hb0⟩
  have hS : Hid (Sts w1 C ss (plnF q (a.map Itm.z) (b.map Itm.z)) ∧ Below w.heap.size w w1) := ⟨hS0, hb0⟩
  clear hC hS0 hb0
  cases h1 : (P != 0)
  · have hP0 : P = 0 := by simpa using h1
    have h0 : plnE q (a.map Itm.z) (b.map Itm.z) = 0 := by rw [hPH.out, hP0]
    have hlen := plnF_len h0
    have hsl : ss.length = q.length := by
      have := congrArg List.length hS.out.1.z
      simp at this
      omega
    obtain ⟨bb, off, n, x, rfl, hbb, hn, hnl, hxc, hxl, hxz⟩ := hS.out.1.at (i := ((q.length - 1 : Nat) : Int)) (by omega) (by rw [hlen.1]; omega)
    have hn' : n = q.length - 1 := by omega
    have hfin : Hid (x.l.map Itm.z = evlF q (a.map Itm.z) (b.map Itm.z) ∧ Lv w1 x.A x.cap x.l) := ⟨hxz, hxl⟩
    have hq8 := (errQ_wids (ahdE_parts (plnE_parts h0).1).1).2.1
    have hn8 : (n : Int) ≤ 8 := by omega
    have hwn : wrap64 (n : Int) = (n : Int) := by unfold wrap64; omega
    have hi2 : (ss.length : Int) - 1 = (n : Int) := by omega
    have hnz : (n : Int) < (ss.length : Int) := by omega
    clear hxl hxz hn hn' hsl hlen h0 hq8
    go_wp2
    go_ret2
    exact ⟨x.l, x.A, x.cap, by rw [hP0]; rfl, hfin.out.1, hfin.out.2, hS.out.2⟩
  · have hfin : Hid (evlF q (a.map Itm.z) (b.map Itm.z) = []) := evl_no (by rw [hPH.out]; simpa using h1)
    go_wp2
    go_ret2
    exact ⟨[], none, 0, rfl, by rw [hfin.out]; rfl, ⟨⟨Or.inl rfl, fun x hx => (by cases hx)⟩, fun _ => rfl, Nat.zero_le _⟩, hS.out.2⟩
end Go.Proofs.Ytehcciefbjiknaa
