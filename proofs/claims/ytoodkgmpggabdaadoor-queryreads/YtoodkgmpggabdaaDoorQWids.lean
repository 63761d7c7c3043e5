/-
  query.widths, query.Check, query.Width.
-/
import Derived.Test.YtoodkgmpggabdaaDoorQWid
namespace Go.Proofs.YtoodkgmpggabdaaDoor
open Go.RowKit Go.Sort

/-- Steps in memory, and their lists. -/
structure Stps (w : World) (A : Option Addr) (q : List Stp) : Prop where
  row : RowG encQ 7 w A q
  each : ∀ s ∈ q, RowI w s.p s.l ∧ s.l.length ≤ maxLen ∧ (s.p = none → s.n = 0)
theorem Stps.below {w w' : World} {A : Option Addr} {q : List Stp} (h : Stps w A q) (k : Below w.heap.size w w') : Stps w' A q := ⟨h.row.below k, fun s hs => ⟨(h.each s hs).1.below k, (h.each s hs).2⟩⟩
theorem Stps.gr {w w' : World} {A : Option Addr} {q : List Stp} (h : Stps w A q) (k : Gr w w') : Stps w' A q := h.below k.below
theorem Stps.at {w : World} {A : Option Addr} {q : List Stp} (h : Stps w A q) {j : Nat} (hj : j < q.length) : ∃ b off, A = some ⟨b, off, none⟩ ∧ b < w.heap.size ∧ ∀ i, i < 7 → w.cell? ⟨b, off + j * 7 + i, none⟩ = (encQ q[j])[i]? := by
  obtain ⟨b, off, hA, hb, hc⟩ := h.row.at hj
  exact ⟨b, off, hA, hb, fun i hi => hc j hj i hi⟩
/-- The widths of all steps, behind those of widths ah; none, if one may not stand there. -/
def widsF : List Stp → List Int → Option (List Int)
  | [], ah => some ah
  | s :: t, ah => if widW s ah = 0 then none else widsF t (ah ++ [widW s ah])
/-- What Check answers. -/
def errQ (q : List Stp) : Int := if q.length = 0 then 1 else if 8 < q.length then 2 else if (widsF q []).isSome = true then 0 else 1
/-- The widths that it finds. -/
def widsL (q : List Stp) : List Int := if errQ q = 0 then (widsF q []).getD [] else []
theorem getD_b {l : List Int} (h : ∀ x ∈ l, 0 ≤ x ∧ x ≤ 8) (k : Nat) : 0 ≤ l.getD k 0 ∧ l.getD k 0 ≤ 8 := by
  rw [List.getD_eq_getElem?_getD]
  cases e : l[k]? with
  | none => simp
  | some x => exact h x (List.mem_of_getElem? e)
theorem oneW_b (s : Stp) {a : Int} (h : 0 ≤ a ∧ a ≤ 8) : 0 ≤ oneW s a ∧ oneW s a ≤ 8 := by
  unfold oneW
  repeat' split
  all_goals first | omega | skip
  rename_i h1
  simp at h1
  omega
theorem twoW_b (s : Stp) {a b : Int} (h : 0 ≤ a ∧ a ≤ 8) (k : 0 ≤ b ∧ b ≤ 8) : 0 ≤ twoW s a b ∧ twoW s a b ≤ 8 := by
  unfold twoW
  repeat' split
  all_goals first | omega | skip
  rename_i h1
  simp at h1
  omega
theorem widW_b (s : Stp) {ah : List Int} (h : ∀ x ∈ ah, 0 ≤ x ∧ x ≤ 8) : 0 ≤ widW s ah ∧ widW s ah ≤ 8 := by
  have h1 := oneW_b s (getD_b h s.a.toNat)
  have h2 := twoW_b s (getD_b h s.a.toNat) (getD_b h s.b.toNat)
  unfold widW
  repeat' split
  all_goals omega

set_option maxRecDepth 100000 in
set_option maxHeartbeats 4000000 in
theorem widths_any (q : List Stp) (A : Option Addr) (ca : Nat) (w : World) (hl : q.length ≤ maxLen) (hq : Stps w A q) :
    Calls Tryd.prog 21 #[.slice A q.length ca] w fun e w' => ∃ (C : Option Addr) (c : Nat), e = .returned (.tuple #[.slice C (widsL q).length c, .int .i64 (errQ q)]) ∧ RowI w' C (widsL q) ∧ (C = none → c = 0) ∧ Below w.heap.size w w' := by
  unfold maxLen at hl
  by_cases h0 : q.length = 0
  · have e1 : Hid (errQ q = 1 ∧ widsL q = []) := by
      have e : errQ q = 1 := by unfold errQ; rw [if_pos h0]
      exact ⟨e, by unfold widsL; rw [e, if_neg (by decide)]⟩
    have h0z : ((q.length : Int) == 0) = true := by rw [h0]; rfl
    clear h0
    go_enter Tryd.func21, Tryd.ntmps21
    go_wp2
    go_ret2
    exact ⟨none, 0, by rw [e1.out.1, e1.out.2]; rfl, by rw [e1.out.2]; exact Or.inl rfl, fun _ => rfl, Below.refl _ _⟩
  have h0z : ((q.length : Int) == 0) = false := beq_eq_false_iff_ne.2 (by omega)
  by_cases h8 : 8 < q.length
  · have e1 : Hid (errQ q = 2 ∧ widsL q = []) := by
      have e : errQ q = 2 := by unfold errQ; rw [if_neg h0, if_pos h8]
      exact ⟨e, by unfold widsL; rw [e, if_neg (by decide)]⟩
    have h8z : (8 : Int) < (q.length : Int) := by omega
    clear h0
    go_enter Tryd.func21, Tryd.ntmps21
    go_wp2
    go_ret2
    exact ⟨none, 0, by rw [e1.out.1, e1.out.2]; rfl, by rw [e1.out.2]; exact Or.inl rfl, fun _ => rfl, Below.refl _ _⟩
  have h8z : ¬ (8 : Int) < (q.length : Int) := by omega
  have herr : Hid (errQ q = if (widsF q []).isSome = true then 0 else 1) := by show _ = _; unfold errQ; rw [if_neg h0, if_neg h8]
  have hqH : Hid (Stps w A q) := hq
  clear hq h0
  go_enter Tryd.func21, Tryd.ntmps21
  go_wp2
  go_loopw [4, 16] (fun v i wr => ∃ (j : Nat) (ah : List Int), j ≤ q.length ∧ i = .int .i64 j ∧ Hid (ah.length = j ∧ (∀ x ∈ ah, 0 ≤ x ∧ x ≤ 8) ∧ widsF q [] = widsF (q.drop j) ah) ∧ Hid (OwnI wr w.heap.size v ah ∧ Below w.heap.size w wr)) (fun _ i _ => q.length - (intOf i).toNat)
  case atStart => exact ⟨0, [], by omega, rfl, ⟨rfl, (fun x hx => by cases hx), by simp⟩, OwnG.nil _ _ _ _ _, Below.refl _ _⟩
  case round =>
    obtain ⟨j, ah, hj, rfl, hfo, hov⟩ := hrel
    by_cases hlt : j < q.length
    · have hltz : (j : Int) < (q.length : Int) := by omega
      have hI : Hid (Stps wr A q) := hqH.out.below hov.out.2
      obtain ⟨bb, off, rfl, hb, hcs⟩ := hI.out.at hlt
      obtain ⟨s, hs⟩ : ∃ s, q[j] = s := ⟨_, rfl⟩
      have hsr := hI.out.each s (by rw [← hs]; exact List.getElem_mem hlt)
      rw [hs] at hcs
      have m0 : wr.cell? ⟨bb, off + j * 7, none⟩ = some (.int .i64 s.k) := hcs 0 (by omega)
      have m1 : wr.cell? ⟨bb, off + j * 7 + 1, none⟩ = some (.int .i64 s.a) := hcs 1 (by omega)
      have m2 : wr.cell? ⟨bb, off + j * 7 + 2, none⟩ = some (.int .i64 s.b) := hcs 2 (by omega)
      have m3 : wr.cell? ⟨bb, off + j * 7 + 3, none⟩ = some (.int .i64 s.c) := hcs 3 (by omega)
      have m4 : wr.cell? ⟨bb, off + j * 7 + 4, none⟩ = some (.int .i64 s.o) := hcs 4 (by omega)
      have m5 : wr.cell? ⟨bb, off + j * 7 + 5, none⟩ = some (.int .i64 s.v) := hcs 5 (by omega)
      have m6 : wr.cell? ⟨bb, off + j * 7 + 6, none⟩ = some (.slice s.p s.l.length s.n) := hcs 6 (by omega)
      have hstep : Hid (widsF q [] = if widW s ah = 0 then none else widsF (q.drop (j + 1)) (ah ++ [widW s ah])) := by
        show _ = _
        rw [hfo.out.2.2, List.drop_eq_getElem_cons hlt, hs]
        rfl
      have hwb := widW_b s hfo.out.2.1
      obtain ⟨G, gc, rfl, hG, hrow, hlt4⟩ := OwnG.row encI_len hov.out.1
      have hg0 : Gr wr (wr.alloc (.cells #[.int .i64 s.k, .int .i64 s.a, .int .i64 s.b, .int .i64 s.c, .int .i64 s.o, .int .i64 s.v, .slice s.p s.l.length s.n] 32)) := (Gr.refl wr).alloc _
      have c0 : (wr.alloc (.cells #[.int .i64 s.k, .int .i64 s.a, .int .i64 s.b, .int .i64 s.c, .int .i64 s.o, .int .i64 s.v, .slice s.p s.l.length s.n] 32)).cell? ⟨wr.heap.size, 0, none⟩ = some (.int .i64 s.k) := box1 (Gr.refl _) rfl
      have c1 : (wr.alloc (.cells #[.int .i64 s.k, .int .i64 s.a, .int .i64 s.b, .int .i64 s.c, .int .i64 s.o, .int .i64 s.v, .slice s.p s.l.length s.n] 32)).cell? ⟨wr.heap.size, 1, none⟩ = some (.int .i64 s.a) := box1 (Gr.refl _) rfl
      have c2 : (wr.alloc (.cells #[.int .i64 s.k, .int .i64 s.a, .int .i64 s.b, .int .i64 s.c, .int .i64 s.o, .int .i64 s.v, .slice s.p s.l.length s.n] 32)).cell? ⟨wr.heap.size, 2, none⟩ = some (.int .i64 s.b) := box1 (Gr.refl _) rfl
      have c3 : (wr.alloc (.cells #[.int .i64 s.k, .int .i64 s.a, .int .i64 s.b, .int .i64 s.c, .int .i64 s.o, .int .i64 s.v, .slice s.p s.l.length s.n] 32)).cell? ⟨wr.heap.size, 3, none⟩ = some (.int .i64 s.c) := box1 (Gr.refl _) rfl
      have c4 : (wr.alloc (.cells #[.int .i64 s.k, .int .i64 s.a, .int .i64 s.b, .int .i64 s.c, .int .i64 s.o, .int .i64 s.v, .slice s.p s.l.length s.n] 32)).cell? ⟨wr.heap.size, 4, none⟩ = some (.int .i64 s.o) := box1 (Gr.refl _) rfl
      have c5 : (wr.alloc (.cells #[.int .i64 s.k, .int .i64 s.a, .int .i64 s.b, .int .i64 s.c, .int .i64 s.o, .int .i64 s.v, .slice s.p s.l.length s.n] 32)).cell? ⟨wr.heap.size, 5, none⟩ = some (.int .i64 s.v) := box1 (Gr.refl _) rfl
      have c6 : (wr.alloc (.cells #[.int .i64 s.k, .int .i64 s.a, .int .i64 s.b, .int .i64 s.c, .int .i64 s.o, .int .i64 s.v, .slice s.p s.l.length s.n] 32)).cell? ⟨wr.heap.size, 6, none⟩ = some (.slice s.p s.l.length s.n) := box1 (Gr.refl _) rfl
      have hwd := width_any s ah G gc (wr.alloc (.cells #[.int .i64 s.k, .int .i64 s.a, .int .i64 s.b, .int .i64 s.c, .int .i64 s.o, .int .i64 s.v, .slice s.p s.l.length s.n] 32)) hsr.2.1 (hsr.1.gr hg0) (hrow.gr hg0) hfo.out.2.1
      obtain ⟨n, hn⟩ : ∃ n, widW s ah = n := ⟨_, rfl⟩
      rw [hn] at hwd hstep hwb
      have hwdH : Hid _ := hwd
      clear hcs hs hwd hsr
      go_wp2_with fail
      refine Calls.mono (show Calls _ _ _ _ _ from hwdH.out) ?_
      rintro e w1 ⟨rfl, hg1⟩
      clear hwdH c0 c1 c2 c3 c4 c5 c6 m0 m1 m2 m3 m4 m5 m6
      have hgw : Hid (Gr wr w1) := hg0.trans hg1
      clear hg0 hg1
      by_cases hn0 : n = 0
      · have e1 : Hid (errQ q = 1 ∧ widsL q = []) := by
          have e : errQ q = 1 := by rw [herr.out, hstep.out, if_pos hn0]; rfl
          exact ⟨e, by unfold widsL; rw [e, if_neg (by decide)]⟩
        have hbF : Hid (Below w.heap.size w w1) := hov.out.2.trans (hgw.out.below.mono hov.out.2.size)
        subst hn0
        go_wp2
        go_ret2
        exact ⟨none, 0, by rw [e1.out.1, e1.out.2]; rfl, by rw [e1.out.2]; exact Or.inl rfl, fun _ => rfl, hbF.out⟩
      · have hnb : (n == 0) = false := beq_eq_false_iff_ne.2 hn0
        have hoX : Hid (OwnI (w1.alloc (.cells #[.int .i64 n] 3)) w.heap.size (.slice G ah.length gc) ah ∧ RowI (w1.alloc (.cells #[.int .i64 n] 3)) (some ⟨w1.heap.size, 0, none⟩) [n] ∧ ah.length + 1 ≤ maxLen ∧ (ah.length + 1) * 8 ≤ 140737488355328 ∧ Below w.heap.size w (w1.alloc (.cells #[.int .i64 n] 3))) := by
          have h1 := hfo.out.1
          have hg2 : Gr wr (w1.alloc (.cells #[.int .i64 n] 3)) := hgw.out.alloc _
          exact ⟨hov.out.1.gr hg2, rowNewI rfl n 3, by unfold maxLen; omega, by omega, hov.out.2.trans (hg2.below.mono hov.out.2.size)⟩
        have hnext : Hid ((ah ++ [n]).length = j + 1 ∧ (∀ x ∈ ah ++ [n], 0 ≤ x ∧ x ≤ 8) ∧ widsF q [] = widsF (q.drop (j + 1)) (ah ++ [n])) := by
          refine ⟨by simp [hfo.out.1], fun x hx => ?_, by rw [hstep.out, if_neg hn0]⟩
          rcases List.mem_append.1 hx with k | k
          · exact hfo.out.2.1 x k
          · rw [List.mem_singleton.1 k]; exact hwb
        clear hn0 hov hrow hG hlt4
        go_wp2_with (at_builtin; refine wpList_append_i _ rfl (.tmp 25) (.tmp 27) rfl w.heap.size (.slice G ah.length gc) ah [n] (some ⟨w1.heap.size, 0, none⟩) 1 rfl rfl hoX.out.1 hoX.out.2.1 (fun h => by cases h) hoX.out.2.2.1 hoX.out.2.2.2.1 hoX.out.2.2.2.2.size ?_; intro v7 w7 hown7 hg7)
        have hfin7 : Hid (OwnI w7 w.heap.size v7 (ah ++ [n]) ∧ Below w.heap.size w w7) := ⟨hown7, hoX.out.2.2.2.2.trans (OwnG.grown_below hoX.out.1 hg7 hoX.out.2.2.2.2.size)⟩
        clear hown7 hg7 hoX
        go_roundw
        case rel => exact ⟨j + 1, ah ++ [n], by omega, by go_num, hnext, hfin7⟩
        case measure => simp [intOf]; omega
    · have hltz : ¬ (j : Int) < (q.length : Int) := by omega
      have hfin : Hid (errQ q = 0 ∧ widsL q = ah) := by
        have h1 := hfo.out.2.2
        rw [List.drop_eq_nil_of_le (by omega)] at h1
        have e : errQ q = 0 := by rw [herr.out, h1]; rfl
        exact ⟨e, by unfold widsL; rw [if_pos e, h1]; rfl⟩
      obtain ⟨G, gc, rfl, hG, hrow, hlt4⟩ := OwnG.row encI_len hov.out.1
      have hfin2 : Hid (RowI wr G ah ∧ (G = none → gc = 0) ∧ Below w.heap.size w wr) := ⟨hrow, hG, hov.out.2⟩
      clear hrow hG hlt4 hov
      go_wp2
      go_ret2
      exact ⟨G, gc, by rw [hfin.out.1, hfin.out.2]; rfl, by rw [hfin.out.2]; exact hfin2.out.1, hfin2.out.2.1, hfin2.out.2.2⟩

end Go.Proofs.YtoodkgmpggabdaaDoor
