/-
  query.Print: the text of a query.
-/
import Derived.Test.YtahpkmdifkaldaaDoorQLine
import Derived.Test.YtahpkmdifkaldaaDoorSBuild
namespace Go.Proofs.YtahpkmdifkaldaaDoor
open Go.RowKit Go.Sort

/-- A query's text. -/
def textT (q : List Stp) : List UInt8 := q.flatMap fun s => lineT s ++ [10]
theorem lineT_len {s : Stp} (h : Fine s) : (lineT s).length ≤ 5005 := by
  unfold lineT
  have h1 := join_le [32] 1000 (wordL s.k :: (partL s.k).map (fun p => partT s p.toNat)) (fun x hx => by
    rcases List.mem_cons.1 hx with e | e
    · rw [e]; exact Nat.le_trans (wordL_len s.k) (by omega)
    · obtain ⟨p, _, rfl⟩ := List.mem_map.1 e
      exact partT_len h _)
  have h2 := partL_len s.k
  have h3 : (wordL s.k :: (partL s.k).map (fun p => partT s p.toNat)).length ≤ 5 := by simp; omega
  have h4 := Nat.mul_le_mul h3 (Nat.le_refl (1000 + [(32 : UInt8)].length))
  simp only [List.length_cons, List.length_nil] at h1 h4 ⊢
  omega

/-- What Print tells. -/
def printT (q : List Stp) : List UInt8 := if errQ q = 0 then textT q else []
theorem pick_ne {s : Stp} {ah : List Int} (h : widW s ah ≠ 0) (hk : s.k = 3) : s.l ≠ [] := by
  intro e
  apply h
  rw [wid3 hk, e]
  simp [inB]
theorem widsF_fine : ∀ (q : List Stp) (ah : List Int), (∀ x ∈ ah, 0 ≤ x ∧ x ≤ 8) → ah.length + q.length ≤ 8 → (widsF q ah).isSome = true → ∀ s ∈ q, Fine s ∧ (s.k = 3 → s.l ≠ [])
  | [], _, _, _, _ => fun s hs => by cases hs
  | s :: t, ah, h1, h2, h3 => by
    have h3' : (if widW s ah = 0 then none else widsF t (ah ++ [widW s ah])).isSome = true := h3
    by_cases e : widW s ah = 0
    · rw [if_pos e] at h3'; cases h3'
    · rw [if_neg e] at h3'
      have hb := widW_b s h1
      have ih := widsF_fine t (ah ++ [widW s ah]) (fun x hx => by
        rcases List.mem_append.1 hx with k | k
        · exact h1 x k
        · rw [List.mem_singleton.1 k]; exact hb) (by simp at h2 ⊢; omega) h3'
      intro u hu
      rcases List.mem_cons.1 hu with k | k
      · subst k
        simp at h2
        exact ⟨widW_fine e (by omega) h1, pick_ne e⟩
      · exact ih u k
theorem errQ_fine {q : List Stp} (h : errQ q = 0) : ∀ s ∈ q, Fine s ∧ (s.k = 3 → s.l ≠ []) := by
  have h8 := (widsL_len h).2
  refine widsF_fine q [] (fun x hx => by cases hx) (by simpa using h8) ?_
  unfold errQ at h
  by_cases h0 : q.length = 0
  · rw [if_pos h0] at h; cases h
  · rw [if_neg h0, if_neg (by omega)] at h
    by_cases k : (widsF q []).isSome = true
    · exact k
    · rw [if_neg k] at h; cases h
theorem errQ_ne {q : List Stp} (h : errQ q = 0) : q ≠ [] := by
  intro e
  rw [e] at h
  exact absurd h (by decide)
theorem textT_take {q : List Stp} {j : Nat} (h : j < q.length) : textT (q.take (j + 1)) = textT (q.take j) ++ lineT q[j] ++ [10] := by
  unfold textT
  rw [List.take_succ_eq_append_getElem h, List.flatMap_append, List.flatMap_cons, List.flatMap_nil, List.append_nil, List.append_assoc]
theorem textT_len : ∀ q : List Stp, (∀ s ∈ q, Fine s) → (textT q).length ≤ q.length * 5006
  | [], _ => by simp [textT]
  | s :: t, h => by
    have h1 := textT_len t fun x hx => h x (List.mem_cons_of_mem _ hx)
    have h2 := lineT_len (h s (List.mem_cons_self ..))
    have e : textT (s :: t) = lineT s ++ [10] ++ textT t := by simp [textT]
    rw [e]
    simp only [List.length_append, List.length_cons, List.length_nil, Nat.succ_mul] at h1 ⊢
    omega
theorem textT_ne {q : List Stp} (h : q ≠ []) : textT q ≠ [] := by
  cases q with
  | nil => exact absurd rfl h
  | cons s t => simp [textT]

set_option maxRecDepth 100000 in
set_option maxHeartbeats 2000000 in
theorem print_any (q : List Stp) (A : Option Addr) (ca : Nat) (w : World) (hl : q.length ≤ maxLen) (hq : Stps w A q) (ht : Tens w) :
    Calls Tryd.prog 4 #[.slice A q.length ca] w fun e w' => e = .returned (.tuple #[.string ⟨(printT q).toArray⟩, .int .i64 (errQ q)]) ∧ Below w.heap.size w w' := by
  have hck := checkQ_any q A ca w hl hq
  have hckH : Hid _ := hck
  have hH : Hid (Stps w A q ∧ Tens w) := ⟨hq, ht⟩
  clear hck hq ht
  go_enter Tryd.func4, Tryd.ntmps4
  go_wp2_with fail
  refine Calls.mono (show Calls _ _ _ _ _ from hckH.out) ?_
  rintro e w1 ⟨rfl, hb1⟩
  clear hckH
  cases hq0 : (errQ q != 0)
  · have h0 : errQ q = 0 := by simpa using hq0
    have h0H : Hid (errQ q = 0) := h0
    have h8 : q.length ≤ 8 := (widsL_len h0).2
    have hpt : Hid (printT q = textT q) := by show _ = _; unfold printT; rw [if_pos h0]
    rw [h0]
    clear h0 hq0 hl
    go_wp2
    go_loopw [15] (fun i wr => ∃ j : Nat, j ≤ q.length ∧ i = .int .i64 j ∧ Hid (Lib.IsBuilder 37 5 w1.heap.size w1.heap.size (Lib.byteCells (textT (q.take j))) wr ∧ Below w1.heap.size w1 wr)) (fun i _ => q.length - (intOf i).toNat)
    case atStart => exact ⟨0, Nat.zero_le _, rfl, Or.inl ⟨Nat.le_refl _, .slice none 0 0, heap_alloc_new w1 _, World.ownsRow_nil _ _ _ _, by simp [Value.ownBlock]⟩, ((Gr.refl _).alloc _).below⟩
    case round =>
      obtain ⟨j, hj, rfl, hbu⟩ := hrel
      by_cases hlt : j < q.length
      · have hltz : (j : Int) < (q.length : Int) := by omega
        have hI : Hid (Stps wr A q) := (hH.out.1.below hb1).below hbu.out.2
        obtain ⟨bb, off, rfl, hb, hcs⟩ := hI.out.at hlt
        obtain ⟨s, hs⟩ : ∃ s, q[j] = s := ⟨_, rfl⟩
        have hsm : s ∈ q := by rw [← hs]; exact List.getElem_mem hlt
        have hsr : Hid (RowI wr s.p s.l) := (hI.out.each s hsm).1
        have hsf : Hid (Fine s ∧ (s.k = 3 → s.l ≠ [])) := errQ_fine h0H.out s hsm
        rw [hs] at hcs
        have m0 : wr.cell? ⟨bb, off + j * 7, none⟩ = some (.int .i64 s.k) := hcs 0 (by omega)
        have m1 : wr.cell? ⟨bb, off + j * 7 + 1, none⟩ = some (.int .i64 s.a) := hcs 1 (by omega)
        have m2 : wr.cell? ⟨bb, off + j * 7 + 2, none⟩ = some (.int .i64 s.b) := hcs 2 (by omega)
        have m3 : wr.cell? ⟨bb, off + j * 7 + 3, none⟩ = some (.int .i64 s.c) := hcs 3 (by omega)
        have m4 : wr.cell? ⟨bb, off + j * 7 + 4, none⟩ = some (.int .i64 s.o) := hcs 4 (by omega)
        have m5 : wr.cell? ⟨bb, off + j * 7 + 5, none⟩ = some (.int .i64 s.v) := hcs 5 (by omega)
        have m6 : wr.cell? ⟨bb, off + j * 7 + 6, none⟩ = some (.slice s.p s.l.length s.n) := hcs 6 (by omega)
        have hstep : Hid (textT (q.take (j + 1)) = textT (q.take j) ++ lineT s ++ [10]) := by show _ = _; rw [textT_take hlt, hs]
        have hg0 : Gr wr (wr.alloc (.cells #[.int .i64 s.k, .int .i64 s.a, .int .i64 s.b, .int .i64 s.c, .int .i64 s.o, .int .i64 s.v, .slice s.p s.l.length s.n] 28)) := (Gr.refl wr).alloc _
        have hln := printLine_any s (wr.alloc (.cells #[.int .i64 s.k, .int .i64 s.a, .int .i64 s.b, .int .i64 s.c, .int .i64 s.o, .int .i64 s.v, .slice s.p s.l.length s.n] 28)) hsf.out.1 (hsr.out.gr hg0) hsf.out.2 ((((hH.out.2.below hb1).below hbu.out.2)).gr hg0)
        have hlnH : Hid _ := hln
        have htl : Hid ((textT (q.take j)).length ≤ 8 * 5006) := by
          show _ ≤ _
          have h1 := textT_len (q.take j) fun x hx => (errQ_fine h0H.out x (List.mem_of_mem_take hx)).1
          have h2 : (q.take j).length ≤ 8 := by rw [List.length_take]; omega
          exact Nat.le_trans h1 (Nat.mul_le_mul h2 (Nat.le_refl _))
        have hl5 : Hid ((lineT s).length ≤ 5005) := lineT_len hsf.out.1
        clear hcs hs hsm hln
        go_wp2_with fail
        refine Calls.mono (show Calls _ _ _ _ _ from hlnH.out) ?_
        rintro e w2 ⟨rfl, hb2⟩
        clear hlnH m0 m1 m2 m3 m4 m5 m6
        have hbu2 : Hid (Lib.IsBuilder 37 5 w1.heap.size w1.heap.size (Lib.byteCells (textT (q.take j))) w2 ∧ Below w1.heap.size w1 w2) := ⟨builder_below (builder_below hbu.out.1 hg0.below) hb2, hbu.out.2.trans ((hg0.below.trans (hb2.mono hg0.size)).mono hbu.out.2.size)⟩
        obtain ⟨T, hT⟩ : ∃ T, textT (q.take j) = T := ⟨_, rfl⟩
        obtain ⟨x, hx⟩ : ∃ x, lineT s = x := ⟨_, rfl⟩
        rw [hT] at hbu2 hstep htl
        rw [hx] at hstep hl5 ⊢
        have hws := writeString_any w1.heap.size w1.heap.size T x w2 hbu2.out.1 (by have h1 := htl.out; have h2 := hl5.out; omega) hbu2.out.2.size
        have hwsH : Hid _ := hws
        clear hws hbu hT hx hb2
        go_wp2_with fail
        refine Calls.mono (show Calls _ _ _ _ _ from hwsH.out) ?_
        rintro e w3 ⟨rfl, hbu3, hb3⟩
        have hwb := writeByte_any w1.heap.size w1.heap.size (T ++ x) 10 w3 hbu3 (by have h1 := htl.out; have h2 := hl5.out; rw [List.length_append]; omega) (Nat.le_trans hbu2.out.2.size hb3.size)
        have hwbH : Hid _ := hwb
        have hb13 : Hid (Below w1.heap.size w1 w3) := hbu2.out.2.trans hb3
        clear hwsH hwb hbu3 hb3 hbu2
        go_wp2_with fail
        refine Calls.mono (show Calls _ _ _ _ _ from hwbH.out) ?_
        rintro e w4 ⟨rfl, hbu4, hb4⟩
        have hend : Hid (Lib.IsBuilder 37 5 w1.heap.size w1.heap.size (Lib.byteCells (T ++ x ++ [10])) w4 ∧ Below w1.heap.size w1 w4) := ⟨hbu4, hb13.out.trans hb4⟩
        clear hwbH hbu4 hb4 hb13
        go_wp2
        go_roundw
        case rel => exact ⟨j + 1, by omega, by go_num, by rw [hstep.out]; exact hend⟩
        case measure => simp [intOf]; omega
      · have hltz : ¬ (j : Int) < (q.length : Int) := by omega
        have hke : q.take j = q := List.take_of_length_le (by omega)
        rw [hke] at hbu
        have hst := string_any0 w1.heap.size w1.heap.size (textT q) wr hbu.out.1 hbu.out.2.size
        have hstH : Hid _ := hst
        have hbF : Hid (Below w.heap.size w wr) := hb1.trans (hbu.out.2.mono hb1.size)
        have hbu2 : Hid (w1.heap.size ≤ wr.heap.size ∧ Below w1.heap.size w1 wr) := ⟨hbu.out.2.size, hbu.out.2⟩
        clear hst hke hbu
        go_wp2_with fail
        refine Calls.mono (show Calls _ _ _ _ _ from hstH.out) ?_
        rintro e w2 ⟨rfl, hb2⟩
        have hbG : Hid (Below w.heap.size w w2) := hb1.trans ((hbu2.out.2.trans hb2).mono hb1.size)
        clear hstH hb2
        go_wp2
        go_ret2
        exact ⟨by rw [hpt.out, h0H.out]; rfl, hbG.out⟩
  · have h0 : errQ q ≠ 0 := by simpa using hq0
    have hpt : Hid (printT q = []) := by show _ = _; unfold printT; rw [if_neg h0]
    clear h0
    go_wp2
    go_ret2
    exact ⟨by rw [hpt.out]; rfl, hb1⟩

end Go.Proofs.YtahpkmdifkaldaaDoor
