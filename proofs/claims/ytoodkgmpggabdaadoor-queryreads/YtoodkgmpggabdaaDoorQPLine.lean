/-
  query.parseLine: the step of a line.
-/
import Derived.Test.YtoodkgmpggabdaaDoorTk
import Derived.Test.YtoodkgmpggabdaaDoorQPPart
namespace Go.Proofs.YtoodkgmpggabdaaDoor
open Go.RowKit Go.Sort

/-- A step of nothing. -/
def zeroS : Stp := bareK 0
theorem box_new (w : World) : Box (w.alloc (.cells #[.int .i64 0, .int .i64 0, .int .i64 0, .int .i64 0, .int .i64 0, .int .i64 0, .slice none 0 0] 32)) w.heap.size zeroS :=
  ⟨box1 (Gr.refl _) rfl, box1 (Gr.refl _) rfl, box1 (Gr.refl _) rfl, box1 (Gr.refl _) rfl, box1 (Gr.refl _) rfl, box1 (Gr.refl _) rfl, box1 (Gr.refl _) rfl, fun j => box1f (Gr.refl _) j, by simp⟩
theorem rowX_cell {w : World} {B : Nat} {xs : List (List UInt8)} (h : RowX w (some ⟨B, 0, none⟩) xs) {j : Nat} (hj : j < xs.length) : w.cell? ⟨B, j, none⟩ = some (.string ⟨xs[j].toArray⟩) := by
  obtain ⟨b, off, hA, _, hcs⟩ := h.at hj
  have e0 := hcs j hj 0 (by omega)
  simp only [Option.some.injEq, Addr.mk.injEq, and_true] at hA
  obtain ⟨rfl, rfl⟩ := hA
  simpa [encX] using e0

theorem partsP_app : ∀ (ps qs : List UInt8) (xs ys : List (List UInt8)) (s : Stp), ps.length = xs.length → partsP s (ps ++ qs) (xs ++ ys) = match partsP s ps xs with
    | none => none
    | some t => partsP t qs ys
  | [], qs, [], ys, s, _ => rfl
  | p :: ps, qs, x :: xs, ys, s, h => by
    rw [List.cons_append, List.cons_append, partsP, partsP]
    cases partP s p x with
    | none => rfl
    | some t => exact partsP_app ps qs xs ys t (by simpa using h)
  | [], _, _ :: _, _, _, h => by simp at h
  | _ :: _, _, [], _, _, h => by simp at h
theorem partP_clr {s t : Stp} (h : clr s = clr t) (p : UInt8) (x : List UInt8) : (partP s p x).map clr = (partP t p x).map clr := by
  obtain ⟨k, a, b, c, o, v, pp, n, l⟩ := s
  obtain ⟨k', a', b', c', o', v', pp', n', l'⟩ := t
  simp only [clr, Stp.mk.injEq, true_and] at h
  obtain ⟨rfl, rfl, rfl, rfl, rfl, rfl, rfl⟩ := h
  unfold partP
  split
  · split <;> rfl
  · split
    · cases listP x <;> rfl
    · cases numP x with
      | none => rfl
      | some n =>
        simp only [Option.map]
        repeat' split
        all_goals rfl
/-- The state behind j parts. -/
def Sofar (k : Int) (ps : List UInt8) (r : List (List UInt8)) (b : Nat) (w w' : World) (j : Nat) : Prop := ∃ t t', partsP (bareK k) (ps.take j) (r.take j) = some t ∧ clr t' = clr t ∧ Box w' b t' ∧ Good (b + 1) w' t' ∧ Kept b w w'
theorem Sofar.next {k : Int} {ps : List UInt8} {r : List (List UInt8)} {j : Nat} {t : Stp} (hl : r.length = ps.length) (hj : j < ps.length) (hj2 : j < r.length) (h : partsP (bareK k) (ps.take j) (r.take j) = some t) : partsP (bareK k) (ps.take (j + 1)) (r.take (j + 1)) = partP t ps[j] r[j] := by
  rw [List.take_succ_eq_append_getElem hj, List.take_succ_eq_append_getElem hj2, partsP_app _ _ _ _ _ (by simp; omega), h]
  show partsP t [ps[j]] [r[j]] = _
  rw [partsP]
  cases partP t ps[j] r[j] <;> rfl
theorem Sofar.fail {k : Int} {ps : List UInt8} {r : List (List UInt8)} {j : Nat} (hl : r.length = ps.length) (h : partsP (bareK k) (ps.take j) (r.take j) = none) : partsP (bareK k) ps r = none := by
  have := partsP_app (ps.take j) (ps.drop j) (r.take j) (r.drop j) (bareK k) (by simp; omega)
  rw [List.take_append_drop, List.take_append_drop, h] at this
  exact this

theorem splitC_each (c : UInt8) : ∀ x, ∀ z ∈ splitC c x, z.length ≤ x.length
  | [], z, h => by simp [splitC] at h; simp [h]
  | b :: r, z, h => by
    have ih := splitC_each c r
    rw [splitC] at h
    split at h
    · rcases List.mem_cons.1 h with rfl | h
      · simp
      · have := ih z h; simp; omega
    · cases e : splitC c r with
      | nil => exact absurd e (splitC_ne c r)
      | cons y t =>
        rw [e] at h ih
        simp only [List.mem_cons] at h
        rcases h with rfl | h
        · have := ih y (by simp); simp; omega
        · have := ih z (by simp [h]); simp; omega
theorem Box.under {w w' : World} {b B : Nat} {s : Stp} (h : Box w b s) (hb : b < B) (k : Below B w w') : Box w' b s :=
  ⟨(k.cell (p := ⟨b, 0, none⟩) hb).trans h.c0, (k.cell (p := ⟨b, 1, none⟩) hb).trans h.c1, (k.cell (p := ⟨b, 2, none⟩) hb).trans h.c2, (k.cell (p := ⟨b, 3, none⟩) hb).trans h.c3, (k.cell (p := ⟨b, 4, none⟩) hb).trans h.c4, (k.cell (p := ⟨b, 5, none⟩) hb).trans h.c5, (k.cell (p := ⟨b, 6, none⟩) hb).trans h.c6, fun j => (k.frozen (p := ⟨b, j, none⟩) hb).trans (h.fz j), Nat.lt_of_lt_of_le h.lt k.size⟩
/-- A step's list lies somewhere. -/
def Held (w : World) (t : Stp) : Prop := RowI w t.p t.l ∧ t.l.length ≤ maxLen ∧ (t.p = none → t.n = 0)
theorem below_set7 {B b : Nat} {a w : World} (h : Below B a w) (hb : B ≤ b) (u0 u1 u2 u3 u4 u5 u6 : Value) :
    Below B a (((((((w.setCell ⟨b, 0, none⟩ u0).setCell ⟨b, 1, none⟩ u1).setCell ⟨b, 2, none⟩ u2).setCell ⟨b, 3, none⟩ u3).setCell ⟨b, 4, none⟩ u4).setCell ⟨b, 5, none⟩ u5).setCell ⟨b, 6, none⟩ u6) :=
  ((((((h.setCell (p := ⟨b, 0, none⟩) hb _).setCell (p := ⟨b, 1, none⟩) hb _).setCell (p := ⟨b, 2, none⟩) hb _).setCell (p := ⟨b, 3, none⟩) hb _).setCell (p := ⟨b, 4, none⟩) hb _).setCell (p := ⟨b, 5, none⟩) hb _).setCell (p := ⟨b, 6, none⟩) hb _
set_option maxHeartbeats 1000000 in
theorem parseLine_any (x : List UInt8) (w : World) (hr : Reads w) (hx : x.length ≤ 100000) : Calls Tryd.prog 8 #[.string ⟨x.toArray⟩] w fun e w' => ∃ t', e = .returned (.tuple #[.agg #[.int .i64 t'.k, .int .i64 t'.a, .int .i64 t'.b, .int .i64 t'.c, .int .i64 t'.o, .int .i64 t'.v, .slice t'.p t'.l.length t'.n], .bool (lineP x).isSome]) ∧ Below w.heap.size w w' ∧ ∀ t, lineP x = some t → clr t' = clr t ∧ Held w' t' ∧ ∀ a, t'.p = some a → w.heap.size ≤ a.block ∧ a.block < w'.heap.size := by
  obtain ⟨w0, hw0⟩ : ∃ w0, w.alloc (.cells #[.int .i64 0, .int .i64 0, .int .i64 0, .int .i64 0, .int .i64 0, .int .i64 0, .slice none 0 0] 32) = w0 := ⟨_, rfl⟩
  have hB0 : Box w0 w.heap.size zeroS := hw0 ▸ box_new w
  have hb0 : Below w.heap.size w w0 := hw0 ▸ ((Gr.refl w).alloc _).below
  have hs0 : w0.heap.size = w.heap.size + 1 := by rw [← hw0]; simp
  have hsp := split_any x 32 w0 (hr.below hb0) (by omega)
  have hln := splitC_le 32 x
  obtain ⟨ls, hls⟩ : ∃ ls, splitC 32 x = ls := ⟨_, rfl⟩
  rw [hls] at hsp hln
  obtain ⟨y, r, rfl⟩ : ∃ y r, ls = y :: r := List.exists_cons_of_ne_nil (by rw [← hls]; exact splitC_ne _ _)
  have hlp : lineP x = if kindP y = 0 ∨ r.length ≠ (partL (kindP y)).length then none else partsP (bareK (kindP y)) (partL (kindP y)) r := by unfold lineP; rw [hls]
  obtain ⟨LP, hLP⟩ : ∃ LP, lineP x = LP := ⟨_, rfl⟩
  rw [hLP] at hlp ⊢
  clear hLP
  have hrl0 : ∀ z ∈ r, z.length ≤ 100000 := fun z hz => Nat.le_trans (splitC_each 32 x z (by rw [hls]; simp [hz])) hx
  have hspH : Hid _ := hsp
  have hH0 : Hid (Box w0 w.heap.size zeroS ∧ Below w.heap.size w w0 ∧ Reads w0) := ⟨hB0, hb0, hr.below hb0⟩
  have hrw : Hid (Reads w) := hr
  clear hsp hls hB0 hb0 hr
  go_enter Tryd.func8, Tryd.ntmps8
  go_wp2_with fail
  refine Calls.mono (show Calls _ _ _ _ _ from hspH.out) ?_
  rintro e w1 ⟨rfl, hrow, hb⟩
  clear hw0
  rw [hs0] at hrow
  have hH : Hid (RowX w1 (some ⟨w.heap.size + 1, 0, none⟩) (y :: r) ∧ Box w1 w.heap.size zeroS ∧ Below w.heap.size w w1 ∧ Reads w1) := ⟨hrow, hH0.out.1.below hb, hH0.out.2.1.trans (hb.mono (by omega)), hH0.out.2.2.below hb⟩
  have e1 : w1.cell? ⟨w.heap.size + 1, 0, none⟩ = some (.string ⟨y.toArray⟩) := rowX_cell hrow (j := 0) (by simp)
  have hlenc : (y :: r).length = r.length + 1 := rfl
  rw [hlenc]
  have hko := kindOf_any y w1
  obtain ⟨k, hk⟩ : ∃ k, kindP y = k := ⟨_, rfl⟩
  rw [hk] at hko
  have hkoH : Hid _ := hko
  have hfo := formOf_any k w1
  obtain ⟨ps, hps⟩ : ∃ ps, partL k = ps := ⟨_, rfl⟩
  obtain ⟨wo, hwo⟩ : ∃ wo, wordL k = wo := ⟨_, rfl⟩
  rw [hps, hwo] at hfo
  have hfoH : Hid _ := hfo
  clear hrow hb hspH hH0 hko hfo hwo
  go_wp2_with fail
  refine Calls.mono (show Calls _ _ _ _ _ from hkoH.out) ?_
  rintro e w2 ⟨rfl, hw2⟩
  subst w2
  go_wp2_with fail
  refine Calls.mono (show Calls _ _ _ _ _ from hfoH.out) ?_
  rintro e w2 ⟨rfl, hw2⟩
  subst w2
  clear hkoH hfoH
  have hp4 : ps.length ≤ 4 := by rw [← hps]; exact partL_len k
  by_cases hbad : k = 0 ∨ r.length ≠ ps.length
  · rw [hk, hps, if_pos hbad] at hlp
    subst hlp
    have c0 := hH.out.2.1.c0
    have c1 := hH.out.2.1.c1
    have c2 := hH.out.2.1.c2
    have c3 := hH.out.2.1.c3
    have c4 := hH.out.2.1.c4
    have c5 := hH.out.2.1.c5
    have c6 := hH.out.2.1.c6
    have fz := hH.out.2.1.fz
    by_cases hk0 : k = 0
    · subst hk0
      go_wp2
      exact bodyPost_ret (v := .tuple #[.agg #[.int .i64 0, .int .i64 0, .int .i64 0, .int .i64 0, .int .i64 0, .int .i64 0, .slice none 0 0], .bool false]) (by simp [results, Tryd.results8, go_sem, c0, c1, c2, c3, c4, c5, c6]) rfl ⟨zeroS, rfl, below_set7 hH.out.2.2.1 (Nat.le_refl _) _ _ _ _ _ _ _, fun t ht => by cases ht⟩
    · have hkf : (k == 0) = false := by simpa using hk0
      have hkl : ((r.length : Int) + 1 != 1 + (ps.length : Int)) = true := by simp; omega
      go_wp2
      exact bodyPost_ret (v := .tuple #[.agg #[.int .i64 0, .int .i64 0, .int .i64 0, .int .i64 0, .int .i64 0, .int .i64 0, .slice none 0 0], .bool false]) (by simp [results, Tryd.results8, go_sem, c0, c1, c2, c3, c4, c5, c6]) rfl ⟨zeroS, rfl, below_set7 hH.out.2.2.1 (Nat.le_refl _) _ _ _ _ _ _ _, fun t ht => by cases ht⟩
  have hk0 : (k == 0) = false := by simp; omega
  have hkl : ((r.length : Int) + 1 != 1 + (ps.length : Int)) = false := by simp; omega
  go_wp2
  obtain ⟨W, hW⟩ : ∃ W, w1.alloc (.cells #[.int .i64 k, .int .i64 0, .int .i64 0, .int .i64 0, .int .i64 0, .int .i64 0, .slice none 0 0] 32) = W := ⟨_, rfl⟩
  rw [hW]
  have hWs : W.heap.size = w1.heap.size + 1 := by rw [← hW]; simp
  have hbW : Below w1.heap.size w1 W := by rw [← hW]; exact ((Gr.refl w1).alloc _).below
  have hBW : Box W w1.heap.size (bareK k) := by
    rw [← hW]
    exact ⟨box1 (Gr.refl _) rfl, box1 (Gr.refl _) rfl, box1 (Gr.refl _) rfl, box1 (Gr.refl _) rfl, box1 (Gr.refl _) rfl, box1 (Gr.refl _) rfl, box1 (Gr.refl _) rfl, fun j => box1f (Gr.refl _) j, by simp⟩
  have hHW : Hid (RowX W (some ⟨w.heap.size + 1, 0, none⟩) (y :: r) ∧ Box W w.heap.size zeroS ∧ Below w.heap.size w W ∧ Reads W ∧ W.heap.size = w1.heap.size + 1 ∧ w.heap.size < w1.heap.size ∧ Box W w1.heap.size (bareK k) ∧ w.heap.size + 1 < w1.heap.size) := ⟨hH.out.1.below hbW, hH.out.2.1.below hbW, hH.out.2.2.1.trans (hbW.mono hH.out.2.2.1.size), hH.out.2.2.2.below hbW, hWs, hH.out.2.1.lt, hBW, World.block_lt_of_cell? w1 _ e1⟩
  have hrl : Hid (∀ z ∈ r, z.length ≤ 100000) := hrl0
  clear hH hWs hbW hBW hW e1
  go_loopw [36] (fun i wr => ∃ j : Nat, j ≤ ps.length ∧ i = .int .i64 j ∧ Hid (Sofar k ps r w1.heap.size W wr j)) (fun i _ => ps.length - (intOf i).toNat)
  case atStart => exact ⟨0, Nat.zero_le _, rfl, bareK k, bareK k, rfl, rfl, hHW.out.2.2.2.2.2.2.1, ⟨Or.inl rfl, Nat.zero_le _, fun _ => rfl, fun a ha => by cases ha⟩, Kept.of (Below.refl _ _)⟩
  case round =>
    obtain ⟨j, hj, rfl, hov⟩ := hrel
    obtain ⟨t, t', hpt, hcl, hbx, hgd, hkp⟩ := hov.out
    clear hov
    by_cases hlt : j < ps.length
    · have hltz : (j : Int) < (ps.length : Int) := by omega
      have hltr : j < r.length := by omega
      obtain ⟨X, hX⟩ : ∃ X, r[j] = X := ⟨_, rfl⟩
      have hkd : Kept w1.heap.size W wr.drew := ⟨hkp.os, hkp.tape, hkp.output, hkp.size, hkp.block⟩
      have hbd : Below w1.heap.size W wr.drew := hkd.below (Nat.le_refl _) (by have := hHW.out.2.2.2.2.1; omega)
      have hwc : W.cell? ⟨w.heap.size + 1, 1 + j, none⟩ = some (.string ⟨X.toArray⟩) := by
        have := rowX_cell hHW.out.1 (j := 1 + j) (by simp; omega)
        rw [this]
        congr 3
        rw [← hX]
        simp [Nat.add_comm 1 j]
      have hS0 : wr.drew.cell? ⟨w.heap.size + 1, 1 + j, none⟩ = some (.string ⟨X.toArray⟩) := (hbd.cell (p := ⟨w.heap.size + 1, 1 + j, none⟩) hHW.out.2.2.2.2.2.2.2).trans hwc
      have hSK : Hid (∀ y1, Kept w1.heap.size wr.drew y1 → y1.cell? ⟨w.heap.size + 1, 1 + j, none⟩ = some (.string ⟨X.toArray⟩)) := fun y1 h1 => ((h1.below (B := w1.heap.size) (Nat.le_refl _) (Nat.le_trans (by have := hHW.out.2.2.2.2.1; omega) hkd.size)).cell (p := ⟨w.heap.size + 1, 1 + j, none⟩) hHW.out.2.2.2.2.2.2.2).trans hS0
      have hbxd : Box wr.drew w1.heap.size t' := ⟨hbx.c0, hbx.c1, hbx.c2, hbx.c3, hbx.c4, hbx.c5, hbx.c6, hbx.fz, hbx.lt⟩
      have hgdd : Good (w1.heap.size + 1) wr.drew t' := ⟨hgd.row.below ((Gr.refl wr).drew).below, hgd.len, hgd.nil, hgd.far⟩
      have hw1 : IntKind.i64.wrap (1 + (j : Int)) = 1 + (j : Int) := by rw [IntKind.wrap_i64]; omega
      have hw2 : (0 : Int) ≤ 1 + (j : Int) := by omega
      have hw3 : 1 + (j : Int) < (r.length : Int) + 1 := by omega
      have hw4 : (1 + (j : Int)).toNat = 1 + j := by omega
      have hbw : Below w.heap.size w wr.drew := hHW.out.2.2.1.trans (hkd.below (Nat.le_of_lt hHW.out.2.2.2.2.2.1) hHW.out.2.2.1.size)
      have hpp := parsePart_any t' ps[j] (by have := (partL_in (k := k)).1; rw [hps] at this; exact this _ (List.getElem_mem hlt)) X w1.heap.size wr.drew hbxd (Nat.lt_succ_self _) (Nat.le_trans (by have := hHW.out.2.2.2.2.1; omega) hkd.size) hgdd (hrw.out.below hbw) (by rw [← hX]; exact hrl.out _ (List.getElem_mem hltr))
      have hnxt := Sofar.next (by omega) hlt hltr hpt
      rw [hX] at hnxt
      have hcq := partP_clr hcl ps[j] X
      clear hcl
      cases hq : partP t' ps[j] X with
      | none =>
        rw [hq] at hpp hcq
        have hppH : Hid _ := hpp
        have hLPn : LP = none := by
          rw [hlp, hk, hps, if_neg hbad]
          refine Sofar.fail (j := j + 1) (by omega) ?_
          rw [hnxt]
          cases hz : partP t ps[j] X with
          | none => rfl
          | some z => rw [hz] at hcq; cases hcq
        subst hLPn
        have hZ : Hid (∀ y1, Kept w1.heap.size wr.drew y1 → Box y1 w.heap.size zeroS ∧ Below w.heap.size w y1) := fun y1 h1 => ⟨hHW.out.2.1.under hHW.out.2.2.2.2.2.1 (hbd.trans (h1.below (Nat.le_refl _) (Nat.le_trans (by have := hHW.out.2.2.2.2.1; omega) hkd.size))), hbw.trans (h1.below (Nat.le_of_lt hHW.out.2.2.2.2.2.1) hbw.size)⟩
        clear hpp hcq hq hnxt hpt hbx hgd hkp hkd hbd hwc hbxd hgdd hbw hlp
        go_upto_region 10 with fail
        refine wp_region_noPanic ?_
        refine wp_region_held_drew (S := fun w' => w'.cell? ⟨w.heap.size + 1, 1 + j, none⟩ = some (.string ⟨X.toArray⟩)) (by kernel_rfl) (hS0) (fun hHeld => ?_)
        refine tks [0, 1, 2, 3, 4, 5, 6, 7] (by assumption) ?_
        iterate 8 (refine tk (v := ?_) (by rfl) (by kernel_rfl) ?_ ?_; rotate_left; · (refine Or.inl ⟨by rfl, ?_⟩; intro w hSw; (try dsimp only at hSw); go_simp <;> with_reducible rfl); try simp only [Act.put, List.setIfInBounds_toArray, List.set_cons_zero, List.set_cons_succ])
        refine tk0 ?_
        refine wpAnyH_ready (rs := [8]) (by kernel_rfl) (by simp) ?_
        refine AllReadyH.cons (o := ?oia9) ?hopa9 (fun K hK => ?stepa9) ?morea9
        case hopa9 => (simp only [List.getElem?_toArray, List.getElem?_cons_zero, List.getElem?_cons_succ]; rfl)
        case morea9 => exact AllReadyH.nil
        go_simp
        (go_at_call 20; (refine Calls.mono (show Calls _ _ _ _ _ from hppH.out) ?_); rintro e y1 ⟨rfl, hk1, hres⟩; have hS1 : y1.cell? ⟨w.heap.size + 1, 1 + j, none⟩ = some (.string ⟨X.toArray⟩) := hSK.out y1 hk1; have hzb := hZ.out y1 hk1; obtain ⟨c0, c1, c2, c3, c4, c5, c6, fz, _⟩ := hzb.1; have hfb : Hid _ := hzb.2; clear hk1 hres hzb)
        first | (go_wp2_with fail) | skip
        refine hK.out _ _ ?_ (fun hHeld => ?_)
        · (try dsimp only); (first | with_reducible exact hS0 | with_reducible exact hS1)
        clear hK K
        try simp only [Act.put, List.setIfInBounds_toArray, List.set_cons_zero, List.set_cons_succ]
        refine tks [9] (by assumption) ?_
        iterate 1 (refine tk (v := ?_) (by rfl) (by kernel_rfl) ?_ ?_; rotate_left; · (refine Or.inl ⟨by rfl, ?_⟩; intro w hSw; (try dsimp only at hSw); go_simp <;> with_reducible rfl); try simp only [Act.put, List.setIfInBounds_toArray, List.set_cons_zero, List.set_cons_succ])
        refine tk0 ?_
        refine wpAnyH_done (by kernel_rfl) ?_ _
        refine NoPanic.normal ?_
        go_wp2
        exact bodyPost_ret (v := .tuple #[.agg #[.int .i64 0, .int .i64 0, .int .i64 0, .int .i64 0, .int .i64 0, .int .i64 0, .slice none 0 0], .bool false]) (by simp [results, Tryd.results8, go_sem, c0, c1, c2, c3, c4, c5, c6]) rfl ⟨zeroS, rfl, below_set7 hfb.out (Nat.le_refl _) _ _ _ _ _ _ _, fun t ht => by cases ht⟩
      | some z =>
        rw [hq] at hpp hcq
        have hppH : Hid _ := hpp
        have hnx : Hid (∀ y1, Kept w1.heap.size wr.drew y1 → (∀ t, some z = some t → ∃ t', clr t' = clr t ∧ Box y1 w1.heap.size t' ∧ Good (w1.heap.size + 1) y1 t') → Hid (Sofar k ps r w1.heap.size W y1 (j + 1))) := by
          intro y1 h1 h2
          obtain ⟨t2, h3, h4, h5⟩ := h2 z rfl
          cases hz : partP t ps[j] X with
          | none => rw [hz] at hcq; cases hcq
          | some z2 =>
            rw [hz] at hcq
            exact ⟨z2, t2, hnxt.trans hz, h3.trans (Option.some.inj hcq), h4, h5, hkd.trans h1⟩
        clear hpp hcq hq hnxt hpt hbx hgd hkp hkd hbd hwc hbxd hgdd hbw hlp
        go_upto_region 10 with fail
        refine wp_region_noPanic ?_
        refine wp_region_held_drew (S := fun w' => w'.cell? ⟨w.heap.size + 1, 1 + j, none⟩ = some (.string ⟨X.toArray⟩)) (by kernel_rfl) (hS0) (fun hHeld => ?_)
        refine tks [0, 1, 2, 3, 4, 5, 6, 7] (by assumption) ?_
        iterate 8 (refine tk (v := ?_) (by rfl) (by kernel_rfl) ?_ ?_; rotate_left; · (refine Or.inl ⟨by rfl, ?_⟩; intro w hSw; (try dsimp only at hSw); go_simp <;> with_reducible rfl); try simp only [Act.put, List.setIfInBounds_toArray, List.set_cons_zero, List.set_cons_succ])
        refine tk0 ?_
        refine wpAnyH_ready (rs := [8]) (by kernel_rfl) (by simp) ?_
        refine AllReadyH.cons (o := ?oib9) ?hopb9 (fun K hK => ?stepb9) ?moreb9
        case hopb9 => (simp only [List.getElem?_toArray, List.getElem?_cons_zero, List.getElem?_cons_succ]; rfl)
        case moreb9 => exact AllReadyH.nil
        go_simp
        (go_at_call 20; (refine Calls.mono (show Calls _ _ _ _ _ from hppH.out) ?_); rintro e y1 ⟨rfl, hk1, hres⟩; have hS1 : y1.cell? ⟨w.heap.size + 1, 1 + j, none⟩ = some (.string ⟨X.toArray⟩) := hSK.out y1 hk1; have hkr : Hid _ := hk1; have hresH : Hid _ := hres; clear hk1 hres)
        first | (go_wp2_with fail) | skip
        refine hK.out _ _ ?_ (fun hHeld => ?_)
        · (try dsimp only); (first | with_reducible exact hS0 | with_reducible exact hS1)
        clear hK K
        try simp only [Act.put, List.setIfInBounds_toArray, List.set_cons_zero, List.set_cons_succ]
        refine tks [9] (by assumption) ?_
        iterate 1 (refine tk (v := ?_) (by rfl) (by kernel_rfl) ?_ ?_; rotate_left; · (refine Or.inl ⟨by rfl, ?_⟩; intro w hSw; (try dsimp only at hSw); go_simp <;> with_reducible rfl); try simp only [Act.put, List.setIfInBounds_toArray, List.set_cons_zero, List.set_cons_succ])
        refine tk0 ?_
        refine wpAnyH_done (by kernel_rfl) ?_ _
        refine NoPanic.normal ?_
        go_wp2
        go_roundw
        case rel => exact ⟨j + 1, by omega, by go_num, hnx.out _ hkr.out hresH.out⟩
        case measure => simp [intOf]; omega
    · have hltz : ¬ (j : Int) < (ps.length : Int) := by omega
      rw [List.take_of_length_le (by omega), List.take_of_length_le (by omega)] at hpt
      have hLP : LP = some t := by rw [hlp, hk, hps, if_neg hbad]; exact hpt
      subst hLP
      have hbd : Below w1.heap.size W wr := hkp.below (Nat.le_refl _) (by have := hHW.out.2.2.2.2.1; omega)
      have hzb := hHW.out.2.1.under hHW.out.2.2.2.2.2.1 hbd
      have hbw : Hid (Below w.heap.size w wr) := hHW.out.2.2.1.trans (hkp.below (Nat.le_of_lt hHW.out.2.2.2.2.2.1) hHW.out.2.2.1.size)
      obtain ⟨c0, c1, c2, c3, c4, c5, c6, fz, _⟩ := hzb
      obtain ⟨d0, d1, d2, d3, d4, d5, d6, dz, _⟩ := hbx
      have hfin : Hid (clr t' = clr t ∧ Good (w1.heap.size + 1) wr t' ∧ w.heap.size < w1.heap.size) := ⟨hcl, hgd, hHW.out.2.2.2.2.2.1⟩
      clear hpt hlp hcl hgd hkp hbd
      go_wp2
      refine bodyPost_ret (v := .tuple #[.agg #[.int .i64 t'.k, .int .i64 t'.a, .int .i64 t'.b, .int .i64 t'.c, .int .i64 t'.o, .int .i64 t'.v, .slice t'.p t'.l.length t'.n], .bool true]) (by simp [results, Tryd.results8, go_sem, c0, c1, c2, c3, c4, c5, c6]) rfl ⟨t', rfl, below_set7 hbw.out (Nat.le_refl _) _ _ _ _ _ _ _, hfin.out.1, ⟨?_, hfin.out.2.1.len, hfin.out.2.1.nil⟩, fun a ha => ⟨by have := (hfin.out.2.1.far a ha).1; have := hfin.out.2.2; omega, by have := (hfin.out.2.1.far a ha).2; simpa [World.setCell] using this⟩⟩
      exact rowKept hfin.out.2.1.row ((((((((Kept.of (Below.refl _ _)).set 0 _).set 1 _).set 2 _).set 3 _).set 4 _).set 5 _).set 6 _) (fun a ha => by have := hfin.out.2.1.far a ha; have := hfin.out.2.2; omega)
end Go.Proofs.YtoodkgmpggabdaaDoor
