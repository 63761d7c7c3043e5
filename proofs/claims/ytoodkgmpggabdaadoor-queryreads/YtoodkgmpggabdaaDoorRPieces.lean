/-
  viewref.Pieces: a text cut at each byte of one sort.
-/
import Derived.Test.YtoodkgmpggabdaaDoorQParM
namespace Go.Proofs.YtoodkgmpggabdaaDoor
open Go.RowKit Go.Sort

theorem splitC_snoc_eq (c : UInt8) : ∀ l : List UInt8, splitC c (l ++ [c]) = splitC c l ++ [[]]
  | [] => by simp [splitC]
  | a :: l => by
    have ih := splitC_snoc_eq c l
    rw [List.cons_append]
    by_cases h : a = c
    · subst h
      simp only [splitC] at ih ⊢
      rw [ih]; rfl
    · simp only [splitC, if_neg h] at ih ⊢
      rw [ih]
      cases e : splitC c l with
      | nil => exact absurd e (splitC_ne c l)
      | cons y t => rfl
theorem splitC_snoc_ne {c d : UInt8} (h : d ≠ c) : ∀ l : List UInt8, ∃ L y, splitC c l = L ++ [y] ∧ splitC c (l ++ [d]) = L ++ [y ++ [d]]
  | [] => ⟨[], [], by simp [splitC], by simp [splitC, h]⟩
  | a :: l => by
    obtain ⟨L, y, h1, h2⟩ := splitC_snoc_ne h l
    rw [List.cons_append]
    by_cases k : a = c
    · subst k
      refine ⟨[] :: L, y, ?_, ?_⟩
      · simp only [splitC]; rw [h1]; rfl
      · simp only [splitC]; rw [h2]; rfl
    · simp only [splitC, if_neg k]
      rw [h1, h2]
      cases L with
      | nil => exact ⟨[], a :: y, rfl, rfl⟩
      | cons z t => exact ⟨(a :: z) :: t, y, rfl, rfl⟩
theorem splitC_leP {c : UInt8} : ∀ {l : List UInt8} {y : List UInt8}, y ∈ splitC c l → y.length ≤ l.length
  | [], y, h => by simp [splitC] at h; rw [h]; simp
  | a :: l, y, h => by
    by_cases k : a = c
    · subst k
      simp only [splitC] at h
      rcases List.mem_cons.1 h with e | e
      · rw [e]; simp
      · have := splitC_leP e; simp; omega
    · simp only [splitC, if_neg k] at h
      cases e : splitC c l with
      | nil => exact absurd e (splitC_ne c l)
      | cons z t =>
        rw [e] at h
        rcases List.mem_cons.1 h with e2 | e2
        · have := splitC_leP (l := l) (y := z) (c := c) (by rw [e]; simp)
          rw [e2]; simp; omega
        · have := splitC_leP (l := l) (y := y) (c := c) (by rw [e]; exact List.mem_cons_of_mem _ e2)
          simp; omega
theorem addB {x y : List UInt8} {a b c : ByteArray} (hc : c = ⟨(x ++ y).toArray⟩) (ha : a = ⟨x.toArray⟩) (hb : b = ⟨y.toArray⟩) (h : x.length + y.length ≤ 9000000000000000000) : ∀ w, (Op.stringOp .add a b).run Tryd.prog w = .ok (.string c) w := fun w => by
  subst hc ha hb
  rw [run_string_add_sum w _ _ (by simp [ByteArray.size]; omega), ByteArray.mk_append_mk]
theorem ext_one {x : List UInt8} {k : Nat} (h : k < x.length) : (x.drop k).take 1 = [x[k]] := by
  rw [List.drop_eq_getElem_cons h]
  rfl
theorem flatX (L : List (List UInt8)) : flatG encX L = L.map fun x => Value.string ⟨x.toArray⟩ := by
  induction L with
  | nil => rfl
  | cons x t ih =>
    show encX x ++ flatG encX t = _
    rw [ih]
    rfl
/-- The last text of a list of one's own is written anew. -/
theorem ownX_last {w : World} {base g cap : Nat} {L : List (List UInt8)} {y z : List UInt8} (h : OwnX w base (.slice (some ⟨g, 0, none⟩) (L.length + 1) cap) (L ++ [y])) : OwnX (w.setCell ⟨g, L.length, none⟩ (.string ⟨z.toArray⟩)) base (.slice (some ⟨g, 0, none⟩) (L.length + 1) cap) (L ++ [z]) := by
  refine ⟨flatG_length encX_len _, ?_⟩
  rcases h.2 with ⟨hv, _⟩ | ⟨g', cap', cur, hv, hb, hg, hl, hm, hs, ht⟩
  · cases hv
  · injection hv with h1 h2 h3
    injection h1 with h1
    injection h1 with h1
    subst h1 h3
    have hlt : g < w.heap.size := (Array.getElem?_eq_some_iff.1 hg).1
    have h' : w.heap[g] = .cells cur 9 (0, 0) := by simpa [Array.getElem?_eq_getElem hlt] using hg
    refine .inr ⟨g, cap, cur.setIfInBounds L.length (.string ⟨z.toArray⟩), by simp, hb, ?_, by simpa using hl, hm, by simpa using hs, ?_⟩
    · show (w.heap.modify g _)[g]? = _
      rw [Array.getElem?_eq_getElem (by simpa using hlt), Array.getElem_modify_self, h']
      rfl
    · rw [flatX] at ht ⊢
      have hlen : (L ++ [z]).length * 1 = L.length + 1 := by simp
      have hlen2 : (L ++ [y]).length * 1 = L.length + 1 := by simp
      rw [hlen]
      rw [hlen2] at ht
      rw [Array.toList_setIfInBounds, List.take_set, ht, List.map_append, List.map_append]
      rw [show L.length = (L.map fun x => Value.string ⟨x.toArray⟩).length by simp, List.set_append_right _ _ (Nat.le_refl _)]
      simp
theorem ownX_cell {w : World} {base g cap : Nat} {L : List (List UInt8)} {y : List UInt8} (h : OwnX w base (.slice (some ⟨g, 0, none⟩) (L.length + 1) cap) (L ++ [y])) : w.cell? ⟨g, L.length, none⟩ = some (.string ⟨y.toArray⟩) ∧ w.frozen? ⟨g, L.length, none⟩ = false := by
  have hc := h.cells (g := g) rfl
  refine ⟨?_, ?_⟩
  · have := hc L.length (.string ⟨y.toArray⟩) (by rw [flatX]; simp)
    rw [Addr.add_lit] at this
    simpa using this
  · have e : (L ++ [y]).length = L.length + 1 := by simp
    have h' : w.ownsRow base 9 1 (.slice (some ⟨g, 0, none⟩) (L ++ [y]).length cap) (L ++ [y]).length (flatG encX (L ++ [y])) := by
      have h0 : w.ownsRow base 9 1 (.slice (some ⟨g, 0, none⟩) (L.length + 1) cap) (L ++ [y]).length (flatG encX (L ++ [y])) := h
      rw [← e] at h0
      exact h0
    exact World.ownsRow.frozenAt h' (g := g) (cap := cap) L.length

set_option maxRecDepth 100000 in
set_option maxHeartbeats 2000000 in
theorem pieces_any (x : List UInt8) (c : UInt8) (w : World) (hx : x.length ≤ 70000) :
    Calls Tryd.prog 10 #[.string ⟨x.toArray⟩, .int .u8 c.toNat] w fun e w' => ∃ v, e = .returned v ∧ OwnX w' w.heap.size v (splitC c x) ∧ Below w.heap.size w w' := by
  have mixed : Tryd.prog.follows .mixedOrders = true := by kernel_rfl
  go_enter Tryd.func10, Tryd.ntmps10
  go_wp2
  go_loopw [5, 6] (fun v i wr => ∃ k : Nat, k ≤ x.length ∧ i = .int .i64 k ∧ Hid (OwnX wr w.heap.size v (splitC c (x.take k)) ∧ (splitC c (x.take k)).length ≤ k + 1 ∧ Below w.heap.size w wr)) (fun _ i _ => x.length - (intOf i).toNat)
  case atStart =>
    refine ⟨0, Nat.zero_le _, rfl, ?_, by simp [splitC], ((Gr.refl _).alloc _).below⟩
    exact ⟨rfl, .inr ⟨w.heap.size, 1, _, rfl, Nat.le_refl _, heap_alloc_new w _, Nat.le_refl _, by unfold maxLen; omega, rfl, rfl⟩⟩
  case round =>
    rename World => wr0
    obtain ⟨k, hk, rfl, hR⟩ := hrel
    by_cases hlt : k < x.length
    · have hltz : (k : Int) < (x.length : Int) := by omega
      obtain ⟨d, hd⟩ : ∃ d, x[k] = d := ⟨_, rfl⟩
      have htk : Hid (x.take (k + 1) = x.take k ++ [d]) := by show _ = _; rw [List.take_succ_eq_append_getElem hlt, hd]
      have hb0 : ((⟨x.toArray⟩ : ByteArray)[k]'(by simp [ByteArray.size]; omega)) = d := by rw [← hd]; rfl
      by_cases hdc : d = c
      · subst hdc
        obtain ⟨A, cap, hv5, _⟩ := OwnG.full encX_len hR.out.1
        subst hv5
        obtain ⟨W2, hW2⟩ : ∃ W, (wr0.alloc (.cells #[.string ⟨([] : List UInt8).toArray⟩] 9)) = W := ⟨_, rfl⟩
        have hg2 : Gr wr0 W2 := by rw [← hW2]; exact (Gr.refl _).alloc _
        have hrow2 : RowX W2 (some ⟨wr0.heap.size, 0, none⟩) [[]] := by rw [← hW2]; exact rowNewX rfl [] _
        have hX : Hid (OwnX W2 w.heap.size (.slice A (splitC d (x.take k)).length cap) (splitC d (x.take k)) ∧ RowX W2 (some ⟨wr0.heap.size, 0, none⟩) [[]] ∧ (splitC d (x.take k)).length + 1 ≤ maxLen ∧ ((splitC d (x.take k)).length + 1) * 16 ≤ 140737488355328 ∧ Below w.heap.size w W2 ∧ (splitC d (x.take k)).length ≤ k + 1) := ⟨hR.out.1.gr hg2, hrow2, by have := hR.out.2.1; unfold maxLen; omega, by have := hR.out.2.1; omega, hR.out.2.2.trans (hg2.below.mono hR.out.2.2.size), hR.out.2.1⟩
        clear hg2 hrow2 hR
        go_wp2_with (at_builtin; refine wpList_append_x _ rfl (.tmp 19) (.tmp 20) rfl w.heap.size (.slice A (splitC d (x.take k)).length cap) (splitC d (x.take k)) [[]] (some ⟨wr0.heap.size, 0, none⟩) 1 rfl rfl hX.out.1 hX.out.2.1 (fun h => by cases h) hX.out.2.2.1 hX.out.2.2.2.1 hX.out.2.2.2.2.1.size ?_)
        intro v3 w3 hown3 hg3
        clear hW2
        have hfin : Hid (OwnX w3 w.heap.size v3 (splitC d (x.take (k + 1))) ∧ (splitC d (x.take (k + 1))).length ≤ k + 1 + 1 ∧ Below w.heap.size w w3) := by
          refine ⟨by rw [htk.out, splitC_snoc_eq]; exact hown3, by rw [htk.out, splitC_snoc_eq]; have := hX.out.2.2.2.2.2; simp; omega, hX.out.2.2.2.2.1.trans (hX.out.1.grown_below hg3 hX.out.2.2.2.2.1.size)⟩
        clear hown3 hg3
        go_wp2
        go_roundw
        case rel => exact ⟨k + 1, by omega, by go_num, hfin⟩
        case measure => simp [intOf]; omega
      · have hdz : ((d.toNat : Int) == (c.toNat : Int)) = false := by
          have : ¬ (d.toNat : Int) = (c.toNat : Int) := fun e => hdc (UInt8.toNat_inj.1 (by omega))
          simpa using this
        obtain ⟨L, y, s1, s2⟩ := splitC_snoc_ne hdc (x.take k)
        have hR1 := hR.out.1
        rw [s1] at hR1
        have hLl : L.length + 1 ≤ k + 1 := by have := hR.out.2.1; rw [s1] at this; simpa using this
        have hyl : y.length ≤ 70000 := by
          have h1 : Lib.join (splitC c (x.take k)) [c] = x.take k := join_splitC c _
          have h2 : y ∈ splitC c (x.take k) := by rw [s1]; simp
          exact Nat.le_trans (splitC_leP h2) (by rw [List.length_take]; omega)
        obtain ⟨A, cap, hv5, hA0, hrow, _, hfl, _⟩ := OwnG.full encX_len hR1
        obtain ⟨g, off, hAe, _, _⟩ := hrow.at (m := 0) (by simp)
        subst hAe
        obtain rfl : off = 0 := (hfl _ rfl).2.2.1
        have e1 : (L ++ [y]).length = L.length + 1 := by simp
        rw [e1] at hv5
        subst hv5
        have hR2 : OwnX wr0 w.heap.size (.slice (some ⟨g, 0, none⟩) (L.length + 1) cap) (L ++ [y]) := hR1
        obtain ⟨c0, z0⟩ := ownX_cell hR2
        obtain ⟨yb, hyb⟩ : ∃ b : ByteArray, b = ⟨y.toArray⟩ := ⟨_, rfl⟩
        obtain ⟨zb, hzb⟩ : ∃ b : ByteArray, b = ⟨(y ++ [d]).toArray⟩ := ⟨_, rfl⟩
        rw [← hyb] at c0
        have hex : (⟨x.toArray⟩ : ByteArray).extract k (k + 1) = ⟨#[d]⟩ := by
          rw [← hd]
          apply ByteArray.ext
          simp [ByteArray.data_extract]
          exact ext_one hlt
        have ha := addB hzb hyb (rfl : (⟨#[d]⟩ : ByteArray) = ⟨([d] : List UInt8).toArray⟩) (by simp; omega)
        have hfin : Hid (OwnX (wr0.setCell ⟨g, L.length, none⟩ (.string zb)).drew w.heap.size (.slice (some ⟨g, 0, none⟩) (L.length + 1) cap) (splitC c (x.take (k + 1))) ∧ (splitC c (x.take (k + 1))).length ≤ k + 1 + 1 ∧ Below w.heap.size w (wr0.setCell ⟨g, L.length, none⟩ (.string zb)).drew) := by
          have h1 := ownX_last (z := y ++ [d]) hR2
          rw [← hzb] at h1
          have hgg := (hfl _ rfl).1
          refine ⟨by rw [htk.out, s2]; exact h1.gr (Gr.refl _).drew, by rw [htk.out, s2]; simp; omega, ?_⟩
          have hb1 : Below w.heap.size w (wr0.setCell ⟨g, L.length, none⟩ (.string zb)) := hR.out.2.2.setCell (p := ⟨g, L.length, none⟩) hgg _
          exact hb1.trans ((Gr.refl _).drew.below.mono hb1.size)
        have hLz : L.length + 1 ≤ 70000 + 1 := by omega
        clear hR hR1 hR2 hrow hfl hA0 hyb hzb s1 s2 hyl hd e1
        go_wp2_with fail
        go_region
        all_goals
          go_wp2
          go_roundw
          case rel => exact ⟨k + 1, by omega, by go_num, hfin⟩
          case measure => simp [intOf]; omega
    · have hltz : ¬ (k : Int) < (x.length : Int) := by omega
      have hke : x.take k = x := List.take_of_length_le (by omega)
      rw [hke] at hR
      go_wp2
      go_ret
      exact ⟨_, rfl, hR.out.1, hR.out.2.2⟩
end Go.Proofs.YtoodkgmpggabdaaDoor
