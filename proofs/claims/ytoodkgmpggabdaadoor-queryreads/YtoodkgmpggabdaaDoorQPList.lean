/-
  query.parseList: the numbers that a word tells.
-/
import Derived.Test.YtoodkgmpggabdaaDoorQSplit
namespace Go.Proofs.YtoodkgmpggabdaaDoor
open Go.RowKit Go.Sort

theorem numsP_snoc : ∀ {xs : List (List UInt8)} {M : List Int} {y : List UInt8} {n : Int}, numsP xs = some M → numP y = some n → numsP (xs ++ [y]) = some (M ++ [n])
  | [], M, y, n, h, k => by
    obtain rfl := Option.some.inj h
    simp [numsP, k]
  | x :: r, M, y, n, h, k => by
    rw [numsP] at h
    cases e : numP x with
    | none => rw [e] at h; simp at h
    | some a =>
      cases e2 : numsP r with
      | none => rw [e, e2] at h; simp at h
      | some m =>
        rw [e, e2] at h
        obtain rfl := Option.some.inj h
        rw [List.cons_append, numsP, e, numsP_snoc e2 k]
        rfl
theorem numsP_fail : ∀ {xs : List (List UInt8)} {y : List UInt8}, y ∈ xs → numP y = none → numsP xs = none
  | [], y, h, _ => by simp at h
  | x :: r, y, h, k => by
    rw [numsP]
    rcases List.mem_cons.1 h with rfl | h
    · rw [k]
    · rw [numsP_fail h k]
      cases numP x <;> rfl
set_option maxHeartbeats 1000000 in
theorem parseList_any (x : List UInt8) (w : World) (hr : Reads w) (hx : x.length ≤ 100000) : Calls Tryd.prog 28 #[.string ⟨x.toArray⟩] w fun e w' => (∃ v, e = .returned (.tuple #[v, .bool (listP x).isSome]) ∧ OwnI w' w.heap.size v ((listP x).getD [])) ∧ Below w.heap.size w w' := by
  have hsp := split_any x 44 w hr (by omega)
  have hln := splitC_le 44 x
  unfold listP
  obtain ⟨ls, hls⟩ : ∃ ls, splitC 44 x = ls := ⟨_, rfl⟩
  rw [hls] at hsp hln ⊢
  have hspH : Hid _ := hsp
  clear hsp hls
  go_enter Tryd.func28, Tryd.ntmps28
  go_wp2_with fail
  refine Calls.mono (show Calls _ _ _ _ _ from hspH.out) ?_
  rintro e w1 ⟨rfl, hrow, hb⟩
  have hH : Hid (RowX w1 (some ⟨w.heap.size, 0, none⟩) ls ∧ Below w.heap.size w w1 ∧ Reads w1) := ⟨hrow, hb, hr.below hb⟩
  clear hspH hrow hb hr
  go_wp2
  go_loopw [4, 12] (fun v i wr => ∃ j : Nat, j ≤ ls.length ∧ i = .int .i64 j ∧ Hid (∃ M, numsP (ls.take j) = some M ∧ M.length = j ∧ OwnI wr w1.heap.size v M ∧ Below w1.heap.size w1 wr)) (fun _ i _ => ls.length - (intOf i).toNat)
  case atStart => exact ⟨0, Nat.zero_le _, rfl, [], rfl, rfl, OwnG.nil _ _ _ _ _, Below.refl _ _⟩
  case round =>
    obtain ⟨j, hj, rfl, hov⟩ := hrel
    obtain ⟨M, hM, hMl, hown, hbl⟩ := hov.out
    clear hov
    by_cases hlt : j < ls.length
    · have hltz : (j : Int) < (ls.length : Int) := by omega
      obtain ⟨b, off, hA, _, hcs⟩ := (hH.out.1.below hbl).at hlt
      obtain ⟨y, hy⟩ : ∃ y, ls[j] = y := ⟨_, rfl⟩
      have e0 := hcs j hlt 0 (by omega)
      rw [hy] at e0
      simp only [Option.some.injEq, Addr.mk.injEq, and_true] at hA
      obtain ⟨rfl, rfl⟩ := hA
      have e1 : wr.cell? ⟨w.heap.size, j, none⟩ = some (.string ⟨y.toArray⟩) := by simpa [encX] using e0
      have hpn := parseNumber_any y wr (hH.out.2.2.below hbl)
      clear hcs e0
      cases hq : numP y with
      | none =>
        rw [hq] at hpn
        have hpnH : Hid _ := hpn
        have hfin : Hid (numsP ls = none ∧ Below w.heap.size w wr) := ⟨numsP_fail (by rw [← hy]; exact List.getElem_mem hlt) hq, hH.out.2.1.trans (hbl.mono hH.out.2.1.size)⟩
        clear hpn hM hown hbl hq hy
        go_wp2_with fail
        refine Calls.mono (show Calls _ _ _ _ _ from hpnH.out) ?_
        rintro e w2 ⟨rfl, hb2⟩
        have hfin2 : Hid (numsP ls = none ∧ Below w.heap.size w w2) := ⟨hfin.out.1, hfin.out.2.trans (hb2.mono hfin.out.2.size)⟩
        clear hpnH hfin hb2
        go_wp2
        go_ret2
        refine ⟨⟨.slice none 0 0, ?_, ?_⟩, hfin2.out.2⟩
        · rw [hfin2.out.1]; rfl
        · rw [hfin2.out.1]; exact OwnG.nil _ _ _ _ _
      | some n =>
        rw [hq] at hpn
        have hpnH : Hid _ := hpn
        have hst : Hid (numsP (ls.take (j + 1)) = some (M ++ [n]) ∧ (M ++ [n]).length = j + 1) := ⟨by rw [List.take_succ_eq_append_getElem hlt, hy]; exact numsP_snoc hM hq, by simp [hMl]⟩
        have hoH : Hid (OwnI wr w1.heap.size u4 M ∧ Below w1.heap.size w1 wr) := ⟨hown, hbl⟩
        clear hpn hM hown hbl hq hy
        go_wp2_with fail
        refine Calls.mono (show Calls _ _ _ _ _ from hpnH.out) ?_
        rintro e w2 ⟨rfl, hb2⟩
        clear hpnH
        have hg2 : Gr w2 (w2.alloc (.cells #[.int .i64 n] 3)) := (Gr.refl _).alloc _
        have hoX : Hid (OwnI (w2.alloc (.cells #[.int .i64 n] 3)) w1.heap.size u4 M ∧ RowI (w2.alloc (.cells #[.int .i64 n] 3)) (some ⟨w2.heap.size, 0, none⟩) [n] ∧ M.length + 1 ≤ maxLen ∧ (M.length + 1) * 8 ≤ 140737488355328 ∧ Below w1.heap.size w1 (w2.alloc (.cells #[.int .i64 n] 3))) := ⟨(hoH.out.1.below hb2).gr hg2, rowNewI rfl n 3, by unfold maxLen; omega, by omega, (hoH.out.2.trans (hb2.mono hoH.out.2.size)).trans (hg2.below.mono (hoH.out.2.trans (hb2.mono hoH.out.2.size)).size)⟩
        clear hg2 hb2 hoH
        go_wp2_with (at_builtin; refine wpList_append_i _ rfl _ _ rfl w1.heap.size u4 M [n] (some ⟨w2.heap.size, 0, none⟩) 1 rfl rfl hoX.out.1 hoX.out.2.1 (fun h => by cases h) hoX.out.2.2.1 hoX.out.2.2.2.1 hoX.out.2.2.2.2.size ?_; intro v7 w7 hown7 hg7)
        have hfin7 : Hid (OwnI w7 w1.heap.size v7 (M ++ [n]) ∧ Below w1.heap.size w1 w7) := ⟨hown7, hoX.out.2.2.2.2.trans (OwnG.grown_below hoX.out.1 hg7 hoX.out.2.2.2.2.size)⟩
        clear hown7 hg7 hoX
        go_roundw
        case rel => exact ⟨j + 1, by omega, by go_num, _, hst.out.1, hst.out.2, hfin7.out.1, hfin7.out.2⟩
        case measure => simp [intOf]; omega
    · have hltz : ¬ (j : Int) < (ls.length : Int) := by omega
      rw [List.take_of_length_le (by omega)] at hM
      have hfin : Hid (numsP ls = some M ∧ OwnI wr w.heap.size u4 M ∧ Below w.heap.size w wr) := ⟨hM, hown.mono hH.out.2.1.size, hH.out.2.1.trans (hbl.mono hH.out.2.1.size)⟩
      clear hM hown hbl
      go_wp2
      go_ret2
      refine ⟨⟨u4, ?_, ?_⟩, hfin.out.2.2⟩
      · rw [hfin.out.1]; rfl
      · rw [hfin.out.1]; exact hfin.out.2.1
end Go.Proofs.YtoodkgmpggabdaaDoor
