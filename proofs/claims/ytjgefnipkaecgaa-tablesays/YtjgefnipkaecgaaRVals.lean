/-
  viewref.Values and viewref.Keys: the values and the keys of a table's cells, as the document says them.
-/
import Derived.Test.YtjgefnipkaecgaaROnce
namespace Go.Proofs.Ytjgefnipkaecgaa
open Go.RowKit Go.Sort Go.Shelf Go.Lib

set_option maxRecDepth 100000 in
set_option maxHeartbeats 1000000 in
theorem rvalues_any (t : Tab) (A : Option Addr) (ca : Nat) (D : Option Addr) (cd : Nat) (key col : Int) (w : World) (hsz : t.e.length * 40 ≤ 140737488355328) (hr : Row w A t.c.l) (hd : RowC w D t.e) :
    Calls Try.prog 36 #[.agg #[.int .i64 t.c.c0, .int .i64 t.c.c1, .int .i64 t.c.c2, .int .i64 t.c.c3, .slice A t.c.l.length ca, .slice D t.e.length cd], .int .i64 key, .int .i64 col] w fun e w' => ∃ C cp, e = .returned (.slice C (onceL (valsOf key col t.e)).length cp) ∧ RowI w' C (onceL (valsOf key col t.e)) ∧ Below w.heap.size w w' := by
  have ht0 : TabAt (w.alloc (.cells #[.int .i64 t.c.c0, .int .i64 t.c.c1, .int .i64 t.c.c2, .int .i64 t.c.c3, .slice A t.c.l.length ca, .slice D t.e.length cd] 51)) w.heap.size t A ca D cd := TabAt.new 51 hr hd rfl
  have hbw0 : Below w.heap.size w (w.alloc (.cells #[.int .i64 t.c.c0, .int .i64 t.c.c1, .int .i64 t.c.c2, .int .i64 t.c.c3, .slice A t.c.l.length ca, .slice D t.e.length cd] 51)) := ((Gr.refl w).alloc _).below
  have k5 := ht0.k5
  go_enter Try.func36, Try.ntmps36
  go_wp2
  generalize w.alloc (.cells #[.int .i64 t.c.c0, .int .i64 t.c.c1, .int .i64 t.c.c2, .int .i64 t.c.c3, .slice A t.c.l.length ca, .slice D t.e.length cd] 51) = w0 at ht0 hbw0 k5 ⊢
  clear k5
  go_loopw [7, 8] (fun v i wr => ∃ k : Nat, k ≤ t.e.length ∧ i = .int .i64 k ∧ OwnI wr w0.heap.size v (valsOf key col (t.e.take k)) ∧ Below w0.heap.size w0 wr) (fun _ i _ => t.e.length - (intOf i).toNat)
  case atStart => exact ⟨0, by omega, rfl, OwnG.nil _ _ _ _ _, Below.refl _ _⟩
  case round =>
    obtain ⟨k, hk, rfl, hov, hbel⟩ := hrel
    obtain ⟨A1, cap1, rfl, hA1, hrow1, hlt1⟩ := OwnG.row encI_len hov
    have htR := ht0.below hbel
    have r5 := htR.k5
    have hsR : w0.heap.size ≤ wr.heap.size := hbel.size
    by_cases hlt : k < t.e.length
    · have hltz : (k : Int) < (t.e.length : Int) := by omega
      obtain ⟨bb, off, rfl, hb, hcs⟩ := RowC.get htR.rowC hlt
      obtain ⟨x, hx⟩ : ∃ x, t.e[k] = x := ⟨_, rfl⟩
      obtain ⟨e0, e1, e2, e3, e4⟩ := hcs k hlt
      rw [hx] at e0 e1 e2 e3 e4
      have hst := valsOf_take (key := key) (col := col) hlt hx
      clear hcs hx
      obtain ⟨M, HM⟩ : ∃ M, valsOf key col (t.e.take k) = M := ⟨_, rfl⟩
      have hMl : M.length ≤ t.e.length := by rw [← HM]; exact Nat.le_trans (valsOf_len _ _ _) (by rw [List.length_take]; omega)
      rw [HM] at hov hst hrow1 ⊢
      clear HM
      have hovH : Hid (OwnI wr w0.heap.size (.slice A1 M.length cap1) M) := hov
      have hbelH : Hid (Below w0.heap.size w0 wr) := hbel
      have hgX : Gr wr wr := Gr.refl _
      clear hov hbel hrow1
      by_cases hq : x.2.1 = key
      · have hqb : (x.2.1 == key) = true := by simpa using hq
        by_cases hq2 : x.2.2.1 = col
        · have hqb2 : (x.2.2.1 == col) = true := by simpa using hq2
          have hst2 : Hid (valsOf key col (t.e.take (k + 1)) = M ++ [x.2.2.2]) := by show _ = _; rw [hst, if_pos (by simp [fitP, hq, hq2])]
          have hbd : Hid (M.length + [x.2.2.2].length ≤ maxLen ∧ (M.length + [x.2.2.2].length) * 8 ≤ 140737488355328) := by show _ ∧ _; unfold maxLen; simp only [List.length_cons, List.length_nil]; omega
          clear hst hq hq2
          go_wp2_with (at_builtin; refine wpList_append_i _ rfl _ _ rfl w0.heap.size (.slice A1 M.length cap1) M [x.2.2.2] (some ⟨wr.heap.size, 0, none⟩) 1 rfl rfl ?ho ?hr (fun h => by cases h) hbd.out.1 hbd.out.2 ?hs ?_)
          case ho => exact hovH.out.gr (hgX.alloc _)
          case hr => exact rowNewI rfl _ _
          case hs => simp; omega
          intro v1 w3 hown1 hgr1
          have hb3 : Hid (Below w0.heap.size w0 w3) := hbelH.out.trans (((hgX.alloc _).below.mono hsR).trans (OwnG.grown_below (hovH.out.gr (hgX.alloc _)) hgr1 (by simp; omega)))
          have hownH : Hid (OwnI w3 w0.heap.size v1 (M ++ [x.2.2.2])) := hown1
          clear hown1 hgr1
          go_wp2
          go_roundw
          case rel => exact ⟨k + 1, by omega, by go_num, by rw [hst2.out]; exact hownH.out, hb3.out⟩
          case measure => simp [intOf]; omega
        · have hqb2 : (x.2.2.1 == col) = false := by simpa using hq2
          have hst2 : Hid (valsOf key col (t.e.take (k + 1)) = M) := by show _ = _; rw [hst, if_neg (by simp [fitP, hq2])]; simp
          clear hst hq hq2
          go_wp2
          go_roundw
          case rel => exact ⟨k + 1, by omega, by go_num, by rw [hst2.out]; exact hovH.out.gr hgX, hbelH.out.trans (hgX.below.mono hsR)⟩
          case measure => simp [intOf]; omega
      · have hqb : (x.2.1 == key) = false := by simpa using hq
        have hst2 : Hid (valsOf key col (t.e.take (k + 1)) = M) := by show _ = _; rw [hst, if_neg (by simp [fitP, hq])]; simp
        clear hst hq
        go_wp2
        go_roundw
        case rel => exact ⟨k + 1, by omega, by go_num, by rw [hst2.out]; exact hovH.out.gr hgX, hbelH.out.trans (hgX.below.mono hsR)⟩
        case measure => simp [intOf]; omega
    · have hltz : ¬ (k : Int) < (t.e.length : Int) := by omega
      have hke : t.e.take k = t.e := List.take_of_length_le (by omega)
      rw [hke] at hov hrow1 ⊢
      clear hke
      have hMl : (valsOf key col t.e).length ≤ t.e.length := valsOf_len _ _ _
      obtain ⟨M, HM⟩ : ∃ M, valsOf key col t.e = M := ⟨_, rfl⟩
      rw [HM] at hov hrow1 hMl ⊢
      have HMH : Hid (valsOf key col t.e = M) := HM
      clear HM
      have hro := once_any M A1 cap1 wr hrow1 hA1 (by omega)
      have hroH : Hid _ := hro
      have hbwR : Below w.heap.size w wr := hbw0.trans (hbel.mono hbw0.size)
      have hbs := hbw0.size
      clear hro hov hrow1
      go_wp2_with fail
      refine Calls.mono (show Calls _ _ _ _ _ from hroH.out) ?_
      rintro e w2 ⟨C, cp, rfl, hr2, hb2⟩
      clear hroH
      go_wp2
      go_ret
      rw [HMH.out]
      exact ⟨C, cp, rfl, hr2, hbwR.trans (hb2.mono hbwR.size)⟩

set_option maxRecDepth 100000 in
set_option maxHeartbeats 1000000 in
theorem rkeys_any (t : Tab) (A : Option Addr) (ca : Nat) (D : Option Addr) (cd : Nat) (w : World) (hsz : t.e.length * 40 ≤ 140737488355328) (hr : Row w A t.c.l) (hd : RowC w D t.e) :
    Calls Try.prog 38 #[.agg #[.int .i64 t.c.c0, .int .i64 t.c.c1, .int .i64 t.c.c2, .int .i64 t.c.c3, .slice A t.c.l.length ca, .slice D t.e.length cd]] w fun e w' => ∃ C cp, e = .returned (.slice C (onceL (keysOf t.e)).length cp) ∧ RowI w' C (onceL (keysOf t.e)) ∧ Below w.heap.size w w' := by
  have ht0 : TabAt (w.alloc (.cells #[.int .i64 t.c.c0, .int .i64 t.c.c1, .int .i64 t.c.c2, .int .i64 t.c.c3, .slice A t.c.l.length ca, .slice D t.e.length cd] 51)) w.heap.size t A ca D cd := TabAt.new 51 hr hd rfl
  have hbw0 : Below w.heap.size w (w.alloc (.cells #[.int .i64 t.c.c0, .int .i64 t.c.c1, .int .i64 t.c.c2, .int .i64 t.c.c3, .slice A t.c.l.length ca, .slice D t.e.length cd] 51)) := ((Gr.refl w).alloc _).below
  have k5 := ht0.k5
  go_enter Try.func38, Try.ntmps38
  go_wp2
  generalize w.alloc (.cells #[.int .i64 t.c.c0, .int .i64 t.c.c1, .int .i64 t.c.c2, .int .i64 t.c.c3, .slice A t.c.l.length ca, .slice D t.e.length cd] 51) = w0 at ht0 hbw0 k5 ⊢
  clear k5
  go_loopw [3, 4] (fun v i wr => ∃ k : Nat, k ≤ t.e.length ∧ i = .int .i64 k ∧ OwnI wr w0.heap.size v (keysOf (t.e.take k)) ∧ Below w0.heap.size w0 wr) (fun _ i _ => t.e.length - (intOf i).toNat)
  case atStart => exact ⟨0, by omega, rfl, OwnG.nil _ _ _ _ _, Below.refl _ _⟩
  case round =>
    obtain ⟨k, hk, rfl, hov, hbel⟩ := hrel
    obtain ⟨A1, cap1, rfl, hA1, hrow1, hlt1⟩ := OwnG.row encI_len hov
    have htR := ht0.below hbel
    have r5 := htR.k5
    have hsR : w0.heap.size ≤ wr.heap.size := hbel.size
    by_cases hlt : k < t.e.length
    · have hltz : (k : Int) < (t.e.length : Int) := by omega
      obtain ⟨bb, off, rfl, hb, hcs⟩ := RowC.get htR.rowC hlt
      obtain ⟨x, hx⟩ : ∃ x, t.e[k] = x := ⟨_, rfl⟩
      obtain ⟨e0, e1, e2, e3, e4⟩ := hcs k hlt
      rw [hx] at e0 e1 e2 e3 e4
      have hst := keysOf_take hlt hx
      clear hcs hx
      obtain ⟨M, HM⟩ : ∃ M, keysOf (t.e.take k) = M := ⟨_, rfl⟩
      have hMl : M.length ≤ t.e.length := by rw [← HM]; exact Nat.le_trans (keysOf_len _) (by rw [List.length_take]; omega)
      rw [HM] at hov hst hrow1 ⊢
      clear HM
      have hovH : Hid (OwnI wr w0.heap.size (.slice A1 M.length cap1) M) := hov
      have hbelH : Hid (Below w0.heap.size w0 wr) := hbel
      have hgX : Gr wr wr := Gr.refl _
      clear hov hbel hrow1
      have hst2 : Hid (keysOf (t.e.take (k + 1)) = M ++ [x.2.1]) := by show _ = _; rw [hst]
      have hbd : Hid (M.length + [x.2.1].length ≤ maxLen ∧ (M.length + [x.2.1].length) * 8 ≤ 140737488355328) := by show _ ∧ _; unfold maxLen; simp only [List.length_cons, List.length_nil]; omega
      clear hst
      go_wp2_with (at_builtin; refine wpList_append_i _ rfl _ _ rfl w0.heap.size (.slice A1 M.length cap1) M [x.2.1] (some ⟨wr.heap.size, 0, none⟩) 1 rfl rfl ?ho ?hr (fun h => by cases h) hbd.out.1 hbd.out.2 ?hs ?_)
      case ho => exact hovH.out.gr (hgX.alloc _)
      case hr => exact rowNewI rfl _ _
      case hs => simp; omega
      intro v1 w3 hown1 hgr1
      have hb3 : Hid (Below w0.heap.size w0 w3) := hbelH.out.trans (((hgX.alloc _).below.mono hsR).trans (OwnG.grown_below (hovH.out.gr (hgX.alloc _)) hgr1 (by simp; omega)))
      have hownH : Hid (OwnI w3 w0.heap.size v1 (M ++ [x.2.1])) := hown1
      clear hown1 hgr1
      go_wp2
      go_roundw
      case rel => exact ⟨k + 1, by omega, by go_num, by rw [hst2.out]; exact hownH.out, hb3.out⟩
      case measure => simp [intOf]; omega
    · have hltz : ¬ (k : Int) < (t.e.length : Int) := by omega
      have hke : t.e.take k = t.e := List.take_of_length_le (by omega)
      rw [hke] at hov hrow1 ⊢
      clear hke
      have hMl : (keysOf t.e).length ≤ t.e.length := keysOf_len _
      obtain ⟨M, HM⟩ : ∃ M, keysOf t.e = M := ⟨_, rfl⟩
      rw [HM] at hov hrow1 hMl ⊢
      have HMH : Hid (keysOf t.e = M) := HM
      clear HM
      have hro := once_any M A1 cap1 wr hrow1 hA1 (by omega)
      have hroH : Hid _ := hro
      have hbwR : Below w.heap.size w wr := hbw0.trans (hbel.mono hbw0.size)
      have hbs := hbw0.size
      clear hro hov hrow1
      go_wp2_with fail
      refine Calls.mono (show Calls _ _ _ _ _ from hroH.out) ?_
      rintro e w2 ⟨C, cp, rfl, hr2, hb2⟩
      clear hroH
      go_wp2
      go_ret
      rw [HMH.out]
      exact ⟨C, cp, rfl, hr2, hbwR.trans (hb2.mono hbwR.size)⟩

end Go.Proofs.Ytjgefnipkaecgaa
