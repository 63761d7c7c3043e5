/-
  The law WireSays, walked: it answers true whatever is handed in (gens/mkwsays.py writes it).
-/
import Derived.Test.YtbhhpijidbhipaaWEnc
namespace Go.Proofs.Ytbhhpijidbhipaa
open Go.RowKit Go.Sort

set_option maxRecDepth 100000 in
set_option maxHeartbeats 4000000 in
theorem wireSays_any (n : Int) (x : List UInt8) (a b : Tab) (A C : Option Addr) (ca cc : Nat) (B D : Option Addr) (cb cd : Nat) (w : World) (hx : x.length ≤ maxLen) (hal : a.c.l.length ≤ maxLen) (hael : a.e.length ≤ maxLen) (hbl : b.c.l.length ≤ maxLen) (hbel : b.e.length ≤ maxLen) (hra : Row w A a.c.l) (hda : RowC w C a.e) (hrb : Row w B b.c.l) (hdb : RowC w D b.e) :
    Calls Try.prog 3 #[.int .i64 n, .string ⟨x.toArray⟩, .agg #[.int .i64 a.c.c0, .int .i64 a.c.c1, .int .i64 a.c.c2, .int .i64 a.c.c3, .slice A a.c.l.length ca, .slice C a.e.length cc, .int .i64 b.c.c0, .int .i64 b.c.c1, .int .i64 b.c.c2, .int .i64 b.c.c3, .slice B b.c.l.length cb, .slice D b.e.length cd]] w fun e w' => e = .returned (.bool true) ∧ Below w.heap.size w w' := by
  obtain ⟨W1, hW1⟩ : ∃ W1, w.alloc (.cells #[.int .i64 a.c.c0, .int .i64 a.c.c1, .int .i64 a.c.c2, .int .i64 a.c.c3, .slice A a.c.l.length ca, .slice C a.e.length cc, .int .i64 b.c.c0, .int .i64 b.c.c1, .int .i64 b.c.c2, .int .i64 b.c.c3, .slice B b.c.l.length cb, .slice D b.e.length cd] 31) = W1 := ⟨_, rfl⟩
  have hg1 : Gr w W1 := by rw [← hW1]; exact (Gr.refl _).alloc _
  obtain ⟨BP, hBP⟩ : ∃ BP, w.heap.size = BP := ⟨_, rfl⟩
  have hlt1 : BP < W1.heap.size := by rw [← hW1, ← hBP]; simp
  have c0 : W1.cell? ⟨BP, 0, none⟩ = some (.int .i64 a.c.c0) := by rw [← hW1, ← hBP]; exact box1 (w := w) (Gr.refl _) rfl
  have c1 : W1.cell? ⟨BP, 1, none⟩ = some (.int .i64 a.c.c1) := by rw [← hW1, ← hBP]; exact box1 (w := w) (Gr.refl _) rfl
  have c2 : W1.cell? ⟨BP, 2, none⟩ = some (.int .i64 a.c.c2) := by rw [← hW1, ← hBP]; exact box1 (w := w) (Gr.refl _) rfl
  have c3 : W1.cell? ⟨BP, 3, none⟩ = some (.int .i64 a.c.c3) := by rw [← hW1, ← hBP]; exact box1 (w := w) (Gr.refl _) rfl
  have c4 : W1.cell? ⟨BP, 4, none⟩ = some (.slice A a.c.l.length ca) := by rw [← hW1, ← hBP]; exact box1 (w := w) (Gr.refl _) rfl
  have c5 : W1.cell? ⟨BP, 5, none⟩ = some (.slice C a.e.length cc) := by rw [← hW1, ← hBP]; exact box1 (w := w) (Gr.refl _) rfl
  have c6 : W1.cell? ⟨BP, 6, none⟩ = some (.int .i64 b.c.c0) := by rw [← hW1, ← hBP]; exact box1 (w := w) (Gr.refl _) rfl
  have c7 : W1.cell? ⟨BP, 7, none⟩ = some (.int .i64 b.c.c1) := by rw [← hW1, ← hBP]; exact box1 (w := w) (Gr.refl _) rfl
  have c8 : W1.cell? ⟨BP, 8, none⟩ = some (.int .i64 b.c.c2) := by rw [← hW1, ← hBP]; exact box1 (w := w) (Gr.refl _) rfl
  have c9 : W1.cell? ⟨BP, 9, none⟩ = some (.int .i64 b.c.c3) := by rw [← hW1, ← hBP]; exact box1 (w := w) (Gr.refl _) rfl
  have c10 : W1.cell? ⟨BP, 10, none⟩ = some (.slice B b.c.l.length cb) := by rw [← hW1, ← hBP]; exact box1 (w := w) (Gr.refl _) rfl
  have c11 : W1.cell? ⟨BP, 11, none⟩ = some (.slice D b.e.length cd) := by rw [← hW1, ← hBP]; exact box1 (w := w) (Gr.refl _) rfl
  have hNum : Hid (∀ W, Calls Try.prog 9 #[.int .i64 n] W fun e w' => e = .returned (.string ⟨(numL n).toArray⟩) ∧ Below W.heap.size W w') := fun W => number_any n W
  have hRNum : Hid (∀ W, Calls Try.prog 10 #[.int .i64 n] W fun e w' => e = .returned (.string ⟨(numL n).toArray⟩) ∧ Gr W w') := fun W => rnumber_any n W
  have hSum : Hid (∀ W, Calls Try.prog 11 #[.string ⟨x.toArray⟩] W fun e w' => e = .returned (.int .u32 (sumL x)) ∧ w' = W) := fun W => sum_any x W hx
  have hRSum : Hid (∀ W, Calls Try.prog 12 #[.string ⟨x.toArray⟩] W fun e w' => e = .returned (.int .u32 (sumL x)) ∧ w' = W) := fun W => rsum_any x W hx
  have hTa : Hid (∀ W, Gr w W → Calls Try.prog 6 #[.agg #[.int .i64 a.c.c0, .int .i64 a.c.c1, .int .i64 a.c.c2, .int .i64 a.c.c3, .slice A a.c.l.length ca, .slice C a.e.length cc]] W fun e w' => e = .returned (.int .i64 (errT a)) ∧ Gr W w') := fun W h => rtable_any a A ca C cc W hal hael (hra.gr h) (hda.gr h)
  have hTb : Hid (∀ W, Gr w W → Calls Try.prog 6 #[.agg #[.int .i64 b.c.c0, .int .i64 b.c.c1, .int .i64 b.c.c2, .int .i64 b.c.c3, .slice B b.c.l.length cb, .slice D b.e.length cd]] W fun e w' => e = .returned (.int .i64 (errT b)) ∧ Gr W w') := fun W h => rtable_any b B cb D cd W hbl hbel (hrb.gr h) (hdb.gr h)
  have hEnc : Hid (∀ W, Below w.heap.size w W → Calls Try.prog 8 #[.agg #[.int .i64 a.c.c0, .int .i64 a.c.c1, .int .i64 a.c.c2, .int .i64 a.c.c3, .slice A a.c.l.length ca, .slice C a.e.length cc, .int .i64 b.c.c0, .int .i64 b.c.c1, .int .i64 b.c.c2, .int .i64 b.c.c3, .slice B b.c.l.length cb, .slice D b.e.length cd]] W fun e w' => e = .returned (.tuple #[.string ⟨(encR a b).toArray⟩, .int .i64 (errP a b)]) ∧ Below W.heap.size W w') := fun W h => encode_any a b A C ca cc B D cb cd W hal hael hbl hbel (hra.below h) (hda.below h) (hrb.below h) (hdb.below h)
  have hCod : Hid (errT a = 0 → errT b = 0 → ∀ W, Gr w W → Calls Try.prog 7 #[.agg #[.int .i64 a.c.c0, .int .i64 a.c.c1, .int .i64 a.c.c2, .int .i64 a.c.c3, .slice A a.c.l.length ca, .slice C a.e.length cc, .int .i64 b.c.c0, .int .i64 b.c.c1, .int .i64 b.c.c2, .int .i64 b.c.c3, .slice B b.c.l.length cb, .slice D b.e.length cd]] W fun e w' => e = .returned (.string ⟨(encR a b).toArray⟩) ∧ Gr W w') := fun h1 h2 W h => by
    have he : encR a b = encP a b := by unfold encR; rw [if_pos (show errP a b = 0 by unfold errP; rw [if_neg (by simp [h1]), h2])]
    rw [he]
    exact rcoded_any a b A C ca cc B D cb cd W (errT_small h1).1 (errT_small h1).2 (errT_small h2).1 (errT_small h2).2 (hra.gr h) (hda.gr h) (hrb.gr h) (hdb.gr h)
  have hP : Hid (errP a b = if errT a ≠ 0 then errT a else errT b) := rfl
  have hRn : Hid (errP a b ≠ 0 → encR a b = []) := fun h => by unfold encR; rw [if_neg h]
  obtain ⟨EA, hEA⟩ : ∃ E, errT a = E := ⟨_, rfl⟩
  obtain ⟨EB, hEB⟩ : ∃ E, errT b = E := ⟨_, rfl⟩
  obtain ⟨EP, hEP⟩ : ∃ E, errP a b = E := ⟨_, rfl⟩
  obtain ⟨RP, hRP⟩ : ∃ E, encR a b = E := ⟨_, rfl⟩
  obtain ⟨NL, hNL⟩ : ∃ E : ByteArray, ⟨(numL n).toArray⟩ = E := ⟨_, rfl⟩
  obtain ⟨SL, hSL⟩ : ∃ E, sumL x = E := ⟨_, rfl⟩
  rw [hEA] at hTa hP hCod
  rw [hEB] at hTb hP hCod
  rw [hEP] at hP hEnc hRn
  rw [hRP] at hEnc hCod hRn
  rw [hNL] at hNum hRNum
  rw [hSL] at hSum hRSum
  clear hEA hEB hEP hRP hNL hSL hal hael hbl hbel hra hda hrb hdb hx
  go_enter Try.func3, Try.ntmps3
  go_wp2_with fail
  refine Calls.mono (show Calls _ _ _ _ _ from hTa.out _ hg1) ?_
  rintro e w2 ⟨rfl, hg2⟩
  have hgw2 : Gr w w2 := hg1.trans hg2
  have d0 := (hg2.cell (p := ⟨BP, 0, none⟩) hlt1).trans c0
  have d1 := (hg2.cell (p := ⟨BP, 1, none⟩) hlt1).trans c1
  have d2 := (hg2.cell (p := ⟨BP, 2, none⟩) hlt1).trans c2
  have d3 := (hg2.cell (p := ⟨BP, 3, none⟩) hlt1).trans c3
  have d4 := (hg2.cell (p := ⟨BP, 4, none⟩) hlt1).trans c4
  have d5 := (hg2.cell (p := ⟨BP, 5, none⟩) hlt1).trans c5
  have d6 := (hg2.cell (p := ⟨BP, 6, none⟩) hlt1).trans c6
  have d7 := (hg2.cell (p := ⟨BP, 7, none⟩) hlt1).trans c7
  have d8 := (hg2.cell (p := ⟨BP, 8, none⟩) hlt1).trans c8
  have d9 := (hg2.cell (p := ⟨BP, 9, none⟩) hlt1).trans c9
  have d10 := (hg2.cell (p := ⟨BP, 10, none⟩) hlt1).trans c10
  have d11 := (hg2.cell (p := ⟨BP, 11, none⟩) hlt1).trans c11
  have hlt2 : BP < w2.heap.size := Nat.lt_of_lt_of_le hlt1 hg2.size
  clear c0 c1 c2 c3 c4 c5 c6 c7 c8 c9 c10 c11 hW1 hTa hg1 hg2 hlt1
  by_cases h1 : EA = 0
  · subst h1
    have hPb : Hid (EP = EB) := by show _ = _; rw [hP.out, if_neg (by simp)]
    clear hP
    go_wp2_with fail
    refine Calls.mono (show Calls _ _ _ _ _ from hTb.out _ hgw2) ?_
    rintro e w3 ⟨rfl, hg3⟩
    have hgw3 : Gr w w3 := hgw2.trans hg3
    have e0 := (hg3.cell (p := ⟨BP, 0, none⟩) hlt2).trans d0
    have e1 := (hg3.cell (p := ⟨BP, 1, none⟩) hlt2).trans d1
    have e2 := (hg3.cell (p := ⟨BP, 2, none⟩) hlt2).trans d2
    have e3 := (hg3.cell (p := ⟨BP, 3, none⟩) hlt2).trans d3
    have e4 := (hg3.cell (p := ⟨BP, 4, none⟩) hlt2).trans d4
    have e5 := (hg3.cell (p := ⟨BP, 5, none⟩) hlt2).trans d5
    have e6 := (hg3.cell (p := ⟨BP, 6, none⟩) hlt2).trans d6
    have e7 := (hg3.cell (p := ⟨BP, 7, none⟩) hlt2).trans d7
    have e8 := (hg3.cell (p := ⟨BP, 8, none⟩) hlt2).trans d8
    have e9 := (hg3.cell (p := ⟨BP, 9, none⟩) hlt2).trans d9
    have e10 := (hg3.cell (p := ⟨BP, 10, none⟩) hlt2).trans d10
    have e11 := (hg3.cell (p := ⟨BP, 11, none⟩) hlt2).trans d11
    have hlt3 : BP < w3.heap.size := Nat.lt_of_lt_of_le hlt2 hg3.size
    clear d0 d1 d2 d3 d4 d5 d6 d7 d8 d9 d10 d11 hTb hg3 hgw2
    rw [hPb.out] at hEnc hRn
    clear hPb
    by_cases h2 : EB = 0
    · subst h2
      have hCC : Hid (∀ W, Gr w W → Calls Try.prog 7 #[.agg #[.int .i64 a.c.c0, .int .i64 a.c.c1, .int .i64 a.c.c2, .int .i64 a.c.c3, .slice A a.c.l.length ca, .slice C a.e.length cc, .int .i64 b.c.c0, .int .i64 b.c.c1, .int .i64 b.c.c2, .int .i64 b.c.c3, .slice B b.c.l.length cb, .slice D b.e.length cd]] W fun e w' => e = .returned (.string ⟨RP.toArray⟩) ∧ Gr W w') := hCod.out trivial rfl
      clear hCod hRn
      go_wp2_with fail
      refine Calls.mono (show Calls _ _ _ _ _ from hCC.out _ hgw3) ?_
      rintro e w4 ⟨rfl, hg4⟩
      have hb4 := (hgw3.trans hg4).below
      have f0 := (hg4.cell (p := ⟨BP, 0, none⟩) hlt3).trans e0
      have f1 := (hg4.cell (p := ⟨BP, 1, none⟩) hlt3).trans e1
      have f2 := (hg4.cell (p := ⟨BP, 2, none⟩) hlt3).trans e2
      have f3 := (hg4.cell (p := ⟨BP, 3, none⟩) hlt3).trans e3
      have f4 := (hg4.cell (p := ⟨BP, 4, none⟩) hlt3).trans e4
      have f5 := (hg4.cell (p := ⟨BP, 5, none⟩) hlt3).trans e5
      have f6 := (hg4.cell (p := ⟨BP, 6, none⟩) hlt3).trans e6
      have f7 := (hg4.cell (p := ⟨BP, 7, none⟩) hlt3).trans e7
      have f8 := (hg4.cell (p := ⟨BP, 8, none⟩) hlt3).trans e8
      have f9 := (hg4.cell (p := ⟨BP, 9, none⟩) hlt3).trans e9
      have f10 := (hg4.cell (p := ⟨BP, 10, none⟩) hlt3).trans e10
      have f11 := (hg4.cell (p := ⟨BP, 11, none⟩) hlt3).trans e11
      clear e0 e1 e2 e3 e4 e5 e6 e7 e8 e9 e10 e11 hCC hg4 hgw3
      go_wp2_with fail
      refine Calls.mono (show Calls _ _ _ _ _ from hEnc.out _ hb4) ?_
      rintro e w5 ⟨rfl, hb5⟩
      have hbF : Hid (Below w.heap.size w w5) := hb4.trans (hb5.mono hb4.size)
      clear hb5
      go_wp2_with (first
        | (go_at_call 9; refine Calls.mono (show Calls _ _ _ _ _ from hNum.out _) ?_; rintro e w6 ⟨rfl, hb6⟩; have hb6 : Hid (Below w.heap.size w w6) := hbF.out.trans (hb6.mono hbF.out.size))
        | (go_at_call 10; refine Calls.mono (show Calls _ _ _ _ _ from hRNum.out _) ?_; rintro e w7 ⟨rfl, hg7⟩; have hb7 : Hid (Below w.heap.size w w7) := hb6.out.trans (hg7.below.mono hb6.out.size))
        | (go_at_call 11; refine Calls.mono (show Calls _ _ _ _ _ from hSum.out _) ?_; rintro e w8 ⟨rfl, hw8⟩; subst w8)
        | (go_at_call 12; refine Calls.mono (show Calls _ _ _ _ _ from hRSum.out _) ?_; rintro e w9 ⟨rfl, hw9⟩; subst w9))
      go_ret
      exact ⟨by simp, hb7.out⟩
    · have h2b : (EB == 0) = false := by simpa using h2
      have hRe := hRn.out h2
      subst hRe
      have hb4 := hgw3.below
      clear hCod hRn hgw3
      go_wp2_with fail
      refine Calls.mono (show Calls _ _ _ _ _ from hEnc.out _ hb4) ?_
      rintro e w5 ⟨rfl, hb5⟩
      have hbF : Hid (Below w.heap.size w w5) := hb4.trans (hb5.mono hb4.size)
      clear hb5
      go_wp2_with (first
        | (go_at_call 9; refine Calls.mono (show Calls _ _ _ _ _ from hNum.out _) ?_; rintro e w6 ⟨rfl, hb6⟩; have hb6 : Hid (Below w.heap.size w w6) := hbF.out.trans (hb6.mono hbF.out.size))
        | (go_at_call 10; refine Calls.mono (show Calls _ _ _ _ _ from hRNum.out _) ?_; rintro e w7 ⟨rfl, hg7⟩; have hb7 : Hid (Below w.heap.size w w7) := hb6.out.trans (hg7.below.mono hb6.out.size))
        | (go_at_call 11; refine Calls.mono (show Calls _ _ _ _ _ from hSum.out _) ?_; rintro e w8 ⟨rfl, hw8⟩; subst w8)
        | (go_at_call 12; refine Calls.mono (show Calls _ _ _ _ _ from hRSum.out _) ?_; rintro e w9 ⟨rfl, hw9⟩; subst w9))
      go_ret
      exact ⟨by simp, hb7.out⟩
  · have h1b : (EA == 0) = false := by simpa using h1
    have hPb : Hid (EP = EA) := by show _ = _; rw [hP.out, if_pos h1]
    rw [hPb.out] at hEnc hRn
    have hRe := hRn.out h1
    subst hRe
    have hb4 := hgw2.below
    clear hCod hRn hgw2 hP hPb
    go_wp2_with fail
    refine Calls.mono (show Calls _ _ _ _ _ from hEnc.out _ hb4) ?_
    rintro e w5 ⟨rfl, hb5⟩
    have hbF : Hid (Below w.heap.size w w5) := hb4.trans (hb5.mono hb4.size)
    clear hb5
    go_wp2_with (first
      | (go_at_call 9; refine Calls.mono (show Calls _ _ _ _ _ from hNum.out _) ?_; rintro e w6 ⟨rfl, hb6⟩; have hb6 : Hid (Below w.heap.size w w6) := hbF.out.trans (hb6.mono hbF.out.size))
      | (go_at_call 10; refine Calls.mono (show Calls _ _ _ _ _ from hRNum.out _) ?_; rintro e w7 ⟨rfl, hg7⟩; have hb7 : Hid (Below w.heap.size w w7) := hb6.out.trans (hg7.below.mono hb6.out.size))
      | (go_at_call 11; refine Calls.mono (show Calls _ _ _ _ _ from hSum.out _) ?_; rintro e w8 ⟨rfl, hw8⟩; subst w8)
      | (go_at_call 12; refine Calls.mono (show Calls _ _ _ _ _ from hRSum.out _) ?_; rintro e w9 ⟨rfl, hw9⟩; subst w9))
    go_ret
    exact ⟨by simp, hb7.out⟩
end Go.Proofs.Ytbhhpijidbhipaa
