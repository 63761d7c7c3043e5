/-
  The law WireBack, walked: it answers true whatever is handed in (gens/mkwback.py writes it).
-/
import Derived.Test.YtbhhpijidbhipaaWBackM
namespace Go.Proofs.Ytbhhpijidbhipaa
open Go.RowKit Go.Sort

set_option maxRecDepth 100000 in
set_option maxHeartbeats 8000000 in
theorem wireBack_any (more : List UInt8) (at_ : Int) (a b : Tab) (A C : Option Addr) (ca cc : Nat) (B D : Option Addr) (cb cd : Nat) (w : World) (hmore : more.length ≤ 1000000000000000) (hal : a.c.l.length ≤ maxLen) (hael : a.e.length ≤ maxLen) (hbl : b.c.l.length ≤ maxLen) (hbel : b.e.length ≤ maxLen) (hra : Row w A a.c.l) (hda : RowC w C a.e) (hrb : Row w B b.c.l) (hdb : RowC w D b.e) :
    Calls Try.prog 5 #[.agg #[.int .i64 a.c.c0, .int .i64 a.c.c1, .int .i64 a.c.c2, .int .i64 a.c.c3, .slice A a.c.l.length ca, .slice C a.e.length cc, .int .i64 b.c.c0, .int .i64 b.c.c1, .int .i64 b.c.c2, .int .i64 b.c.c3, .slice B b.c.l.length cb, .slice D b.e.length cd], .string ⟨more.toArray⟩, .int .i64 at_] w fun e w' => e = .returned (.bool true) ∧ Below w.heap.size w w' := by
  obtain ⟨W1, hW1⟩ : ∃ W1, w.alloc (.cells #[.int .i64 a.c.c0, .int .i64 a.c.c1, .int .i64 a.c.c2, .int .i64 a.c.c3, .slice A a.c.l.length ca, .slice C a.e.length cc, .int .i64 b.c.c0, .int .i64 b.c.c1, .int .i64 b.c.c2, .int .i64 b.c.c3, .slice B b.c.l.length cb, .slice D b.e.length cd] 31) = W1 := ⟨_, rfl⟩
  have hg1 : Gr w W1 := by rw [← hW1]; exact (Gr.refl _).alloc _
  obtain ⟨BP, hBP⟩ : ∃ BP, w.heap.size = BP := ⟨_, rfl⟩
  have hX1 : Bx W1 BP [.int .i64 a.c.c0, .int .i64 a.c.c1, .int .i64 a.c.c2, .int .i64 a.c.c3, .slice A a.c.l.length ca, .slice C a.e.length cc, .int .i64 b.c.c0, .int .i64 b.c.c1, .int .i64 b.c.c2, .int .i64 b.c.c3, .slice B b.c.l.length cb, .slice D b.e.length cd] := by rw [← hW1]; exact Bx.new w _ _ hBP
  have hb1 : Hid (Below w.heap.size w W1 ∧ Below (BP + 1) W1 W1 ∧ BP + 1 ≤ W1.heap.size) := ⟨hg1.below, Below.refl _ _, hX1.lt⟩
  have hPk : Hid (∀ W, Below (BP + 1) W1 W → Bx W BP [.int .i64 a.c.c0, .int .i64 a.c.c1, .int .i64 a.c.c2, .int .i64 a.c.c3, .slice A a.c.l.length ca, .slice C a.e.length cc, .int .i64 b.c.c0, .int .i64 b.c.c1, .int .i64 b.c.c2, .int .i64 b.c.c3, .slice B b.c.l.length cb, .slice D b.e.length cd] ∧ Below w.heap.size w W) := fun W h => by
    refine ⟨⟨fun j hj => (h.cell (p := ⟨BP, j, none⟩) (by show BP < BP + 1; omega)).trans (hX1.c j hj), fun j => (h.frozen (p := ⟨BP, j, none⟩) (by show BP < BP + 1; omega)).trans (hX1.f j), Nat.lt_of_lt_of_le hX1.lt h.size⟩, hg1.below.trans (h.mono (by omega))⟩
  have hRw : Hid (∀ W, Below w.heap.size w W → Row W A a.c.l ∧ RowC W C a.e ∧ Row W B b.c.l ∧ RowC W D b.e) := fun W h => ⟨hra.below h, hda.below h, hrb.below h, hdb.below h⟩
  have hEnc : Hid (∀ W, Below w.heap.size w W → Calls Try.prog 8 #[.agg #[.int .i64 a.c.c0, .int .i64 a.c.c1, .int .i64 a.c.c2, .int .i64 a.c.c3, .slice A a.c.l.length ca, .slice C a.e.length cc, .int .i64 b.c.c0, .int .i64 b.c.c1, .int .i64 b.c.c2, .int .i64 b.c.c3, .slice B b.c.l.length cb, .slice D b.e.length cd]] W fun e w' => e = .returned (.tuple #[.string ⟨(encR a b).toArray⟩, .int .i64 (errP a b)]) ∧ Below W.heap.size W w') := fun W h => encode_any a b A C ca cc B D cb cd W hal hael hbl hbel (hra.below h) (hda.below h) (hrb.below h) (hdb.below h)
  have hEZ := encode_any zeroTab zeroTab none none 0 0 none none 0 0 W1 (by decide) (by decide) (by decide) (by decide) (Or.inl rfl) (Or.inl rfl) (Or.inl rfl) (Or.inl rfl)
  have hEZ : Calls Try.prog 8 #[.agg #[.int .i64 0, .int .i64 0, .int .i64 0, .int .i64 0, .slice none 0 0, .slice none 0 0, .int .i64 0, .int .i64 0, .int .i64 0, .int .i64 0, .slice none 0 0, .slice none 0 0]] W1 fun e w' => e = .returned (.tuple #[.string ⟨(encR zeroTab zeroTab).toArray⟩, .int .i64 (errP zeroTab zeroTab)]) ∧ Below W1.heap.size W1 w' := hEZ
  rw [enc_zero.1] at hEZ
  have hZl : (encR zeroTab zeroTab).length = 16 := enc_zero.2
  obtain ⟨ZR, hZR⟩ : ∃ Z, encR zeroTab zeroTab = Z := ⟨_, rfl⟩
  rw [hZR] at hEZ hZl
  have hEZH : Hid _ := hEZ
  have hN1 : Hid (∀ W, Calls Try.prog 9 #[.int .i64 (-1)] W fun e w' => e = .returned (.string ⟨#[1]⟩) ∧ Below W.heap.size W w') := fun W => by
    have := number_any (-1) W
    rw [numL_one] at this
    exact this
  have hN64 : Hid (∀ W, Calls Try.prog 9 #[.int .i64 64] W fun e w' => e = .returned (.string ⟨#[128, 1]⟩) ∧ Below W.heap.size W w') := fun W => by
    have := number_any 64 W
    rw [numL_64] at this
    exact this
  have hRn : Hid (errP a b ≠ 0 → encR a b = []) := fun h => by unfold encR; rw [if_neg h]
  have hRy : Hid (errP a b = 0 → encR a b = encP a b ∧ (encP a b).length ≤ 60004 ∧ 0 < (encP a b).length) := fun h => by
    refine ⟨by unfold encR; rw [if_pos h], ?_, ?_⟩
    · have h1 := errP_ok h
      have h2 := errT_small h1.1
      have h3 := errT_small h1.2
      unfold encP bodP
      rw [List.length_append, List.length_append, sumB_len]
      have := codT_len h2.1 h2.2
      have := codT_len h3.1 h3.2
      omega
    · unfold encP
      rw [List.length_append, sumB_len]
      omega
  have hsmall : Hid (a.c.l.length ≤ maxLen ∧ a.e.length ≤ maxLen ∧ b.c.l.length ≤ maxLen ∧ b.e.length ≤ maxLen) := ⟨hal, hael, hbl, hbel⟩
  have hokP : Hid (errP a b = 0 → errT a = 0 ∧ errT b = 0) := errP_ok
  obtain ⟨EP, hEP⟩ : ∃ E, errP a b = E := ⟨_, rfl⟩
  obtain ⟨z, hz⟩ : ∃ z, encR a b = z := ⟨_, rfl⟩
  rw [hEP] at hEnc hRn hRy hokP
  rw [hz] at hEnc hRn hRy
  clear hEP hz hZR hEZ hal hael hbl hbel hra hda hrb hdb hg1 hX1
  go_enter Try.func5, Try.ntmps5
  go_wp2_with fail
  refine Calls.mono (show Calls _ _ _ _ _ from hEZH.out) ?_
  rintro e w2 ⟨rfl, hb2⟩
  have hB2 : Hid (Below (BP + 1) W1 w2 ∧ BP + 1 ≤ w2.heap.size) := ⟨hb2.mono hb1.out.2.2, Nat.le_trans hb1.out.2.2 hb2.size⟩
  clear hEZH hb2 hb1 hW1
  go_wp2_with fail
  refine Calls.mono (show Calls _ _ _ _ _ from hN1.out w2) ?_
  rintro e w3 ⟨rfl, hb3⟩
  have hB3 : Hid (Below (BP + 1) W1 w3 ∧ BP + 1 ≤ w3.heap.size) := ⟨hB2.out.1.trans (hb3.mono hB2.out.2), Nat.le_trans hB2.out.2 hb3.size⟩
  clear hb3 hB2 hN1
  go_wp2_with fail
  refine Calls.mono (show Calls _ _ _ _ _ from hN64.out w3) ?_
  rintro e w4 ⟨rfl, hb4⟩
  have hB4 : Hid (Below (BP + 1) W1 w4 ∧ BP + 1 ≤ w4.heap.size) := ⟨hB3.out.1.trans (hb4.mono hB3.out.2), Nat.le_trans hB3.out.2 hb4.size⟩
  clear hb4 hB3 hN64
  have hP4 := (hPk.out w4 hB4.out.1).1
  have hw4 : Hid (Below w.heap.size w w4) := (hPk.out w4 hB4.out.1).2
  have c0 : w4.cell? ⟨BP, 0, none⟩ = some (.int .i64 a.c.c0) := hP4.c 0 (by simp)
  have c1 : w4.cell? ⟨BP, 1, none⟩ = some (.int .i64 a.c.c1) := hP4.c 1 (by simp)
  have c2 : w4.cell? ⟨BP, 2, none⟩ = some (.int .i64 a.c.c2) := hP4.c 2 (by simp)
  have c3 : w4.cell? ⟨BP, 3, none⟩ = some (.int .i64 a.c.c3) := hP4.c 3 (by simp)
  have c4 : w4.cell? ⟨BP, 4, none⟩ = some (.slice A a.c.l.length ca) := hP4.c 4 (by simp)
  have c5 : w4.cell? ⟨BP, 5, none⟩ = some (.slice C a.e.length cc) := hP4.c 5 (by simp)
  have c6 : w4.cell? ⟨BP, 6, none⟩ = some (.int .i64 b.c.c0) := hP4.c 6 (by simp)
  have c7 : w4.cell? ⟨BP, 7, none⟩ = some (.int .i64 b.c.c1) := hP4.c 7 (by simp)
  have c8 : w4.cell? ⟨BP, 8, none⟩ = some (.int .i64 b.c.c2) := hP4.c 8 (by simp)
  have c9 : w4.cell? ⟨BP, 9, none⟩ = some (.int .i64 b.c.c3) := hP4.c 9 (by simp)
  have c10 : w4.cell? ⟨BP, 10, none⟩ = some (.slice B b.c.l.length cb) := hP4.c 10 (by simp)
  have c11 : w4.cell? ⟨BP, 11, none⟩ = some (.slice D b.e.length cd) := hP4.c 11 (by simp)
  have hC := hEnc.out w4 hw4.out
  have hCH : Hid _ := hC
  clear hP4 hC hEnc
  go_wp2_with fail
  refine Calls.mono (show Calls _ _ _ _ _ from hCH.out) ?_
  rintro e w5 ⟨rfl, hb5⟩
  have hB5 : Hid (Below (BP + 1) W1 w5 ∧ BP + 1 ≤ w5.heap.size) := ⟨hB4.out.1.trans (hb5.mono hB4.out.2), Nat.le_trans hB4.out.2 hb5.size⟩
  clear hb5 hB4 hCH c0 c1 c2 c3 c4 c5 c6 c7 c8 c9 c10 c11
  by_cases hE0 : EP = 0
  · subst hE0
    have hzz := hRy.out rfl
    have hzl : Hid (z.length ≤ 60004 ∧ 0 < z.length ∧ z = encP a b) := ⟨by rw [hzz.1]; exact hzz.2.1, by rw [hzz.1]; exact hzz.2.2, hzz.1⟩
    have hok : Hid (errT a = 0 ∧ errT b = 0) := hokP.out rfl
    clear hzz hRy hRn hokP
    obtain ⟨zm, hzm⟩ : ∃ zm, z ++ more = zm := ⟨_, rfl⟩
    have hadd := addB (x := z) (y := more) (a := ⟨z.toArray⟩) (b := ⟨more.toArray⟩) (c := ⟨zm.toArray⟩) (by rw [hzm]) rfl rfl (by have := hzl.out.1; omega)
    have hD := decode_any zm w5 (by rw [← hzm, List.length_append]; have := hzl.out.1; unfold maxLen; omega)
    have hDH : Hid _ := hD
    have hdz : Hid (decA zm = a ∧ decB zm = b ∧ decN zm = z.length ∧ decE zm = 0) := by
      have h := dec_enc hok.out.1 hok.out.2 more
      rw [← hzl.out.2.2, hzm] at h
      unfold decA decB decN decE
      rw [h.1]
      exact ⟨h.2.1, h.2.2.1, by show (pakAt zm : Int) + 4 = _; rw [← h.2.2.2]; simp, rfl⟩
    clear hD hzm
    go_wp2_with fail
    refine Calls.mono (show Calls _ _ _ _ _ from hDH.out) ?_
    rintro e w6 ⟨xt, xu, xA, xa, xC, xc, xB, xb, xD, xd, n6, e6, rfl, h6⟩
    obtain rfl : a = xt := (h6.out.1.1.trans hdz.out.1).symm
    obtain rfl : b = xu := (h6.out.1.2.1.trans hdz.out.2.1).symm
    obtain rfl : n6 = z.length := h6.out.1.2.2.1.trans hdz.out.2.2.1
    obtain rfl : e6 = 0 := h6.out.1.2.2.2.trans hdz.out.2.2.2
    have hb6 := h6.out.2.2.2.2.2
    have hB6 : Hid (Below (BP + 1) W1 w6 ∧ BP + 1 ≤ w6.heap.size) := ⟨hB5.out.1.trans (hb6.mono hB5.out.2), Nat.le_trans hB5.out.2 hb6.size⟩
    obtain ⟨N6, hN6⟩ : ∃ N, w6.heap.size = N := ⟨_, rfl⟩
    obtain ⟨W6, hW6⟩ : ∃ W, w6.alloc (.cells #[.int .i64 a.c.c0, .int .i64 a.c.c1, .int .i64 a.c.c2, .int .i64 a.c.c3, .slice xA a.c.l.length xa, .slice xC a.e.length xc, .int .i64 b.c.c0, .int .i64 b.c.c1, .int .i64 b.c.c2, .int .i64 b.c.c3, .slice xB b.c.l.length xb, .slice xD b.e.length xd] 31) = W := ⟨_, rfl⟩
    have hg6 : Gr w6 W6 := by rw [← hW6]; exact (Gr.refl _).alloc _
    have hX6 : Bx W6 N6 [.int .i64 a.c.c0, .int .i64 a.c.c1, .int .i64 a.c.c2, .int .i64 a.c.c3, .slice xA a.c.l.length xa, .slice xC a.e.length xc, .int .i64 b.c.c0, .int .i64 b.c.c1, .int .i64 b.c.c2, .int .i64 b.c.c3, .slice xB b.c.l.length xb, .slice xD b.e.length xd] := by rw [← hW6]; exact Bx.new w6 _ _ hN6
    have hB6' : Below (BP + 1) W1 W6 := hB6.out.1.trans (hg6.below.mono hB6.out.2)
    have hF6 : Hid (∀ W, Below W6.heap.size W6 W → (Bx W BP [.int .i64 a.c.c0, .int .i64 a.c.c1, .int .i64 a.c.c2, .int .i64 a.c.c3, .slice A a.c.l.length ca, .slice C a.e.length cc, .int .i64 b.c.c0, .int .i64 b.c.c1, .int .i64 b.c.c2, .int .i64 b.c.c3, .slice B b.c.l.length cb, .slice D b.e.length cd] ∧ Bx W N6 [.int .i64 a.c.c0, .int .i64 a.c.c1, .int .i64 a.c.c2, .int .i64 a.c.c3, .slice xA a.c.l.length xa, .slice xC a.e.length xc, .int .i64 b.c.c0, .int .i64 b.c.c1, .int .i64 b.c.c2, .int .i64 b.c.c3, .slice xB b.c.l.length xb, .slice xD b.e.length xd]) ∧ (Row W A a.c.l ∧ RowC W C a.e ∧ Row W B b.c.l ∧ RowC W D b.e) ∧ (Row W xA a.c.l ∧ RowC W xC a.e ∧ Row W xB b.c.l ∧ RowC W xD b.e) ∧ Below w.heap.size w W) := fun W h => by
      have h1 := hPk.out W (hB6'.trans (h.mono (Nat.le_trans hB6.out.2 hg6.size)))
      refine ⟨⟨h1.1, ⟨fun j hj => (h.cell (p := ⟨N6, j, none⟩) hX6.lt).trans (hX6.c j hj), fun j => (h.frozen (p := ⟨N6, j, none⟩) hX6.lt).trans (hX6.f j), Nat.lt_of_lt_of_le hX6.lt h.size⟩⟩, hRw.out W h1.2, ⟨(h6.out.2.1.gr hg6).below h, (h6.out.2.2.1.gr hg6).below h, (h6.out.2.2.2.1.gr hg6).below h, (h6.out.2.2.2.2.1.gr hg6).below h⟩, h1.2⟩
    have hzl6 : z.length ≤ 60004 ∧ 0 < z.length := ⟨hzl.out.1, hzl.out.2.1⟩
    have hR := wrest_any at_ z.length W6 ⟨hzl6.2, by omega⟩
    have hRH : Hid _ := hR
    clear hR hb6 hDH hB5 hadd hB6' hX6 hPk hRw
    go_wp2_with fail
    refine Calls.mono (show Calls _ _ _ _ _ from hRH.out) ?_
    rintro e w7 ⟨⟨r, rfl, hr⟩, hw7⟩
    subst w7
    clear hRH hW6
    have hcut := cut_to z r
    obtain ⟨u, hu⟩ : ∃ u, z.take r = u := ⟨_, rfl⟩
    rw [hu] at hcut
    have hrz : (r : Int) ≤ (z.length : Int) := by omega
    have hD := decode_any u W6 (by rw [← hu, List.length_take]; unfold maxLen; omega)
    have hDH : Hid _ := hD
    have hdz2 : Hid (decE u = 5) := by
      have h := dec_prefix hok.out.1 hok.out.2 (q := u) (n := r) (by rw [← hzl.out.2.2]; exact hr) (by rw [← hzl.out.2.2]; exact hu.symm)
      show _ = _
      unfold decE
      rw [h]
      rfl
    clear hD hu
    go_wp2_with fail
    refine Calls.mono (show Calls _ _ _ _ _ from hDH.out) ?_
    rintro e w7 ⟨yt, yu, yA, ya, yC, yc, yB, yb, yD, yd, n7, e7, rfl, h7⟩
    obtain rfl : e7 = 5 := h7.out.1.2.2.2.trans hdz2.out
    have hb7 := h7.out.2.2.2.2.2
    obtain ⟨W7, hW7⟩ : ∃ W, w7.alloc (.cells #[.int .i64 yt.c.c0, .int .i64 yt.c.c1, .int .i64 yt.c.c2, .int .i64 yt.c.c3, .slice yA yt.c.l.length ya, .slice yC yt.e.length yc, .int .i64 yu.c.c0, .int .i64 yu.c.c1, .int .i64 yu.c.c2, .int .i64 yu.c.c3, .slice yB yu.c.l.length yb, .slice yD yu.e.length yd] 31) = W := ⟨_, rfl⟩
    have hg7 : Gr w7 W7 := by rw [← hW7]; exact (Gr.refl _).alloc _
    have hB7 : Hid (Below W6.heap.size W6 W7) := hb7.trans (hg7.below.mono hb7.size)
    have hF7 := hF6.out W7 hB7.out
    have x0 : W7.cell? ⟨N6, 0, none⟩ = some (.int .i64 a.c.c0) := hF7.1.2.c 0 (by simp)
    have x1 : W7.cell? ⟨N6, 1, none⟩ = some (.int .i64 a.c.c1) := hF7.1.2.c 1 (by simp)
    have x2 : W7.cell? ⟨N6, 2, none⟩ = some (.int .i64 a.c.c2) := hF7.1.2.c 2 (by simp)
    have x3 : W7.cell? ⟨N6, 3, none⟩ = some (.int .i64 a.c.c3) := hF7.1.2.c 3 (by simp)
    have x4 : W7.cell? ⟨N6, 4, none⟩ = some (.slice xA a.c.l.length xa) := hF7.1.2.c 4 (by simp)
    have x5 : W7.cell? ⟨N6, 5, none⟩ = some (.slice xC a.e.length xc) := hF7.1.2.c 5 (by simp)
    have x6 : W7.cell? ⟨N6, 6, none⟩ = some (.int .i64 b.c.c0) := hF7.1.2.c 6 (by simp)
    have x7 : W7.cell? ⟨N6, 7, none⟩ = some (.int .i64 b.c.c1) := hF7.1.2.c 7 (by simp)
    have x8 : W7.cell? ⟨N6, 8, none⟩ = some (.int .i64 b.c.c2) := hF7.1.2.c 8 (by simp)
    have x9 : W7.cell? ⟨N6, 9, none⟩ = some (.int .i64 b.c.c3) := hF7.1.2.c 9 (by simp)
    have x10 : W7.cell? ⟨N6, 10, none⟩ = some (.slice xB b.c.l.length xb) := hF7.1.2.c 10 (by simp)
    have x11 : W7.cell? ⟨N6, 11, none⟩ = some (.slice xD b.e.length xd) := hF7.1.2.c 11 (by simp)
    have p0 : W7.cell? ⟨BP, 0, none⟩ = some (.int .i64 a.c.c0) := hF7.1.1.c 0 (by simp)
    have p1 : W7.cell? ⟨BP, 1, none⟩ = some (.int .i64 a.c.c1) := hF7.1.1.c 1 (by simp)
    have p2 : W7.cell? ⟨BP, 2, none⟩ = some (.int .i64 a.c.c2) := hF7.1.1.c 2 (by simp)
    have p3 : W7.cell? ⟨BP, 3, none⟩ = some (.int .i64 a.c.c3) := hF7.1.1.c 3 (by simp)
    have p4 : W7.cell? ⟨BP, 4, none⟩ = some (.slice A a.c.l.length ca) := hF7.1.1.c 4 (by simp)
    have p5 : W7.cell? ⟨BP, 5, none⟩ = some (.slice C a.e.length cc) := hF7.1.1.c 5 (by simp)
    have p6 : W7.cell? ⟨BP, 6, none⟩ = some (.int .i64 b.c.c0) := hF7.1.1.c 6 (by simp)
    have p7 : W7.cell? ⟨BP, 7, none⟩ = some (.int .i64 b.c.c1) := hF7.1.1.c 7 (by simp)
    have p8 : W7.cell? ⟨BP, 8, none⟩ = some (.int .i64 b.c.c2) := hF7.1.1.c 8 (by simp)
    have p9 : W7.cell? ⟨BP, 9, none⟩ = some (.int .i64 b.c.c3) := hF7.1.1.c 9 (by simp)
    have p10 : W7.cell? ⟨BP, 10, none⟩ = some (.slice B b.c.l.length cb) := hF7.1.1.c 10 (by simp)
    have p11 : W7.cell? ⟨BP, 11, none⟩ = some (.slice D b.e.length cd) := hF7.1.1.c 11 (by simp)
    have hS := sameT_any a a xA xC A C xa xc ca cc W7 hsmall.out.1 hsmall.out.1 hsmall.out.2.1 hsmall.out.2.1 hF7.2.2.1.1 hF7.2.1.1 hF7.2.2.1.2.1 hF7.2.1.2.1
    rw [sameT_self] at hS
    have hSH : Hid _ := hS
    clear hS hF7 hb7 h7 hDH hcut hdz2 hg7
    go_wp2_with fail
    refine Calls.mono (show Calls _ _ _ _ _ from hSH.out) ?_
    rintro e w8 ⟨rfl, hg8⟩
    have hB8 : Hid (Below W6.heap.size W6 w8) := hB7.out.trans (hg8.below.mono hB7.out.size)
    have hF8 := hF6.out w8 hB8.out
    clear hSH x0 x1 x2 x3 x4 x5 x6 x7 x8 x9 x10 x11 p0 p1 p2 p3 p4 p5 p6 p7 p8 p9 p10 p11 hB7 hg8 hW7
    have x0 : w8.cell? ⟨N6, 0, none⟩ = some (.int .i64 a.c.c0) := hF8.1.2.c 0 (by simp)
    have x1 : w8.cell? ⟨N6, 1, none⟩ = some (.int .i64 a.c.c1) := hF8.1.2.c 1 (by simp)
    have x2 : w8.cell? ⟨N6, 2, none⟩ = some (.int .i64 a.c.c2) := hF8.1.2.c 2 (by simp)
    have x3 : w8.cell? ⟨N6, 3, none⟩ = some (.int .i64 a.c.c3) := hF8.1.2.c 3 (by simp)
    have x4 : w8.cell? ⟨N6, 4, none⟩ = some (.slice xA a.c.l.length xa) := hF8.1.2.c 4 (by simp)
    have x5 : w8.cell? ⟨N6, 5, none⟩ = some (.slice xC a.e.length xc) := hF8.1.2.c 5 (by simp)
    have x6 : w8.cell? ⟨N6, 6, none⟩ = some (.int .i64 b.c.c0) := hF8.1.2.c 6 (by simp)
    have x7 : w8.cell? ⟨N6, 7, none⟩ = some (.int .i64 b.c.c1) := hF8.1.2.c 7 (by simp)
    have x8 : w8.cell? ⟨N6, 8, none⟩ = some (.int .i64 b.c.c2) := hF8.1.2.c 8 (by simp)
    have x9 : w8.cell? ⟨N6, 9, none⟩ = some (.int .i64 b.c.c3) := hF8.1.2.c 9 (by simp)
    have x10 : w8.cell? ⟨N6, 10, none⟩ = some (.slice xB b.c.l.length xb) := hF8.1.2.c 10 (by simp)
    have x11 : w8.cell? ⟨N6, 11, none⟩ = some (.slice xD b.e.length xd) := hF8.1.2.c 11 (by simp)
    have p0 : w8.cell? ⟨BP, 0, none⟩ = some (.int .i64 a.c.c0) := hF8.1.1.c 0 (by simp)
    have p1 : w8.cell? ⟨BP, 1, none⟩ = some (.int .i64 a.c.c1) := hF8.1.1.c 1 (by simp)
    have p2 : w8.cell? ⟨BP, 2, none⟩ = some (.int .i64 a.c.c2) := hF8.1.1.c 2 (by simp)
    have p3 : w8.cell? ⟨BP, 3, none⟩ = some (.int .i64 a.c.c3) := hF8.1.1.c 3 (by simp)
    have p4 : w8.cell? ⟨BP, 4, none⟩ = some (.slice A a.c.l.length ca) := hF8.1.1.c 4 (by simp)
    have p5 : w8.cell? ⟨BP, 5, none⟩ = some (.slice C a.e.length cc) := hF8.1.1.c 5 (by simp)
    have p6 : w8.cell? ⟨BP, 6, none⟩ = some (.int .i64 b.c.c0) := hF8.1.1.c 6 (by simp)
    have p7 : w8.cell? ⟨BP, 7, none⟩ = some (.int .i64 b.c.c1) := hF8.1.1.c 7 (by simp)
    have p8 : w8.cell? ⟨BP, 8, none⟩ = some (.int .i64 b.c.c2) := hF8.1.1.c 8 (by simp)
    have p9 : w8.cell? ⟨BP, 9, none⟩ = some (.int .i64 b.c.c3) := hF8.1.1.c 9 (by simp)
    have p10 : w8.cell? ⟨BP, 10, none⟩ = some (.slice B b.c.l.length cb) := hF8.1.1.c 10 (by simp)
    have p11 : w8.cell? ⟨BP, 11, none⟩ = some (.slice D b.e.length cd) := hF8.1.1.c 11 (by simp)
    have hS := sameT_any b b xB xD B D xb xd cb cd w8 hsmall.out.2.2.1 hsmall.out.2.2.1 hsmall.out.2.2.2 hsmall.out.2.2.2 hF8.2.2.1.2.2.1 hF8.2.1.2.2.1 hF8.2.2.1.2.2.2 hF8.2.1.2.2.2
    rw [sameT_self] at hS
    have hSH : Hid _ := hS
    clear hS hF8
    go_wp2_with fail
    refine Calls.mono (show Calls _ _ _ _ _ from hSH.out) ?_
    rintro e w9 ⟨rfl, hg9⟩
    have hB9 : Hid (Below W6.heap.size W6 w9) := hB8.out.trans (hg9.below.mono hB8.out.size)
    clear hSH x0 x1 x2 x3 x4 x5 x6 x7 x8 x9 x10 x11 p0 p1 p2 p3 p4 p5 p6 p7 p8 p9 p10 p11 hB8 hg9
    obtain ⟨N9, hN9⟩ : ∃ N, w9.heap.size = N := ⟨_, rfl⟩
    obtain ⟨W10, cap10, hcv, h10⟩ := conv_to z w9 hN9
    have hB10 : Hid (Below W6.heap.size W6 W10) := hB9.out.trans (h10.out.1.mono hB9.out.size)
    have hB10w : Hid (W6.heap.size ≤ w9.heap.size) := hB9.out.size
    obtain ⟨m, hm⟩ : ∃ m, 8 * z.length = m := ⟨_, rfl⟩
    have hmz : 8 * (z.length : Int) = (m : Int) := by omega
    have hR := wrest_any at_ m W10 ⟨by omega, by omega⟩
    have hRH : Hid _ := hR
    clear hR hB9
    go_wp2_with fail
    refine Calls.mono (show Calls _ _ _ _ _ from hRH.out) ?_
    rintro e w11 ⟨⟨r2, rfl, hr2⟩, hw11⟩
    subst w11
    clear hRH hcv
    obtain ⟨k, hk⟩ : ∃ k, r2 / 8 = k := ⟨_, rfl⟩
    obtain ⟨j, hj⟩ : ∃ j, r2 % 8 = j := ⟨_, rfl⟩
    have hkl : k < z.length := by omega
    have hj8 : j < 8 := by omega
    have hkz : (r2 : Int) / 8 = (k : Int) := by omega
    have hjz : (r2 : Int) % 8 = (j : Int) := by omega
    have hklz : (k : Int) < (z.length : Int) := by omega
    have bc := h10.out.2.c k hkl
    have bf := h10.out.2.f k hkl
    obtain ⟨v, hv⟩ : ∃ v, z[k].toNat = v := ⟨_, rfl⟩
    have hv256 : v < 256 := by rw [← hv]; exact UInt8.toNat_lt _
    rw [hv] at bc
    have htb := turn_bit hv256 hj8
    obtain ⟨c, hc⟩ : ∃ c, UInt8.ofNat (v ^^^ 2 ^ j) = c := ⟨_, rfl⟩
    have hcN : c.toNat = v ^^^ 2 ^ j := by rw [← hc, UInt8.toNat_ofNat', Nat.mod_eq_of_lt htb.2.1]
    have htx : bits .xor .u8 (v : Int) ((2 : Int) ^ j % 256) = (c.toNat : Int) := by
      have h2 : 2 ^ j < 256 := Nat.pow_lt_pow_right (a := 2) (n := 8) (by decide) hj8
      have e : ((2 : Int) ^ j % 256) = ((2 ^ j : Nat) : Int) := by
        rw [Int.emod_eq_of_lt (Int.pow_nonneg (by decide)) (by have : ((2 ^ j : Nat) : Int) < 256 := by omega
                                                               simpa using this)]
        simp
      rw [e, htb.1, hcN]
    obtain ⟨y, hy⟩ : ∃ y, z.set k c = y := ⟨_, rfl⟩
    have hyl : y.length = z.length := by rw [← hy, List.length_set]
    have hyne : Hid (y ≠ z ∧ y.length ≤ maxLen) := ⟨by rw [← hy]; exact set_ne hkl (by rw [hcN, hv]; exact htb.2.2), by rw [hyl]; unfold maxLen; omega⟩
    have hBy := (h10.out.2.put hkl c).gr (Gr.refl _).drew
    rw [hy] at hBy
    have hNlt : W6.heap.size ≤ N9 := by rw [← hN9]; exact Nat.le_trans hB10w.out (Nat.le_refl _)
    have hB11 : Hid (Below W6.heap.size W6 (W10.setCell ⟨N9, k, none⟩ (.int .u8 c.toNat)).drew) := (hB10.out.setCell (by show W6.heap.size ≤ N9; exact hNlt) _).drew
    clear hmz hm hr2 hk hj htb hcN hc hv hy
    go_wp2_with fail
    go_region
    generalize (W10.setCell ⟨N9, k, none⟩ (.int .u8 c.toNat)).drew = W11 at hBy hB11 ⊢
    clear bc bf htx hkz hjz
    have hcv2 := hBy.conv hyl cap10
    have hD := decode_any y W11 hyne.out.2
    have hDH : Hid _ := hD
    have hturn : Hid (¬ (decOk y = true ∧ pakA y = a ∧ pakB y = b)) := dec_turned (by rw [hyl, hzl.out.2.2]) (by rw [← hzl.out.2.2]; exact hyne.out.1)
    clear hD hBy hyl
    go_wp2_with fail
    refine Calls.mono (show Calls _ _ _ _ _ from hDH.out) ?_
    rintro e w12 ⟨zt, zu, zA, za, zC, zc, zB, zb, zD, zd, n12, e12, rfl, h12⟩
    have hb12 := h12.out.2.2.2.2.2
    obtain ⟨N12, hN12⟩ : ∃ N, w12.heap.size = N := ⟨_, rfl⟩
    obtain ⟨W12, hW12⟩ : ∃ W, w12.alloc (.cells #[.int .i64 zt.c.c0, .int .i64 zt.c.c1, .int .i64 zt.c.c2, .int .i64 zt.c.c3, .slice zA zt.c.l.length za, .slice zC zt.e.length zc, .int .i64 zu.c.c0, .int .i64 zu.c.c1, .int .i64 zu.c.c2, .int .i64 zu.c.c3, .slice zB zu.c.l.length zb, .slice zD zu.e.length zd] 31) = W := ⟨_, rfl⟩
    have hg12 : Gr w12 W12 := by rw [← hW12]; exact (Gr.refl _).alloc _
    have hX12 : Bx W12 N12 [.int .i64 zt.c.c0, .int .i64 zt.c.c1, .int .i64 zt.c.c2, .int .i64 zt.c.c3, .slice zA zt.c.l.length za, .slice zC zt.e.length zc, .int .i64 zu.c.c0, .int .i64 zu.c.c1, .int .i64 zu.c.c2, .int .i64 zu.c.c3, .slice zB zu.c.l.length zb, .slice zD zu.e.length zd] := by rw [← hW12]; exact Bx.new w12 _ _ hN12
    have hB12 : Hid (Below W6.heap.size W6 W12) := (hB11.out.trans (hb12.mono hB11.out.size)).trans (hg12.below.mono (hB11.out.trans (hb12.mono hB11.out.size)).size)
    have hF12 := hF6.out W12 hB12.out
    have hbw : Hid (Below w.heap.size w W12) := hF12.2.2.2
    clear hDH hcv2 hb12
    cases hd : decOk y with
    | false =>
      obtain rfl : e12 = 5 := h12.out.1.2.2.2.trans (by unfold decE; rw [hd]; rfl)
      clear hF6 hF12 hX12 h12 hturn
      go_wp2
      go_ret
      exact ⟨rfl, hbw.out⟩
    | true =>
      obtain rfl : e12 = 0 := h12.out.1.2.2.2.trans (by unfold decE; rw [hd]; rfl)
      have hzt : zt = pakA y := h12.out.1.1.trans (by unfold decA; rw [hd]; rfl)
      have hzu : zu = pakB y := h12.out.1.2.1.trans (by unfold decB; rw [hd]; rfl)
      have hlz : Hid ((zt.c.l.length ≤ maxLen ∧ zt.e.length ≤ maxLen) ∧ zu.c.l.length ≤ maxLen ∧ zu.e.length ≤ maxLen) := by
        rw [hzt, hzu]
        have h1 := tabR_small (y, true)
        have h2 := tabR_small (tabS (y, true))
        exact ⟨⟨Nat.le_trans h1.1 (by decide), Nat.le_trans h1.2 (by decide)⟩, Nat.le_trans h2.1 (by decide), Nat.le_trans h2.2 (by decide)⟩
      have hS := sameT_any zt a zA zC A C za zc ca cc W12 hlz.out.1.1 hsmall.out.1 hlz.out.1.2 hsmall.out.2.1 (h12.out.2.1.gr hg12) hF12.2.1.1 (h12.out.2.2.1.gr hg12) hF12.2.1.2.1
      have hRz : Hid (Row W12 zB zu.c.l ∧ RowC W12 zD zu.e ∧ Bx W12 N12 [.int .i64 zt.c.c0, .int .i64 zt.c.c1, .int .i64 zt.c.c2, .int .i64 zt.c.c3, .slice zA zt.c.l.length za, .slice zC zt.e.length zc, .int .i64 zu.c.c0, .int .i64 zu.c.c1, .int .i64 zu.c.c2, .int .i64 zu.c.c3, .slice zB zu.c.l.length zb, .slice zD zu.e.length zd]) := ⟨h12.out.2.2.2.1.gr hg12, h12.out.2.2.2.2.1.gr hg12, hX12⟩
      have hnot : Hid (sameT zt a = true → sameT zu b = false) := fun h1 => by
        cases h2 : sameT zu b
        · rfl
        · exact absurd ⟨hd, by rw [← hzt]; exact sameT_iff.1 h1, by rw [← hzu]; exact sameT_iff.1 h2⟩ hturn.out
      obtain ⟨q, hq⟩ : ∃ q, sameT zt a = q := ⟨_, rfl⟩
      rw [hq] at hS hnot
      have hSH : Hid _ := hS
      have q0 : W12.cell? ⟨N12, 0, none⟩ = some (.int .i64 zt.c.c0) := hX12.c 0 (by simp)
      have q1 : W12.cell? ⟨N12, 1, none⟩ = some (.int .i64 zt.c.c1) := hX12.c 1 (by simp)
      have q2 : W12.cell? ⟨N12, 2, none⟩ = some (.int .i64 zt.c.c2) := hX12.c 2 (by simp)
      have q3 : W12.cell? ⟨N12, 3, none⟩ = some (.int .i64 zt.c.c3) := hX12.c 3 (by simp)
      have q4 : W12.cell? ⟨N12, 4, none⟩ = some (.slice zA zt.c.l.length za) := hX12.c 4 (by simp)
      have q5 : W12.cell? ⟨N12, 5, none⟩ = some (.slice zC zt.e.length zc) := hX12.c 5 (by simp)
      have q6 : W12.cell? ⟨N12, 6, none⟩ = some (.int .i64 zu.c.c0) := hX12.c 6 (by simp)
      have q7 : W12.cell? ⟨N12, 7, none⟩ = some (.int .i64 zu.c.c1) := hX12.c 7 (by simp)
      have q8 : W12.cell? ⟨N12, 8, none⟩ = some (.int .i64 zu.c.c2) := hX12.c 8 (by simp)
      have q9 : W12.cell? ⟨N12, 9, none⟩ = some (.int .i64 zu.c.c3) := hX12.c 9 (by simp)
      have q10 : W12.cell? ⟨N12, 10, none⟩ = some (.slice zB zu.c.l.length zb) := hX12.c 10 (by simp)
      have q11 : W12.cell? ⟨N12, 11, none⟩ = some (.slice zD zu.e.length zd) := hX12.c 11 (by simp)
      have p0 : W12.cell? ⟨BP, 0, none⟩ = some (.int .i64 a.c.c0) := hF12.1.1.c 0 (by simp)
      have p1 : W12.cell? ⟨BP, 1, none⟩ = some (.int .i64 a.c.c1) := hF12.1.1.c 1 (by simp)
      have p2 : W12.cell? ⟨BP, 2, none⟩ = some (.int .i64 a.c.c2) := hF12.1.1.c 2 (by simp)
      have p3 : W12.cell? ⟨BP, 3, none⟩ = some (.int .i64 a.c.c3) := hF12.1.1.c 3 (by simp)
      have p4 : W12.cell? ⟨BP, 4, none⟩ = some (.slice A a.c.l.length ca) := hF12.1.1.c 4 (by simp)
      have p5 : W12.cell? ⟨BP, 5, none⟩ = some (.slice C a.e.length cc) := hF12.1.1.c 5 (by simp)
      have p6 : W12.cell? ⟨BP, 6, none⟩ = some (.int .i64 b.c.c0) := hF12.1.1.c 6 (by simp)
      have p7 : W12.cell? ⟨BP, 7, none⟩ = some (.int .i64 b.c.c1) := hF12.1.1.c 7 (by simp)
      have p8 : W12.cell? ⟨BP, 8, none⟩ = some (.int .i64 b.c.c2) := hF12.1.1.c 8 (by simp)
      have p9 : W12.cell? ⟨BP, 9, none⟩ = some (.int .i64 b.c.c3) := hF12.1.1.c 9 (by simp)
      have p10 : W12.cell? ⟨BP, 10, none⟩ = some (.slice B b.c.l.length cb) := hF12.1.1.c 10 (by simp)
      have p11 : W12.cell? ⟨BP, 11, none⟩ = some (.slice D b.e.length cd) := hF12.1.1.c 11 (by simp)
      clear hS hq hzt hzu hd h12 hturn hF12 hX12 hg12
      go_wp2_with fail
      refine Calls.mono (show Calls _ _ _ _ _ from hSH.out) ?_
      rintro e w13 ⟨rfl, hg13⟩
      have hb13 : Hid (Below w.heap.size w w13) := hbw.out.trans (hg13.below.mono hbw.out.size)
      cases q with
      | false =>
        clear hSH q0 q1 q2 q3 q4 q5 q6 q7 q8 q9 q10 q11 p0 p1 p2 p3 p4 p5 p6 p7 p8 p9 p10 p11 hF6 hnot
        go_wp2
        go_ret
        exact ⟨rfl, hb13.out⟩
      | true =>
        have hq2 := hnot.out rfl
        have hF13 := hF6.out w13 (hB12.out.trans (hg13.below.mono hB12.out.size))
        have hRz13 := (show Row w13 zB zu.c.l ∧ RowC w13 zD zu.e ∧ Bx w13 N12 [.int .i64 zt.c.c0, .int .i64 zt.c.c1, .int .i64 zt.c.c2, .int .i64 zt.c.c3, .slice zA zt.c.l.length za, .slice zC zt.e.length zc, .int .i64 zu.c.c0, .int .i64 zu.c.c1, .int .i64 zu.c.c2, .int .i64 zu.c.c3, .slice zB zu.c.l.length zb, .slice zD zu.e.length zd] from ⟨hRz.out.1.gr hg13, hRz.out.2.1.gr hg13, hRz.out.2.2.gr hg13⟩)
        have hS := sameT_any zu b zB zD B D zb zd cb cd w13 hlz.out.2.1 hsmall.out.2.2.1 hlz.out.2.2 hsmall.out.2.2.2 hRz13.1 hF13.2.1.2.2.1 hRz13.2.1 hF13.2.1.2.2.2
        rw [hq2] at hS
        have hSH2 : Hid _ := hS
        clear hSH q0 q1 q2 q3 q4 q5 q6 q7 q8 q9 q10 q11 p0 p1 p2 p3 p4 p5 p6 p7 p8 p9 p10 p11 hF6 hnot hq2 hS
        have q0 : w13.cell? ⟨N12, 0, none⟩ = some (.int .i64 zt.c.c0) := hRz13.2.2.c 0 (by simp)
        have q1 : w13.cell? ⟨N12, 1, none⟩ = some (.int .i64 zt.c.c1) := hRz13.2.2.c 1 (by simp)
        have q2 : w13.cell? ⟨N12, 2, none⟩ = some (.int .i64 zt.c.c2) := hRz13.2.2.c 2 (by simp)
        have q3 : w13.cell? ⟨N12, 3, none⟩ = some (.int .i64 zt.c.c3) := hRz13.2.2.c 3 (by simp)
        have q4 : w13.cell? ⟨N12, 4, none⟩ = some (.slice zA zt.c.l.length za) := hRz13.2.2.c 4 (by simp)
        have q5 : w13.cell? ⟨N12, 5, none⟩ = some (.slice zC zt.e.length zc) := hRz13.2.2.c 5 (by simp)
        have q6 : w13.cell? ⟨N12, 6, none⟩ = some (.int .i64 zu.c.c0) := hRz13.2.2.c 6 (by simp)
        have q7 : w13.cell? ⟨N12, 7, none⟩ = some (.int .i64 zu.c.c1) := hRz13.2.2.c 7 (by simp)
        have q8 : w13.cell? ⟨N12, 8, none⟩ = some (.int .i64 zu.c.c2) := hRz13.2.2.c 8 (by simp)
        have q9 : w13.cell? ⟨N12, 9, none⟩ = some (.int .i64 zu.c.c3) := hRz13.2.2.c 9 (by simp)
        have q10 : w13.cell? ⟨N12, 10, none⟩ = some (.slice zB zu.c.l.length zb) := hRz13.2.2.c 10 (by simp)
        have q11 : w13.cell? ⟨N12, 11, none⟩ = some (.slice zD zu.e.length zd) := hRz13.2.2.c 11 (by simp)
        have p0 : w13.cell? ⟨BP, 0, none⟩ = some (.int .i64 a.c.c0) := hF13.1.1.c 0 (by simp)
        have p1 : w13.cell? ⟨BP, 1, none⟩ = some (.int .i64 a.c.c1) := hF13.1.1.c 1 (by simp)
        have p2 : w13.cell? ⟨BP, 2, none⟩ = some (.int .i64 a.c.c2) := hF13.1.1.c 2 (by simp)
        have p3 : w13.cell? ⟨BP, 3, none⟩ = some (.int .i64 a.c.c3) := hF13.1.1.c 3 (by simp)
        have p4 : w13.cell? ⟨BP, 4, none⟩ = some (.slice A a.c.l.length ca) := hF13.1.1.c 4 (by simp)
        have p5 : w13.cell? ⟨BP, 5, none⟩ = some (.slice C a.e.length cc) := hF13.1.1.c 5 (by simp)
        have p6 : w13.cell? ⟨BP, 6, none⟩ = some (.int .i64 b.c.c0) := hF13.1.1.c 6 (by simp)
        have p7 : w13.cell? ⟨BP, 7, none⟩ = some (.int .i64 b.c.c1) := hF13.1.1.c 7 (by simp)
        have p8 : w13.cell? ⟨BP, 8, none⟩ = some (.int .i64 b.c.c2) := hF13.1.1.c 8 (by simp)
        have p9 : w13.cell? ⟨BP, 9, none⟩ = some (.int .i64 b.c.c3) := hF13.1.1.c 9 (by simp)
        have p10 : w13.cell? ⟨BP, 10, none⟩ = some (.slice B b.c.l.length cb) := hF13.1.1.c 10 (by simp)
        have p11 : w13.cell? ⟨BP, 11, none⟩ = some (.slice D b.e.length cd) := hF13.1.1.c 11 (by simp)
        clear hF13 hRz13
        go_wp2_with fail
        refine Calls.mono (show Calls _ _ _ _ _ from hSH2.out) ?_
        rintro e w14 ⟨rfl, hg14⟩
        have hb14 : Hid (Below w.heap.size w w14) := hb13.out.trans (hg14.below.mono hb13.out.size)
        clear hSH2 q0 q1 q2 q3 q4 q5 q6 q7 q8 q9 q10 q11 p0 p1 p2 p3 p4 p5 p6 p7 p8 p9 p10 p11
        go_wp2
        go_ret
        exact ⟨rfl, hb14.out⟩
  · have hEb : (EP != 0) = true := by simpa using hE0
    have hze := hRn.out hE0
    subst hze
    have hfin : Hid (Below w.heap.size w w5) := (hPk.out w5 hB5.out.1).2
    clear hRy hRn hokP hPk hRw
    go_wp2
    go_ret
    exact ⟨rfl, hfin.out⟩
end Go.Proofs.Ytbhhpijidbhipaa
