/-
  wire.check, wire.Encode: a packet as bytes.
-/
import Derived.Test.YtbhhpijidbhipaaWAppT
import Derived.Test.YtbhhpijidbhipaaTCheck
namespace Go.Proofs.Ytbhhpijidbhipaa
open Go.RowKit Go.Sort

/-- What is wrong with a packet. -/
def errP (a b : Tab) : Int := if errT a ≠ 0 then errT a else errT b
theorem idxT0 (a0 a1 a2 a3 a4 a5 b0 b1 b2 b3 b4 b5 : Value) (w : World) : (Instr.index 29 (.agg #[a0, a1, a2, a3, a4, a5, b0, b1, b2, b3, b4, b5]) (.int .i64 0)).run Try.prog w = .ok (.agg #[a0, a1, a2, a3, a4, a5]) w := by kernel_rfl
theorem idxT1 (a0 a1 a2 a3 a4 a5 b0 b1 b2 b3 b4 b5 : Value) (w : World) : (Instr.index 29 (.agg #[a0, a1, a2, a3, a4, a5, b0, b1, b2, b3, b4, b5]) (.int .i64 1)).run Try.prog w = .ok (.agg #[b0, b1, b2, b3, b4, b5]) w := by kernel_rfl

set_option maxRecDepth 100000 in
set_option maxHeartbeats 4000000 in
theorem checkP_any (a b : Tab) (A C : Option Addr) (ca cc : Nat) (B D : Option Addr) (cb cd : Nat) (w : World) (hal : a.c.l.length ≤ maxLen) (hael : a.e.length ≤ maxLen) (hbl : b.c.l.length ≤ maxLen) (hbel : b.e.length ≤ maxLen) (hra : Row w A a.c.l) (hda : RowC w C a.e) (hrb : Row w B b.c.l) (hdb : RowC w D b.e) :
    Calls Try.prog 23 #[.agg #[.int .i64 a.c.c0, .int .i64 a.c.c1, .int .i64 a.c.c2, .int .i64 a.c.c3, .slice A a.c.l.length ca, .slice C a.e.length cc, .int .i64 b.c.c0, .int .i64 b.c.c1, .int .i64 b.c.c2, .int .i64 b.c.c3, .slice B b.c.l.length cb, .slice D b.e.length cd]] w fun e w' => e = .returned (.int .i64 (errP a b)) ∧ Gr w w' := by
  have hC1 : Hid (∀ W, Gr w W → Calls Try.prog 34 #[.agg #[.int .i64 a.c.c0, .int .i64 a.c.c1, .int .i64 a.c.c2, .int .i64 a.c.c3, .slice A a.c.l.length ca, .slice C a.e.length cc]] W fun e w' => e = .returned (.int .i64 (errT a)) ∧ Gr W w') := fun W h => checkT_any a A ca C cc W hal hael (hra.gr h) (hda.gr h)
  have hC2 : Hid (∀ W, Gr w W → Calls Try.prog 34 #[.agg #[.int .i64 b.c.c0, .int .i64 b.c.c1, .int .i64 b.c.c2, .int .i64 b.c.c3, .slice B b.c.l.length cb, .slice D b.e.length cd]] W fun e w' => e = .returned (.int .i64 (errT b)) ∧ Gr W w') := fun W h => checkT_any b B cb D cd W hbl hbel (hrb.gr h) (hdb.gr h)
  clear hal hael hbl hbel hra hda hrb hdb
  have i0 := idxT0 (.int .i64 a.c.c0) (.int .i64 a.c.c1) (.int .i64 a.c.c2) (.int .i64 a.c.c3) (.slice A a.c.l.length ca) (.slice C a.e.length cc) (.int .i64 b.c.c0) (.int .i64 b.c.c1) (.int .i64 b.c.c2) (.int .i64 b.c.c3) (.slice B b.c.l.length cb) (.slice D b.e.length cd)
  have i1 := idxT1 (.int .i64 a.c.c0) (.int .i64 a.c.c1) (.int .i64 a.c.c2) (.int .i64 a.c.c3) (.slice A a.c.l.length ca) (.slice C a.e.length cc) (.int .i64 b.c.c0) (.int .i64 b.c.c1) (.int .i64 b.c.c2) (.int .i64 b.c.c3) (.slice B b.c.l.length cb) (.slice D b.e.length cd)
  have hE : Hid (errP a b = if errT a ≠ 0 then errT a else errT b) := rfl
  obtain ⟨E1, hE1⟩ : ∃ E, errT a = E := ⟨_, rfl⟩
  obtain ⟨E2, hE2⟩ : ∃ E, errT b = E := ⟨_, rfl⟩
  rw [hE1, hE2] at hE
  rw [hE1] at hC1
  rw [hE2] at hC2
  clear hE1 hE2
  obtain ⟨EP, hEP⟩ : ∃ E, errP a b = E := ⟨_, rfl⟩
  rw [hEP] at hE ⊢
  clear hEP
  go_enter Try.func23, Try.ntmps23
  go_wp2
  obtain ⟨W1, hW1⟩ : ∃ W1, w.alloc (.cells #[.int .i64 a.c.c0, .int .i64 a.c.c1, .int .i64 a.c.c2, .int .i64 a.c.c3, .slice A a.c.l.length ca, .slice C a.e.length cc, .int .i64 b.c.c0, .int .i64 b.c.c1, .int .i64 b.c.c2, .int .i64 b.c.c3, .slice B b.c.l.length cb, .slice D b.e.length cd] 31) = W1 := ⟨_, rfl⟩
  have hg1 : Gr w W1 := by rw [← hW1]; exact (Gr.refl _).alloc _
  rw [hW1]
  clear hW1
  refine wp_loop_rounds 3 ?_
  rw [rounds_succ]
  have hg2 : Gr w (W1.alloc (.cells #[.int .i64 a.c.c0, .int .i64 a.c.c1, .int .i64 a.c.c2, .int .i64 a.c.c3, .slice A a.c.l.length ca, .slice C a.e.length cc] 28)) := hg1.alloc _
  cases h1 : (E1 != 0)
  · have hE10 : E1 = 0 := by simpa using h1
    go_wp2_with (go_at_call 34; refine Calls.mono (hC1.out _ hg2) ?_; rintro e w2 ⟨rfl, hg3⟩)
    rw [rounds_succ]
    have hg4 : Gr w (w2.alloc (.cells #[.int .i64 b.c.c0, .int .i64 b.c.c1, .int .i64 b.c.c2, .int .i64 b.c.c3, .slice B b.c.l.length cb, .slice D b.e.length cd] 28)) := (hg2.trans hg3).alloc _
    cases h2 : (E2 != 0)
    · have hE20 : E2 = 0 := by simpa using h2
      go_wp2_with (go_at_call 34; refine Calls.mono (hC2.out _ hg4) ?_; rintro e w3 ⟨rfl, hg5⟩)
      rw [rounds_succ]
      go_wp2
      go_ret
      rw [hE.out, hE10, hE20]
      exact ⟨rfl, hg4.trans hg5⟩
    · go_wp2_with (go_at_call 34; refine Calls.mono (hC2.out _ hg4) ?_; rintro e w3 ⟨rfl, hg5⟩)
      go_ret
      rw [hE.out, hE10]
      exact ⟨rfl, hg4.trans hg5⟩
  · have hE10 : E1 ≠ 0 := by simpa using h1
    go_wp2_with (go_at_call 34; refine Calls.mono (hC1.out _ hg2) ?_; rintro e w2 ⟨rfl, hg3⟩)
    go_ret
    rw [hE.out, if_pos hE10]
    exact ⟨rfl, hg2.trans hg3⟩
/-- What Encode tells. -/
def encR (a b : Tab) : List UInt8 := if errP a b = 0 then encP a b else []
theorem errP_ok {a b : Tab} (h : errP a b = 0) : errT a = 0 ∧ errT b = 0 := by
  unfold errP at h
  by_cases h1 : errT a = 0
  · exact ⟨h1, by simpa [h1] using h⟩
  · rw [if_pos h1] at h
    exact absurd h h1
theorem errT_small {t : Tab} (h : errT t = 0) : t.c.l.length ≤ 400 ∧ t.e.length ≤ 400 := ⟨(wctx_parts (errT_parts h).1).2.1, (errT_parts h).2.1⟩
theorem codT_ne (t : Tab) : codT t ≠ [] := by
  unfold codT numL
  simp [leb_ne]

set_option maxRecDepth 100000 in
set_option maxHeartbeats 4000000 in
theorem encode_any (a b : Tab) (A C : Option Addr) (ca cc : Nat) (B D : Option Addr) (cb cd : Nat) (w : World) (hal : a.c.l.length ≤ maxLen) (hael : a.e.length ≤ maxLen) (hbl : b.c.l.length ≤ maxLen) (hbel : b.e.length ≤ maxLen) (hra : Row w A a.c.l) (hda : RowC w C a.e) (hrb : Row w B b.c.l) (hdb : RowC w D b.e) :
    Calls Try.prog 8 #[.agg #[.int .i64 a.c.c0, .int .i64 a.c.c1, .int .i64 a.c.c2, .int .i64 a.c.c3, .slice A a.c.l.length ca, .slice C a.e.length cc, .int .i64 b.c.c0, .int .i64 b.c.c1, .int .i64 b.c.c2, .int .i64 b.c.c3, .slice B b.c.l.length cb, .slice D b.e.length cd]] w fun e w' => e = .returned (.tuple #[.string ⟨(encR a b).toArray⟩, .int .i64 (errP a b)]) ∧ Below w.heap.size w w' := by
  obtain ⟨W1, hW1⟩ : ∃ W1, w.alloc (.cells #[.int .i64 a.c.c0, .int .i64 a.c.c1, .int .i64 a.c.c2, .int .i64 a.c.c3, .slice A a.c.l.length ca, .slice C a.e.length cc, .int .i64 b.c.c0, .int .i64 b.c.c1, .int .i64 b.c.c2, .int .i64 b.c.c3, .slice B b.c.l.length cb, .slice D b.e.length cd] 31) = W1 := ⟨_, rfl⟩
  have hg1 : Gr w W1 := by rw [← hW1]; exact (Gr.refl _).alloc _
  obtain ⟨BP, hBP⟩ : ∃ BP, w.heap.size = BP := ⟨_, rfl⟩
  have hlt1 : BP < W1.heap.size := by rw [← hW1, ← hBP]; simp
  have c0 : W1.cell? ⟨BP, 0, none⟩ = some (.int .i64 a.c.c0) := by rw [← hW1, ← hBP]; exact box1 (w := w) (Gr.refl _) rfl
  have c1 : W1.cell? ⟨BP, 1, none⟩ = some (.int .i64 a.c.c1) := by rw [← hW1, ← hBP]; exact box1 (w := w) (Gr.refl _) rfl
  have c2 : W1.cell? ⟨BP, 2, none⟩ = some (.int .i64 a.c.c2) := by rw [← hW1, ← hBP]; exact box1 (w := w) (Gr.refl _) rfl
  have c3 : W1.cell? ⟨BP, 3, none⟩ = some (.int .i64 a.c.c3) := by rw [← hW1, ← hBP]; exact box1 (w := w) (Gr.refl _) rfl
  have c4 : W1.cell? ⟨BP, 4, none⟩ = some (.slice A a.c.l.length ca) := by rw [← hW1, ← hBP]; exact box1 (w := w) (Gr.refl _) rfl
  have c5 : W1.cell? ⟨BP, 5, none⟩ = some (.slice C a.e.length cc) := by rw [← hW1, ← hBP]; exact box1 (w := w) (Gr.refl _) rfl
  have c6 : W1.cell? ⟨BP, 6, none⟩ = some (.int .i64 b.c.c0) := by rw [← hW1, ← hBP]; exact box1 (w := w) (Gr.refl _) rfl
  have c7 : W1.cell? ⟨BP, 7, none⟩ = some (.int .i64 b.c.c1) := by rw [← hW1, ← hBP]; exact box1 (w := w) (Gr.refl _) rfl
  have c8 : W1.cell? ⟨BP, 8, none⟩ = some (.int .i64 b.c.c2) := by rw [← hW1, ← hBP]; exact box1 (w := w) (Gr.refl _) rfl
  have c9 : W1.cell? ⟨BP, 9, none⟩ = some (.int .i64 b.c.c3) := by rw [← hW1, ← hBP]; exact box1 (w := w) (Gr.refl _) rfl
  have c10 : W1.cell? ⟨BP, 10, none⟩ = some (.slice B b.c.l.length cb) := by rw [← hW1, ← hBP]; exact box1 (w := w) (Gr.refl _) rfl
  have c11 : W1.cell? ⟨BP, 11, none⟩ = some (.slice D b.e.length cd) := by rw [← hW1, ← hBP]; exact box1 (w := w) (Gr.refl _) rfl
  have hC := checkP_any a b A C ca cc B D cb cd W1 hal hael hbl hbel (hra.gr hg1) (hda.gr hg1) (hrb.gr hg1) (hdb.gr hg1)
  have hCH : Hid _ := hC
  have hrows : Hid (Row w A a.c.l ∧ RowC w C a.e ∧ Row w B b.c.l ∧ RowC w D b.e) := ⟨hra, hda, hrb, hdb⟩
  clear hC hal hael hbl hbel hra hda hrb hdb
  have hR0 : Hid (encR a b = if errP a b = 0 then encP a b else []) := rfl
  have hok : Hid (errP a b = 0 → errT a = 0 ∧ errT b = 0) := errP_ok
  obtain ⟨EP, hEP⟩ : ∃ E, errP a b = E := ⟨_, rfl⟩
  obtain ⟨RP, hRP⟩ : ∃ R, encR a b = R := ⟨_, rfl⟩
  rw [hEP] at hCH hR0 hok ⊢
  rw [hRP] at hR0 ⊢
  clear hEP hRP
  go_enter Try.func8, Try.ntmps8
  go_wp2_with fail
  refine Calls.mono (show Calls _ _ _ _ _ from hCH.out) ?_
  rintro e w2 ⟨rfl, hg2⟩
  clear hCH hW1
  by_cases hE0 : EP = 0
  · subst hE0
    have hsm := hok.out rfl
    have hR1 : Hid (RP = encP a b) := by show _ = _; rw [hR0.out, if_pos rfl]
    clear hR0 hok
    have hla := errT_small hsm.1
    have hlb := errT_small hsm.2
    have d0 := (hg2.cell (p := ⟨BP, 0, none⟩) hlt1).trans c0
    have d1 := (hg2.cell (p := ⟨BP, 1, none⟩) hlt1).trans c1
    have d2 := (hg2.cell (p := ⟨BP, 2, none⟩) hlt1).trans c2
    have d3 := (hg2.cell (p := ⟨BP, 3, none⟩) hlt1).trans c3
    have d4 := (hg2.cell (p := ⟨BP, 4, none⟩) hlt1).trans c4
    have d5 := (hg2.cell (p := ⟨BP, 5, none⟩) hlt1).trans c5
    have d6 := (hg2.cell (p := ⟨BP, 6, none⟩) hlt1).trans c6
    have d7 := (hg2.cell (p := ⟨BP, 7, none⟩) hlt1).trans c7
    have d8 := (hg2.cell (p := ⟨BP, 8, none⟩) hlt1).trans c8
    have d9 := (hg2.cell (p := ⟨BP, 9, none⟩) hlt1).trans c9
    have d10 := (hg2.cell (p := ⟨BP, 10, none⟩) hlt1).trans c10
    have d11 := (hg2.cell (p := ⟨BP, 11, none⟩) hlt1).trans c11
    have hgw2 : Gr w w2 := hg1.trans hg2
    have hbw : w.heap.size ≤ w2.heap.size := hgw2.size
    clear c0 c1 c2 c3 c4 c5 c6 c7 c8 c9 c10 c11 hlt1 hg1 hg2 hsm
    go_wp2
    clear d0 d1 d2 d3 d4 d5 d6 d7 d8 d9 d10 d11
    have i0 := idxT0 (.int .i64 a.c.c0) (.int .i64 a.c.c1) (.int .i64 a.c.c2) (.int .i64 a.c.c3) (.slice A a.c.l.length ca) (.slice C a.e.length cc) (.int .i64 b.c.c0) (.int .i64 b.c.c1) (.int .i64 b.c.c2) (.int .i64 b.c.c3) (.slice B b.c.l.length cb) (.slice D b.e.length cd)
    have i1 := idxT1 (.int .i64 a.c.c0) (.int .i64 a.c.c1) (.int .i64 a.c.c2) (.int .i64 a.c.c3) (.slice A a.c.l.length ca) (.slice C a.e.length cc) (.int .i64 b.c.c0) (.int .i64 b.c.c1) (.int .i64 b.c.c2) (.int .i64 b.c.c3) (.slice B b.c.l.length cb) (.slice D b.e.length cd)
    refine wp_loop_rounds 3 ?_
    rw [rounds_succ]
    have hg3 : Gr w (w2.alloc (.cells #[.int .i64 a.c.c0, .int .i64 a.c.c1, .int .i64 a.c.c2, .int .i64 a.c.c3, .slice A a.c.l.length ca, .slice C a.e.length cc] 28)) := hgw2.alloc _
    have hC := appTable_any a A ca C cc w.heap.size (.slice none 0 0) [] (w2.alloc (.cells #[.int .i64 a.c.c0, .int .i64 a.c.c1, .int .i64 a.c.c2, .int .i64 a.c.c3, .slice A a.c.l.length ca, .slice C a.e.length cc] 28)) (by simp) hla.1 hla.2 hg3.size (OwnG.nil _ _ _ _ _) (hrows.out.1.gr hg3) (hrows.out.2.1.gr hg3) hrows.out.1.lt hrows.out.2.1.lt
    have hCH : Hid _ := hC
    clear hC
    go_wp2_with (go_at_call 24; refine Calls.mono (show Calls _ _ _ _ _ from hCH.out) ?_; rintro e w3 ⟨v3, rfl, h3⟩)
    rw [rounds_succ]
    have hb3 : Below w.heap.size w w3 := hg3.below.trans (OwnG.grw_below (show OwnB _ _ _ [] from OwnG.nil _ _ _ _ _) h3.out.2 hg3.size)
    have hb4 : Below w.heap.size w (w3.alloc (.cells #[.int .i64 b.c.c0, .int .i64 b.c.c1, .int .i64 b.c.c2, .int .i64 b.c.c3, .slice B b.c.l.length cb, .slice D b.e.length cd] 28)) := hb3.trans (((Gr.refl w3).alloc _).below.mono hb3.size)
    have hO4 : OwnB (w3.alloc (.cells #[.int .i64 b.c.c0, .int .i64 b.c.c1, .int .i64 b.c.c2, .int .i64 b.c.c3, .slice B b.c.l.length cb, .slice D b.e.length cd] 28)) w.heap.size v3 (codT a) := h3.out.1.gr ((Gr.refl w3).alloc _)
    have hC := appTable_any b B cb D cd w.heap.size v3 (codT a) (w3.alloc (.cells #[.int .i64 b.c.c0, .int .i64 b.c.c1, .int .i64 b.c.c2, .int .i64 b.c.c3, .slice B b.c.l.length cb, .slice D b.e.length cd] 28)) (codT_len hla.1 hla.2) hlb.1 hlb.2 hb4.size hO4 (hrows.out.2.2.1.below hb4) (hrows.out.2.2.2.below hb4) hrows.out.2.2.1.lt hrows.out.2.2.2.lt
    have hCH2 : Hid _ := hC
    clear hC hCH h3 hg3
    go_wp2_with (go_at_call 24; refine Calls.mono (show Calls _ _ _ _ _ from hCH2.out) ?_; rintro e w5 ⟨v5, rfl, h5⟩)
    rw [rounds_succ]
    have hb5 : Below w.heap.size w w5 := hb4.trans (OwnG.grw_below hO4 h5.out.2 hb4.size)
    obtain ⟨x, hx⟩ : ∃ x, codT a ++ codT b = x := ⟨_, rfl⟩
    have hO5 := h5.out.1
    rw [hx] at hO5
    have hxl : x.length ≤ 60000 := by
      rw [← hx, List.length_append]
      have := codT_len hla.1 hla.2
      have := codT_len hlb.1 hlb.2
      omega
    have hxn : x ≠ [] := by rw [← hx]; simp [codT_ne]
    have hRx : Hid (x ++ sumB (sumL x) = RP) := by
      show _ = _
      rw [hR1.out, ← hx]
      rfl
    obtain ⟨A5, k5, hv5, _⟩ := OwnG.row encB_len hO5
    subst hv5
    have hcv := conv_own hO5 hxn
    have hS := sumBytes_any x w5 (by unfold maxLen; omega)
    have hSH : Hid _ := hS
    obtain ⟨X, hX⟩ := joinB x (sumB (sumL x))
    have hadd := addB hX.out rfl rfl (by rw [sumB_len]; omega)
    clear hS hO5 h5 hCH2 hO4 hx
    go_wp2_with (go_at_call 25; refine Calls.mono (show Calls _ _ _ _ _ from hSH.out) ?_; rintro e w6 ⟨rfl, hg6⟩)
    go_ret2
    rw [hX.out, hRx.out]
    exact ⟨rfl, hb5.trans (hg6.below.mono hb5.size)⟩
  · have hEb : (EP != 0) = true := by simpa using hE0
    have hRe : Hid (RP = []) := by show _ = _; rw [hR0.out, if_neg hE0]
    go_wp2
    go_ret2
    rw [hRe.out]
    exact ⟨rfl, (hg1.trans hg2).below⟩
end Go.Proofs.Ytbhhpijidbhipaa
