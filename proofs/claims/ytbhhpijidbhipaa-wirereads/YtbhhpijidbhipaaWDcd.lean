/-
  viewref.Decoded: the packet whose bytes a text begins with (gens/mkdec2.py writes it).
-/
import Derived.Test.YtbhhpijidbhipaaWDM
import Derived.Laws.EntriesVeiled
import Derived.Deep.RegionHeld3
namespace Go.Proofs.Ytbhhpijidbhipaa
open Go.RowKit Go.Sort

def zeroT : List Value := [.int .i64 0, .int .i64 0, .int .i64 0, .int .i64 0, .slice none 0 0, .slice none 0 0]
theorem sz1 (w : World) (o : Obj) : (w.alloc o).heap.size = w.heap.size + 1 := by simp
theorem dec_start (x : List UInt8) (w : World) {N : Nat} (hN : w.heap.size = N) (T1 T2 T3 T4 T5 : TypeId) : Dec w ((((((w.alloc (.cells #[.string ⟨x.toArray⟩] T1)).alloc (.cells (zeroT ++ zeroT).toArray T2)).alloc (.cells #[.int .i64 0] T3)).alloc (.cells #[.bool true] T4)).alloc (.cells #[nextF N] T5)).alloc (.cells (zeroT ++ zeroT).toArray T2)) N x 0 true (zeroT ++ zeroT) (zeroT ++ zeroT) := by
  obtain ⟨w1, h1⟩ : ∃ w1, w.alloc (.cells #[.string ⟨x.toArray⟩] T1) = w1 := ⟨_, rfl⟩
  obtain ⟨w2, h2⟩ : ∃ w2, w1.alloc (.cells (zeroT ++ zeroT).toArray T2) = w2 := ⟨_, rfl⟩
  obtain ⟨w3, h3⟩ : ∃ w3, w2.alloc (.cells #[.int .i64 0] T3) = w3 := ⟨_, rfl⟩
  obtain ⟨w4, h4⟩ : ∃ w4, w3.alloc (.cells #[.bool true] T4) = w4 := ⟨_, rfl⟩
  obtain ⟨w5, h5⟩ : ∃ w5, w4.alloc (.cells #[nextF N] T5) = w5 := ⟨_, rfl⟩
  obtain ⟨w6, h6⟩ : ∃ w6, w5.alloc (.cells (zeroT ++ zeroT).toArray T2) = w6 := ⟨_, rfl⟩
  rw [h1, h2, h3, h4, h5, h6]
  have s1 : w1.heap.size = N + 1 := by rw [← h1, sz1, hN]
  have s2 : w2.heap.size = N + 2 := by rw [← h2, sz1, s1]
  have s3 : w3.heap.size = N + 3 := by rw [← h3, sz1, s2]
  have s4 : w4.heap.size = N + 4 := by rw [← h4, sz1, s3]
  have s5 : w5.heap.size = N + 5 := by rw [← h5, sz1, s4]
  have s6 : w6.heap.size = N + 6 := by rw [← h6, sz1, s5]
  have g56 : Gr w5 w6 := by rw [← h6]; exact (Gr.refl _).alloc _
  have g46 : Gr w4 w6 := by refine Gr.trans ?_ g56; rw [← h5]; exact (Gr.refl _).alloc _
  have g36 : Gr w3 w6 := by refine Gr.trans ?_ g46; rw [← h4]; exact (Gr.refl _).alloc _
  have g26 : Gr w2 w6 := by refine Gr.trans ?_ g36; rw [← h3]; exact (Gr.refl _).alloc _
  have g16 : Gr w1 w6 := by refine Gr.trans ?_ g26; rw [← h2]; exact (Gr.refl _).alloc _
  have g06 : Gr w w6 := by refine Gr.trans ?_ g16; rw [← h1]; exact (Gr.refl _).alloc _
  have c0 := box1 (w := w) (h1 ▸ g16) (j := 0) rfl
  have c1 : ∀ j, j < 12 → w6.cell? ⟨N + 1, j, none⟩ = (zeroT ++ zeroT)[j]? := by
    intro j hj
    have hj' : j < (zeroT ++ zeroT).length := hj
    have := box1 (w := w1) (h2 ▸ g26) (j := j) (v := (zeroT ++ zeroT)[j]) (by rw [List.getElem?_toArray, List.getElem?_eq_getElem hj'])
    rw [s1] at this
    rw [this, List.getElem?_eq_getElem hj']
  have f1 : ∀ j, w6.frozen? ⟨N + 1, j, none⟩ = false := by intro j; have := box1f (w := w1) (h2 ▸ g26) j; rwa [s1] at this
  have c2 := box1 (w := w2) (h3 ▸ g36) (j := 0) rfl
  have f2 := box1f (w := w2) (h3 ▸ g36) 0
  have c3 := box1 (w := w3) (h4 ▸ g46) (j := 0) rfl
  have f3 := box1f (w := w3) (h4 ▸ g46) 0
  have c4 := box1 (w := w4) (h5 ▸ g56) (j := 0) rfl
  have g66 : Gr (w5.alloc (.cells (zeroT ++ zeroT).toArray T2)) w6 := by rw [h6]; exact Gr.refl _
  have c5 : ∀ j, j < 12 → w6.cell? ⟨N + 5, j, none⟩ = (zeroT ++ zeroT)[j]? := by
    intro j hj
    have hj' : j < (zeroT ++ zeroT).length := hj
    have := box1 (w := w5) g66 (j := j) (v := (zeroT ++ zeroT)[j]) (by rw [List.getElem?_toArray, List.getElem?_eq_getElem hj'])
    rw [s5] at this
    rw [this, List.getElem?_eq_getElem hj']
  have f5 : ∀ j, w6.frozen? ⟨N + 5, j, none⟩ = false := by intro j; have := box1f (w := w5) g66 j; rwa [s5] at this
  rw [hN] at c0
  rw [s2] at c2 f2
  rw [s3] at c3 f3
  rw [s4] at c4
  exact ⟨g06.below, hN, by omega, ⟨c3, c0, c2, f3, f2, by omega⟩, c4, c1, f1, c5, f5, rfl⟩


theorem dm_start (x : List UInt8) (w : World) {N : Nat} (hN : w.heap.size = N) (T1 T2 T3 T4 T5 : TypeId) {W0 : World} (hW0 : (((((w.alloc (.cells #[.string ⟨x.toArray⟩] T1)).alloc (.cells zero12.toArray T2)).alloc (.cells #[.int .i64 0] T3)).alloc (.cells #[.bool true] T4)).alloc (.cells #[nextF N] T5)).alloc (.cells zero12.toArray T2) = W0) : DM w W0 N x (x, true) zero12 (N + 6) W0 := by
  have h := dec_start x w hN T1 T2 T3 T4 T5
  have h : Dec w W0 N x 0 true zero12 zero12 := by rw [← hW0]; exact h
  exact ⟨⟨0, true, by simp, h⟩, Mid.refl _ _ _, Nat.le_refl _, h.sz⟩
/-- What Decoded has read: both tables, and the rows that they stand on. -/
structure DF (w W : World) (N : Nat) (x : List UInt8) (a b : Tab) (A : Option Addr) (ca : Nat) (C : Option Addr) (cc : Nat) (E : Option Addr) (ce : Nat) (D : Option Addr) (cd : Nat) (at_ : Nat) (ok : Bool) : Prop where
  d : Dec w W N x at_ ok zero12 [.int .i64 a.c.c0, .int .i64 a.c.c1, .int .i64 a.c.c2, .int .i64 a.c.c3, .slice A a.c.l.length ca, .slice C a.e.length cc, .int .i64 b.c.c0, .int .i64 b.c.c1, .int .i64 b.c.c2, .int .i64 b.c.c3, .slice E b.c.l.length ce, .slice D b.e.length cd]
  rA : Row W A a.c.l
  rC : RowC W C a.e
  rE : Row W E b.c.l
  rD : RowC W D b.e
  bA : ∀ p, A = some p → N + 6 ≤ p.block
  bC : ∀ p, C = some p → N + 6 ≤ p.block
  bE : ∀ p, E = some p → N + 6 ≤ p.block
  bD : ∀ p, D = some p → N + 6 ≤ p.block

theorem DF.gr {w W W' : World} {N : Nat} {x : List UInt8} {a b : Tab} {A : Option Addr} {ca : Nat} {C : Option Addr} {cc : Nat} {E : Option Addr} {ce : Nat} {D : Option Addr} {cd at_ : Nat} {ok : Bool} (h : DF w W N x a b A ca C cc E ce D cd at_ ok) (k : Gr W W') : DF w W' N x a b A ca C cc E ce D cd at_ ok :=
  ⟨h.d.grow k, h.rA.gr k, h.rC.gr k, h.rE.gr k, h.rD.gr k, h.bA, h.bC, h.bE, h.bD⟩
theorem Dec.setOk {w wr : World} {N : Nat} {x : List UInt8} {at_ : Nat} {ok : Bool} {Z P : List Value} (h : Dec w wr N x at_ ok Z P) (q : Bool) : Dec w (wr.setCell ⟨N + 3, 0, none⟩ (.bool q)) N x at_ q Z P := by
  have far : ∀ b j, b ≠ N + 3 → (wr.setCell ⟨N + 3, 0, none⟩ (.bool q)).cell? ⟨b, j, none⟩ = wr.cell? ⟨b, j, none⟩ := by
    intro b j h1
    rw [World.cell?_setCell_far _ _ _ _ (show N + 3 ≠ b from Ne.symm h1)]
  exact ⟨h.g.setCell (by show w.heap.size ≤ N + 3; have := h.n0; omega) _, h.n0, by simp; exact h.sz,
    ⟨cell_same _ h.r.o, by rw [far _ _ (by omega)]; exact h.r.s, by rw [far _ _ (by omega)]; exact h.r.a, by simp [h.r.fo], by simp [h.r.fa], h.r.le⟩, by rw [far _ _ (by omega)]; exact h.n,
    fun j hj => by rw [far _ _ (by omega)]; exact h.z j hj, fun j => by simp [h.fz j], fun j hj => by rw [far _ _ (by omega)]; exact h.p j hj, fun j => by simp [h.fp j], h.pl⟩
theorem DF.setOk {w W : World} {N : Nat} {x : List UInt8} {a b : Tab} {A : Option Addr} {ca : Nat} {C : Option Addr} {cc : Nat} {E : Option Addr} {ce : Nat} {D : Option Addr} {cd at_ : Nat} {ok : Bool} (h : DF w W N x a b A ca C cc E ce D cd at_ ok) (q : Bool) : DF w (W.setCell ⟨N + 3, 0, none⟩ (.bool q)) N x a b A ca C cc E ce D cd at_ q :=
  ⟨h.d.setOk q, h.rA.setCell _ (fun p e => by have := h.bA p e; omega), RowG.setCell h.rC _ (fun p e => by have := h.bC p e; omega), h.rE.setCell _ (fun p e => by have := h.bE p e; omega), RowG.setCell h.rD _ (fun p e => by have := h.bD p e; omega), h.bA, h.bC, h.bE, h.bD⟩
theorem DF.zb {w W : World} {N : Nat} {x : List UInt8} {a b : Tab} {A : Option Addr} {ca : Nat} {C : Option Addr} {cc : Nat} {E : Option Addr} {ce : Nat} {D : Option Addr} {cd at_ : Nat} {ok : Bool} (h : DF w W N x a b A ca C cc E ce D cd at_ ok) : Bx W (N + 1) [.int .i64 0, .int .i64 0, .int .i64 0, .int .i64 0, .slice none 0 0, .slice none 0 0, .int .i64 0, .int .i64 0, .int .i64 0, .int .i64 0, .slice none 0 0, .slice none 0 0] :=
  ⟨fun j hj => h.d.z j (by simpa using hj), h.d.fz, by have := h.d.sz; omega⟩
structure PS (W : World) (N at_ : Nat) (P : List Value) : Prop where
  p : ∀ j, j < 12 → W.cell? ⟨N + 5, j, none⟩ = P[j]?
  a : W.cell? ⟨N + 2, 0, none⟩ = some (.int .i64 at_)
theorem PS.set {W : World} {N at_ : Nat} {P : List Value} (h : PS W N at_ P) (j : Nat) (v : Value) : PS (W.setCell ⟨N + 1, j, none⟩ v) N at_ P :=
  ⟨fun i hi => by rw [World.cell?_setCell_far _ _ _ _ (show N + 1 ≠ N + 5 by omega)]; exact h.p i hi, by rw [World.cell?_setCell_far _ _ _ _ (show N + 1 ≠ N + 2 by omega)]; exact h.a⟩
theorem PS.dr {W : World} {N at_ : Nat} {P : List Value} (h : PS W N at_ P) : PS W.drew N at_ P := ⟨h.p, h.a⟩
theorem take_more4 {y S : List UInt8} {i : Nat} (hy : i < y.length) (hS : i < S.length) : (y.take (i + 1) == S.take (i + 1)) = ((y.take i == S.take i) && (y[i] == S[i])) := by
  rw [List.take_succ_eq_append_getElem hy, List.take_succ_eq_append_getElem hS, Bool.eq_iff_iff]
  simp only [beq_iff_eq, Bool.and_eq_true]
  constructor
  · intro h
    have := List.append_inj h (by rw [List.length_take, List.length_take]; omega)
    exact ⟨this.1, by simpa using this.2⟩
  · rintro ⟨h1, h2⟩
    rw [h1, h2]
theorem sumB_at (s i : Nat) (hi : i < 4) : (sumB s)[i]'(by rw [sumB_len]; exact hi) = UInt8.ofNat (s / 256 ^ i % 256) := by
  have h4 : i = 0 ∨ i = 1 ∨ i = 2 ∨ i = 3 := by omega
  rcases h4 with rfl | rfl | rfl | rfl <;> simp [sumB]
theorem byte_eq (c : UInt8) (m : Nat) : (c == UInt8.ofNat (m % 256)) = ((c.toNat : Int) == (m : Int) % 256) := by
  rw [Bool.eq_iff_iff]
  simp only [beq_iff_eq]
  constructor
  · intro h
    rw [h, UInt8.toNat_ofNat']
    omega
  · intro h
    apply UInt8.toNat_inj.mp
    rw [UInt8.toNat_ofNat']
    omega

set_option maxRecDepth 100000 in
set_option maxHeartbeats 16000000 in
theorem rdecoded_any (x : List UInt8) (w : World) (hxl : x.length ≤ 1000000000000000) :
    Calls Try.prog 14 #[.string ⟨x.toArray⟩] w fun e w' => ∃ (a b : Tab) (A : Option Addr) (ca : Nat) (C : Option Addr) (cc : Nat) (E : Option Addr) (ce : Nat) (D : Option Addr) (cd : Nat) (n er : Int), e = .returned (.tuple #[.agg #[.int .i64 a.c.c0, .int .i64 a.c.c1, .int .i64 a.c.c2, .int .i64 a.c.c3, .slice A a.c.l.length ca, .slice C a.e.length cc, .int .i64 b.c.c0, .int .i64 b.c.c1, .int .i64 b.c.c2, .int .i64 b.c.c3, .slice E b.c.l.length ce, .slice D b.e.length cd], .int .i64 n, .int .i64 er]) ∧ Hid ((a = decA x ∧ b = decB x ∧ n = decN x ∧ er = decE x) ∧ Row w' A a.c.l ∧ RowC w' C a.e ∧ Row w' E b.c.l ∧ RowC w' D b.e ∧ Below w.heap.size w w') := by
  have mixed : Try.prog.follows .mixedOrders = true := by kernel_rfl
  have hmf : ∀ (fn : Fn) (first cap : Array Value) (w : World), (Instr.makeFunc fn first cap).run Try.prog w = .ok (.func fn first cap) w := fun _ _ _ _ => rfl
  have hent : ∀ args w, (callFunc 29 args).run Try.prog w = .ok (.enter 29 args) w := enters_of Try.func29 (by kernel_rfl) rfl
  have hent2 : ∀ args w, (callFunc 31 args).run Try.prog w = .ok (.enter 31 args) w := enters_of Try.func31 (by kernel_rfl) rfl
  have hx : x.length ≤ maxLen := Nat.le_trans hxl (by decide)
  have hxlH : Hid (x.length ≤ 1000000000000000) := hxl
  clear hxl
  go_enter Try.func14, Try.ntmps14
  go_wp2
  obtain ⟨N, hN⟩ : ∃ N, w.heap.size = N := ⟨_, rfl⟩
  rw [hN]
  rw [show N + 1 + 1 + 1 + 1 + 1 = N + 5 from rfl, show N + 1 + 1 + 1 + 1 = N + 4 from rfl, show N + 1 + 1 + 1 = N + 3 from rfl, show N + 1 + 1 = N + 2 from rfl]
  have hD0 := dm_start x w hN 9 31 3 4 70 rfl
  simp only [zero12, nextF] at hD0
  revert hD0
  generalize World.alloc _ _ = W0
  intro hD0
  have hT0 : Hid (DM w W0 N x (x, true) [.int .i64 0, .int .i64 0, .int .i64 0, .int .i64 0, .slice none 0 0, .slice none 0 0, .int .i64 0, .int .i64 0, .int .i64 0, .int .i64 0, .slice none 0 0, .slice none 0 0] (N + 6) W0) := hD0
  clear hD0
  refine wp_loop_rounds 3 ?_
  rw [rounds_succ]
  go_wp2
  refine wp_loop_rounds 5 ?_
  obtain ⟨stp, hstp⟩ : ∃ t, (x, true) = t := ⟨_, rfl⟩
  rw [hstp] at hT0
  have hstpH : Hid ((x, true) = stp) := hstp
  clear hstp
  obtain ⟨tp0, htp0⟩ : ∃ t, stp = t := ⟨_, rfl⟩
  have htp0H : Hid (stp = tp0) := htp0
  rw [htp0] at hT0
  clear htp0
  rw [rounds_succ]
  have hE := hT0.out.gr (Gr.refl W0).drew
  have hn := hE.n
  obtain ⟨np0, hnp0⟩ : ∃ n, nxN tp0 = n := ⟨_, rfl⟩
  obtain ⟨tp1, htp1⟩ : ∃ t, nxS tp0 = t := ⟨_, rfl⟩
  have hC := hE.asks hx hnp0 htp1
  have hCH : Hid _ := hC
  have hnp0H : Hid (nxN tp0 = np0 ∧ nxS tp0 = tp1) := ⟨hnp0, htp1⟩
  clear hC hE hnp0 htp1
  go_wp2_with fail
  go_region_with (go_at_call 29; refine Calls.mono (show Calls _ _ _ _ _ from hCH.out) ?_; rintro e vp0 ⟨rfl, hD1, hK1⟩; have p1 : vp0.cell? ⟨N + 5, 0, none⟩ = some (.int .i64 0) := hD1.p (by omega); have f1 := hD1.fp 0; have hD1H : Hid (DM w vp0 N x tp1 [.int .i64 0, .int .i64 0, .int .i64 0, .int .i64 0, .slice none 0 0, .slice none 0 0, .int .i64 0, .int .i64 0, .int .i64 0, .int .i64 0, .slice none 0 0, .slice none 0 0] (N + 6) W0) := hD1; clear hD1)
  obtain ⟨Wp0, hWp0⟩ : ∃ W, vp0.setCell ⟨N + 5, 0, none⟩ (.int .i64 np0) = W := ⟨_, rfl⟩
  have hTp1 : Hid (DM w Wp0 N x tp1 [.int .i64 np0, .int .i64 0, .int .i64 0, .int .i64 0, .slice none 0 0, .slice none 0 0, .int .i64 0, .int .i64 0, .int .i64 0, .int .i64 0, .slice none 0 0, .slice none 0 0] (N + 6) W0) := by rw [← hWp0]; exact hD1H.out.put (i := 0) (by omega) _
  clear hCH hn p1 f1 hD1H hK1 hT0
  go_wp2
  clear hWp0
  rw [rounds_succ]
  have hE := hTp1.out.gr (Gr.refl Wp0).drew
  have hn := hE.n
  obtain ⟨np1, hnp1⟩ : ∃ n, nxN tp1 = n := ⟨_, rfl⟩
  obtain ⟨tp2, htp2⟩ : ∃ t, nxS tp1 = t := ⟨_, rfl⟩
  have hC := hE.asks hx hnp1 htp2
  have hCH : Hid _ := hC
  have hnp1H : Hid (nxN tp1 = np1 ∧ nxS tp1 = tp2) := ⟨hnp1, htp2⟩
  clear hC hE hnp1 htp2
  go_wp2_with fail
  go_region_with (go_at_call 29; refine Calls.mono (show Calls _ _ _ _ _ from hCH.out) ?_; rintro e vp1 ⟨rfl, hD1, hK1⟩; have p1 : vp1.cell? ⟨N + 5, 1, none⟩ = some (.int .i64 0) := hD1.p (by omega); have f1 := hD1.fp 1; have hD1H : Hid (DM w vp1 N x tp2 [.int .i64 np0, .int .i64 0, .int .i64 0, .int .i64 0, .slice none 0 0, .slice none 0 0, .int .i64 0, .int .i64 0, .int .i64 0, .int .i64 0, .slice none 0 0, .slice none 0 0] (N + 6) W0) := hD1; clear hD1)
  obtain ⟨Wp1, hWp1⟩ : ∃ W, vp1.setCell ⟨N + 5, 1, none⟩ (.int .i64 np1) = W := ⟨_, rfl⟩
  have hTp2 : Hid (DM w Wp1 N x tp2 [.int .i64 np0, .int .i64 np1, .int .i64 0, .int .i64 0, .slice none 0 0, .slice none 0 0, .int .i64 0, .int .i64 0, .int .i64 0, .int .i64 0, .slice none 0 0, .slice none 0 0] (N + 6) W0) := by rw [← hWp1]; exact hD1H.out.put (i := 1) (by omega) _
  clear hCH hn p1 f1 hD1H hK1 hTp1
  go_wp2
  clear hWp1
  rw [rounds_succ]
  have hE := hTp2.out.gr (Gr.refl Wp1).drew
  have hn := hE.n
  obtain ⟨np2, hnp2⟩ : ∃ n, nxN tp2 = n := ⟨_, rfl⟩
  obtain ⟨tp3, htp3⟩ : ∃ t, nxS tp2 = t := ⟨_, rfl⟩
  have hC := hE.asks hx hnp2 htp3
  have hCH : Hid _ := hC
  have hnp2H : Hid (nxN tp2 = np2 ∧ nxS tp2 = tp3) := ⟨hnp2, htp3⟩
  clear hC hE hnp2 htp3
  go_wp2_with fail
  go_region_with (go_at_call 29; refine Calls.mono (show Calls _ _ _ _ _ from hCH.out) ?_; rintro e vp2 ⟨rfl, hD1, hK1⟩; have p1 : vp2.cell? ⟨N + 5, 2, none⟩ = some (.int .i64 0) := hD1.p (by omega); have f1 := hD1.fp 2; have hD1H : Hid (DM w vp2 N x tp3 [.int .i64 np0, .int .i64 np1, .int .i64 0, .int .i64 0, .slice none 0 0, .slice none 0 0, .int .i64 0, .int .i64 0, .int .i64 0, .int .i64 0, .slice none 0 0, .slice none 0 0] (N + 6) W0) := hD1; clear hD1)
  obtain ⟨Wp2, hWp2⟩ : ∃ W, vp2.setCell ⟨N + 5, 2, none⟩ (.int .i64 np2) = W := ⟨_, rfl⟩
  have hTp3 : Hid (DM w Wp2 N x tp3 [.int .i64 np0, .int .i64 np1, .int .i64 np2, .int .i64 0, .slice none 0 0, .slice none 0 0, .int .i64 0, .int .i64 0, .int .i64 0, .int .i64 0, .slice none 0 0, .slice none 0 0] (N + 6) W0) := by rw [← hWp2]; exact hD1H.out.put (i := 2) (by omega) _
  clear hCH hn p1 f1 hD1H hK1 hTp2
  go_wp2
  clear hWp2
  rw [rounds_succ]
  have hE := hTp3.out.gr (Gr.refl Wp2).drew
  have hn := hE.n
  obtain ⟨np3, hnp3⟩ : ∃ n, nxN tp3 = n := ⟨_, rfl⟩
  obtain ⟨tp4, htp4⟩ : ∃ t, nxS tp3 = t := ⟨_, rfl⟩
  have hC := hE.asks hx hnp3 htp4
  have hCH : Hid _ := hC
  have hnp3H : Hid (nxN tp3 = np3 ∧ nxS tp3 = tp4) := ⟨hnp3, htp4⟩
  clear hC hE hnp3 htp4
  go_wp2_with fail
  go_region_with (go_at_call 29; refine Calls.mono (show Calls _ _ _ _ _ from hCH.out) ?_; rintro e vp3 ⟨rfl, hD1, hK1⟩; have p1 : vp3.cell? ⟨N + 5, 3, none⟩ = some (.int .i64 0) := hD1.p (by omega); have f1 := hD1.fp 3; have hD1H : Hid (DM w vp3 N x tp4 [.int .i64 np0, .int .i64 np1, .int .i64 np2, .int .i64 0, .slice none 0 0, .slice none 0 0, .int .i64 0, .int .i64 0, .int .i64 0, .int .i64 0, .slice none 0 0, .slice none 0 0] (N + 6) W0) := hD1; clear hD1)
  obtain ⟨Wp3, hWp3⟩ : ∃ W, vp3.setCell ⟨N + 5, 3, none⟩ (.int .i64 np3) = W := ⟨_, rfl⟩
  have hTp4 : Hid (DM w Wp3 N x tp4 [.int .i64 np0, .int .i64 np1, .int .i64 np2, .int .i64 np3, .slice none 0 0, .slice none 0 0, .int .i64 0, .int .i64 0, .int .i64 0, .int .i64 0, .slice none 0 0, .slice none 0 0] (N + 6) W0) := by rw [← hWp3]; exact hD1H.out.put (i := 3) (by omega) _
  clear hCH hn p1 f1 hD1H hK1 hTp3
  go_wp2
  clear hWp3
  rw [rounds_succ]
  obtain ⟨Mp, hMp, hMp4⟩ := my_natR tp4
  obtain ⟨sp, hsp⟩ : ∃ t, myS tp4 = t := ⟨_, rfl⟩
  have hC := hTp4.out.counts hx hMp hsp
  have hCH : Hid _ := hC
  have hMpH : Hid (myN tp4 = Mp ∧ myS tp4 = sp) := ⟨hMp, hsp⟩
  clear hC hMp hsp
  go_wp2_with fail
  refine Calls.mono (show Calls _ _ _ _ _ from hCH.out) ?_
  rintro e w1p ⟨rfl, hD1, hK1⟩
  obtain ⟨Hp, hHp⟩ : ∃ H, w1p.heap.size = H := ⟨_, rfl⟩
  have hT1p : Hid (DM w w1p N x sp [.int .i64 np0, .int .i64 np1, .int .i64 np2, .int .i64 np3, .slice none 0 0, .slice none 0 0, .int .i64 0, .int .i64 0, .int .i64 0, .int .i64 0, .slice none 0 0, .slice none 0 0] Hp w1p) := hD1.rebase hHp
  have hlep : Hid ((N + 6) ≤ Hp) := by show _ ≤ _; rw [← hHp]; exact hD1.sz
  clear hCH hK1 hD1 hTp4 
  go_wp2
  go_loopw [14] (fun kv wi => ∃ (k : Nat), kv = .int .i64 k ∧ k ≤ Mp ∧ ∃ (v : Value), Hid (DM w wi N x (dotsS k sp) [.int .i64 np0, .int .i64 np1, .int .i64 np2, .int .i64 np3, v, .slice none 0 0, .int .i64 0, .int .i64 0, .int .i64 0, .int .i64 0, .slice none 0 0, .slice none 0 0] Hp w1p ∧ Own wi Hp v (dotsL k sp))) (fun kv _ => Mp - (intOf kv).toNat)
  case atStart => exact ⟨0, rfl, by omega, .slice none 0 0, hT1p.out, Own.nil _ _⟩
  case round =>
    rename World => wj
    clear hT1p
    obtain ⟨k, rfl, hk, v, hR⟩ := hrel
    by_cases hlt : k < Mp
    · have hltz : (k : Int) < (Mp : Int) := by omega
      have hn := hR.out.1.n
      obtain ⟨n1, hn1⟩ : ∃ n, nxN (dotsS k sp) = n := ⟨_, rfl⟩
      obtain ⟨t1, ht1⟩ : ∃ t, nxS (dotsS k sp) = t := ⟨_, rfl⟩
      have hC := hR.out.1.asks hx hn1 ht1
      have hCH : Hid _ := hC
      clear hC
      go_wp2_with fail
      refine Calls.mono (show Calls _ _ _ _ _ from hCH.out) ?_
      rintro e w2 ⟨rfl, hD2, hK2⟩
      have hHN : Hid (N + 6 ≤ Hp) := hD2.hH
      have hHs2 : Hid (Hp ≤ w2.heap.size) := hD2.sz
      have hownA := hK2.out.own Hp v (dotsL k sp) hHN.out hR.out.2
      have hE := hD2.gr (Gr.refl w2).drew
      obtain ⟨n2, hn2⟩ : ∃ n, nxN t1 = n := ⟨_, rfl⟩
      obtain ⟨t2, ht2⟩ : ∃ t, nxS t1 = t := ⟨_, rfl⟩
      have hC := hE.asks hx hn2 ht2
      have hCH2 : Hid _ := hC
      have hownH : Hid (Own w2.drew Hp v (dotsL k sp)) := hownA.gr (Gr.refl w2).drew
      obtain ⟨va, vc, hv, _, _, _⟩ := hownA.row
      subst hv
      have p4 : w2.drew.cell? ⟨N + 5, 4, none⟩ = some (.slice va (dotsL k sp).length vc) := hE.p (by omega)
      have hn' := hE.n
      have hKeep : Hid (∀ W' t P, DM w W' N x t P Hp w1p → (fun w' => w'.cell? ⟨N + 4, 0, none⟩ = some (.func (.func 29) #[] #[.pointer (some ⟨N + 3, 0, none⟩), .pointer (some ⟨N, 0, none⟩), .pointer (some ⟨N + 2, 0, none⟩)])) W') := fun W' t P h => h.n
      have hEH : Hid (DM w w2.drew N x t1 [.int .i64 np0, .int .i64 np1, .int .i64 np2, .int .i64 np3, .slice va (dotsL k sp).length vc, .slice none 0 0, .int .i64 0, .int .i64 0, .int .i64 0, .int .i64 0, .slice none 0 0, .slice none 0 0] Hp w1p) := hE
      have hn1H : Hid (nxN (dotsS k sp) = n1 ∧ nxN (nxS (dotsS k sp)) = n2 ∧ nxS (nxS (dotsS k sp)) = t2) := by rw [ht1]; exact ⟨hn1, hn2, ht2⟩
      clear hC hCH hn hownA hD2 hE hn1 hn2 ht1 ht2 hR
      go_wp2_with fail
      refine wp_region_noPanic ?_
      refine wp_region_held_drew (S := (fun w' => w'.cell? ⟨N + 4, 0, none⟩ = some (.func (.func 29) #[] #[.pointer (some ⟨N + 3, 0, none⟩), .pointer (some ⟨N, 0, none⟩), .pointer (some ⟨N + 2, 0, none⟩)]))) (by kernel_rfl) (hKeep.out _ _ _ hEH.out) (fun hHeld => ?_)
      refine wpAnyH_take (i := 0) (oi := ?oisp1) (v := ?vsp1) ?hopsp1 ?hssp1 ?hfsp1 ?hrsp1 ?hQsp1 ?hysp1 (by assumption) ?restsp1
      case hopsp1 => (simp only [List.getElem?_toArray, List.getElem?_cons_zero]; rfl)
      case hssp1 => kernel_rfl
      case hfsp1 => kernel_rfl
      case hrsp1 => kernel_rfl
      case hQsp1 => exact fun _ _ _ h => h
      case hysp1 => (refine Or.inl ⟨by rfl, ?_⟩; intro w hSw; (try dsimp only at hSw); go_simp <;> with_reducible rfl)
      try simp only [Act.put, List.setIfInBounds_toArray, List.set_cons_zero, List.set_cons_succ]
      refine wpAnyH_take (i := 1) (oi := ?oisp2) (v := ?vsp2) ?hopsp2 ?hssp2 ?hfsp2 ?hrsp2 ?hQsp2 ?hysp2 (by assumption) ?restsp2
      case hopsp2 => (simp only [List.getElem?_toArray, List.getElem?_cons_zero, List.getElem?_cons_succ]; rfl)
      case hssp2 => kernel_rfl
      case hfsp2 => kernel_rfl
      case hrsp2 => kernel_rfl
      case hQsp2 => exact fun _ _ _ h => h
      case hysp2 => (refine Or.inl ⟨by rfl, ?_⟩; intro w hSw; (try dsimp only at hSw); go_simp <;> with_reducible rfl)
      try simp only [Act.put, List.setIfInBounds_toArray, List.set_cons_zero, List.set_cons_succ]
      refine wpAnyH_take (i := 2) (oi := ?oisp3) (v := ?vsp3) ?hopsp3 ?hssp3 ?hfsp3 ?hrsp3 ?hQsp3 ?hysp3 (by assumption) ?restsp3
      case hopsp3 => (simp only [List.getElem?_toArray, List.getElem?_cons_zero, List.getElem?_cons_succ]; rfl)
      case hssp3 => kernel_rfl
      case hfsp3 => kernel_rfl
      case hrsp3 => kernel_rfl
      case hQsp3 => exact fun _ _ _ h => h
      case hysp3 => (refine Or.inl ⟨by rfl, ?_⟩; intro w hSw; (try dsimp only at hSw); go_simp <;> with_reducible rfl)
      try simp only [Act.put, List.setIfInBounds_toArray, List.set_cons_zero, List.set_cons_succ]
      refine wpAnyH_take (i := 3) (oi := ?oisp4) (v := ?vsp4) ?hopsp4 ?hssp4 ?hfsp4 ?hrsp4 ?hQsp4 ?hysp4 (by assumption) ?restsp4
      case hopsp4 => (simp only [List.getElem?_toArray, List.getElem?_cons_zero, List.getElem?_cons_succ]; rfl)
      case hssp4 => kernel_rfl
      case hfsp4 => kernel_rfl
      case hrsp4 => kernel_rfl
      case hQsp4 => exact fun _ _ _ h => h
      case hysp4 => (refine Or.inl ⟨by rfl, ?_⟩; intro w hSw; (try dsimp only at hSw); go_simp <;> with_reducible rfl)
      try simp only [Act.put, List.setIfInBounds_toArray, List.set_cons_zero, List.set_cons_succ]
      refine wpAnyH_take (i := 4) (oi := ?oisp5) (v := ?vsp5) ?hopsp5 ?hssp5 ?hfsp5 ?hrsp5 ?hQsp5 ?hysp5 (by assumption) ?restsp5
      case hopsp5 => (simp only [List.getElem?_toArray, List.getElem?_cons_zero, List.getElem?_cons_succ]; rfl)
      case hssp5 => kernel_rfl
      case hfsp5 => kernel_rfl
      case hrsp5 => kernel_rfl
      case hQsp5 => exact fun _ _ _ h => h
      case hysp5 => (refine Or.inl ⟨by rfl, ?_⟩; intro w hSw; (try dsimp only at hSw); go_simp <;> with_reducible rfl)
      try simp only [Act.put, List.setIfInBounds_toArray, List.set_cons_zero, List.set_cons_succ]
      refine wpAnyH_take (i := 6) (oi := ?oisp6) (v := ?vsp6) ?hopsp6 ?hssp6 ?hfsp6 ?hrsp6 ?hQsp6 ?hysp6 (by assumption) ?restsp6
      case hopsp6 => (simp only [List.getElem?_toArray, List.getElem?_cons_zero, List.getElem?_cons_succ]; rfl)
      case hssp6 => kernel_rfl
      case hfsp6 => kernel_rfl
      case hrsp6 => kernel_rfl
      case hQsp6 => exact fun _ _ _ h => h
      case hysp6 => (refine Or.inl ⟨by rfl, ?_⟩; intro w hSw; (try dsimp only at hSw); go_simp <;> with_reducible rfl)
      try simp only [Act.put, List.setIfInBounds_toArray, List.set_cons_zero, List.set_cons_succ]
      refine wpAnyH_take (i := 7) (oi := ?oisp7) (v := ?vsp7) ?hopsp7 ?hssp7 ?hfsp7 ?hrsp7 ?hQsp7 ?hysp7 (by assumption) ?restsp7
      case hopsp7 => (simp only [List.getElem?_toArray, List.getElem?_cons_zero, List.getElem?_cons_succ]; rfl)
      case hssp7 => kernel_rfl
      case hfsp7 => kernel_rfl
      case hrsp7 => kernel_rfl
      case hQsp7 => exact fun _ _ _ h => h
      case hysp7 => (refine Or.inl ⟨by rfl, ?_⟩; intro w hSw; (try dsimp only at hSw); go_simp <;> with_reducible rfl)
      try simp only [Act.put, List.setIfInBounds_toArray, List.set_cons_zero, List.set_cons_succ]
      refine wpAnyH_ready (rs := [5, 8]) (by kernel_rfl) (by simp) ?_
      refine AllReadyH.cons (o := ?oisp8) ?hopsp8 (fun K hK => ?stepsp8) ?moresp8
      case hopsp8 => (simp only [List.getElem?_toArray, List.getElem?_cons_zero, List.getElem?_cons_succ]; rfl)
      case moresp8 =>
        refine AllReadyH.cons (o := ?oisp9) ?hopsp9 (fun K hK => ?stepsp9) ?moresp9
        case hopsp9 => (simp only [List.getElem?_toArray, List.getElem?_cons_zero, List.getElem?_cons_succ]; rfl)
        case moresp9 => exact AllReadyH.nil
        go_simp
        (go_at_call 29; (refine Calls.mono (show Calls _ _ _ _ _ from hCH2.out) ?_); rintro e w3 ⟨rfl, hD3, hK3⟩; have p4' : w3.cell? ⟨N + 5, 4, none⟩ = some (.slice va (dotsL k sp).length vc) := hD3.p (by omega); have p4a : (w3.alloc (.cells #[.int .i64 n1, .int .i64 n2] 51)).cell? ⟨N + 5, 4, none⟩ = some (.slice va (dotsL k sp).length vc) := (hD3.gr ((Gr.refl w3).alloc (.cells #[.int .i64 n1, .int .i64 n2] 51))).p (by omega); have hown3 : Hid (Own (w3.alloc (.cells #[.int .i64 n1, .int .i64 n2] 51)) Hp (.slice va (dotsL k sp).length vc) (dotsL k sp)) := (hK3.out.own _ _ _ hHN.out hownH.out).gr ((Gr.refl _).alloc _); have hs3 : Hid (Hp ≤ (w3.alloc (.cells #[.int .i64 n1, .int .i64 n2] 51)).heap.size) := (by show _ ≤ _; rw [sz1, hK3.out.sz]; have := hHs2.out; show Hp ≤ w2.heap.size + 1; omega); have hD3H : Hid (DM w w3 N x t2 [.int .i64 np0, .int .i64 np1, .int .i64 np2, .int .i64 np3, .slice va (dotsL k sp).length vc, .slice none 0 0, .int .i64 0, .int .i64 0, .int .i64 0, .int .i64 0, .slice none 0 0, .slice none 0 0] Hp w1p) := hD3; clear hD3)
        first | (go_wp2_with fail) | skip
        refine hK.out _ _ ?_ (fun hHeld => ?_)
        · (try dsimp only); first | with_reducible exact hKeep.out _ _ _ hD4H.out | exact hKeep.out _ _ _ (hD4H.out.put (i := 4) (by omega) _) | with_reducible exact hKeep.out _ _ _ hEH.out | with_reducible exact hKeep.out _ _ _ hD3H.out | exact hKeep.out _ _ _ (hD3H.out.gr ((Gr.refl _).alloc _))
        clear hK K
        try simp only [Act.put, List.setIfInBounds_toArray, List.set_cons_zero, List.set_cons_succ]
        refine wpAnyH_take (i := 9) (oi := ?oisp10) (v := ?vsp10) ?hopsp10 ?hssp10 ?hfsp10 ?hrsp10 ?hQsp10 ?hysp10 (by assumption) ?restsp10
        case hopsp10 => (simp only [List.getElem?_toArray, List.getElem?_cons_zero, List.getElem?_cons_succ]; rfl)
        case hssp10 => kernel_rfl
        case hfsp10 => kernel_rfl
        case hrsp10 => kernel_rfl
        case hQsp10 => exact fun _ _ _ h => h
        case hysp10 => (refine Or.inl ⟨by rfl, ?_⟩; intro w hSw; (try dsimp only at hSw); go_simp <;> with_reducible rfl)
        try simp only [Act.put, List.setIfInBounds_toArray, List.set_cons_zero, List.set_cons_succ]
        refine wpAnyH_ready (rs := [5, 10]) (by kernel_rfl) (by simp) ?_
        refine AllReadyH.cons (o := ?oisp11) ?hopsp11 (fun K hK => ?stepsp11) ?moresp11
        case hopsp11 => (simp only [List.getElem?_toArray, List.getElem?_cons_zero, List.getElem?_cons_succ]; rfl)
        case moresp11 =>
          refine AllReadyH.cons (o := ?oisp12) ?hopsp12 (fun K hK => ?stepsp12) ?moresp12
          case hopsp12 => (simp only [List.getElem?_toArray, List.getElem?_cons_zero, List.getElem?_cons_succ]; rfl)
          case moresp12 => exact AllReadyH.nil
          go_simp
          refine hK.out _ _ ?_ (fun hHeld => ?_)
          · (try dsimp only); first | with_reducible exact hKeep.out _ _ _ hD4H.out | exact hKeep.out _ _ _ (hD4H.out.put (i := 4) (by omega) _) | with_reducible exact hKeep.out _ _ _ hEH.out | with_reducible exact hKeep.out _ _ _ hD3H.out | exact hKeep.out _ _ _ (hD3H.out.gr ((Gr.refl _).alloc _))
          clear hK K
          try simp only [Act.put, List.setIfInBounds_toArray, List.set_cons_zero, List.set_cons_succ]
          refine wpAnyH_ready (rs := [5]) (by kernel_rfl) (by simp) ?_
          refine AllReadyH.cons (o := ?oisp13) ?hopsp13 (fun K hK => ?stepsp13) ?moresp13
          case hopsp13 => (simp only [List.getElem?_toArray, List.getElem?_cons_zero, List.getElem?_cons_succ]; rfl)
          case moresp13 => exact AllReadyH.nil
          go_simp
          refine hK.out _ _ ?_ (fun hHeld => ?_)
          · (try dsimp only); first | with_reducible exact hKeep.out _ _ _ hD4H.out | exact hKeep.out _ _ _ (hD4H.out.put (i := 4) (by omega) _) | with_reducible exact hKeep.out _ _ _ hEH.out | with_reducible exact hKeep.out _ _ _ hD3H.out | exact hKeep.out _ _ _ (hD3H.out.gr ((Gr.refl _).alloc _))
          clear hK K
          try simp only [Act.put, List.setIfInBounds_toArray, List.set_cons_zero, List.set_cons_succ]
          refine wpAnyH_ready (rs := [11]) (by kernel_rfl) (by simp) ?_
          refine AllReadyH.cons (o := ?oisp14) ?hopsp14 (fun K hK => ?stepsp14) ?moresp14
          case hopsp14 => (simp only [List.getElem?_toArray, List.getElem?_cons_zero, List.getElem?_cons_succ]; rfl)
          case moresp14 => exact AllReadyH.nil
          (refine step_append_dotsN _ rfl (.tmp 55) (.tmp 60) rfl Hp (.slice va (dotsL k sp).length vc) (dotsL k sp) [(n1, n2)] 1 rfl (some ⟨w3.heap.size, 0, none⟩) 1 (by simp [Act.eval]) (by simp [Act.eval]) hown3.out (rowNew rfl n1 n2 _) (fun h => by cases h) (by rw [dotsL_len]; simp; omega) hs3.out ?_; intro vA wA hownA hgrA; have hbA : Hid (Below Hp (w3.alloc (.cells #[.int .i64 n1, .int .i64 n2] 51)) wA) := Own.grown_below hown3.out hgrA hs3.out; have hD4 := (hD3H.out.gr ((Gr.refl w3).alloc (.cells #[.int .i64 n1, .int .i64 n2] 51))).below hbA.out (Nat.le_refl _); have hownB : Hid (Own wA Hp vA (dotsL k sp ++ [(n1, n2)])) := hownA; obtain ⟨A2, c2, rfl, h2, h3, h4⟩ := hownA.row; have p4b : wA.cell? ⟨N + 5, 4, none⟩ = some (.slice va (dotsL k sp).length vc) := hD4.p (by omega); have f4b := hD4.fp 4; have hD4H : Hid (DM w wA N x t2 [.int .i64 np0, .int .i64 np1, .int .i64 np2, .int .i64 np3, .slice va (dotsL k sp).length vc, .slice none 0 0, .int .i64 0, .int .i64 0, .int .i64 0, .int .i64 0, .slice none 0 0, .slice none 0 0] Hp w1p) := hD4; clear hD4 hownA hgrA h2 h3 h4)
          refine hK.out _ _ ?_ (fun hHeld => ?_)
          · (try dsimp only); first | with_reducible exact hKeep.out _ _ _ hD4H.out | exact hKeep.out _ _ _ (hD4H.out.put (i := 4) (by omega) _) | with_reducible exact hKeep.out _ _ _ hEH.out | with_reducible exact hKeep.out _ _ _ hD3H.out | exact hKeep.out _ _ _ (hD3H.out.gr ((Gr.refl _).alloc _))
          clear hK K
          try simp only [Act.put, List.setIfInBounds_toArray, List.set_cons_zero, List.set_cons_succ]
          refine wpAnyH_take (i := 12) (oi := ?oisp15) (v := ?vsp15) ?hopsp15 ?hssp15 ?hfsp15 ?hrsp15 ?hQsp15 ?hysp15 (by assumption) ?restsp15
          case hopsp15 => (simp only [List.getElem?_toArray, List.getElem?_cons_zero, List.getElem?_cons_succ]; rfl)
          case hssp15 => kernel_rfl
          case hfsp15 => kernel_rfl
          case hrsp15 => kernel_rfl
          case hQsp15 => exact fun _ _ _ h => h
          case hysp15 => (refine Or.inl ⟨by rfl, ?_⟩; intro w hSw; (try dsimp only at hSw); go_simp <;> with_reducible rfl)
          try simp only [Act.put, List.setIfInBounds_toArray, List.set_cons_zero, List.set_cons_succ]
          refine wpAnyH_take (i := 13) (oi := ?oisp16) (v := ?vsp16) ?hopsp16 ?hssp16 ?hfsp16 ?hrsp16 ?hQsp16 ?hysp16 (by assumption) ?restsp16
          case hopsp16 => (simp only [List.getElem?_toArray, List.getElem?_cons_zero, List.getElem?_cons_succ]; rfl)
          case hssp16 => kernel_rfl
          case hfsp16 => kernel_rfl
          case hrsp16 => kernel_rfl
          case hQsp16 => exact fun _ _ _ h => h
          case hysp16 => (refine Or.inl ⟨by rfl, ?_⟩; intro w hSw; (try dsimp only at hSw); go_simp <;> with_reducible rfl)
          try simp only [Act.put, List.setIfInBounds_toArray, List.set_cons_zero, List.set_cons_succ]
          refine wpAnyH_take (i := 14) (oi := ?oisp17) (v := ?vsp17) ?hopsp17 ?hssp17 ?hfsp17 ?hrsp17 ?hQsp17 ?hysp17 (by assumption) ?restsp17
          case hopsp17 => (simp only [List.getElem?_toArray, List.getElem?_cons_zero, List.getElem?_cons_succ]; rfl)
          case hssp17 => kernel_rfl
          case hfsp17 => kernel_rfl
          case hrsp17 => kernel_rfl
          case hQsp17 => exact fun _ _ _ h => h
          case hysp17 => (refine Or.inl ⟨by rfl, ?_⟩; intro w hSw; (try dsimp only at hSw); go_simp <;> with_reducible rfl)
          try simp only [Act.put, List.setIfInBounds_toArray, List.set_cons_zero, List.set_cons_succ]
          refine wpAnyH_ready (rs := [15]) (by kernel_rfl) (by simp) ?_
          refine AllReadyH.cons (o := ?oisp18) ?hopsp18 (fun K hK => ?stepsp18) ?moresp18
          case hopsp18 => (simp only [List.getElem?_toArray, List.getElem?_cons_zero, List.getElem?_cons_succ]; rfl)
          case moresp18 => exact AllReadyH.nil
          go_simp
          refine hK.out _ _ ?_ (fun hHeld => ?_)
          · (try dsimp only); first | with_reducible exact hKeep.out _ _ _ hD4H.out | exact hKeep.out _ _ _ (hD4H.out.put (i := 4) (by omega) _) | with_reducible exact hKeep.out _ _ _ hEH.out | with_reducible exact hKeep.out _ _ _ hD3H.out | exact hKeep.out _ _ _ (hD3H.out.gr ((Gr.refl _).alloc _))
          clear hK K
          try simp only [Act.put, List.setIfInBounds_toArray, List.set_cons_zero, List.set_cons_succ]
          refine wpAnyH_done (by kernel_rfl) ?_ _
          refine NoPanic.normal ?_
          have hlen : (dotsL k sp ++ [(n1, n2)]).length = (dotsL k sp).length + 1 := by simp
          have hownB2 := hownB.out
          rw [hlen] at hownB2
          have hL : Hid (dotsL k sp ++ [(n1, n2)] = dotsL (k + 1) sp) := by show _ = _; rw [dotsL, hn1H.out.1, hn1H.out.2.1]
          have hS5 : Hid (t2 = dotsS (k + 1) sp) := by show _ = _; rw [dotsS, hn1H.out.2.2]
          have hown5 : Hid (DM w (wA.setCell ⟨N + 5, 4, none⟩ (.slice A2 ((dotsL k sp).length + 1) c2)) N x (dotsS (k + 1) sp) [.int .i64 np0, .int .i64 np1, .int .i64 np2, .int .i64 np3, .slice A2 ((dotsL k sp).length + 1) c2, .slice none 0 0, .int .i64 0, .int .i64 0, .int .i64 0, .int .i64 0, .slice none 0 0, .slice none 0 0] Hp w1p ∧ Own (wA.setCell ⟨N + 5, 4, none⟩ (.slice A2 ((dotsL k sp).length + 1) c2)) Hp (.slice A2 ((dotsL k sp).length + 1) c2) (dotsL (k + 1) sp)) := by
            rw [← hL.out, ← hS5.out]
            exact ⟨hD4H.out.put (i := 4) (by omega) _, hownB2.setCell (show N + 5 < Hp by have := hHN.out; omega) _⟩
          clear hlen hownB2 p4 p4' p4a p4b f4b hn'
          go_wp2
          go_roundw
          case rel => exact ⟨k + 1, by go_num, by omega, _, hown5⟩
          case measure => simp [intOf]; omega
        go_simp
        refine hK.out _ _ ?_ (fun hHeld => ?_)
        · (try dsimp only); first | with_reducible exact hKeep.out _ _ _ hD4H.out | exact hKeep.out _ _ _ (hD4H.out.put (i := 4) (by omega) _) | with_reducible exact hKeep.out _ _ _ hEH.out | with_reducible exact hKeep.out _ _ _ hD3H.out | exact hKeep.out _ _ _ (hD3H.out.gr ((Gr.refl _).alloc _))
        clear hK K
        try simp only [Act.put, List.setIfInBounds_toArray, List.set_cons_zero, List.set_cons_succ]
        refine wpAnyH_ready (rs := [10]) (by kernel_rfl) (by simp) ?_
        refine AllReadyH.cons (o := ?oisp19) ?hopsp19 (fun K hK => ?stepsp19) ?moresp19
        case hopsp19 => (simp only [List.getElem?_toArray, List.getElem?_cons_zero, List.getElem?_cons_succ]; rfl)
        case moresp19 => exact AllReadyH.nil
        go_simp
        refine hK.out _ _ ?_ (fun hHeld => ?_)
        · (try dsimp only); first | with_reducible exact hKeep.out _ _ _ hD4H.out | exact hKeep.out _ _ _ (hD4H.out.put (i := 4) (by omega) _) | with_reducible exact hKeep.out _ _ _ hEH.out | with_reducible exact hKeep.out _ _ _ hD3H.out | exact hKeep.out _ _ _ (hD3H.out.gr ((Gr.refl _).alloc _))
        clear hK K
        try simp only [Act.put, List.setIfInBounds_toArray, List.set_cons_zero, List.set_cons_succ]
        refine wpAnyH_ready (rs := [11]) (by kernel_rfl) (by simp) ?_
        refine AllReadyH.cons (o := ?oisp20) ?hopsp20 (fun K hK => ?stepsp20) ?moresp20
        case hopsp20 => (simp only [List.getElem?_toArray, List.getElem?_cons_zero, List.getElem?_cons_succ]; rfl)
        case moresp20 => exact AllReadyH.nil
        (refine step_append_dotsN _ rfl (.tmp 55) (.tmp 60) rfl Hp (.slice va (dotsL k sp).length vc) (dotsL k sp) [(n1, n2)] 1 rfl (some ⟨w3.heap.size, 0, none⟩) 1 (by simp [Act.eval]) (by simp [Act.eval]) hown3.out (rowNew rfl n1 n2 _) (fun h => by cases h) (by rw [dotsL_len]; simp; omega) hs3.out ?_; intro vA wA hownA hgrA; have hbA : Hid (Below Hp (w3.alloc (.cells #[.int .i64 n1, .int .i64 n2] 51)) wA) := Own.grown_below hown3.out hgrA hs3.out; have hD4 := (hD3H.out.gr ((Gr.refl w3).alloc (.cells #[.int .i64 n1, .int .i64 n2] 51))).below hbA.out (Nat.le_refl _); have hownB : Hid (Own wA Hp vA (dotsL k sp ++ [(n1, n2)])) := hownA; obtain ⟨A2, c2, rfl, h2, h3, h4⟩ := hownA.row; have p4b : wA.cell? ⟨N + 5, 4, none⟩ = some (.slice va (dotsL k sp).length vc) := hD4.p (by omega); have f4b := hD4.fp 4; have hD4H : Hid (DM w wA N x t2 [.int .i64 np0, .int .i64 np1, .int .i64 np2, .int .i64 np3, .slice va (dotsL k sp).length vc, .slice none 0 0, .int .i64 0, .int .i64 0, .int .i64 0, .int .i64 0, .slice none 0 0, .slice none 0 0] Hp w1p) := hD4; clear hD4 hownA hgrA h2 h3 h4)
        refine hK.out _ _ ?_ (fun hHeld => ?_)
        · (try dsimp only); first | with_reducible exact hKeep.out _ _ _ hD4H.out | exact hKeep.out _ _ _ (hD4H.out.put (i := 4) (by omega) _) | with_reducible exact hKeep.out _ _ _ hEH.out | with_reducible exact hKeep.out _ _ _ hD3H.out | exact hKeep.out _ _ _ (hD3H.out.gr ((Gr.refl _).alloc _))
        clear hK K
        try simp only [Act.put, List.setIfInBounds_toArray, List.set_cons_zero, List.set_cons_succ]
        refine wpAnyH_take (i := 12) (oi := ?oisp21) (v := ?vsp21) ?hopsp21 ?hssp21 ?hfsp21 ?hrsp21 ?hQsp21 ?hysp21 (by assumption) ?restsp21
        case hopsp21 => (simp only [List.getElem?_toArray, List.getElem?_cons_zero, List.getElem?_cons_succ]; rfl)
        case hssp21 => kernel_rfl
        case hfsp21 => kernel_rfl
        case hrsp21 => kernel_rfl
        case hQsp21 => exact fun _ _ _ h => h
        case hysp21 => (refine Or.inl ⟨by rfl, ?_⟩; intro w hSw; (try dsimp only at hSw); go_simp <;> with_reducible rfl)
        try simp only [Act.put, List.setIfInBounds_toArray, List.set_cons_zero, List.set_cons_succ]
        refine wpAnyH_take (i := 13) (oi := ?oisp22) (v := ?vsp22) ?hopsp22 ?hssp22 ?hfsp22 ?hrsp22 ?hQsp22 ?hysp22 (by assumption) ?restsp22
        case hopsp22 => (simp only [List.getElem?_toArray, List.getElem?_cons_zero, List.getElem?_cons_succ]; rfl)
        case hssp22 => kernel_rfl
        case hfsp22 => kernel_rfl
        case hrsp22 => kernel_rfl
        case hQsp22 => exact fun _ _ _ h => h
        case hysp22 => (refine Or.inl ⟨by rfl, ?_⟩; intro w hSw; (try dsimp only at hSw); go_simp <;> with_reducible rfl)
        try simp only [Act.put, List.setIfInBounds_toArray, List.set_cons_zero, List.set_cons_succ]
        refine wpAnyH_take (i := 14) (oi := ?oisp23) (v := ?vsp23) ?hopsp23 ?hssp23 ?hfsp23 ?hrsp23 ?hQsp23 ?hysp23 (by assumption) ?restsp23
        case hopsp23 => (simp only [List.getElem?_toArray, List.getElem?_cons_zero, List.getElem?_cons_succ]; rfl)
        case hssp23 => kernel_rfl
        case hfsp23 => kernel_rfl
        case hrsp23 => kernel_rfl
        case hQsp23 => exact fun _ _ _ h => h
        case hysp23 => (refine Or.inl ⟨by rfl, ?_⟩; intro w hSw; (try dsimp only at hSw); go_simp <;> with_reducible rfl)
        try simp only [Act.put, List.setIfInBounds_toArray, List.set_cons_zero, List.set_cons_succ]
        refine wpAnyH_ready (rs := [15]) (by kernel_rfl) (by simp) ?_
        refine AllReadyH.cons (o := ?oisp24) ?hopsp24 (fun K hK => ?stepsp24) ?moresp24
        case hopsp24 => (simp only [List.getElem?_toArray, List.getElem?_cons_zero, List.getElem?_cons_succ]; rfl)
        case moresp24 => exact AllReadyH.nil
        go_simp
        refine hK.out _ _ ?_ (fun hHeld => ?_)
        · (try dsimp only); first | with_reducible exact hKeep.out _ _ _ hD4H.out | exact hKeep.out _ _ _ (hD4H.out.put (i := 4) (by omega) _) | with_reducible exact hKeep.out _ _ _ hEH.out | with_reducible exact hKeep.out _ _ _ hD3H.out | exact hKeep.out _ _ _ (hD3H.out.gr ((Gr.refl _).alloc _))
        clear hK K
        try simp only [Act.put, List.setIfInBounds_toArray, List.set_cons_zero, List.set_cons_succ]
        refine wpAnyH_done (by kernel_rfl) ?_ _
        refine NoPanic.normal ?_
        have hlen : (dotsL k sp ++ [(n1, n2)]).length = (dotsL k sp).length + 1 := by simp
        have hownB2 := hownB.out
        rw [hlen] at hownB2
        have hL : Hid (dotsL k sp ++ [(n1, n2)] = dotsL (k + 1) sp) := by show _ = _; rw [dotsL, hn1H.out.1, hn1H.out.2.1]
        have hS5 : Hid (t2 = dotsS (k + 1) sp) := by show _ = _; rw [dotsS, hn1H.out.2.2]
        have hown5 : Hid (DM w (wA.setCell ⟨N + 5, 4, none⟩ (.slice A2 ((dotsL k sp).length + 1) c2)) N x (dotsS (k + 1) sp) [.int .i64 np0, .int .i64 np1, .int .i64 np2, .int .i64 np3, .slice A2 ((dotsL k sp).length + 1) c2, .slice none 0 0, .int .i64 0, .int .i64 0, .int .i64 0, .int .i64 0, .slice none 0 0, .slice none 0 0] Hp w1p ∧ Own (wA.setCell ⟨N + 5, 4, none⟩ (.slice A2 ((dotsL k sp).length + 1) c2)) Hp (.slice A2 ((dotsL k sp).length + 1) c2) (dotsL (k + 1) sp)) := by
          rw [← hL.out, ← hS5.out]
          exact ⟨hD4H.out.put (i := 4) (by omega) _, hownB2.setCell (show N + 5 < Hp by have := hHN.out; omega) _⟩
        clear hlen hownB2 p4 p4' p4a p4b f4b hn'
        go_wp2
        go_roundw
        case rel => exact ⟨k + 1, by go_num, by omega, _, hown5⟩
        case measure => simp [intOf]; omega
      go_simp
      refine hK.out _ _ ?_ (fun hHeld => ?_)
      · (try dsimp only); first | with_reducible exact hKeep.out _ _ _ hD4H.out | exact hKeep.out _ _ _ (hD4H.out.put (i := 4) (by omega) _) | with_reducible exact hKeep.out _ _ _ hEH.out | with_reducible exact hKeep.out _ _ _ hD3H.out | exact hKeep.out _ _ _ (hD3H.out.gr ((Gr.refl _).alloc _))
      clear hK K
      try simp only [Act.put, List.setIfInBounds_toArray, List.set_cons_zero, List.set_cons_succ]
      refine wpAnyH_ready (rs := [8]) (by kernel_rfl) (by simp) ?_
      refine AllReadyH.cons (o := ?oisp25) ?hopsp25 (fun K hK => ?stepsp25) ?moresp25
      case hopsp25 => (simp only [List.getElem?_toArray, List.getElem?_cons_zero, List.getElem?_cons_succ]; rfl)
      case moresp25 => exact AllReadyH.nil
      go_simp
      (go_at_call 29; (refine Calls.mono (show Calls _ _ _ _ _ from hCH2.out) ?_); rintro e w3 ⟨rfl, hD3, hK3⟩; have p4' : w3.cell? ⟨N + 5, 4, none⟩ = some (.slice va (dotsL k sp).length vc) := hD3.p (by omega); have p4a : (w3.alloc (.cells #[.int .i64 n1, .int .i64 n2] 51)).cell? ⟨N + 5, 4, none⟩ = some (.slice va (dotsL k sp).length vc) := (hD3.gr ((Gr.refl w3).alloc (.cells #[.int .i64 n1, .int .i64 n2] 51))).p (by omega); have hown3 : Hid (Own (w3.alloc (.cells #[.int .i64 n1, .int .i64 n2] 51)) Hp (.slice va (dotsL k sp).length vc) (dotsL k sp)) := (hK3.out.own _ _ _ hHN.out hownH.out).gr ((Gr.refl _).alloc _); have hs3 : Hid (Hp ≤ (w3.alloc (.cells #[.int .i64 n1, .int .i64 n2] 51)).heap.size) := (by show _ ≤ _; rw [sz1, hK3.out.sz]; have := hHs2.out; show Hp ≤ w2.heap.size + 1; omega); have hD3H : Hid (DM w w3 N x t2 [.int .i64 np0, .int .i64 np1, .int .i64 np2, .int .i64 np3, .slice va (dotsL k sp).length vc, .slice none 0 0, .int .i64 0, .int .i64 0, .int .i64 0, .int .i64 0, .slice none 0 0, .slice none 0 0] Hp w1p) := hD3; clear hD3)
      first | (go_wp2_with fail) | skip
      refine hK.out _ _ ?_ (fun hHeld => ?_)
      · (try dsimp only); first | with_reducible exact hKeep.out _ _ _ hD4H.out | exact hKeep.out _ _ _ (hD4H.out.put (i := 4) (by omega) _) | with_reducible exact hKeep.out _ _ _ hEH.out | with_reducible exact hKeep.out _ _ _ hD3H.out | exact hKeep.out _ _ _ (hD3H.out.gr ((Gr.refl _).alloc _))
      clear hK K
      try simp only [Act.put, List.setIfInBounds_toArray, List.set_cons_zero, List.set_cons_succ]
      refine wpAnyH_take (i := 9) (oi := ?oisp26) (v := ?vsp26) ?hopsp26 ?hssp26 ?hfsp26 ?hrsp26 ?hQsp26 ?hysp26 (by assumption) ?restsp26
      case hopsp26 => (simp only [List.getElem?_toArray, List.getElem?_cons_zero, List.getElem?_cons_succ]; rfl)
      case hssp26 => kernel_rfl
      case hfsp26 => kernel_rfl
      case hrsp26 => kernel_rfl
      case hQsp26 => exact fun _ _ _ h => h
      case hysp26 => (refine Or.inl ⟨by rfl, ?_⟩; intro w hSw; (try dsimp only at hSw); go_simp <;> with_reducible rfl)
      try simp only [Act.put, List.setIfInBounds_toArray, List.set_cons_zero, List.set_cons_succ]
      refine wpAnyH_ready (rs := [10]) (by kernel_rfl) (by simp) ?_
      refine AllReadyH.cons (o := ?oisp27) ?hopsp27 (fun K hK => ?stepsp27) ?moresp27
      case hopsp27 => (simp only [List.getElem?_toArray, List.getElem?_cons_zero, List.getElem?_cons_succ]; rfl)
      case moresp27 => exact AllReadyH.nil
      go_simp
      refine hK.out _ _ ?_ (fun hHeld => ?_)
      · (try dsimp only); first | with_reducible exact hKeep.out _ _ _ hD4H.out | exact hKeep.out _ _ _ (hD4H.out.put (i := 4) (by omega) _) | with_reducible exact hKeep.out _ _ _ hEH.out | with_reducible exact hKeep.out _ _ _ hD3H.out | exact hKeep.out _ _ _ (hD3H.out.gr ((Gr.refl _).alloc _))
      clear hK K
      try simp only [Act.put, List.setIfInBounds_toArray, List.set_cons_zero, List.set_cons_succ]
      refine wpAnyH_ready (rs := [11]) (by kernel_rfl) (by simp) ?_
      refine AllReadyH.cons (o := ?oisp28) ?hopsp28 (fun K hK => ?stepsp28) ?moresp28
      case hopsp28 => (simp only [List.getElem?_toArray, List.getElem?_cons_zero, List.getElem?_cons_succ]; rfl)
      case moresp28 => exact AllReadyH.nil
      (refine step_append_dotsN _ rfl (.tmp 55) (.tmp 60) rfl Hp (.slice va (dotsL k sp).length vc) (dotsL k sp) [(n1, n2)] 1 rfl (some ⟨w3.heap.size, 0, none⟩) 1 (by simp [Act.eval]) (by simp [Act.eval]) hown3.out (rowNew rfl n1 n2 _) (fun h => by cases h) (by rw [dotsL_len]; simp; omega) hs3.out ?_; intro vA wA hownA hgrA; have hbA : Hid (Below Hp (w3.alloc (.cells #[.int .i64 n1, .int .i64 n2] 51)) wA) := Own.grown_below hown3.out hgrA hs3.out; have hD4 := (hD3H.out.gr ((Gr.refl w3).alloc (.cells #[.int .i64 n1, .int .i64 n2] 51))).below hbA.out (Nat.le_refl _); have hownB : Hid (Own wA Hp vA (dotsL k sp ++ [(n1, n2)])) := hownA; obtain ⟨A2, c2, rfl, h2, h3, h4⟩ := hownA.row; have p4b : wA.cell? ⟨N + 5, 4, none⟩ = some (.slice va (dotsL k sp).length vc) := hD4.p (by omega); have f4b := hD4.fp 4; have hD4H : Hid (DM w wA N x t2 [.int .i64 np0, .int .i64 np1, .int .i64 np2, .int .i64 np3, .slice va (dotsL k sp).length vc, .slice none 0 0, .int .i64 0, .int .i64 0, .int .i64 0, .int .i64 0, .slice none 0 0, .slice none 0 0] Hp w1p) := hD4; clear hD4 hownA hgrA h2 h3 h4)
      refine hK.out _ _ ?_ (fun hHeld => ?_)
      · (try dsimp only); first | with_reducible exact hKeep.out _ _ _ hD4H.out | exact hKeep.out _ _ _ (hD4H.out.put (i := 4) (by omega) _) | with_reducible exact hKeep.out _ _ _ hEH.out | with_reducible exact hKeep.out _ _ _ hD3H.out | exact hKeep.out _ _ _ (hD3H.out.gr ((Gr.refl _).alloc _))
      clear hK K
      try simp only [Act.put, List.setIfInBounds_toArray, List.set_cons_zero, List.set_cons_succ]
      refine wpAnyH_take (i := 12) (oi := ?oisp29) (v := ?vsp29) ?hopsp29 ?hssp29 ?hfsp29 ?hrsp29 ?hQsp29 ?hysp29 (by assumption) ?restsp29
      case hopsp29 => (simp only [List.getElem?_toArray, List.getElem?_cons_zero, List.getElem?_cons_succ]; rfl)
      case hssp29 => kernel_rfl
      case hfsp29 => kernel_rfl
      case hrsp29 => kernel_rfl
      case hQsp29 => exact fun _ _ _ h => h
      case hysp29 => (refine Or.inl ⟨by rfl, ?_⟩; intro w hSw; (try dsimp only at hSw); go_simp <;> with_reducible rfl)
      try simp only [Act.put, List.setIfInBounds_toArray, List.set_cons_zero, List.set_cons_succ]
      refine wpAnyH_take (i := 13) (oi := ?oisp30) (v := ?vsp30) ?hopsp30 ?hssp30 ?hfsp30 ?hrsp30 ?hQsp30 ?hysp30 (by assumption) ?restsp30
      case hopsp30 => (simp only [List.getElem?_toArray, List.getElem?_cons_zero, List.getElem?_cons_succ]; rfl)
      case hssp30 => kernel_rfl
      case hfsp30 => kernel_rfl
      case hrsp30 => kernel_rfl
      case hQsp30 => exact fun _ _ _ h => h
      case hysp30 => (refine Or.inl ⟨by rfl, ?_⟩; intro w hSw; (try dsimp only at hSw); go_simp <;> with_reducible rfl)
      try simp only [Act.put, List.setIfInBounds_toArray, List.set_cons_zero, List.set_cons_succ]
      refine wpAnyH_take (i := 14) (oi := ?oisp31) (v := ?vsp31) ?hopsp31 ?hssp31 ?hfsp31 ?hrsp31 ?hQsp31 ?hysp31 (by assumption) ?restsp31
      case hopsp31 => (simp only [List.getElem?_toArray, List.getElem?_cons_zero, List.getElem?_cons_succ]; rfl)
      case hssp31 => kernel_rfl
      case hfsp31 => kernel_rfl
      case hrsp31 => kernel_rfl
      case hQsp31 => exact fun _ _ _ h => h
      case hysp31 => (refine Or.inl ⟨by rfl, ?_⟩; intro w hSw; (try dsimp only at hSw); go_simp <;> with_reducible rfl)
      try simp only [Act.put, List.setIfInBounds_toArray, List.set_cons_zero, List.set_cons_succ]
      refine wpAnyH_ready (rs := [15]) (by kernel_rfl) (by simp) ?_
      refine AllReadyH.cons (o := ?oisp32) ?hopsp32 (fun K hK => ?stepsp32) ?moresp32
      case hopsp32 => (simp only [List.getElem?_toArray, List.getElem?_cons_zero, List.getElem?_cons_succ]; rfl)
      case moresp32 => exact AllReadyH.nil
      go_simp
      refine hK.out _ _ ?_ (fun hHeld => ?_)
      · (try dsimp only); first | with_reducible exact hKeep.out _ _ _ hD4H.out | exact hKeep.out _ _ _ (hD4H.out.put (i := 4) (by omega) _) | with_reducible exact hKeep.out _ _ _ hEH.out | with_reducible exact hKeep.out _ _ _ hD3H.out | exact hKeep.out _ _ _ (hD3H.out.gr ((Gr.refl _).alloc _))
      clear hK K
      try simp only [Act.put, List.setIfInBounds_toArray, List.set_cons_zero, List.set_cons_succ]
      refine wpAnyH_done (by kernel_rfl) ?_ _
      refine NoPanic.normal ?_
      have hlen : (dotsL k sp ++ [(n1, n2)]).length = (dotsL k sp).length + 1 := by simp
      have hownB2 := hownB.out
      rw [hlen] at hownB2
      have hL : Hid (dotsL k sp ++ [(n1, n2)] = dotsL (k + 1) sp) := by show _ = _; rw [dotsL, hn1H.out.1, hn1H.out.2.1]
      have hS5 : Hid (t2 = dotsS (k + 1) sp) := by show _ = _; rw [dotsS, hn1H.out.2.2]
      have hown5 : Hid (DM w (wA.setCell ⟨N + 5, 4, none⟩ (.slice A2 ((dotsL k sp).length + 1) c2)) N x (dotsS (k + 1) sp) [.int .i64 np0, .int .i64 np1, .int .i64 np2, .int .i64 np3, .slice A2 ((dotsL k sp).length + 1) c2, .slice none 0 0, .int .i64 0, .int .i64 0, .int .i64 0, .int .i64 0, .slice none 0 0, .slice none 0 0] Hp w1p ∧ Own (wA.setCell ⟨N + 5, 4, none⟩ (.slice A2 ((dotsL k sp).length + 1) c2)) Hp (.slice A2 ((dotsL k sp).length + 1) c2) (dotsL (k + 1) sp)) := by
        rw [← hL.out, ← hS5.out]
        exact ⟨hD4H.out.put (i := 4) (by omega) _, hownB2.setCell (show N + 5 < Hp by have := hHN.out; omega) _⟩
      clear hlen hownB2 p4 p4' p4a p4b f4b hn'
      go_wp2
      go_roundw
      case rel => exact ⟨k + 1, by go_num, by omega, _, hown5⟩
      case measure => simp [intOf]; omega
    · have hkM : k = Mp := by omega
      subst hkM
      have hltz : ¬ (k : Int) < (k : Int) := by omega
      obtain ⟨Ap, cp, hv1, _, hr1, hb1⟩ := hR.out.2.row
      subst hv1
      have hHN0 := hR.out.1.hH
      obtain ⟨Lp, hLp⟩ : ∃ L, dotsL k sp = L := ⟨_, rfl⟩
      obtain ⟨yp, hyp⟩ : ∃ t, dotsS k sp = t := ⟨_, rfl⟩
      rw [hLp] at hr1
      have hD := hR.out.1
      rw [hLp, hyp] at hD
      have hLpH : Hid (dotsL k sp = Lp ∧ dotsS k sp = yp) := ⟨hLp, hyp⟩
      obtain ⟨Kp, hKp, hKp4⟩ := my_natR yp
      obtain ⟨up, hup⟩ : ∃ t, myS yp = t := ⟨_, rfl⟩
      have hC := hD.counts hx hKp hup
      have hCH : Hid _ := hC
      have hKpH : Hid (myN yp = Kp ∧ myS yp = up) := ⟨hKp, hup⟩
      have hrwdp : Hid (Row wj Ap Lp ∧ ∀ a, Ap = some a → N + 6 ≤ a.block ∧ a.block < wj.heap.size) := ⟨hr1, fun a e => by have := hb1 a e; omega⟩
      have hDH : Hid (DM w wj N x yp [.int .i64 np0, .int .i64 np1, .int .i64 np2, .int .i64 np3, .slice Ap Lp.length cp, .slice none 0 0, .int .i64 0, .int .i64 0, .int .i64 0, .int .i64 0, .slice none 0 0, .slice none 0 0] Hp w1p) := hD
      clear hC hKp hup hR hr1 hb1 hD hHN0 hyp
      go_wp2_with fail
      refine Calls.mono (show Calls _ _ _ _ _ from hCH.out) ?_
      rintro e w3p ⟨rfl, hD1, hK1⟩
      obtain ⟨Gp, hGp⟩ : ∃ H, w3p.heap.size = H := ⟨_, rfl⟩
      have hT3p : Hid (DM w w3p N x up [.int .i64 np0, .int .i64 np1, .int .i64 np2, .int .i64 np3, .slice Ap Lp.length cp, .slice none 0 0, .int .i64 0, .int .i64 0, .int .i64 0, .int .i64 0, .slice none 0 0, .slice none 0 0] Gp w3p) := hD1.rebase hGp
      have hle3p : Hid (Hp ≤ Gp) := by show _ ≤ _; rw [← hGp]; exact hD1.sz
      have hrwAp : Hid (Row w3p Ap Lp ∧ ∀ a, Ap = some a → Lp ≠ [] → N + 6 ≤ a.block ∧ a.block < Gp) := ⟨hK1.out.row _ _ (fun a e => (hrwdp.out.2 a e).1) hrwdp.out.1, fun a e _ => by have := hrwdp.out.2 a e; have := hK1.out.sz; omega⟩
      have hbAp : Hid (∀ a, Ap = some a → N + 6 ≤ a.block) := fun a e => (hrwdp.out.2 a e).1
      clear hCH hK1 hD1 hDH hrwdp 
      go_wp2
      go_loopw [16] (fun kv wi => ∃ (j : Nat), kv = .int .i64 j ∧ j ≤ Kp ∧ ∃ (v : Value), Hid (DM w wi N x (celsS j up) [.int .i64 np0, .int .i64 np1, .int .i64 np2, .int .i64 np3, .slice Ap Lp.length cp, v, .int .i64 0, .int .i64 0, .int .i64 0, .int .i64 0, .slice none 0 0, .slice none 0 0] Gp w3p ∧ OwnC wi Gp v (celsL j up))) (fun kv _ => Kp - (intOf kv).toNat)
      case atStart => exact ⟨0, rfl, by omega, .slice none 0 0, hT3p.out, OwnG.nil _ _ _ _ _⟩
      case round =>
        rename World => wk
        clear hT3p
        obtain ⟨j, rfl, hj, v, hR⟩ := hrel
        by_cases hlt : j < Kp
        · have hltz2 : (j : Int) < (Kp : Int) := by omega
          obtain ⟨va, vc, hv, _, _, _⟩ := hR.out.2.row encC_len
          subst hv
          obtain ⟨B, hB⟩ : ∃ B, wk.heap.size = B := ⟨_, rfl⟩
          obtain ⟨V0, hV0⟩ : ∃ V, wk.alloc (.cells #[.int .i64 0, .int .i64 0, .int .i64 0, .int .i64 0, .int .i64 0] 53) = V := ⟨_, rfl⟩
          have hg0 : Gr wk V0 := by rw [← hV0]; exact (Gr.refl _).alloc _
          have hE0 : Hid (CM w V0 N x (celsS j up) [.int .i64 np0, .int .i64 np1, .int .i64 np2, .int .i64 np3, .slice Ap Lp.length cp, .slice va (celsL j up).length vc, .int .i64 0, .int .i64 0, .int .i64 0, .int .i64 0, .slice none 0 0, .slice none 0 0] Gp w3p B [.int .i64 0, .int .i64 0, .int .i64 0, .int .i64 0, .int .i64 0] (.slice va (celsL j up).length vc) (celsL j up)) := ⟨hR.out.1.gr hg0, by rw [← hV0]; exact Bx.new wk _ _ hB, hR.out.2.gr hg0, by rw [← hB]; exact hR.out.1.sz, own_ne hR.out.2 hB⟩
          obtain ⟨z0, hz0⟩ : ∃ t, celsS j up = t := ⟨_, rfl⟩
          rw [hz0] at hE0
          have hz0H : Hid (celsS j up = z0) := hz0
          clear hR hg0 hz0
          obtain ⟨n0, hn0⟩ : ∃ n, nxN z0 = n := ⟨_, rfl⟩
          obtain ⟨z1, hz1⟩ : ∃ t, nxS z0 = t := ⟨_, rfl⟩
          have hC := hE0.out.asks hx hn0 hz1
          have hCH : Hid _ := hC
          have hn0H : Hid (nxN z0 = n0 ∧ nxS z0 = z1) := ⟨hn0, hz1⟩
          have g0 := hE0.out.d.n
          clear hC hn0 hz1 hE0
          go_wp2_with fail
          refine Calls.mono (show Calls _ _ _ _ _ from hCH.out) ?_
          rintro e e0 ⟨rfl, hF0⟩
          have kc : e0.cell? ⟨B, 0, none⟩ = some (.int .i64 0) := hF0.b.c 0 (by simp)
          have fz := hF0.b.f 0
          obtain ⟨V1, hV1⟩ : ∃ V, e0.setCell ⟨B, 0, none⟩ (.int .i64 n0) = V := ⟨_, rfl⟩
          have hE1 : Hid (CM w V1 N x z1 [.int .i64 np0, .int .i64 np1, .int .i64 np2, .int .i64 np3, .slice Ap Lp.length cp, .slice va (celsL j up).length vc, .int .i64 0, .int .i64 0, .int .i64 0, .int .i64 0, .slice none 0 0, .slice none 0 0] Gp w3p B [.int .i64 n0, .int .i64 0, .int .i64 0, .int .i64 0, .int .i64 0] (.slice va (celsL j up).length vc) (celsL j up)) := by rw [← hV1]; exact hF0.put (i := 0) (by simp) _
          clear hCH g0 hF0 hV0
          obtain ⟨n1, hn1⟩ : ∃ n, nxN z1 = n := ⟨_, rfl⟩
          obtain ⟨z2, hz2⟩ : ∃ t, nxS z1 = t := ⟨_, rfl⟩
          have hC := hE1.out.asks hx hn1 hz2
          have hCH : Hid _ := hC
          have hn1H : Hid (nxN z1 = n1 ∧ nxS z1 = z2) := ⟨hn1, hz2⟩
          have g1 := hE1.out.d.n
          clear hC hn1 hz2 hE1
          go_wp2_with fail
          refine Calls.mono (show Calls _ _ _ _ _ from hCH.out) ?_
          rintro e e1 ⟨rfl, hF1⟩
          have kc : e1.cell? ⟨B, 1, none⟩ = some (.int .i64 0) := hF1.b.c 1 (by simp)
          have fz := hF1.b.f 1
          obtain ⟨V2, hV2⟩ : ∃ V, e1.setCell ⟨B, 1, none⟩ (.int .i64 n1) = V := ⟨_, rfl⟩
          have hE2 : Hid (CM w V2 N x z2 [.int .i64 np0, .int .i64 np1, .int .i64 np2, .int .i64 np3, .slice Ap Lp.length cp, .slice va (celsL j up).length vc, .int .i64 0, .int .i64 0, .int .i64 0, .int .i64 0, .slice none 0 0, .slice none 0 0] Gp w3p B [.int .i64 n0, .int .i64 n1, .int .i64 0, .int .i64 0, .int .i64 0] (.slice va (celsL j up).length vc) (celsL j up)) := by rw [← hV2]; exact hF1.put (i := 1) (by simp) _
          clear hCH g1 hF1 
          obtain ⟨n2, hn2⟩ : ∃ n, nxN z2 = n := ⟨_, rfl⟩
          obtain ⟨z3, hz3⟩ : ∃ t, nxS z2 = t := ⟨_, rfl⟩
          have hC := hE2.out.asks hx hn2 hz3
          have hCH : Hid _ := hC
          have hn2H : Hid (nxN z2 = n2 ∧ nxS z2 = z3) := ⟨hn2, hz3⟩
          have g2 := hE2.out.d.n
          clear hC hn2 hz3 hE2
          go_wp2_with fail
          refine Calls.mono (show Calls _ _ _ _ _ from hCH.out) ?_
          rintro e e2 ⟨rfl, hF2⟩
          have kc : e2.cell? ⟨B, 2, none⟩ = some (.int .i64 0) := hF2.b.c 2 (by simp)
          have fz := hF2.b.f 2
          obtain ⟨V3, hV3⟩ : ∃ V, e2.setCell ⟨B, 2, none⟩ (.int .i64 n2) = V := ⟨_, rfl⟩
          have hE3 : Hid (CM w V3 N x z3 [.int .i64 np0, .int .i64 np1, .int .i64 np2, .int .i64 np3, .slice Ap Lp.length cp, .slice va (celsL j up).length vc, .int .i64 0, .int .i64 0, .int .i64 0, .int .i64 0, .slice none 0 0, .slice none 0 0] Gp w3p B [.int .i64 n0, .int .i64 n1, .int .i64 n2, .int .i64 0, .int .i64 0] (.slice va (celsL j up).length vc) (celsL j up)) := by rw [← hV3]; exact hF2.put (i := 2) (by simp) _
          clear hCH g2 hF2 
          obtain ⟨n3, hn3⟩ : ∃ n, nxN z3 = n := ⟨_, rfl⟩
          obtain ⟨z4, hz4⟩ : ∃ t, nxS z3 = t := ⟨_, rfl⟩
          have hC := hE3.out.asks hx hn3 hz4
          have hCH : Hid _ := hC
          have hn3H : Hid (nxN z3 = n3 ∧ nxS z3 = z4) := ⟨hn3, hz4⟩
          have g3 := hE3.out.d.n
          clear hC hn3 hz4 hE3
          go_wp2_with fail
          refine Calls.mono (show Calls _ _ _ _ _ from hCH.out) ?_
          rintro e e3 ⟨rfl, hF3⟩
          have kc : e3.cell? ⟨B, 3, none⟩ = some (.int .i64 0) := hF3.b.c 3 (by simp)
          have fz := hF3.b.f 3
          obtain ⟨V4, hV4⟩ : ∃ V, e3.setCell ⟨B, 3, none⟩ (.int .i64 n3) = V := ⟨_, rfl⟩
          have hE4 : Hid (CM w V4 N x z4 [.int .i64 np0, .int .i64 np1, .int .i64 np2, .int .i64 np3, .slice Ap Lp.length cp, .slice va (celsL j up).length vc, .int .i64 0, .int .i64 0, .int .i64 0, .int .i64 0, .slice none 0 0, .slice none 0 0] Gp w3p B [.int .i64 n0, .int .i64 n1, .int .i64 n2, .int .i64 n3, .int .i64 0] (.slice va (celsL j up).length vc) (celsL j up)) := by rw [← hV4]; exact hF3.put (i := 3) (by simp) _
          clear hCH g3 hF3 
          obtain ⟨n4, hn4⟩ : ∃ n, nxN z4 = n := ⟨_, rfl⟩
          obtain ⟨z5, hz5⟩ : ∃ t, nxS z4 = t := ⟨_, rfl⟩
          have hC := hE4.out.asks hx hn4 hz5
          have hCH : Hid _ := hC
          have hn4H : Hid (nxN z4 = n4 ∧ nxS z4 = z5) := ⟨hn4, hz5⟩
          have g4 := hE4.out.d.n
          clear hC hn4 hz5 hE4
          go_wp2_with fail
          refine Calls.mono (show Calls _ _ _ _ _ from hCH.out) ?_
          rintro e e4 ⟨rfl, hF4⟩
          have kc : e4.cell? ⟨B, 4, none⟩ = some (.int .i64 0) := hF4.b.c 4 (by simp)
          have fz := hF4.b.f 4
          obtain ⟨V5, hV5⟩ : ∃ V, e4.setCell ⟨B, 4, none⟩ (.int .i64 n4) = V := ⟨_, rfl⟩
          have hE5 : Hid (CM w V5 N x z5 [.int .i64 np0, .int .i64 np1, .int .i64 np2, .int .i64 np3, .slice Ap Lp.length cp, .slice va (celsL j up).length vc, .int .i64 0, .int .i64 0, .int .i64 0, .int .i64 0, .slice none 0 0, .slice none 0 0] Gp w3p B [.int .i64 n0, .int .i64 n1, .int .i64 n2, .int .i64 n3, .int .i64 n4] (.slice va (celsL j up).length vc) (celsL j up)) := by rw [← hV5]; exact hF4.put (i := 4) (by simp) _
          clear hCH g4 hF4 
          have hd5 := hE5.out.gr (Gr.refl V5).drew
          have x0 : V5.drew.cell? ⟨B, 0, none⟩ = some (.int .i64 n0) := hd5.b.c 0 (by simp)
          have x1 : V5.drew.cell? ⟨B, 1, none⟩ = some (.int .i64 n1) := hd5.b.c 1 (by simp)
          have x2 : V5.drew.cell? ⟨B, 2, none⟩ = some (.int .i64 n2) := hd5.b.c 2 (by simp)
          have x3 : V5.drew.cell? ⟨B, 3, none⟩ = some (.int .i64 n3) := hd5.b.c 3 (by simp)
          have x4 : V5.drew.cell? ⟨B, 4, none⟩ = some (.int .i64 n4) := hd5.b.c 4 (by simp)
          have p5 : V5.drew.cell? ⟨N + 5, 5, none⟩ = some (.slice va (celsL j up).length vc) := hd5.d.p (by omega)
          have hd6 := (hE5.out.gr ((Gr.refl V5).alloc (.cells #[.int .i64 n0, .int .i64 n1, .int .i64 n2, .int .i64 n3, .int .i64 n4] 53))).gr (Gr.refl _).drew
          have p5a : (V5.alloc (.cells #[.int .i64 n0, .int .i64 n1, .int .i64 n2, .int .i64 n3, .int .i64 n4] 53)).cell? ⟨N + 5, 5, none⟩ = some (.slice va (celsL j up).length vc) := hd6.d.p (by omega)
          have hd6H : Hid (CM w (V5.alloc (.cells #[.int .i64 n0, .int .i64 n1, .int .i64 n2, .int .i64 n3, .int .i64 n4] 53)).drew N x z5 [.int .i64 np0, .int .i64 np1, .int .i64 np2, .int .i64 np3, .slice Ap Lp.length cp, .slice va (celsL j up).length vc, .int .i64 0, .int .i64 0, .int .i64 0, .int .i64 0, .slice none 0 0, .slice none 0 0] Gp w3p B [.int .i64 n0, .int .i64 n1, .int .i64 n2, .int .i64 n3, .int .i64 n4] (.slice va (celsL j up).length vc) (celsL j up)) := hd6
          have hs5b : Hid (Gp ≤ (V5.alloc (.cells #[.int .i64 n0, .int .i64 n1, .int .i64 n2, .int .i64 n3, .int .i64 n4] 53)).drew.heap.size) := hd6.d.sz
          clear hd5 hd6 hE5
          go_wp2_with fail
          refine wp_region_noPanic ?_
          refine wp_region_held_drew (S := (fun _ => True)) (by kernel_rfl) (trivial) (fun hHeld => ?_)
          refine wpAnyH_take (i := 0) (oi := ?oitp1) (v := ?vtp1) ?hoptp1 ?hstp1 ?hftp1 ?hrtp1 ?hQtp1 ?hytp1 (by assumption) ?resttp1
          case hoptp1 => (simp only [List.getElem?_toArray, List.getElem?_cons_zero]; rfl)
          case hstp1 => kernel_rfl
          case hftp1 => kernel_rfl
          case hrtp1 => kernel_rfl
          case hQtp1 => exact fun _ _ _ h => h
          case hytp1 => (refine Or.inl ⟨by rfl, ?_⟩; intro w hSw; (try dsimp only at hSw); go_simp <;> with_reducible rfl)
          try simp only [Act.put, List.setIfInBounds_toArray, List.set_cons_zero, List.set_cons_succ]
          refine wpAnyH_take (i := 1) (oi := ?oitp2) (v := ?vtp2) ?hoptp2 ?hstp2 ?hftp2 ?hrtp2 ?hQtp2 ?hytp2 (by assumption) ?resttp2
          case hoptp2 => (simp only [List.getElem?_toArray, List.getElem?_cons_zero, List.getElem?_cons_succ]; rfl)
          case hstp2 => kernel_rfl
          case hftp2 => kernel_rfl
          case hrtp2 => kernel_rfl
          case hQtp2 => exact fun _ _ _ h => h
          case hytp2 => (refine Or.inl ⟨by rfl, ?_⟩; intro w hSw; (try dsimp only at hSw); go_simp <;> with_reducible rfl)
          try simp only [Act.put, List.setIfInBounds_toArray, List.set_cons_zero, List.set_cons_succ]
          refine wpAnyH_take (i := 2) (oi := ?oitp3) (v := ?vtp3) ?hoptp3 ?hstp3 ?hftp3 ?hrtp3 ?hQtp3 ?hytp3 (by assumption) ?resttp3
          case hoptp3 => (simp only [List.getElem?_toArray, List.getElem?_cons_zero, List.getElem?_cons_succ]; rfl)
          case hstp3 => kernel_rfl
          case hftp3 => kernel_rfl
          case hrtp3 => kernel_rfl
          case hQtp3 => exact fun _ _ _ h => h
          case hytp3 => (refine Or.inl ⟨by rfl, ?_⟩; intro w hSw; (try dsimp only at hSw); go_simp <;> with_reducible rfl)
          try simp only [Act.put, List.setIfInBounds_toArray, List.set_cons_zero, List.set_cons_succ]
          refine wpAnyH_take (i := 3) (oi := ?oitp4) (v := ?vtp4) ?hoptp4 ?hstp4 ?hftp4 ?hrtp4 ?hQtp4 ?hytp4 (by assumption) ?resttp4
          case hoptp4 => (simp only [List.getElem?_toArray, List.getElem?_cons_zero, List.getElem?_cons_succ]; rfl)
          case hstp4 => kernel_rfl
          case hftp4 => kernel_rfl
          case hrtp4 => kernel_rfl
          case hQtp4 => exact fun _ _ _ h => h
          case hytp4 => (refine Or.inl ⟨by rfl, ?_⟩; intro w hSw; (try dsimp only at hSw); go_simp <;> with_reducible rfl)
          try simp only [Act.put, List.setIfInBounds_toArray, List.set_cons_zero, List.set_cons_succ]
          refine wpAnyH_ready (rs := [4, 5]) (by kernel_rfl) (by simp) ?_
          refine AllReadyH.cons (o := ?oitp5) ?hoptp5 (fun K hK => ?steptp5) ?moretp5
          case hoptp5 => (simp only [List.getElem?_toArray, List.getElem?_cons_zero, List.getElem?_cons_succ]; rfl)
          case moretp5 =>
            refine AllReadyH.cons (o := ?oitp6) ?hoptp6 (fun K hK => ?steptp6) ?moretp6
            case hoptp6 => (simp only [List.getElem?_toArray, List.getElem?_cons_zero, List.getElem?_cons_succ]; rfl)
            case moretp6 => exact AllReadyH.nil
            go_simp
            refine hK.out _ _ ?_ (fun hHeld => ?_)
            · (try dsimp only); first | done | trivial
            clear hK K
            try simp only [Act.put, List.setIfInBounds_toArray, List.set_cons_zero, List.set_cons_succ]
            refine wpAnyH_ready (rs := [4, 6]) (by kernel_rfl) (by simp) ?_
            refine AllReadyH.cons (o := ?oitp7) ?hoptp7 (fun K hK => ?steptp7) ?moretp7
            case hoptp7 => (simp only [List.getElem?_toArray, List.getElem?_cons_zero, List.getElem?_cons_succ]; rfl)
            case moretp7 =>
              refine AllReadyH.cons (o := ?oitp8) ?hoptp8 (fun K hK => ?steptp8) ?moretp8
              case hoptp8 => (simp only [List.getElem?_toArray, List.getElem?_cons_zero, List.getElem?_cons_succ]; rfl)
              case moretp8 => exact AllReadyH.nil
              go_simp
              refine hK.out _ _ ?_ (fun hHeld => ?_)
              · (try dsimp only); first | done | trivial
              clear hK K
              try simp only [Act.put, List.setIfInBounds_toArray, List.set_cons_zero, List.set_cons_succ]
              refine wpAnyH_ready (rs := [4]) (by kernel_rfl) (by simp) ?_
              refine AllReadyH.cons (o := ?oitp9) ?hoptp9 (fun K hK => ?steptp9) ?moretp9
              case hoptp9 => (simp only [List.getElem?_toArray, List.getElem?_cons_zero, List.getElem?_cons_succ]; rfl)
              case moretp9 => exact AllReadyH.nil
              go_simp
              refine hK.out _ _ ?_ (fun hHeld => ?_)
              · (try dsimp only); first | done | trivial
              clear hK K
              try simp only [Act.put, List.setIfInBounds_toArray, List.set_cons_zero, List.set_cons_succ]
              refine wpAnyH_ready (rs := [7]) (by kernel_rfl) (by simp) ?_
              refine AllReadyH.cons (o := ?oitp10) ?hoptp10 (fun K hK => ?steptp10) ?moretp10
              case hoptp10 => (simp only [List.getElem?_toArray, List.getElem?_cons_zero, List.getElem?_cons_succ]; rfl)
              case moretp10 => exact AllReadyH.nil
              (refine step_append_cel _ rfl (.tmp 93) (.tmp 95) rfl Gp (.slice va (celsL j up).length vc) (celsL j up) [((n0, n1), n2, n3, n4)] 1 rfl (some ⟨V5.heap.size, 0, none⟩) 1 (by simp [Act.eval]) (by simp [Act.eval]) hd6H.out.o ((rowNewCl rfl ((n0, n1), n2, n3, n4) _).gr (Gr.refl _).drew) (fun h => by cases h) (by rw [celsL_len]; unfold maxLen; simp; omega) (by rw [celsL_len]; simp; omega) hs5b.out ?_; intro vA wA hownA hgrA; have hbA : Hid (Below Gp (V5.alloc (.cells #[.int .i64 n0, .int .i64 n1, .int .i64 n2, .int .i64 n3, .int .i64 n4] 53)).drew wA) := OwnG.grown_below hd6H.out.o hgrA hs5b.out; have hD6 := hd6H.out.d.below hbA.out (Nat.le_refl _); have hownB : Hid (OwnC wA Gp vA (celsL j up ++ [((n0, n1), n2, n3, n4)])) := hownA; obtain ⟨A2, c2, rfl, h2, h3, h4⟩ := hownA.row encC_len; have p5b : wA.cell? ⟨N + 5, 5, none⟩ = some (.slice va (celsL j up).length vc) := hD6.p (by omega); have f5b := hD6.fp 5; have hD6H : Hid (DM w wA N x z5 [.int .i64 np0, .int .i64 np1, .int .i64 np2, .int .i64 np3, .slice Ap Lp.length cp, .slice va (celsL j up).length vc, .int .i64 0, .int .i64 0, .int .i64 0, .int .i64 0, .slice none 0 0, .slice none 0 0] Gp w3p) := hD6; clear hD6 hownA hgrA h2 h3 h4)
              refine hK.out _ _ ?_ (fun hHeld => ?_)
              · (try dsimp only); first | done | trivial
              clear hK K
              try simp only [Act.put, List.setIfInBounds_toArray, List.set_cons_zero, List.set_cons_succ]
              refine wpAnyH_take (i := 8) (oi := ?oitp11) (v := ?vtp11) ?hoptp11 ?hstp11 ?hftp11 ?hrtp11 ?hQtp11 ?hytp11 (by assumption) ?resttp11
              case hoptp11 => (simp only [List.getElem?_toArray, List.getElem?_cons_zero, List.getElem?_cons_succ]; rfl)
              case hstp11 => kernel_rfl
              case hftp11 => kernel_rfl
              case hrtp11 => kernel_rfl
              case hQtp11 => exact fun _ _ _ h => h
              case hytp11 => (refine Or.inl ⟨by rfl, ?_⟩; intro w hSw; (try dsimp only at hSw); go_simp <;> with_reducible rfl)
              try simp only [Act.put, List.setIfInBounds_toArray, List.set_cons_zero, List.set_cons_succ]
              refine wpAnyH_take (i := 9) (oi := ?oitp12) (v := ?vtp12) ?hoptp12 ?hstp12 ?hftp12 ?hrtp12 ?hQtp12 ?hytp12 (by assumption) ?resttp12
              case hoptp12 => (simp only [List.getElem?_toArray, List.getElem?_cons_zero, List.getElem?_cons_succ]; rfl)
              case hstp12 => kernel_rfl
              case hftp12 => kernel_rfl
              case hrtp12 => kernel_rfl
              case hQtp12 => exact fun _ _ _ h => h
              case hytp12 => (refine Or.inl ⟨by rfl, ?_⟩; intro w hSw; (try dsimp only at hSw); go_simp <;> with_reducible rfl)
              try simp only [Act.put, List.setIfInBounds_toArray, List.set_cons_zero, List.set_cons_succ]
              refine wpAnyH_ready (rs := [10]) (by kernel_rfl) (by simp) ?_
              refine AllReadyH.cons (o := ?oitp13) ?hoptp13 (fun K hK => ?steptp13) ?moretp13
              case hoptp13 => (simp only [List.getElem?_toArray, List.getElem?_cons_zero, List.getElem?_cons_succ]; rfl)
              case moretp13 => exact AllReadyH.nil
              go_simp
              refine hK.out _ _ ?_ (fun hHeld => ?_)
              · (try dsimp only); first | done | trivial
              clear hK K
              try simp only [Act.put, List.setIfInBounds_toArray, List.set_cons_zero, List.set_cons_succ]
              refine wpAnyH_done (by kernel_rfl) ?_ _
              refine NoPanic.normal ?_
              have hlen : (celsL j up ++ [((n0, n1), n2, n3, n4)]).length = (celsL j up).length + 1 := by simp
              have hownB2 := hownB.out
              rw [hlen] at hownB2
              have hL : Hid (celsL j up ++ [((n0, n1), n2, n3, n4)] = celsL (j + 1) up ∧ z5 = celsS (j + 1) up) := by
                rw [celsL, celsS, hz0H.out, hn0H.out.2, hn1H.out.2, hn2H.out.2, hn3H.out.2, hn4H.out.2, hn0H.out.1, hn1H.out.1, hn2H.out.1, hn3H.out.1, hn4H.out.1]
                exact ⟨rfl, rfl⟩
              have hown7 : Hid (DM w (wA.setCell ⟨N + 5, 5, none⟩ (.slice A2 ((celsL j up).length + 1) c2)) N x (celsS (j + 1) up) [.int .i64 np0, .int .i64 np1, .int .i64 np2, .int .i64 np3, .slice Ap Lp.length cp, .slice A2 ((celsL j up).length + 1) c2, .int .i64 0, .int .i64 0, .int .i64 0, .int .i64 0, .slice none 0 0, .slice none 0 0] Gp w3p ∧ OwnC (wA.setCell ⟨N + 5, 5, none⟩ (.slice A2 ((celsL j up).length + 1) c2)) Gp (.slice A2 ((celsL j up).length + 1) c2) (celsL (j + 1) up)) := by
                rw [← hL.out.1, ← hL.out.2]
                exact ⟨hD6H.out.put (i := 5) (by omega) _, OwnG.setCell hownB2 (show N + 5 < Gp by have := hD6H.out.hH; omega) _⟩
              clear hlen hownB2 p5 p5a p5b f5b x0 x1 x2 x3 x4
              go_wp2
              go_roundw
              case rel => exact ⟨j + 1, by go_num, by omega, _, hown7⟩
              case measure => simp [intOf]; omega
            go_simp
            refine hK.out _ _ ?_ (fun hHeld => ?_)
            · (try dsimp only); first | done | trivial
            clear hK K
            try simp only [Act.put, List.setIfInBounds_toArray, List.set_cons_zero, List.set_cons_succ]
            refine wpAnyH_ready (rs := [6]) (by kernel_rfl) (by simp) ?_
            refine AllReadyH.cons (o := ?oitp14) ?hoptp14 (fun K hK => ?steptp14) ?moretp14
            case hoptp14 => (simp only [List.getElem?_toArray, List.getElem?_cons_zero, List.getElem?_cons_succ]; rfl)
            case moretp14 => exact AllReadyH.nil
            go_simp
            refine hK.out _ _ ?_ (fun hHeld => ?_)
            · (try dsimp only); first | done | trivial
            clear hK K
            try simp only [Act.put, List.setIfInBounds_toArray, List.set_cons_zero, List.set_cons_succ]
            refine wpAnyH_ready (rs := [7]) (by kernel_rfl) (by simp) ?_
            refine AllReadyH.cons (o := ?oitp15) ?hoptp15 (fun K hK => ?steptp15) ?moretp15
            case hoptp15 => (simp only [List.getElem?_toArray, List.getElem?_cons_zero, List.getElem?_cons_succ]; rfl)
            case moretp15 => exact AllReadyH.nil
            (refine step_append_cel _ rfl (.tmp 93) (.tmp 95) rfl Gp (.slice va (celsL j up).length vc) (celsL j up) [((n0, n1), n2, n3, n4)] 1 rfl (some ⟨V5.heap.size, 0, none⟩) 1 (by simp [Act.eval]) (by simp [Act.eval]) hd6H.out.o ((rowNewCl rfl ((n0, n1), n2, n3, n4) _).gr (Gr.refl _).drew) (fun h => by cases h) (by rw [celsL_len]; unfold maxLen; simp; omega) (by rw [celsL_len]; simp; omega) hs5b.out ?_; intro vA wA hownA hgrA; have hbA : Hid (Below Gp (V5.alloc (.cells #[.int .i64 n0, .int .i64 n1, .int .i64 n2, .int .i64 n3, .int .i64 n4] 53)).drew wA) := OwnG.grown_below hd6H.out.o hgrA hs5b.out; have hD6 := hd6H.out.d.below hbA.out (Nat.le_refl _); have hownB : Hid (OwnC wA Gp vA (celsL j up ++ [((n0, n1), n2, n3, n4)])) := hownA; obtain ⟨A2, c2, rfl, h2, h3, h4⟩ := hownA.row encC_len; have p5b : wA.cell? ⟨N + 5, 5, none⟩ = some (.slice va (celsL j up).length vc) := hD6.p (by omega); have f5b := hD6.fp 5; have hD6H : Hid (DM w wA N x z5 [.int .i64 np0, .int .i64 np1, .int .i64 np2, .int .i64 np3, .slice Ap Lp.length cp, .slice va (celsL j up).length vc, .int .i64 0, .int .i64 0, .int .i64 0, .int .i64 0, .slice none 0 0, .slice none 0 0] Gp w3p) := hD6; clear hD6 hownA hgrA h2 h3 h4)
            refine hK.out _ _ ?_ (fun hHeld => ?_)
            · (try dsimp only); first | done | trivial
            clear hK K
            try simp only [Act.put, List.setIfInBounds_toArray, List.set_cons_zero, List.set_cons_succ]
            refine wpAnyH_take (i := 8) (oi := ?oitp16) (v := ?vtp16) ?hoptp16 ?hstp16 ?hftp16 ?hrtp16 ?hQtp16 ?hytp16 (by assumption) ?resttp16
            case hoptp16 => (simp only [List.getElem?_toArray, List.getElem?_cons_zero, List.getElem?_cons_succ]; rfl)
            case hstp16 => kernel_rfl
            case hftp16 => kernel_rfl
            case hrtp16 => kernel_rfl
            case hQtp16 => exact fun _ _ _ h => h
            case hytp16 => (refine Or.inl ⟨by rfl, ?_⟩; intro w hSw; (try dsimp only at hSw); go_simp <;> with_reducible rfl)
            try simp only [Act.put, List.setIfInBounds_toArray, List.set_cons_zero, List.set_cons_succ]
            refine wpAnyH_take (i := 9) (oi := ?oitp17) (v := ?vtp17) ?hoptp17 ?hstp17 ?hftp17 ?hrtp17 ?hQtp17 ?hytp17 (by assumption) ?resttp17
            case hoptp17 => (simp only [List.getElem?_toArray, List.getElem?_cons_zero, List.getElem?_cons_succ]; rfl)
            case hstp17 => kernel_rfl
            case hftp17 => kernel_rfl
            case hrtp17 => kernel_rfl
            case hQtp17 => exact fun _ _ _ h => h
            case hytp17 => (refine Or.inl ⟨by rfl, ?_⟩; intro w hSw; (try dsimp only at hSw); go_simp <;> with_reducible rfl)
            try simp only [Act.put, List.setIfInBounds_toArray, List.set_cons_zero, List.set_cons_succ]
            refine wpAnyH_ready (rs := [10]) (by kernel_rfl) (by simp) ?_
            refine AllReadyH.cons (o := ?oitp18) ?hoptp18 (fun K hK => ?steptp18) ?moretp18
            case hoptp18 => (simp only [List.getElem?_toArray, List.getElem?_cons_zero, List.getElem?_cons_succ]; rfl)
            case moretp18 => exact AllReadyH.nil
            go_simp
            refine hK.out _ _ ?_ (fun hHeld => ?_)
            · (try dsimp only); first | done | trivial
            clear hK K
            try simp only [Act.put, List.setIfInBounds_toArray, List.set_cons_zero, List.set_cons_succ]
            refine wpAnyH_done (by kernel_rfl) ?_ _
            refine NoPanic.normal ?_
            have hlen : (celsL j up ++ [((n0, n1), n2, n3, n4)]).length = (celsL j up).length + 1 := by simp
            have hownB2 := hownB.out
            rw [hlen] at hownB2
            have hL : Hid (celsL j up ++ [((n0, n1), n2, n3, n4)] = celsL (j + 1) up ∧ z5 = celsS (j + 1) up) := by
              rw [celsL, celsS, hz0H.out, hn0H.out.2, hn1H.out.2, hn2H.out.2, hn3H.out.2, hn4H.out.2, hn0H.out.1, hn1H.out.1, hn2H.out.1, hn3H.out.1, hn4H.out.1]
              exact ⟨rfl, rfl⟩
            have hown7 : Hid (DM w (wA.setCell ⟨N + 5, 5, none⟩ (.slice A2 ((celsL j up).length + 1) c2)) N x (celsS (j + 1) up) [.int .i64 np0, .int .i64 np1, .int .i64 np2, .int .i64 np3, .slice Ap Lp.length cp, .slice A2 ((celsL j up).length + 1) c2, .int .i64 0, .int .i64 0, .int .i64 0, .int .i64 0, .slice none 0 0, .slice none 0 0] Gp w3p ∧ OwnC (wA.setCell ⟨N + 5, 5, none⟩ (.slice A2 ((celsL j up).length + 1) c2)) Gp (.slice A2 ((celsL j up).length + 1) c2) (celsL (j + 1) up)) := by
              rw [← hL.out.1, ← hL.out.2]
              exact ⟨hD6H.out.put (i := 5) (by omega) _, OwnG.setCell hownB2 (show N + 5 < Gp by have := hD6H.out.hH; omega) _⟩
            clear hlen hownB2 p5 p5a p5b f5b x0 x1 x2 x3 x4
            go_wp2
            go_roundw
            case rel => exact ⟨j + 1, by go_num, by omega, _, hown7⟩
            case measure => simp [intOf]; omega
          go_simp
          refine hK.out _ _ ?_ (fun hHeld => ?_)
          · (try dsimp only); first | done | trivial
          clear hK K
          try simp only [Act.put, List.setIfInBounds_toArray, List.set_cons_zero, List.set_cons_succ]
          refine wpAnyH_ready (rs := [5]) (by kernel_rfl) (by simp) ?_
          refine AllReadyH.cons (o := ?oitp19) ?hoptp19 (fun K hK => ?steptp19) ?moretp19
          case hoptp19 => (simp only [List.getElem?_toArray, List.getElem?_cons_zero, List.getElem?_cons_succ]; rfl)
          case moretp19 => exact AllReadyH.nil
          go_simp
          refine hK.out _ _ ?_ (fun hHeld => ?_)
          · (try dsimp only); first | done | trivial
          clear hK K
          try simp only [Act.put, List.setIfInBounds_toArray, List.set_cons_zero, List.set_cons_succ]
          refine wpAnyH_ready (rs := [6]) (by kernel_rfl) (by simp) ?_
          refine AllReadyH.cons (o := ?oitp20) ?hoptp20 (fun K hK => ?steptp20) ?moretp20
          case hoptp20 => (simp only [List.getElem?_toArray, List.getElem?_cons_zero, List.getElem?_cons_succ]; rfl)
          case moretp20 => exact AllReadyH.nil
          go_simp
          refine hK.out _ _ ?_ (fun hHeld => ?_)
          · (try dsimp only); first | done | trivial
          clear hK K
          try simp only [Act.put, List.setIfInBounds_toArray, List.set_cons_zero, List.set_cons_succ]
          refine wpAnyH_ready (rs := [7]) (by kernel_rfl) (by simp) ?_
          refine AllReadyH.cons (o := ?oitp21) ?hoptp21 (fun K hK => ?steptp21) ?moretp21
          case hoptp21 => (simp only [List.getElem?_toArray, List.getElem?_cons_zero, List.getElem?_cons_succ]; rfl)
          case moretp21 => exact AllReadyH.nil
          (refine step_append_cel _ rfl (.tmp 93) (.tmp 95) rfl Gp (.slice va (celsL j up).length vc) (celsL j up) [((n0, n1), n2, n3, n4)] 1 rfl (some ⟨V5.heap.size, 0, none⟩) 1 (by simp [Act.eval]) (by simp [Act.eval]) hd6H.out.o ((rowNewCl rfl ((n0, n1), n2, n3, n4) _).gr (Gr.refl _).drew) (fun h => by cases h) (by rw [celsL_len]; unfold maxLen; simp; omega) (by rw [celsL_len]; simp; omega) hs5b.out ?_; intro vA wA hownA hgrA; have hbA : Hid (Below Gp (V5.alloc (.cells #[.int .i64 n0, .int .i64 n1, .int .i64 n2, .int .i64 n3, .int .i64 n4] 53)).drew wA) := OwnG.grown_below hd6H.out.o hgrA hs5b.out; have hD6 := hd6H.out.d.below hbA.out (Nat.le_refl _); have hownB : Hid (OwnC wA Gp vA (celsL j up ++ [((n0, n1), n2, n3, n4)])) := hownA; obtain ⟨A2, c2, rfl, h2, h3, h4⟩ := hownA.row encC_len; have p5b : wA.cell? ⟨N + 5, 5, none⟩ = some (.slice va (celsL j up).length vc) := hD6.p (by omega); have f5b := hD6.fp 5; have hD6H : Hid (DM w wA N x z5 [.int .i64 np0, .int .i64 np1, .int .i64 np2, .int .i64 np3, .slice Ap Lp.length cp, .slice va (celsL j up).length vc, .int .i64 0, .int .i64 0, .int .i64 0, .int .i64 0, .slice none 0 0, .slice none 0 0] Gp w3p) := hD6; clear hD6 hownA hgrA h2 h3 h4)
          refine hK.out _ _ ?_ (fun hHeld => ?_)
          · (try dsimp only); first | done | trivial
          clear hK K
          try simp only [Act.put, List.setIfInBounds_toArray, List.set_cons_zero, List.set_cons_succ]
          refine wpAnyH_take (i := 8) (oi := ?oitp22) (v := ?vtp22) ?hoptp22 ?hstp22 ?hftp22 ?hrtp22 ?hQtp22 ?hytp22 (by assumption) ?resttp22
          case hoptp22 => (simp only [List.getElem?_toArray, List.getElem?_cons_zero, List.getElem?_cons_succ]; rfl)
          case hstp22 => kernel_rfl
          case hftp22 => kernel_rfl
          case hrtp22 => kernel_rfl
          case hQtp22 => exact fun _ _ _ h => h
          case hytp22 => (refine Or.inl ⟨by rfl, ?_⟩; intro w hSw; (try dsimp only at hSw); go_simp <;> with_reducible rfl)
          try simp only [Act.put, List.setIfInBounds_toArray, List.set_cons_zero, List.set_cons_succ]
          refine wpAnyH_take (i := 9) (oi := ?oitp23) (v := ?vtp23) ?hoptp23 ?hstp23 ?hftp23 ?hrtp23 ?hQtp23 ?hytp23 (by assumption) ?resttp23
          case hoptp23 => (simp only [List.getElem?_toArray, List.getElem?_cons_zero, List.getElem?_cons_succ]; rfl)
          case hstp23 => kernel_rfl
          case hftp23 => kernel_rfl
          case hrtp23 => kernel_rfl
          case hQtp23 => exact fun _ _ _ h => h
          case hytp23 => (refine Or.inl ⟨by rfl, ?_⟩; intro w hSw; (try dsimp only at hSw); go_simp <;> with_reducible rfl)
          try simp only [Act.put, List.setIfInBounds_toArray, List.set_cons_zero, List.set_cons_succ]
          refine wpAnyH_ready (rs := [10]) (by kernel_rfl) (by simp) ?_
          refine AllReadyH.cons (o := ?oitp24) ?hoptp24 (fun K hK => ?steptp24) ?moretp24
          case hoptp24 => (simp only [List.getElem?_toArray, List.getElem?_cons_zero, List.getElem?_cons_succ]; rfl)
          case moretp24 => exact AllReadyH.nil
          go_simp
          refine hK.out _ _ ?_ (fun hHeld => ?_)
          · (try dsimp only); first | done | trivial
          clear hK K
          try simp only [Act.put, List.setIfInBounds_toArray, List.set_cons_zero, List.set_cons_succ]
          refine wpAnyH_done (by kernel_rfl) ?_ _
          refine NoPanic.normal ?_
          have hlen : (celsL j up ++ [((n0, n1), n2, n3, n4)]).length = (celsL j up).length + 1 := by simp
          have hownB2 := hownB.out
          rw [hlen] at hownB2
          have hL : Hid (celsL j up ++ [((n0, n1), n2, n3, n4)] = celsL (j + 1) up ∧ z5 = celsS (j + 1) up) := by
            rw [celsL, celsS, hz0H.out, hn0H.out.2, hn1H.out.2, hn2H.out.2, hn3H.out.2, hn4H.out.2, hn0H.out.1, hn1H.out.1, hn2H.out.1, hn3H.out.1, hn4H.out.1]
            exact ⟨rfl, rfl⟩
          have hown7 : Hid (DM w (wA.setCell ⟨N + 5, 5, none⟩ (.slice A2 ((celsL j up).length + 1) c2)) N x (celsS (j + 1) up) [.int .i64 np0, .int .i64 np1, .int .i64 np2, .int .i64 np3, .slice Ap Lp.length cp, .slice A2 ((celsL j up).length + 1) c2, .int .i64 0, .int .i64 0, .int .i64 0, .int .i64 0, .slice none 0 0, .slice none 0 0] Gp w3p ∧ OwnC (wA.setCell ⟨N + 5, 5, none⟩ (.slice A2 ((celsL j up).length + 1) c2)) Gp (.slice A2 ((celsL j up).length + 1) c2) (celsL (j + 1) up)) := by
            rw [← hL.out.1, ← hL.out.2]
            exact ⟨hD6H.out.put (i := 5) (by omega) _, OwnG.setCell hownB2 (show N + 5 < Gp by have := hD6H.out.hH; omega) _⟩
          clear hlen hownB2 p5 p5a p5b f5b x0 x1 x2 x3 x4
          go_wp2
          go_roundw
          case rel => exact ⟨j + 1, by go_num, by omega, _, hown7⟩
          case measure => simp [intOf]; omega
        · have hjK : j = Kp := by omega
          subst hjK
          have hltz2 : ¬ (j : Int) < (j : Int) := by omega
          obtain ⟨Dp, dp, hv1, _, hr1, hb1⟩ := hR.out.2.row encC_len
          subst hv1
          obtain ⟨Ep, hEp⟩ : ∃ L, celsL j up = L := ⟨_, rfl⟩
          obtain ⟨fp, hfp⟩ : ∃ t, celsS j up = t := ⟨_, rfl⟩
          rw [hEp] at hr1
          have hD := hR.out.1
          rw [hEp, hfp] at hD
          have hEpH : Hid (celsL j up = Ep ∧ celsS j up = fp) := ⟨hEp, hfp⟩
          obtain ⟨Jp, hJp⟩ : ∃ H, wk.heap.size = H := ⟨_, rfl⟩
          have hT5p : Hid (DM w wk N x fp [.int .i64 np0, .int .i64 np1, .int .i64 np2, .int .i64 np3, .slice Ap Lp.length cp, .slice Dp Ep.length dp, .int .i64 0, .int .i64 0, .int .i64 0, .int .i64 0, .slice none 0 0, .slice none 0 0] Jp wk) := hD.rebase hJp
          have hle5p : Hid (Gp ≤ Jp) := by show _ ≤ _; rw [← hJp]; exact hD.sz
          have hrwDp : Hid (RowC wk Dp Ep ∧ ∀ a, Dp = some a → Ep ≠ [] → N + 6 ≤ a.block ∧ a.block < Jp) := ⟨hr1, fun a e _ => by have := hb1 a e; have := hD.hH; omega⟩
          have hbDp : Hid (∀ a, Dp = some a → N + 6 ≤ a.block) := fun a e => by have := hb1 a e; have := hD.hH; omega
          have hrwAp1 : Hid (Row wk Ap Lp ∧ ∀ a, Ap = some a → Lp ≠ [] → N + 6 ≤ a.block ∧ a.block < Jp) := ⟨Row.mid hrwAp.out.1 hD.m hrwAp.out.2, fun a e h0 => by have := hrwAp.out.2 a e h0; have := hle5p.out; omega⟩
          have htabp : Hid (tabR stp = ⟨⟨np0, np1, np2, np3, Lp⟩, Ep⟩ ∧ tabS stp = fp) := by
            unfold tabR tabS cldS clkS
            rw [htp0H.out, hnp0H.out.2, hnp1H.out.2, hnp2H.out.2, hnp3H.out.2, hnp0H.out.1, hnp1H.out.1, hnp2H.out.1, hnp3H.out.1, hMpH.out.1, hMpH.out.2, Int.toNat_natCast, hLpH.out.1, hLpH.out.2, hKpH.out.1, hKpH.out.2, Int.toNat_natCast, hEpH.out.1, hEpH.out.2]
            exact ⟨rfl, rfl⟩
          clear hR hr1 hb1 hD hfp hrwAp htp0H hnp0H hnp1H hnp2H hnp3H hMpH hLpH hKpH hEpH hEp hLp
          go_wp2
          obtain ⟨wkp, hwkp⟩ : ∃ W, wk = W := ⟨_, rfl⟩
          subst hwkp
          rw [rounds_succ]
          go_wp2
          refine wp_loop_rounds 5 ?_
          obtain ⟨stq, hstq⟩ : ∃ t, fp = t := ⟨_, rfl⟩
          rw [hstq] at hT5p
          have hstqH : Hid (fp = stq) := hstq
          clear hstq
          obtain ⟨tq0, htq0⟩ : ∃ t, stq = t := ⟨_, rfl⟩
          have htq0H : Hid (stq = tq0) := htq0
          rw [htq0] at hT5p
          clear htq0
          rw [rounds_succ]
          have hE := hT5p.out.gr (Gr.refl wk).drew
          have hn := hE.n
          obtain ⟨nq0, hnq0⟩ : ∃ n, nxN tq0 = n := ⟨_, rfl⟩
          obtain ⟨tq1, htq1⟩ : ∃ t, nxS tq0 = t := ⟨_, rfl⟩
          have hC := hE.asks hx hnq0 htq1
          have hCH : Hid _ := hC
          have hnq0H : Hid (nxN tq0 = nq0 ∧ nxS tq0 = tq1) := ⟨hnq0, htq1⟩
          clear hC hE hnq0 htq1
          go_wp2_with fail
          go_region_with (go_at_call 29; refine Calls.mono (show Calls _ _ _ _ _ from hCH.out) ?_; rintro e vq0 ⟨rfl, hD1, hK1⟩; have p1 : vq0.cell? ⟨N + 5, 6, none⟩ = some (.int .i64 0) := hD1.p (by omega); have f1 := hD1.fp 6; have hD1H : Hid (DM w vq0 N x tq1 [.int .i64 np0, .int .i64 np1, .int .i64 np2, .int .i64 np3, .slice Ap Lp.length cp, .slice Dp Ep.length dp, .int .i64 0, .int .i64 0, .int .i64 0, .int .i64 0, .slice none 0 0, .slice none 0 0] Jp wk) := hD1; clear hD1)
          obtain ⟨Wq0, hWq0⟩ : ∃ W, vq0.setCell ⟨N + 5, 6, none⟩ (.int .i64 nq0) = W := ⟨_, rfl⟩
          have hTq1 : Hid (DM w Wq0 N x tq1 [.int .i64 np0, .int .i64 np1, .int .i64 np2, .int .i64 np3, .slice Ap Lp.length cp, .slice Dp Ep.length dp, .int .i64 nq0, .int .i64 0, .int .i64 0, .int .i64 0, .slice none 0 0, .slice none 0 0] Jp wk) := by rw [← hWq0]; exact hD1H.out.put (i := 6) (by omega) _
          clear hCH hn p1 f1 hD1H hK1 hT5p
          go_wp2
          clear hWq0
          rw [rounds_succ]
          have hE := hTq1.out.gr (Gr.refl Wq0).drew
          have hn := hE.n
          obtain ⟨nq1, hnq1⟩ : ∃ n, nxN tq1 = n := ⟨_, rfl⟩
          obtain ⟨tq2, htq2⟩ : ∃ t, nxS tq1 = t := ⟨_, rfl⟩
          have hC := hE.asks hx hnq1 htq2
          have hCH : Hid _ := hC
          have hnq1H : Hid (nxN tq1 = nq1 ∧ nxS tq1 = tq2) := ⟨hnq1, htq2⟩
          clear hC hE hnq1 htq2
          go_wp2_with fail
          go_region_with (go_at_call 29; refine Calls.mono (show Calls _ _ _ _ _ from hCH.out) ?_; rintro e vq1 ⟨rfl, hD1, hK1⟩; have p1 : vq1.cell? ⟨N + 5, 7, none⟩ = some (.int .i64 0) := hD1.p (by omega); have f1 := hD1.fp 7; have hD1H : Hid (DM w vq1 N x tq2 [.int .i64 np0, .int .i64 np1, .int .i64 np2, .int .i64 np3, .slice Ap Lp.length cp, .slice Dp Ep.length dp, .int .i64 nq0, .int .i64 0, .int .i64 0, .int .i64 0, .slice none 0 0, .slice none 0 0] Jp wk) := hD1; clear hD1)
          obtain ⟨Wq1, hWq1⟩ : ∃ W, vq1.setCell ⟨N + 5, 7, none⟩ (.int .i64 nq1) = W := ⟨_, rfl⟩
          have hTq2 : Hid (DM w Wq1 N x tq2 [.int .i64 np0, .int .i64 np1, .int .i64 np2, .int .i64 np3, .slice Ap Lp.length cp, .slice Dp Ep.length dp, .int .i64 nq0, .int .i64 nq1, .int .i64 0, .int .i64 0, .slice none 0 0, .slice none 0 0] Jp wk) := by rw [← hWq1]; exact hD1H.out.put (i := 7) (by omega) _
          clear hCH hn p1 f1 hD1H hK1 hTq1
          go_wp2
          clear hWq1
          rw [rounds_succ]
          have hE := hTq2.out.gr (Gr.refl Wq1).drew
          have hn := hE.n
          obtain ⟨nq2, hnq2⟩ : ∃ n, nxN tq2 = n := ⟨_, rfl⟩
          obtain ⟨tq3, htq3⟩ : ∃ t, nxS tq2 = t := ⟨_, rfl⟩
          have hC := hE.asks hx hnq2 htq3
          have hCH : Hid _ := hC
          have hnq2H : Hid (nxN tq2 = nq2 ∧ nxS tq2 = tq3) := ⟨hnq2, htq3⟩
          clear hC hE hnq2 htq3
          go_wp2_with fail
          go_region_with (go_at_call 29; refine Calls.mono (show Calls _ _ _ _ _ from hCH.out) ?_; rintro e vq2 ⟨rfl, hD1, hK1⟩; have p1 : vq2.cell? ⟨N + 5, 8, none⟩ = some (.int .i64 0) := hD1.p (by omega); have f1 := hD1.fp 8; have hD1H : Hid (DM w vq2 N x tq3 [.int .i64 np0, .int .i64 np1, .int .i64 np2, .int .i64 np3, .slice Ap Lp.length cp, .slice Dp Ep.length dp, .int .i64 nq0, .int .i64 nq1, .int .i64 0, .int .i64 0, .slice none 0 0, .slice none 0 0] Jp wk) := hD1; clear hD1)
          obtain ⟨Wq2, hWq2⟩ : ∃ W, vq2.setCell ⟨N + 5, 8, none⟩ (.int .i64 nq2) = W := ⟨_, rfl⟩
          have hTq3 : Hid (DM w Wq2 N x tq3 [.int .i64 np0, .int .i64 np1, .int .i64 np2, .int .i64 np3, .slice Ap Lp.length cp, .slice Dp Ep.length dp, .int .i64 nq0, .int .i64 nq1, .int .i64 nq2, .int .i64 0, .slice none 0 0, .slice none 0 0] Jp wk) := by rw [← hWq2]; exact hD1H.out.put (i := 8) (by omega) _
          clear hCH hn p1 f1 hD1H hK1 hTq2
          go_wp2
          clear hWq2
          rw [rounds_succ]
          have hE := hTq3.out.gr (Gr.refl Wq2).drew
          have hn := hE.n
          obtain ⟨nq3, hnq3⟩ : ∃ n, nxN tq3 = n := ⟨_, rfl⟩
          obtain ⟨tq4, htq4⟩ : ∃ t, nxS tq3 = t := ⟨_, rfl⟩
          have hC := hE.asks hx hnq3 htq4
          have hCH : Hid _ := hC
          have hnq3H : Hid (nxN tq3 = nq3 ∧ nxS tq3 = tq4) := ⟨hnq3, htq4⟩
          clear hC hE hnq3 htq4
          go_wp2_with fail
          go_region_with (go_at_call 29; refine Calls.mono (show Calls _ _ _ _ _ from hCH.out) ?_; rintro e vq3 ⟨rfl, hD1, hK1⟩; have p1 : vq3.cell? ⟨N + 5, 9, none⟩ = some (.int .i64 0) := hD1.p (by omega); have f1 := hD1.fp 9; have hD1H : Hid (DM w vq3 N x tq4 [.int .i64 np0, .int .i64 np1, .int .i64 np2, .int .i64 np3, .slice Ap Lp.length cp, .slice Dp Ep.length dp, .int .i64 nq0, .int .i64 nq1, .int .i64 nq2, .int .i64 0, .slice none 0 0, .slice none 0 0] Jp wk) := hD1; clear hD1)
          obtain ⟨Wq3, hWq3⟩ : ∃ W, vq3.setCell ⟨N + 5, 9, none⟩ (.int .i64 nq3) = W := ⟨_, rfl⟩
          have hTq4 : Hid (DM w Wq3 N x tq4 [.int .i64 np0, .int .i64 np1, .int .i64 np2, .int .i64 np3, .slice Ap Lp.length cp, .slice Dp Ep.length dp, .int .i64 nq0, .int .i64 nq1, .int .i64 nq2, .int .i64 nq3, .slice none 0 0, .slice none 0 0] Jp wk) := by rw [← hWq3]; exact hD1H.out.put (i := 9) (by omega) _
          clear hCH hn p1 f1 hD1H hK1 hTq3
          go_wp2
          clear hWq3
          rw [rounds_succ]
          obtain ⟨Mq, hMq, hMq4⟩ := my_natR tq4
          obtain ⟨sq, hsq⟩ : ∃ t, myS tq4 = t := ⟨_, rfl⟩
          have hC := hTq4.out.counts hx hMq hsq
          have hCH : Hid _ := hC
          have hMqH : Hid (myN tq4 = Mq ∧ myS tq4 = sq) := ⟨hMq, hsq⟩
          clear hC hMq hsq
          go_wp2_with fail
          refine Calls.mono (show Calls _ _ _ _ _ from hCH.out) ?_
          rintro e w1q ⟨rfl, hD1, hK1⟩
          obtain ⟨Hq, hHq⟩ : ∃ H, w1q.heap.size = H := ⟨_, rfl⟩
          have hT1q : Hid (DM w w1q N x sq [.int .i64 np0, .int .i64 np1, .int .i64 np2, .int .i64 np3, .slice Ap Lp.length cp, .slice Dp Ep.length dp, .int .i64 nq0, .int .i64 nq1, .int .i64 nq2, .int .i64 nq3, .slice none 0 0, .slice none 0 0] Hq w1q) := hD1.rebase hHq
          have hleq : Hid (Jp ≤ Hq) := by show _ ≤ _; rw [← hHq]; exact hD1.sz
          have hrwAp11 : Hid (Row w1q Ap Lp ∧ ∀ a, Ap = some a → Lp ≠ [] → N + 6 ≤ a.block ∧ a.block < Hq) := ⟨Row.mid hrwAp1.out.1 hD1.m hrwAp1.out.2, fun a e h0 => by have := hrwAp1.out.2 a e h0; have := hleq.out; omega⟩
          have hrwDp1 : Hid (RowC w1q Dp Ep ∧ ∀ a, Dp = some a → Ep ≠ [] → N + 6 ≤ a.block ∧ a.block < Hq) := ⟨RowG.mid hrwDp.out.1 hD1.m hrwDp.out.2, fun a e h0 => by have := hrwDp.out.2 a e h0; have := hleq.out; omega⟩
          clear hCH hK1 hD1 hTq4 hrwAp1 hrwDp
          go_wp2
          go_loopw [14] (fun kv wi => ∃ (k : Nat), kv = .int .i64 k ∧ k ≤ Mq ∧ ∃ (v : Value), Hid (DM w wi N x (dotsS k sq) [.int .i64 np0, .int .i64 np1, .int .i64 np2, .int .i64 np3, .slice Ap Lp.length cp, .slice Dp Ep.length dp, .int .i64 nq0, .int .i64 nq1, .int .i64 nq2, .int .i64 nq3, v, .slice none 0 0] Hq w1q ∧ Own wi Hq v (dotsL k sq))) (fun kv _ => Mq - (intOf kv).toNat)
          case atStart => exact ⟨0, rfl, by omega, .slice none 0 0, hT1q.out, Own.nil _ _⟩
          case round =>
            rename World => wj
            clear hT1q
            obtain ⟨k, rfl, hk, v, hR⟩ := hrel
            by_cases hlt : k < Mq
            · have hltz : (k : Int) < (Mq : Int) := by omega
              have hn := hR.out.1.n
              obtain ⟨n1, hn1⟩ : ∃ n, nxN (dotsS k sq) = n := ⟨_, rfl⟩
              obtain ⟨t1, ht1⟩ : ∃ t, nxS (dotsS k sq) = t := ⟨_, rfl⟩
              have hC := hR.out.1.asks hx hn1 ht1
              have hCH : Hid _ := hC
              clear hC
              go_wp2_with fail
              refine Calls.mono (show Calls _ _ _ _ _ from hCH.out) ?_
              rintro e w2 ⟨rfl, hD2, hK2⟩
              have hHN : Hid (N + 6 ≤ Hq) := hD2.hH
              have hHs2 : Hid (Hq ≤ w2.heap.size) := hD2.sz
              have hownA := hK2.out.own Hq v (dotsL k sq) hHN.out hR.out.2
              have hE := hD2.gr (Gr.refl w2).drew
              obtain ⟨n2, hn2⟩ : ∃ n, nxN t1 = n := ⟨_, rfl⟩
              obtain ⟨t2, ht2⟩ : ∃ t, nxS t1 = t := ⟨_, rfl⟩
              have hC := hE.asks hx hn2 ht2
              have hCH2 : Hid _ := hC
              have hownH : Hid (Own w2.drew Hq v (dotsL k sq)) := hownA.gr (Gr.refl w2).drew
              obtain ⟨va, vc, hv, _, _, _⟩ := hownA.row
              subst hv
              have p4 : w2.drew.cell? ⟨N + 5, 10, none⟩ = some (.slice va (dotsL k sq).length vc) := hE.p (by omega)
              have hn' := hE.n
              have hKeep : Hid (∀ W' t P, DM w W' N x t P Hq w1q → (fun w' => w'.cell? ⟨N + 4, 0, none⟩ = some (.func (.func 29) #[] #[.pointer (some ⟨N + 3, 0, none⟩), .pointer (some ⟨N, 0, none⟩), .pointer (some ⟨N + 2, 0, none⟩)])) W') := fun W' t P h => h.n
              have hEH : Hid (DM w w2.drew N x t1 [.int .i64 np0, .int .i64 np1, .int .i64 np2, .int .i64 np3, .slice Ap Lp.length cp, .slice Dp Ep.length dp, .int .i64 nq0, .int .i64 nq1, .int .i64 nq2, .int .i64 nq3, .slice va (dotsL k sq).length vc, .slice none 0 0] Hq w1q) := hE
              have hn1H : Hid (nxN (dotsS k sq) = n1 ∧ nxN (nxS (dotsS k sq)) = n2 ∧ nxS (nxS (dotsS k sq)) = t2) := by rw [ht1]; exact ⟨hn1, hn2, ht2⟩
              clear hC hCH hn hownA hD2 hE hn1 hn2 ht1 ht2 hR
              go_wp2_with fail
              refine wp_region_noPanic ?_
              refine wp_region_held_drew (S := (fun w' => w'.cell? ⟨N + 4, 0, none⟩ = some (.func (.func 29) #[] #[.pointer (some ⟨N + 3, 0, none⟩), .pointer (some ⟨N, 0, none⟩), .pointer (some ⟨N + 2, 0, none⟩)]))) (by kernel_rfl) (hKeep.out _ _ _ hEH.out) (fun hHeld => ?_)
              refine wpAnyH_take (i := 0) (oi := ?oisq1) (v := ?vsq1) ?hopsq1 ?hssq1 ?hfsq1 ?hrsq1 ?hQsq1 ?hysq1 (by assumption) ?restsq1
              case hopsq1 => (simp only [List.getElem?_toArray, List.getElem?_cons_zero]; rfl)
              case hssq1 => kernel_rfl
              case hfsq1 => kernel_rfl
              case hrsq1 => kernel_rfl
              case hQsq1 => exact fun _ _ _ h => h
              case hysq1 => (refine Or.inl ⟨by rfl, ?_⟩; intro w hSw; (try dsimp only at hSw); go_simp <;> with_reducible rfl)
              try simp only [Act.put, List.setIfInBounds_toArray, List.set_cons_zero, List.set_cons_succ]
              refine wpAnyH_take (i := 1) (oi := ?oisq2) (v := ?vsq2) ?hopsq2 ?hssq2 ?hfsq2 ?hrsq2 ?hQsq2 ?hysq2 (by assumption) ?restsq2
              case hopsq2 => (simp only [List.getElem?_toArray, List.getElem?_cons_zero, List.getElem?_cons_succ]; rfl)
              case hssq2 => kernel_rfl
              case hfsq2 => kernel_rfl
              case hrsq2 => kernel_rfl
              case hQsq2 => exact fun _ _ _ h => h
              case hysq2 => (refine Or.inl ⟨by rfl, ?_⟩; intro w hSw; (try dsimp only at hSw); go_simp <;> with_reducible rfl)
              try simp only [Act.put, List.setIfInBounds_toArray, List.set_cons_zero, List.set_cons_succ]
              refine wpAnyH_take (i := 2) (oi := ?oisq3) (v := ?vsq3) ?hopsq3 ?hssq3 ?hfsq3 ?hrsq3 ?hQsq3 ?hysq3 (by assumption) ?restsq3
              case hopsq3 => (simp only [List.getElem?_toArray, List.getElem?_cons_zero, List.getElem?_cons_succ]; rfl)
              case hssq3 => kernel_rfl
              case hfsq3 => kernel_rfl
              case hrsq3 => kernel_rfl
              case hQsq3 => exact fun _ _ _ h => h
              case hysq3 => (refine Or.inl ⟨by rfl, ?_⟩; intro w hSw; (try dsimp only at hSw); go_simp <;> with_reducible rfl)
              try simp only [Act.put, List.setIfInBounds_toArray, List.set_cons_zero, List.set_cons_succ]
              refine wpAnyH_take (i := 3) (oi := ?oisq4) (v := ?vsq4) ?hopsq4 ?hssq4 ?hfsq4 ?hrsq4 ?hQsq4 ?hysq4 (by assumption) ?restsq4
              case hopsq4 => (simp only [List.getElem?_toArray, List.getElem?_cons_zero, List.getElem?_cons_succ]; rfl)
              case hssq4 => kernel_rfl
              case hfsq4 => kernel_rfl
              case hrsq4 => kernel_rfl
              case hQsq4 => exact fun _ _ _ h => h
              case hysq4 => (refine Or.inl ⟨by rfl, ?_⟩; intro w hSw; (try dsimp only at hSw); go_simp <;> with_reducible rfl)
              try simp only [Act.put, List.setIfInBounds_toArray, List.set_cons_zero, List.set_cons_succ]
              refine wpAnyH_take (i := 4) (oi := ?oisq5) (v := ?vsq5) ?hopsq5 ?hssq5 ?hfsq5 ?hrsq5 ?hQsq5 ?hysq5 (by assumption) ?restsq5
              case hopsq5 => (simp only [List.getElem?_toArray, List.getElem?_cons_zero, List.getElem?_cons_succ]; rfl)
              case hssq5 => kernel_rfl
              case hfsq5 => kernel_rfl
              case hrsq5 => kernel_rfl
              case hQsq5 => exact fun _ _ _ h => h
              case hysq5 => (refine Or.inl ⟨by rfl, ?_⟩; intro w hSw; (try dsimp only at hSw); go_simp <;> with_reducible rfl)
              try simp only [Act.put, List.setIfInBounds_toArray, List.set_cons_zero, List.set_cons_succ]
              refine wpAnyH_take (i := 6) (oi := ?oisq6) (v := ?vsq6) ?hopsq6 ?hssq6 ?hfsq6 ?hrsq6 ?hQsq6 ?hysq6 (by assumption) ?restsq6
              case hopsq6 => (simp only [List.getElem?_toArray, List.getElem?_cons_zero, List.getElem?_cons_succ]; rfl)
              case hssq6 => kernel_rfl
              case hfsq6 => kernel_rfl
              case hrsq6 => kernel_rfl
              case hQsq6 => exact fun _ _ _ h => h
              case hysq6 => (refine Or.inl ⟨by rfl, ?_⟩; intro w hSw; (try dsimp only at hSw); go_simp <;> with_reducible rfl)
              try simp only [Act.put, List.setIfInBounds_toArray, List.set_cons_zero, List.set_cons_succ]
              refine wpAnyH_take (i := 7) (oi := ?oisq7) (v := ?vsq7) ?hopsq7 ?hssq7 ?hfsq7 ?hrsq7 ?hQsq7 ?hysq7 (by assumption) ?restsq7
              case hopsq7 => (simp only [List.getElem?_toArray, List.getElem?_cons_zero, List.getElem?_cons_succ]; rfl)
              case hssq7 => kernel_rfl
              case hfsq7 => kernel_rfl
              case hrsq7 => kernel_rfl
              case hQsq7 => exact fun _ _ _ h => h
              case hysq7 => (refine Or.inl ⟨by rfl, ?_⟩; intro w hSw; (try dsimp only at hSw); go_simp <;> with_reducible rfl)
              try simp only [Act.put, List.setIfInBounds_toArray, List.set_cons_zero, List.set_cons_succ]
              refine wpAnyH_ready (rs := [5, 8]) (by kernel_rfl) (by simp) ?_
              refine AllReadyH.cons (o := ?oisq8) ?hopsq8 (fun K hK => ?stepsq8) ?moresq8
              case hopsq8 => (simp only [List.getElem?_toArray, List.getElem?_cons_zero, List.getElem?_cons_succ]; rfl)
              case moresq8 =>
                refine AllReadyH.cons (o := ?oisq9) ?hopsq9 (fun K hK => ?stepsq9) ?moresq9
                case hopsq9 => (simp only [List.getElem?_toArray, List.getElem?_cons_zero, List.getElem?_cons_succ]; rfl)
                case moresq9 => exact AllReadyH.nil
                go_simp
                (go_at_call 29; (refine Calls.mono (show Calls _ _ _ _ _ from hCH2.out) ?_); rintro e w3 ⟨rfl, hD3, hK3⟩; have p4' : w3.cell? ⟨N + 5, 10, none⟩ = some (.slice va (dotsL k sq).length vc) := hD3.p (by omega); have p4a : (w3.alloc (.cells #[.int .i64 n1, .int .i64 n2] 51)).cell? ⟨N + 5, 10, none⟩ = some (.slice va (dotsL k sq).length vc) := (hD3.gr ((Gr.refl w3).alloc (.cells #[.int .i64 n1, .int .i64 n2] 51))).p (by omega); have hown3 : Hid (Own (w3.alloc (.cells #[.int .i64 n1, .int .i64 n2] 51)) Hq (.slice va (dotsL k sq).length vc) (dotsL k sq)) := (hK3.out.own _ _ _ hHN.out hownH.out).gr ((Gr.refl _).alloc _); have hs3 : Hid (Hq ≤ (w3.alloc (.cells #[.int .i64 n1, .int .i64 n2] 51)).heap.size) := (by show _ ≤ _; rw [sz1, hK3.out.sz]; have := hHs2.out; show Hq ≤ w2.heap.size + 1; omega); have hD3H : Hid (DM w w3 N x t2 [.int .i64 np0, .int .i64 np1, .int .i64 np2, .int .i64 np3, .slice Ap Lp.length cp, .slice Dp Ep.length dp, .int .i64 nq0, .int .i64 nq1, .int .i64 nq2, .int .i64 nq3, .slice va (dotsL k sq).length vc, .slice none 0 0] Hq w1q) := hD3; clear hD3)
                first | (go_wp2_with fail) | skip
                refine hK.out _ _ ?_ (fun hHeld => ?_)
                · (try dsimp only); first | with_reducible exact hKeep.out _ _ _ hD4H.out | exact hKeep.out _ _ _ (hD4H.out.put (i := 10) (by omega) _) | with_reducible exact hKeep.out _ _ _ hEH.out | with_reducible exact hKeep.out _ _ _ hD3H.out | exact hKeep.out _ _ _ (hD3H.out.gr ((Gr.refl _).alloc _))
                clear hK K
                try simp only [Act.put, List.setIfInBounds_toArray, List.set_cons_zero, List.set_cons_succ]
                refine wpAnyH_take (i := 9) (oi := ?oisq10) (v := ?vsq10) ?hopsq10 ?hssq10 ?hfsq10 ?hrsq10 ?hQsq10 ?hysq10 (by assumption) ?restsq10
                case hopsq10 => (simp only [List.getElem?_toArray, List.getElem?_cons_zero, List.getElem?_cons_succ]; rfl)
                case hssq10 => kernel_rfl
                case hfsq10 => kernel_rfl
                case hrsq10 => kernel_rfl
                case hQsq10 => exact fun _ _ _ h => h
                case hysq10 => (refine Or.inl ⟨by rfl, ?_⟩; intro w hSw; (try dsimp only at hSw); go_simp <;> with_reducible rfl)
                try simp only [Act.put, List.setIfInBounds_toArray, List.set_cons_zero, List.set_cons_succ]
                refine wpAnyH_ready (rs := [5, 10]) (by kernel_rfl) (by simp) ?_
                refine AllReadyH.cons (o := ?oisq11) ?hopsq11 (fun K hK => ?stepsq11) ?moresq11
                case hopsq11 => (simp only [List.getElem?_toArray, List.getElem?_cons_zero, List.getElem?_cons_succ]; rfl)
                case moresq11 =>
                  refine AllReadyH.cons (o := ?oisq12) ?hopsq12 (fun K hK => ?stepsq12) ?moresq12
                  case hopsq12 => (simp only [List.getElem?_toArray, List.getElem?_cons_zero, List.getElem?_cons_succ]; rfl)
                  case moresq12 => exact AllReadyH.nil
                  go_simp
                  refine hK.out _ _ ?_ (fun hHeld => ?_)
                  · (try dsimp only); first | with_reducible exact hKeep.out _ _ _ hD4H.out | exact hKeep.out _ _ _ (hD4H.out.put (i := 10) (by omega) _) | with_reducible exact hKeep.out _ _ _ hEH.out | with_reducible exact hKeep.out _ _ _ hD3H.out | exact hKeep.out _ _ _ (hD3H.out.gr ((Gr.refl _).alloc _))
                  clear hK K
                  try simp only [Act.put, List.setIfInBounds_toArray, List.set_cons_zero, List.set_cons_succ]
                  refine wpAnyH_ready (rs := [5]) (by kernel_rfl) (by simp) ?_
                  refine AllReadyH.cons (o := ?oisq13) ?hopsq13 (fun K hK => ?stepsq13) ?moresq13
                  case hopsq13 => (simp only [List.getElem?_toArray, List.getElem?_cons_zero, List.getElem?_cons_succ]; rfl)
                  case moresq13 => exact AllReadyH.nil
                  go_simp
                  refine hK.out _ _ ?_ (fun hHeld => ?_)
                  · (try dsimp only); first | with_reducible exact hKeep.out _ _ _ hD4H.out | exact hKeep.out _ _ _ (hD4H.out.put (i := 10) (by omega) _) | with_reducible exact hKeep.out _ _ _ hEH.out | with_reducible exact hKeep.out _ _ _ hD3H.out | exact hKeep.out _ _ _ (hD3H.out.gr ((Gr.refl _).alloc _))
                  clear hK K
                  try simp only [Act.put, List.setIfInBounds_toArray, List.set_cons_zero, List.set_cons_succ]
                  refine wpAnyH_ready (rs := [11]) (by kernel_rfl) (by simp) ?_
                  refine AllReadyH.cons (o := ?oisq14) ?hopsq14 (fun K hK => ?stepsq14) ?moresq14
                  case hopsq14 => (simp only [List.getElem?_toArray, List.getElem?_cons_zero, List.getElem?_cons_succ]; rfl)
                  case moresq14 => exact AllReadyH.nil
                  (refine step_append_dotsN _ rfl (.tmp 55) (.tmp 60) rfl Hq (.slice va (dotsL k sq).length vc) (dotsL k sq) [(n1, n2)] 1 rfl (some ⟨w3.heap.size, 0, none⟩) 1 (by simp [Act.eval]) (by simp [Act.eval]) hown3.out (rowNew rfl n1 n2 _) (fun h => by cases h) (by rw [dotsL_len]; simp; omega) hs3.out ?_; intro vA wA hownA hgrA; have hbA : Hid (Below Hq (w3.alloc (.cells #[.int .i64 n1, .int .i64 n2] 51)) wA) := Own.grown_below hown3.out hgrA hs3.out; have hD4 := (hD3H.out.gr ((Gr.refl w3).alloc (.cells #[.int .i64 n1, .int .i64 n2] 51))).below hbA.out (Nat.le_refl _); have hownB : Hid (Own wA Hq vA (dotsL k sq ++ [(n1, n2)])) := hownA; obtain ⟨A2, c2, rfl, h2, h3, h4⟩ := hownA.row; have p4b : wA.cell? ⟨N + 5, 10, none⟩ = some (.slice va (dotsL k sq).length vc) := hD4.p (by omega); have f4b := hD4.fp 10; have hD4H : Hid (DM w wA N x t2 [.int .i64 np0, .int .i64 np1, .int .i64 np2, .int .i64 np3, .slice Ap Lp.length cp, .slice Dp Ep.length dp, .int .i64 nq0, .int .i64 nq1, .int .i64 nq2, .int .i64 nq3, .slice va (dotsL k sq).length vc, .slice none 0 0] Hq w1q) := hD4; clear hD4 hownA hgrA h2 h3 h4)
                  refine hK.out _ _ ?_ (fun hHeld => ?_)
                  · (try dsimp only); first | with_reducible exact hKeep.out _ _ _ hD4H.out | exact hKeep.out _ _ _ (hD4H.out.put (i := 10) (by omega) _) | with_reducible exact hKeep.out _ _ _ hEH.out | with_reducible exact hKeep.out _ _ _ hD3H.out | exact hKeep.out _ _ _ (hD3H.out.gr ((Gr.refl _).alloc _))
                  clear hK K
                  try simp only [Act.put, List.setIfInBounds_toArray, List.set_cons_zero, List.set_cons_succ]
                  refine wpAnyH_take (i := 12) (oi := ?oisq15) (v := ?vsq15) ?hopsq15 ?hssq15 ?hfsq15 ?hrsq15 ?hQsq15 ?hysq15 (by assumption) ?restsq15
                  case hopsq15 => (simp only [List.getElem?_toArray, List.getElem?_cons_zero, List.getElem?_cons_succ]; rfl)
                  case hssq15 => kernel_rfl
                  case hfsq15 => kernel_rfl
                  case hrsq15 => kernel_rfl
                  case hQsq15 => exact fun _ _ _ h => h
                  case hysq15 => (refine Or.inl ⟨by rfl, ?_⟩; intro w hSw; (try dsimp only at hSw); go_simp <;> with_reducible rfl)
                  try simp only [Act.put, List.setIfInBounds_toArray, List.set_cons_zero, List.set_cons_succ]
                  refine wpAnyH_take (i := 13) (oi := ?oisq16) (v := ?vsq16) ?hopsq16 ?hssq16 ?hfsq16 ?hrsq16 ?hQsq16 ?hysq16 (by assumption) ?restsq16
                  case hopsq16 => (simp only [List.getElem?_toArray, List.getElem?_cons_zero, List.getElem?_cons_succ]; rfl)
                  case hssq16 => kernel_rfl
                  case hfsq16 => kernel_rfl
                  case hrsq16 => kernel_rfl
                  case hQsq16 => exact fun _ _ _ h => h
                  case hysq16 => (refine Or.inl ⟨by rfl, ?_⟩; intro w hSw; (try dsimp only at hSw); go_simp <;> with_reducible rfl)
                  try simp only [Act.put, List.setIfInBounds_toArray, List.set_cons_zero, List.set_cons_succ]
                  refine wpAnyH_take (i := 14) (oi := ?oisq17) (v := ?vsq17) ?hopsq17 ?hssq17 ?hfsq17 ?hrsq17 ?hQsq17 ?hysq17 (by assumption) ?restsq17
                  case hopsq17 => (simp only [List.getElem?_toArray, List.getElem?_cons_zero, List.getElem?_cons_succ]; rfl)
                  case hssq17 => kernel_rfl
                  case hfsq17 => kernel_rfl
                  case hrsq17 => kernel_rfl
                  case hQsq17 => exact fun _ _ _ h => h
                  case hysq17 => (refine Or.inl ⟨by rfl, ?_⟩; intro w hSw; (try dsimp only at hSw); go_simp <;> with_reducible rfl)
                  try simp only [Act.put, List.setIfInBounds_toArray, List.set_cons_zero, List.set_cons_succ]
                  refine wpAnyH_ready (rs := [15]) (by kernel_rfl) (by simp) ?_
                  refine AllReadyH.cons (o := ?oisq18) ?hopsq18 (fun K hK => ?stepsq18) ?moresq18
                  case hopsq18 => (simp only [List.getElem?_toArray, List.getElem?_cons_zero, List.getElem?_cons_succ]; rfl)
                  case moresq18 => exact AllReadyH.nil
                  go_simp
                  refine hK.out _ _ ?_ (fun hHeld => ?_)
                  · (try dsimp only); first | with_reducible exact hKeep.out _ _ _ hD4H.out | exact hKeep.out _ _ _ (hD4H.out.put (i := 10) (by omega) _) | with_reducible exact hKeep.out _ _ _ hEH.out | with_reducible exact hKeep.out _ _ _ hD3H.out | exact hKeep.out _ _ _ (hD3H.out.gr ((Gr.refl _).alloc _))
                  clear hK K
                  try simp only [Act.put, List.setIfInBounds_toArray, List.set_cons_zero, List.set_cons_succ]
                  refine wpAnyH_done (by kernel_rfl) ?_ _
                  refine NoPanic.normal ?_
                  have hlen : (dotsL k sq ++ [(n1, n2)]).length = (dotsL k sq).length + 1 := by simp
                  have hownB2 := hownB.out
                  rw [hlen] at hownB2
                  have hL : Hid (dotsL k sq ++ [(n1, n2)] = dotsL (k + 1) sq) := by show _ = _; rw [dotsL, hn1H.out.1, hn1H.out.2.1]
                  have hS5 : Hid (t2 = dotsS (k + 1) sq) := by show _ = _; rw [dotsS, hn1H.out.2.2]
                  have hown5 : Hid (DM w (wA.setCell ⟨N + 5, 10, none⟩ (.slice A2 ((dotsL k sq).length + 1) c2)) N x (dotsS (k + 1) sq) [.int .i64 np0, .int .i64 np1, .int .i64 np2, .int .i64 np3, .slice Ap Lp.length cp, .slice Dp Ep.length dp, .int .i64 nq0, .int .i64 nq1, .int .i64 nq2, .int .i64 nq3, .slice A2 ((dotsL k sq).length + 1) c2, .slice none 0 0] Hq w1q ∧ Own (wA.setCell ⟨N + 5, 10, none⟩ (.slice A2 ((dotsL k sq).length + 1) c2)) Hq (.slice A2 ((dotsL k sq).length + 1) c2) (dotsL (k + 1) sq)) := by
                    rw [← hL.out, ← hS5.out]
                    exact ⟨hD4H.out.put (i := 10) (by omega) _, hownB2.setCell (show N + 5 < Hq by have := hHN.out; omega) _⟩
                  clear hlen hownB2 p4 p4' p4a p4b f4b hn'
                  go_wp2
                  go_roundw
                  case rel => exact ⟨k + 1, by go_num, by omega, _, hown5⟩
                  case measure => simp [intOf]; omega
                go_simp
                refine hK.out _ _ ?_ (fun hHeld => ?_)
                · (try dsimp only); first | with_reducible exact hKeep.out _ _ _ hD4H.out | exact hKeep.out _ _ _ (hD4H.out.put (i := 10) (by omega) _) | with_reducible exact hKeep.out _ _ _ hEH.out | with_reducible exact hKeep.out _ _ _ hD3H.out | exact hKeep.out _ _ _ (hD3H.out.gr ((Gr.refl _).alloc _))
                clear hK K
                try simp only [Act.put, List.setIfInBounds_toArray, List.set_cons_zero, List.set_cons_succ]
                refine wpAnyH_ready (rs := [10]) (by kernel_rfl) (by simp) ?_
                refine AllReadyH.cons (o := ?oisq19) ?hopsq19 (fun K hK => ?stepsq19) ?moresq19
                case hopsq19 => (simp only [List.getElem?_toArray, List.getElem?_cons_zero, List.getElem?_cons_succ]; rfl)
                case moresq19 => exact AllReadyH.nil
                go_simp
                refine hK.out _ _ ?_ (fun hHeld => ?_)
                · (try dsimp only); first | with_reducible exact hKeep.out _ _ _ hD4H.out | exact hKeep.out _ _ _ (hD4H.out.put (i := 10) (by omega) _) | with_reducible exact hKeep.out _ _ _ hEH.out | with_reducible exact hKeep.out _ _ _ hD3H.out | exact hKeep.out _ _ _ (hD3H.out.gr ((Gr.refl _).alloc _))
                clear hK K
                try simp only [Act.put, List.setIfInBounds_toArray, List.set_cons_zero, List.set_cons_succ]
                refine wpAnyH_ready (rs := [11]) (by kernel_rfl) (by simp) ?_
                refine AllReadyH.cons (o := ?oisq20) ?hopsq20 (fun K hK => ?stepsq20) ?moresq20
                case hopsq20 => (simp only [List.getElem?_toArray, List.getElem?_cons_zero, List.getElem?_cons_succ]; rfl)
                case moresq20 => exact AllReadyH.nil
                (refine step_append_dotsN _ rfl (.tmp 55) (.tmp 60) rfl Hq (.slice va (dotsL k sq).length vc) (dotsL k sq) [(n1, n2)] 1 rfl (some ⟨w3.heap.size, 0, none⟩) 1 (by simp [Act.eval]) (by simp [Act.eval]) hown3.out (rowNew rfl n1 n2 _) (fun h => by cases h) (by rw [dotsL_len]; simp; omega) hs3.out ?_; intro vA wA hownA hgrA; have hbA : Hid (Below Hq (w3.alloc (.cells #[.int .i64 n1, .int .i64 n2] 51)) wA) := Own.grown_below hown3.out hgrA hs3.out; have hD4 := (hD3H.out.gr ((Gr.refl w3).alloc (.cells #[.int .i64 n1, .int .i64 n2] 51))).below hbA.out (Nat.le_refl _); have hownB : Hid (Own wA Hq vA (dotsL k sq ++ [(n1, n2)])) := hownA; obtain ⟨A2, c2, rfl, h2, h3, h4⟩ := hownA.row; have p4b : wA.cell? ⟨N + 5, 10, none⟩ = some (.slice va (dotsL k sq).length vc) := hD4.p (by omega); have f4b := hD4.fp 10; have hD4H : Hid (DM w wA N x t2 [.int .i64 np0, .int .i64 np1, .int .i64 np2, .int .i64 np3, .slice Ap Lp.length cp, .slice Dp Ep.length dp, .int .i64 nq0, .int .i64 nq1, .int .i64 nq2, .int .i64 nq3, .slice va (dotsL k sq).length vc, .slice none 0 0] Hq w1q) := hD4; clear hD4 hownA hgrA h2 h3 h4)
                refine hK.out _ _ ?_ (fun hHeld => ?_)
                · (try dsimp only); first | with_reducible exact hKeep.out _ _ _ hD4H.out | exact hKeep.out _ _ _ (hD4H.out.put (i := 10) (by omega) _) | with_reducible exact hKeep.out _ _ _ hEH.out | with_reducible exact hKeep.out _ _ _ hD3H.out | exact hKeep.out _ _ _ (hD3H.out.gr ((Gr.refl _).alloc _))
                clear hK K
                try simp only [Act.put, List.setIfInBounds_toArray, List.set_cons_zero, List.set_cons_succ]
                refine wpAnyH_take (i := 12) (oi := ?oisq21) (v := ?vsq21) ?hopsq21 ?hssq21 ?hfsq21 ?hrsq21 ?hQsq21 ?hysq21 (by assumption) ?restsq21
                case hopsq21 => (simp only [List.getElem?_toArray, List.getElem?_cons_zero, List.getElem?_cons_succ]; rfl)
                case hssq21 => kernel_rfl
                case hfsq21 => kernel_rfl
                case hrsq21 => kernel_rfl
                case hQsq21 => exact fun _ _ _ h => h
                case hysq21 => (refine Or.inl ⟨by rfl, ?_⟩; intro w hSw; (try dsimp only at hSw); go_simp <;> with_reducible rfl)
                try simp only [Act.put, List.setIfInBounds_toArray, List.set_cons_zero, List.set_cons_succ]
                refine wpAnyH_take (i := 13) (oi := ?oisq22) (v := ?vsq22) ?hopsq22 ?hssq22 ?hfsq22 ?hrsq22 ?hQsq22 ?hysq22 (by assumption) ?restsq22
                case hopsq22 => (simp only [List.getElem?_toArray, List.getElem?_cons_zero, List.getElem?_cons_succ]; rfl)
                case hssq22 => kernel_rfl
                case hfsq22 => kernel_rfl
                case hrsq22 => kernel_rfl
                case hQsq22 => exact fun _ _ _ h => h
                case hysq22 => (refine Or.inl ⟨by rfl, ?_⟩; intro w hSw; (try dsimp only at hSw); go_simp <;> with_reducible rfl)
                try simp only [Act.put, List.setIfInBounds_toArray, List.set_cons_zero, List.set_cons_succ]
                refine wpAnyH_take (i := 14) (oi := ?oisq23) (v := ?vsq23) ?hopsq23 ?hssq23 ?hfsq23 ?hrsq23 ?hQsq23 ?hysq23 (by assumption) ?restsq23
                case hopsq23 => (simp only [List.getElem?_toArray, List.getElem?_cons_zero, List.getElem?_cons_succ]; rfl)
                case hssq23 => kernel_rfl
                case hfsq23 => kernel_rfl
                case hrsq23 => kernel_rfl
                case hQsq23 => exact fun _ _ _ h => h
                case hysq23 => (refine Or.inl ⟨by rfl, ?_⟩; intro w hSw; (try dsimp only at hSw); go_simp <;> with_reducible rfl)
                try simp only [Act.put, List.setIfInBounds_toArray, List.set_cons_zero, List.set_cons_succ]
                refine wpAnyH_ready (rs := [15]) (by kernel_rfl) (by simp) ?_
                refine AllReadyH.cons (o := ?oisq24) ?hopsq24 (fun K hK => ?stepsq24) ?moresq24
                case hopsq24 => (simp only [List.getElem?_toArray, List.getElem?_cons_zero, List.getElem?_cons_succ]; rfl)
                case moresq24 => exact AllReadyH.nil
                go_simp
                refine hK.out _ _ ?_ (fun hHeld => ?_)
                · (try dsimp only); first | with_reducible exact hKeep.out _ _ _ hD4H.out | exact hKeep.out _ _ _ (hD4H.out.put (i := 10) (by omega) _) | with_reducible exact hKeep.out _ _ _ hEH.out | with_reducible exact hKeep.out _ _ _ hD3H.out | exact hKeep.out _ _ _ (hD3H.out.gr ((Gr.refl _).alloc _))
                clear hK K
                try simp only [Act.put, List.setIfInBounds_toArray, List.set_cons_zero, List.set_cons_succ]
                refine wpAnyH_done (by kernel_rfl) ?_ _
                refine NoPanic.normal ?_
                have hlen : (dotsL k sq ++ [(n1, n2)]).length = (dotsL k sq).length + 1 := by simp
                have hownB2 := hownB.out
                rw [hlen] at hownB2
                have hL : Hid (dotsL k sq ++ [(n1, n2)] = dotsL (k + 1) sq) := by show _ = _; rw [dotsL, hn1H.out.1, hn1H.out.2.1]
                have hS5 : Hid (t2 = dotsS (k + 1) sq) := by show _ = _; rw [dotsS, hn1H.out.2.2]
                have hown5 : Hid (DM w (wA.setCell ⟨N + 5, 10, none⟩ (.slice A2 ((dotsL k sq).length + 1) c2)) N x (dotsS (k + 1) sq) [.int .i64 np0, .int .i64 np1, .int .i64 np2, .int .i64 np3, .slice Ap Lp.length cp, .slice Dp Ep.length dp, .int .i64 nq0, .int .i64 nq1, .int .i64 nq2, .int .i64 nq3, .slice A2 ((dotsL k sq).length + 1) c2, .slice none 0 0] Hq w1q ∧ Own (wA.setCell ⟨N + 5, 10, none⟩ (.slice A2 ((dotsL k sq).length + 1) c2)) Hq (.slice A2 ((dotsL k sq).length + 1) c2) (dotsL (k + 1) sq)) := by
                  rw [← hL.out, ← hS5.out]
                  exact ⟨hD4H.out.put (i := 10) (by omega) _, hownB2.setCell (show N + 5 < Hq by have := hHN.out; omega) _⟩
                clear hlen hownB2 p4 p4' p4a p4b f4b hn'
                go_wp2
                go_roundw
                case rel => exact ⟨k + 1, by go_num, by omega, _, hown5⟩
                case measure => simp [intOf]; omega
              go_simp
              refine hK.out _ _ ?_ (fun hHeld => ?_)
              · (try dsimp only); first | with_reducible exact hKeep.out _ _ _ hD4H.out | exact hKeep.out _ _ _ (hD4H.out.put (i := 10) (by omega) _) | with_reducible exact hKeep.out _ _ _ hEH.out | with_reducible exact hKeep.out _ _ _ hD3H.out | exact hKeep.out _ _ _ (hD3H.out.gr ((Gr.refl _).alloc _))
              clear hK K
              try simp only [Act.put, List.setIfInBounds_toArray, List.set_cons_zero, List.set_cons_succ]
              refine wpAnyH_ready (rs := [8]) (by kernel_rfl) (by simp) ?_
              refine AllReadyH.cons (o := ?oisq25) ?hopsq25 (fun K hK => ?stepsq25) ?moresq25
              case hopsq25 => (simp only [List.getElem?_toArray, List.getElem?_cons_zero, List.getElem?_cons_succ]; rfl)
              case moresq25 => exact AllReadyH.nil
              go_simp
              (go_at_call 29; (refine Calls.mono (show Calls _ _ _ _ _ from hCH2.out) ?_); rintro e w3 ⟨rfl, hD3, hK3⟩; have p4' : w3.cell? ⟨N + 5, 10, none⟩ = some (.slice va (dotsL k sq).length vc) := hD3.p (by omega); have p4a : (w3.alloc (.cells #[.int .i64 n1, .int .i64 n2] 51)).cell? ⟨N + 5, 10, none⟩ = some (.slice va (dotsL k sq).length vc) := (hD3.gr ((Gr.refl w3).alloc (.cells #[.int .i64 n1, .int .i64 n2] 51))).p (by omega); have hown3 : Hid (Own (w3.alloc (.cells #[.int .i64 n1, .int .i64 n2] 51)) Hq (.slice va (dotsL k sq).length vc) (dotsL k sq)) := (hK3.out.own _ _ _ hHN.out hownH.out).gr ((Gr.refl _).alloc _); have hs3 : Hid (Hq ≤ (w3.alloc (.cells #[.int .i64 n1, .int .i64 n2] 51)).heap.size) := (by show _ ≤ _; rw [sz1, hK3.out.sz]; have := hHs2.out; show Hq ≤ w2.heap.size + 1; omega); have hD3H : Hid (DM w w3 N x t2 [.int .i64 np0, .int .i64 np1, .int .i64 np2, .int .i64 np3, .slice Ap Lp.length cp, .slice Dp Ep.length dp, .int .i64 nq0, .int .i64 nq1, .int .i64 nq2, .int .i64 nq3, .slice va (dotsL k sq).length vc, .slice none 0 0] Hq w1q) := hD3; clear hD3)
              first | (go_wp2_with fail) | skip
              refine hK.out _ _ ?_ (fun hHeld => ?_)
              · (try dsimp only); first | with_reducible exact hKeep.out _ _ _ hD4H.out | exact hKeep.out _ _ _ (hD4H.out.put (i := 10) (by omega) _) | with_reducible exact hKeep.out _ _ _ hEH.out | with_reducible exact hKeep.out _ _ _ hD3H.out | exact hKeep.out _ _ _ (hD3H.out.gr ((Gr.refl _).alloc _))
              clear hK K
              try simp only [Act.put, List.setIfInBounds_toArray, List.set_cons_zero, List.set_cons_succ]
              refine wpAnyH_take (i := 9) (oi := ?oisq26) (v := ?vsq26) ?hopsq26 ?hssq26 ?hfsq26 ?hrsq26 ?hQsq26 ?hysq26 (by assumption) ?restsq26
              case hopsq26 => (simp only [List.getElem?_toArray, List.getElem?_cons_zero, List.getElem?_cons_succ]; rfl)
              case hssq26 => kernel_rfl
              case hfsq26 => kernel_rfl
              case hrsq26 => kernel_rfl
              case hQsq26 => exact fun _ _ _ h => h
              case hysq26 => (refine Or.inl ⟨by rfl, ?_⟩; intro w hSw; (try dsimp only at hSw); go_simp <;> with_reducible rfl)
              try simp only [Act.put, List.setIfInBounds_toArray, List.set_cons_zero, List.set_cons_succ]
              refine wpAnyH_ready (rs := [10]) (by kernel_rfl) (by simp) ?_
              refine AllReadyH.cons (o := ?oisq27) ?hopsq27 (fun K hK => ?stepsq27) ?moresq27
              case hopsq27 => (simp only [List.getElem?_toArray, List.getElem?_cons_zero, List.getElem?_cons_succ]; rfl)
              case moresq27 => exact AllReadyH.nil
              go_simp
              refine hK.out _ _ ?_ (fun hHeld => ?_)
              · (try dsimp only); first | with_reducible exact hKeep.out _ _ _ hD4H.out | exact hKeep.out _ _ _ (hD4H.out.put (i := 10) (by omega) _) | with_reducible exact hKeep.out _ _ _ hEH.out | with_reducible exact hKeep.out _ _ _ hD3H.out | exact hKeep.out _ _ _ (hD3H.out.gr ((Gr.refl _).alloc _))
              clear hK K
              try simp only [Act.put, List.setIfInBounds_toArray, List.set_cons_zero, List.set_cons_succ]
              refine wpAnyH_ready (rs := [11]) (by kernel_rfl) (by simp) ?_
              refine AllReadyH.cons (o := ?oisq28) ?hopsq28 (fun K hK => ?stepsq28) ?moresq28
              case hopsq28 => (simp only [List.getElem?_toArray, List.getElem?_cons_zero, List.getElem?_cons_succ]; rfl)
              case moresq28 => exact AllReadyH.nil
              (refine step_append_dotsN _ rfl (.tmp 55) (.tmp 60) rfl Hq (.slice va (dotsL k sq).length vc) (dotsL k sq) [(n1, n2)] 1 rfl (some ⟨w3.heap.size, 0, none⟩) 1 (by simp [Act.eval]) (by simp [Act.eval]) hown3.out (rowNew rfl n1 n2 _) (fun h => by cases h) (by rw [dotsL_len]; simp; omega) hs3.out ?_; intro vA wA hownA hgrA; have hbA : Hid (Below Hq (w3.alloc (.cells #[.int .i64 n1, .int .i64 n2] 51)) wA) := Own.grown_below hown3.out hgrA hs3.out; have hD4 := (hD3H.out.gr ((Gr.refl w3).alloc (.cells #[.int .i64 n1, .int .i64 n2] 51))).below hbA.out (Nat.le_refl _); have hownB : Hid (Own wA Hq vA (dotsL k sq ++ [(n1, n2)])) := hownA; obtain ⟨A2, c2, rfl, h2, h3, h4⟩ := hownA.row; have p4b : wA.cell? ⟨N + 5, 10, none⟩ = some (.slice va (dotsL k sq).length vc) := hD4.p (by omega); have f4b := hD4.fp 10; have hD4H : Hid (DM w wA N x t2 [.int .i64 np0, .int .i64 np1, .int .i64 np2, .int .i64 np3, .slice Ap Lp.length cp, .slice Dp Ep.length dp, .int .i64 nq0, .int .i64 nq1, .int .i64 nq2, .int .i64 nq3, .slice va (dotsL k sq).length vc, .slice none 0 0] Hq w1q) := hD4; clear hD4 hownA hgrA h2 h3 h4)
              refine hK.out _ _ ?_ (fun hHeld => ?_)
              · (try dsimp only); first | with_reducible exact hKeep.out _ _ _ hD4H.out | exact hKeep.out _ _ _ (hD4H.out.put (i := 10) (by omega) _) | with_reducible exact hKeep.out _ _ _ hEH.out | with_reducible exact hKeep.out _ _ _ hD3H.out | exact hKeep.out _ _ _ (hD3H.out.gr ((Gr.refl _).alloc _))
              clear hK K
              try simp only [Act.put, List.setIfInBounds_toArray, List.set_cons_zero, List.set_cons_succ]
              refine wpAnyH_take (i := 12) (oi := ?oisq29) (v := ?vsq29) ?hopsq29 ?hssq29 ?hfsq29 ?hrsq29 ?hQsq29 ?hysq29 (by assumption) ?restsq29
              case hopsq29 => (simp only [List.getElem?_toArray, List.getElem?_cons_zero, List.getElem?_cons_succ]; rfl)
              case hssq29 => kernel_rfl
              case hfsq29 => kernel_rfl
              case hrsq29 => kernel_rfl
              case hQsq29 => exact fun _ _ _ h => h
              case hysq29 => (refine Or.inl ⟨by rfl, ?_⟩; intro w hSw; (try dsimp only at hSw); go_simp <;> with_reducible rfl)
              try simp only [Act.put, List.setIfInBounds_toArray, List.set_cons_zero, List.set_cons_succ]
              refine wpAnyH_take (i := 13) (oi := ?oisq30) (v := ?vsq30) ?hopsq30 ?hssq30 ?hfsq30 ?hrsq30 ?hQsq30 ?hysq30 (by assumption) ?restsq30
              case hopsq30 => (simp only [List.getElem?_toArray, List.getElem?_cons_zero, List.getElem?_cons_succ]; rfl)
              case hssq30 => kernel_rfl
              case hfsq30 => kernel_rfl
              case hrsq30 => kernel_rfl
              case hQsq30 => exact fun _ _ _ h => h
              case hysq30 => (refine Or.inl ⟨by rfl, ?_⟩; intro w hSw; (try dsimp only at hSw); go_simp <;> with_reducible rfl)
              try simp only [Act.put, List.setIfInBounds_toArray, List.set_cons_zero, List.set_cons_succ]
              refine wpAnyH_take (i := 14) (oi := ?oisq31) (v := ?vsq31) ?hopsq31 ?hssq31 ?hfsq31 ?hrsq31 ?hQsq31 ?hysq31 (by assumption) ?restsq31
              case hopsq31 => (simp only [List.getElem?_toArray, List.getElem?_cons_zero, List.getElem?_cons_succ]; rfl)
              case hssq31 => kernel_rfl
              case hfsq31 => kernel_rfl
              case hrsq31 => kernel_rfl
              case hQsq31 => exact fun _ _ _ h => h
              case hysq31 => (refine Or.inl ⟨by rfl, ?_⟩; intro w hSw; (try dsimp only at hSw); go_simp <;> with_reducible rfl)
              try simp only [Act.put, List.setIfInBounds_toArray, List.set_cons_zero, List.set_cons_succ]
              refine wpAnyH_ready (rs := [15]) (by kernel_rfl) (by simp) ?_
              refine AllReadyH.cons (o := ?oisq32) ?hopsq32 (fun K hK => ?stepsq32) ?moresq32
              case hopsq32 => (simp only [List.getElem?_toArray, List.getElem?_cons_zero, List.getElem?_cons_succ]; rfl)
              case moresq32 => exact AllReadyH.nil
              go_simp
              refine hK.out _ _ ?_ (fun hHeld => ?_)
              · (try dsimp only); first | with_reducible exact hKeep.out _ _ _ hD4H.out | exact hKeep.out _ _ _ (hD4H.out.put (i := 10) (by omega) _) | with_reducible exact hKeep.out _ _ _ hEH.out | with_reducible exact hKeep.out _ _ _ hD3H.out | exact hKeep.out _ _ _ (hD3H.out.gr ((Gr.refl _).alloc _))
              clear hK K
              try simp only [Act.put, List.setIfInBounds_toArray, List.set_cons_zero, List.set_cons_succ]
              refine wpAnyH_done (by kernel_rfl) ?_ _
              refine NoPanic.normal ?_
              have hlen : (dotsL k sq ++ [(n1, n2)]).length = (dotsL k sq).length + 1 := by simp
              have hownB2 := hownB.out
              rw [hlen] at hownB2
              have hL : Hid (dotsL k sq ++ [(n1, n2)] = dotsL (k + 1) sq) := by show _ = _; rw [dotsL, hn1H.out.1, hn1H.out.2.1]
              have hS5 : Hid (t2 = dotsS (k + 1) sq) := by show _ = _; rw [dotsS, hn1H.out.2.2]
              have hown5 : Hid (DM w (wA.setCell ⟨N + 5, 10, none⟩ (.slice A2 ((dotsL k sq).length + 1) c2)) N x (dotsS (k + 1) sq) [.int .i64 np0, .int .i64 np1, .int .i64 np2, .int .i64 np3, .slice Ap Lp.length cp, .slice Dp Ep.length dp, .int .i64 nq0, .int .i64 nq1, .int .i64 nq2, .int .i64 nq3, .slice A2 ((dotsL k sq).length + 1) c2, .slice none 0 0] Hq w1q ∧ Own (wA.setCell ⟨N + 5, 10, none⟩ (.slice A2 ((dotsL k sq).length + 1) c2)) Hq (.slice A2 ((dotsL k sq).length + 1) c2) (dotsL (k + 1) sq)) := by
                rw [← hL.out, ← hS5.out]
                exact ⟨hD4H.out.put (i := 10) (by omega) _, hownB2.setCell (show N + 5 < Hq by have := hHN.out; omega) _⟩
              clear hlen hownB2 p4 p4' p4a p4b f4b hn'
              go_wp2
              go_roundw
              case rel => exact ⟨k + 1, by go_num, by omega, _, hown5⟩
              case measure => simp [intOf]; omega
            · have hkM : k = Mq := by omega
              subst hkM
              have hltz : ¬ (k : Int) < (k : Int) := by omega
              obtain ⟨Aq, cq, hv1, _, hr1, hb1⟩ := hR.out.2.row
              subst hv1
              have hHN0 := hR.out.1.hH
              obtain ⟨Lq, hLq⟩ : ∃ L, dotsL k sq = L := ⟨_, rfl⟩
              obtain ⟨yq, hyq⟩ : ∃ t, dotsS k sq = t := ⟨_, rfl⟩
              rw [hLq] at hr1
              have hD := hR.out.1
              rw [hLq, hyq] at hD
              have hLqH : Hid (dotsL k sq = Lq ∧ dotsS k sq = yq) := ⟨hLq, hyq⟩
              obtain ⟨Kq, hKq, hKq4⟩ := my_natR yq
              obtain ⟨uq, huq⟩ : ∃ t, myS yq = t := ⟨_, rfl⟩
              have hC := hD.counts hx hKq huq
              have hCH : Hid _ := hC
              have hKqH : Hid (myN yq = Kq ∧ myS yq = uq) := ⟨hKq, huq⟩
              have hrwdq : Hid (Row wj Aq Lq ∧ ∀ a, Aq = some a → N + 6 ≤ a.block ∧ a.block < wj.heap.size) := ⟨hr1, fun a e => by have := hb1 a e; omega⟩
              have hDH : Hid (DM w wj N x yq [.int .i64 np0, .int .i64 np1, .int .i64 np2, .int .i64 np3, .slice Ap Lp.length cp, .slice Dp Ep.length dp, .int .i64 nq0, .int .i64 nq1, .int .i64 nq2, .int .i64 nq3, .slice Aq Lq.length cq, .slice none 0 0] Hq w1q) := hD
              clear hC hKq huq hR hr1 hb1 hD hHN0 hyq
              go_wp2_with fail
              refine Calls.mono (show Calls _ _ _ _ _ from hCH.out) ?_
              rintro e w3q ⟨rfl, hD1, hK1⟩
              obtain ⟨Gq, hGq⟩ : ∃ H, w3q.heap.size = H := ⟨_, rfl⟩
              have hT3q : Hid (DM w w3q N x uq [.int .i64 np0, .int .i64 np1, .int .i64 np2, .int .i64 np3, .slice Ap Lp.length cp, .slice Dp Ep.length dp, .int .i64 nq0, .int .i64 nq1, .int .i64 nq2, .int .i64 nq3, .slice Aq Lq.length cq, .slice none 0 0] Gq w3q) := hD1.rebase hGq
              have hle3q : Hid (Hq ≤ Gq) := by show _ ≤ _; rw [← hGq]; exact hD1.sz
              have hrwAq : Hid (Row w3q Aq Lq ∧ ∀ a, Aq = some a → Lq ≠ [] → N + 6 ≤ a.block ∧ a.block < Gq) := ⟨hK1.out.row _ _ (fun a e => (hrwdq.out.2 a e).1) hrwdq.out.1, fun a e _ => by have := hrwdq.out.2 a e; have := hK1.out.sz; omega⟩
              have hbAq : Hid (∀ a, Aq = some a → N + 6 ≤ a.block) := fun a e => (hrwdq.out.2 a e).1
              have hrwAp111 : Hid (Row w3q Ap Lp ∧ ∀ a, Ap = some a → Lp ≠ [] → N + 6 ≤ a.block ∧ a.block < Gq) := ⟨Row.mid hrwAp11.out.1 hD1.m hrwAp11.out.2, fun a e h0 => by have := hrwAp11.out.2 a e h0; have := hle3q.out; omega⟩
              have hrwDp11 : Hid (RowC w3q Dp Ep ∧ ∀ a, Dp = some a → Ep ≠ [] → N + 6 ≤ a.block ∧ a.block < Gq) := ⟨RowG.mid hrwDp1.out.1 hD1.m hrwDp1.out.2, fun a e h0 => by have := hrwDp1.out.2 a e h0; have := hle3q.out; omega⟩
              clear hCH hK1 hD1 hDH hrwdq hrwAp11 hrwDp1
              go_wp2
              go_loopw [16] (fun kv wi => ∃ (j : Nat), kv = .int .i64 j ∧ j ≤ Kq ∧ ∃ (v : Value), Hid (DM w wi N x (celsS j uq) [.int .i64 np0, .int .i64 np1, .int .i64 np2, .int .i64 np3, .slice Ap Lp.length cp, .slice Dp Ep.length dp, .int .i64 nq0, .int .i64 nq1, .int .i64 nq2, .int .i64 nq3, .slice Aq Lq.length cq, v] Gq w3q ∧ OwnC wi Gq v (celsL j uq))) (fun kv _ => Kq - (intOf kv).toNat)
              case atStart => exact ⟨0, rfl, by omega, .slice none 0 0, hT3q.out, OwnG.nil _ _ _ _ _⟩
              case round =>
                rename World => wk
                clear hT3q
                obtain ⟨j, rfl, hj, v, hR⟩ := hrel
                by_cases hlt : j < Kq
                · have hltz2 : (j : Int) < (Kq : Int) := by omega
                  obtain ⟨va, vc, hv, _, _, _⟩ := hR.out.2.row encC_len
                  subst hv
                  obtain ⟨B, hB⟩ : ∃ B, wk.heap.size = B := ⟨_, rfl⟩
                  obtain ⟨V0, hV0⟩ : ∃ V, wk.alloc (.cells #[.int .i64 0, .int .i64 0, .int .i64 0, .int .i64 0, .int .i64 0] 53) = V := ⟨_, rfl⟩
                  have hg0 : Gr wk V0 := by rw [← hV0]; exact (Gr.refl _).alloc _
                  have hE0 : Hid (CM w V0 N x (celsS j uq) [.int .i64 np0, .int .i64 np1, .int .i64 np2, .int .i64 np3, .slice Ap Lp.length cp, .slice Dp Ep.length dp, .int .i64 nq0, .int .i64 nq1, .int .i64 nq2, .int .i64 nq3, .slice Aq Lq.length cq, .slice va (celsL j uq).length vc] Gq w3q B [.int .i64 0, .int .i64 0, .int .i64 0, .int .i64 0, .int .i64 0] (.slice va (celsL j uq).length vc) (celsL j uq)) := ⟨hR.out.1.gr hg0, by rw [← hV0]; exact Bx.new wk _ _ hB, hR.out.2.gr hg0, by rw [← hB]; exact hR.out.1.sz, own_ne hR.out.2 hB⟩
                  obtain ⟨z0, hz0⟩ : ∃ t, celsS j uq = t := ⟨_, rfl⟩
                  rw [hz0] at hE0
                  have hz0H : Hid (celsS j uq = z0) := hz0
                  clear hR hg0 hz0
                  obtain ⟨n0, hn0⟩ : ∃ n, nxN z0 = n := ⟨_, rfl⟩
                  obtain ⟨z1, hz1⟩ : ∃ t, nxS z0 = t := ⟨_, rfl⟩
                  have hC := hE0.out.asks hx hn0 hz1
                  have hCH : Hid _ := hC
                  have hn0H : Hid (nxN z0 = n0 ∧ nxS z0 = z1) := ⟨hn0, hz1⟩
                  have g0 := hE0.out.d.n
                  clear hC hn0 hz1 hE0
                  go_wp2_with fail
                  refine Calls.mono (show Calls _ _ _ _ _ from hCH.out) ?_
                  rintro e e0 ⟨rfl, hF0⟩
                  have kc : e0.cell? ⟨B, 0, none⟩ = some (.int .i64 0) := hF0.b.c 0 (by simp)
                  have fz := hF0.b.f 0
                  obtain ⟨V1, hV1⟩ : ∃ V, e0.setCell ⟨B, 0, none⟩ (.int .i64 n0) = V := ⟨_, rfl⟩
                  have hE1 : Hid (CM w V1 N x z1 [.int .i64 np0, .int .i64 np1, .int .i64 np2, .int .i64 np3, .slice Ap Lp.length cp, .slice Dp Ep.length dp, .int .i64 nq0, .int .i64 nq1, .int .i64 nq2, .int .i64 nq3, .slice Aq Lq.length cq, .slice va (celsL j uq).length vc] Gq w3q B [.int .i64 n0, .int .i64 0, .int .i64 0, .int .i64 0, .int .i64 0] (.slice va (celsL j uq).length vc) (celsL j uq)) := by rw [← hV1]; exact hF0.put (i := 0) (by simp) _
                  clear hCH g0 hF0 hV0
                  obtain ⟨n1, hn1⟩ : ∃ n, nxN z1 = n := ⟨_, rfl⟩
                  obtain ⟨z2, hz2⟩ : ∃ t, nxS z1 = t := ⟨_, rfl⟩
                  have hC := hE1.out.asks hx hn1 hz2
                  have hCH : Hid _ := hC
                  have hn1H : Hid (nxN z1 = n1 ∧ nxS z1 = z2) := ⟨hn1, hz2⟩
                  have g1 := hE1.out.d.n
                  clear hC hn1 hz2 hE1
                  go_wp2_with fail
                  refine Calls.mono (show Calls _ _ _ _ _ from hCH.out) ?_
                  rintro e e1 ⟨rfl, hF1⟩
                  have kc : e1.cell? ⟨B, 1, none⟩ = some (.int .i64 0) := hF1.b.c 1 (by simp)
                  have fz := hF1.b.f 1
                  obtain ⟨V2, hV2⟩ : ∃ V, e1.setCell ⟨B, 1, none⟩ (.int .i64 n1) = V := ⟨_, rfl⟩
                  have hE2 : Hid (CM w V2 N x z2 [.int .i64 np0, .int .i64 np1, .int .i64 np2, .int .i64 np3, .slice Ap Lp.length cp, .slice Dp Ep.length dp, .int .i64 nq0, .int .i64 nq1, .int .i64 nq2, .int .i64 nq3, .slice Aq Lq.length cq, .slice va (celsL j uq).length vc] Gq w3q B [.int .i64 n0, .int .i64 n1, .int .i64 0, .int .i64 0, .int .i64 0] (.slice va (celsL j uq).length vc) (celsL j uq)) := by rw [← hV2]; exact hF1.put (i := 1) (by simp) _
                  clear hCH g1 hF1 
                  obtain ⟨n2, hn2⟩ : ∃ n, nxN z2 = n := ⟨_, rfl⟩
                  obtain ⟨z3, hz3⟩ : ∃ t, nxS z2 = t := ⟨_, rfl⟩
                  have hC := hE2.out.asks hx hn2 hz3
                  have hCH : Hid _ := hC
                  have hn2H : Hid (nxN z2 = n2 ∧ nxS z2 = z3) := ⟨hn2, hz3⟩
                  have g2 := hE2.out.d.n
                  clear hC hn2 hz3 hE2
                  go_wp2_with fail
                  refine Calls.mono (show Calls _ _ _ _ _ from hCH.out) ?_
                  rintro e e2 ⟨rfl, hF2⟩
                  have kc : e2.cell? ⟨B, 2, none⟩ = some (.int .i64 0) := hF2.b.c 2 (by simp)
                  have fz := hF2.b.f 2
                  obtain ⟨V3, hV3⟩ : ∃ V, e2.setCell ⟨B, 2, none⟩ (.int .i64 n2) = V := ⟨_, rfl⟩
                  have hE3 : Hid (CM w V3 N x z3 [.int .i64 np0, .int .i64 np1, .int .i64 np2, .int .i64 np3, .slice Ap Lp.length cp, .slice Dp Ep.length dp, .int .i64 nq0, .int .i64 nq1, .int .i64 nq2, .int .i64 nq3, .slice Aq Lq.length cq, .slice va (celsL j uq).length vc] Gq w3q B [.int .i64 n0, .int .i64 n1, .int .i64 n2, .int .i64 0, .int .i64 0] (.slice va (celsL j uq).length vc) (celsL j uq)) := by rw [← hV3]; exact hF2.put (i := 2) (by simp) _
                  clear hCH g2 hF2 
                  obtain ⟨n3, hn3⟩ : ∃ n, nxN z3 = n := ⟨_, rfl⟩
                  obtain ⟨z4, hz4⟩ : ∃ t, nxS z3 = t := ⟨_, rfl⟩
                  have hC := hE3.out.asks hx hn3 hz4
                  have hCH : Hid _ := hC
                  have hn3H : Hid (nxN z3 = n3 ∧ nxS z3 = z4) := ⟨hn3, hz4⟩
                  have g3 := hE3.out.d.n
                  clear hC hn3 hz4 hE3
                  go_wp2_with fail
                  refine Calls.mono (show Calls _ _ _ _ _ from hCH.out) ?_
                  rintro e e3 ⟨rfl, hF3⟩
                  have kc : e3.cell? ⟨B, 3, none⟩ = some (.int .i64 0) := hF3.b.c 3 (by simp)
                  have fz := hF3.b.f 3
                  obtain ⟨V4, hV4⟩ : ∃ V, e3.setCell ⟨B, 3, none⟩ (.int .i64 n3) = V := ⟨_, rfl⟩
                  have hE4 : Hid (CM w V4 N x z4 [.int .i64 np0, .int .i64 np1, .int .i64 np2, .int .i64 np3, .slice Ap Lp.length cp, .slice Dp Ep.length dp, .int .i64 nq0, .int .i64 nq1, .int .i64 nq2, .int .i64 nq3, .slice Aq Lq.length cq, .slice va (celsL j uq).length vc] Gq w3q B [.int .i64 n0, .int .i64 n1, .int .i64 n2, .int .i64 n3, .int .i64 0] (.slice va (celsL j uq).length vc) (celsL j uq)) := by rw [← hV4]; exact hF3.put (i := 3) (by simp) _
                  clear hCH g3 hF3 
                  obtain ⟨n4, hn4⟩ : ∃ n, nxN z4 = n := ⟨_, rfl⟩
                  obtain ⟨z5, hz5⟩ : ∃ t, nxS z4 = t := ⟨_, rfl⟩
                  have hC := hE4.out.asks hx hn4 hz5
                  have hCH : Hid _ := hC
                  have hn4H : Hid (nxN z4 = n4 ∧ nxS z4 = z5) := ⟨hn4, hz5⟩
                  have g4 := hE4.out.d.n
                  clear hC hn4 hz5 hE4
                  go_wp2_with fail
                  refine Calls.mono (show Calls _ _ _ _ _ from hCH.out) ?_
                  rintro e e4 ⟨rfl, hF4⟩
                  have kc : e4.cell? ⟨B, 4, none⟩ = some (.int .i64 0) := hF4.b.c 4 (by simp)
                  have fz := hF4.b.f 4
                  obtain ⟨V5, hV5⟩ : ∃ V, e4.setCell ⟨B, 4, none⟩ (.int .i64 n4) = V := ⟨_, rfl⟩
                  have hE5 : Hid (CM w V5 N x z5 [.int .i64 np0, .int .i64 np1, .int .i64 np2, .int .i64 np3, .slice Ap Lp.length cp, .slice Dp Ep.length dp, .int .i64 nq0, .int .i64 nq1, .int .i64 nq2, .int .i64 nq3, .slice Aq Lq.length cq, .slice va (celsL j uq).length vc] Gq w3q B [.int .i64 n0, .int .i64 n1, .int .i64 n2, .int .i64 n3, .int .i64 n4] (.slice va (celsL j uq).length vc) (celsL j uq)) := by rw [← hV5]; exact hF4.put (i := 4) (by simp) _
                  clear hCH g4 hF4 
                  have hd5 := hE5.out.gr (Gr.refl V5).drew
                  have x0 : V5.drew.cell? ⟨B, 0, none⟩ = some (.int .i64 n0) := hd5.b.c 0 (by simp)
                  have x1 : V5.drew.cell? ⟨B, 1, none⟩ = some (.int .i64 n1) := hd5.b.c 1 (by simp)
                  have x2 : V5.drew.cell? ⟨B, 2, none⟩ = some (.int .i64 n2) := hd5.b.c 2 (by simp)
                  have x3 : V5.drew.cell? ⟨B, 3, none⟩ = some (.int .i64 n3) := hd5.b.c 3 (by simp)
                  have x4 : V5.drew.cell? ⟨B, 4, none⟩ = some (.int .i64 n4) := hd5.b.c 4 (by simp)
                  have p5 : V5.drew.cell? ⟨N + 5, 11, none⟩ = some (.slice va (celsL j uq).length vc) := hd5.d.p (by omega)
                  have hd6 := (hE5.out.gr ((Gr.refl V5).alloc (.cells #[.int .i64 n0, .int .i64 n1, .int .i64 n2, .int .i64 n3, .int .i64 n4] 53))).gr (Gr.refl _).drew
                  have p5a : (V5.alloc (.cells #[.int .i64 n0, .int .i64 n1, .int .i64 n2, .int .i64 n3, .int .i64 n4] 53)).cell? ⟨N + 5, 11, none⟩ = some (.slice va (celsL j uq).length vc) := hd6.d.p (by omega)
                  have hd6H : Hid (CM w (V5.alloc (.cells #[.int .i64 n0, .int .i64 n1, .int .i64 n2, .int .i64 n3, .int .i64 n4] 53)).drew N x z5 [.int .i64 np0, .int .i64 np1, .int .i64 np2, .int .i64 np3, .slice Ap Lp.length cp, .slice Dp Ep.length dp, .int .i64 nq0, .int .i64 nq1, .int .i64 nq2, .int .i64 nq3, .slice Aq Lq.length cq, .slice va (celsL j uq).length vc] Gq w3q B [.int .i64 n0, .int .i64 n1, .int .i64 n2, .int .i64 n3, .int .i64 n4] (.slice va (celsL j uq).length vc) (celsL j uq)) := hd6
                  have hs5b : Hid (Gq ≤ (V5.alloc (.cells #[.int .i64 n0, .int .i64 n1, .int .i64 n2, .int .i64 n3, .int .i64 n4] 53)).drew.heap.size) := hd6.d.sz
                  clear hd5 hd6 hE5
                  go_wp2_with fail
                  refine wp_region_noPanic ?_
                  refine wp_region_held_drew (S := (fun _ => True)) (by kernel_rfl) (trivial) (fun hHeld => ?_)
                  refine wpAnyH_take (i := 0) (oi := ?oitq1) (v := ?vtq1) ?hoptq1 ?hstq1 ?hftq1 ?hrtq1 ?hQtq1 ?hytq1 (by assumption) ?resttq1
                  case hoptq1 => (simp only [List.getElem?_toArray, List.getElem?_cons_zero]; rfl)
                  case hstq1 => kernel_rfl
                  case hftq1 => kernel_rfl
                  case hrtq1 => kernel_rfl
                  case hQtq1 => exact fun _ _ _ h => h
                  case hytq1 => (refine Or.inl ⟨by rfl, ?_⟩; intro w hSw; (try dsimp only at hSw); go_simp <;> with_reducible rfl)
                  try simp only [Act.put, List.setIfInBounds_toArray, List.set_cons_zero, List.set_cons_succ]
                  refine wpAnyH_take (i := 1) (oi := ?oitq2) (v := ?vtq2) ?hoptq2 ?hstq2 ?hftq2 ?hrtq2 ?hQtq2 ?hytq2 (by assumption) ?resttq2
                  case hoptq2 => (simp only [List.getElem?_toArray, List.getElem?_cons_zero, List.getElem?_cons_succ]; rfl)
                  case hstq2 => kernel_rfl
                  case hftq2 => kernel_rfl
                  case hrtq2 => kernel_rfl
                  case hQtq2 => exact fun _ _ _ h => h
                  case hytq2 => (refine Or.inl ⟨by rfl, ?_⟩; intro w hSw; (try dsimp only at hSw); go_simp <;> with_reducible rfl)
                  try simp only [Act.put, List.setIfInBounds_toArray, List.set_cons_zero, List.set_cons_succ]
                  refine wpAnyH_take (i := 2) (oi := ?oitq3) (v := ?vtq3) ?hoptq3 ?hstq3 ?hftq3 ?hrtq3 ?hQtq3 ?hytq3 (by assumption) ?resttq3
                  case hoptq3 => (simp only [List.getElem?_toArray, List.getElem?_cons_zero, List.getElem?_cons_succ]; rfl)
                  case hstq3 => kernel_rfl
                  case hftq3 => kernel_rfl
                  case hrtq3 => kernel_rfl
                  case hQtq3 => exact fun _ _ _ h => h
                  case hytq3 => (refine Or.inl ⟨by rfl, ?_⟩; intro w hSw; (try dsimp only at hSw); go_simp <;> with_reducible rfl)
                  try simp only [Act.put, List.setIfInBounds_toArray, List.set_cons_zero, List.set_cons_succ]
                  refine wpAnyH_take (i := 3) (oi := ?oitq4) (v := ?vtq4) ?hoptq4 ?hstq4 ?hftq4 ?hrtq4 ?hQtq4 ?hytq4 (by assumption) ?resttq4
                  case hoptq4 => (simp only [List.getElem?_toArray, List.getElem?_cons_zero, List.getElem?_cons_succ]; rfl)
                  case hstq4 => kernel_rfl
                  case hftq4 => kernel_rfl
                  case hrtq4 => kernel_rfl
                  case hQtq4 => exact fun _ _ _ h => h
                  case hytq4 => (refine Or.inl ⟨by rfl, ?_⟩; intro w hSw; (try dsimp only at hSw); go_simp <;> with_reducible rfl)
                  try simp only [Act.put, List.setIfInBounds_toArray, List.set_cons_zero, List.set_cons_succ]
                  refine wpAnyH_ready (rs := [4, 5]) (by kernel_rfl) (by simp) ?_
                  refine AllReadyH.cons (o := ?oitq5) ?hoptq5 (fun K hK => ?steptq5) ?moretq5
                  case hoptq5 => (simp only [List.getElem?_toArray, List.getElem?_cons_zero, List.getElem?_cons_succ]; rfl)
                  case moretq5 =>
                    refine AllReadyH.cons (o := ?oitq6) ?hoptq6 (fun K hK => ?steptq6) ?moretq6
                    case hoptq6 => (simp only [List.getElem?_toArray, List.getElem?_cons_zero, List.getElem?_cons_succ]; rfl)
                    case moretq6 => exact AllReadyH.nil
                    go_simp
                    refine hK.out _ _ ?_ (fun hHeld => ?_)
                    · (try dsimp only); first | done | trivial
                    clear hK K
                    try simp only [Act.put, List.setIfInBounds_toArray, List.set_cons_zero, List.set_cons_succ]
                    refine wpAnyH_ready (rs := [4, 6]) (by kernel_rfl) (by simp) ?_
                    refine AllReadyH.cons (o := ?oitq7) ?hoptq7 (fun K hK => ?steptq7) ?moretq7
                    case hoptq7 => (simp only [List.getElem?_toArray, List.getElem?_cons_zero, List.getElem?_cons_succ]; rfl)
                    case moretq7 =>
                      refine AllReadyH.cons (o := ?oitq8) ?hoptq8 (fun K hK => ?steptq8) ?moretq8
                      case hoptq8 => (simp only [List.getElem?_toArray, List.getElem?_cons_zero, List.getElem?_cons_succ]; rfl)
                      case moretq8 => exact AllReadyH.nil
                      go_simp
                      refine hK.out _ _ ?_ (fun hHeld => ?_)
                      · (try dsimp only); first | done | trivial
                      clear hK K
                      try simp only [Act.put, List.setIfInBounds_toArray, List.set_cons_zero, List.set_cons_succ]
                      refine wpAnyH_ready (rs := [4]) (by kernel_rfl) (by simp) ?_
                      refine AllReadyH.cons (o := ?oitq9) ?hoptq9 (fun K hK => ?steptq9) ?moretq9
                      case hoptq9 => (simp only [List.getElem?_toArray, List.getElem?_cons_zero, List.getElem?_cons_succ]; rfl)
                      case moretq9 => exact AllReadyH.nil
                      go_simp
                      refine hK.out _ _ ?_ (fun hHeld => ?_)
                      · (try dsimp only); first | done | trivial
                      clear hK K
                      try simp only [Act.put, List.setIfInBounds_toArray, List.set_cons_zero, List.set_cons_succ]
                      refine wpAnyH_ready (rs := [7]) (by kernel_rfl) (by simp) ?_
                      refine AllReadyH.cons (o := ?oitq10) ?hoptq10 (fun K hK => ?steptq10) ?moretq10
                      case hoptq10 => (simp only [List.getElem?_toArray, List.getElem?_cons_zero, List.getElem?_cons_succ]; rfl)
                      case moretq10 => exact AllReadyH.nil
                      (refine step_append_cel _ rfl (.tmp 93) (.tmp 95) rfl Gq (.slice va (celsL j uq).length vc) (celsL j uq) [((n0, n1), n2, n3, n4)] 1 rfl (some ⟨V5.heap.size, 0, none⟩) 1 (by simp [Act.eval]) (by simp [Act.eval]) hd6H.out.o ((rowNewCl rfl ((n0, n1), n2, n3, n4) _).gr (Gr.refl _).drew) (fun h => by cases h) (by rw [celsL_len]; unfold maxLen; simp; omega) (by rw [celsL_len]; simp; omega) hs5b.out ?_; intro vA wA hownA hgrA; have hbA : Hid (Below Gq (V5.alloc (.cells #[.int .i64 n0, .int .i64 n1, .int .i64 n2, .int .i64 n3, .int .i64 n4] 53)).drew wA) := OwnG.grown_below hd6H.out.o hgrA hs5b.out; have hD6 := hd6H.out.d.below hbA.out (Nat.le_refl _); have hownB : Hid (OwnC wA Gq vA (celsL j uq ++ [((n0, n1), n2, n3, n4)])) := hownA; obtain ⟨A2, c2, rfl, h2, h3, h4⟩ := hownA.row encC_len; have p5b : wA.cell? ⟨N + 5, 11, none⟩ = some (.slice va (celsL j uq).length vc) := hD6.p (by omega); have f5b := hD6.fp 11; have hD6H : Hid (DM w wA N x z5 [.int .i64 np0, .int .i64 np1, .int .i64 np2, .int .i64 np3, .slice Ap Lp.length cp, .slice Dp Ep.length dp, .int .i64 nq0, .int .i64 nq1, .int .i64 nq2, .int .i64 nq3, .slice Aq Lq.length cq, .slice va (celsL j uq).length vc] Gq w3q) := hD6; clear hD6 hownA hgrA h2 h3 h4)
                      refine hK.out _ _ ?_ (fun hHeld => ?_)
                      · (try dsimp only); first | done | trivial
                      clear hK K
                      try simp only [Act.put, List.setIfInBounds_toArray, List.set_cons_zero, List.set_cons_succ]
                      refine wpAnyH_take (i := 8) (oi := ?oitq11) (v := ?vtq11) ?hoptq11 ?hstq11 ?hftq11 ?hrtq11 ?hQtq11 ?hytq11 (by assumption) ?resttq11
                      case hoptq11 => (simp only [List.getElem?_toArray, List.getElem?_cons_zero, List.getElem?_cons_succ]; rfl)
                      case hstq11 => kernel_rfl
                      case hftq11 => kernel_rfl
                      case hrtq11 => kernel_rfl
                      case hQtq11 => exact fun _ _ _ h => h
                      case hytq11 => (refine Or.inl ⟨by rfl, ?_⟩; intro w hSw; (try dsimp only at hSw); go_simp <;> with_reducible rfl)
                      try simp only [Act.put, List.setIfInBounds_toArray, List.set_cons_zero, List.set_cons_succ]
                      refine wpAnyH_take (i := 9) (oi := ?oitq12) (v := ?vtq12) ?hoptq12 ?hstq12 ?hftq12 ?hrtq12 ?hQtq12 ?hytq12 (by assumption) ?resttq12
                      case hoptq12 => (simp only [List.getElem?_toArray, List.getElem?_cons_zero, List.getElem?_cons_succ]; rfl)
                      case hstq12 => kernel_rfl
                      case hftq12 => kernel_rfl
                      case hrtq12 => kernel_rfl
                      case hQtq12 => exact fun _ _ _ h => h
                      case hytq12 => (refine Or.inl ⟨by rfl, ?_⟩; intro w hSw; (try dsimp only at hSw); go_simp <;> with_reducible rfl)
                      try simp only [Act.put, List.setIfInBounds_toArray, List.set_cons_zero, List.set_cons_succ]
                      refine wpAnyH_ready (rs := [10]) (by kernel_rfl) (by simp) ?_
                      refine AllReadyH.cons (o := ?oitq13) ?hoptq13 (fun K hK => ?steptq13) ?moretq13
                      case hoptq13 => (simp only [List.getElem?_toArray, List.getElem?_cons_zero, List.getElem?_cons_succ]; rfl)
                      case moretq13 => exact AllReadyH.nil
                      go_simp
                      refine hK.out _ _ ?_ (fun hHeld => ?_)
                      · (try dsimp only); first | done | trivial
                      clear hK K
                      try simp only [Act.put, List.setIfInBounds_toArray, List.set_cons_zero, List.set_cons_succ]
                      refine wpAnyH_done (by kernel_rfl) ?_ _
                      refine NoPanic.normal ?_
                      have hlen : (celsL j uq ++ [((n0, n1), n2, n3, n4)]).length = (celsL j uq).length + 1 := by simp
                      have hownB2 := hownB.out
                      rw [hlen] at hownB2
                      have hL : Hid (celsL j uq ++ [((n0, n1), n2, n3, n4)] = celsL (j + 1) uq ∧ z5 = celsS (j + 1) uq) := by
                        rw [celsL, celsS, hz0H.out, hn0H.out.2, hn1H.out.2, hn2H.out.2, hn3H.out.2, hn4H.out.2, hn0H.out.1, hn1H.out.1, hn2H.out.1, hn3H.out.1, hn4H.out.1]
                        exact ⟨rfl, rfl⟩
                      have hown7 : Hid (DM w (wA.setCell ⟨N + 5, 11, none⟩ (.slice A2 ((celsL j uq).length + 1) c2)) N x (celsS (j + 1) uq) [.int .i64 np0, .int .i64 np1, .int .i64 np2, .int .i64 np3, .slice Ap Lp.length cp, .slice Dp Ep.length dp, .int .i64 nq0, .int .i64 nq1, .int .i64 nq2, .int .i64 nq3, .slice Aq Lq.length cq, .slice A2 ((celsL j uq).length + 1) c2] Gq w3q ∧ OwnC (wA.setCell ⟨N + 5, 11, none⟩ (.slice A2 ((celsL j uq).length + 1) c2)) Gq (.slice A2 ((celsL j uq).length + 1) c2) (celsL (j + 1) uq)) := by
                        rw [← hL.out.1, ← hL.out.2]
                        exact ⟨hD6H.out.put (i := 11) (by omega) _, OwnG.setCell hownB2 (show N + 5 < Gq by have := hD6H.out.hH; omega) _⟩
                      clear hlen hownB2 p5 p5a p5b f5b x0 x1 x2 x3 x4
                      go_wp2
                      go_roundw
                      case rel => exact ⟨j + 1, by go_num, by omega, _, hown7⟩
                      case measure => simp [intOf]; omega
                    go_simp
                    refine hK.out _ _ ?_ (fun hHeld => ?_)
                    · (try dsimp only); first | done | trivial
                    clear hK K
                    try simp only [Act.put, List.setIfInBounds_toArray, List.set_cons_zero, List.set_cons_succ]
                    refine wpAnyH_ready (rs := [6]) (by kernel_rfl) (by simp) ?_
                    refine AllReadyH.cons (o := ?oitq14) ?hoptq14 (fun K hK => ?steptq14) ?moretq14
                    case hoptq14 => (simp only [List.getElem?_toArray, List.getElem?_cons_zero, List.getElem?_cons_succ]; rfl)
                    case moretq14 => exact AllReadyH.nil
                    go_simp
                    refine hK.out _ _ ?_ (fun hHeld => ?_)
                    · (try dsimp only); first | done | trivial
                    clear hK K
                    try simp only [Act.put, List.setIfInBounds_toArray, List.set_cons_zero, List.set_cons_succ]
                    refine wpAnyH_ready (rs := [7]) (by kernel_rfl) (by simp) ?_
                    refine AllReadyH.cons (o := ?oitq15) ?hoptq15 (fun K hK => ?steptq15) ?moretq15
                    case hoptq15 => (simp only [List.getElem?_toArray, List.getElem?_cons_zero, List.getElem?_cons_succ]; rfl)
                    case moretq15 => exact AllReadyH.nil
                    (refine step_append_cel _ rfl (.tmp 93) (.tmp 95) rfl Gq (.slice va (celsL j uq).length vc) (celsL j uq) [((n0, n1), n2, n3, n4)] 1 rfl (some ⟨V5.heap.size, 0, none⟩) 1 (by simp [Act.eval]) (by simp [Act.eval]) hd6H.out.o ((rowNewCl rfl ((n0, n1), n2, n3, n4) _).gr (Gr.refl _).drew) (fun h => by cases h) (by rw [celsL_len]; unfold maxLen; simp; omega) (by rw [celsL_len]; simp; omega) hs5b.out ?_; intro vA wA hownA hgrA; have hbA : Hid (Below Gq (V5.alloc (.cells #[.int .i64 n0, .int .i64 n1, .int .i64 n2, .int .i64 n3, .int .i64 n4] 53)).drew wA) := OwnG.grown_below hd6H.out.o hgrA hs5b.out; have hD6 := hd6H.out.d.below hbA.out (Nat.le_refl _); have hownB : Hid (OwnC wA Gq vA (celsL j uq ++ [((n0, n1), n2, n3, n4)])) := hownA; obtain ⟨A2, c2, rfl, h2, h3, h4⟩ := hownA.row encC_len; have p5b : wA.cell? ⟨N + 5, 11, none⟩ = some (.slice va (celsL j uq).length vc) := hD6.p (by omega); have f5b := hD6.fp 11; have hD6H : Hid (DM w wA N x z5 [.int .i64 np0, .int .i64 np1, .int .i64 np2, .int .i64 np3, .slice Ap Lp.length cp, .slice Dp Ep.length dp, .int .i64 nq0, .int .i64 nq1, .int .i64 nq2, .int .i64 nq3, .slice Aq Lq.length cq, .slice va (celsL j uq).length vc] Gq w3q) := hD6; clear hD6 hownA hgrA h2 h3 h4)
                    refine hK.out _ _ ?_ (fun hHeld => ?_)
                    · (try dsimp only); first | done | trivial
                    clear hK K
                    try simp only [Act.put, List.setIfInBounds_toArray, List.set_cons_zero, List.set_cons_succ]
                    refine wpAnyH_take (i := 8) (oi := ?oitq16) (v := ?vtq16) ?hoptq16 ?hstq16 ?hftq16 ?hrtq16 ?hQtq16 ?hytq16 (by assumption) ?resttq16
                    case hoptq16 => (simp only [List.getElem?_toArray, List.getElem?_cons_zero, List.getElem?_cons_succ]; rfl)
                    case hstq16 => kernel_rfl
                    case hftq16 => kernel_rfl
                    case hrtq16 => kernel_rfl
                    case hQtq16 => exact fun _ _ _ h => h
                    case hytq16 => (refine Or.inl ⟨by rfl, ?_⟩; intro w hSw; (try dsimp only at hSw); go_simp <;> with_reducible rfl)
                    try simp only [Act.put, List.setIfInBounds_toArray, List.set_cons_zero, List.set_cons_succ]
                    refine wpAnyH_take (i := 9) (oi := ?oitq17) (v := ?vtq17) ?hoptq17 ?hstq17 ?hftq17 ?hrtq17 ?hQtq17 ?hytq17 (by assumption) ?resttq17
                    case hoptq17 => (simp only [List.getElem?_toArray, List.getElem?_cons_zero, List.getElem?_cons_succ]; rfl)
                    case hstq17 => kernel_rfl
                    case hftq17 => kernel_rfl
                    case hrtq17 => kernel_rfl
                    case hQtq17 => exact fun _ _ _ h => h
                    case hytq17 => (refine Or.inl ⟨by rfl, ?_⟩; intro w hSw; (try dsimp only at hSw); go_simp <;> with_reducible rfl)
                    try simp only [Act.put, List.setIfInBounds_toArray, List.set_cons_zero, List.set_cons_succ]
                    refine wpAnyH_ready (rs := [10]) (by kernel_rfl) (by simp) ?_
                    refine AllReadyH.cons (o := ?oitq18) ?hoptq18 (fun K hK => ?steptq18) ?moretq18
                    case hoptq18 => (simp only [List.getElem?_toArray, List.getElem?_cons_zero, List.getElem?_cons_succ]; rfl)
                    case moretq18 => exact AllReadyH.nil
                    go_simp
                    refine hK.out _ _ ?_ (fun hHeld => ?_)
                    · (try dsimp only); first | done | trivial
                    clear hK K
                    try simp only [Act.put, List.setIfInBounds_toArray, List.set_cons_zero, List.set_cons_succ]
                    refine wpAnyH_done (by kernel_rfl) ?_ _
                    refine NoPanic.normal ?_
                    have hlen : (celsL j uq ++ [((n0, n1), n2, n3, n4)]).length = (celsL j uq).length + 1 := by simp
                    have hownB2 := hownB.out
                    rw [hlen] at hownB2
                    have hL : Hid (celsL j uq ++ [((n0, n1), n2, n3, n4)] = celsL (j + 1) uq ∧ z5 = celsS (j + 1) uq) := by
                      rw [celsL, celsS, hz0H.out, hn0H.out.2, hn1H.out.2, hn2H.out.2, hn3H.out.2, hn4H.out.2, hn0H.out.1, hn1H.out.1, hn2H.out.1, hn3H.out.1, hn4H.out.1]
                      exact ⟨rfl, rfl⟩
                    have hown7 : Hid (DM w (wA.setCell ⟨N + 5, 11, none⟩ (.slice A2 ((celsL j uq).length + 1) c2)) N x (celsS (j + 1) uq) [.int .i64 np0, .int .i64 np1, .int .i64 np2, .int .i64 np3, .slice Ap Lp.length cp, .slice Dp Ep.length dp, .int .i64 nq0, .int .i64 nq1, .int .i64 nq2, .int .i64 nq3, .slice Aq Lq.length cq, .slice A2 ((celsL j uq).length + 1) c2] Gq w3q ∧ OwnC (wA.setCell ⟨N + 5, 11, none⟩ (.slice A2 ((celsL j uq).length + 1) c2)) Gq (.slice A2 ((celsL j uq).length + 1) c2) (celsL (j + 1) uq)) := by
                      rw [← hL.out.1, ← hL.out.2]
                      exact ⟨hD6H.out.put (i := 11) (by omega) _, OwnG.setCell hownB2 (show N + 5 < Gq by have := hD6H.out.hH; omega) _⟩
                    clear hlen hownB2 p5 p5a p5b f5b x0 x1 x2 x3 x4
                    go_wp2
                    go_roundw
                    case rel => exact ⟨j + 1, by go_num, by omega, _, hown7⟩
                    case measure => simp [intOf]; omega
                  go_simp
                  refine hK.out _ _ ?_ (fun hHeld => ?_)
                  · (try dsimp only); first | done | trivial
                  clear hK K
                  try simp only [Act.put, List.setIfInBounds_toArray, List.set_cons_zero, List.set_cons_succ]
                  refine wpAnyH_ready (rs := [5]) (by kernel_rfl) (by simp) ?_
                  refine AllReadyH.cons (o := ?oitq19) ?hoptq19 (fun K hK => ?steptq19) ?moretq19
                  case hoptq19 => (simp only [List.getElem?_toArray, List.getElem?_cons_zero, List.getElem?_cons_succ]; rfl)
                  case moretq19 => exact AllReadyH.nil
                  go_simp
                  refine hK.out _ _ ?_ (fun hHeld => ?_)
                  · (try dsimp only); first | done | trivial
                  clear hK K
                  try simp only [Act.put, List.setIfInBounds_toArray, List.set_cons_zero, List.set_cons_succ]
                  refine wpAnyH_ready (rs := [6]) (by kernel_rfl) (by simp) ?_
                  refine AllReadyH.cons (o := ?oitq20) ?hoptq20 (fun K hK => ?steptq20) ?moretq20
                  case hoptq20 => (simp only [List.getElem?_toArray, List.getElem?_cons_zero, List.getElem?_cons_succ]; rfl)
                  case moretq20 => exact AllReadyH.nil
                  go_simp
                  refine hK.out _ _ ?_ (fun hHeld => ?_)
                  · (try dsimp only); first | done | trivial
                  clear hK K
                  try simp only [Act.put, List.setIfInBounds_toArray, List.set_cons_zero, List.set_cons_succ]
                  refine wpAnyH_ready (rs := [7]) (by kernel_rfl) (by simp) ?_
                  refine AllReadyH.cons (o := ?oitq21) ?hoptq21 (fun K hK => ?steptq21) ?moretq21
                  case hoptq21 => (simp only [List.getElem?_toArray, List.getElem?_cons_zero, List.getElem?_cons_succ]; rfl)
                  case moretq21 => exact AllReadyH.nil
                  (refine step_append_cel _ rfl (.tmp 93) (.tmp 95) rfl Gq (.slice va (celsL j uq).length vc) (celsL j uq) [((n0, n1), n2, n3, n4)] 1 rfl (some ⟨V5.heap.size, 0, none⟩) 1 (by simp [Act.eval]) (by simp [Act.eval]) hd6H.out.o ((rowNewCl rfl ((n0, n1), n2, n3, n4) _).gr (Gr.refl _).drew) (fun h => by cases h) (by rw [celsL_len]; unfold maxLen; simp; omega) (by rw [celsL_len]; simp; omega) hs5b.out ?_; intro vA wA hownA hgrA; have hbA : Hid (Below Gq (V5.alloc (.cells #[.int .i64 n0, .int .i64 n1, .int .i64 n2, .int .i64 n3, .int .i64 n4] 53)).drew wA) := OwnG.grown_below hd6H.out.o hgrA hs5b.out; have hD6 := hd6H.out.d.below hbA.out (Nat.le_refl _); have hownB : Hid (OwnC wA Gq vA (celsL j uq ++ [((n0, n1), n2, n3, n4)])) := hownA; obtain ⟨A2, c2, rfl, h2, h3, h4⟩ := hownA.row encC_len; have p5b : wA.cell? ⟨N + 5, 11, none⟩ = some (.slice va (celsL j uq).length vc) := hD6.p (by omega); have f5b := hD6.fp 11; have hD6H : Hid (DM w wA N x z5 [.int .i64 np0, .int .i64 np1, .int .i64 np2, .int .i64 np3, .slice Ap Lp.length cp, .slice Dp Ep.length dp, .int .i64 nq0, .int .i64 nq1, .int .i64 nq2, .int .i64 nq3, .slice Aq Lq.length cq, .slice va (celsL j uq).length vc] Gq w3q) := hD6; clear hD6 hownA hgrA h2 h3 h4)
                  refine hK.out _ _ ?_ (fun hHeld => ?_)
                  · (try dsimp only); first | done | trivial
                  clear hK K
                  try simp only [Act.put, List.setIfInBounds_toArray, List.set_cons_zero, List.set_cons_succ]
                  refine wpAnyH_take (i := 8) (oi := ?oitq22) (v := ?vtq22) ?hoptq22 ?hstq22 ?hftq22 ?hrtq22 ?hQtq22 ?hytq22 (by assumption) ?resttq22
                  case hoptq22 => (simp only [List.getElem?_toArray, List.getElem?_cons_zero, List.getElem?_cons_succ]; rfl)
                  case hstq22 => kernel_rfl
                  case hftq22 => kernel_rfl
                  case hrtq22 => kernel_rfl
                  case hQtq22 => exact fun _ _ _ h => h
                  case hytq22 => (refine Or.inl ⟨by rfl, ?_⟩; intro w hSw; (try dsimp only at hSw); go_simp <;> with_reducible rfl)
                  try simp only [Act.put, List.setIfInBounds_toArray, List.set_cons_zero, List.set_cons_succ]
                  refine wpAnyH_take (i := 9) (oi := ?oitq23) (v := ?vtq23) ?hoptq23 ?hstq23 ?hftq23 ?hrtq23 ?hQtq23 ?hytq23 (by assumption) ?resttq23
                  case hoptq23 => (simp only [List.getElem?_toArray, List.getElem?_cons_zero, List.getElem?_cons_succ]; rfl)
                  case hstq23 => kernel_rfl
                  case hftq23 => kernel_rfl
                  case hrtq23 => kernel_rfl
                  case hQtq23 => exact fun _ _ _ h => h
                  case hytq23 => (refine Or.inl ⟨by rfl, ?_⟩; intro w hSw; (try dsimp only at hSw); go_simp <;> with_reducible rfl)
                  try simp only [Act.put, List.setIfInBounds_toArray, List.set_cons_zero, List.set_cons_succ]
                  refine wpAnyH_ready (rs := [10]) (by kernel_rfl) (by simp) ?_
                  refine AllReadyH.cons (o := ?oitq24) ?hoptq24 (fun K hK => ?steptq24) ?moretq24
                  case hoptq24 => (simp only [List.getElem?_toArray, List.getElem?_cons_zero, List.getElem?_cons_succ]; rfl)
                  case moretq24 => exact AllReadyH.nil
                  go_simp
                  refine hK.out _ _ ?_ (fun hHeld => ?_)
                  · (try dsimp only); first | done | trivial
                  clear hK K
                  try simp only [Act.put, List.setIfInBounds_toArray, List.set_cons_zero, List.set_cons_succ]
                  refine wpAnyH_done (by kernel_rfl) ?_ _
                  refine NoPanic.normal ?_
                  have hlen : (celsL j uq ++ [((n0, n1), n2, n3, n4)]).length = (celsL j uq).length + 1 := by simp
                  have hownB2 := hownB.out
                  rw [hlen] at hownB2
                  have hL : Hid (celsL j uq ++ [((n0, n1), n2, n3, n4)] = celsL (j + 1) uq ∧ z5 = celsS (j + 1) uq) := by
                    rw [celsL, celsS, hz0H.out, hn0H.out.2, hn1H.out.2, hn2H.out.2, hn3H.out.2, hn4H.out.2, hn0H.out.1, hn1H.out.1, hn2H.out.1, hn3H.out.1, hn4H.out.1]
                    exact ⟨rfl, rfl⟩
                  have hown7 : Hid (DM w (wA.setCell ⟨N + 5, 11, none⟩ (.slice A2 ((celsL j uq).length + 1) c2)) N x (celsS (j + 1) uq) [.int .i64 np0, .int .i64 np1, .int .i64 np2, .int .i64 np3, .slice Ap Lp.length cp, .slice Dp Ep.length dp, .int .i64 nq0, .int .i64 nq1, .int .i64 nq2, .int .i64 nq3, .slice Aq Lq.length cq, .slice A2 ((celsL j uq).length + 1) c2] Gq w3q ∧ OwnC (wA.setCell ⟨N + 5, 11, none⟩ (.slice A2 ((celsL j uq).length + 1) c2)) Gq (.slice A2 ((celsL j uq).length + 1) c2) (celsL (j + 1) uq)) := by
                    rw [← hL.out.1, ← hL.out.2]
                    exact ⟨hD6H.out.put (i := 11) (by omega) _, OwnG.setCell hownB2 (show N + 5 < Gq by have := hD6H.out.hH; omega) _⟩
                  clear hlen hownB2 p5 p5a p5b f5b x0 x1 x2 x3 x4
                  go_wp2
                  go_roundw
                  case rel => exact ⟨j + 1, by go_num, by omega, _, hown7⟩
                  case measure => simp [intOf]; omega
                · have hjK : j = Kq := by omega
                  subst hjK
                  have hltz2 : ¬ (j : Int) < (j : Int) := by omega
                  obtain ⟨Dq, dq, hv1, _, hr1, hb1⟩ := hR.out.2.row encC_len
                  subst hv1
                  obtain ⟨Eq, hEq⟩ : ∃ L, celsL j uq = L := ⟨_, rfl⟩
                  obtain ⟨fq, hfq⟩ : ∃ t, celsS j uq = t := ⟨_, rfl⟩
                  rw [hEq] at hr1
                  have hD := hR.out.1
                  rw [hEq, hfq] at hD
                  have hEqH : Hid (celsL j uq = Eq ∧ celsS j uq = fq) := ⟨hEq, hfq⟩
                  obtain ⟨Jq, hJq⟩ : ∃ H, wk.heap.size = H := ⟨_, rfl⟩
                  have hT5q : Hid (DM w wk N x fq [.int .i64 np0, .int .i64 np1, .int .i64 np2, .int .i64 np3, .slice Ap Lp.length cp, .slice Dp Ep.length dp, .int .i64 nq0, .int .i64 nq1, .int .i64 nq2, .int .i64 nq3, .slice Aq Lq.length cq, .slice Dq Eq.length dq] Jq wk) := hD.rebase hJq
                  have hle5q : Hid (Gq ≤ Jq) := by show _ ≤ _; rw [← hJq]; exact hD.sz
                  have hrwDq : Hid (RowC wk Dq Eq ∧ ∀ a, Dq = some a → Eq ≠ [] → N + 6 ≤ a.block ∧ a.block < Jq) := ⟨hr1, fun a e _ => by have := hb1 a e; have := hD.hH; omega⟩
                  have hbDq : Hid (∀ a, Dq = some a → N + 6 ≤ a.block) := fun a e => by have := hb1 a e; have := hD.hH; omega
                  have hrwAp1111 : Hid (Row wk Ap Lp ∧ ∀ a, Ap = some a → Lp ≠ [] → N + 6 ≤ a.block ∧ a.block < Jq) := ⟨Row.mid hrwAp111.out.1 hD.m hrwAp111.out.2, fun a e h0 => by have := hrwAp111.out.2 a e h0; have := hle5q.out; omega⟩
                  have hrwDp111 : Hid (RowC wk Dp Ep ∧ ∀ a, Dp = some a → Ep ≠ [] → N + 6 ≤ a.block ∧ a.block < Jq) := ⟨RowG.mid hrwDp11.out.1 hD.m hrwDp11.out.2, fun a e h0 => by have := hrwDp11.out.2 a e h0; have := hle5q.out; omega⟩
                  have hrwAq1 : Hid (Row wk Aq Lq ∧ ∀ a, Aq = some a → Lq ≠ [] → N + 6 ≤ a.block ∧ a.block < Jq) := ⟨Row.mid hrwAq.out.1 hD.m hrwAq.out.2, fun a e h0 => by have := hrwAq.out.2 a e h0; have := hle5q.out; omega⟩
                  have htabq : Hid (tabR stq = ⟨⟨nq0, nq1, nq2, nq3, Lq⟩, Eq⟩ ∧ tabS stq = fq) := by
                    unfold tabR tabS cldS clkS
                    rw [htq0H.out, hnq0H.out.2, hnq1H.out.2, hnq2H.out.2, hnq3H.out.2, hnq0H.out.1, hnq1H.out.1, hnq2H.out.1, hnq3H.out.1, hMqH.out.1, hMqH.out.2, Int.toNat_natCast, hLqH.out.1, hLqH.out.2, hKqH.out.1, hKqH.out.2, Int.toNat_natCast, hEqH.out.1, hEqH.out.2]
                    exact ⟨rfl, rfl⟩
                  clear hR hr1 hb1 hD hfq hrwAp111 hrwDp11 hrwAq htq0H hnq0H hnq1H hnq2H hnq3H hMqH hLqH hKqH hEqH hEq hLq
                  go_wp2
                  rw [rounds_succ]
                  obtain ⟨a, ha⟩ : ∃ a : Tab, a = ⟨⟨np0, np1, np2, np3, Lp⟩, Ep⟩ := ⟨_, rfl⟩
                  obtain ⟨b, hb⟩ : ∃ b : Tab, b = ⟨⟨nq0, nq1, nq2, nq3, Lq⟩, Eq⟩ := ⟨_, rfl⟩
                  have hab : Hid (a = pakA x ∧ b = pakB x ∧ pakS x = fq) := by
                    unfold pakA pakB pakS
                    rw [hstpH.out, htabp.out.2, hstqH.out, htabp.out.1, htabq.out.1, htabq.out.2]
                    exact ⟨ha, hb, rfl⟩
                  obtain ⟨at_, ok, hs, hdec⟩ := hT5q.out.d
                  have hF : Hid (DF w wk N x a b Ap cp Dp dp Aq cq Dq dq at_ ok) := by
                    subst ha hb
                    exact ⟨hdec, hrwAp1111.out.1, hrwDp111.out.1, hrwAq1.out.1, hrwDq.out.1, hbAp.out, hbDp.out, hbAq.out, hbDq.out⟩
                  have hsH : Hid (pakS x = (x.drop at_, ok)) := by show _ = _; rw [hab.out.2.2, hs]
                  clear hdec hs ha hb hT5q hrwAp1111 hrwDp111 hrwAq1 hrwDq hbAp hbDp hbAq hbDq htabp htabq hstpH hstqH
                  have i1 := hF.out.d.r.o
                  have i2 := hF.out.d.r.s
                  have i3 := hF.out.d.r.a
                  have hle := hF.out.d.r.le
                  have hxl := hxlH.out
                  cases ok with
                  | false =>
                    have hno : Hid (decOk x = false) := by show _ = _; unfold decOk; rw [hsH.out]; rfl
                    have hDZ : Hid (DF w wk N x a b Ap cp Dp dp Aq cq Dq dq at_ false) := hF
                    clear hF
                    have z0 : wk.cell? ⟨N + 1, 0, none⟩ = some (.int .i64 0) := hDZ.out.zb.c 0 (by simp)
                    have y0 := hDZ.out.zb.f 0
                    have z1 : wk.cell? ⟨N + 1, 1, none⟩ = some (.int .i64 0) := hDZ.out.zb.c 1 (by simp)
                    have y1 := hDZ.out.zb.f 1
                    have z2 : wk.cell? ⟨N + 1, 2, none⟩ = some (.int .i64 0) := hDZ.out.zb.c 2 (by simp)
                    have y2 := hDZ.out.zb.f 2
                    have z3 : wk.cell? ⟨N + 1, 3, none⟩ = some (.int .i64 0) := hDZ.out.zb.c 3 (by simp)
                    have y3 := hDZ.out.zb.f 3
                    have z4 : wk.cell? ⟨N + 1, 4, none⟩ = some (.slice none 0 0) := hDZ.out.zb.c 4 (by simp)
                    have y4 := hDZ.out.zb.f 4
                    have z5 : wk.cell? ⟨N + 1, 5, none⟩ = some (.slice none 0 0) := hDZ.out.zb.c 5 (by simp)
                    have y5 := hDZ.out.zb.f 5
                    have z6 : wk.cell? ⟨N + 1, 6, none⟩ = some (.int .i64 0) := hDZ.out.zb.c 6 (by simp)
                    have y6 := hDZ.out.zb.f 6
                    have z7 : wk.cell? ⟨N + 1, 7, none⟩ = some (.int .i64 0) := hDZ.out.zb.c 7 (by simp)
                    have y7 := hDZ.out.zb.f 7
                    have z8 : wk.cell? ⟨N + 1, 8, none⟩ = some (.int .i64 0) := hDZ.out.zb.c 8 (by simp)
                    have y8 := hDZ.out.zb.f 8
                    have z9 : wk.cell? ⟨N + 1, 9, none⟩ = some (.int .i64 0) := hDZ.out.zb.c 9 (by simp)
                    have y9 := hDZ.out.zb.f 9
                    have z10 : wk.cell? ⟨N + 1, 10, none⟩ = some (.slice none 0 0) := hDZ.out.zb.c 10 (by simp)
                    have y10 := hDZ.out.zb.f 10
                    have z11 : wk.cell? ⟨N + 1, 11, none⟩ = some (.slice none 0 0) := hDZ.out.zb.c 11 (by simp)
                    have y11 := hDZ.out.zb.f 11
                    go_wp2
                    have hXF := ((((((((((((hDZ.out.zb.put (i := 0) (by simp) (.int .i64 0)).put (i := 1) (by simp) (.int .i64 0)).put (i := 2) (by simp) (.int .i64 0)).put (i := 3) (by simp) (.int .i64 0)).put (i := 4) (by simp) (.slice none 0 0)).put (i := 5) (by simp) (.slice none 0 0)).put (i := 6) (by simp) (.int .i64 0)).put (i := 7) (by simp) (.int .i64 0)).put (i := 8) (by simp) (.int .i64 0)).put (i := 9) (by simp) (.int .i64 0)).put (i := 10) (by simp) (.slice none 0 0)).put (i := 11) (by simp) (.slice none 0 0))
                    have hBF : Below w.heap.size w ((((((((((((wk.setCell ⟨N + 1, 0, none⟩ (.int .i64 0)).setCell ⟨N + 1, 1, none⟩ (.int .i64 0)).setCell ⟨N + 1, 2, none⟩ (.int .i64 0)).setCell ⟨N + 1, 3, none⟩ (.int .i64 0)).setCell ⟨N + 1, 4, none⟩ (.slice none 0 0)).setCell ⟨N + 1, 5, none⟩ (.slice none 0 0)).setCell ⟨N + 1, 6, none⟩ (.int .i64 0)).setCell ⟨N + 1, 7, none⟩ (.int .i64 0)).setCell ⟨N + 1, 8, none⟩ (.int .i64 0)).setCell ⟨N + 1, 9, none⟩ (.int .i64 0)).setCell ⟨N + 1, 10, none⟩ (.slice none 0 0)).setCell ⟨N + 1, 11, none⟩ (.slice none 0 0)) := (below_set (below_set (below_set (below_set (below_set (below_set (below_set (below_set (below_set (below_set (below_set (below_set hDZ.out.d.g (by have := hDZ.out.d.n0; omega) _) (by have := hDZ.out.d.n0; omega) _) (by have := hDZ.out.d.n0; omega) _) (by have := hDZ.out.d.n0; omega) _) (by have := hDZ.out.d.n0; omega) _) (by have := hDZ.out.d.n0; omega) _) (by have := hDZ.out.d.n0; omega) _) (by have := hDZ.out.d.n0; omega) _) (by have := hDZ.out.d.n0; omega) _) (by have := hDZ.out.d.n0; omega) _) (by have := hDZ.out.d.n0; omega) _) (by have := hDZ.out.d.n0; omega) _)
                    generalize ((((((((((((wk.setCell ⟨N + 1, 0, none⟩ (.int .i64 0)).setCell ⟨N + 1, 1, none⟩ (.int .i64 0)).setCell ⟨N + 1, 2, none⟩ (.int .i64 0)).setCell ⟨N + 1, 3, none⟩ (.int .i64 0)).setCell ⟨N + 1, 4, none⟩ (.slice none 0 0)).setCell ⟨N + 1, 5, none⟩ (.slice none 0 0)).setCell ⟨N + 1, 6, none⟩ (.int .i64 0)).setCell ⟨N + 1, 7, none⟩ (.int .i64 0)).setCell ⟨N + 1, 8, none⟩ (.int .i64 0)).setCell ⟨N + 1, 9, none⟩ (.int .i64 0)).setCell ⟨N + 1, 10, none⟩ (.slice none 0 0)).setCell ⟨N + 1, 11, none⟩ (.slice none 0 0)) = WF at hXF hBF ⊢
                    have r0 : WF.cell? ⟨N + 1, 0, none⟩ = some (.int .i64 0) := hXF.c 0 (by simp)
                    have r1 : WF.cell? ⟨N + 1, 1, none⟩ = some (.int .i64 0) := hXF.c 1 (by simp)
                    have r2 : WF.cell? ⟨N + 1, 2, none⟩ = some (.int .i64 0) := hXF.c 2 (by simp)
                    have r3 : WF.cell? ⟨N + 1, 3, none⟩ = some (.int .i64 0) := hXF.c 3 (by simp)
                    have r4 : WF.cell? ⟨N + 1, 4, none⟩ = some (.slice none 0 0) := hXF.c 4 (by simp)
                    have r5 : WF.cell? ⟨N + 1, 5, none⟩ = some (.slice none 0 0) := hXF.c 5 (by simp)
                    have r6 : WF.cell? ⟨N + 1, 6, none⟩ = some (.int .i64 0) := hXF.c 6 (by simp)
                    have r7 : WF.cell? ⟨N + 1, 7, none⟩ = some (.int .i64 0) := hXF.c 7 (by simp)
                    have r8 : WF.cell? ⟨N + 1, 8, none⟩ = some (.int .i64 0) := hXF.c 8 (by simp)
                    have r9 : WF.cell? ⟨N + 1, 9, none⟩ = some (.int .i64 0) := hXF.c 9 (by simp)
                    have r10 : WF.cell? ⟨N + 1, 10, none⟩ = some (.slice none 0 0) := hXF.c 10 (by simp)
                    have r11 : WF.cell? ⟨N + 1, 11, none⟩ = some (.slice none 0 0) := hXF.c 11 (by simp)
                    refine bodyPost_ret (v := .tuple #[.agg #[.int .i64 0, .int .i64 0, .int .i64 0, .int .i64 0, .slice none 0 0, .slice none 0 0, .int .i64 0, .int .i64 0, .int .i64 0, .int .i64 0, .slice none 0 0, .slice none 0 0], .int .i64 0, .int .i64 5]) (by simp [results, Try.results14, go_sem, r0, r1, r2, r3, r4, r5, r6, r7, r8, r9, r10, r11]) rfl ⟨zeroTab, zeroTab, none, 0, none, 0, none, 0, none, 0, 0, 5, rfl, ?_⟩
                    unfold decA decB decN decE
                    rw [hno.out]
                    exact ⟨⟨rfl, rfl, rfl, rfl⟩, Or.inl rfl, Or.inl rfl, Or.inl rfl, Or.inl rfl, by first | exact hBF | (rw [← hN]; exact hBF)⟩
                  | true =>
                    obtain ⟨y, hy⟩ : ∃ y, x.drop at_ = y := ⟨_, rfl⟩
                    have hyl : y.length = x.length - at_ := by rw [← hy, List.length_drop]
                    have hat : Hid (pakAt x = at_) := by
                      show _ = _
                      unfold pakAt
                      rw [hsH.out]
                      show x.length - (x.drop at_).length = _
                      rw [List.length_drop]
                      omega
                    obtain ⟨s0, hs0⟩ : ∃ s, sumL (x.take at_) = s := ⟨_, rfl⟩
                    have hs0l : s0 ≤ 4294967295 := by rw [← hs0]; unfold sumL; omega
                    have hdec : Hid (decOk x = (preB y (sumB s0) && decide (errT a = 0) && decide (errT b = 0))) := by
                      show _ = _
                      unfold decOk preB
                      rw [hat.out, hsH.out, hy, hs0, ← hab.out.1, ← hab.out.2.1, sumB_len]
                      simp [Bool.and_assoc]
                    have hyH : Hid (x.drop at_ = y ∧ y.length = x.length - at_) := ⟨hy, hyl⟩
                    by_cases h4 : x.length < at_ + 4
                    · have h4z : (x.length : Int) < (at_ : Int) + 4 := by omega
                      have hno : Hid (decOk x = false) := by
                        show _ = _
                        rw [hdec.out]
                        unfold preB
                        rw [sumB_len]
                        have : ¬ 4 ≤ y.length := by omega
                        simp [this]
                      have hDZ : Hid (DF w wk N x a b Ap cp Dp dp Aq cq Dq dq at_ true) := hF
                      clear hF hyl hs0 hy hyH hat
                      have z0 : wk.cell? ⟨N + 1, 0, none⟩ = some (.int .i64 0) := hDZ.out.zb.c 0 (by simp)
                      have y0 := hDZ.out.zb.f 0
                      have z1 : wk.cell? ⟨N + 1, 1, none⟩ = some (.int .i64 0) := hDZ.out.zb.c 1 (by simp)
                      have y1 := hDZ.out.zb.f 1
                      have z2 : wk.cell? ⟨N + 1, 2, none⟩ = some (.int .i64 0) := hDZ.out.zb.c 2 (by simp)
                      have y2 := hDZ.out.zb.f 2
                      have z3 : wk.cell? ⟨N + 1, 3, none⟩ = some (.int .i64 0) := hDZ.out.zb.c 3 (by simp)
                      have y3 := hDZ.out.zb.f 3
                      have z4 : wk.cell? ⟨N + 1, 4, none⟩ = some (.slice none 0 0) := hDZ.out.zb.c 4 (by simp)
                      have y4 := hDZ.out.zb.f 4
                      have z5 : wk.cell? ⟨N + 1, 5, none⟩ = some (.slice none 0 0) := hDZ.out.zb.c 5 (by simp)
                      have y5 := hDZ.out.zb.f 5
                      have z6 : wk.cell? ⟨N + 1, 6, none⟩ = some (.int .i64 0) := hDZ.out.zb.c 6 (by simp)
                      have y6 := hDZ.out.zb.f 6
                      have z7 : wk.cell? ⟨N + 1, 7, none⟩ = some (.int .i64 0) := hDZ.out.zb.c 7 (by simp)
                      have y7 := hDZ.out.zb.f 7
                      have z8 : wk.cell? ⟨N + 1, 8, none⟩ = some (.int .i64 0) := hDZ.out.zb.c 8 (by simp)
                      have y8 := hDZ.out.zb.f 8
                      have z9 : wk.cell? ⟨N + 1, 9, none⟩ = some (.int .i64 0) := hDZ.out.zb.c 9 (by simp)
                      have y9 := hDZ.out.zb.f 9
                      have z10 : wk.cell? ⟨N + 1, 10, none⟩ = some (.slice none 0 0) := hDZ.out.zb.c 10 (by simp)
                      have y10 := hDZ.out.zb.f 10
                      have z11 : wk.cell? ⟨N + 1, 11, none⟩ = some (.slice none 0 0) := hDZ.out.zb.c 11 (by simp)
                      have y11 := hDZ.out.zb.f 11
                      go_wp2
                      have hXF := ((((((((((((hDZ.out.zb.put (i := 0) (by simp) (.int .i64 0)).put (i := 1) (by simp) (.int .i64 0)).put (i := 2) (by simp) (.int .i64 0)).put (i := 3) (by simp) (.int .i64 0)).put (i := 4) (by simp) (.slice none 0 0)).put (i := 5) (by simp) (.slice none 0 0)).put (i := 6) (by simp) (.int .i64 0)).put (i := 7) (by simp) (.int .i64 0)).put (i := 8) (by simp) (.int .i64 0)).put (i := 9) (by simp) (.int .i64 0)).put (i := 10) (by simp) (.slice none 0 0)).put (i := 11) (by simp) (.slice none 0 0))
                      have hBF : Below w.heap.size w ((((((((((((wk.setCell ⟨N + 1, 0, none⟩ (.int .i64 0)).setCell ⟨N + 1, 1, none⟩ (.int .i64 0)).setCell ⟨N + 1, 2, none⟩ (.int .i64 0)).setCell ⟨N + 1, 3, none⟩ (.int .i64 0)).setCell ⟨N + 1, 4, none⟩ (.slice none 0 0)).setCell ⟨N + 1, 5, none⟩ (.slice none 0 0)).setCell ⟨N + 1, 6, none⟩ (.int .i64 0)).setCell ⟨N + 1, 7, none⟩ (.int .i64 0)).setCell ⟨N + 1, 8, none⟩ (.int .i64 0)).setCell ⟨N + 1, 9, none⟩ (.int .i64 0)).setCell ⟨N + 1, 10, none⟩ (.slice none 0 0)).setCell ⟨N + 1, 11, none⟩ (.slice none 0 0)) := (below_set (below_set (below_set (below_set (below_set (below_set (below_set (below_set (below_set (below_set (below_set (below_set hDZ.out.d.g (by have := hDZ.out.d.n0; omega) _) (by have := hDZ.out.d.n0; omega) _) (by have := hDZ.out.d.n0; omega) _) (by have := hDZ.out.d.n0; omega) _) (by have := hDZ.out.d.n0; omega) _) (by have := hDZ.out.d.n0; omega) _) (by have := hDZ.out.d.n0; omega) _) (by have := hDZ.out.d.n0; omega) _) (by have := hDZ.out.d.n0; omega) _) (by have := hDZ.out.d.n0; omega) _) (by have := hDZ.out.d.n0; omega) _) (by have := hDZ.out.d.n0; omega) _)
                      generalize ((((((((((((wk.setCell ⟨N + 1, 0, none⟩ (.int .i64 0)).setCell ⟨N + 1, 1, none⟩ (.int .i64 0)).setCell ⟨N + 1, 2, none⟩ (.int .i64 0)).setCell ⟨N + 1, 3, none⟩ (.int .i64 0)).setCell ⟨N + 1, 4, none⟩ (.slice none 0 0)).setCell ⟨N + 1, 5, none⟩ (.slice none 0 0)).setCell ⟨N + 1, 6, none⟩ (.int .i64 0)).setCell ⟨N + 1, 7, none⟩ (.int .i64 0)).setCell ⟨N + 1, 8, none⟩ (.int .i64 0)).setCell ⟨N + 1, 9, none⟩ (.int .i64 0)).setCell ⟨N + 1, 10, none⟩ (.slice none 0 0)).setCell ⟨N + 1, 11, none⟩ (.slice none 0 0)) = WF at hXF hBF ⊢
                      have r0 : WF.cell? ⟨N + 1, 0, none⟩ = some (.int .i64 0) := hXF.c 0 (by simp)
                      have r1 : WF.cell? ⟨N + 1, 1, none⟩ = some (.int .i64 0) := hXF.c 1 (by simp)
                      have r2 : WF.cell? ⟨N + 1, 2, none⟩ = some (.int .i64 0) := hXF.c 2 (by simp)
                      have r3 : WF.cell? ⟨N + 1, 3, none⟩ = some (.int .i64 0) := hXF.c 3 (by simp)
                      have r4 : WF.cell? ⟨N + 1, 4, none⟩ = some (.slice none 0 0) := hXF.c 4 (by simp)
                      have r5 : WF.cell? ⟨N + 1, 5, none⟩ = some (.slice none 0 0) := hXF.c 5 (by simp)
                      have r6 : WF.cell? ⟨N + 1, 6, none⟩ = some (.int .i64 0) := hXF.c 6 (by simp)
                      have r7 : WF.cell? ⟨N + 1, 7, none⟩ = some (.int .i64 0) := hXF.c 7 (by simp)
                      have r8 : WF.cell? ⟨N + 1, 8, none⟩ = some (.int .i64 0) := hXF.c 8 (by simp)
                      have r9 : WF.cell? ⟨N + 1, 9, none⟩ = some (.int .i64 0) := hXF.c 9 (by simp)
                      have r10 : WF.cell? ⟨N + 1, 10, none⟩ = some (.slice none 0 0) := hXF.c 10 (by simp)
                      have r11 : WF.cell? ⟨N + 1, 11, none⟩ = some (.slice none 0 0) := hXF.c 11 (by simp)
                      refine bodyPost_ret (v := .tuple #[.agg #[.int .i64 0, .int .i64 0, .int .i64 0, .int .i64 0, .slice none 0 0, .slice none 0 0, .int .i64 0, .int .i64 0, .int .i64 0, .int .i64 0, .slice none 0 0, .slice none 0 0], .int .i64 0, .int .i64 5]) (by simp [results, Try.results14, go_sem, r0, r1, r2, r3, r4, r5, r6, r7, r8, r9, r10, r11]) rfl ⟨zeroTab, zeroTab, none, 0, none, 0, none, 0, none, 0, 0, 5, rfl, ?_⟩
                      unfold decA decB decN decE
                      rw [hno.out]
                      exact ⟨⟨rfl, rfl, rfl, rfl⟩, Or.inl rfl, Or.inl rfl, Or.inl rfl, Or.inl rfl, by first | exact hBF | (rw [← hN]; exact hBF)⟩
                    · have h4z : ¬ (x.length : Int) < (at_ : Int) + 4 := by omega
                      have hcutB := cut_to x at_
                      obtain ⟨u, hu⟩ : ∃ u, x.take at_ = u := ⟨_, rfl⟩
                      rw [hu] at hcutB hs0
                      have hlez : (at_ : Int) ≤ (x.length : Int) := by omega
                      have hC := rsum_any u wk (by rw [← hu, List.length_take]; exact Nat.le_trans (Nat.min_le_right _ _) hx)
                      rw [hs0] at hC
                      have hCH : Hid _ := hC
                      clear hC hs0 hyl hy hu
                      go_wp2_with fail
                      refine Calls.mono (show Calls _ _ _ _ _ from hCH.out) ?_
                      rintro e w5 ⟨rfl, hw5⟩
                      subst w5
                      clear hCH hcutB i1 i2 i3
                      go_wp2
                      go_loopw [18, 19] (fun nv iv wi => ∃ (m i : Nat) (q : Bool), nv = .int .u32 m ∧ iv = .int .i64 i ∧ i ≤ 4 ∧ m ≤ 4294967295 ∧ Hid (m = s0 / 256 ^ i ∧ q = (y.take i == (sumB s0).take i) ∧ DF w wi N x a b Ap cp Dp dp Aq cq Dq dq at_ q)) (fun _ iv _ => 4 - (intOf iv).toNat)
                      case atStart => exact ⟨s0, 0, true, rfl, rfl, by omega, hs0l, by simp, by simp, hF.out⟩
                      case round =>
                        clear hF
                        rename World => wl
                        obtain ⟨m, i, q, rfl, rfl, hi, hm, hR⟩ := hrel
                        have i1 := hR.out.2.2.d.r.o
                        have i2 := hR.out.2.2.d.r.s
                        have i3 := hR.out.2.2.d.r.a
                        by_cases hlt : i < 4
                        · have hltz : (i : Int) < 4 := by omega
                          have f1 := hR.out.2.2.d.r.fo
                          have hiy : i < y.length := by have := hyH.out.2; omega
                          have hiS : i < (sumB s0).length := by rw [sumB_len]; exact hlt
                          have hmn : Hid (m / 256 = s0 / 256 ^ (i + 1)) := by show _ = _; rw [hR.out.1, Nat.div_div_eq_div_mul, Nat.pow_succ]
                          have hst := take_more4 hiy hiS
                          rw [← hR.out.2.1, sumB_at s0 i hlt, ← hR.out.1] at hst
                          cases q with
                          | false =>
                            have hnx : Hid (false = (y.take (i + 1) == (sumB s0).take (i + 1)) ∧ DF w (wl.setCell ⟨N + 3, 0, none⟩ (.bool false)) N x a b Ap cp Dp dp Aq cq Dq dq at_ false) := ⟨by rw [hst]; rfl, hR.out.2.2.setOk false⟩
                            clear hR hst
                            go_wp2
                            go_roundw
                            case rel => exact ⟨m / 256, i + 1, false, by go_num, by go_num, by omega, by omega, hmn.out, hnx.out.1, hnx.out.2⟩
                            case measure => simp [intOf]; omega
                          | true =>
                            obtain ⟨c, hc⟩ : ∃ c, y[i] = c := ⟨_, rfl⟩
                            rw [hc, Bool.true_and, byte_eq] at hst
                            obtain ⟨p, hp⟩ : ∃ p, at_ + i = p := ⟨_, rfl⟩
                            have hpx : p < x.length := by omega
                            have hpz : (at_ : Int) + (i : Int) = (p : Int) := by omega
                            have hpxz : (p : Int) < (x.length : Int) := by omega
                            have hbs : p < (ByteArray.mk x.toArray).size := by show _ < x.toArray.size; simpa using hpx
                            have hbz := byteAtD hyH.out.1 hp.symm hiy hc hbs
                            obtain ⟨r, hr⟩ : ∃ r : Bool, ((c.toNat : Int) == (m : Int) % 256) = r := ⟨_, rfl⟩
                            rw [hr] at hst
                            have hnx : Hid (r = (y.take (i + 1) == (sumB s0).take (i + 1)) ∧ DF w (wl.setCell ⟨N + 3, 0, none⟩ (.bool r)) N x a b Ap cp Dp dp Aq cq Dq dq at_ r) := ⟨hst.symm, hR.out.2.2.setOk r⟩
                            clear hR hst hc
                            go_wp2
                            go_roundw
                            case rel => exact ⟨m / 256, i + 1, r, by go_num, by go_num, by omega, by omega, hmn.out, hnx.out.1, hnx.out.2⟩
                            case measure => simp [intOf]; omega
                        · obtain rfl : i = 4 := by omega
                          have hltz : ¬ ((4 : Nat) : Int) < 4 := by omega
                          have hpre : Hid (preB y (sumB s0) = q) := by
                            show _ = _
                            unfold preB
                            rw [sumB_len, hR.out.2.1, List.take_of_length_le (Nat.le_of_eq (sumB_len s0))]
                            have : 4 ≤ y.length := by have := hyH.out.2; omega
                            simp [this]
                          rw [hpre.out] at hdec
                          have hF : Hid (DF w wl N x a b Ap cp Dp dp Aq cq Dq dq at_ q) := hR.out.2.2
                          have hTa : Hid (∀ W, Gr wl W → Calls Try.prog 6 #[.agg #[.int .i64 a.c.c0, .int .i64 a.c.c1, .int .i64 a.c.c2, .int .i64 a.c.c3, .slice Ap a.c.l.length cp, .slice Dp a.e.length dp]] W fun e w' => e = .returned (.int .i64 (errT a)) ∧ Gr W w') := fun W h => by
                            have hsm : a.c.l.length ≤ 400 ∧ a.e.length ≤ 400 := by rw [hab.out.1]; exact tabR_small _
                            exact rtable_any a Ap cp Dp dp W (Nat.le_trans hsm.1 (by decide)) (Nat.le_trans hsm.2 (by decide)) (hF.out.rA.gr h) (hF.out.rC.gr h)
                          have hTb : Hid (∀ W, Gr wl W → Calls Try.prog 6 #[.agg #[.int .i64 b.c.c0, .int .i64 b.c.c1, .int .i64 b.c.c2, .int .i64 b.c.c3, .slice Aq b.c.l.length cq, .slice Dq b.e.length dq]] W fun e w' => e = .returned (.int .i64 (errT b)) ∧ Gr W w') := fun W h => by
                            have hsm : b.c.l.length ≤ 400 ∧ b.e.length ≤ 400 := by rw [hab.out.2.1]; exact tabR_small _
                            exact rtable_any b Aq cq Dq dq W (Nat.le_trans hsm.1 (by decide)) (Nat.le_trans hsm.2 (by decide)) (hF.out.rE.gr h) (hF.out.rD.gr h)
                          obtain ⟨EA, hEA⟩ : ∃ E, errT a = E := ⟨_, rfl⟩
                          obtain ⟨EB, hEB⟩ : ∃ E, errT b = E := ⟨_, rfl⟩
                          rw [hEA] at hTa hdec
                          rw [hEB] at hTb hdec
                          clear hEA hEB hR hpre i2 i3
                          cases q with
                          | false =>
                            have hno : Hid (decOk x = false) := by show _ = _; rw [hdec.out]; rfl
                            have hDZ : Hid (DF w wl N x a b Ap cp Dp dp Aq cq Dq dq at_ false) := hF
                            clear hF hTa hTb hdec
                            have z0 : wl.cell? ⟨N + 1, 0, none⟩ = some (.int .i64 0) := hDZ.out.zb.c 0 (by simp)
                            have y0 := hDZ.out.zb.f 0
                            have z1 : wl.cell? ⟨N + 1, 1, none⟩ = some (.int .i64 0) := hDZ.out.zb.c 1 (by simp)
                            have y1 := hDZ.out.zb.f 1
                            have z2 : wl.cell? ⟨N + 1, 2, none⟩ = some (.int .i64 0) := hDZ.out.zb.c 2 (by simp)
                            have y2 := hDZ.out.zb.f 2
                            have z3 : wl.cell? ⟨N + 1, 3, none⟩ = some (.int .i64 0) := hDZ.out.zb.c 3 (by simp)
                            have y3 := hDZ.out.zb.f 3
                            have z4 : wl.cell? ⟨N + 1, 4, none⟩ = some (.slice none 0 0) := hDZ.out.zb.c 4 (by simp)
                            have y4 := hDZ.out.zb.f 4
                            have z5 : wl.cell? ⟨N + 1, 5, none⟩ = some (.slice none 0 0) := hDZ.out.zb.c 5 (by simp)
                            have y5 := hDZ.out.zb.f 5
                            have z6 : wl.cell? ⟨N + 1, 6, none⟩ = some (.int .i64 0) := hDZ.out.zb.c 6 (by simp)
                            have y6 := hDZ.out.zb.f 6
                            have z7 : wl.cell? ⟨N + 1, 7, none⟩ = some (.int .i64 0) := hDZ.out.zb.c 7 (by simp)
                            have y7 := hDZ.out.zb.f 7
                            have z8 : wl.cell? ⟨N + 1, 8, none⟩ = some (.int .i64 0) := hDZ.out.zb.c 8 (by simp)
                            have y8 := hDZ.out.zb.f 8
                            have z9 : wl.cell? ⟨N + 1, 9, none⟩ = some (.int .i64 0) := hDZ.out.zb.c 9 (by simp)
                            have y9 := hDZ.out.zb.f 9
                            have z10 : wl.cell? ⟨N + 1, 10, none⟩ = some (.slice none 0 0) := hDZ.out.zb.c 10 (by simp)
                            have y10 := hDZ.out.zb.f 10
                            have z11 : wl.cell? ⟨N + 1, 11, none⟩ = some (.slice none 0 0) := hDZ.out.zb.c 11 (by simp)
                            have y11 := hDZ.out.zb.f 11
                            go_wp2
                            have hXF := ((((((((((((hDZ.out.zb.put (i := 0) (by simp) (.int .i64 0)).put (i := 1) (by simp) (.int .i64 0)).put (i := 2) (by simp) (.int .i64 0)).put (i := 3) (by simp) (.int .i64 0)).put (i := 4) (by simp) (.slice none 0 0)).put (i := 5) (by simp) (.slice none 0 0)).put (i := 6) (by simp) (.int .i64 0)).put (i := 7) (by simp) (.int .i64 0)).put (i := 8) (by simp) (.int .i64 0)).put (i := 9) (by simp) (.int .i64 0)).put (i := 10) (by simp) (.slice none 0 0)).put (i := 11) (by simp) (.slice none 0 0))
                            have hBF : Below w.heap.size w ((((((((((((wl.setCell ⟨N + 1, 0, none⟩ (.int .i64 0)).setCell ⟨N + 1, 1, none⟩ (.int .i64 0)).setCell ⟨N + 1, 2, none⟩ (.int .i64 0)).setCell ⟨N + 1, 3, none⟩ (.int .i64 0)).setCell ⟨N + 1, 4, none⟩ (.slice none 0 0)).setCell ⟨N + 1, 5, none⟩ (.slice none 0 0)).setCell ⟨N + 1, 6, none⟩ (.int .i64 0)).setCell ⟨N + 1, 7, none⟩ (.int .i64 0)).setCell ⟨N + 1, 8, none⟩ (.int .i64 0)).setCell ⟨N + 1, 9, none⟩ (.int .i64 0)).setCell ⟨N + 1, 10, none⟩ (.slice none 0 0)).setCell ⟨N + 1, 11, none⟩ (.slice none 0 0)) := (below_set (below_set (below_set (below_set (below_set (below_set (below_set (below_set (below_set (below_set (below_set (below_set hDZ.out.d.g (by have := hDZ.out.d.n0; omega) _) (by have := hDZ.out.d.n0; omega) _) (by have := hDZ.out.d.n0; omega) _) (by have := hDZ.out.d.n0; omega) _) (by have := hDZ.out.d.n0; omega) _) (by have := hDZ.out.d.n0; omega) _) (by have := hDZ.out.d.n0; omega) _) (by have := hDZ.out.d.n0; omega) _) (by have := hDZ.out.d.n0; omega) _) (by have := hDZ.out.d.n0; omega) _) (by have := hDZ.out.d.n0; omega) _) (by have := hDZ.out.d.n0; omega) _)
                            generalize ((((((((((((wl.setCell ⟨N + 1, 0, none⟩ (.int .i64 0)).setCell ⟨N + 1, 1, none⟩ (.int .i64 0)).setCell ⟨N + 1, 2, none⟩ (.int .i64 0)).setCell ⟨N + 1, 3, none⟩ (.int .i64 0)).setCell ⟨N + 1, 4, none⟩ (.slice none 0 0)).setCell ⟨N + 1, 5, none⟩ (.slice none 0 0)).setCell ⟨N + 1, 6, none⟩ (.int .i64 0)).setCell ⟨N + 1, 7, none⟩ (.int .i64 0)).setCell ⟨N + 1, 8, none⟩ (.int .i64 0)).setCell ⟨N + 1, 9, none⟩ (.int .i64 0)).setCell ⟨N + 1, 10, none⟩ (.slice none 0 0)).setCell ⟨N + 1, 11, none⟩ (.slice none 0 0)) = WF at hXF hBF ⊢
                            have r0 : WF.cell? ⟨N + 1, 0, none⟩ = some (.int .i64 0) := hXF.c 0 (by simp)
                            have r1 : WF.cell? ⟨N + 1, 1, none⟩ = some (.int .i64 0) := hXF.c 1 (by simp)
                            have r2 : WF.cell? ⟨N + 1, 2, none⟩ = some (.int .i64 0) := hXF.c 2 (by simp)
                            have r3 : WF.cell? ⟨N + 1, 3, none⟩ = some (.int .i64 0) := hXF.c 3 (by simp)
                            have r4 : WF.cell? ⟨N + 1, 4, none⟩ = some (.slice none 0 0) := hXF.c 4 (by simp)
                            have r5 : WF.cell? ⟨N + 1, 5, none⟩ = some (.slice none 0 0) := hXF.c 5 (by simp)
                            have r6 : WF.cell? ⟨N + 1, 6, none⟩ = some (.int .i64 0) := hXF.c 6 (by simp)
                            have r7 : WF.cell? ⟨N + 1, 7, none⟩ = some (.int .i64 0) := hXF.c 7 (by simp)
                            have r8 : WF.cell? ⟨N + 1, 8, none⟩ = some (.int .i64 0) := hXF.c 8 (by simp)
                            have r9 : WF.cell? ⟨N + 1, 9, none⟩ = some (.int .i64 0) := hXF.c 9 (by simp)
                            have r10 : WF.cell? ⟨N + 1, 10, none⟩ = some (.slice none 0 0) := hXF.c 10 (by simp)
                            have r11 : WF.cell? ⟨N + 1, 11, none⟩ = some (.slice none 0 0) := hXF.c 11 (by simp)
                            refine bodyPost_ret (v := .tuple #[.agg #[.int .i64 0, .int .i64 0, .int .i64 0, .int .i64 0, .slice none 0 0, .slice none 0 0, .int .i64 0, .int .i64 0, .int .i64 0, .int .i64 0, .slice none 0 0, .slice none 0 0], .int .i64 0, .int .i64 5]) (by simp [results, Try.results14, go_sem, r0, r1, r2, r3, r4, r5, r6, r7, r8, r9, r10, r11]) rfl ⟨zeroTab, zeroTab, none, 0, none, 0, none, 0, none, 0, 0, 5, rfl, ?_⟩
                            unfold decA decB decN decE
                            rw [hno.out]
                            exact ⟨⟨rfl, rfl, rfl, rfl⟩, Or.inl rfl, Or.inl rfl, Or.inl rfl, Or.inl rfl, by first | exact hBF | (rw [← hN]; exact hBF)⟩
                          | true =>
                            have p0 : wl.cell? ⟨N + 5, 0, none⟩ = some (.int .i64 a.c.c0) := hF.out.d.p 0 (by omega)
                            have p1 : wl.cell? ⟨N + 5, 1, none⟩ = some (.int .i64 a.c.c1) := hF.out.d.p 1 (by omega)
                            have p2 : wl.cell? ⟨N + 5, 2, none⟩ = some (.int .i64 a.c.c2) := hF.out.d.p 2 (by omega)
                            have p3 : wl.cell? ⟨N + 5, 3, none⟩ = some (.int .i64 a.c.c3) := hF.out.d.p 3 (by omega)
                            have p4 : wl.cell? ⟨N + 5, 4, none⟩ = some (.slice Ap a.c.l.length cp) := hF.out.d.p 4 (by omega)
                            have p5 : wl.cell? ⟨N + 5, 5, none⟩ = some (.slice Dp a.e.length dp) := hF.out.d.p 5 (by omega)
                            have hC := hTa.out wl (Gr.refl _)
                            have hCH : Hid _ := hC
                            clear hC hTa
                            go_wp2_with fail
                            refine Calls.mono (show Calls _ _ _ _ _ from hCH.out) ?_
                            rintro e w6 ⟨rfl, hg6⟩
                            have hF6 : Hid (DF w w6 N x a b Ap cp Dp dp Aq cq Dq dq at_ true) := hF.out.gr hg6
                            clear hCH i1 p0 p1 p2 p3 p4 p5
                            by_cases hEA0 : EA = 0
                            · subst hEA0
                              have p6 : w6.cell? ⟨N + 5, 6, none⟩ = some (.int .i64 b.c.c0) := hF6.out.d.p 6 (by omega)
                              have p7 : w6.cell? ⟨N + 5, 7, none⟩ = some (.int .i64 b.c.c1) := hF6.out.d.p 7 (by omega)
                              have p8 : w6.cell? ⟨N + 5, 8, none⟩ = some (.int .i64 b.c.c2) := hF6.out.d.p 8 (by omega)
                              have p9 : w6.cell? ⟨N + 5, 9, none⟩ = some (.int .i64 b.c.c3) := hF6.out.d.p 9 (by omega)
                              have p10 : w6.cell? ⟨N + 5, 10, none⟩ = some (.slice Aq b.c.l.length cq) := hF6.out.d.p 10 (by omega)
                              have p11 : w6.cell? ⟨N + 5, 11, none⟩ = some (.slice Dq b.e.length dq) := hF6.out.d.p 11 (by omega)
                              have hC := hTb.out w6 hg6
                              have hCH : Hid _ := hC
                              clear hC hTb hF hg6
                              go_wp2_with fail
                              refine Calls.mono (show Calls _ _ _ _ _ from hCH.out) ?_
                              rintro e w7 ⟨rfl, hg7⟩
                              have hF7 : Hid (DF w w7 N x a b Ap cp Dp dp Aq cq Dq dq at_ true) := hF6.out.gr hg7
                              clear hCH p6 p7 p8 p9 p10 p11 hF6
                              by_cases hEB0 : EB = 0
                              · subst hEB0
                                have hyes : Hid (decOk x = true) := by show _ = _; rw [hdec.out]; rfl
                                have hDZ : Hid (DF w w7 N x a b Ap cp Dp dp Aq cq Dq dq at_ true) := hF7
                                have i3 := hDZ.out.d.r.a
                                have hwr0 : IntKind.i64.wrap ((at_ : Int) + 4) = (at_ : Int) + 4 := by rw [IntKind.wrap_i64]; omega
                                have hwrH : Hid (IntKind.i64.wrap ((at_ : Int) + 4) = (at_ : Int) + 4) := hwr0
                                clear hwr0
                                have z0 : w7.cell? ⟨N + 1, 0, none⟩ = some (.int .i64 0) := hDZ.out.zb.c 0 (by simp)
                                have y0 : w7.frozen? ⟨N + 1, 0, none⟩ = false := hDZ.out.zb.f 0
                                have z1 : w7.cell? ⟨N + 1, 1, none⟩ = some (.int .i64 0) := hDZ.out.zb.c 1 (by simp)
                                have y1 : w7.frozen? ⟨N + 1, 1, none⟩ = false := hDZ.out.zb.f 1
                                have z2 : w7.cell? ⟨N + 1, 2, none⟩ = some (.int .i64 0) := hDZ.out.zb.c 2 (by simp)
                                have y2 : w7.frozen? ⟨N + 1, 2, none⟩ = false := hDZ.out.zb.f 2
                                have z3 : w7.cell? ⟨N + 1, 3, none⟩ = some (.int .i64 0) := hDZ.out.zb.c 3 (by simp)
                                have y3 : w7.frozen? ⟨N + 1, 3, none⟩ = false := hDZ.out.zb.f 3
                                have z4 : w7.cell? ⟨N + 1, 4, none⟩ = some (.slice none 0 0) := hDZ.out.zb.c 4 (by simp)
                                have y4 : w7.frozen? ⟨N + 1, 4, none⟩ = false := hDZ.out.zb.f 4
                                have z5 : w7.cell? ⟨N + 1, 5, none⟩ = some (.slice none 0 0) := hDZ.out.zb.c 5 (by simp)
                                have y5 : w7.frozen? ⟨N + 1, 5, none⟩ = false := hDZ.out.zb.f 5
                                have z6 : w7.cell? ⟨N + 1, 6, none⟩ = some (.int .i64 0) := hDZ.out.zb.c 6 (by simp)
                                have y6 : w7.frozen? ⟨N + 1, 6, none⟩ = false := hDZ.out.zb.f 6
                                have z7 : w7.cell? ⟨N + 1, 7, none⟩ = some (.int .i64 0) := hDZ.out.zb.c 7 (by simp)
                                have y7 : w7.frozen? ⟨N + 1, 7, none⟩ = false := hDZ.out.zb.f 7
                                have z8 : w7.cell? ⟨N + 1, 8, none⟩ = some (.int .i64 0) := hDZ.out.zb.c 8 (by simp)
                                have y8 : w7.frozen? ⟨N + 1, 8, none⟩ = false := hDZ.out.zb.f 8
                                have z9 : w7.cell? ⟨N + 1, 9, none⟩ = some (.int .i64 0) := hDZ.out.zb.c 9 (by simp)
                                have y9 : w7.frozen? ⟨N + 1, 9, none⟩ = false := hDZ.out.zb.f 9
                                have z10 : w7.cell? ⟨N + 1, 10, none⟩ = some (.slice none 0 0) := hDZ.out.zb.c 10 (by simp)
                                have y10 : w7.frozen? ⟨N + 1, 10, none⟩ = false := hDZ.out.zb.f 10
                                have z11 : w7.cell? ⟨N + 1, 11, none⟩ = some (.slice none 0 0) := hDZ.out.zb.c 11 (by simp)
                                have y11 : w7.frozen? ⟨N + 1, 11, none⟩ = false := hDZ.out.zb.f 11
                                have hDd := hDZ.out
                                have hPS7 : Hid (PS w7 N at_ [.int .i64 a.c.c0, .int .i64 a.c.c1, .int .i64 a.c.c2, .int .i64 a.c.c3, .slice Ap a.c.l.length cp, .slice Dp a.e.length dp, .int .i64 b.c.c0, .int .i64 b.c.c1, .int .i64 b.c.c2, .int .i64 b.c.c3, .slice Aq b.c.l.length cq, .slice Dq b.e.length dq]) := ⟨fun j hj => hDd.d.p j hj, hDd.d.r.a⟩
                                have hPS : Hid (PS w7.drew N at_ [.int .i64 a.c.c0, .int .i64 a.c.c1, .int .i64 a.c.c2, .int .i64 a.c.c3, .slice Ap a.c.l.length cp, .slice Dp a.e.length dp, .int .i64 b.c.c0, .int .i64 b.c.c1, .int .i64 b.c.c2, .int .i64 b.c.c3, .slice Aq b.c.l.length cq, .slice Dq b.e.length dq]) := PS.dr hPS7.out
                                have hKp : Hid (∀ W, PS W N at_ [.int .i64 a.c.c0, .int .i64 a.c.c1, .int .i64 a.c.c2, .int .i64 a.c.c3, .slice Ap a.c.l.length cp, .slice Dp a.e.length dp, .int .i64 b.c.c0, .int .i64 b.c.c1, .int .i64 b.c.c2, .int .i64 b.c.c3, .slice Aq b.c.l.length cq, .slice Dq b.e.length dq] → (fun w' => w'.cell? ⟨N + 5, 0, none⟩ = some (.int .i64 a.c.c0) ∧ w'.cell? ⟨N + 5, 1, none⟩ = some (.int .i64 a.c.c1) ∧ w'.cell? ⟨N + 5, 2, none⟩ = some (.int .i64 a.c.c2) ∧ w'.cell? ⟨N + 5, 3, none⟩ = some (.int .i64 a.c.c3) ∧ w'.cell? ⟨N + 5, 4, none⟩ = some (.slice Ap a.c.l.length cp) ∧ w'.cell? ⟨N + 5, 5, none⟩ = some (.slice Dp a.e.length dp) ∧ w'.cell? ⟨N + 5, 6, none⟩ = some (.int .i64 b.c.c0) ∧ w'.cell? ⟨N + 5, 7, none⟩ = some (.int .i64 b.c.c1) ∧ w'.cell? ⟨N + 5, 8, none⟩ = some (.int .i64 b.c.c2) ∧ w'.cell? ⟨N + 5, 9, none⟩ = some (.int .i64 b.c.c3) ∧ w'.cell? ⟨N + 5, 10, none⟩ = some (.slice Aq b.c.l.length cq) ∧ w'.cell? ⟨N + 5, 11, none⟩ = some (.slice Dq b.e.length dq) ∧ w'.cell? ⟨N + 2, 0, none⟩ = some (.int .i64 at_)) W) := fun W h => ⟨h.p 0 (by omega), h.p 1 (by omega), h.p 2 (by omega), h.p 3 (by omega), h.p 4 (by omega), h.p 5 (by omega), h.p 6 (by omega), h.p 7 (by omega), h.p 8 (by omega), h.p 9 (by omega), h.p 10 (by omega), h.p 11 (by omega), h.a⟩
                                have hXF := (((((((((((((hDd.zb.put (i := 0) (by simp) (.int .i64 a.c.c0)).put (i := 1) (by simp) (.int .i64 a.c.c1)).put (i := 2) (by simp) (.int .i64 a.c.c2)).put (i := 3) (by simp) (.int .i64 a.c.c3)).put (i := 4) (by simp) (.slice Ap a.c.l.length cp)).put (i := 5) (by simp) (.slice Dp a.e.length dp)).put (i := 6) (by simp) (.int .i64 b.c.c0)).put (i := 7) (by simp) (.int .i64 b.c.c1)).put (i := 8) (by simp) (.int .i64 b.c.c2)).put (i := 9) (by simp) (.int .i64 b.c.c3)).put (i := 10) (by simp) (.slice Aq b.c.l.length cq)).put (i := 11) (by simp) (.slice Dq b.e.length dq))).gr (Gr.refl _).drew
                                have hBF : Below w.heap.size w (((((((((((((w7.setCell ⟨N + 1, 0, none⟩ (.int .i64 a.c.c0)).setCell ⟨N + 1, 1, none⟩ (.int .i64 a.c.c1)).setCell ⟨N + 1, 2, none⟩ (.int .i64 a.c.c2)).setCell ⟨N + 1, 3, none⟩ (.int .i64 a.c.c3)).setCell ⟨N + 1, 4, none⟩ (.slice Ap a.c.l.length cp)).setCell ⟨N + 1, 5, none⟩ (.slice Dp a.e.length dp)).setCell ⟨N + 1, 6, none⟩ (.int .i64 b.c.c0)).setCell ⟨N + 1, 7, none⟩ (.int .i64 b.c.c1)).setCell ⟨N + 1, 8, none⟩ (.int .i64 b.c.c2)).setCell ⟨N + 1, 9, none⟩ (.int .i64 b.c.c3)).setCell ⟨N + 1, 10, none⟩ (.slice Aq b.c.l.length cq)).setCell ⟨N + 1, 11, none⟩ (.slice Dq b.e.length dq)).drew) := Below.drew (below_set (below_set (below_set (below_set (below_set (below_set (below_set (below_set (below_set (below_set (below_set (below_set hDd.d.g (by have := hDZ.out.d.n0; omega) _) (by have := hDZ.out.d.n0; omega) _) (by have := hDZ.out.d.n0; omega) _) (by have := hDZ.out.d.n0; omega) _) (by have := hDZ.out.d.n0; omega) _) (by have := hDZ.out.d.n0; omega) _) (by have := hDZ.out.d.n0; omega) _) (by have := hDZ.out.d.n0; omega) _) (by have := hDZ.out.d.n0; omega) _) (by have := hDZ.out.d.n0; omega) _) (by have := hDZ.out.d.n0; omega) _) (by have := hDZ.out.d.n0; omega) _)
                                have hAF : Row (((((((((((((w7.setCell ⟨N + 1, 0, none⟩ (.int .i64 a.c.c0)).setCell ⟨N + 1, 1, none⟩ (.int .i64 a.c.c1)).setCell ⟨N + 1, 2, none⟩ (.int .i64 a.c.c2)).setCell ⟨N + 1, 3, none⟩ (.int .i64 a.c.c3)).setCell ⟨N + 1, 4, none⟩ (.slice Ap a.c.l.length cp)).setCell ⟨N + 1, 5, none⟩ (.slice Dp a.e.length dp)).setCell ⟨N + 1, 6, none⟩ (.int .i64 b.c.c0)).setCell ⟨N + 1, 7, none⟩ (.int .i64 b.c.c1)).setCell ⟨N + 1, 8, none⟩ (.int .i64 b.c.c2)).setCell ⟨N + 1, 9, none⟩ (.int .i64 b.c.c3)).setCell ⟨N + 1, 10, none⟩ (.slice Aq b.c.l.length cq)).setCell ⟨N + 1, 11, none⟩ (.slice Dq b.e.length dq)).drew) Ap a.c.l := ((Row.other (Row.other (Row.other (Row.other (Row.other (Row.other (Row.other (Row.other (Row.other (Row.other (Row.other (Row.other hDd.rA (grown_set _ (N + 1) _ _) (fun p e => by have := hDZ.out.bA p e; intro h; injection h with h; omega)) (grown_set _ (N + 1) _ _) (fun p e => by have := hDZ.out.bA p e; intro h; injection h with h; omega)) (grown_set _ (N + 1) _ _) (fun p e => by have := hDZ.out.bA p e; intro h; injection h with h; omega)) (grown_set _ (N + 1) _ _) (fun p e => by have := hDZ.out.bA p e; intro h; injection h with h; omega)) (grown_set _ (N + 1) _ _) (fun p e => by have := hDZ.out.bA p e; intro h; injection h with h; omega)) (grown_set _ (N + 1) _ _) (fun p e => by have := hDZ.out.bA p e; intro h; injection h with h; omega)) (grown_set _ (N + 1) _ _) (fun p e => by have := hDZ.out.bA p e; intro h; injection h with h; omega)) (grown_set _ (N + 1) _ _) (fun p e => by have := hDZ.out.bA p e; intro h; injection h with h; omega)) (grown_set _ (N + 1) _ _) (fun p e => by have := hDZ.out.bA p e; intro h; injection h with h; omega)) (grown_set _ (N + 1) _ _) (fun p e => by have := hDZ.out.bA p e; intro h; injection h with h; omega)) (grown_set _ (N + 1) _ _) (fun p e => by have := hDZ.out.bA p e; intro h; injection h with h; omega)) (grown_set _ (N + 1) _ _) (fun p e => by have := hDZ.out.bA p e; intro h; injection h with h; omega))).gr (Gr.refl _).drew
                                have hCF : RowC (((((((((((((w7.setCell ⟨N + 1, 0, none⟩ (.int .i64 a.c.c0)).setCell ⟨N + 1, 1, none⟩ (.int .i64 a.c.c1)).setCell ⟨N + 1, 2, none⟩ (.int .i64 a.c.c2)).setCell ⟨N + 1, 3, none⟩ (.int .i64 a.c.c3)).setCell ⟨N + 1, 4, none⟩ (.slice Ap a.c.l.length cp)).setCell ⟨N + 1, 5, none⟩ (.slice Dp a.e.length dp)).setCell ⟨N + 1, 6, none⟩ (.int .i64 b.c.c0)).setCell ⟨N + 1, 7, none⟩ (.int .i64 b.c.c1)).setCell ⟨N + 1, 8, none⟩ (.int .i64 b.c.c2)).setCell ⟨N + 1, 9, none⟩ (.int .i64 b.c.c3)).setCell ⟨N + 1, 10, none⟩ (.slice Aq b.c.l.length cq)).setCell ⟨N + 1, 11, none⟩ (.slice Dq b.e.length dq)).drew) Dp a.e := ((RowG.other (RowG.other (RowG.other (RowG.other (RowG.other (RowG.other (RowG.other (RowG.other (RowG.other (RowG.other (RowG.other (RowG.other hDd.rC (grown_set _ (N + 1) _ _) (fun p e => by have := hDZ.out.bC p e; intro h; injection h with h; omega)) (grown_set _ (N + 1) _ _) (fun p e => by have := hDZ.out.bC p e; intro h; injection h with h; omega)) (grown_set _ (N + 1) _ _) (fun p e => by have := hDZ.out.bC p e; intro h; injection h with h; omega)) (grown_set _ (N + 1) _ _) (fun p e => by have := hDZ.out.bC p e; intro h; injection h with h; omega)) (grown_set _ (N + 1) _ _) (fun p e => by have := hDZ.out.bC p e; intro h; injection h with h; omega)) (grown_set _ (N + 1) _ _) (fun p e => by have := hDZ.out.bC p e; intro h; injection h with h; omega)) (grown_set _ (N + 1) _ _) (fun p e => by have := hDZ.out.bC p e; intro h; injection h with h; omega)) (grown_set _ (N + 1) _ _) (fun p e => by have := hDZ.out.bC p e; intro h; injection h with h; omega)) (grown_set _ (N + 1) _ _) (fun p e => by have := hDZ.out.bC p e; intro h; injection h with h; omega)) (grown_set _ (N + 1) _ _) (fun p e => by have := hDZ.out.bC p e; intro h; injection h with h; omega)) (grown_set _ (N + 1) _ _) (fun p e => by have := hDZ.out.bC p e; intro h; injection h with h; omega)) (grown_set _ (N + 1) _ _) (fun p e => by have := hDZ.out.bC p e; intro h; injection h with h; omega))).gr (Gr.refl _).drew
                                have hEF : Row (((((((((((((w7.setCell ⟨N + 1, 0, none⟩ (.int .i64 a.c.c0)).setCell ⟨N + 1, 1, none⟩ (.int .i64 a.c.c1)).setCell ⟨N + 1, 2, none⟩ (.int .i64 a.c.c2)).setCell ⟨N + 1, 3, none⟩ (.int .i64 a.c.c3)).setCell ⟨N + 1, 4, none⟩ (.slice Ap a.c.l.length cp)).setCell ⟨N + 1, 5, none⟩ (.slice Dp a.e.length dp)).setCell ⟨N + 1, 6, none⟩ (.int .i64 b.c.c0)).setCell ⟨N + 1, 7, none⟩ (.int .i64 b.c.c1)).setCell ⟨N + 1, 8, none⟩ (.int .i64 b.c.c2)).setCell ⟨N + 1, 9, none⟩ (.int .i64 b.c.c3)).setCell ⟨N + 1, 10, none⟩ (.slice Aq b.c.l.length cq)).setCell ⟨N + 1, 11, none⟩ (.slice Dq b.e.length dq)).drew) Aq b.c.l := ((Row.other (Row.other (Row.other (Row.other (Row.other (Row.other (Row.other (Row.other (Row.other (Row.other (Row.other (Row.other hDd.rE (grown_set _ (N + 1) _ _) (fun p e => by have := hDZ.out.bE p e; intro h; injection h with h; omega)) (grown_set _ (N + 1) _ _) (fun p e => by have := hDZ.out.bE p e; intro h; injection h with h; omega)) (grown_set _ (N + 1) _ _) (fun p e => by have := hDZ.out.bE p e; intro h; injection h with h; omega)) (grown_set _ (N + 1) _ _) (fun p e => by have := hDZ.out.bE p e; intro h; injection h with h; omega)) (grown_set _ (N + 1) _ _) (fun p e => by have := hDZ.out.bE p e; intro h; injection h with h; omega)) (grown_set _ (N + 1) _ _) (fun p e => by have := hDZ.out.bE p e; intro h; injection h with h; omega)) (grown_set _ (N + 1) _ _) (fun p e => by have := hDZ.out.bE p e; intro h; injection h with h; omega)) (grown_set _ (N + 1) _ _) (fun p e => by have := hDZ.out.bE p e; intro h; injection h with h; omega)) (grown_set _ (N + 1) _ _) (fun p e => by have := hDZ.out.bE p e; intro h; injection h with h; omega)) (grown_set _ (N + 1) _ _) (fun p e => by have := hDZ.out.bE p e; intro h; injection h with h; omega)) (grown_set _ (N + 1) _ _) (fun p e => by have := hDZ.out.bE p e; intro h; injection h with h; omega)) (grown_set _ (N + 1) _ _) (fun p e => by have := hDZ.out.bE p e; intro h; injection h with h; omega))).gr (Gr.refl _).drew
                                have hDF : RowC (((((((((((((w7.setCell ⟨N + 1, 0, none⟩ (.int .i64 a.c.c0)).setCell ⟨N + 1, 1, none⟩ (.int .i64 a.c.c1)).setCell ⟨N + 1, 2, none⟩ (.int .i64 a.c.c2)).setCell ⟨N + 1, 3, none⟩ (.int .i64 a.c.c3)).setCell ⟨N + 1, 4, none⟩ (.slice Ap a.c.l.length cp)).setCell ⟨N + 1, 5, none⟩ (.slice Dp a.e.length dp)).setCell ⟨N + 1, 6, none⟩ (.int .i64 b.c.c0)).setCell ⟨N + 1, 7, none⟩ (.int .i64 b.c.c1)).setCell ⟨N + 1, 8, none⟩ (.int .i64 b.c.c2)).setCell ⟨N + 1, 9, none⟩ (.int .i64 b.c.c3)).setCell ⟨N + 1, 10, none⟩ (.slice Aq b.c.l.length cq)).setCell ⟨N + 1, 11, none⟩ (.slice Dq b.e.length dq)).drew) Dq b.e := ((RowG.other (RowG.other (RowG.other (RowG.other (RowG.other (RowG.other (RowG.other (RowG.other (RowG.other (RowG.other (RowG.other (RowG.other hDd.rD (grown_set _ (N + 1) _ _) (fun p e => by have := hDZ.out.bD p e; intro h; injection h with h; omega)) (grown_set _ (N + 1) _ _) (fun p e => by have := hDZ.out.bD p e; intro h; injection h with h; omega)) (grown_set _ (N + 1) _ _) (fun p e => by have := hDZ.out.bD p e; intro h; injection h with h; omega)) (grown_set _ (N + 1) _ _) (fun p e => by have := hDZ.out.bD p e; intro h; injection h with h; omega)) (grown_set _ (N + 1) _ _) (fun p e => by have := hDZ.out.bD p e; intro h; injection h with h; omega)) (grown_set _ (N + 1) _ _) (fun p e => by have := hDZ.out.bD p e; intro h; injection h with h; omega)) (grown_set _ (N + 1) _ _) (fun p e => by have := hDZ.out.bD p e; intro h; injection h with h; omega)) (grown_set _ (N + 1) _ _) (fun p e => by have := hDZ.out.bD p e; intro h; injection h with h; omega)) (grown_set _ (N + 1) _ _) (fun p e => by have := hDZ.out.bD p e; intro h; injection h with h; omega)) (grown_set _ (N + 1) _ _) (fun p e => by have := hDZ.out.bD p e; intro h; injection h with h; omega)) (grown_set _ (N + 1) _ _) (fun p e => by have := hDZ.out.bD p e; intro h; injection h with h; omega)) (grown_set _ (N + 1) _ _) (fun p e => by have := hDZ.out.bD p e; intro h; injection h with h; omega))).gr (Gr.refl _).drew
                                have hEnd : Hid (Bx (((((((((((((w7.setCell ⟨N + 1, 0, none⟩ (.int .i64 a.c.c0)).setCell ⟨N + 1, 1, none⟩ (.int .i64 a.c.c1)).setCell ⟨N + 1, 2, none⟩ (.int .i64 a.c.c2)).setCell ⟨N + 1, 3, none⟩ (.int .i64 a.c.c3)).setCell ⟨N + 1, 4, none⟩ (.slice Ap a.c.l.length cp)).setCell ⟨N + 1, 5, none⟩ (.slice Dp a.e.length dp)).setCell ⟨N + 1, 6, none⟩ (.int .i64 b.c.c0)).setCell ⟨N + 1, 7, none⟩ (.int .i64 b.c.c1)).setCell ⟨N + 1, 8, none⟩ (.int .i64 b.c.c2)).setCell ⟨N + 1, 9, none⟩ (.int .i64 b.c.c3)).setCell ⟨N + 1, 10, none⟩ (.slice Aq b.c.l.length cq)).setCell ⟨N + 1, 11, none⟩ (.slice Dq b.e.length dq)).drew) (N + 1) [.int .i64 a.c.c0, .int .i64 a.c.c1, .int .i64 a.c.c2, .int .i64 a.c.c3, .slice Ap a.c.l.length cp, .slice Dp a.e.length dp, .int .i64 b.c.c0, .int .i64 b.c.c1, .int .i64 b.c.c2, .int .i64 b.c.c3, .slice Aq b.c.l.length cq, .slice Dq b.e.length dq] ∧ Below w.heap.size w (((((((((((((w7.setCell ⟨N + 1, 0, none⟩ (.int .i64 a.c.c0)).setCell ⟨N + 1, 1, none⟩ (.int .i64 a.c.c1)).setCell ⟨N + 1, 2, none⟩ (.int .i64 a.c.c2)).setCell ⟨N + 1, 3, none⟩ (.int .i64 a.c.c3)).setCell ⟨N + 1, 4, none⟩ (.slice Ap a.c.l.length cp)).setCell ⟨N + 1, 5, none⟩ (.slice Dp a.e.length dp)).setCell ⟨N + 1, 6, none⟩ (.int .i64 b.c.c0)).setCell ⟨N + 1, 7, none⟩ (.int .i64 b.c.c1)).setCell ⟨N + 1, 8, none⟩ (.int .i64 b.c.c2)).setCell ⟨N + 1, 9, none⟩ (.int .i64 b.c.c3)).setCell ⟨N + 1, 10, none⟩ (.slice Aq b.c.l.length cq)).setCell ⟨N + 1, 11, none⟩ (.slice Dq b.e.length dq)).drew) ∧ Row (((((((((((((w7.setCell ⟨N + 1, 0, none⟩ (.int .i64 a.c.c0)).setCell ⟨N + 1, 1, none⟩ (.int .i64 a.c.c1)).setCell ⟨N + 1, 2, none⟩ (.int .i64 a.c.c2)).setCell ⟨N + 1, 3, none⟩ (.int .i64 a.c.c3)).setCell ⟨N + 1, 4, none⟩ (.slice Ap a.c.l.length cp)).setCell ⟨N + 1, 5, none⟩ (.slice Dp a.e.length dp)).setCell ⟨N + 1, 6, none⟩ (.int .i64 b.c.c0)).setCell ⟨N + 1, 7, none⟩ (.int .i64 b.c.c1)).setCell ⟨N + 1, 8, none⟩ (.int .i64 b.c.c2)).setCell ⟨N + 1, 9, none⟩ (.int .i64 b.c.c3)).setCell ⟨N + 1, 10, none⟩ (.slice Aq b.c.l.length cq)).setCell ⟨N + 1, 11, none⟩ (.slice Dq b.e.length dq)).drew) Ap a.c.l ∧ RowC (((((((((((((w7.setCell ⟨N + 1, 0, none⟩ (.int .i64 a.c.c0)).setCell ⟨N + 1, 1, none⟩ (.int .i64 a.c.c1)).setCell ⟨N + 1, 2, none⟩ (.int .i64 a.c.c2)).setCell ⟨N + 1, 3, none⟩ (.int .i64 a.c.c3)).setCell ⟨N + 1, 4, none⟩ (.slice Ap a.c.l.length cp)).setCell ⟨N + 1, 5, none⟩ (.slice Dp a.e.length dp)).setCell ⟨N + 1, 6, none⟩ (.int .i64 b.c.c0)).setCell ⟨N + 1, 7, none⟩ (.int .i64 b.c.c1)).setCell ⟨N + 1, 8, none⟩ (.int .i64 b.c.c2)).setCell ⟨N + 1, 9, none⟩ (.int .i64 b.c.c3)).setCell ⟨N + 1, 10, none⟩ (.slice Aq b.c.l.length cq)).setCell ⟨N + 1, 11, none⟩ (.slice Dq b.e.length dq)).drew) Dp a.e ∧ Row (((((((((((((w7.setCell ⟨N + 1, 0, none⟩ (.int .i64 a.c.c0)).setCell ⟨N + 1, 1, none⟩ (.int .i64 a.c.c1)).setCell ⟨N + 1, 2, none⟩ (.int .i64 a.c.c2)).setCell ⟨N + 1, 3, none⟩ (.int .i64 a.c.c3)).setCell ⟨N + 1, 4, none⟩ (.slice Ap a.c.l.length cp)).setCell ⟨N + 1, 5, none⟩ (.slice Dp a.e.length dp)).setCell ⟨N + 1, 6, none⟩ (.int .i64 b.c.c0)).setCell ⟨N + 1, 7, none⟩ (.int .i64 b.c.c1)).setCell ⟨N + 1, 8, none⟩ (.int .i64 b.c.c2)).setCell ⟨N + 1, 9, none⟩ (.int .i64 b.c.c3)).setCell ⟨N + 1, 10, none⟩ (.slice Aq b.c.l.length cq)).setCell ⟨N + 1, 11, none⟩ (.slice Dq b.e.length dq)).drew) Aq b.c.l ∧ RowC (((((((((((((w7.setCell ⟨N + 1, 0, none⟩ (.int .i64 a.c.c0)).setCell ⟨N + 1, 1, none⟩ (.int .i64 a.c.c1)).setCell ⟨N + 1, 2, none⟩ (.int .i64 a.c.c2)).setCell ⟨N + 1, 3, none⟩ (.int .i64 a.c.c3)).setCell ⟨N + 1, 4, none⟩ (.slice Ap a.c.l.length cp)).setCell ⟨N + 1, 5, none⟩ (.slice Dp a.e.length dp)).setCell ⟨N + 1, 6, none⟩ (.int .i64 b.c.c0)).setCell ⟨N + 1, 7, none⟩ (.int .i64 b.c.c1)).setCell ⟨N + 1, 8, none⟩ (.int .i64 b.c.c2)).setCell ⟨N + 1, 9, none⟩ (.int .i64 b.c.c3)).setCell ⟨N + 1, 10, none⟩ (.slice Aq b.c.l.length cq)).setCell ⟨N + 1, 11, none⟩ (.slice Dq b.e.length dq)).drew) Dq b.e) := ⟨hXF, hBF, hAF, hCF, hEF, hDF⟩
                                clear hXF hBF hAF hCF hEF hDF hDd i3 hDZ hF7
                                go_wp2_with fail
                                refine wp_region_noPanic ?_
                                refine wp_region_held_drew (S := (fun w' => w'.cell? ⟨N + 5, 0, none⟩ = some (.int .i64 a.c.c0) ∧ w'.cell? ⟨N + 5, 1, none⟩ = some (.int .i64 a.c.c1) ∧ w'.cell? ⟨N + 5, 2, none⟩ = some (.int .i64 a.c.c2) ∧ w'.cell? ⟨N + 5, 3, none⟩ = some (.int .i64 a.c.c3) ∧ w'.cell? ⟨N + 5, 4, none⟩ = some (.slice Ap a.c.l.length cp) ∧ w'.cell? ⟨N + 5, 5, none⟩ = some (.slice Dp a.e.length dp) ∧ w'.cell? ⟨N + 5, 6, none⟩ = some (.int .i64 b.c.c0) ∧ w'.cell? ⟨N + 5, 7, none⟩ = some (.int .i64 b.c.c1) ∧ w'.cell? ⟨N + 5, 8, none⟩ = some (.int .i64 b.c.c2) ∧ w'.cell? ⟨N + 5, 9, none⟩ = some (.int .i64 b.c.c3) ∧ w'.cell? ⟨N + 5, 10, none⟩ = some (.slice Aq b.c.l.length cq) ∧ w'.cell? ⟨N + 5, 11, none⟩ = some (.slice Dq b.e.length dq) ∧ w'.cell? ⟨N + 2, 0, none⟩ = some (.int .i64 at_))) (by kernel_rfl) (hKp.out _ hPS.out) (fun hHeld => ?_)
                                refine wpAnyH_take (i := 0) (oi := ?oio1) (v := ?vo1) ?hopo1 ?hso1 ?hfo1 ?hro1 ?hQo1 ?hyo1 (by assumption) ?resto1
                                case hopo1 => (simp only [List.getElem?_toArray, List.getElem?_cons_zero]; rfl)
                                case hso1 => kernel_rfl
                                case hfo1 => kernel_rfl
                                case hro1 => kernel_rfl
                                case hQo1 => exact fun _ _ _ h => h
                                case hyo1 => (refine Or.inl ⟨by rfl, ?_⟩; intro w hSw; (try dsimp only at hSw); go_simp <;> with_reducible rfl)
                                try simp only [Act.put, List.setIfInBounds_toArray, List.set_cons_zero, List.set_cons_succ]
                                refine wpAnyH_take (i := 1) (oi := ?oio2) (v := ?vo2) ?hopo2 ?hso2 ?hfo2 ?hro2 ?hQo2 ?hyo2 (by assumption) ?resto2
                                case hopo2 => (simp only [List.getElem?_toArray, List.getElem?_cons_zero, List.getElem?_cons_succ]; rfl)
                                case hso2 => kernel_rfl
                                case hfo2 => kernel_rfl
                                case hro2 => kernel_rfl
                                case hQo2 => exact fun _ _ _ h => h
                                case hyo2 => (refine Or.inl ⟨by rfl, ?_⟩; intro w hSw; (try dsimp only at hSw); go_simp <;> with_reducible rfl)
                                try simp only [Act.put, List.setIfInBounds_toArray, List.set_cons_zero, List.set_cons_succ]
                                refine wpAnyH_take (i := 2) (oi := ?oio3) (v := ?vo3) ?hopo3 ?hso3 ?hfo3 ?hro3 ?hQo3 ?hyo3 (by assumption) ?resto3
                                case hopo3 => (simp only [List.getElem?_toArray, List.getElem?_cons_zero, List.getElem?_cons_succ]; rfl)
                                case hso3 => kernel_rfl
                                case hfo3 => kernel_rfl
                                case hro3 => kernel_rfl
                                case hQo3 => exact fun _ _ _ h => h
                                case hyo3 => (refine Or.inl ⟨by rfl, ?_⟩; intro w hSw; (try dsimp only at hSw); go_simp <;> with_reducible rfl)
                                try simp only [Act.put, List.setIfInBounds_toArray, List.set_cons_zero, List.set_cons_succ]
                                refine wpAnyH_ready (rs := [3]) (by kernel_rfl) (by simp) ?_
                                refine AllReadyH.cons (o := ?oio4) ?hopo4 (fun K hK => ?stepo4) ?moreo4
                                case hopo4 => (simp only [List.getElem?_toArray, List.getElem?_cons_zero, List.getElem?_cons_succ]; rfl)
                                case moreo4 => exact AllReadyH.nil
                                go_simp
                                refine hK.out _ _ ?_ (fun hHeld => ?_)
                                · (try dsimp only); first | with_reducible exact hKp.out _ hPS.out | exact hKp.out _ (PS.dr ((((((((((((hPS7.out.set 0 _).set 1 _).set 2 _).set 3 _).set 4 _).set 5 _).set 6 _).set 7 _).set 8 _).set 9 _).set 10 _).set 11 _))
                                clear hK K
                                try simp only [Act.put, List.setIfInBounds_toArray, List.set_cons_zero, List.set_cons_succ]
                                refine wpAnyH_take (i := 4) (oi := ?oio5) (v := ?vo5) ?hopo5 ?hso5 ?hfo5 ?hro5 ?hQo5 ?hyo5 (by assumption) ?resto5
                                case hopo5 => (simp only [List.getElem?_toArray, List.getElem?_cons_zero, List.getElem?_cons_succ]; rfl)
                                case hso5 => kernel_rfl
                                case hfo5 => kernel_rfl
                                case hro5 => kernel_rfl
                                case hQo5 => exact fun _ _ _ h => h
                                case hyo5 => (refine Or.inl ⟨by rfl, ?_⟩; intro w hSw; (try dsimp only at hSw); go_simp <;> with_reducible rfl)
                                try simp only [Act.put, List.setIfInBounds_toArray, List.set_cons_zero, List.set_cons_succ]
                                refine wpAnyH_take (i := 5) (oi := ?oio6) (v := ?vo6) ?hopo6 ?hso6 ?hfo6 ?hro6 ?hQo6 ?hyo6 (by assumption) ?resto6
                                case hopo6 => (simp only [List.getElem?_toArray, List.getElem?_cons_zero, List.getElem?_cons_succ]; rfl)
                                case hso6 => kernel_rfl
                                case hfo6 => kernel_rfl
                                case hro6 => kernel_rfl
                                case hQo6 => exact fun _ _ _ h => h
                                case hyo6 => (refine Or.inl ⟨by rfl, ?_⟩; intro w hSw; (try dsimp only at hSw); go_simp <;> with_reducible rfl)
                                try simp only [Act.put, List.setIfInBounds_toArray, List.set_cons_zero, List.set_cons_succ]
                                refine wpAnyH_done (by kernel_rfl) ?_ _
                                refine NoPanic.normal ?_
                                generalize (((((((((((((w7.setCell ⟨N + 1, 0, none⟩ (.int .i64 a.c.c0)).setCell ⟨N + 1, 1, none⟩ (.int .i64 a.c.c1)).setCell ⟨N + 1, 2, none⟩ (.int .i64 a.c.c2)).setCell ⟨N + 1, 3, none⟩ (.int .i64 a.c.c3)).setCell ⟨N + 1, 4, none⟩ (.slice Ap a.c.l.length cp)).setCell ⟨N + 1, 5, none⟩ (.slice Dp a.e.length dp)).setCell ⟨N + 1, 6, none⟩ (.int .i64 b.c.c0)).setCell ⟨N + 1, 7, none⟩ (.int .i64 b.c.c1)).setCell ⟨N + 1, 8, none⟩ (.int .i64 b.c.c2)).setCell ⟨N + 1, 9, none⟩ (.int .i64 b.c.c3)).setCell ⟨N + 1, 10, none⟩ (.slice Aq b.c.l.length cq)).setCell ⟨N + 1, 11, none⟩ (.slice Dq b.e.length dq)).drew) = WF at hEnd ⊢
                                obtain ⟨hXF, hBF, hAF, hCF, hEF, hDF⟩ := hEnd.out
                                go_wp2
                                have hwr := hwrH.out
                                have r0 : WF.cell? ⟨N + 1, 0, none⟩ = some (.int .i64 a.c.c0) := hXF.c 0 (by simp)
                                have r1 : WF.cell? ⟨N + 1, 1, none⟩ = some (.int .i64 a.c.c1) := hXF.c 1 (by simp)
                                have r2 : WF.cell? ⟨N + 1, 2, none⟩ = some (.int .i64 a.c.c2) := hXF.c 2 (by simp)
                                have r3 : WF.cell? ⟨N + 1, 3, none⟩ = some (.int .i64 a.c.c3) := hXF.c 3 (by simp)
                                have r4 : WF.cell? ⟨N + 1, 4, none⟩ = some (.slice Ap a.c.l.length cp) := hXF.c 4 (by simp)
                                have r5 : WF.cell? ⟨N + 1, 5, none⟩ = some (.slice Dp a.e.length dp) := hXF.c 5 (by simp)
                                have r6 : WF.cell? ⟨N + 1, 6, none⟩ = some (.int .i64 b.c.c0) := hXF.c 6 (by simp)
                                have r7 : WF.cell? ⟨N + 1, 7, none⟩ = some (.int .i64 b.c.c1) := hXF.c 7 (by simp)
                                have r8 : WF.cell? ⟨N + 1, 8, none⟩ = some (.int .i64 b.c.c2) := hXF.c 8 (by simp)
                                have r9 : WF.cell? ⟨N + 1, 9, none⟩ = some (.int .i64 b.c.c3) := hXF.c 9 (by simp)
                                have r10 : WF.cell? ⟨N + 1, 10, none⟩ = some (.slice Aq b.c.l.length cq) := hXF.c 10 (by simp)
                                have r11 : WF.cell? ⟨N + 1, 11, none⟩ = some (.slice Dq b.e.length dq) := hXF.c 11 (by simp)
                                refine bodyPost_ret (v := .tuple #[.agg #[.int .i64 a.c.c0, .int .i64 a.c.c1, .int .i64 a.c.c2, .int .i64 a.c.c3, .slice Ap a.c.l.length cp, .slice Dp a.e.length dp, .int .i64 b.c.c0, .int .i64 b.c.c1, .int .i64 b.c.c2, .int .i64 b.c.c3, .slice Aq b.c.l.length cq, .slice Dq b.e.length dq], .int .i64 ((at_ : Int) + 4), .int .i64 0]) (by simp [results, Try.results14, go_sem, r0, r1, r2, r3, r4, r5, r6, r7, r8, r9, r10, r11, hwr]) rfl ⟨a, b, Ap, cp, Dp, dp, Aq, cq, Dq, dq, (at_ : Int) + 4, 0, rfl, ?_⟩
                                unfold decA decB decN decE
                                rw [hyes.out, hat.out]
                                exact ⟨⟨hab.out.1, hab.out.2.1, rfl, rfl⟩, hAF, hCF, hEF, hDF, by first | exact hBF | (rw [← hN]; exact hBF)⟩
                              · have hEBb : (EB != 0) = true := by simpa using hEB0
                                have hno : Hid (decOk x = false) := by show _ = _; rw [hdec.out]; simp [hEB0]
                                have hDZ : Hid (DF w w7 N x a b Ap cp Dp dp Aq cq Dq dq at_ true) := hF7
                                clear hF7 hdec
                                have z0 : w7.cell? ⟨N + 1, 0, none⟩ = some (.int .i64 0) := hDZ.out.zb.c 0 (by simp)
                                have y0 := hDZ.out.zb.f 0
                                have z1 : w7.cell? ⟨N + 1, 1, none⟩ = some (.int .i64 0) := hDZ.out.zb.c 1 (by simp)
                                have y1 := hDZ.out.zb.f 1
                                have z2 : w7.cell? ⟨N + 1, 2, none⟩ = some (.int .i64 0) := hDZ.out.zb.c 2 (by simp)
                                have y2 := hDZ.out.zb.f 2
                                have z3 : w7.cell? ⟨N + 1, 3, none⟩ = some (.int .i64 0) := hDZ.out.zb.c 3 (by simp)
                                have y3 := hDZ.out.zb.f 3
                                have z4 : w7.cell? ⟨N + 1, 4, none⟩ = some (.slice none 0 0) := hDZ.out.zb.c 4 (by simp)
                                have y4 := hDZ.out.zb.f 4
                                have z5 : w7.cell? ⟨N + 1, 5, none⟩ = some (.slice none 0 0) := hDZ.out.zb.c 5 (by simp)
                                have y5 := hDZ.out.zb.f 5
                                have z6 : w7.cell? ⟨N + 1, 6, none⟩ = some (.int .i64 0) := hDZ.out.zb.c 6 (by simp)
                                have y6 := hDZ.out.zb.f 6
                                have z7 : w7.cell? ⟨N + 1, 7, none⟩ = some (.int .i64 0) := hDZ.out.zb.c 7 (by simp)
                                have y7 := hDZ.out.zb.f 7
                                have z8 : w7.cell? ⟨N + 1, 8, none⟩ = some (.int .i64 0) := hDZ.out.zb.c 8 (by simp)
                                have y8 := hDZ.out.zb.f 8
                                have z9 : w7.cell? ⟨N + 1, 9, none⟩ = some (.int .i64 0) := hDZ.out.zb.c 9 (by simp)
                                have y9 := hDZ.out.zb.f 9
                                have z10 : w7.cell? ⟨N + 1, 10, none⟩ = some (.slice none 0 0) := hDZ.out.zb.c 10 (by simp)
                                have y10 := hDZ.out.zb.f 10
                                have z11 : w7.cell? ⟨N + 1, 11, none⟩ = some (.slice none 0 0) := hDZ.out.zb.c 11 (by simp)
                                have y11 := hDZ.out.zb.f 11
                                go_wp2
                                have hXF := ((((((((((((hDZ.out.zb.put (i := 0) (by simp) (.int .i64 0)).put (i := 1) (by simp) (.int .i64 0)).put (i := 2) (by simp) (.int .i64 0)).put (i := 3) (by simp) (.int .i64 0)).put (i := 4) (by simp) (.slice none 0 0)).put (i := 5) (by simp) (.slice none 0 0)).put (i := 6) (by simp) (.int .i64 0)).put (i := 7) (by simp) (.int .i64 0)).put (i := 8) (by simp) (.int .i64 0)).put (i := 9) (by simp) (.int .i64 0)).put (i := 10) (by simp) (.slice none 0 0)).put (i := 11) (by simp) (.slice none 0 0))
                                have hBF : Below w.heap.size w ((((((((((((w7.setCell ⟨N + 1, 0, none⟩ (.int .i64 0)).setCell ⟨N + 1, 1, none⟩ (.int .i64 0)).setCell ⟨N + 1, 2, none⟩ (.int .i64 0)).setCell ⟨N + 1, 3, none⟩ (.int .i64 0)).setCell ⟨N + 1, 4, none⟩ (.slice none 0 0)).setCell ⟨N + 1, 5, none⟩ (.slice none 0 0)).setCell ⟨N + 1, 6, none⟩ (.int .i64 0)).setCell ⟨N + 1, 7, none⟩ (.int .i64 0)).setCell ⟨N + 1, 8, none⟩ (.int .i64 0)).setCell ⟨N + 1, 9, none⟩ (.int .i64 0)).setCell ⟨N + 1, 10, none⟩ (.slice none 0 0)).setCell ⟨N + 1, 11, none⟩ (.slice none 0 0)) := (below_set (below_set (below_set (below_set (below_set (below_set (below_set (below_set (below_set (below_set (below_set (below_set hDZ.out.d.g (by have := hDZ.out.d.n0; omega) _) (by have := hDZ.out.d.n0; omega) _) (by have := hDZ.out.d.n0; omega) _) (by have := hDZ.out.d.n0; omega) _) (by have := hDZ.out.d.n0; omega) _) (by have := hDZ.out.d.n0; omega) _) (by have := hDZ.out.d.n0; omega) _) (by have := hDZ.out.d.n0; omega) _) (by have := hDZ.out.d.n0; omega) _) (by have := hDZ.out.d.n0; omega) _) (by have := hDZ.out.d.n0; omega) _) (by have := hDZ.out.d.n0; omega) _)
                                generalize ((((((((((((w7.setCell ⟨N + 1, 0, none⟩ (.int .i64 0)).setCell ⟨N + 1, 1, none⟩ (.int .i64 0)).setCell ⟨N + 1, 2, none⟩ (.int .i64 0)).setCell ⟨N + 1, 3, none⟩ (.int .i64 0)).setCell ⟨N + 1, 4, none⟩ (.slice none 0 0)).setCell ⟨N + 1, 5, none⟩ (.slice none 0 0)).setCell ⟨N + 1, 6, none⟩ (.int .i64 0)).setCell ⟨N + 1, 7, none⟩ (.int .i64 0)).setCell ⟨N + 1, 8, none⟩ (.int .i64 0)).setCell ⟨N + 1, 9, none⟩ (.int .i64 0)).setCell ⟨N + 1, 10, none⟩ (.slice none 0 0)).setCell ⟨N + 1, 11, none⟩ (.slice none 0 0)) = WF at hXF hBF ⊢
                                have r0 : WF.cell? ⟨N + 1, 0, none⟩ = some (.int .i64 0) := hXF.c 0 (by simp)
                                have r1 : WF.cell? ⟨N + 1, 1, none⟩ = some (.int .i64 0) := hXF.c 1 (by simp)
                                have r2 : WF.cell? ⟨N + 1, 2, none⟩ = some (.int .i64 0) := hXF.c 2 (by simp)
                                have r3 : WF.cell? ⟨N + 1, 3, none⟩ = some (.int .i64 0) := hXF.c 3 (by simp)
                                have r4 : WF.cell? ⟨N + 1, 4, none⟩ = some (.slice none 0 0) := hXF.c 4 (by simp)
                                have r5 : WF.cell? ⟨N + 1, 5, none⟩ = some (.slice none 0 0) := hXF.c 5 (by simp)
                                have r6 : WF.cell? ⟨N + 1, 6, none⟩ = some (.int .i64 0) := hXF.c 6 (by simp)
                                have r7 : WF.cell? ⟨N + 1, 7, none⟩ = some (.int .i64 0) := hXF.c 7 (by simp)
                                have r8 : WF.cell? ⟨N + 1, 8, none⟩ = some (.int .i64 0) := hXF.c 8 (by simp)
                                have r9 : WF.cell? ⟨N + 1, 9, none⟩ = some (.int .i64 0) := hXF.c 9 (by simp)
                                have r10 : WF.cell? ⟨N + 1, 10, none⟩ = some (.slice none 0 0) := hXF.c 10 (by simp)
                                have r11 : WF.cell? ⟨N + 1, 11, none⟩ = some (.slice none 0 0) := hXF.c 11 (by simp)
                                refine bodyPost_ret (v := .tuple #[.agg #[.int .i64 0, .int .i64 0, .int .i64 0, .int .i64 0, .slice none 0 0, .slice none 0 0, .int .i64 0, .int .i64 0, .int .i64 0, .int .i64 0, .slice none 0 0, .slice none 0 0], .int .i64 0, .int .i64 5]) (by simp [results, Try.results14, go_sem, r0, r1, r2, r3, r4, r5, r6, r7, r8, r9, r10, r11]) rfl ⟨zeroTab, zeroTab, none, 0, none, 0, none, 0, none, 0, 0, 5, rfl, ?_⟩
                                unfold decA decB decN decE
                                rw [hno.out]
                                exact ⟨⟨rfl, rfl, rfl, rfl⟩, Or.inl rfl, Or.inl rfl, Or.inl rfl, Or.inl rfl, by first | exact hBF | (rw [← hN]; exact hBF)⟩
                            · have hEAb : (EA != 0) = true := by simpa using hEA0
                              have hno : Hid (decOk x = false) := by show _ = _; rw [hdec.out]; simp [hEA0]
                              have hDZ : Hid (DF w w6 N x a b Ap cp Dp dp Aq cq Dq dq at_ true) := hF6
                              clear hF6 hdec hTb
                              have z0 : w6.cell? ⟨N + 1, 0, none⟩ = some (.int .i64 0) := hDZ.out.zb.c 0 (by simp)
                              have y0 := hDZ.out.zb.f 0
                              have z1 : w6.cell? ⟨N + 1, 1, none⟩ = some (.int .i64 0) := hDZ.out.zb.c 1 (by simp)
                              have y1 := hDZ.out.zb.f 1
                              have z2 : w6.cell? ⟨N + 1, 2, none⟩ = some (.int .i64 0) := hDZ.out.zb.c 2 (by simp)
                              have y2 := hDZ.out.zb.f 2
                              have z3 : w6.cell? ⟨N + 1, 3, none⟩ = some (.int .i64 0) := hDZ.out.zb.c 3 (by simp)
                              have y3 := hDZ.out.zb.f 3
                              have z4 : w6.cell? ⟨N + 1, 4, none⟩ = some (.slice none 0 0) := hDZ.out.zb.c 4 (by simp)
                              have y4 := hDZ.out.zb.f 4
                              have z5 : w6.cell? ⟨N + 1, 5, none⟩ = some (.slice none 0 0) := hDZ.out.zb.c 5 (by simp)
                              have y5 := hDZ.out.zb.f 5
                              have z6 : w6.cell? ⟨N + 1, 6, none⟩ = some (.int .i64 0) := hDZ.out.zb.c 6 (by simp)
                              have y6 := hDZ.out.zb.f 6
                              have z7 : w6.cell? ⟨N + 1, 7, none⟩ = some (.int .i64 0) := hDZ.out.zb.c 7 (by simp)
                              have y7 := hDZ.out.zb.f 7
                              have z8 : w6.cell? ⟨N + 1, 8, none⟩ = some (.int .i64 0) := hDZ.out.zb.c 8 (by simp)
                              have y8 := hDZ.out.zb.f 8
                              have z9 : w6.cell? ⟨N + 1, 9, none⟩ = some (.int .i64 0) := hDZ.out.zb.c 9 (by simp)
                              have y9 := hDZ.out.zb.f 9
                              have z10 : w6.cell? ⟨N + 1, 10, none⟩ = some (.slice none 0 0) := hDZ.out.zb.c 10 (by simp)
                              have y10 := hDZ.out.zb.f 10
                              have z11 : w6.cell? ⟨N + 1, 11, none⟩ = some (.slice none 0 0) := hDZ.out.zb.c 11 (by simp)
                              have y11 := hDZ.out.zb.f 11
                              go_wp2
                              have hXF := ((((((((((((hDZ.out.zb.put (i := 0) (by simp) (.int .i64 0)).put (i := 1) (by simp) (.int .i64 0)).put (i := 2) (by simp) (.int .i64 0)).put (i := 3) (by simp) (.int .i64 0)).put (i := 4) (by simp) (.slice none 0 0)).put (i := 5) (by simp) (.slice none 0 0)).put (i := 6) (by simp) (.int .i64 0)).put (i := 7) (by simp) (.int .i64 0)).put (i := 8) (by simp) (.int .i64 0)).put (i := 9) (by simp) (.int .i64 0)).put (i := 10) (by simp) (.slice none 0 0)).put (i := 11) (by simp) (.slice none 0 0))
                              have hBF : Below w.heap.size w ((((((((((((w6.setCell ⟨N + 1, 0, none⟩ (.int .i64 0)).setCell ⟨N + 1, 1, none⟩ (.int .i64 0)).setCell ⟨N + 1, 2, none⟩ (.int .i64 0)).setCell ⟨N + 1, 3, none⟩ (.int .i64 0)).setCell ⟨N + 1, 4, none⟩ (.slice none 0 0)).setCell ⟨N + 1, 5, none⟩ (.slice none 0 0)).setCell ⟨N + 1, 6, none⟩ (.int .i64 0)).setCell ⟨N + 1, 7, none⟩ (.int .i64 0)).setCell ⟨N + 1, 8, none⟩ (.int .i64 0)).setCell ⟨N + 1, 9, none⟩ (.int .i64 0)).setCell ⟨N + 1, 10, none⟩ (.slice none 0 0)).setCell ⟨N + 1, 11, none⟩ (.slice none 0 0)) := (below_set (below_set (below_set (below_set (below_set (below_set (below_set (below_set (below_set (below_set (below_set (below_set hDZ.out.d.g (by have := hDZ.out.d.n0; omega) _) (by have := hDZ.out.d.n0; omega) _) (by have := hDZ.out.d.n0; omega) _) (by have := hDZ.out.d.n0; omega) _) (by have := hDZ.out.d.n0; omega) _) (by have := hDZ.out.d.n0; omega) _) (by have := hDZ.out.d.n0; omega) _) (by have := hDZ.out.d.n0; omega) _) (by have := hDZ.out.d.n0; omega) _) (by have := hDZ.out.d.n0; omega) _) (by have := hDZ.out.d.n0; omega) _) (by have := hDZ.out.d.n0; omega) _)
                              generalize ((((((((((((w6.setCell ⟨N + 1, 0, none⟩ (.int .i64 0)).setCell ⟨N + 1, 1, none⟩ (.int .i64 0)).setCell ⟨N + 1, 2, none⟩ (.int .i64 0)).setCell ⟨N + 1, 3, none⟩ (.int .i64 0)).setCell ⟨N + 1, 4, none⟩ (.slice none 0 0)).setCell ⟨N + 1, 5, none⟩ (.slice none 0 0)).setCell ⟨N + 1, 6, none⟩ (.int .i64 0)).setCell ⟨N + 1, 7, none⟩ (.int .i64 0)).setCell ⟨N + 1, 8, none⟩ (.int .i64 0)).setCell ⟨N + 1, 9, none⟩ (.int .i64 0)).setCell ⟨N + 1, 10, none⟩ (.slice none 0 0)).setCell ⟨N + 1, 11, none⟩ (.slice none 0 0)) = WF at hXF hBF ⊢
                              have r0 : WF.cell? ⟨N + 1, 0, none⟩ = some (.int .i64 0) := hXF.c 0 (by simp)
                              have r1 : WF.cell? ⟨N + 1, 1, none⟩ = some (.int .i64 0) := hXF.c 1 (by simp)
                              have r2 : WF.cell? ⟨N + 1, 2, none⟩ = some (.int .i64 0) := hXF.c 2 (by simp)
                              have r3 : WF.cell? ⟨N + 1, 3, none⟩ = some (.int .i64 0) := hXF.c 3 (by simp)
                              have r4 : WF.cell? ⟨N + 1, 4, none⟩ = some (.slice none 0 0) := hXF.c 4 (by simp)
                              have r5 : WF.cell? ⟨N + 1, 5, none⟩ = some (.slice none 0 0) := hXF.c 5 (by simp)
                              have r6 : WF.cell? ⟨N + 1, 6, none⟩ = some (.int .i64 0) := hXF.c 6 (by simp)
                              have r7 : WF.cell? ⟨N + 1, 7, none⟩ = some (.int .i64 0) := hXF.c 7 (by simp)
                              have r8 : WF.cell? ⟨N + 1, 8, none⟩ = some (.int .i64 0) := hXF.c 8 (by simp)
                              have r9 : WF.cell? ⟨N + 1, 9, none⟩ = some (.int .i64 0) := hXF.c 9 (by simp)
                              have r10 : WF.cell? ⟨N + 1, 10, none⟩ = some (.slice none 0 0) := hXF.c 10 (by simp)
                              have r11 : WF.cell? ⟨N + 1, 11, none⟩ = some (.slice none 0 0) := hXF.c 11 (by simp)
                              refine bodyPost_ret (v := .tuple #[.agg #[.int .i64 0, .int .i64 0, .int .i64 0, .int .i64 0, .slice none 0 0, .slice none 0 0, .int .i64 0, .int .i64 0, .int .i64 0, .int .i64 0, .slice none 0 0, .slice none 0 0], .int .i64 0, .int .i64 5]) (by simp [results, Try.results14, go_sem, r0, r1, r2, r3, r4, r5, r6, r7, r8, r9, r10, r11]) rfl ⟨zeroTab, zeroTab, none, 0, none, 0, none, 0, none, 0, 0, 5, rfl, ?_⟩
                              unfold decA decB decN decE
                              rw [hno.out]
                              exact ⟨⟨rfl, rfl, rfl, rfl⟩, Or.inl rfl, Or.inl rfl, Or.inl rfl, Or.inl rfl, by first | exact hBF | (rw [← hN]; exact hBF)⟩
end Go.Proofs.Ytbhhpijidbhipaa
