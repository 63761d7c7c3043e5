/-
  (*reader).table: the next table (gens/mkwtab.py writes it).
-/
import Derived.Test.YtbhhpijidbhipaaWList
import Derived.Laws.EntriesVeiled
namespace Go.Proofs.Ytbhhpijidbhipaa
open Go.RowKit Go.Sort

theorem Row.other {w w' : World} {A : Option Addr} {l : List (Int × Int)} (h : Row w A l) {row : Option Nat} (k : w.grownBy w' row) (hne : ∀ a, A = some a → row ≠ some a.block) : Row w' A l := by
  rcases h with h | ⟨b, off, rfl, hb, hc⟩
  · exact Or.inl h
  · exact Or.inr ⟨b, off, rfl, Nat.lt_of_lt_of_le hb k.size, fun j hj => ⟨(k.cell_far ⟨b, off + j * 2, none⟩ hb (Ne.symm (hne ⟨b, off, none⟩ rfl))).trans (hc j hj).1, (k.cell_far ⟨b, off + j * 2 + 1, none⟩ hb (Ne.symm (hne ⟨b, off, none⟩ rfl))).trans (hc j hj).2⟩⟩
theorem RowG.other {α : Type} {enc : α → List Value} {k : Nat} {w w' : World} {A : Option Addr} {l : List α} (h : RowG enc k w A l) {row : Option Nat} (q : w.grownBy w' row) (hne : ∀ a, A = some a → row ≠ some a.block) : RowG enc k w' A l := by
  rcases h with h | ⟨b, off, rfl, hb, hc⟩
  · exact Or.inl h
  · exact Or.inr ⟨b, off, rfl, Nat.lt_of_lt_of_le hb q.size, fun j hj i hi => (q.cell_far ⟨b, off + j * k + i, none⟩ hb (Ne.symm (hne ⟨b, off, none⟩ rfl))).trans (hc j hj i hi)⟩
/-- The table that is being read: the answer's block, the table's own, the reader. -/
structure TS (w wr : World) (R : Nat) (x : List UInt8) (s : RS) (B : Nat) (P : List Value) : Prop where
  z : Bx wr B [.int .i64 0, .int .i64 0, .int .i64 0, .int .i64 0, .slice none 0 0, .slice none 0 0]
  t : Bx wr (B + 1) P
  r : RdP wr R x s
  g : w.grownBy wr (some R)
  b : w.heap.size = B
  lt : R < B
theorem TS.ask {w wr w1 : World} {R : Nat} {x : List UInt8} {s s1 : RS} {B : Nat} {P : List Value} (h : TS w wr R x s B P) (hr : RdP w1 R x s1) (hg : wr.grownBy w1 (some R)) : TS w w1 R x s1 B P :=
  ⟨h.z.other hg (by have := h.lt; intro e; injection e with e; omega), h.t.other hg (by have := h.lt; intro e; injection e with e; omega), hr, h.g.trans hg, h.b, h.lt⟩
theorem TS.put {w wr : World} {R : Nat} {x : List UInt8} {s : RS} {B : Nat} {P : List Value} (h : TS w wr R x s B P) {i : Nat} (hi : i < P.length) (v : Value) : TS w (wr.setCell ⟨B + 1, i, none⟩ v) R x s B (P.set i v) :=
  ⟨h.z.other (grown_set _ _ _ _) (by intro e; injection e with e; omega), h.t.put hi v, h.r.other (grown_set _ _ _ _) (by have := h.lt; intro e; injection e with e; omega), grown_new h.g (by have := h.b; omega) v, h.b, h.lt⟩
theorem my_natR (s : RS) : ∃ M : Nat, myN s = M ∧ M ≤ 400 := by
  unfold myN
  split
  · rename_i h
    have h2 := (Bool.and_eq_true _ _ ▸ h).2
    simp [inB] at h2
    exact ⟨(nxN s).toNat, by omega, by omega⟩
  · exact ⟨0, rfl, by omega⟩

set_option maxRecDepth 100000 in
set_option maxHeartbeats 4000000 in
theorem rdtable_any (R : Nat) (x : List UInt8) (s : RS) (w : World) (hx : x.length ≤ maxLen) (h : RdP w R x s) :
    Calls Try.prog 27 #[.pointer (some ⟨R, 0, none⟩)] w fun e w' => ∃ (t : Tab) (A : Option Addr) (ca : Nat) (D : Option Addr) (cd : Nat), e = .returned (.agg #[.int .i64 t.c.c0, .int .i64 t.c.c1, .int .i64 t.c.c2, .int .i64 t.c.c3, .slice A t.c.l.length ca, .slice D t.e.length cd]) ∧ Hid (t = tabR s ∧ RdP w' R x (tabS s) ∧ Row w' A t.c.l ∧ RowC w' D t.e ∧ (∀ a, A = some a → w.heap.size ≤ a.block) ∧ (∀ a, D = some a → w.heap.size ≤ a.block) ∧ w.grownBy w' (some R)) := by
  have hmf : ∀ (fn : Fn) (first cap : Array Value) (w : World), (Instr.makeFunc fn first cap).run Try.prog w = .ok (.func fn first cap) w := fun _ _ _ _ => rfl
  obtain ⟨B, hB⟩ : ∃ B, w.heap.size = B := ⟨_, rfl⟩
  obtain ⟨W1, hW1⟩ : ∃ W1, w.alloc (.cells #[.int .i64 0, .int .i64 0, .int .i64 0, .int .i64 0, .slice none 0 0, .slice none 0 0] 28) = W1 := ⟨_, rfl⟩
  obtain ⟨W0, hW0⟩ : ∃ W0, W1.alloc (.cells #[.int .i64 0, .int .i64 0, .int .i64 0, .int .i64 0, .slice none 0 0, .slice none 0 0] 28) = W0 := ⟨_, rfl⟩
  have hs1 : W1.heap.size = B + 1 := by rw [← hW1, ← hB]; simp
  have hX1 : Bx W1 B [.int .i64 0, .int .i64 0, .int .i64 0, .int .i64 0, .slice none 0 0, .slice none 0 0] := by rw [← hW1]; exact Bx.new w _ _ hB
  have hX0 : Bx W0 (B + 1) [.int .i64 0, .int .i64 0, .int .i64 0, .int .i64 0, .slice none 0 0, .slice none 0 0] := by rw [← hW0]; exact Bx.new W1 _ _ hs1
  have g1 : Gr w W1 := by rw [← hW1]; exact (Gr.refl w).alloc _
  have g0 : Gr W1 W0 := by rw [← hW0]; exact (Gr.refl W1).alloc _
  have hT0 : Hid (TS w W0 R x s B [.int .i64 0, .int .i64 0, .int .i64 0, .int .i64 0, .slice none 0 0, .slice none 0 0]) := ⟨hX1.gr g0, hX0, (h.gr g1).gr g0, grown_of_below (g1.trans g0).below _, hB, by have := h.lt; omega⟩
  have hnx : Hid (∀ W t, RdP W R x t → Calls Try.prog 36 #[.pointer (some ⟨R, 0, none⟩)] W fun e w' => e = .returned (.int .i64 (nxN t)) ∧ RdP w' R x (nxS t) ∧ W.grownBy w' (some R)) := fun W t hp => rdnext_any R x t W hx hp
  have hct : Hid (∀ W t, RdP W R x t → Calls Try.prog 38 #[.pointer (some ⟨R, 0, none⟩)] W fun e w' => e = .returned (.int .i64 (myN t)) ∧ RdP w' R x (myS t) ∧ W.grownBy w' (some R)) := fun W t hp => count_any R x t W hx hp
  have hld : Hid (∀ W t n, n ≤ 400 → RdP W R x t → Calls Try.prog 37 #[.int .i64 (n : Nat), .func (.func 39) #[.pointer (some ⟨R, 0, none⟩)] #[]] W fun e w' => ∃ v, e = .returned v ∧ Hid (Own w' W.heap.size v (dotsL n t) ∧ RdP w' R x (dotsS n t) ∧ W.grownBy w' (some R))) := fun W t n hn hp => listD_any R x t n W hx hn hp
  have hlc : Hid (∀ W t n, n ≤ 400 → RdP W R x t → Calls Try.prog 40 #[.int .i64 (n : Nat), .func (.func 41) #[.pointer (some ⟨R, 0, none⟩)] #[]] W fun e w' => ∃ v, e = .returned v ∧ Hid (OwnC w' W.heap.size v (celsL n t) ∧ RdP w' R x (celsS n t) ∧ W.grownBy w' (some R))) := fun W t n hn hp => listC_any R x t n W hx hn hp
  have hsz : W1.heap.size = B + 1 := hs1
  clear h hX1 hX0 g1 g0 hs1
  go_enter Try.func27, Try.ntmps27
  go_wp2
  refine wp_loop_rounds 5 ?_
  rw [rounds_succ]
  have hC := hnx.out W0 _ hT0.out.r
  have hCH : Hid _ := hC
  obtain ⟨n0, hn0⟩ : ∃ n, nxN (s) = n := ⟨_, rfl⟩
  rw [hn0] at hCH
  clear hC
  go_wp2_with fail
  refine Calls.mono (show Calls _ _ _ _ _ from hCH.out) ?_
  rintro e v0 ⟨rfl, hr, hg⟩
  have hU : Hid (TS w v0 R x (nxS (s)) B [.int .i64 0, .int .i64 0, .int .i64 0, .int .i64 0, .slice none 0 0, .slice none 0 0]) := hT0.out.ask hr hg
  have c : v0.cell? ⟨B + 1, 0, none⟩ = some (.int .i64 0) := hU.out.t.c 0 (by simp)
  have f := hU.out.t.f 0
  have hV : Hid (TS w (v0.setCell ⟨B + 1, 0, none⟩ (.int .i64 n0)) R x (nxS (s)) B [.int .i64 n0, .int .i64 0, .int .i64 0, .int .i64 0, .slice none 0 0, .slice none 0 0]) := hU.out.put (i := 0) (by simp) _
  obtain ⟨W2, hW2⟩ : ∃ W, v0.setCell ⟨B + 1, 0, none⟩ (.int .i64 n0) = W := ⟨_, rfl⟩
  have hT1 : Hid (TS w W2 R x (nxS (s)) B [.int .i64 n0, .int .i64 0, .int .i64 0, .int .i64 0, .slice none 0 0, .slice none 0 0]) := by rw [← hW2]; exact hV
  clear hr hg hCH hU hV hT0
  go_wp2
  clear hW2 c f
  rw [rounds_succ]
  have hC := hnx.out W2 _ hT1.out.r
  have hCH : Hid _ := hC
  obtain ⟨n1, hn1⟩ : ∃ n, nxN (nxS (s)) = n := ⟨_, rfl⟩
  rw [hn1] at hCH
  clear hC
  go_wp2_with fail
  refine Calls.mono (show Calls _ _ _ _ _ from hCH.out) ?_
  rintro e v1 ⟨rfl, hr, hg⟩
  have hU : Hid (TS w v1 R x (nxS (nxS (s))) B [.int .i64 n0, .int .i64 0, .int .i64 0, .int .i64 0, .slice none 0 0, .slice none 0 0]) := hT1.out.ask hr hg
  have c : v1.cell? ⟨B + 1, 1, none⟩ = some (.int .i64 0) := hU.out.t.c 1 (by simp)
  have f := hU.out.t.f 1
  have hV : Hid (TS w (v1.setCell ⟨B + 1, 1, none⟩ (.int .i64 n1)) R x (nxS (nxS (s))) B [.int .i64 n0, .int .i64 n1, .int .i64 0, .int .i64 0, .slice none 0 0, .slice none 0 0]) := hU.out.put (i := 1) (by simp) _
  obtain ⟨W3, hW3⟩ : ∃ W, v1.setCell ⟨B + 1, 1, none⟩ (.int .i64 n1) = W := ⟨_, rfl⟩
  have hT2 : Hid (TS w W3 R x (nxS (nxS (s))) B [.int .i64 n0, .int .i64 n1, .int .i64 0, .int .i64 0, .slice none 0 0, .slice none 0 0]) := by rw [← hW3]; exact hV
  clear hr hg hCH hU hV hT1
  go_wp2
  clear hW3 c f
  rw [rounds_succ]
  have hC := hnx.out W3 _ hT2.out.r
  have hCH : Hid _ := hC
  obtain ⟨n2, hn2⟩ : ∃ n, nxN (nxS (nxS (s))) = n := ⟨_, rfl⟩
  rw [hn2] at hCH
  clear hC
  go_wp2_with fail
  refine Calls.mono (show Calls _ _ _ _ _ from hCH.out) ?_
  rintro e v2 ⟨rfl, hr, hg⟩
  have hU : Hid (TS w v2 R x (nxS (nxS (nxS (s)))) B [.int .i64 n0, .int .i64 n1, .int .i64 0, .int .i64 0, .slice none 0 0, .slice none 0 0]) := hT2.out.ask hr hg
  have c : v2.cell? ⟨B + 1, 2, none⟩ = some (.int .i64 0) := hU.out.t.c 2 (by simp)
  have f := hU.out.t.f 2
  have hV : Hid (TS w (v2.setCell ⟨B + 1, 2, none⟩ (.int .i64 n2)) R x (nxS (nxS (nxS (s)))) B [.int .i64 n0, .int .i64 n1, .int .i64 n2, .int .i64 0, .slice none 0 0, .slice none 0 0]) := hU.out.put (i := 2) (by simp) _
  obtain ⟨W4, hW4⟩ : ∃ W, v2.setCell ⟨B + 1, 2, none⟩ (.int .i64 n2) = W := ⟨_, rfl⟩
  have hT3 : Hid (TS w W4 R x (nxS (nxS (nxS (s)))) B [.int .i64 n0, .int .i64 n1, .int .i64 n2, .int .i64 0, .slice none 0 0, .slice none 0 0]) := by rw [← hW4]; exact hV
  clear hr hg hCH hU hV hT2
  go_wp2
  clear hW4 c f
  rw [rounds_succ]
  have hC := hnx.out W4 _ hT3.out.r
  have hCH : Hid _ := hC
  obtain ⟨n3, hn3⟩ : ∃ n, nxN (nxS (nxS (nxS (s)))) = n := ⟨_, rfl⟩
  rw [hn3] at hCH
  clear hC
  go_wp2_with fail
  refine Calls.mono (show Calls _ _ _ _ _ from hCH.out) ?_
  rintro e v3 ⟨rfl, hr, hg⟩
  have hU : Hid (TS w v3 R x (nxS (nxS (nxS (nxS (s))))) B [.int .i64 n0, .int .i64 n1, .int .i64 n2, .int .i64 0, .slice none 0 0, .slice none 0 0]) := hT3.out.ask hr hg
  have c : v3.cell? ⟨B + 1, 3, none⟩ = some (.int .i64 0) := hU.out.t.c 3 (by simp)
  have f := hU.out.t.f 3
  have hV : Hid (TS w (v3.setCell ⟨B + 1, 3, none⟩ (.int .i64 n3)) R x (nxS (nxS (nxS (nxS (s))))) B [.int .i64 n0, .int .i64 n1, .int .i64 n2, .int .i64 n3, .slice none 0 0, .slice none 0 0]) := hU.out.put (i := 3) (by simp) _
  obtain ⟨W5, hW5⟩ : ∃ W, v3.setCell ⟨B + 1, 3, none⟩ (.int .i64 n3) = W := ⟨_, rfl⟩
  have hT4 : Hid (TS w W5 R x (nxS (nxS (nxS (nxS (s))))) B [.int .i64 n0, .int .i64 n1, .int .i64 n2, .int .i64 n3, .slice none 0 0, .slice none 0 0]) := by rw [← hW5]; exact hV
  clear hr hg hCH hU hV hT3
  go_wp2
  clear hW5 c f
  rw [rounds_succ]
  obtain ⟨s4, hs4⟩ : ∃ t, nxS (nxS (nxS (nxS (s)))) = t := ⟨_, rfl⟩
  rw [hs4] at hT4
  have hC := hct.out W5 _ hT4.out.r
  have hCH : Hid _ := hC
  obtain ⟨M, hM, hM4⟩ := my_natR s4
  rw [hM] at hCH
  clear hC
  go_wp2_with fail
  refine Calls.mono (show Calls _ _ _ _ _ from hCH.out) ?_
  rintro e w6 ⟨rfl, hr, hg⟩
  have hT6 : Hid (TS w w6 R x (myS s4) B [.int .i64 n0, .int .i64 n1, .int .i64 n2, .int .i64 n3, .slice none 0 0, .slice none 0 0]) := hT4.out.ask hr hg
  have hC := hld.out w6 _ M hM4 hT6.out.r
  have hCH2 : Hid _ := hC
  clear hC hr hg hCH hT4
  go_wp2_with fail
  refine Calls.mono (show Calls _ _ _ _ _ from hCH2.out) ?_
  rintro e w7 ⟨v7, rfl, h7⟩
  have hT7 : Hid (TS w w7 R x (dotsS M (myS s4)) B [.int .i64 n0, .int .i64 n1, .int .i64 n2, .int .i64 n3, .slice none 0 0, .slice none 0 0]) := hT6.out.ask h7.out.2.1 h7.out.2.2
  obtain ⟨A, ca, hv7, _, hrA, hbA⟩ := h7.out.1.row
  subst hv7
  obtain ⟨LA, hLA⟩ : ∃ L, dotsL M (myS s4) = L := ⟨_, rfl⟩
  obtain ⟨s5, hs5⟩ : ∃ t, dotsS M (myS s4) = t := ⟨_, rfl⟩
  rw [hLA] at hrA ⊢
  rw [hs5] at hT7
  have hbA2 : Hid (∀ a, A = some a → B + 2 ≤ a.block) := fun a e => by
    have h1 := (hbA a e).1
    have h2 := hT6.out.t.lt
    omega
  have c : w7.cell? ⟨B + 1, 4, none⟩ = some (.slice none 0 0) := hT7.out.t.c 4 (by simp)
  have f := hT7.out.t.f 4
  obtain ⟨W8, hW8⟩ : ∃ W, w7.setCell ⟨B + 1, 4, none⟩ (.slice A LA.length ca) = W := ⟨_, rfl⟩
  have hT8 : Hid (TS w W8 R x s5 B [.int .i64 n0, .int .i64 n1, .int .i64 n2, .int .i64 n3, .slice A LA.length ca, .slice none 0 0]) := by rw [← hW8]; exact hT7.out.put (i := 4) (by simp) _
  have hrA8 : Hid (Row W8 A LA) := by
    show Row _ _ _
    rw [← hW8]
    exact hrA.other (grown_set _ _ _ _) (fun a e => by have := hbA2.out a e; intro h; injection h with h; omega)
  have hC := hct.out W8 _ hT8.out.r
  have hCH : Hid _ := hC
  obtain ⟨M2, hM2, hM24⟩ := my_natR s5
  rw [hM2] at hCH
  clear hC h7 hT7 hT6 hCH2 hrA hbA
  go_wp2_with fail
  refine Calls.mono (show Calls _ _ _ _ _ from hCH.out) ?_
  rintro e w9 ⟨rfl, hr, hg⟩
  have hT9 : Hid (TS w w9 R x (myS s5) B [.int .i64 n0, .int .i64 n1, .int .i64 n2, .int .i64 n3, .slice A LA.length ca, .slice none 0 0]) := hT8.out.ask hr hg
  have hneA : Hid (∀ a, A = some a → (some R : Option Nat) ≠ some a.block) := fun a e => by have := hbA2.out a e; have := hT8.out.lt; intro h; injection h with h; omega
  have hrA9 : Hid (Row w9 A LA) := hrA8.out.other hg hneA.out
  have hC := hlc.out w9 _ M2 hM24 hT9.out.r
  have hCH2 : Hid _ := hC
  clear hC hr hg hCH hT8 hrA8 c f hW8
  go_wp2_with fail
  refine Calls.mono (show Calls _ _ _ _ _ from hCH2.out) ?_
  rintro e w10 ⟨v10, rfl, h10⟩
  have hT10 : Hid (TS w w10 R x (celsS M2 (myS s5)) B [.int .i64 n0, .int .i64 n1, .int .i64 n2, .int .i64 n3, .slice A LA.length ca, .slice none 0 0]) := hT9.out.ask h10.out.2.1 h10.out.2.2
  have hrA10 : Hid (Row w10 A LA) := hrA9.out.other h10.out.2.2 hneA.out
  obtain ⟨D, cd, hv10, _, hrD, hbD⟩ := h10.out.1.row encC_len
  subst hv10
  obtain ⟨LD, hLD⟩ : ∃ L, celsL M2 (myS s5) = L := ⟨_, rfl⟩
  obtain ⟨s6, hs6⟩ : ∃ t, celsS M2 (myS s5) = t := ⟨_, rfl⟩
  rw [hLD] at hrD ⊢
  rw [hs6] at hT10
  have hbD2 : Hid (∀ a, D = some a → B + 2 ≤ a.block) := fun a e => by
    have h1 := (hbD a e).1
    have h2 := hT9.out.t.lt
    omega
  have c : w10.cell? ⟨B + 1, 5, none⟩ = some (.slice none 0 0) := hT10.out.t.c 5 (by simp)
  have f := hT10.out.t.f 5
  obtain ⟨W11, hW11⟩ : ∃ W, w10.setCell ⟨B + 1, 5, none⟩ (.slice D LD.length cd) = W := ⟨_, rfl⟩
  have hT11 : Hid (TS w W11 R x s6 B [.int .i64 n0, .int .i64 n1, .int .i64 n2, .int .i64 n3, .slice A LA.length ca, .slice D LD.length cd]) := by rw [← hW11]; exact hT10.out.put (i := 5) (by simp) _
  have hr11 : Hid (Row W11 A LA ∧ RowC W11 D LD) := by
    show _ ∧ _
    rw [← hW11]
    exact ⟨hrA10.out.other (grown_set _ _ _ _) (fun a e => by have := hbA2.out a e; intro h; injection h with h; omega), hrD.other (grown_set _ _ _ _) (fun a e => by have := hbD2.out a e; intro h; injection h with h; omega)⟩
  have hfin : Hid (tabR s = ⟨⟨n0, n1, n2, n3, LA⟩, LD⟩ ∧ tabS s = s6) := by
    unfold tabR tabS cldS clkS
    rw [hs4, hM, Int.toNat_natCast, hs5, hM2, Int.toNat_natCast, hn0, hn1, hn2, hn3, hLA, hLD, hs6]
    exact ⟨rfl, rfl⟩
  clear h10 hT10 hT9 hCH2 hrD hbD hrA9 hrA10 hn0 hn1 hn2 hn3 hs4 hM hs5 hM2 hLA hLD hs6 hnx hct hld hlc
  have b0 : W11.cell? ⟨B + 1, 0, none⟩ = some (.int .i64 n0) := hT11.out.t.c 0 (by simp)
  have b1 : W11.cell? ⟨B + 1, 1, none⟩ = some (.int .i64 n1) := hT11.out.t.c 1 (by simp)
  have b2 : W11.cell? ⟨B + 1, 2, none⟩ = some (.int .i64 n2) := hT11.out.t.c 2 (by simp)
  have b3 : W11.cell? ⟨B + 1, 3, none⟩ = some (.int .i64 n3) := hT11.out.t.c 3 (by simp)
  have b4 : W11.cell? ⟨B + 1, 4, none⟩ = some (.slice A LA.length ca) := hT11.out.t.c 4 (by simp)
  have b5 : W11.cell? ⟨B + 1, 5, none⟩ = some (.slice D LD.length cd) := hT11.out.t.c 5 (by simp)
  have z0 : W11.cell? ⟨B, 0, none⟩ = some (.int .i64 0) := hT11.out.z.c 0 (by simp)
  have y0 := hT11.out.z.f 0
  have z1 : W11.cell? ⟨B, 1, none⟩ = some (.int .i64 0) := hT11.out.z.c 1 (by simp)
  have y1 := hT11.out.z.f 1
  have z2 : W11.cell? ⟨B, 2, none⟩ = some (.int .i64 0) := hT11.out.z.c 2 (by simp)
  have y2 := hT11.out.z.f 2
  have z3 : W11.cell? ⟨B, 3, none⟩ = some (.int .i64 0) := hT11.out.z.c 3 (by simp)
  have y3 := hT11.out.z.f 3
  have z4 : W11.cell? ⟨B, 4, none⟩ = some (.slice none 0 0) := hT11.out.z.c 4 (by simp)
  have y4 := hT11.out.z.f 4
  have z5 : W11.cell? ⟨B, 5, none⟩ = some (.slice none 0 0) := hT11.out.z.c 5 (by simp)
  have y5 := hT11.out.z.f 5
  go_wp2
  have hneR : some B ≠ some R := by have := hT11.out.lt; intro e; injection e with e; omega
  have hneA2 : ∀ a, A = some a → some B ≠ some a.block := fun a e => by have := hbA2.out a e; intro h; injection h with h; omega
  have hneD2 : ∀ a, D = some a → some B ≠ some a.block := fun a e => by have := hbD2.out a e; intro h; injection h with h; omega
  have hXF := ((((((hT11.out.z.put (i := 0) (by simp) (.int .i64 n0)).put (i := 1) (by simp) (.int .i64 n1)).put (i := 2) (by simp) (.int .i64 n2)).put (i := 3) (by simp) (.int .i64 n3)).put (i := 4) (by simp) (.slice A LA.length ca)).put (i := 5) (by simp) (.slice D LD.length cd))
  have hGF : w.grownBy ((((((W11.setCell ⟨B, 0, none⟩ (.int .i64 n0)).setCell ⟨B, 1, none⟩ (.int .i64 n1)).setCell ⟨B, 2, none⟩ (.int .i64 n2)).setCell ⟨B, 3, none⟩ (.int .i64 n3)).setCell ⟨B, 4, none⟩ (.slice A LA.length ca)).setCell ⟨B, 5, none⟩ (.slice D LD.length cd)) (some R) := (grown_new (grown_new (grown_new (grown_new (grown_new (grown_new hT11.out.g (by have := hT11.out.b; omega) _) (by have := hT11.out.b; omega) _) (by have := hT11.out.b; omega) _) (by have := hT11.out.b; omega) _) (by have := hT11.out.b; omega) _) (by have := hT11.out.b; omega) _)
  have hPF : RdP ((((((W11.setCell ⟨B, 0, none⟩ (.int .i64 n0)).setCell ⟨B, 1, none⟩ (.int .i64 n1)).setCell ⟨B, 2, none⟩ (.int .i64 n2)).setCell ⟨B, 3, none⟩ (.int .i64 n3)).setCell ⟨B, 4, none⟩ (.slice A LA.length ca)).setCell ⟨B, 5, none⟩ (.slice D LD.length cd)) R x s6 := ((((((hT11.out.r.other (grown_set _ B _ _) hneR).other (grown_set _ B _ _) hneR).other (grown_set _ B _ _) hneR).other (grown_set _ B _ _) hneR).other (grown_set _ B _ _) hneR).other (grown_set _ B _ _) hneR)
  have hAF : Row ((((((W11.setCell ⟨B, 0, none⟩ (.int .i64 n0)).setCell ⟨B, 1, none⟩ (.int .i64 n1)).setCell ⟨B, 2, none⟩ (.int .i64 n2)).setCell ⟨B, 3, none⟩ (.int .i64 n3)).setCell ⟨B, 4, none⟩ (.slice A LA.length ca)).setCell ⟨B, 5, none⟩ (.slice D LD.length cd)) A LA := (Row.other (Row.other (Row.other (Row.other (Row.other (Row.other hr11.out.1 (grown_set _ B _ _) hneA2) (grown_set _ B _ _) hneA2) (grown_set _ B _ _) hneA2) (grown_set _ B _ _) hneA2) (grown_set _ B _ _) hneA2) (grown_set _ B _ _) hneA2)
  have hDF : RowC ((((((W11.setCell ⟨B, 0, none⟩ (.int .i64 n0)).setCell ⟨B, 1, none⟩ (.int .i64 n1)).setCell ⟨B, 2, none⟩ (.int .i64 n2)).setCell ⟨B, 3, none⟩ (.int .i64 n3)).setCell ⟨B, 4, none⟩ (.slice A LA.length ca)).setCell ⟨B, 5, none⟩ (.slice D LD.length cd)) D LD := (RowG.other (RowG.other (RowG.other (RowG.other (RowG.other (RowG.other hr11.out.2 (grown_set _ B _ _) hneD2) (grown_set _ B _ _) hneD2) (grown_set _ B _ _) hneD2) (grown_set _ B _ _) hneD2) (grown_set _ B _ _) hneD2) (grown_set _ B _ _) hneD2)
  generalize ((((((W11.setCell ⟨B, 0, none⟩ (.int .i64 n0)).setCell ⟨B, 1, none⟩ (.int .i64 n1)).setCell ⟨B, 2, none⟩ (.int .i64 n2)).setCell ⟨B, 3, none⟩ (.int .i64 n3)).setCell ⟨B, 4, none⟩ (.slice A LA.length ca)).setCell ⟨B, 5, none⟩ (.slice D LD.length cd)) = WF at hXF hGF hPF hAF hDF ⊢
  have r0 : WF.cell? ⟨B, 0, none⟩ = some (.int .i64 n0) := hXF.c 0 (by simp)
  have r1 : WF.cell? ⟨B, 1, none⟩ = some (.int .i64 n1) := hXF.c 1 (by simp)
  have r2 : WF.cell? ⟨B, 2, none⟩ = some (.int .i64 n2) := hXF.c 2 (by simp)
  have r3 : WF.cell? ⟨B, 3, none⟩ = some (.int .i64 n3) := hXF.c 3 (by simp)
  have r4 : WF.cell? ⟨B, 4, none⟩ = some (.slice A LA.length ca) := hXF.c 4 (by simp)
  have r5 : WF.cell? ⟨B, 5, none⟩ = some (.slice D LD.length cd) := hXF.c 5 (by simp)
  refine bodyPost_ret (v := .agg #[.int .i64 n0, .int .i64 n1, .int .i64 n2, .int .i64 n3, .slice A LA.length ca, .slice D LD.length cd]) (by simp [results, Try.results27, go_sem, r0, r1, r2, r3, r4, r5]) rfl ⟨⟨⟨n0, n1, n2, n3, LA⟩, LD⟩, A, ca, D, cd, rfl, ?_⟩
  · rw [hfin.out.1, hfin.out.2]
    exact ⟨rfl, hPF, hAF, hDF, fun a e => by have := hbA2.out a e; have := hT11.out.b; omega, fun a e => by have := hbD2.out a e; have := hT11.out.b; omega, hGF⟩
end Go.Proofs.Ytbhhpijidbhipaa
