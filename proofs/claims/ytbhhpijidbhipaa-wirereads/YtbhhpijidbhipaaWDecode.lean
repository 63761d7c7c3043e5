/-
  wire.Decode: the packet whose bytes a text begins with (gens/mkwdecode.py writes it).
-/
import Derived.Test.YtbhhpijidbhipaaWTab
import Derived.Test.YtbhhpijidbhipaaWPre
import Derived.Test.YtbhhpijidbhipaaWEnc
import Derived.Deep.RegionHeld3
namespace Go.Proofs.Ytbhhpijidbhipaa
open Go.RowKit Go.Sort

def zeroTab : Tab := ⟨⟨0, 0, 0, 0, []⟩, []⟩
/-- What is read of a text: two tables, how many bytes, the error. -/
def decA (x : List UInt8) : Tab := if decOk x then pakA x else zeroTab
def decB (x : List UInt8) : Tab := if decOk x then pakB x else zeroTab
def decN (x : List UInt8) : Int := if decOk x then (pakAt x : Int) + 4 else 0
def decE (x : List UInt8) : Int := if decOk x then 0 else 5
theorem toGW {f : FuncId} {args : Array Value} {W : World} {v : Value} (n : Nat) (os : Array Obj) (h : Calls Try.prog f args (grow (W.drewN n) os) fun e w' => e = .returned v ∧ Gr (grow (W.drewN n) os) w') :
    Calls Try.prog f args (grow (W.drewN n) os) fun e w'' => e = .returned v ∧ ∃ p : GrownBy, w'' = grow (W.drewN p.n) p.os := Calls.grown_of h
theorem tabR_small (s : RS) : (tabR s).c.l.length ≤ 400 ∧ (tabR s).e.length ≤ 400 := by
  obtain ⟨M, h1, h2⟩ := my_natR (clkS s)
  obtain ⟨K, h3, h4⟩ := my_natR (cldS s)
  refine ⟨?_, ?_⟩
  · show (dotsL _ _).length ≤ 400
    rw [dotsL_len, h1]
    simpa using h2
  · show (celsL _ _).length ≤ 400
    rw [celsL_len, h3]
    simpa using h4
theorem below_set {w wr : World} {N B j : Nat} (h : Below N w wr) (hB : N ≤ B) (v : Value) : Below N w (wr.setCell ⟨B, j, none⟩ v) := h.setCell (by show N ≤ B; exact hB) v
/-- Decode's memory: the answer, the reader, the packet. -/
structure DS (w wr : World) (x : List UInt8) (s : RS) (B : Nat) (P : List Value) : Prop where
  z : Bx wr B [.int .i64 0, .int .i64 0, .int .i64 0, .int .i64 0, .slice none 0 0, .slice none 0 0, .int .i64 0, .int .i64 0, .int .i64 0, .int .i64 0, .slice none 0 0, .slice none 0 0]
  t : Bx wr (B + 2) P
  r : RdP wr (B + 1) x s
  bel : Below w.heap.size w wr
  b : w.heap.size = B
theorem DS.ask {w wr w1 : World} {x : List UInt8} {s s1 : RS} {B : Nat} {P : List Value} (h : DS w wr x s B P) (hr : RdP w1 (B + 1) x s1) (hg : wr.grownBy w1 (some (B + 1))) : DS w w1 x s1 B P :=
  ⟨h.z.other hg (by intro e; injection e with e; omega), h.t.other hg (by intro e; injection e with e; omega), hr, h.bel.grown hg h.bel.size (fun k e => by injection e with e; have := h.b; omega), h.b⟩
theorem DS.put {w wr : World} {x : List UInt8} {s : RS} {B : Nat} {P : List Value} (h : DS w wr x s B P) {i : Nat} (hi : i < P.length) (v : Value) : DS w (wr.setCell ⟨B + 2, i, none⟩ v) x s B (P.set i v) :=
  ⟨h.z.other (grown_set _ _ _ _) (by intro e; injection e with e; omega), h.t.put hi v, h.r.other (grown_set _ _ _ _) (by intro e; injection e with e; omega), h.bel.setCell (by have := h.b; show w.heap.size ≤ B + 2; omega) v, h.b⟩
theorem DS.gr {w wr w1 : World} {x : List UInt8} {s : RS} {B : Nat} {P : List Value} (h : DS w wr x s B P) (k : Gr wr w1) : DS w w1 x s B P :=
  ⟨h.z.gr k, h.t.gr k, h.r.gr k, h.bel.trans (k.below.mono h.bel.size), h.b⟩

set_option maxRecDepth 100000 in
set_option maxHeartbeats 8000000 in
theorem decode_any (x : List UInt8) (w : World) (hx : x.length ≤ maxLen) :
    Calls Try.prog 13 #[.string ⟨x.toArray⟩] w fun e w' => ∃ (a b : Tab) (A : Option Addr) (ca : Nat) (C : Option Addr) (cc : Nat) (E : Option Addr) (ce : Nat) (D : Option Addr) (cd : Nat) (n er : Int), e = .returned (.tuple #[.agg #[.int .i64 a.c.c0, .int .i64 a.c.c1, .int .i64 a.c.c2, .int .i64 a.c.c3, .slice A a.c.l.length ca, .slice C a.e.length cc, .int .i64 b.c.c0, .int .i64 b.c.c1, .int .i64 b.c.c2, .int .i64 b.c.c3, .slice E b.c.l.length ce, .slice D b.e.length cd], .int .i64 n, .int .i64 er]) ∧ Hid ((a = decA x ∧ b = decB x ∧ n = decN x ∧ er = decE x) ∧ Row w' A a.c.l ∧ RowC w' C a.e ∧ Row w' E b.c.l ∧ RowC w' D b.e ∧ Below w.heap.size w w') := by
  have mixed : Try.prog.follows .mixedOrders = true := by kernel_rfl
  obtain ⟨B, hB⟩ : ∃ B, w.heap.size = B := ⟨_, rfl⟩
  obtain ⟨W1, hW1⟩ : ∃ W, w.alloc (.cells #[.int .i64 0, .int .i64 0, .int .i64 0, .int .i64 0, .slice none 0 0, .slice none 0 0, .int .i64 0, .int .i64 0, .int .i64 0, .int .i64 0, .slice none 0 0, .slice none 0 0] 31) = W := ⟨_, rfl⟩
  obtain ⟨W2, hW2⟩ : ∃ W, W1.alloc (.cells #[.string ⟨x.toArray⟩, .int .i64 0, .bool false] 65) = W := ⟨_, rfl⟩
  obtain ⟨W3, hW3⟩ : ∃ W, W2.alloc (.cells #[.int .i64 0, .int .i64 0, .int .i64 0, .int .i64 0, .slice none 0 0, .slice none 0 0, .int .i64 0, .int .i64 0, .int .i64 0, .int .i64 0, .slice none 0 0, .slice none 0 0] 31) = W := ⟨_, rfl⟩
  have hs1 : W1.heap.size = B + 1 := by rw [← hW1, ← hB]; simp
  have hs2 : W2.heap.size = B + 2 := by rw [← hW2]; simp [hs1]
  have hs3 : W3.heap.size = B + 3 := by rw [← hW3]; simp [hs2]
  have g1 : Gr w W1 := by rw [← hW1]; exact (Gr.refl w).alloc _
  have g2 : Gr W1 W2 := by rw [← hW2]; exact (Gr.refl W1).alloc _
  have g3 : Gr W2 W3 := by rw [← hW3]; exact (Gr.refl W2).alloc _
  have x1 : Bx W1 B [.int .i64 0, .int .i64 0, .int .i64 0, .int .i64 0, .slice none 0 0, .slice none 0 0, .int .i64 0, .int .i64 0, .int .i64 0, .int .i64 0, .slice none 0 0, .slice none 0 0] := by rw [← hW1]; exact Bx.new w _ _ hB
  have x2 : Bx W2 (B + 1) [.string ⟨x.toArray⟩, .int .i64 0, .bool false] := by rw [← hW2]; exact Bx.new W1 _ _ hs1
  have x3 : Bx W3 (B + 2) [.int .i64 0, .int .i64 0, .int .i64 0, .int .i64 0, .slice none 0 0, .slice none 0 0, .int .i64 0, .int .i64 0, .int .i64 0, .int .i64 0, .slice none 0 0, .slice none 0 0] := by rw [← hW3]; exact Bx.new W2 _ _ hs2
  have hr2 : RdP W2 (B + 1) x (x, true) := ⟨0, ⟨x2.c 0 (by simp), x2.c 1 (by simp), x2.c 2 (by simp), x2.f, x2.lt, by omega⟩, fun _ => by simp, fun h => by cases h⟩
  have hD3 : Hid (DS w W3 x (x, true) B [.int .i64 0, .int .i64 0, .int .i64 0, .int .i64 0, .slice none 0 0, .slice none 0 0, .int .i64 0, .int .i64 0, .int .i64 0, .int .i64 0, .slice none 0 0, .slice none 0 0] ∧ W3.heap.size = B + 3) := ⟨⟨(x1.gr g2).gr g3, x3, hr2.gr g3, ((g1.trans g2).trans g3).below, hB⟩, hs3⟩
  have htb : Hid (∀ W s, RdP W (B + 1) x s → Calls Try.prog 27 #[.pointer (some ⟨B + 1, 0, none⟩)] W fun e w' => ∃ (t : Tab) (A : Option Addr) (ca : Nat) (D : Option Addr) (cd : Nat), e = .returned (.agg #[.int .i64 t.c.c0, .int .i64 t.c.c1, .int .i64 t.c.c2, .int .i64 t.c.c3, .slice A t.c.l.length ca, .slice D t.e.length cd]) ∧ Hid (t = tabR s ∧ RdP w' (B + 1) x (tabS s) ∧ Row w' A t.c.l ∧ RowC w' D t.e ∧ (∀ a, A = some a → W.heap.size ≤ a.block) ∧ (∀ a, D = some a → W.heap.size ≤ a.block) ∧ W.grownBy w' (some (B + 1)))) := fun W s h => rdtable_any (B + 1) x s W hx h
  have hC := htb.out W3 _ hD3.out.1.r
  have hCH : Hid _ := hC
  clear hC g1 g2 g3 x1 x2 x3 hr2
  go_enter Try.func13, Try.ntmps13
  go_wp2
  refine wp_loop_rounds 3 ?_
  rw [rounds_succ]
  go_wp2_with fail
  refine Calls.mono (show Calls _ _ _ _ _ from hCH.out) ?_
  rintro e w4 ⟨a, A, ca, C, cc, rfl, h4⟩
  have hD4 : Hid (DS w w4 x (tabS (x, true)) B [.int .i64 0, .int .i64 0, .int .i64 0, .int .i64 0, .slice none 0 0, .slice none 0 0, .int .i64 0, .int .i64 0, .int .i64 0, .int .i64 0, .slice none 0 0, .slice none 0 0]) := hD3.out.1.ask h4.out.2.1 h4.out.2.2.2.2.2.2
  have hbA : Hid (∀ p, A = some p → B + 3 ≤ p.block) := fun p e => by have := h4.out.2.2.2.2.1 p e; have := hD3.out.2; omega
  have hbC : Hid (∀ p, C = some p → B + 3 ≤ p.block) := fun p e => by have := h4.out.2.2.2.2.2.1 p e; have := hD3.out.2; omega
  have hneA : ∀ k, k < B + 3 → ∀ p, A = some p → some k ≠ some p.block := fun k hk p e => by have := hbA.out p e; intro h; injection h with h; omega
  have hneC : ∀ k, k < B + 3 → ∀ p, C = some p → some k ≠ some p.block := fun k hk p e => by have := hbC.out p e; intro h; injection h with h; omega
  have hneAH : Hid _ := hneA
  have hneCH : Hid _ := hneC
  clear hneA hneC
  have c0 : w4.cell? ⟨B + 2, 0, none⟩ = some (.int .i64 0) := hD4.out.t.c 0 (by simp)
  have f0 := hD4.out.t.f 0
  have c1 : w4.cell? ⟨B + 2, 1, none⟩ = some (.int .i64 0) := hD4.out.t.c 1 (by simp)
  have f1 := hD4.out.t.f 1
  have c2 : w4.cell? ⟨B + 2, 2, none⟩ = some (.int .i64 0) := hD4.out.t.c 2 (by simp)
  have f2 := hD4.out.t.f 2
  have c3 : w4.cell? ⟨B + 2, 3, none⟩ = some (.int .i64 0) := hD4.out.t.c 3 (by simp)
  have f3 := hD4.out.t.f 3
  have c4 : w4.cell? ⟨B + 2, 4, none⟩ = some (.slice none 0 0) := hD4.out.t.c 4 (by simp)
  have f4 := hD4.out.t.f 4
  have c5 : w4.cell? ⟨B + 2, 5, none⟩ = some (.slice none 0 0) := hD4.out.t.c 5 (by simp)
  have f5 := hD4.out.t.f 5
  obtain ⟨W5, hW5⟩ : ∃ W, ((((((w4.setCell ⟨B + 2, 0, none⟩ (.int .i64 a.c.c0)).setCell ⟨B + 2, 1, none⟩ (.int .i64 a.c.c1)).setCell ⟨B + 2, 2, none⟩ (.int .i64 a.c.c2)).setCell ⟨B + 2, 3, none⟩ (.int .i64 a.c.c3)).setCell ⟨B + 2, 4, none⟩ (.slice A a.c.l.length ca)).setCell ⟨B + 2, 5, none⟩ (.slice C a.e.length cc)) = W := ⟨_, rfl⟩
  have hD5 : Hid (DS w W5 x (tabS (x, true)) B [.int .i64 a.c.c0, .int .i64 a.c.c1, .int .i64 a.c.c2, .int .i64 a.c.c3, .slice A a.c.l.length ca, .slice C a.e.length cc, .int .i64 0, .int .i64 0, .int .i64 0, .int .i64 0, .slice none 0 0, .slice none 0 0]) := by rw [← hW5]; exact ((((((hD4.out.put (i := 0) (by simp) (.int .i64 a.c.c0)).put (i := 1) (by simp) (.int .i64 a.c.c1)).put (i := 2) (by simp) (.int .i64 a.c.c2)).put (i := 3) (by simp) (.int .i64 a.c.c3)).put (i := 4) (by simp) (.slice A a.c.l.length ca)).put (i := 5) (by simp) (.slice C a.e.length cc))
  have hR5 : Hid (a = tabR (x, true) ∧ Row W5 A a.c.l ∧ RowC W5 C a.e) := by
    refine ⟨h4.out.1, ?_, ?_⟩
    · rw [← hW5]
      exact (Row.other (Row.other (Row.other (Row.other (Row.other (Row.other h4.out.2.2.1 (grown_set _ (B + 2) _ _) (hneAH.out _ (by omega))) (grown_set _ (B + 2) _ _) (hneAH.out _ (by omega))) (grown_set _ (B + 2) _ _) (hneAH.out _ (by omega))) (grown_set _ (B + 2) _ _) (hneAH.out _ (by omega))) (grown_set _ (B + 2) _ _) (hneAH.out _ (by omega))) (grown_set _ (B + 2) _ _) (hneAH.out _ (by omega)))
    · rw [← hW5]
      exact (RowG.other (RowG.other (RowG.other (RowG.other (RowG.other (RowG.other h4.out.2.2.2.1 (grown_set _ (B + 2) _ _) (hneCH.out _ (by omega))) (grown_set _ (B + 2) _ _) (hneCH.out _ (by omega))) (grown_set _ (B + 2) _ _) (hneCH.out _ (by omega))) (grown_set _ (B + 2) _ _) (hneCH.out _ (by omega))) (grown_set _ (B + 2) _ _) (hneCH.out _ (by omega))) (grown_set _ (B + 2) _ _) (hneCH.out _ (by omega)))
  have hC := htb.out W5 _ hD5.out.r
  have hCH2 : Hid _ := hC
  have hsz5 : Hid (B + 3 ≤ W5.heap.size) := by show _ ≤ _; have := hD5.out.t.lt; have h1 := h4.out.2.2.2.2.2.2.size; have h2 := hD3.out.2; rw [← hW5]; simp; omega
  clear hC hCH h4 hD3 hD4
  go_wp2
  rw [rounds_succ]
  clear hW5 c0 f0 c1 f1 c2 f2 c3 f3 c4 f4 c5 f5
  go_wp2_with fail
  refine Calls.mono (show Calls _ _ _ _ _ from hCH2.out) ?_
  rintro e w6 ⟨b, E, ce, D, cd, rfl, h6⟩
  have hD6 : Hid (DS w w6 x (tabS (tabS (x, true))) B [.int .i64 a.c.c0, .int .i64 a.c.c1, .int .i64 a.c.c2, .int .i64 a.c.c3, .slice A a.c.l.length ca, .slice C a.e.length cc, .int .i64 0, .int .i64 0, .int .i64 0, .int .i64 0, .slice none 0 0, .slice none 0 0]) := hD5.out.ask h6.out.2.1 h6.out.2.2.2.2.2.2
  have hR6 : Hid (Row w6 A a.c.l ∧ RowC w6 C a.e) := ⟨hR5.out.2.1.other h6.out.2.2.2.2.2.2 (hneAH.out _ (by omega)), RowG.other hR5.out.2.2 h6.out.2.2.2.2.2.2 (hneCH.out _ (by omega))⟩
  have hbE : Hid (∀ p, E = some p → B + 3 ≤ p.block) := fun p e => by have := h6.out.2.2.2.2.1 p e; have := hsz5.out; omega
  have hbD : Hid (∀ p, D = some p → B + 3 ≤ p.block) := fun p e => by have := h6.out.2.2.2.2.2.1 p e; have := hsz5.out; omega
  have hneE : ∀ k, k < B + 3 → ∀ p, E = some p → some k ≠ some p.block := fun k hk p e => by have := hbE.out p e; intro h; injection h with h; omega
  have hneD : ∀ k, k < B + 3 → ∀ p, D = some p → some k ≠ some p.block := fun k hk p e => by have := hbD.out p e; intro h; injection h with h; omega
  have hneEH : Hid _ := hneE
  have hneDH : Hid _ := hneD
  clear hneE hneD
  have c6 : w6.cell? ⟨B + 2, 6, none⟩ = some (.int .i64 0) := hD6.out.t.c 6 (by simp)
  have f6 := hD6.out.t.f 6
  have c7 : w6.cell? ⟨B + 2, 7, none⟩ = some (.int .i64 0) := hD6.out.t.c 7 (by simp)
  have f7 := hD6.out.t.f 7
  have c8 : w6.cell? ⟨B + 2, 8, none⟩ = some (.int .i64 0) := hD6.out.t.c 8 (by simp)
  have f8 := hD6.out.t.f 8
  have c9 : w6.cell? ⟨B + 2, 9, none⟩ = some (.int .i64 0) := hD6.out.t.c 9 (by simp)
  have f9 := hD6.out.t.f 9
  have c10 : w6.cell? ⟨B + 2, 10, none⟩ = some (.slice none 0 0) := hD6.out.t.c 10 (by simp)
  have f10 := hD6.out.t.f 10
  have c11 : w6.cell? ⟨B + 2, 11, none⟩ = some (.slice none 0 0) := hD6.out.t.c 11 (by simp)
  have f11 := hD6.out.t.f 11
  obtain ⟨W7, hW7⟩ : ∃ W, ((((((w6.setCell ⟨B + 2, 6, none⟩ (.int .i64 b.c.c0)).setCell ⟨B + 2, 7, none⟩ (.int .i64 b.c.c1)).setCell ⟨B + 2, 8, none⟩ (.int .i64 b.c.c2)).setCell ⟨B + 2, 9, none⟩ (.int .i64 b.c.c3)).setCell ⟨B + 2, 10, none⟩ (.slice E b.c.l.length ce)).setCell ⟨B + 2, 11, none⟩ (.slice D b.e.length cd)) = W := ⟨_, rfl⟩
  have hD7 : Hid (DS w W7 x (pakS x) B [.int .i64 a.c.c0, .int .i64 a.c.c1, .int .i64 a.c.c2, .int .i64 a.c.c3, .slice A a.c.l.length ca, .slice C a.e.length cc, .int .i64 b.c.c0, .int .i64 b.c.c1, .int .i64 b.c.c2, .int .i64 b.c.c3, .slice E b.c.l.length ce, .slice D b.e.length cd]) := by rw [← hW7]; exact ((((((hD6.out.put (i := 6) (by simp) (.int .i64 b.c.c0)).put (i := 7) (by simp) (.int .i64 b.c.c1)).put (i := 8) (by simp) (.int .i64 b.c.c2)).put (i := 9) (by simp) (.int .i64 b.c.c3)).put (i := 10) (by simp) (.slice E b.c.l.length ce)).put (i := 11) (by simp) (.slice D b.e.length cd))
  have hR7 : Hid ((a = pakA x ∧ b = pakB x) ∧ Row W7 A a.c.l ∧ RowC W7 C a.e ∧ Row W7 E b.c.l ∧ RowC W7 D b.e) := by
    refine ⟨⟨hR5.out.1, h6.out.1⟩, ?_, ?_, ?_, ?_⟩
    · rw [← hW7]
      exact (Row.other (Row.other (Row.other (Row.other (Row.other (Row.other hR6.out.1 (grown_set _ (B + 2) _ _) (hneAH.out _ (by omega))) (grown_set _ (B + 2) _ _) (hneAH.out _ (by omega))) (grown_set _ (B + 2) _ _) (hneAH.out _ (by omega))) (grown_set _ (B + 2) _ _) (hneAH.out _ (by omega))) (grown_set _ (B + 2) _ _) (hneAH.out _ (by omega))) (grown_set _ (B + 2) _ _) (hneAH.out _ (by omega)))
    · rw [← hW7]
      exact (RowG.other (RowG.other (RowG.other (RowG.other (RowG.other (RowG.other hR6.out.2 (grown_set _ (B + 2) _ _) (hneCH.out _ (by omega))) (grown_set _ (B + 2) _ _) (hneCH.out _ (by omega))) (grown_set _ (B + 2) _ _) (hneCH.out _ (by omega))) (grown_set _ (B + 2) _ _) (hneCH.out _ (by omega))) (grown_set _ (B + 2) _ _) (hneCH.out _ (by omega))) (grown_set _ (B + 2) _ _) (hneCH.out _ (by omega)))
    · rw [← hW7]
      exact (Row.other (Row.other (Row.other (Row.other (Row.other (Row.other h6.out.2.2.1 (grown_set _ (B + 2) _ _) (hneEH.out _ (by omega))) (grown_set _ (B + 2) _ _) (hneEH.out _ (by omega))) (grown_set _ (B + 2) _ _) (hneEH.out _ (by omega))) (grown_set _ (B + 2) _ _) (hneEH.out _ (by omega))) (grown_set _ (B + 2) _ _) (hneEH.out _ (by omega))) (grown_set _ (B + 2) _ _) (hneEH.out _ (by omega)))
    · rw [← hW7]
      exact (RowG.other (RowG.other (RowG.other (RowG.other (RowG.other (RowG.other h6.out.2.2.2.1 (grown_set _ (B + 2) _ _) (hneDH.out _ (by omega))) (grown_set _ (B + 2) _ _) (hneDH.out _ (by omega))) (grown_set _ (B + 2) _ _) (hneDH.out _ (by omega))) (grown_set _ (B + 2) _ _) (hneDH.out _ (by omega))) (grown_set _ (B + 2) _ _) (hneDH.out _ (by omega))) (grown_set _ (B + 2) _ _) (hneDH.out _ (by omega)))
  clear hCH2 h6 hD5 hD6 hR5 hR6 htb hsz5
  go_wp2
  rw [rounds_succ]
  clear hW7 c6 f6 c7 f7 c8 f8 c9 f9 c10 f10 c11 f11
  go_wp2_with fail
  obtain ⟨X, hX⟩ : ∃ X, X = W7 := ⟨_, rfl⟩
  subst hX
  have hsm : Hid ((a.c.l.length ≤ 400 ∧ a.e.length ≤ 400) ∧ b.c.l.length ≤ 400 ∧ b.e.length ≤ 400) := by
    refine ⟨?_, ?_⟩
    · rw [hR7.out.1.1]; exact tabR_small _
    · rw [hR7.out.1.2]; exact tabR_small _
  obtain ⟨at_, hRX, hok1, hok2⟩ := hD7.out.r
  have hRXH : Hid (RdX X (B + 1) x at_ (!(pakS x).2)) := hRX
  cases hs : (pakS x).2 with
  | false =>
    have hno : Hid (decOk x = false) := by show _ = _; unfold decOk; rw [hs]; rfl
    rw [hs] at hRX
    have q2 := (Gr.refl X).cellG (a := ⟨B + 1, 2, none⟩) hRX.lt hRX.b
    have q2 : ∀ n os, (grow (X.drewN n) os).cell? ⟨B + 1, 2, none⟩ = some (.bool true) := q2
    clear hok1 hok2 hRXH hRX
    refine wp_region_quiet_grown mixed (by kernel_rfl) ?_
    repeat (go_big_quiet_step (fail))
    refine wpQuiet_nil ?_
    rintro _ ⟨⟨nq, osq⟩, rfl⟩
    clear q2
    have hDZ : Hid (DS w (grow (X.drewN nq) osq) x (pakS x) B [.int .i64 a.c.c0, .int .i64 a.c.c1, .int .i64 a.c.c2, .int .i64 a.c.c3, .slice A a.c.l.length ca, .slice C a.e.length cc, .int .i64 b.c.c0, .int .i64 b.c.c1, .int .i64 b.c.c2, .int .i64 b.c.c3, .slice E b.c.l.length ce, .slice D b.e.length cd]) := hD7.out.gr ⟨nq, osq, rfl⟩
    generalize (grow (X.drewN nq) osq) = WQ at hDZ ⊢
    have z0 : WQ.cell? ⟨B, 0, none⟩ = some (.int .i64 0) := hDZ.out.z.c 0 (by simp)
    have y0 := hDZ.out.z.f 0
    have z1 : WQ.cell? ⟨B, 1, none⟩ = some (.int .i64 0) := hDZ.out.z.c 1 (by simp)
    have y1 := hDZ.out.z.f 1
    have z2 : WQ.cell? ⟨B, 2, none⟩ = some (.int .i64 0) := hDZ.out.z.c 2 (by simp)
    have y2 := hDZ.out.z.f 2
    have z3 : WQ.cell? ⟨B, 3, none⟩ = some (.int .i64 0) := hDZ.out.z.c 3 (by simp)
    have y3 := hDZ.out.z.f 3
    have z4 : WQ.cell? ⟨B, 4, none⟩ = some (.slice none 0 0) := hDZ.out.z.c 4 (by simp)
    have y4 := hDZ.out.z.f 4
    have z5 : WQ.cell? ⟨B, 5, none⟩ = some (.slice none 0 0) := hDZ.out.z.c 5 (by simp)
    have y5 := hDZ.out.z.f 5
    have z6 : WQ.cell? ⟨B, 6, none⟩ = some (.int .i64 0) := hDZ.out.z.c 6 (by simp)
    have y6 := hDZ.out.z.f 6
    have z7 : WQ.cell? ⟨B, 7, none⟩ = some (.int .i64 0) := hDZ.out.z.c 7 (by simp)
    have y7 := hDZ.out.z.f 7
    have z8 : WQ.cell? ⟨B, 8, none⟩ = some (.int .i64 0) := hDZ.out.z.c 8 (by simp)
    have y8 := hDZ.out.z.f 8
    have z9 : WQ.cell? ⟨B, 9, none⟩ = some (.int .i64 0) := hDZ.out.z.c 9 (by simp)
    have y9 := hDZ.out.z.f 9
    have z10 : WQ.cell? ⟨B, 10, none⟩ = some (.slice none 0 0) := hDZ.out.z.c 10 (by simp)
    have y10 := hDZ.out.z.f 10
    have z11 : WQ.cell? ⟨B, 11, none⟩ = some (.slice none 0 0) := hDZ.out.z.c 11 (by simp)
    have y11 := hDZ.out.z.f 11
    go_wp2
    have hXF := ((((((((((((hDZ.out.z.put (i := 0) (by simp) (.int .i64 0)).put (i := 1) (by simp) (.int .i64 0)).put (i := 2) (by simp) (.int .i64 0)).put (i := 3) (by simp) (.int .i64 0)).put (i := 4) (by simp) (.slice none 0 0)).put (i := 5) (by simp) (.slice none 0 0)).put (i := 6) (by simp) (.int .i64 0)).put (i := 7) (by simp) (.int .i64 0)).put (i := 8) (by simp) (.int .i64 0)).put (i := 9) (by simp) (.int .i64 0)).put (i := 10) (by simp) (.slice none 0 0)).put (i := 11) (by simp) (.slice none 0 0))
    have hBF : Below w.heap.size w ((((((((((((WQ.setCell ⟨B, 0, none⟩ (.int .i64 0)).setCell ⟨B, 1, none⟩ (.int .i64 0)).setCell ⟨B, 2, none⟩ (.int .i64 0)).setCell ⟨B, 3, none⟩ (.int .i64 0)).setCell ⟨B, 4, none⟩ (.slice none 0 0)).setCell ⟨B, 5, none⟩ (.slice none 0 0)).setCell ⟨B, 6, none⟩ (.int .i64 0)).setCell ⟨B, 7, none⟩ (.int .i64 0)).setCell ⟨B, 8, none⟩ (.int .i64 0)).setCell ⟨B, 9, none⟩ (.int .i64 0)).setCell ⟨B, 10, none⟩ (.slice none 0 0)).setCell ⟨B, 11, none⟩ (.slice none 0 0)) := (below_set (below_set (below_set (below_set (below_set (below_set (below_set (below_set (below_set (below_set (below_set (below_set hDZ.out.bel (by have := hDZ.out.b; omega) _) (by have := hDZ.out.b; omega) _) (by have := hDZ.out.b; omega) _) (by have := hDZ.out.b; omega) _) (by have := hDZ.out.b; omega) _) (by have := hDZ.out.b; omega) _) (by have := hDZ.out.b; omega) _) (by have := hDZ.out.b; omega) _) (by have := hDZ.out.b; omega) _) (by have := hDZ.out.b; omega) _) (by have := hDZ.out.b; omega) _) (by have := hDZ.out.b; omega) _)
    generalize ((((((((((((WQ.setCell ⟨B, 0, none⟩ (.int .i64 0)).setCell ⟨B, 1, none⟩ (.int .i64 0)).setCell ⟨B, 2, none⟩ (.int .i64 0)).setCell ⟨B, 3, none⟩ (.int .i64 0)).setCell ⟨B, 4, none⟩ (.slice none 0 0)).setCell ⟨B, 5, none⟩ (.slice none 0 0)).setCell ⟨B, 6, none⟩ (.int .i64 0)).setCell ⟨B, 7, none⟩ (.int .i64 0)).setCell ⟨B, 8, none⟩ (.int .i64 0)).setCell ⟨B, 9, none⟩ (.int .i64 0)).setCell ⟨B, 10, none⟩ (.slice none 0 0)).setCell ⟨B, 11, none⟩ (.slice none 0 0)) = WF at hXF hBF ⊢
    have r0 : WF.cell? ⟨B, 0, none⟩ = some (.int .i64 0) := hXF.c 0 (by simp)
    have r1 : WF.cell? ⟨B, 1, none⟩ = some (.int .i64 0) := hXF.c 1 (by simp)
    have r2 : WF.cell? ⟨B, 2, none⟩ = some (.int .i64 0) := hXF.c 2 (by simp)
    have r3 : WF.cell? ⟨B, 3, none⟩ = some (.int .i64 0) := hXF.c 3 (by simp)
    have r4 : WF.cell? ⟨B, 4, none⟩ = some (.slice none 0 0) := hXF.c 4 (by simp)
    have r5 : WF.cell? ⟨B, 5, none⟩ = some (.slice none 0 0) := hXF.c 5 (by simp)
    have r6 : WF.cell? ⟨B, 6, none⟩ = some (.int .i64 0) := hXF.c 6 (by simp)
    have r7 : WF.cell? ⟨B, 7, none⟩ = some (.int .i64 0) := hXF.c 7 (by simp)
    have r8 : WF.cell? ⟨B, 8, none⟩ = some (.int .i64 0) := hXF.c 8 (by simp)
    have r9 : WF.cell? ⟨B, 9, none⟩ = some (.int .i64 0) := hXF.c 9 (by simp)
    have r10 : WF.cell? ⟨B, 10, none⟩ = some (.slice none 0 0) := hXF.c 10 (by simp)
    have r11 : WF.cell? ⟨B, 11, none⟩ = some (.slice none 0 0) := hXF.c 11 (by simp)
    refine bodyPost_ret (v := .tuple #[.agg #[.int .i64 0, .int .i64 0, .int .i64 0, .int .i64 0, .slice none 0 0, .slice none 0 0, .int .i64 0, .int .i64 0, .int .i64 0, .int .i64 0, .slice none 0 0, .slice none 0 0], .int .i64 0, .int .i64 5]) (by simp [results, Try.results13, go_sem, r0, r1, r2, r3, r4, r5, r6, r7, r8, r9, r10, r11]) rfl ⟨zeroTab, zeroTab, none, 0, none, 0, none, 0, none, 0, 0, 5, rfl, ?_⟩
    unfold decA decB decN decE
    rw [hno.out]
    exact ⟨⟨rfl, rfl, rfl, rfl⟩, Or.inl rfl, Or.inl rfl, Or.inl rfl, Or.inl rfl, by first | exact hBF | (rw [← hB]; exact hBF)⟩
  | true =>
    have hy : x.drop at_ = (pakS x).1 := hok1 hs
    have hle := hRX.le
    have hat : Hid (pakAt x = at_) := by
      show _ = _
      unfold pakAt
      rw [← hy, List.length_drop]
      omega
    rw [hs] at hRX
    obtain ⟨y, hyy⟩ : ∃ y, (pakS x).1 = y := ⟨_, rfl⟩
    rw [hyy] at hy
    obtain ⟨SB, hSB⟩ : ∃ S, sumB (sumL (x.take at_)) = S := ⟨_, rfl⟩
    have hdec : Hid (decOk x = (preB y SB && decide (errT a = 0) && decide (errT b = 0))) := by
      show _ = _
      unfold decOk preB
      rw [hat.out, hs, hyy, ← hSB, ← hR7.out.1.1, ← hR7.out.1.2, sumB_len]
      simp [Bool.and_assoc]
    have q1 := (Gr.refl X).cellG (a := ⟨B + 1, 1, none⟩) hRX.lt hRX.a
    have q2 : ∀ n os, (grow (X.drewN n) os).cell? ⟨B + 1, 2, none⟩ = some (.bool false) := (Gr.refl X).cellG (a := ⟨B + 1, 2, none⟩) hRX.lt hRX.b
    have p0 := (Gr.refl X).cellG (a := ⟨B + 2, 0, none⟩) hD7.out.t.lt (show X.cell? ⟨B + 2, 0, none⟩ = some (.int .i64 a.c.c0) from hD7.out.t.c 0 (by simp))
    have p1 := (Gr.refl X).cellG (a := ⟨B + 2, 1, none⟩) hD7.out.t.lt (show X.cell? ⟨B + 2, 1, none⟩ = some (.int .i64 a.c.c1) from hD7.out.t.c 1 (by simp))
    have p2 := (Gr.refl X).cellG (a := ⟨B + 2, 2, none⟩) hD7.out.t.lt (show X.cell? ⟨B + 2, 2, none⟩ = some (.int .i64 a.c.c2) from hD7.out.t.c 2 (by simp))
    have p3 := (Gr.refl X).cellG (a := ⟨B + 2, 3, none⟩) hD7.out.t.lt (show X.cell? ⟨B + 2, 3, none⟩ = some (.int .i64 a.c.c3) from hD7.out.t.c 3 (by simp))
    have p4 := (Gr.refl X).cellG (a := ⟨B + 2, 4, none⟩) hD7.out.t.lt (show X.cell? ⟨B + 2, 4, none⟩ = some (.slice A a.c.l.length ca) from hD7.out.t.c 4 (by simp))
    have p5 := (Gr.refl X).cellG (a := ⟨B + 2, 5, none⟩) hD7.out.t.lt (show X.cell? ⟨B + 2, 5, none⟩ = some (.slice C a.e.length cc) from hD7.out.t.c 5 (by simp))
    have p6 := (Gr.refl X).cellG (a := ⟨B + 2, 6, none⟩) hD7.out.t.lt (show X.cell? ⟨B + 2, 6, none⟩ = some (.int .i64 b.c.c0) from hD7.out.t.c 6 (by simp))
    have p7 := (Gr.refl X).cellG (a := ⟨B + 2, 7, none⟩) hD7.out.t.lt (show X.cell? ⟨B + 2, 7, none⟩ = some (.int .i64 b.c.c1) from hD7.out.t.c 7 (by simp))
    have p8 := (Gr.refl X).cellG (a := ⟨B + 2, 8, none⟩) hD7.out.t.lt (show X.cell? ⟨B + 2, 8, none⟩ = some (.int .i64 b.c.c2) from hD7.out.t.c 8 (by simp))
    have p9 := (Gr.refl X).cellG (a := ⟨B + 2, 9, none⟩) hD7.out.t.lt (show X.cell? ⟨B + 2, 9, none⟩ = some (.int .i64 b.c.c3) from hD7.out.t.c 9 (by simp))
    have p10 := (Gr.refl X).cellG (a := ⟨B + 2, 10, none⟩) hD7.out.t.lt (show X.cell? ⟨B + 2, 10, none⟩ = some (.slice E b.c.l.length ce) from hD7.out.t.c 10 (by simp))
    have p11 := (Gr.refl X).cellG (a := ⟨B + 2, 11, none⟩) hD7.out.t.lt (show X.cell? ⟨B + 2, 11, none⟩ = some (.slice D b.e.length cd) from hD7.out.t.c 11 (by simp))
    have hcutA := cut_from x at_
    rw [hy] at hcutA
    have hcutB := cut_to x at_
    have hlez : (at_ : Int) ≤ (x.length : Int) := by omega
    obtain ⟨u, hu⟩ : ∃ u, x.take at_ = u := ⟨_, rfl⟩
    rw [hu] at hcutB hSB
    have hsumG : ∀ n os, Calls Try.prog 25 #[.string ⟨u.toArray⟩] (grow (X.drewN n) os) fun e w'' => e = .returned (.string ⟨SB.toArray⟩) ∧ ∃ p : GrownBy, w'' = grow (X.drewN p.n) p.os := fun n os => by
      rw [← hSB]
      exact toGW n os (sumBytes_any u _ (by rw [← hu, List.length_take]; omega))
    obtain ⟨q, hq⟩ : ∃ q, preB y SB = q := ⟨_, rfl⟩
    have hpreG : ∀ n os, Calls Try.prog 28 #[.string ⟨y.toArray⟩, .string ⟨SB.toArray⟩] (grow (X.drewN n) os) fun e w'' => e = .returned (.bool q) ∧ ∃ p : GrownBy, w'' = grow (X.drewN p.n) p.os := fun n os => by
      rw [← hq]
      exact toGW n os (hasPre_any y SB _)
    rw [hq] at hdec
    obtain ⟨EP, hEP⟩ : ∃ E, errP a b = E := ⟨_, rfl⟩
    have hchkG : ∀ n os, Calls Try.prog 23 #[.agg #[.int .i64 a.c.c0, .int .i64 a.c.c1, .int .i64 a.c.c2, .int .i64 a.c.c3, .slice A a.c.l.length ca, .slice C a.e.length cc, .int .i64 b.c.c0, .int .i64 b.c.c1, .int .i64 b.c.c2, .int .i64 b.c.c3, .slice E b.c.l.length ce, .slice D b.e.length cd]] (grow (X.drewN n) os) fun e w'' => e = .returned (.int .i64 EP) ∧ ∃ p : GrownBy, w'' = grow (X.drewN p.n) p.os := fun n os => by
      have hg : Gr X (grow (X.drewN n) os) := ⟨n, os, rfl⟩
      rw [← hEP]
      exact toGW n os (checkP_any a b A C ca cc E D ce cd _ (Nat.le_trans hsm.out.1.1 (by decide)) (Nat.le_trans hsm.out.1.2 (by decide)) (Nat.le_trans hsm.out.2.1 (by decide)) (Nat.le_trans hsm.out.2.2 (by decide)) (hR7.out.2.1.gr hg) (hR7.out.2.2.1.gr hg) (hR7.out.2.2.2.1.gr hg) (hR7.out.2.2.2.2.gr hg))
    have hsumH : Hid _ := hsumG
    have hpreH : Hid _ := hpreG
    have hchkH : Hid _ := hchkG
    have hEPH : Hid (errP a b = EP) := hEP
    have hxl : x.length ≤ 9223372036854775807 := hx
    have hat4 : q = true → at_ + 4 ≤ x.length := fun hqt => by
      rw [hqt] at hq
      unfold preB at hq
      rw [Bool.and_eq_true, decide_eq_true_eq] at hq
      have h1 := hq.1
      rw [← hSB, sumB_len, ← hy, List.length_drop] at h1
      omega
    have hat4H : Hid (q = true → at_ + 4 ≤ x.length) := hat4
    clear hat4 hsumG hpreG hchkG hq hSB hu hy hyy hok1 hok2 hRX hEP hs hx
    cases q with
    | false =>
      have hno : Hid (decOk x = false) := by show _ = _; rw [hdec.out]; rfl
      refine wp_region_quiet_grown mixed (by kernel_rfl) ?_
      repeat (go_big_quiet_step (first | (go_at_call 25; exact hsumH.out _ _) | (go_at_call 28; exact hpreH.out _ _)))
      refine wpQuiet_nil ?_
      rintro _ ⟨⟨nq, osq⟩, rfl⟩
      clear q1 q2 p0 p1 p2 p3 p4 p5 p6 p7 p8 p9 p10 p11 hcutA hcutB
      have hDZ : Hid (DS w (grow (X.drewN nq) osq) x (pakS x) B [.int .i64 a.c.c0, .int .i64 a.c.c1, .int .i64 a.c.c2, .int .i64 a.c.c3, .slice A a.c.l.length ca, .slice C a.e.length cc, .int .i64 b.c.c0, .int .i64 b.c.c1, .int .i64 b.c.c2, .int .i64 b.c.c3, .slice E b.c.l.length ce, .slice D b.e.length cd]) := hD7.out.gr ⟨nq, osq, rfl⟩
      generalize (grow (X.drewN nq) osq) = WQ at hDZ ⊢
      have z0 : WQ.cell? ⟨B, 0, none⟩ = some (.int .i64 0) := hDZ.out.z.c 0 (by simp)
      have y0 := hDZ.out.z.f 0
      have z1 : WQ.cell? ⟨B, 1, none⟩ = some (.int .i64 0) := hDZ.out.z.c 1 (by simp)
      have y1 := hDZ.out.z.f 1
      have z2 : WQ.cell? ⟨B, 2, none⟩ = some (.int .i64 0) := hDZ.out.z.c 2 (by simp)
      have y2 := hDZ.out.z.f 2
      have z3 : WQ.cell? ⟨B, 3, none⟩ = some (.int .i64 0) := hDZ.out.z.c 3 (by simp)
      have y3 := hDZ.out.z.f 3
      have z4 : WQ.cell? ⟨B, 4, none⟩ = some (.slice none 0 0) := hDZ.out.z.c 4 (by simp)
      have y4 := hDZ.out.z.f 4
      have z5 : WQ.cell? ⟨B, 5, none⟩ = some (.slice none 0 0) := hDZ.out.z.c 5 (by simp)
      have y5 := hDZ.out.z.f 5
      have z6 : WQ.cell? ⟨B, 6, none⟩ = some (.int .i64 0) := hDZ.out.z.c 6 (by simp)
      have y6 := hDZ.out.z.f 6
      have z7 : WQ.cell? ⟨B, 7, none⟩ = some (.int .i64 0) := hDZ.out.z.c 7 (by simp)
      have y7 := hDZ.out.z.f 7
      have z8 : WQ.cell? ⟨B, 8, none⟩ = some (.int .i64 0) := hDZ.out.z.c 8 (by simp)
      have y8 := hDZ.out.z.f 8
      have z9 : WQ.cell? ⟨B, 9, none⟩ = some (.int .i64 0) := hDZ.out.z.c 9 (by simp)
      have y9 := hDZ.out.z.f 9
      have z10 : WQ.cell? ⟨B, 10, none⟩ = some (.slice none 0 0) := hDZ.out.z.c 10 (by simp)
      have y10 := hDZ.out.z.f 10
      have z11 : WQ.cell? ⟨B, 11, none⟩ = some (.slice none 0 0) := hDZ.out.z.c 11 (by simp)
      have y11 := hDZ.out.z.f 11
      go_wp2
      have hXF := ((((((((((((hDZ.out.z.put (i := 0) (by simp) (.int .i64 0)).put (i := 1) (by simp) (.int .i64 0)).put (i := 2) (by simp) (.int .i64 0)).put (i := 3) (by simp) (.int .i64 0)).put (i := 4) (by simp) (.slice none 0 0)).put (i := 5) (by simp) (.slice none 0 0)).put (i := 6) (by simp) (.int .i64 0)).put (i := 7) (by simp) (.int .i64 0)).put (i := 8) (by simp) (.int .i64 0)).put (i := 9) (by simp) (.int .i64 0)).put (i := 10) (by simp) (.slice none 0 0)).put (i := 11) (by simp) (.slice none 0 0))
      have hBF : Below w.heap.size w ((((((((((((WQ.setCell ⟨B, 0, none⟩ (.int .i64 0)).setCell ⟨B, 1, none⟩ (.int .i64 0)).setCell ⟨B, 2, none⟩ (.int .i64 0)).setCell ⟨B, 3, none⟩ (.int .i64 0)).setCell ⟨B, 4, none⟩ (.slice none 0 0)).setCell ⟨B, 5, none⟩ (.slice none 0 0)).setCell ⟨B, 6, none⟩ (.int .i64 0)).setCell ⟨B, 7, none⟩ (.int .i64 0)).setCell ⟨B, 8, none⟩ (.int .i64 0)).setCell ⟨B, 9, none⟩ (.int .i64 0)).setCell ⟨B, 10, none⟩ (.slice none 0 0)).setCell ⟨B, 11, none⟩ (.slice none 0 0)) := (below_set (below_set (below_set (below_set (below_set (below_set (below_set (below_set (below_set (below_set (below_set (below_set hDZ.out.bel (by have := hDZ.out.b; omega) _) (by have := hDZ.out.b; omega) _) (by have := hDZ.out.b; omega) _) (by have := hDZ.out.b; omega) _) (by have := hDZ.out.b; omega) _) (by have := hDZ.out.b; omega) _) (by have := hDZ.out.b; omega) _) (by have := hDZ.out.b; omega) _) (by have := hDZ.out.b; omega) _) (by have := hDZ.out.b; omega) _) (by have := hDZ.out.b; omega) _) (by have := hDZ.out.b; omega) _)
      generalize ((((((((((((WQ.setCell ⟨B, 0, none⟩ (.int .i64 0)).setCell ⟨B, 1, none⟩ (.int .i64 0)).setCell ⟨B, 2, none⟩ (.int .i64 0)).setCell ⟨B, 3, none⟩ (.int .i64 0)).setCell ⟨B, 4, none⟩ (.slice none 0 0)).setCell ⟨B, 5, none⟩ (.slice none 0 0)).setCell ⟨B, 6, none⟩ (.int .i64 0)).setCell ⟨B, 7, none⟩ (.int .i64 0)).setCell ⟨B, 8, none⟩ (.int .i64 0)).setCell ⟨B, 9, none⟩ (.int .i64 0)).setCell ⟨B, 10, none⟩ (.slice none 0 0)).setCell ⟨B, 11, none⟩ (.slice none 0 0)) = WF at hXF hBF ⊢
      have r0 : WF.cell? ⟨B, 0, none⟩ = some (.int .i64 0) := hXF.c 0 (by simp)
      have r1 : WF.cell? ⟨B, 1, none⟩ = some (.int .i64 0) := hXF.c 1 (by simp)
      have r2 : WF.cell? ⟨B, 2, none⟩ = some (.int .i64 0) := hXF.c 2 (by simp)
      have r3 : WF.cell? ⟨B, 3, none⟩ = some (.int .i64 0) := hXF.c 3 (by simp)
      have r4 : WF.cell? ⟨B, 4, none⟩ = some (.slice none 0 0) := hXF.c 4 (by simp)
      have r5 : WF.cell? ⟨B, 5, none⟩ = some (.slice none 0 0) := hXF.c 5 (by simp)
      have r6 : WF.cell? ⟨B, 6, none⟩ = some (.int .i64 0) := hXF.c 6 (by simp)
      have r7 : WF.cell? ⟨B, 7, none⟩ = some (.int .i64 0) := hXF.c 7 (by simp)
      have r8 : WF.cell? ⟨B, 8, none⟩ = some (.int .i64 0) := hXF.c 8 (by simp)
      have r9 : WF.cell? ⟨B, 9, none⟩ = some (.int .i64 0) := hXF.c 9 (by simp)
      have r10 : WF.cell? ⟨B, 10, none⟩ = some (.slice none 0 0) := hXF.c 10 (by simp)
      have r11 : WF.cell? ⟨B, 11, none⟩ = some (.slice none 0 0) := hXF.c 11 (by simp)
      refine bodyPost_ret (v := .tuple #[.agg #[.int .i64 0, .int .i64 0, .int .i64 0, .int .i64 0, .slice none 0 0, .slice none 0 0, .int .i64 0, .int .i64 0, .int .i64 0, .int .i64 0, .slice none 0 0, .slice none 0 0], .int .i64 0, .int .i64 5]) (by simp [results, Try.results13, go_sem, r0, r1, r2, r3, r4, r5, r6, r7, r8, r9, r10, r11]) rfl ⟨zeroTab, zeroTab, none, 0, none, 0, none, 0, none, 0, 0, 5, rfl, ?_⟩
      unfold decA decB decN decE
      rw [hno.out]
      exact ⟨⟨rfl, rfl, rfl, rfl⟩, Or.inl rfl, Or.inl rfl, Or.inl rfl, Or.inl rfl, by first | exact hBF | (rw [← hB]; exact hBF)⟩
    | true =>
      by_cases hE0 : EP = 0
      · subst hE0
        have hat4 := hat4H.out rfl
        have hwr : wrap64 ((at_ : Int) + 4) = (at_ : Int) + 4 := by unfold wrap64; omega
        have hyes : Hid (decOk x = true) := by
          show _ = _
          rw [hdec.out, (errP_ok hEPH.out).1, (errP_ok hEPH.out).2]
          rfl
        refine wp_region_quiet_grown mixed (by kernel_rfl) ?_
        repeat (go_big_quiet_step (first | (go_at_call 25; exact hsumH.out _ _) | (go_at_call 28; exact hpreH.out _ _) | (go_at_call 23; exact hchkH.out _ _)))
        refine wpQuiet_nil ?_
        rintro _ ⟨⟨nq, osq⟩, rfl⟩
        clear q1 q2 p0 p1 p2 p3 p4 p5 p6 p7 p8 p9 p10 p11 hcutA hcutB
        have hRq := hRXH.out.gr (⟨nq, osq, rfl⟩ : Gr X (grow (X.drewN nq) osq))
        have hDZ : Hid (DS w (grow (X.drewN nq) osq) x (pakS x) B [.int .i64 a.c.c0, .int .i64 a.c.c1, .int .i64 a.c.c2, .int .i64 a.c.c3, .slice A a.c.l.length ca, .slice C a.e.length cc, .int .i64 b.c.c0, .int .i64 b.c.c1, .int .i64 b.c.c2, .int .i64 b.c.c3, .slice E b.c.l.length ce, .slice D b.e.length cd]) := hD7.out.gr ⟨nq, osq, rfl⟩
        have hRZ : Hid (Row (grow (X.drewN nq) osq) A a.c.l ∧ RowC (grow (X.drewN nq) osq) C a.e ∧ Row (grow (X.drewN nq) osq) E b.c.l ∧ RowC (grow (X.drewN nq) osq) D b.e) := by
          have hg : Gr X (grow (X.drewN nq) osq) := ⟨nq, osq, rfl⟩
          exact ⟨hR7.out.2.1.gr hg, hR7.out.2.2.1.gr hg, hR7.out.2.2.2.1.gr hg, hR7.out.2.2.2.2.gr hg⟩
        have hab : Hid (a = pakA x ∧ b = pakB x) := hR7.out.1
        have hrA := hRq.a
        clear hRq
        generalize grow (X.drewN nq) osq = WQ at hDZ hRZ hrA ⊢
        have z0 : WQ.cell? ⟨B, 0, none⟩ = some (.int .i64 0) := hDZ.out.z.c 0 (by simp)
        have y0 := hDZ.out.z.f 0
        have z1 : WQ.cell? ⟨B, 1, none⟩ = some (.int .i64 0) := hDZ.out.z.c 1 (by simp)
        have y1 := hDZ.out.z.f 1
        have z2 : WQ.cell? ⟨B, 2, none⟩ = some (.int .i64 0) := hDZ.out.z.c 2 (by simp)
        have y2 := hDZ.out.z.f 2
        have z3 : WQ.cell? ⟨B, 3, none⟩ = some (.int .i64 0) := hDZ.out.z.c 3 (by simp)
        have y3 := hDZ.out.z.f 3
        have z4 : WQ.cell? ⟨B, 4, none⟩ = some (.slice none 0 0) := hDZ.out.z.c 4 (by simp)
        have y4 := hDZ.out.z.f 4
        have z5 : WQ.cell? ⟨B, 5, none⟩ = some (.slice none 0 0) := hDZ.out.z.c 5 (by simp)
        have y5 := hDZ.out.z.f 5
        have z6 : WQ.cell? ⟨B, 6, none⟩ = some (.int .i64 0) := hDZ.out.z.c 6 (by simp)
        have y6 := hDZ.out.z.f 6
        have z7 : WQ.cell? ⟨B, 7, none⟩ = some (.int .i64 0) := hDZ.out.z.c 7 (by simp)
        have y7 := hDZ.out.z.f 7
        have z8 : WQ.cell? ⟨B, 8, none⟩ = some (.int .i64 0) := hDZ.out.z.c 8 (by simp)
        have y8 := hDZ.out.z.f 8
        have z9 : WQ.cell? ⟨B, 9, none⟩ = some (.int .i64 0) := hDZ.out.z.c 9 (by simp)
        have y9 := hDZ.out.z.f 9
        have z10 : WQ.cell? ⟨B, 10, none⟩ = some (.slice none 0 0) := hDZ.out.z.c 10 (by simp)
        have y10 := hDZ.out.z.f 10
        have z11 : WQ.cell? ⟨B, 11, none⟩ = some (.slice none 0 0) := hDZ.out.z.c 11 (by simp)
        have y11 := hDZ.out.z.f 11
        have p0 : WQ.cell? ⟨B + 2, 0, none⟩ = some (.int .i64 a.c.c0) := hDZ.out.t.c 0 (by simp)
        have p1 : WQ.cell? ⟨B + 2, 1, none⟩ = some (.int .i64 a.c.c1) := hDZ.out.t.c 1 (by simp)
        have p2 : WQ.cell? ⟨B + 2, 2, none⟩ = some (.int .i64 a.c.c2) := hDZ.out.t.c 2 (by simp)
        have p3 : WQ.cell? ⟨B + 2, 3, none⟩ = some (.int .i64 a.c.c3) := hDZ.out.t.c 3 (by simp)
        have p4 : WQ.cell? ⟨B + 2, 4, none⟩ = some (.slice A a.c.l.length ca) := hDZ.out.t.c 4 (by simp)
        have p5 : WQ.cell? ⟨B + 2, 5, none⟩ = some (.slice C a.e.length cc) := hDZ.out.t.c 5 (by simp)
        have p6 : WQ.cell? ⟨B + 2, 6, none⟩ = some (.int .i64 b.c.c0) := hDZ.out.t.c 6 (by simp)
        have p7 : WQ.cell? ⟨B + 2, 7, none⟩ = some (.int .i64 b.c.c1) := hDZ.out.t.c 7 (by simp)
        have p8 : WQ.cell? ⟨B + 2, 8, none⟩ = some (.int .i64 b.c.c2) := hDZ.out.t.c 8 (by simp)
        have p9 : WQ.cell? ⟨B + 2, 9, none⟩ = some (.int .i64 b.c.c3) := hDZ.out.t.c 9 (by simp)
        have p10 : WQ.cell? ⟨B + 2, 10, none⟩ = some (.slice E b.c.l.length ce) := hDZ.out.t.c 10 (by simp)
        have p11 : WQ.cell? ⟨B + 2, 11, none⟩ = some (.slice D b.e.length cd) := hDZ.out.t.c 11 (by simp)
        clear hsumH hpreH hchkH hR7 hD7 hsm hRXH
        go_wp2_with fail
        go_region
        have hXF := (((((((((((((hDZ.out.z.put (i := 0) (by simp) (.int .i64 a.c.c0)).put (i := 1) (by simp) (.int .i64 a.c.c1)).put (i := 2) (by simp) (.int .i64 a.c.c2)).put (i := 3) (by simp) (.int .i64 a.c.c3)).put (i := 4) (by simp) (.slice A a.c.l.length ca)).put (i := 5) (by simp) (.slice C a.e.length cc)).put (i := 6) (by simp) (.int .i64 b.c.c0)).put (i := 7) (by simp) (.int .i64 b.c.c1)).put (i := 8) (by simp) (.int .i64 b.c.c2)).put (i := 9) (by simp) (.int .i64 b.c.c3)).put (i := 10) (by simp) (.slice E b.c.l.length ce)).put (i := 11) (by simp) (.slice D b.e.length cd))).gr (Gr.refl _).drew
        have hBF : Below w.heap.size w (((((((((((((WQ.setCell ⟨B, 0, none⟩ (.int .i64 a.c.c0)).setCell ⟨B, 1, none⟩ (.int .i64 a.c.c1)).setCell ⟨B, 2, none⟩ (.int .i64 a.c.c2)).setCell ⟨B, 3, none⟩ (.int .i64 a.c.c3)).setCell ⟨B, 4, none⟩ (.slice A a.c.l.length ca)).setCell ⟨B, 5, none⟩ (.slice C a.e.length cc)).setCell ⟨B, 6, none⟩ (.int .i64 b.c.c0)).setCell ⟨B, 7, none⟩ (.int .i64 b.c.c1)).setCell ⟨B, 8, none⟩ (.int .i64 b.c.c2)).setCell ⟨B, 9, none⟩ (.int .i64 b.c.c3)).setCell ⟨B, 10, none⟩ (.slice E b.c.l.length ce)).setCell ⟨B, 11, none⟩ (.slice D b.e.length cd))).drew := Below.drew (below_set (below_set (below_set (below_set (below_set (below_set (below_set (below_set (below_set (below_set (below_set (below_set hDZ.out.bel (by have := hDZ.out.b; omega) _) (by have := hDZ.out.b; omega) _) (by have := hDZ.out.b; omega) _) (by have := hDZ.out.b; omega) _) (by have := hDZ.out.b; omega) _) (by have := hDZ.out.b; omega) _) (by have := hDZ.out.b; omega) _) (by have := hDZ.out.b; omega) _) (by have := hDZ.out.b; omega) _) (by have := hDZ.out.b; omega) _) (by have := hDZ.out.b; omega) _) (by have := hDZ.out.b; omega) _)
        have hAF : Row (((((((((((((WQ.setCell ⟨B, 0, none⟩ (.int .i64 a.c.c0)).setCell ⟨B, 1, none⟩ (.int .i64 a.c.c1)).setCell ⟨B, 2, none⟩ (.int .i64 a.c.c2)).setCell ⟨B, 3, none⟩ (.int .i64 a.c.c3)).setCell ⟨B, 4, none⟩ (.slice A a.c.l.length ca)).setCell ⟨B, 5, none⟩ (.slice C a.e.length cc)).setCell ⟨B, 6, none⟩ (.int .i64 b.c.c0)).setCell ⟨B, 7, none⟩ (.int .i64 b.c.c1)).setCell ⟨B, 8, none⟩ (.int .i64 b.c.c2)).setCell ⟨B, 9, none⟩ (.int .i64 b.c.c3)).setCell ⟨B, 10, none⟩ (.slice E b.c.l.length ce)).setCell ⟨B, 11, none⟩ (.slice D b.e.length cd))).drew A a.c.l := ((Row.other (Row.other (Row.other (Row.other (Row.other (Row.other (Row.other (Row.other (Row.other (Row.other (Row.other (Row.other hRZ.out.1 (grown_set _ (B) _ _) (hneAH.out _ (by omega))) (grown_set _ (B) _ _) (hneAH.out _ (by omega))) (grown_set _ (B) _ _) (hneAH.out _ (by omega))) (grown_set _ (B) _ _) (hneAH.out _ (by omega))) (grown_set _ (B) _ _) (hneAH.out _ (by omega))) (grown_set _ (B) _ _) (hneAH.out _ (by omega))) (grown_set _ (B) _ _) (hneAH.out _ (by omega))) (grown_set _ (B) _ _) (hneAH.out _ (by omega))) (grown_set _ (B) _ _) (hneAH.out _ (by omega))) (grown_set _ (B) _ _) (hneAH.out _ (by omega))) (grown_set _ (B) _ _) (hneAH.out _ (by omega))) (grown_set _ (B) _ _) (hneAH.out _ (by omega)))).gr (Gr.refl _).drew
        have hCF : RowC (((((((((((((WQ.setCell ⟨B, 0, none⟩ (.int .i64 a.c.c0)).setCell ⟨B, 1, none⟩ (.int .i64 a.c.c1)).setCell ⟨B, 2, none⟩ (.int .i64 a.c.c2)).setCell ⟨B, 3, none⟩ (.int .i64 a.c.c3)).setCell ⟨B, 4, none⟩ (.slice A a.c.l.length ca)).setCell ⟨B, 5, none⟩ (.slice C a.e.length cc)).setCell ⟨B, 6, none⟩ (.int .i64 b.c.c0)).setCell ⟨B, 7, none⟩ (.int .i64 b.c.c1)).setCell ⟨B, 8, none⟩ (.int .i64 b.c.c2)).setCell ⟨B, 9, none⟩ (.int .i64 b.c.c3)).setCell ⟨B, 10, none⟩ (.slice E b.c.l.length ce)).setCell ⟨B, 11, none⟩ (.slice D b.e.length cd))).drew C a.e := ((RowG.other (RowG.other (RowG.other (RowG.other (RowG.other (RowG.other (RowG.other (RowG.other (RowG.other (RowG.other (RowG.other (RowG.other hRZ.out.2.1 (grown_set _ (B) _ _) (hneCH.out _ (by omega))) (grown_set _ (B) _ _) (hneCH.out _ (by omega))) (grown_set _ (B) _ _) (hneCH.out _ (by omega))) (grown_set _ (B) _ _) (hneCH.out _ (by omega))) (grown_set _ (B) _ _) (hneCH.out _ (by omega))) (grown_set _ (B) _ _) (hneCH.out _ (by omega))) (grown_set _ (B) _ _) (hneCH.out _ (by omega))) (grown_set _ (B) _ _) (hneCH.out _ (by omega))) (grown_set _ (B) _ _) (hneCH.out _ (by omega))) (grown_set _ (B) _ _) (hneCH.out _ (by omega))) (grown_set _ (B) _ _) (hneCH.out _ (by omega))) (grown_set _ (B) _ _) (hneCH.out _ (by omega)))).gr (Gr.refl _).drew
        have hEF : Row (((((((((((((WQ.setCell ⟨B, 0, none⟩ (.int .i64 a.c.c0)).setCell ⟨B, 1, none⟩ (.int .i64 a.c.c1)).setCell ⟨B, 2, none⟩ (.int .i64 a.c.c2)).setCell ⟨B, 3, none⟩ (.int .i64 a.c.c3)).setCell ⟨B, 4, none⟩ (.slice A a.c.l.length ca)).setCell ⟨B, 5, none⟩ (.slice C a.e.length cc)).setCell ⟨B, 6, none⟩ (.int .i64 b.c.c0)).setCell ⟨B, 7, none⟩ (.int .i64 b.c.c1)).setCell ⟨B, 8, none⟩ (.int .i64 b.c.c2)).setCell ⟨B, 9, none⟩ (.int .i64 b.c.c3)).setCell ⟨B, 10, none⟩ (.slice E b.c.l.length ce)).setCell ⟨B, 11, none⟩ (.slice D b.e.length cd))).drew E b.c.l := ((Row.other (Row.other (Row.other (Row.other (Row.other (Row.other (Row.other (Row.other (Row.other (Row.other (Row.other (Row.other hRZ.out.2.2.1 (grown_set _ (B) _ _) (hneEH.out _ (by omega))) (grown_set _ (B) _ _) (hneEH.out _ (by omega))) (grown_set _ (B) _ _) (hneEH.out _ (by omega))) (grown_set _ (B) _ _) (hneEH.out _ (by omega))) (grown_set _ (B) _ _) (hneEH.out _ (by omega))) (grown_set _ (B) _ _) (hneEH.out _ (by omega))) (grown_set _ (B) _ _) (hneEH.out _ (by omega))) (grown_set _ (B) _ _) (hneEH.out _ (by omega))) (grown_set _ (B) _ _) (hneEH.out _ (by omega))) (grown_set _ (B) _ _) (hneEH.out _ (by omega))) (grown_set _ (B) _ _) (hneEH.out _ (by omega))) (grown_set _ (B) _ _) (hneEH.out _ (by omega)))).gr (Gr.refl _).drew
        have hDF : RowC (((((((((((((WQ.setCell ⟨B, 0, none⟩ (.int .i64 a.c.c0)).setCell ⟨B, 1, none⟩ (.int .i64 a.c.c1)).setCell ⟨B, 2, none⟩ (.int .i64 a.c.c2)).setCell ⟨B, 3, none⟩ (.int .i64 a.c.c3)).setCell ⟨B, 4, none⟩ (.slice A a.c.l.length ca)).setCell ⟨B, 5, none⟩ (.slice C a.e.length cc)).setCell ⟨B, 6, none⟩ (.int .i64 b.c.c0)).setCell ⟨B, 7, none⟩ (.int .i64 b.c.c1)).setCell ⟨B, 8, none⟩ (.int .i64 b.c.c2)).setCell ⟨B, 9, none⟩ (.int .i64 b.c.c3)).setCell ⟨B, 10, none⟩ (.slice E b.c.l.length ce)).setCell ⟨B, 11, none⟩ (.slice D b.e.length cd))).drew D b.e := ((RowG.other (RowG.other (RowG.other (RowG.other (RowG.other (RowG.other (RowG.other (RowG.other (RowG.other (RowG.other (RowG.other (RowG.other hRZ.out.2.2.2 (grown_set _ (B) _ _) (hneDH.out _ (by omega))) (grown_set _ (B) _ _) (hneDH.out _ (by omega))) (grown_set _ (B) _ _) (hneDH.out _ (by omega))) (grown_set _ (B) _ _) (hneDH.out _ (by omega))) (grown_set _ (B) _ _) (hneDH.out _ (by omega))) (grown_set _ (B) _ _) (hneDH.out _ (by omega))) (grown_set _ (B) _ _) (hneDH.out _ (by omega))) (grown_set _ (B) _ _) (hneDH.out _ (by omega))) (grown_set _ (B) _ _) (hneDH.out _ (by omega))) (grown_set _ (B) _ _) (hneDH.out _ (by omega))) (grown_set _ (B) _ _) (hneDH.out _ (by omega))) (grown_set _ (B) _ _) (hneDH.out _ (by omega)))).gr (Gr.refl _).drew
        generalize (((((((((((((WQ.setCell ⟨B, 0, none⟩ (.int .i64 a.c.c0)).setCell ⟨B, 1, none⟩ (.int .i64 a.c.c1)).setCell ⟨B, 2, none⟩ (.int .i64 a.c.c2)).setCell ⟨B, 3, none⟩ (.int .i64 a.c.c3)).setCell ⟨B, 4, none⟩ (.slice A a.c.l.length ca)).setCell ⟨B, 5, none⟩ (.slice C a.e.length cc)).setCell ⟨B, 6, none⟩ (.int .i64 b.c.c0)).setCell ⟨B, 7, none⟩ (.int .i64 b.c.c1)).setCell ⟨B, 8, none⟩ (.int .i64 b.c.c2)).setCell ⟨B, 9, none⟩ (.int .i64 b.c.c3)).setCell ⟨B, 10, none⟩ (.slice E b.c.l.length ce)).setCell ⟨B, 11, none⟩ (.slice D b.e.length cd))).drew = WF at hXF hBF hAF hCF hEF hDF ⊢
        clear hDZ hRZ hrA
        go_wp2
        have r0 : WF.cell? ⟨B, 0, none⟩ = some (.int .i64 a.c.c0) := hXF.c 0 (by simp)
        have r1 : WF.cell? ⟨B, 1, none⟩ = some (.int .i64 a.c.c1) := hXF.c 1 (by simp)
        have r2 : WF.cell? ⟨B, 2, none⟩ = some (.int .i64 a.c.c2) := hXF.c 2 (by simp)
        have r3 : WF.cell? ⟨B, 3, none⟩ = some (.int .i64 a.c.c3) := hXF.c 3 (by simp)
        have r4 : WF.cell? ⟨B, 4, none⟩ = some (.slice A a.c.l.length ca) := hXF.c 4 (by simp)
        have r5 : WF.cell? ⟨B, 5, none⟩ = some (.slice C a.e.length cc) := hXF.c 5 (by simp)
        have r6 : WF.cell? ⟨B, 6, none⟩ = some (.int .i64 b.c.c0) := hXF.c 6 (by simp)
        have r7 : WF.cell? ⟨B, 7, none⟩ = some (.int .i64 b.c.c1) := hXF.c 7 (by simp)
        have r8 : WF.cell? ⟨B, 8, none⟩ = some (.int .i64 b.c.c2) := hXF.c 8 (by simp)
        have r9 : WF.cell? ⟨B, 9, none⟩ = some (.int .i64 b.c.c3) := hXF.c 9 (by simp)
        have r10 : WF.cell? ⟨B, 10, none⟩ = some (.slice E b.c.l.length ce) := hXF.c 10 (by simp)
        have r11 : WF.cell? ⟨B, 11, none⟩ = some (.slice D b.e.length cd) := hXF.c 11 (by simp)
        refine bodyPost_ret (v := .tuple #[.agg #[.int .i64 a.c.c0, .int .i64 a.c.c1, .int .i64 a.c.c2, .int .i64 a.c.c3, .slice A a.c.l.length ca, .slice C a.e.length cc, .int .i64 b.c.c0, .int .i64 b.c.c1, .int .i64 b.c.c2, .int .i64 b.c.c3, .slice E b.c.l.length ce, .slice D b.e.length cd], .int .i64 ((at_ : Int) + 4), .int .i64 0]) (by simp [results, Try.results13, go_sem, r0, r1, r2, r3, r4, r5, r6, r7, r8, r9, r10, r11]) rfl ⟨a, b, A, ca, C, cc, E, ce, D, cd, (at_ : Int) + 4, 0, rfl, ?_⟩
        unfold decA decB decN decE
        rw [hyes.out, hat.out]
        exact ⟨⟨hab.out.1, hab.out.2, rfl, rfl⟩, hAF, hCF, hEF, hDF, by first | exact hBF | (rw [← hB]; exact hBF)⟩
      · have hE0b : (EP != 0) = true := by simpa using hE0
        have hno : Hid (decOk x = false) := by
          show _ = _
          rw [hdec.out]
          by_cases h1 : errT a = 0
          · have h2 : errT b ≠ 0 := by
              intro h2
              apply hE0
              rw [← hEPH.out]
              unfold errP
              rw [if_neg (by simp [h1]), h2]
            simp [h2]
          · simp [h1]
        refine wp_region_quiet_grown mixed (by kernel_rfl) ?_
        repeat (go_big_quiet_step (first | (go_at_call 25; exact hsumH.out _ _) | (go_at_call 28; exact hpreH.out _ _) | (go_at_call 23; exact hchkH.out _ _)))
        refine wpQuiet_nil ?_
        rintro _ ⟨⟨nq, osq⟩, rfl⟩
        clear q1 q2 p0 p1 p2 p3 p4 p5 p6 p7 p8 p9 p10 p11 hcutA hcutB
        have hDZ : Hid (DS w (grow (X.drewN nq) osq) x (pakS x) B [.int .i64 a.c.c0, .int .i64 a.c.c1, .int .i64 a.c.c2, .int .i64 a.c.c3, .slice A a.c.l.length ca, .slice C a.e.length cc, .int .i64 b.c.c0, .int .i64 b.c.c1, .int .i64 b.c.c2, .int .i64 b.c.c3, .slice E b.c.l.length ce, .slice D b.e.length cd]) := hD7.out.gr ⟨nq, osq, rfl⟩
        generalize (grow (X.drewN nq) osq) = WQ at hDZ ⊢
        have z0 : WQ.cell? ⟨B, 0, none⟩ = some (.int .i64 0) := hDZ.out.z.c 0 (by simp)
        have y0 := hDZ.out.z.f 0
        have z1 : WQ.cell? ⟨B, 1, none⟩ = some (.int .i64 0) := hDZ.out.z.c 1 (by simp)
        have y1 := hDZ.out.z.f 1
        have z2 : WQ.cell? ⟨B, 2, none⟩ = some (.int .i64 0) := hDZ.out.z.c 2 (by simp)
        have y2 := hDZ.out.z.f 2
        have z3 : WQ.cell? ⟨B, 3, none⟩ = some (.int .i64 0) := hDZ.out.z.c 3 (by simp)
        have y3 := hDZ.out.z.f 3
        have z4 : WQ.cell? ⟨B, 4, none⟩ = some (.slice none 0 0) := hDZ.out.z.c 4 (by simp)
        have y4 := hDZ.out.z.f 4
        have z5 : WQ.cell? ⟨B, 5, none⟩ = some (.slice none 0 0) := hDZ.out.z.c 5 (by simp)
        have y5 := hDZ.out.z.f 5
        have z6 : WQ.cell? ⟨B, 6, none⟩ = some (.int .i64 0) := hDZ.out.z.c 6 (by simp)
        have y6 := hDZ.out.z.f 6
        have z7 : WQ.cell? ⟨B, 7, none⟩ = some (.int .i64 0) := hDZ.out.z.c 7 (by simp)
        have y7 := hDZ.out.z.f 7
        have z8 : WQ.cell? ⟨B, 8, none⟩ = some (.int .i64 0) := hDZ.out.z.c 8 (by simp)
        have y8 := hDZ.out.z.f 8
        have z9 : WQ.cell? ⟨B, 9, none⟩ = some (.int .i64 0) := hDZ.out.z.c 9 (by simp)
        have y9 := hDZ.out.z.f 9
        have z10 : WQ.cell? ⟨B, 10, none⟩ = some (.slice none 0 0) := hDZ.out.z.c 10 (by simp)
        have y10 := hDZ.out.z.f 10
        have z11 : WQ.cell? ⟨B, 11, none⟩ = some (.slice none 0 0) := hDZ.out.z.c 11 (by simp)
        have y11 := hDZ.out.z.f 11
        go_wp2
        have hXF := ((((((((((((hDZ.out.z.put (i := 0) (by simp) (.int .i64 0)).put (i := 1) (by simp) (.int .i64 0)).put (i := 2) (by simp) (.int .i64 0)).put (i := 3) (by simp) (.int .i64 0)).put (i := 4) (by simp) (.slice none 0 0)).put (i := 5) (by simp) (.slice none 0 0)).put (i := 6) (by simp) (.int .i64 0)).put (i := 7) (by simp) (.int .i64 0)).put (i := 8) (by simp) (.int .i64 0)).put (i := 9) (by simp) (.int .i64 0)).put (i := 10) (by simp) (.slice none 0 0)).put (i := 11) (by simp) (.slice none 0 0))
        have hBF : Below w.heap.size w ((((((((((((WQ.setCell ⟨B, 0, none⟩ (.int .i64 0)).setCell ⟨B, 1, none⟩ (.int .i64 0)).setCell ⟨B, 2, none⟩ (.int .i64 0)).setCell ⟨B, 3, none⟩ (.int .i64 0)).setCell ⟨B, 4, none⟩ (.slice none 0 0)).setCell ⟨B, 5, none⟩ (.slice none 0 0)).setCell ⟨B, 6, none⟩ (.int .i64 0)).setCell ⟨B, 7, none⟩ (.int .i64 0)).setCell ⟨B, 8, none⟩ (.int .i64 0)).setCell ⟨B, 9, none⟩ (.int .i64 0)).setCell ⟨B, 10, none⟩ (.slice none 0 0)).setCell ⟨B, 11, none⟩ (.slice none 0 0)) := (below_set (below_set (below_set (below_set (below_set (below_set (below_set (below_set (below_set (below_set (below_set (below_set hDZ.out.bel (by have := hDZ.out.b; omega) _) (by have := hDZ.out.b; omega) _) (by have := hDZ.out.b; omega) _) (by have := hDZ.out.b; omega) _) (by have := hDZ.out.b; omega) _) (by have := hDZ.out.b; omega) _) (by have := hDZ.out.b; omega) _) (by have := hDZ.out.b; omega) _) (by have := hDZ.out.b; omega) _) (by have := hDZ.out.b; omega) _) (by have := hDZ.out.b; omega) _) (by have := hDZ.out.b; omega) _)
        generalize ((((((((((((WQ.setCell ⟨B, 0, none⟩ (.int .i64 0)).setCell ⟨B, 1, none⟩ (.int .i64 0)).setCell ⟨B, 2, none⟩ (.int .i64 0)).setCell ⟨B, 3, none⟩ (.int .i64 0)).setCell ⟨B, 4, none⟩ (.slice none 0 0)).setCell ⟨B, 5, none⟩ (.slice none 0 0)).setCell ⟨B, 6, none⟩ (.int .i64 0)).setCell ⟨B, 7, none⟩ (.int .i64 0)).setCell ⟨B, 8, none⟩ (.int .i64 0)).setCell ⟨B, 9, none⟩ (.int .i64 0)).setCell ⟨B, 10, none⟩ (.slice none 0 0)).setCell ⟨B, 11, none⟩ (.slice none 0 0)) = WF at hXF hBF ⊢
        have r0 : WF.cell? ⟨B, 0, none⟩ = some (.int .i64 0) := hXF.c 0 (by simp)
        have r1 : WF.cell? ⟨B, 1, none⟩ = some (.int .i64 0) := hXF.c 1 (by simp)
        have r2 : WF.cell? ⟨B, 2, none⟩ = some (.int .i64 0) := hXF.c 2 (by simp)
        have r3 : WF.cell? ⟨B, 3, none⟩ = some (.int .i64 0) := hXF.c 3 (by simp)
        have r4 : WF.cell? ⟨B, 4, none⟩ = some (.slice none 0 0) := hXF.c 4 (by simp)
        have r5 : WF.cell? ⟨B, 5, none⟩ = some (.slice none 0 0) := hXF.c 5 (by simp)
        have r6 : WF.cell? ⟨B, 6, none⟩ = some (.int .i64 0) := hXF.c 6 (by simp)
        have r7 : WF.cell? ⟨B, 7, none⟩ = some (.int .i64 0) := hXF.c 7 (by simp)
        have r8 : WF.cell? ⟨B, 8, none⟩ = some (.int .i64 0) := hXF.c 8 (by simp)
        have r9 : WF.cell? ⟨B, 9, none⟩ = some (.int .i64 0) := hXF.c 9 (by simp)
        have r10 : WF.cell? ⟨B, 10, none⟩ = some (.slice none 0 0) := hXF.c 10 (by simp)
        have r11 : WF.cell? ⟨B, 11, none⟩ = some (.slice none 0 0) := hXF.c 11 (by simp)
        refine bodyPost_ret (v := .tuple #[.agg #[.int .i64 0, .int .i64 0, .int .i64 0, .int .i64 0, .slice none 0 0, .slice none 0 0, .int .i64 0, .int .i64 0, .int .i64 0, .int .i64 0, .slice none 0 0, .slice none 0 0], .int .i64 0, .int .i64 5]) (by simp [results, Try.results13, go_sem, r0, r1, r2, r3, r4, r5, r6, r7, r8, r9, r10, r11]) rfl ⟨zeroTab, zeroTab, none, 0, none, 0, none, 0, none, 0, 0, 5, rfl, ?_⟩
        unfold decA decB decN decE
        rw [hno.out]
        exact ⟨⟨rfl, rfl, rfl, rfl⟩, Or.inl rfl, Or.inl rfl, Or.inl rfl, Or.inl rfl, by first | exact hBF | (rw [← hB]; exact hBF)⟩
end Go.Proofs.Ytbhhpijidbhipaa
