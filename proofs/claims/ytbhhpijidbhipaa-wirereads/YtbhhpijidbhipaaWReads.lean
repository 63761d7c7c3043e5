/-
  viewlaw.samePacket; the law WireReads, walked, given what viewref.Decoded answers (gens/mkwreads.py writes it).
-/
import Derived.Test.YtbhhpijidbhipaaWBackM
namespace Go.Proofs.Ytbhhpijidbhipaa
open Go.RowKit Go.Sort

set_option maxRecDepth 100000 in
set_option maxHeartbeats 4000000 in
theorem samePacket_any (a b : Tab) (A : Option Addr) (ca : Nat) (C : Option Addr) (cc : Nat) (E : Option Addr) (ce : Nat) (D : Option Addr) (cd : Nat) (A2 : Option Addr) (ca2 : Nat) (C2 : Option Addr) (cc2 : Nat) (E2 : Option Addr) (ce2 : Nat) (D2 : Option Addr) (cd2 : Nat) (w : World) (hal : a.c.l.length ≤ maxLen) (hael : a.e.length ≤ maxLen) (hbl : b.c.l.length ≤ maxLen) (hbel : b.e.length ≤ maxLen)
    (h1 : Row w A a.c.l ∧ RowC w C a.e ∧ Row w E b.c.l ∧ RowC w D b.e) (h2 : Row w A2 a.c.l ∧ RowC w C2 a.e ∧ Row w E2 b.c.l ∧ RowC w D2 b.e) :
    Calls Try.prog 15 #[.agg #[.int .i64 a.c.c0, .int .i64 a.c.c1, .int .i64 a.c.c2, .int .i64 a.c.c3, .slice A a.c.l.length ca, .slice C a.e.length cc, .int .i64 b.c.c0, .int .i64 b.c.c1, .int .i64 b.c.c2, .int .i64 b.c.c3, .slice E b.c.l.length ce, .slice D b.e.length cd], .agg #[.int .i64 a.c.c0, .int .i64 a.c.c1, .int .i64 a.c.c2, .int .i64 a.c.c3, .slice A2 a.c.l.length ca2, .slice C2 a.e.length cc2, .int .i64 b.c.c0, .int .i64 b.c.c1, .int .i64 b.c.c2, .int .i64 b.c.c3, .slice E2 b.c.l.length ce2, .slice D2 b.e.length cd2]] w fun e w' => e = .returned (.bool true) ∧ Gr w w' := by
  obtain ⟨W1, hW1⟩ : ∃ W, w.alloc (.cells #[.int .i64 a.c.c0, .int .i64 a.c.c1, .int .i64 a.c.c2, .int .i64 a.c.c3, .slice A a.c.l.length ca, .slice C a.e.length cc, .int .i64 b.c.c0, .int .i64 b.c.c1, .int .i64 b.c.c2, .int .i64 b.c.c3, .slice E b.c.l.length ce, .slice D b.e.length cd] 31) = W := ⟨_, rfl⟩
  obtain ⟨W2, hW2⟩ : ∃ W, W1.alloc (.cells #[.int .i64 a.c.c0, .int .i64 a.c.c1, .int .i64 a.c.c2, .int .i64 a.c.c3, .slice A2 a.c.l.length ca2, .slice C2 a.e.length cc2, .int .i64 b.c.c0, .int .i64 b.c.c1, .int .i64 b.c.c2, .int .i64 b.c.c3, .slice E2 b.c.l.length ce2, .slice D2 b.e.length cd2] 31) = W := ⟨_, rfl⟩
  obtain ⟨B, hB⟩ : ∃ B, w.heap.size = B := ⟨_, rfl⟩
  have g1 : Gr w W1 := by rw [← hW1]; exact (Gr.refl _).alloc _
  have g2 : Gr W1 W2 := by rw [← hW2]; exact (Gr.refl _).alloc _
  have hs1 : W1.heap.size = B + 1 := by rw [← hW1, ← hB]; simp
  have bx1 : Bx W1 B [.int .i64 a.c.c0, .int .i64 a.c.c1, .int .i64 a.c.c2, .int .i64 a.c.c3, .slice A a.c.l.length ca, .slice C a.e.length cc, .int .i64 b.c.c0, .int .i64 b.c.c1, .int .i64 b.c.c2, .int .i64 b.c.c3, .slice E b.c.l.length ce, .slice D b.e.length cd] := by rw [← hW1]; exact Bx.new w _ _ hB
  have bx2 : Bx W2 (B + 1) [.int .i64 a.c.c0, .int .i64 a.c.c1, .int .i64 a.c.c2, .int .i64 a.c.c3, .slice A2 a.c.l.length ca2, .slice C2 a.e.length cc2, .int .i64 b.c.c0, .int .i64 b.c.c1, .int .i64 b.c.c2, .int .i64 b.c.c3, .slice E2 b.c.l.length ce2, .slice D2 b.e.length cd2] := by rw [← hW2]; exact Bx.new W1 _ _ hs1
  have hX : Hid (∀ W, Gr W2 W → Bx W B [.int .i64 a.c.c0, .int .i64 a.c.c1, .int .i64 a.c.c2, .int .i64 a.c.c3, .slice A a.c.l.length ca, .slice C a.e.length cc, .int .i64 b.c.c0, .int .i64 b.c.c1, .int .i64 b.c.c2, .int .i64 b.c.c3, .slice E b.c.l.length ce, .slice D b.e.length cd] ∧ Bx W (B + 1) [.int .i64 a.c.c0, .int .i64 a.c.c1, .int .i64 a.c.c2, .int .i64 a.c.c3, .slice A2 a.c.l.length ca2, .slice C2 a.e.length cc2, .int .i64 b.c.c0, .int .i64 b.c.c1, .int .i64 b.c.c2, .int .i64 b.c.c3, .slice E2 b.c.l.length ce2, .slice D2 b.e.length cd2] ∧ Gr w W) := fun W h => ⟨(bx1.gr g2).gr h, bx2.gr h, (g1.trans g2).trans h⟩
  have hS1 : Hid (∀ W, Gr w W → Calls Try.prog 17 #[.agg #[.int .i64 a.c.c0, .int .i64 a.c.c1, .int .i64 a.c.c2, .int .i64 a.c.c3, .slice A a.c.l.length ca, .slice C a.e.length cc], .agg #[.int .i64 a.c.c0, .int .i64 a.c.c1, .int .i64 a.c.c2, .int .i64 a.c.c3, .slice A2 a.c.l.length ca2, .slice C2 a.e.length cc2]] W fun e w' => e = .returned (.bool true) ∧ Gr W w') := fun W h => by
    have := sameT_any a a A C A2 C2 ca cc ca2 cc2 W hal hal hael hael (h1.1.gr h) (h2.1.gr h) (h1.2.1.gr h) (h2.2.1.gr h)
    rw [sameT_self] at this
    exact this
  have hS2 : Hid (∀ W, Gr w W → Calls Try.prog 17 #[.agg #[.int .i64 b.c.c0, .int .i64 b.c.c1, .int .i64 b.c.c2, .int .i64 b.c.c3, .slice E b.c.l.length ce, .slice D b.e.length cd], .agg #[.int .i64 b.c.c0, .int .i64 b.c.c1, .int .i64 b.c.c2, .int .i64 b.c.c3, .slice E2 b.c.l.length ce2, .slice D2 b.e.length cd2]] W fun e w' => e = .returned (.bool true) ∧ Gr W w') := fun W h => by
    have := sameT_any b b E D E2 D2 ce cd ce2 cd2 W hbl hbl hbel hbel (h1.2.2.1.gr h) (h2.2.2.1.gr h) (h1.2.2.2.gr h) (h2.2.2.2.gr h)
    rw [sameT_self] at this
    exact this
  have hX2 := hX.out W2 (Gr.refl _)
  have x0 : W2.cell? ⟨B, 0, none⟩ = some (.int .i64 a.c.c0) := hX2.1.c 0 (by simp)
  have x1 : W2.cell? ⟨B, 1, none⟩ = some (.int .i64 a.c.c1) := hX2.1.c 1 (by simp)
  have x2 : W2.cell? ⟨B, 2, none⟩ = some (.int .i64 a.c.c2) := hX2.1.c 2 (by simp)
  have x3 : W2.cell? ⟨B, 3, none⟩ = some (.int .i64 a.c.c3) := hX2.1.c 3 (by simp)
  have x4 : W2.cell? ⟨B, 4, none⟩ = some (.slice A a.c.l.length ca) := hX2.1.c 4 (by simp)
  have x5 : W2.cell? ⟨B, 5, none⟩ = some (.slice C a.e.length cc) := hX2.1.c 5 (by simp)
  have x6 : W2.cell? ⟨B, 6, none⟩ = some (.int .i64 b.c.c0) := hX2.1.c 6 (by simp)
  have x7 : W2.cell? ⟨B, 7, none⟩ = some (.int .i64 b.c.c1) := hX2.1.c 7 (by simp)
  have x8 : W2.cell? ⟨B, 8, none⟩ = some (.int .i64 b.c.c2) := hX2.1.c 8 (by simp)
  have x9 : W2.cell? ⟨B, 9, none⟩ = some (.int .i64 b.c.c3) := hX2.1.c 9 (by simp)
  have x10 : W2.cell? ⟨B, 10, none⟩ = some (.slice E b.c.l.length ce) := hX2.1.c 10 (by simp)
  have x11 : W2.cell? ⟨B, 11, none⟩ = some (.slice D b.e.length cd) := hX2.1.c 11 (by simp)
  have y0 : W2.cell? ⟨B + 1, 0, none⟩ = some (.int .i64 a.c.c0) := hX2.2.1.c 0 (by simp)
  have y1 : W2.cell? ⟨B + 1, 1, none⟩ = some (.int .i64 a.c.c1) := hX2.2.1.c 1 (by simp)
  have y2 : W2.cell? ⟨B + 1, 2, none⟩ = some (.int .i64 a.c.c2) := hX2.2.1.c 2 (by simp)
  have y3 : W2.cell? ⟨B + 1, 3, none⟩ = some (.int .i64 a.c.c3) := hX2.2.1.c 3 (by simp)
  have y4 : W2.cell? ⟨B + 1, 4, none⟩ = some (.slice A2 a.c.l.length ca2) := hX2.2.1.c 4 (by simp)
  have y5 : W2.cell? ⟨B + 1, 5, none⟩ = some (.slice C2 a.e.length cc2) := hX2.2.1.c 5 (by simp)
  have y6 : W2.cell? ⟨B + 1, 6, none⟩ = some (.int .i64 b.c.c0) := hX2.2.1.c 6 (by simp)
  have y7 : W2.cell? ⟨B + 1, 7, none⟩ = some (.int .i64 b.c.c1) := hX2.2.1.c 7 (by simp)
  have y8 : W2.cell? ⟨B + 1, 8, none⟩ = some (.int .i64 b.c.c2) := hX2.2.1.c 8 (by simp)
  have y9 : W2.cell? ⟨B + 1, 9, none⟩ = some (.int .i64 b.c.c3) := hX2.2.1.c 9 (by simp)
  have y10 : W2.cell? ⟨B + 1, 10, none⟩ = some (.slice E2 b.c.l.length ce2) := hX2.2.1.c 10 (by simp)
  have y11 : W2.cell? ⟨B + 1, 11, none⟩ = some (.slice D2 b.e.length cd2) := hX2.2.1.c 11 (by simp)
  have hC := hS1.out W2 hX2.2.2
  have hCH : Hid _ := hC
  clear hC hX2 bx1 bx2 g1 g2 h1 h2 hal hael hbl hbel
  go_enter Try.func15, Try.ntmps15
  go_wp2_with fail
  refine Calls.mono (show Calls _ _ _ _ _ from hCH.out) ?_
  rintro e w3 ⟨rfl, hg3⟩
  have hX3 := hX.out w3 hg3
  clear hCH hW1 hW2 x0 x1 x2 x3 x4 x5 x6 x7 x8 x9 x10 x11 y0 y1 y2 y3 y4 y5 y6 y7 y8 y9 y10 y11
  have x0 : w3.cell? ⟨B, 0, none⟩ = some (.int .i64 a.c.c0) := hX3.1.c 0 (by simp)
  have x1 : w3.cell? ⟨B, 1, none⟩ = some (.int .i64 a.c.c1) := hX3.1.c 1 (by simp)
  have x2 : w3.cell? ⟨B, 2, none⟩ = some (.int .i64 a.c.c2) := hX3.1.c 2 (by simp)
  have x3 : w3.cell? ⟨B, 3, none⟩ = some (.int .i64 a.c.c3) := hX3.1.c 3 (by simp)
  have x4 : w3.cell? ⟨B, 4, none⟩ = some (.slice A a.c.l.length ca) := hX3.1.c 4 (by simp)
  have x5 : w3.cell? ⟨B, 5, none⟩ = some (.slice C a.e.length cc) := hX3.1.c 5 (by simp)
  have x6 : w3.cell? ⟨B, 6, none⟩ = some (.int .i64 b.c.c0) := hX3.1.c 6 (by simp)
  have x7 : w3.cell? ⟨B, 7, none⟩ = some (.int .i64 b.c.c1) := hX3.1.c 7 (by simp)
  have x8 : w3.cell? ⟨B, 8, none⟩ = some (.int .i64 b.c.c2) := hX3.1.c 8 (by simp)
  have x9 : w3.cell? ⟨B, 9, none⟩ = some (.int .i64 b.c.c3) := hX3.1.c 9 (by simp)
  have x10 : w3.cell? ⟨B, 10, none⟩ = some (.slice E b.c.l.length ce) := hX3.1.c 10 (by simp)
  have x11 : w3.cell? ⟨B, 11, none⟩ = some (.slice D b.e.length cd) := hX3.1.c 11 (by simp)
  have y0 : w3.cell? ⟨B + 1, 0, none⟩ = some (.int .i64 a.c.c0) := hX3.2.1.c 0 (by simp)
  have y1 : w3.cell? ⟨B + 1, 1, none⟩ = some (.int .i64 a.c.c1) := hX3.2.1.c 1 (by simp)
  have y2 : w3.cell? ⟨B + 1, 2, none⟩ = some (.int .i64 a.c.c2) := hX3.2.1.c 2 (by simp)
  have y3 : w3.cell? ⟨B + 1, 3, none⟩ = some (.int .i64 a.c.c3) := hX3.2.1.c 3 (by simp)
  have y4 : w3.cell? ⟨B + 1, 4, none⟩ = some (.slice A2 a.c.l.length ca2) := hX3.2.1.c 4 (by simp)
  have y5 : w3.cell? ⟨B + 1, 5, none⟩ = some (.slice C2 a.e.length cc2) := hX3.2.1.c 5 (by simp)
  have y6 : w3.cell? ⟨B + 1, 6, none⟩ = some (.int .i64 b.c.c0) := hX3.2.1.c 6 (by simp)
  have y7 : w3.cell? ⟨B + 1, 7, none⟩ = some (.int .i64 b.c.c1) := hX3.2.1.c 7 (by simp)
  have y8 : w3.cell? ⟨B + 1, 8, none⟩ = some (.int .i64 b.c.c2) := hX3.2.1.c 8 (by simp)
  have y9 : w3.cell? ⟨B + 1, 9, none⟩ = some (.int .i64 b.c.c3) := hX3.2.1.c 9 (by simp)
  have y10 : w3.cell? ⟨B + 1, 10, none⟩ = some (.slice E2 b.c.l.length ce2) := hX3.2.1.c 10 (by simp)
  have y11 : w3.cell? ⟨B + 1, 11, none⟩ = some (.slice D2 b.e.length cd2) := hX3.2.1.c 11 (by simp)
  have hC := hS2.out w3 hX3.2.2
  have hCH : Hid _ := hC
  have hG3 : Hid (Gr w w3) := hX3.2.2
  clear hC hX3
  go_wp2_with fail
  refine Calls.mono (show Calls _ _ _ _ _ from hCH.out) ?_
  rintro e w4 ⟨rfl, hg4⟩
  clear hCH x0 x1 x2 x3 x4 x5 x6 x7 x8 x9 x10 x11 y0 y1 y2 y3 y4 y5 y6 y7 y8 y9 y10 y11
  go_wp2
  go_ret
  exact ⟨rfl, hG3.out.trans hg4⟩
/-- What is answered of a text. -/
def DecAns (x : List UInt8) (w : World) (e : Ending) (w' : World) : Prop := ∃ (a b : Tab) (A : Option Addr) (ca : Nat) (C : Option Addr) (cc : Nat) (E : Option Addr) (ce : Nat) (D : Option Addr) (cd : Nat) (n er : Int), e = .returned (.tuple #[.agg #[.int .i64 a.c.c0, .int .i64 a.c.c1, .int .i64 a.c.c2, .int .i64 a.c.c3, .slice A a.c.l.length ca, .slice C a.e.length cc, .int .i64 b.c.c0, .int .i64 b.c.c1, .int .i64 b.c.c2, .int .i64 b.c.c3, .slice E b.c.l.length ce, .slice D b.e.length cd], .int .i64 n, .int .i64 er]) ∧ Hid ((a = decA x ∧ b = decB x ∧ n = decN x ∧ er = decE x) ∧ Row w' A a.c.l ∧ RowC w' C a.e ∧ Row w' E b.c.l ∧ RowC w' D b.e ∧ Below w.heap.size w w')
theorem dec_small (x : List UInt8) : ((decA x).c.l.length ≤ maxLen ∧ (decA x).e.length ≤ maxLen) ∧ (decB x).c.l.length ≤ maxLen ∧ (decB x).e.length ≤ maxLen := by
  unfold decA decB
  cases decOk x
  · exact ⟨⟨Nat.zero_le _, Nat.zero_le _⟩, Nat.zero_le _, Nat.zero_le _⟩
  · have h1 := tabR_small (x, true)
    have h2 := tabR_small (tabS (x, true))
    exact ⟨⟨Nat.le_trans h1.1 (by decide), Nat.le_trans h1.2 (by decide)⟩, Nat.le_trans h2.1 (by decide), Nat.le_trans h2.2 (by decide)⟩

set_option maxRecDepth 100000 in
set_option maxHeartbeats 4000000 in
theorem wireReads_of (x : List UInt8) (w : World) (hx : x.length ≤ maxLen) (hR : ∀ W, Calls Try.prog 14 #[.string ⟨x.toArray⟩] W (DecAns x W)) :
    Calls Try.prog 4 #[.string ⟨x.toArray⟩] w fun e w' => e = .returned (.bool true) ∧ Below w.heap.size w w' := by
  have hRH : Hid (∀ W, Calls Try.prog 14 #[.string ⟨x.toArray⟩] W (DecAns x W)) := hR
  have hC := decode_any x w hx
  have hCH : Hid _ := hC
  clear hR hC
  go_enter Try.func4, Try.ntmps4
  go_wp2_with fail
  refine Calls.mono (show Calls _ _ _ _ _ from hCH.out) ?_
  rintro e w1 ⟨a, b, A, ca, C, cc, E, ce, D, cd, n, er, rfl, h1⟩
  obtain ⟨W1, hW1⟩ : ∃ W, w1.alloc (.cells #[.int .i64 a.c.c0, .int .i64 a.c.c1, .int .i64 a.c.c2, .int .i64 a.c.c3, .slice A a.c.l.length ca, .slice C a.e.length cc, .int .i64 b.c.c0, .int .i64 b.c.c1, .int .i64 b.c.c2, .int .i64 b.c.c3, .slice E b.c.l.length ce, .slice D b.e.length cd] 31) = W := ⟨_, rfl⟩
  obtain ⟨B, hB⟩ : ∃ B, w1.heap.size = B := ⟨_, rfl⟩
  have g1 : Gr w1 W1 := by rw [← hW1]; exact (Gr.refl _).alloc _
  have bx1 : Bx W1 B [.int .i64 a.c.c0, .int .i64 a.c.c1, .int .i64 a.c.c2, .int .i64 a.c.c3, .slice A a.c.l.length ca, .slice C a.e.length cc, .int .i64 b.c.c0, .int .i64 b.c.c1, .int .i64 b.c.c2, .int .i64 b.c.c3, .slice E b.c.l.length ce, .slice D b.e.length cd] := by rw [← hW1]; exact Bx.new w1 _ _ hB
  have hb1 : Hid (Below w.heap.size w W1) := h1.out.2.2.2.2.2.trans (g1.below.mono h1.out.2.2.2.2.2.size)
  have hC2 := hRH.out W1
  have hC2H : Hid _ := hC2
  have hk1 : Hid (∀ W, Below W1.heap.size W1 W → Bx W B [.int .i64 a.c.c0, .int .i64 a.c.c1, .int .i64 a.c.c2, .int .i64 a.c.c3, .slice A a.c.l.length ca, .slice C a.e.length cc, .int .i64 b.c.c0, .int .i64 b.c.c1, .int .i64 b.c.c2, .int .i64 b.c.c3, .slice E b.c.l.length ce, .slice D b.e.length cd] ∧ Row W A a.c.l ∧ RowC W C a.e ∧ Row W E b.c.l ∧ RowC W D b.e) := fun W h => by
    refine ⟨⟨fun j hj => (h.cell (p := ⟨B, j, none⟩) bx1.lt).trans (bx1.c j hj), fun j => (h.frozen (p := ⟨B, j, none⟩) bx1.lt).trans (bx1.f j), Nat.lt_of_lt_of_le bx1.lt h.size⟩, (h1.out.2.1.gr g1).below h, (h1.out.2.2.1.gr g1).below h, (h1.out.2.2.2.1.gr g1).below h, (h1.out.2.2.2.2.1.gr g1).below h⟩
  clear hC2 hCH hRH bx1 g1
  go_wp2_with fail
  refine Calls.mono (show Calls _ _ _ _ _ from hC2H.out) ?_
  rintro e w2 ⟨a2, b2, A2, ca2, C2, cc2, E2, ce2, D2, cd2, n2, er2, rfl, h2⟩
  obtain rfl : a = a2 := h1.out.1.1.trans h2.out.1.1.symm
  obtain rfl : b = b2 := h1.out.1.2.1.trans h2.out.1.2.1.symm
  obtain rfl : n = n2 := h1.out.1.2.2.1.trans h2.out.1.2.2.1.symm
  obtain rfl : er = er2 := h1.out.1.2.2.2.trans h2.out.1.2.2.2.symm
  have hsm := dec_small x
  rw [← h1.out.1.1, ← h1.out.1.2.1] at hsm
  obtain ⟨W2, hW2⟩ : ∃ W, w2.alloc (.cells #[.int .i64 a.c.c0, .int .i64 a.c.c1, .int .i64 a.c.c2, .int .i64 a.c.c3, .slice A2 a.c.l.length ca2, .slice C2 a.e.length cc2, .int .i64 b.c.c0, .int .i64 b.c.c1, .int .i64 b.c.c2, .int .i64 b.c.c3, .slice E2 b.c.l.length ce2, .slice D2 b.e.length cd2] 31) = W := ⟨_, rfl⟩
  obtain ⟨B2, hB2⟩ : ∃ B, w2.heap.size = B := ⟨_, rfl⟩
  have g2 : Gr w2 W2 := by rw [← hW2]; exact (Gr.refl _).alloc _
  have bx2 : Bx W2 B2 [.int .i64 a.c.c0, .int .i64 a.c.c1, .int .i64 a.c.c2, .int .i64 a.c.c3, .slice A2 a.c.l.length ca2, .slice C2 a.e.length cc2, .int .i64 b.c.c0, .int .i64 b.c.c1, .int .i64 b.c.c2, .int .i64 b.c.c3, .slice E2 b.c.l.length ce2, .slice D2 b.e.length cd2] := by rw [← hW2]; exact Bx.new w2 _ _ hB2
  have hbb := h2.out.2.2.2.2.2
  have hb2 : Below W1.heap.size W1 W2 := hbb.trans (g2.below.mono hbb.size)
  have hbw : Hid (Below w.heap.size w W2) := hb1.out.trans (hb2.mono hb1.out.size)
  have hk2 := hk1.out W2 hb2
  have x0 : W2.cell? ⟨B, 0, none⟩ = some (.int .i64 a.c.c0) := hk2.1.c 0 (by simp)
  have x1 : W2.cell? ⟨B, 1, none⟩ = some (.int .i64 a.c.c1) := hk2.1.c 1 (by simp)
  have x2 : W2.cell? ⟨B, 2, none⟩ = some (.int .i64 a.c.c2) := hk2.1.c 2 (by simp)
  have x3 : W2.cell? ⟨B, 3, none⟩ = some (.int .i64 a.c.c3) := hk2.1.c 3 (by simp)
  have x4 : W2.cell? ⟨B, 4, none⟩ = some (.slice A a.c.l.length ca) := hk2.1.c 4 (by simp)
  have x5 : W2.cell? ⟨B, 5, none⟩ = some (.slice C a.e.length cc) := hk2.1.c 5 (by simp)
  have x6 : W2.cell? ⟨B, 6, none⟩ = some (.int .i64 b.c.c0) := hk2.1.c 6 (by simp)
  have x7 : W2.cell? ⟨B, 7, none⟩ = some (.int .i64 b.c.c1) := hk2.1.c 7 (by simp)
  have x8 : W2.cell? ⟨B, 8, none⟩ = some (.int .i64 b.c.c2) := hk2.1.c 8 (by simp)
  have x9 : W2.cell? ⟨B, 9, none⟩ = some (.int .i64 b.c.c3) := hk2.1.c 9 (by simp)
  have x10 : W2.cell? ⟨B, 10, none⟩ = some (.slice E b.c.l.length ce) := hk2.1.c 10 (by simp)
  have x11 : W2.cell? ⟨B, 11, none⟩ = some (.slice D b.e.length cd) := hk2.1.c 11 (by simp)
  have y0 : W2.cell? ⟨B2, 0, none⟩ = some (.int .i64 a.c.c0) := bx2.c 0 (by simp)
  have y1 : W2.cell? ⟨B2, 1, none⟩ = some (.int .i64 a.c.c1) := bx2.c 1 (by simp)
  have y2 : W2.cell? ⟨B2, 2, none⟩ = some (.int .i64 a.c.c2) := bx2.c 2 (by simp)
  have y3 : W2.cell? ⟨B2, 3, none⟩ = some (.int .i64 a.c.c3) := bx2.c 3 (by simp)
  have y4 : W2.cell? ⟨B2, 4, none⟩ = some (.slice A2 a.c.l.length ca2) := bx2.c 4 (by simp)
  have y5 : W2.cell? ⟨B2, 5, none⟩ = some (.slice C2 a.e.length cc2) := bx2.c 5 (by simp)
  have y6 : W2.cell? ⟨B2, 6, none⟩ = some (.int .i64 b.c.c0) := bx2.c 6 (by simp)
  have y7 : W2.cell? ⟨B2, 7, none⟩ = some (.int .i64 b.c.c1) := bx2.c 7 (by simp)
  have y8 : W2.cell? ⟨B2, 8, none⟩ = some (.int .i64 b.c.c2) := bx2.c 8 (by simp)
  have y9 : W2.cell? ⟨B2, 9, none⟩ = some (.int .i64 b.c.c3) := bx2.c 9 (by simp)
  have y10 : W2.cell? ⟨B2, 10, none⟩ = some (.slice E2 b.c.l.length ce2) := bx2.c 10 (by simp)
  have y11 : W2.cell? ⟨B2, 11, none⟩ = some (.slice D2 b.e.length cd2) := bx2.c 11 (by simp)
  have hC3 := samePacket_any a b A ca C cc E ce D cd A2 ca2 C2 cc2 E2 ce2 D2 cd2 W2 hsm.1.1 hsm.1.2 hsm.2.1 hsm.2.2 hk2.2 ⟨h2.out.2.1.gr g2, h2.out.2.2.1.gr g2, h2.out.2.2.2.1.gr g2, h2.out.2.2.2.2.1.gr g2⟩
  have hC3H : Hid _ := hC3
  clear hC3 hk2 hk1 hC2H h1 h2 bx2 g2 hbb hb2 hsm hW1
  go_wp2_with fail
  refine Calls.mono (show Calls _ _ _ _ _ from hC3H.out) ?_
  rintro e w3 ⟨rfl, hg3⟩
  clear hC3H hW2 x0 x1 x2 x3 x4 x5 x6 x7 x8 x9 x10 x11 y0 y1 y2 y3 y4 y5 y6 y7 y8 y9 y10 y11
  go_wp2
  go_ret
  exact ⟨by simp, hbw.out.trans (hg3.below.mono hbw.out.size)⟩
end Go.Proofs.Ytbhhpijidbhipaa
