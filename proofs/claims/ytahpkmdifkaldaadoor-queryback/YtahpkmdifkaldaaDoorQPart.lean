/-
  query.printPart: one part of a step.
-/
import Derived.Test.YtahpkmdifkaldaaDoorQPrint
namespace Go.Proofs.YtahpkmdifkaldaaDoor
open Go.RowKit Go.Sort

/-- A part's text. -/
def partT (s : Stp) (p : Int) : List UInt8 := if p = 79 then signL s.o else if p = 76 then listL s.l else Lib.itoa (if p = 65 then s.a else if p = 66 then s.b else if p = 67 then s.c else s.v)

set_option maxRecDepth 100000 in
set_option maxHeartbeats 1000000 in
theorem printPart_any (s : Stp) (p : Int) (w : World) (hf : Fine s) (hr : RowI w s.p s.l) (hl : p = 76 → s.l ≠ []) (ht : Tens w) :
    Calls Tryd.prog 20 #[.agg #[.int .i64 s.k, .int .i64 s.a, .int .i64 s.b, .int .i64 s.c, .int .i64 s.o, .int .i64 s.v, .slice s.p s.l.length s.n], .int .u8 p] w fun e w' => e = .returned (.string ⟨(partT s p).toArray⟩) ∧ Below w.heap.size w w' := by
  have hg0 : Gr w (w.alloc (.cells #[.int .i64 s.k, .int .i64 s.a, .int .i64 s.b, .int .i64 s.c, .int .i64 s.o, .int .i64 s.v, .slice s.p s.l.length s.n] 28)) := (Gr.refl w).alloc _
  have c1 : (w.alloc (.cells #[.int .i64 s.k, .int .i64 s.a, .int .i64 s.b, .int .i64 s.c, .int .i64 s.o, .int .i64 s.v, .slice s.p s.l.length s.n] 28)).cell? ⟨w.heap.size, 1, none⟩ = some (.int .i64 s.a) := box1 (Gr.refl _) rfl
  have c2 : (w.alloc (.cells #[.int .i64 s.k, .int .i64 s.a, .int .i64 s.b, .int .i64 s.c, .int .i64 s.o, .int .i64 s.v, .slice s.p s.l.length s.n] 28)).cell? ⟨w.heap.size, 2, none⟩ = some (.int .i64 s.b) := box1 (Gr.refl _) rfl
  have c3 : (w.alloc (.cells #[.int .i64 s.k, .int .i64 s.a, .int .i64 s.b, .int .i64 s.c, .int .i64 s.o, .int .i64 s.v, .slice s.p s.l.length s.n] 28)).cell? ⟨w.heap.size, 3, none⟩ = some (.int .i64 s.c) := box1 (Gr.refl _) rfl
  have c4 : (w.alloc (.cells #[.int .i64 s.k, .int .i64 s.a, .int .i64 s.b, .int .i64 s.c, .int .i64 s.o, .int .i64 s.v, .slice s.p s.l.length s.n] 28)).cell? ⟨w.heap.size, 4, none⟩ = some (.int .i64 s.o) := box1 (Gr.refl _) rfl
  have c5 : (w.alloc (.cells #[.int .i64 s.k, .int .i64 s.a, .int .i64 s.b, .int .i64 s.c, .int .i64 s.o, .int .i64 s.v, .slice s.p s.l.length s.n] 28)).cell? ⟨w.heap.size, 5, none⟩ = some (.int .i64 s.v) := box1 (Gr.refl _) rfl
  have c6 : (w.alloc (.cells #[.int .i64 s.k, .int .i64 s.a, .int .i64 s.b, .int .i64 s.c, .int .i64 s.o, .int .i64 s.v, .slice s.p s.l.length s.n] 28)).cell? ⟨w.heap.size, 6, none⟩ = some (.slice s.p s.l.length s.n) := box1 (Gr.refl _) rfl
  have hH : Hid (Fine s ∧ RowI (w.alloc (.cells #[.int .i64 s.k, .int .i64 s.a, .int .i64 s.b, .int .i64 s.c, .int .i64 s.o, .int .i64 s.v, .slice s.p s.l.length s.n] 28)) s.p s.l ∧ Tens (w.alloc (.cells #[.int .i64 s.k, .int .i64 s.a, .int .i64 s.b, .int .i64 s.c, .int .i64 s.o, .int .i64 s.v, .slice s.p s.l.length s.n] 28))) := ⟨hf, hr.gr hg0, ht.gr hg0⟩
  clear hf hr ht
  by_cases h1 : p = 79
  · subst h1
    have hsg := signOf_any s.o (w.alloc (.cells #[.int .i64 s.k, .int .i64 s.a, .int .i64 s.b, .int .i64 s.c, .int .i64 s.o, .int .i64 s.v, .slice s.p s.l.length s.n] 28))
    have hsgH : Hid _ := hsg
    clear hsg hl
    go_enter Tryd.func20, Tryd.ntmps20
    go_wp2_with fail
    refine Calls.mono (show Calls _ _ _ _ _ from hsgH.out) ?_
    rintro e w1 ⟨rfl, rfl⟩
    go_wp2
    go_ret
    exact ⟨rfl, hg0.below⟩
  by_cases h2 : p = 76
  · have hpl := printList_any s.l s.p s.n (w.alloc (.cells #[.int .i64 s.k, .int .i64 s.a, .int .i64 s.b, .int .i64 s.c, .int .i64 s.o, .int .i64 s.v, .slice s.p s.l.length s.n] 28)) (hl h2) hH.out.1.l.1 hH.out.1.l.2 hH.out.2.1 hH.out.2.2
    have hplH : Hid _ := hpl
    subst h2
    clear hpl hl h1
    go_enter Tryd.func20, Tryd.ntmps20
    go_wp2_with fail
    refine Calls.mono (show Calls _ _ _ _ _ from hplH.out) ?_
    rintro e w1 ⟨rfl, hb1⟩
    have hbF : Hid (Below w.heap.size w w1) := hg0.below.trans (hb1.mono hg0.size)
    clear hplH hb1
    go_wp2
    go_ret
    exact ⟨rfl, hbF.out⟩
  have q1 : (p == 79) = false := beq_eq_false_iff_ne.2 h1
  have q2 : (p == 76) = false := beq_eq_false_iff_ne.2 h2
  have hfd := field_any w.heap.size p (w.alloc (.cells #[.int .i64 s.k, .int .i64 s.a, .int .i64 s.b, .int .i64 s.c, .int .i64 s.o, .int .i64 s.v, .slice s.p s.l.length s.n] 28))
  obtain ⟨f, x, hfx, hcell, hsm, hres⟩ : ∃ (f : Nat) (x : Int), fldI p = f ∧ (w.alloc (.cells #[.int .i64 s.k, .int .i64 s.a, .int .i64 s.b, .int .i64 s.c, .int .i64 s.o, .int .i64 s.v, .slice s.p s.l.length s.n] 28)).cell? ⟨w.heap.size, f, none⟩ = some (.int .i64 x) ∧ Small x ∧ partT s p = Lib.itoa x := by
    unfold fldI partT
    rw [if_neg h1, if_neg h2, if_neg h1]
    by_cases e1 : p = 65
    · exact ⟨1, s.a, by rw [if_pos e1], c1, hH.out.1.a, by rw [if_pos e1]⟩
    · by_cases e2 : p = 66
      · exact ⟨2, s.b, by rw [if_neg e1, if_pos e2], c2, hH.out.1.b, by rw [if_neg e1, if_pos e2]⟩
      · by_cases e3 : p = 67
        · exact ⟨3, s.c, by rw [if_neg e1, if_neg e2, if_pos e3], c3, hH.out.1.c, by rw [if_neg e1, if_neg e2, if_pos e3]⟩
        · exact ⟨5, s.v, by rw [if_neg e1, if_neg e2, if_neg e3], c5, hH.out.1.v, by rw [if_neg e1, if_neg e2, if_neg e3]⟩
  rw [hfx] at hfd
  have hfdH : Hid _ := hfd
  have hit := itoa_any hsm hH.out.2.2
  have hitH : Hid _ := hit
  rw [hres]
  clear hfd hit hfx h1 h2 hl hres c1 c2 c3 c4 c5 c6 hsm
  go_enter Tryd.func20, Tryd.ntmps20
  go_wp2_with fail
  refine Calls.mono (show Calls _ _ _ _ _ from hfdH.out) ?_
  rintro e w1 ⟨rfl, hw1⟩
  subst w1
  clear hfdH
  go_wp2_with fail
  refine Calls.mono (show Calls _ _ _ _ _ from hitH.out) ?_
  rintro e w1 ⟨rfl, hg1⟩
  have hbF : Hid (Below w.heap.size w w1) := (hg0.trans hg1).below
  clear hitH hg1
  go_wp2
  go_ret
  exact ⟨rfl, hbF.out⟩

end Go.Proofs.YtahpkmdifkaldaaDoor
