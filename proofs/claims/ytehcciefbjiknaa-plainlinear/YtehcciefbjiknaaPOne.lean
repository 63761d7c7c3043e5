/-
  plain.itemsOfOne, plain.minus.
-/
import Derived.Test.YtehcciefbjiknaaPCount
import Derived.Test.YtehcciefbjiknaaPPick
namespace Go.Proofs.Ytehcciefbjiknaa
open Go.RowKit Go.Sort Go.Maps

/-- What a step that takes one set asks of it. -/
structure OneOk (s : Stp) (l : List Itm) : Prop where
  len : l.length ≤ 400
  ok : ∀ x ∈ l, okR x.r = true ∧ okW x.n = true
  k2 : s.k = 2 → inB s.o 1 3 = true ∧ ∀ x ∈ l, inB s.c 0 ((x.r.length : Int) - 1) = true
  k3 : s.k = 3 → s.l.length ≤ 8 ∧ ∀ x ∈ l, ∀ c ∈ s.l, inB c 0 ((x.r.length : Int) - 1) = true
  k8 : s.k = 8 → ∀ x ∈ l, inB s.c 0 ((x.r.length : Int) - 1) = true

set_option maxRecDepth 100000 in
set_option maxHeartbeats 1000000 in
theorem one_any (s : Stp) (l : List Itm) (A : Option Addr) (cap : Nat) (w : World) (hk : s.k = 2 ∨ s.k = 3 ∨ s.k = 8) (ho : OneOk s l) (hr : Items w A l) (hs : RowI w s.p s.l) :
    Calls Try.prog 30 #[.agg #[.int .i64 s.k, .int .i64 s.a, .int .i64 s.b, .int .i64 s.c, .int .i64 s.o, .int .i64 s.v, .slice s.p s.l.length s.n], .slice A l.length cap] w fun e w' => ∃ (L : List Itm) (C : Option Addr) (k : Nat), e = .returned (.slice C L.length k) ∧ L.map Itm.z = oneF s (l.map Itm.z) ∧ Lv w' C k L ∧ L.length ≤ 400 ∧ Below w.heap.size w w' := by
  have hgX : Hid (Gr w (w.alloc (.cells #[.int .i64 s.k, .int .i64 s.a, .int .i64 s.b, .int .i64 s.c, .int .i64 s.o, .int .i64 s.v, .slice s.p s.l.length s.n] 27))) := (Gr.refl _).alloc _
  have hH : Hid (OneOk s l ∧ Items w A l ∧ RowI w s.p s.l) := ⟨ho, hr, hs⟩
  clear ho hr hs
  rcases hk with hk | hk | hk
  · have hC0 := where_any l A cap s.c s.o s.v (w.alloc (.cells #[.int .i64 2, .int .i64 s.a, .int .i64 s.b, .int .i64 s.c, .int .i64 s.o, .int .i64 s.v, .slice s.p s.l.length s.n] 27)) hH.out.1.len (hH.out.2.1.gr ((Gr.refl _).alloc _)) (hH.out.1.k2 hk).2 (hH.out.1.k2 hk).1
    have hC : Hid _ := hC0
    have hF : Hid (oneF s (l.map Itm.z) = whereL (l.map Itm.z) s.c s.o s.v) := by show _ = _; unfold oneF; rw [if_pos hk]
    clear hC0
    rw [hk]
    clear hk
    go_enter Try.func30, Try.ntmps30
    go_wp2_with fail
    refine Calls.mono (show Calls _ _ _ _ _ from hC.out) ?_
    rintro e w2 ⟨L, C, k, rfl, h1, h2, h3, h4⟩
    have hfin : Hid (L.map Itm.z = oneF s (l.map Itm.z) ∧ Lv w2 C k L ∧ Below w.heap.size w w2) := ⟨by rw [hF.out]; exact h1, h2, ((Gr.refl _).alloc _).below.trans (h4.mono (by simp))⟩
    clear h1 h2 h4
    go_wp2
    go_ret
    exact ⟨L, C, k, rfl, hfin.out.1, hfin.out.2.1, h3, hfin.out.2.2⟩
  · have hC0 := pick_any l A s.p cap s.n s.l (w.alloc (.cells #[.int .i64 3, .int .i64 s.a, .int .i64 s.b, .int .i64 s.c, .int .i64 s.o, .int .i64 s.v, .slice s.p s.l.length s.n] 27)) hH.out.1.len (hH.out.1.k3 hk).1 (hH.out.2.1.gr ((Gr.refl _).alloc _)) (hH.out.2.2.gr ((Gr.refl _).alloc _)) (hH.out.1.k3 hk).2
    have hC : Hid _ := hC0
    have hF : Hid (oneF s (l.map Itm.z) = pickL (l.map Itm.z) s.l) := by show _ = _; unfold oneF; rw [if_neg (by omega), if_pos hk]
    clear hC0
    rw [hk]
    clear hk
    go_enter Try.func30, Try.ntmps30
    go_wp2_with fail
    refine Calls.mono (show Calls _ _ _ _ _ from hC.out) ?_
    rintro e w2 ⟨L, C, k, rfl, h1, h2, h3, h4⟩
    have hfin : Hid (L.map Itm.z = oneF s (l.map Itm.z) ∧ Lv w2 C k L ∧ Below w.heap.size w w2) := ⟨by rw [hF.out]; exact h1, h2, ((Gr.refl _).alloc _).below.trans (h4.mono (by simp))⟩
    clear h1 h2 h4
    go_wp2
    go_ret
    exact ⟨L, C, k, rfl, hfin.out.1, hfin.out.2.1, h3, hfin.out.2.2⟩
  · have hC0 := count_any l A cap s.c (w.alloc (.cells #[.int .i64 8, .int .i64 s.a, .int .i64 s.b, .int .i64 s.c, .int .i64 s.o, .int .i64 s.v, .slice s.p s.l.length s.n] 27)) hH.out.1.len (hH.out.2.1.gr ((Gr.refl _).alloc _)) (hH.out.1.k8 hk) hH.out.1.ok
    have hC : Hid _ := hC0
    have hF : Hid (oneF s (l.map Itm.z) = countL (l.map Itm.z) s.c) := by show _ = _; unfold oneF; rw [if_neg (by omega), if_neg (by omega), if_neg (by omega), if_pos hk]
    clear hC0
    rw [hk]
    clear hk
    go_enter Try.func30, Try.ntmps30
    go_wp2_with fail
    refine Calls.mono (show Calls _ _ _ _ _ from hC.out) ?_
    rintro e w2 ⟨L, C, k, rfl, h1, h2, h3, h4⟩
    have hfin : Hid (L.map Itm.z = oneF s (l.map Itm.z) ∧ Lv w2 C k L ∧ Below w.heap.size w w2) := ⟨by rw [hF.out]; exact h1, h2, ((Gr.refl _).alloc _).below.trans (h4.mono (by simp))⟩
    clear h1 h2 h4
    go_wp2
    go_ret
    exact ⟨L, C, k, rfl, hfin.out.1, hfin.out.2.1, h3, hfin.out.2.2⟩

theorem negL_ok' {b : List Zit} (h : errZ b = 0) : negL b = negP b := by unfold negL; rw [if_pos h]; rfl
set_option maxRecDepth 100000 in
set_option maxHeartbeats 1000000 in
theorem minus_any (a b : List Itm) (A B : Option Addr) (ca cb : Nat) (w : World) (ha : Lv w A ca a) (hb : Lv w B cb b) (he : errZ (b.map Itm.z) = 0) :
    Calls Try.prog 29 #[.slice A a.length ca, .slice B b.length cb] w fun e w' => ∃ (L : List Itm) (C : Option Addr) (k : Nat), e = .returned (.tuple #[.slice C L.length k, .int .i64 (minE (a.map Itm.z) (b.map Itm.z))]) ∧ L.map Itm.z = minF (a.map Itm.z) (b.map Itm.z) ∧ Lv w' C k L ∧ Below w.heap.size w w' ∧ NewT w.heap.size C L := by
  have hN0 := negV hb (m := b.map Itm.z) rfl
  have hN : Hid _ := hN0
  have hH : Hid (Lv w A ca a ∧ errZ (b.map Itm.z) = 0) := ⟨ha, he⟩
  clear hN0 ha hb
  rw [he] at hN
  clear he
  go_enter Try.func29, Try.ntmps29
  go_wp2_with fail
  refine Calls.mono (show Calls _ _ _ _ _ from hN.out) ?_
  rintro e w1 ⟨L1, C1, k1, rfl, h1, h2, h3⟩
  have hA0 := addVn (hH.out.1.below h3) h2 (m := a.map Itm.z) (n := negP (b.map Itm.z)) rfl (by rw [h1, negL_ok' hH.out.2])
  have hA : Hid _ := hA0
  have hB : Hid (Below w.heap.size w w1) := h3
  clear hA0 h1 h2 h3 hN
  go_wp2_with fail
  refine Calls.mono (show Calls _ _ _ _ _ from hA.out) ?_
  rintro e w2 ⟨L, C, k, rfl, h1, h2, h3, h4⟩
  have hNw : Hid (NewT w.heap.size C L) := h4.mono hB.out.size
  have hfin : Hid (addE (a.map Itm.z) (negP (b.map Itm.z)) = minE (a.map Itm.z) (b.map Itm.z) ∧ L.map Itm.z = minF (a.map Itm.z) (b.map Itm.z) ∧ Lv w2 C k L ∧ Below w.heap.size w w2) := by
    have hm : minE (a.map Itm.z) (b.map Itm.z) = addE (a.map Itm.z) (negP (b.map Itm.z)) := by unfold minE; rw [if_pos hH.out.2]
    refine ⟨hm.symm, ?_, h2, hB.out.trans (h3.mono hB.out.size)⟩
    rw [h1]
    unfold minF
    rw [hm]
    by_cases e : addE (a.map Itm.z) (negP (b.map Itm.z)) = 0
    · rw [if_pos e]
    · rw [if_neg e]; unfold addL; rw [if_neg e]
  clear h1 h2 h3 h4 hA
  go_wp2
  go_ret2
  exact ⟨L, C, k, by rw [hfin.out.1]; rfl, hfin.out.2.1, hfin.out.2.2.1, hfin.out.2.2.2, hNw.out⟩
theorem minusV {W : World} {A B : Option Addr} {c d : Nat} {l r : List Itm} (h : Lv W A c l) (h' : Lv W B d r) (he : errZ (r.map Itm.z) = 0) {m n : List Zit} (hm : l.map Itm.z = m) (hn : r.map Itm.z = n) :
    Calls Try.prog 29 #[.slice A l.length c, .slice B r.length d] W fun e w' => ∃ (L : List Itm) (C : Option Addr) (k : Nat), e = .returned (.tuple #[.slice C L.length k, .int .i64 (minE m n)]) ∧ L.map Itm.z = minF m n ∧ Lv w' C k L ∧ Below W.heap.size W w' ∧ NewT W.heap.size C L := by
  subst hm hn
  exact minus_any l r A B c d W h h' he
end Go.Proofs.Ytehcciefbjiknaa
