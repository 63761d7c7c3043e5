/-
  table.Del: the table that deletes a row.
  Plain facts: dots sorted; what fold makes of sorted dots, told dot by dot.
  dot.Next: the next dot of a node.
-/
import Derived.Test.YtmoicbmhjmdgdaaGreatM07
import Derived.Test.YtmoicbmhjmdgdaaGreatM05
namespace Go.Proofs.YtmoicbmhjmdgdaaGreat
open Go.RowKit Go.Sort

/-- The error that Del tells. -/
def delE (t : Tab) (key : Int) : Int := if errT t ≠ 0 then errT t else if inB key 0 49 = false then 1 else if t.e.any (fitD key) = false then 4 else makeE (dotsOf (fitD key) t.e)
/-- The context of the table that it tells; it has no cells. -/
def delC (t : Tab) (key : Int) : Ctx := if delE t key = 0 then makeC (dotsOf (fitD key) t.e) else zeroC

/-- Block B holds six values, of a table. -/
structure Six (w : World) (B : Nat) (u0 u1 u2 u3 u4 u5 : Value) : Prop where
 k0 : w.cell? ⟨B, 0, none⟩ = some u0
 k1 : w.cell? ⟨B, 1, none⟩ = some u1
 k2 : w.cell? ⟨B, 2, none⟩ = some u2
 k3 : w.cell? ⟨B, 3, none⟩ = some u3
 k4 : w.cell? ⟨B, 4, none⟩ = some u4
 k5 : w.cell? ⟨B, 5, none⟩ = some u5
 fz : ∀ j, w.frozen? ⟨B, j, none⟩ = false
 lt : B < w.heap.size
theorem Six.new (w : World) (u0 u1 u2 u3 u4 u5 : Value) (T : TypeId) {B : Nat} (hB : B = w.heap.size) : Six (w.alloc (.cells #[u0, u1, u2, u3, u4, u5] T)) B u0 u1 u2 u3 u4 u5 := by
 subst hB
 exact ⟨box1 (Gr.refl _) rfl, box1 (Gr.refl _) rfl, box1 (Gr.refl _) rfl, box1 (Gr.refl _) rfl, box1 (Gr.refl _) rfl, box1 (Gr.refl _) rfl, fun j => box1f (Gr.refl _) j, by simp⟩
theorem Six.belowB {w w' : World} {B N : Nat} {u0 u1 u2 u3 u4 u5 : Value} (h : Six w B u0 u1 u2 u3 u4 u5) (k : Below N w w') (hB : B < N) : Six w' B u0 u1 u2 u3 u4 u5 :=
 ⟨(k.cell (p := ⟨B, 0, none⟩) hB).trans h.k0, (k.cell (p := ⟨B, 1, none⟩) hB).trans h.k1, (k.cell (p := ⟨B, 2, none⟩) hB).trans h.k2, (k.cell (p := ⟨B, 3, none⟩) hB).trans h.k3, (k.cell (p := ⟨B, 4, none⟩) hB).trans h.k4, (k.cell (p := ⟨B, 5, none⟩) hB).trans h.k5, fun j => (k.frozen (p := ⟨B, j, none⟩) hB).trans (h.fz j), Nat.lt_of_lt_of_le h.lt k.size⟩
theorem Six.below {w w' : World} {B : Nat} {u0 u1 u2 u3 u4 u5 : Value} (h : Six w B u0 u1 u2 u3 u4 u5) (k : Below w.heap.size w w') : Six w' B u0 u1 u2 u3 u4 u5 := h.belowB k h.lt
theorem Six.gr {w w' : World} {B : Nat} {u0 u1 u2 u3 u4 u5 : Value} (h : Six w B u0 u1 u2 u3 u4 u5) (k : Gr w w') : Six w' B u0 u1 u2 u3 u4 u5 := h.below k.below
theorem Six.set {w : World} {B : Nat} {u0 u1 u2 u3 u4 u5 : Value} (h : Six w B u0 u1 u2 u3 u4 u5) (v0 v1 v2 v3 v4 v5 : Value) : Six ((((((w.setCell ⟨B, 0, none⟩ v0).setCell ⟨B, 1, none⟩ v1).setCell ⟨B, 2, none⟩ v2).setCell ⟨B, 3, none⟩ v3).setCell ⟨B, 4, none⟩ v4).setCell ⟨B, 5, none⟩ v5) B v0 v1 v2 v3 v4 v5 := by
 have e0 := h.k0
 have e1 := h.k1
 have e2 := h.k2
 have e3 := h.k3
 have e4 := h.k4
 have e5 := h.k5
 refine ⟨?_, ?_, ?_, ?_, ?_, ?_, fun j => ?_, by simpa [World.setCell] using h.lt⟩
 ·exact cell_set (cell_set (cell_set (cell_set (cell_set (cell_set e0)))))
 ·exact cell_set (cell_set (cell_set (cell_set (cell_set (cell_set e1)))))
 ·exact cell_set (cell_set (cell_set (cell_set (cell_set (cell_set e2)))))
 ·exact cell_set (cell_set (cell_set (cell_set (cell_set (cell_set e3)))))
 ·exact cell_set (cell_set (cell_set (cell_set (cell_set (cell_set e4)))))
 ·exact cell_set (cell_set (cell_set (cell_set (cell_set (cell_set e5)))))
 ·simp only [World.frozen?_setCell]; exact h.fz j
/-- A table of nothing, as it lies in a block. -/
abbrev ZTab (w : World) (B : Nat) : Prop := Six w B (.int .i64 0) (.int .i64 0) (.int .i64 0) (.int .i64 0) (.slice none 0 0) (.slice none 0 0)

/-- Six cells of a block that is new are set: what was there stays. -/
theorem below_set6 {n : Nat} {w W : World} (h : Below n w W) {B : Nat} (hB : n ≤ B) (u0 u1 u2 u3 u4 u5 : Value) : Below n w ((((((W.setCell ⟨B, 0, none⟩ u0).setCell ⟨B, 1, none⟩ u1).setCell ⟨B, 2, none⟩ u2).setCell ⟨B, 3, none⟩ u3).setCell ⟨B, 4, none⟩ u4).setCell ⟨B, 5, none⟩ u5) := (below_set5 h hB u0 u1 u2 u3 u4).setCell hB u5
theorem RowG.setCell {α : Type} {enc : α → List Value} {k : Nat} {w : World} {A : Option Addr} {l : List α} (h : RowG enc k w A l) {B m : Nat} (u : Value) (hA : ∀ x, A = some x → x.block ≠ B) : RowG enc k (w.setCell ⟨B, m, none⟩ u) A l := by
 rcases h with h | ⟨b, off, rfl, hb, hc⟩
 ·exact Or.inl h
 ·have hne := hA _ rfl
  refine Or.inr ⟨b, off, rfl, by simpa [World.setCell] using hb, fun j hj i hi => ?_⟩
  rw [← hc j hj i hi]
  exact World.cell?_setCell_other _ _ _ _ (by intro e; injection e with e1; exact hne e1.symm)

set_option maxHeartbeats 1000000 in
theorem del_any (t : Tab) (A : Option Addr) (ca : Nat) (D : Option Addr) (cd : Nat) (key : Int) (w : World) (hl : t.c.l.length ≤ maxLen) (hel : t.e.length ≤ maxLen) (hr : Row w A t.c.l) (hd : RowC w D t.e) :
  Calls Tryz.prog 36 #[.agg #[.int .i64 t.c.c0, .int .i64 t.c.c1, .int .i64 t.c.c2, .int .i64 t.c.c3, .slice A t.c.l.length ca, .slice D t.e.length cd], .int .i64 key] w fun e w' => ∃ C cp, e = .returned (.tuple #[.agg #[.int .i64 (delC t key).c0, .int .i64 (delC t key).c1, .int .i64 (delC t key).c2, .int .i64 (delC t key).c3, .slice C (delC t key).l.length cp, .slice none 0 0], .int .i64 (delE t key)]) ∧ Row w' C (delC t key).l ∧ (C = none → cp = 0) ∧ (∀ a, C = some a → w.heap.size ≤ a.block) ∧ Below w.heap.size w w' := by
 have hg0 : Gr w (((w.alloc (.cells #[.int .i64 t.c.c0, .int .i64 t.c.c1, .int .i64 t.c.c2, .int .i64 t.c.c3, .slice A t.c.l.length ca, .slice D t.e.length cd] 48)).alloc (.cells #[.int .i64 key] 3)).alloc (.cells #[.int .i64 0, .int .i64 0, .int .i64 0, .int .i64 0, .slice none 0 0, .slice none 0 0] 48)) := (((Gr.refl w).alloc _).alloc _).alloc _
 have ht0 : TabAt (((w.alloc (.cells #[.int .i64 t.c.c0, .int .i64 t.c.c1, .int .i64 t.c.c2, .int .i64 t.c.c3, .slice A t.c.l.length ca, .slice D t.e.length cd] 48)).alloc (.cells #[.int .i64 key] 3)).alloc (.cells #[.int .i64 0, .int .i64 0, .int .i64 0, .int .i64 0, .slice none 0 0, .slice none 0 0] 48)) w.heap.size t A ca D cd := (TabAt.new 48 hr hd rfl).gr (((Gr.refl _).alloc _).alloc _)
 have hk0 : (((w.alloc (.cells #[.int .i64 t.c.c0, .int .i64 t.c.c1, .int .i64 t.c.c2, .int .i64 t.c.c3, .slice A t.c.l.length ca, .slice D t.e.length cd] 48)).alloc (.cells #[.int .i64 key] 3)).alloc (.cells #[.int .i64 0, .int .i64 0, .int .i64 0, .int .i64 0, .slice none 0 0, .slice none 0 0] 48)).cell? ⟨w.heap.size + 1, 0, none⟩ = some (.int .i64 key) := box2 ((Gr.refl _).alloc _) rfl
 have hz0 : ZTab (((w.alloc (.cells #[.int .i64 t.c.c0, .int .i64 t.c.c1, .int .i64 t.c.c2, .int .i64 t.c.c3, .slice A t.c.l.length ca, .slice D t.e.length cd] 48)).alloc (.cells #[.int .i64 key] 3)).alloc (.cells #[.int .i64 0, .int .i64 0, .int .i64 0, .int .i64 0, .slice none 0 0, .slice none 0 0] 48)) (w.heap.size + 1 + 1) := Six.new _ _ _ _ _ _ _ 48 (by simp)
 have hck := checkT_any t A ca D cd (((w.alloc (.cells #[.int .i64 t.c.c0, .int .i64 t.c.c1, .int .i64 t.c.c2, .int .i64 t.c.c3, .slice A t.c.l.length ca, .slice D t.e.length cd] 48)).alloc (.cells #[.int .i64 key] 3)).alloc (.cells #[.int .i64 0, .int .i64 0, .int .i64 0, .int .i64 0, .slice none 0 0, .slice none 0 0] 48)) hl hel ht0.row ht0.rowC
 have hckH : Hid _ := hck
 clear hck
 go_enter Tryz.func36, Tryz.ntmps36
 go_wp2_with fail
 refine Calls.mono (show Calls _ _ _ _ _ from hckH.out) ?_
 rintro e w1 ⟨rfl, hg1⟩
 clear hckH
 have hs0 : w.heap.size + 1 + 1 < w1.heap.size := (hz0.gr hg1).lt
 have ht1 := ht0.gr hg1
 have hz1 := hz0.gr hg1
 have hk1 := (hg1.cell (p := ⟨w.heap.size + 1, 0, none⟩) (by simp)).trans hk0
 have hgw1 : Gr w w1 := hg0.trans hg1
 clear hg0 ht0 hk0 hz0 hg1
 obtain ⟨z0, z1, z2, z3, z4, z5, zf, zlt⟩ := (show Six _ _ _ _ _ _ _ _ from hz1)
 by_cases he : errT t = 0
 ·have heb : (errT t != 0) = false := by simpa using he
  have heH : Hid (errT t = 0) := he
  have hel4 : t.e.length ≤ 400 := (errT_parts he).2.1
  clear he
  cases hky : inB key 0 49
  ·have hfin : Hid (delE t key = 1 ∧ delC t key = zeroC) := by
    have h1 : delE t key = 1 := by simp [delE, heH.out, hky]
    exact ⟨h1, by simp [delC, h1]⟩
   go_wp2_with (go_at_call 57; refine (isKey_g hky _).mono ?_; rintro e w1 ⟨rfl, rfl⟩)
   rw [hfin.out.1, hfin.out.2]
   exact bodyPost_ret (v := .tuple #[.agg #[.int .i64 0, .int .i64 0, .int .i64 0, .int .i64 0, .slice none 0 0, .slice none 0 0], .int .i64 1]) (by simp [results, Tryz.results36, go_sem, z0, z1, z2, z3, z4, z5]) rfl ⟨none, 0, rfl, Or.inl rfl, fun _ => rfl, (fun x hx => by cases hx), below_set6 hgw1.below (by omega) _ _ _ _ _ _⟩
  ·have k5 := ht1.k5
   have eg : ∀ args w, (callFunc 58 args).run Tryz.prog w = .ok (.enter 58 args) w := enters_of Tryz.func58 (by kernel_rfl) rfl
   have hcf := containsFuncC_any (fitD key) 58 #[.pointer (some ⟨w.heap.size + 1, 0, none⟩)] eg t.e D cd w1 hel ht1.rowC (predD key (w.heap.size + 1) w1 (by omega) hk1)
   have hcfH : Hid _ := hcf
   clear hcf
   go_wp2_with (first | (go_at_call 57; refine (isKey_g hky _).mono ?_; rintro e w1 ⟨rfl, rfl⟩) | fail)
   refine Calls.mono (show Calls _ _ _ _ _ from hcfH.out) ?_
   rintro e w2 ⟨rfl, hg2⟩
   clear hcfH z0 z1 z2 z3 z4 z5 zf zlt k5
   have ht2 := ht1.gr hg2
   have k5 := ht2.k5
   have hk2 := (hg2.cell (p := ⟨w.heap.size + 1, 0, none⟩) (show w.heap.size + 1 < _ by omega)).trans hk1
   have hs2 : w.heap.size + 1 + 1 < w2.heap.size := (hz1.gr hg2).lt
   obtain ⟨z0, z1, z2, z3, z4, z5, zf, zlt⟩ := (show Six _ _ _ _ _ _ _ _ from hz1.gr hg2)
   have hgw2 : Gr w w2 := hgw1.trans hg2
   cases han : t.e.any (fitD key)
   ·have hfin : Hid (delE t key = 4 ∧ delC t key = zeroC) := by
     have h1 : delE t key = 4 := by unfold delE; rw [if_neg (by simpa using heH.out), if_neg (by simp [hky]), if_pos han]
     exact ⟨h1, by simp [delC, h1]⟩
    go_wp2
    rw [hfin.out.1, hfin.out.2]
    exact bodyPost_ret (v := .tuple #[.agg #[.int .i64 0, .int .i64 0, .int .i64 0, .int .i64 0, .slice none 0 0, .slice none 0 0], .int .i64 4]) (by simp [results, Tryz.results36, go_sem, z0, z1, z2, z3, z4, z5]) rfl ⟨none, 0, rfl, Or.inl rfl, fun _ => rfl, (fun x hx => by cases hx), below_set6 hgw2.below (by omega) _ _ _ _ _ _⟩
   ·have hco := contextOf_any (fitD key) 58 #[.pointer (some ⟨w.heap.size + 1, 0, none⟩)] eg t.e D cd w2 hel4 ht2.rowC (fun W hW x => fitD_any key (w.heap.size + 1) x W (by have := hW.size; omega) ((hW.cell (p := ⟨w.heap.size + 1, 0, none⟩) (show w.heap.size + 1 < _ by omega)).trans hk2))
    have hcoH : Hid _ := hco
    clear hco
    go_wp2_with fail
    refine Calls.mono (show Calls _ _ _ _ _ from hcoH.out) ?_
    rintro e w3 ⟨C, cp, rfl, hrow3, hC, hCb, hb3⟩
    clear hcoH z0 z1 z2 z3 z4 z5 zf zlt k5
    have hz3 := (hz1.gr hg2).below hb3
    obtain ⟨z0, z1, z2, z3, z4, z5, zf, zlt⟩ := (show Six _ _ _ _ _ _ _ _ from hz3)
    have hs3 : w2.heap.size ≤ w3.heap.size := hb3.size
    have hbw3 : Hid (Below w.heap.size w w3) := hgw2.below.trans (hb3.mono (by omega))
    have hmD : Hid (delE t key = makeE (dotsOf (fitD key) t.e)) := by
     show delE t key = _
     unfold delE
     rw [if_neg (by simpa using heH.out), if_neg (by simp [hky]), if_neg (by simp [han])]
    have hmE : Hid (makeE (dotsOf (fitD key) t.e) = 0 → delC t key = makeC (dotsOf (fitD key) t.e)) := fun h0 => by
     unfold delC
     rw [hmD.out, if_pos h0]
    have hmZ : Hid (makeE (dotsOf (fitD key) t.e) ≠ 0 → delC t key = zeroC) := fun h0 => by
     unfold delC
     rw [hmD.out, if_neg h0]
    obtain ⟨F, hF⟩ : ∃ F, makeC (dotsOf (fitD key) t.e) = F := ⟨_, rfl⟩
    obtain ⟨E, hE⟩ : ∃ E, makeE (dotsOf (fitD key) t.e) = E := ⟨_, rfl⟩
    rw [hF] at hrow3 hmE ⊢
    rw [hE] at hmE hmZ hmD ⊢
    clear hF hE han
    have hCn : ∀ a, C = some a → a.block ≠ w.heap.size + 1 + 1 := fun a ha => by have := hCb a ha; omega
    by_cases hE0 : E = 0
    ·have hfin : Hid (delE t key = 0 ∧ delC t key = F) := ⟨hmD.out.trans hE0, hmE.out hE0⟩
     subst hE0
     have hV := (hz3.set (.int .i64 F.c0) (.int .i64 F.c1) (.int .i64 F.c2) (.int .i64 F.c3) (.slice C F.l.length cp) (.slice none 0 0)).gr ((Gr.refl _).alloc (.cells #[.int .i64 F.c0, .int .i64 F.c1, .int .i64 F.c2, .int .i64 F.c3, .slice C F.l.length cp] 45))
     have hrV : Row _ C F.l := (((((((hrow3.setCell (B := w.heap.size + 1 + 1) (j := 0) (.int .i64 F.c0) hCn).setCell (j := 1) (.int .i64 F.c1) hCn).setCell (j := 2) (.int .i64 F.c2) hCn).setCell (j := 3) (.int .i64 F.c3) hCn).setCell (j := 4) (.slice C F.l.length cp) hCn).setCell (j := 5) (.slice none 0 0) hCn)).gr ((Gr.refl _).alloc (.cells #[.int .i64 F.c0, .int .i64 F.c1, .int .i64 F.c2, .int .i64 F.c3, .slice C F.l.length cp] 45))
     have hbV := (below_set6 hbw3.out (B := w.heap.size + 1 + 1) (by omega) (.int .i64 F.c0) (.int .i64 F.c1) (.int .i64 F.c2) (.int .i64 F.c3) (.slice C F.l.length cp) (.slice none 0 0)).alloc (by simp; omega) (.cells #[.int .i64 F.c0, .int .i64 F.c1, .int .i64 F.c2, .int .i64 F.c3, .slice C F.l.length cp] 45)
     have hVH : Hid _ := hV
     have hbVH : Hid _ := hbV
     have hrVH : Hid _ := hrV
     clear hV hbV hrV
     go_wp2
     obtain ⟨v0, v1, v2, v3, v4, v5, vf, vlt⟩ := (show Six _ _ _ _ _ _ _ _ from hVH.out)
     have hbV := hbVH.out
     have hrV := hrVH.out
     rw [hfin.out.1, hfin.out.2]
     generalize World.alloc _ _ = V at v0 v1 v2 v3 v4 v5 hbV hrV ⊢
     exact bodyPost_ret (v := .tuple #[.agg #[.int .i64 F.c0, .int .i64 F.c1, .int .i64 F.c2, .int .i64 F.c3, .slice C F.l.length cp, .slice none 0 0], .int .i64 0]) (by simp [results, Tryz.results36, go_sem, v0, v1, v2, v3, v4, v5]) rfl ⟨C, cp, rfl, hrV, hC, fun a ha => Nat.le_trans (by omega) (hCb a ha), hbV⟩
    ·have hfin : Hid (delE t key = E ∧ delC t key = zeroC) := ⟨hmD.out, hmZ.out hE0⟩
     have hEb : (E != 0) = true := by simpa using hE0
     clear hE0
     have hV := (hz3.set (.int .i64 0) (.int .i64 0) (.int .i64 0) (.int .i64 0) (.slice none 0 0) (.slice none 0 0)).gr ((Gr.refl _).alloc (.cells #[.int .i64 F.c0, .int .i64 F.c1, .int .i64 F.c2, .int .i64 F.c3, .slice C F.l.length cp] 45))
     have hbV := (below_set6 hbw3.out (B := w.heap.size + 1 + 1) (by omega) (.int .i64 0) (.int .i64 0) (.int .i64 0) (.int .i64 0) (.slice none 0 0) (.slice none 0 0)).alloc (by simp; omega) (.cells #[.int .i64 F.c0, .int .i64 F.c1, .int .i64 F.c2, .int .i64 F.c3, .slice C F.l.length cp] 45)
     have hVH : Hid _ := hV
     have hbVH : Hid _ := hbV
     clear hV hbV
     go_wp2
     obtain ⟨v0, v1, v2, v3, v4, v5, vf, vlt⟩ := (show Six _ _ _ _ _ _ _ _ from hVH.out)
     have hbV := hbVH.out
     rw [hfin.out.1, hfin.out.2]
     generalize World.alloc _ _ = V at v0 v1 v2 v3 v4 v5 hbV ⊢
     exact bodyPost_ret (v := .tuple #[.agg #[.int .i64 0, .int .i64 0, .int .i64 0, .int .i64 0, .slice none 0 0, .slice none 0 0], .int .i64 E]) (by simp [results, Tryz.results36, go_sem, v0, v1, v2, v3, v4, v5]) rfl ⟨none, 0, rfl, Or.inl rfl, fun _ => rfl, (fun x hx => by cases hx), hbV⟩
 ·have hfin : Hid (delE t key = errT t ∧ delC t key = zeroC) := by
   have h1 : delE t key = errT t := by simp [delE, he]
   exact ⟨h1, by simp [delC, h1, he]⟩
  have heb : (errT t != 0) = true := by simpa using he
  clear he
  go_wp2
  rw [hfin.out.1, hfin.out.2]
  exact bodyPost_ret (v := .tuple #[.agg #[.int .i64 0, .int .i64 0, .int .i64 0, .int .i64 0, .slice none 0 0, .slice none 0 0], .int .i64 (errT t)]) (by simp [results, Tryz.results36, go_sem, z0, z1, z2, z3, z4, z5]) rfl ⟨none, 0, rfl, Or.inl rfl, fun _ => rfl, (fun x hx => by cases hx), below_set6 hgw1.below (by omega) _ _ _ _ _ _⟩

end Go.Proofs.YtmoicbmhjmdgdaaGreat

namespace Go.Proofs.YtmoicbmhjmdgdaaGreat
open Go.RowKit Go.Sort

/-- x does not stand behind y. -/
def leD (x y : Int × Int) : Prop := befB y x = false
theorem leD_iff (x y : Int × Int) : leD x y ↔ x.1 < y.1 ∨ (x.1 = y.1 ∧ x.2 ≤ y.2) := by
 unfold leD
 rw [befB_not]
 omega
theorem leD_refl (x : Int × Int) : leD x x := by rw [leD_iff]; omega
theorem leD_trans {x y z : Int × Int} (h : leD x y) (k : leD y z) : leD x z := by rw [leD_iff] at *; omega
theorem leD_anti {x y : Int × Int} (h : leD x y) (k : leD y x) : x = y := by rw [leD_iff] at *; exact Prod.ext (by omega) (by omega)
theorem leD_total (x y : Int × Int) : leD x y ∨ leD y x := by rw [leD_iff, leD_iff]; omega

theorem srt_sorted (l : List (Int × Int)) : (srt l).Pairwise leD := by
 unfold srt
 have h := List.pairwise_mergeSort (le := fun x y : Int × Int => !ltOf ordI y x) (by
  intro a b c h1 h2
  simp only [ltD, Bool.not_eq_true'] at *
  exact leD_trans (x := a) (y := b) (z := c) h1 h2) (by
  intro a b
  simp only [ltD, Bool.or_eq_true, Bool.not_eq_true']
  exact leD_total a b) l
 refine h.imp ?_
 intro a b hab
 simp only [ltD, Bool.not_eq_true'] at hab
 exact hab
theorem srt_perm (l : List (Int × Int)) : (srt l).Perm l := List.mergeSort_perm l _
/-- fold, dot by dot. -/
def foldP (c : Ctx) (p : Option (Int × Int)) : List (Int × Int) → Ctx
 | [] => c
 | x :: r => foldP (step c p x) (some x) r

theorem foldP_snoc (l : List (Int × Int)) : ∀ (c : Ctx) (p : Option (Int × Int)) (x : Int × Int), foldP c p (l ++ [x]) = step (foldP c p l) (l.getLast?.or p) x := by
 induction l with
 | nil => intro c p x; rfl
 | cons y l ih =>
  intro c p x
  show foldP (step c p y) (some y) (l ++ [x]) = _
  rw [ih]
  show _ = step (foldP (step c p y) (some y) l) ((y :: l).getLast?.or p) x
  congr 1
  cases h : l.getLast? with
  | none =>
   obtain rfl : l = [] := by simpa using h
   rfl
  | some z => simp [List.getLast?_cons, h]

theorem foldTo_take (c : Ctx) (l : List (Int × Int)) : ∀ k, k ≤ l.length → foldTo c l k = foldP c none (l.take k) := by
 intro k
 induction k with
 | zero => intro _; rfl
 | succ k ih =>
  intro hk
  have hk' : k < l.length := by omega
  rw [List.take_succ_eq_append_getElem hk', foldP_snoc, ← ih (by omega)]
  show step (foldTo c l k) _ _ = _
  have e1 : l.getD k (0, 0) = l[k] := by simp [hk']
  have e2 : (if k = 0 then none else some (l.getD (k - 1) (0, 0))) = (l.take k).getLast?.or none := by
   cases k with
   | zero => rfl
   | succ m =>
    have hm : m < l.length := by omega
    have e3 : (l.take (m + 1)).getLast? = some l[m] := by rw [List.take_succ_eq_append_getElem hm]; exact List.getLast?_concat
    rw [e3]
    simp [hm]
  rw [e1, e2]
theorem foldTo_all (c : Ctx) (l : List (Int × Int)) : foldTo c l l.length = foldP c none l := by
 rw [foldTo_take c l l.length (Nat.le_refl _), List.take_length]

/-- One dot more. -/
def pstep (c : Ctx) (x : Int × Int) : Ctx := if hasB c x = true then c else if x.2 = clk c x.1 + 1 then setClk c x.1 x.2 else { c with l := c.l ++ [x] }

/-- What holds of a context that is being made of sorted dots, the last one being p. -/
structure Mid (c : Ctx) (p : Option (Int × Int)) (r : List (Int × Int)) : Prop where
 above : ∀ y ∈ c.l, clk c y.1 + 1 < y.2
 node : ∀ y ∈ c.l, 0 ≤ y.1 ∧ y.1 < 4
 last : ∀ y ∈ c.l, ∃ q, p = some q ∧ leD y q
 has : ∀ q, p = some q → hasB c q = true
 rest : ∀ q, p = some q → ∀ x ∈ r, leD q x

theorem hasB_iff (c : Ctx) (x : Int × Int) : hasB c x = true ↔ x ∈ c.l ∨ (0 ≤ x.1 ∧ x.1 ≤ 3 ∧ 1 ≤ x.2 ∧ x.2 ≤ clk c x.1) := by
 simp [hasB, inB, and_assoc]

theorem mid_step {c : Ctx} {p : Option (Int × Int)} {x : Int × Int} {r : List (Int × Int)} (h : Mid c p (x :: r)) (hx : rightB x = true) (hs : ∀ y ∈ r, leD x y) : pstep c x = step c p x ∧ Mid (step c p x) (some x) r := by
 have hn := rightB_node hx
 have hle : ∀ y ∈ c.l, leD y x := fun y hy => by
  obtain ⟨q, hq, hyq⟩ := h.last y hy
  exact leD_trans hyq (h.rest q hq x (List.mem_cons_self ..))
 by_cases h1 : x.2 ≤ clk c x.1
 ·have hh : hasB c x = true := (hasB_iff c x).2 (Or.inr ⟨hn.1, by omega, hn.2.2.1, h1⟩)
  have e1 : pstep c x = c := by simp [pstep, hh]
  have e2 : step c p x = c := by simp [step, h1]
  rw [e1, e2]
  exact ⟨rfl, h.above, h.node, fun y hy => ⟨x, rfl, hle y hy⟩, fun q hq => by cases hq; exact hh, fun q hq y hy => by cases hq; exact hs y hy⟩
 ·by_cases h2 : x.2 = clk c x.1 + 1
  ·have hmem : x ∉ c.l := fun hm => by have := h.above x hm; omega
   have hh : ¬ hasB c x = true := by
    rw [hasB_iff]
    rintro (hm | hm)
    ·exact hmem hm
    ·omega
   have e1 : pstep c x = setClk c x.1 x.2 := by unfold pstep; rw [if_neg hh, if_pos h2]
   have e2 : step c p x = setClk c x.1 x.2 := by unfold step; rw [if_neg h1, if_pos h2]
   rw [e1, e2]
   refine ⟨rfl, ?_, ?_, ?_, ?_, fun q hq y hy => by cases hq; exact hs y hy⟩
   ·intro y hy
    rw [setClk_l] at hy
    have hyn := h.node y hy
    rw [clk_setClk c x.1 x.2 y.1 hn.1 hn.2.1 hyn.1 hyn.2]
    have hya := h.above y hy
    split
    ·rename_i hyx
     have hl := (leD_iff y x).1 (hle y hy)
     rw [hyx] at hya
     omega
    ·exact hya
   ·intro y hy; rw [setClk_l] at hy; exact h.node y hy
   ·intro y hy; rw [setClk_l] at hy; exact ⟨x, rfl, hle y hy⟩
   ·intro q hq
    cases hq
    refine (hasB_iff _ _).2 (Or.inr ⟨hn.1, by omega, hn.2.2.1, ?_⟩)
    rw [clk_setClk c x.1 x.2 x.1 hn.1 hn.2.1 hn.1 hn.2.1, if_pos rfl]
    exact Int.le_refl _
  ·by_cases h3 : p = some x
   ·have hh : hasB c x = true := h.has x h3
    have e1 : pstep c x = c := by simp [pstep, hh]
    have e2 : step c p x = c := by unfold step; rw [if_neg h1, if_neg h2, if_pos h3]
    rw [e1, e2]
    exact ⟨rfl, h.above, h.node, fun y hy => ⟨x, rfl, hle y hy⟩, fun q hq => by cases hq; exact hh, fun q hq y hy => by cases hq; exact hs y hy⟩
   ·have hmem : x ∉ c.l := fun hm => by
     obtain ⟨q, hq, hxq⟩ := h.last x hm
     have := leD_anti hxq (h.rest q hq x (List.mem_cons_self ..))
     exact h3 (by rw [hq, this])
    have hh : ¬ hasB c x = true := by
     rw [hasB_iff]
     rintro (hm | hm)
     ·exact hmem hm
     ·omega
    have e1 : pstep c x = { c with l := c.l ++ [x] } := by unfold pstep; rw [if_neg hh, if_neg h2]
    have e2 : step c p x = { c with l := c.l ++ [x] } := by unfold step; rw [if_neg h1, if_neg h2, if_neg h3]
    rw [e1, e2]
    have hclk : ∀ a, clk { c with l := c.l ++ [x] } a = clk c a := fun _ => rfl
    refine ⟨rfl, ?_, ?_, ?_, ?_, fun q hq y hy => by cases hq; exact hs y hy⟩
    ·intro y hy
     rw [hclk]
     rcases List.mem_append.1 hy with hy | hy
     ·exact h.above y hy
     ·obtain rfl : y = x := by simpa using hy
      omega
    ·intro y hy
     rcases List.mem_append.1 hy with hy | hy
     ·exact h.node y hy
     ·obtain rfl : y = x := by simpa using hy
      exact ⟨hn.1, hn.2.1⟩
    ·intro y hy
     rcases List.mem_append.1 hy with hy | hy
     ·exact ⟨x, rfl, hle y hy⟩
     ·obtain rfl : y = x := by simpa using hy
      exact ⟨y, rfl, leD_refl y⟩
    ·intro q hq
     cases hq
     exact (hasB_iff _ _).2 (Or.inl (List.mem_append.2 (Or.inr (by simp))))

theorem foldP_pstep (l : List (Int × Int)) : ∀ (c : Ctx) (p : Option (Int × Int)), Mid c p l → l.Pairwise leD → (∀ x ∈ l, rightB x = true) → l.foldl pstep c = foldP c p l := by
 induction l with
 | nil => intro c p _ _ _; rfl
 | cons x l ih =>
  intro c p h hs hr
  have hp := List.pairwise_cons.1 hs
  have hm := mid_step h (hr x (List.mem_cons_self ..)) hp.1
  show l.foldl pstep (pstep c x) = foldP (step c p x) (some x) l
  rw [hm.1]
  exact ih _ _ hm.2 hp.2 (fun y hy => hr y (List.mem_cons_of_mem _ hy))

theorem mid_start {c : Ctx} (hc : c.l = []) (l : List (Int × Int)) : Mid c none l where
 above y hy := by rw [hc] at hy; cases hy
 node y hy := by rw [hc] at hy; cases hy
 last y hy := by rw [hc] at hy; cases hy
 has q hq := by cases hq
 rest q hq := by cases hq

/-- What fold makes of dots, sorted: dot by dot, the least that is left. -/
theorem foldS_pstep {c : Ctx} (hc : c.l = []) {l : List (Int × Int)} (hr : ∀ x ∈ l, rightB x = true) : foldS c l = (srt l).foldl pstep c := by
 unfold foldS
 rw [foldTo_all]
 exact (foldP_pstep (srt l) c none (mid_start hc _) (srt_sorted l) (fun x hx => hr x (srt_mem hx))).symm

end Go.Proofs.YtmoicbmhjmdgdaaGreat

namespace Go.Proofs.YtmoicbmhjmdgdaaGreat
open Go.RowKit Go.Sort

theorem errC_okClk {c : Ctx} (h : errC c = 0) : okClk c = true := by
 unfold errC at h
 cases hk : okClk c
 ·simp [hk] at h
 ·rfl

/-- What Next answers: the dot, and the error. -/
def nextA (c : Ctx) (n : Int) : (Int × Int) × Int := if errC c = 0 then (if inB n 0 3 = true then (nextD c n, nextE c n) else ((0, 0), 1)) else ((0, 0), errC c)

set_option maxHeartbeats 2000000 in
theorem next_any (c : Ctx) (A : Option Addr) (cap : Nat) (n : Int) (w : World) (hl : c.l.length ≤ maxLen) (hr : Row w A c.l) :
  Calls Tryz.prog 53 #[.agg #[.int .i64 c.c0, .int .i64 c.c1, .int .i64 c.c2, .int .i64 c.c3, .slice A c.l.length cap], .int .i64 n] w fun e w' => e = .returned (.tuple #[.agg #[.int .i64 (nextA c n).1.1, .int .i64 (nextA c n).1.2], .int .i64 (nextA c n).2]) ∧ Gr w w' := by
 have hchk := check_any c A cap ((w.alloc (.cells #[.int .i64 c.c0, .int .i64 c.c1, .int .i64 c.c2, .int .i64 c.c3, .slice A c.l.length cap] 45)).alloc (.cells #[.int .i64 0, .int .i64 0] 85)) hl (hr.gr (((Gr.refl _).alloc _).alloc _))
 have hchkH : Hid _ := hchk
 clear hchk
 unfold maxLen at hl
 go_enter Tryz.func53, Tryz.ntmps53
 go_wp2_with fail
 refine Calls.mono (show Calls _ _ _ _ _ from hchkH.out) ?_
 rintro e w1 ⟨rfl, hgr⟩
 clear hchkH
 have r0 := box2 hgr (j := 0) rfl
 have r1 := box2 hgr (j := 1) rfl
 have r0f := box2f hgr 0
 have r1f := box2f hgr 1
 by_cases he : errC c = 0
 ·have heH : Hid (errC c = 0) := he
  rw [he]
  clear he
  cases hin : inB n 0 3
  ·have hA : Hid (nextA c n = ((0, 0), 1)) := by show nextA c n = _; simp [nextA, heH.out, hin]
   go_wp2_with (go_at_call 69; refine (isNode_g hin _).mono ?_; rintro e w' ⟨rfl, rfl⟩)
   rw [hA.out]
   exact bodyPost_ret (v := .tuple #[.agg #[.int .i64 0, .int .i64 0], .int .i64 1]) (by simp [results, Tryz.results53, go_sem, r0, r1]) rfl ⟨rfl, (((unbox (unbox hgr)).setCell (by simp) _).setCell (by simp) _)⟩
  ·have hn : 0 ≤ n ∧ n < 4 := by simp [inB] at hin; omega
   have hA : Hid (nextA c n = (nextD c n, nextE c n)) := by show nextA c n = _; simp [nextA, heH.out, hin]
   have kc := box1 (unbox_in hgr) (clkCell (c := c) hn.1 hn.2)
   have k4 := box1 (unbox_in hgr) (j := 4) rfl
   have hcl := clk_of_ok (errC_okClk heH.out) n hn.1 hn.2
   go_wp2_with (go_at_call 69; refine (isNode_g hin _).mono ?_; rintro e w' ⟨rfl, rfl⟩)
   clear kc k4 r0 r1 r0f r1f
   go_loopw [7, 27] (fun m i wr => ∃ k : Nat, k ≤ c.l.length ∧ i = .int .i64 k ∧ m = .int .i64 (topS c n (c.l.take k)) ∧ Gr ((w.alloc (.cells #[.int .i64 c.c0, .int .i64 c.c1, .int .i64 c.c2, .int .i64 c.c3, .slice A c.l.length cap] 45)).alloc (.cells #[.int .i64 0, .int .i64 0] 85)) wr) (fun _ i _ => c.l.length - (intOf i).toNat)
   case atStart => exact ⟨0, by omega, rfl, rfl, hgr⟩
   case round =>
    clear hgr
    obtain ⟨k, hk, rfl, rfl, hgr⟩ := hrel
    have r0 := box2 hgr (j := 0) rfl
    have r1 := box2 hgr (j := 1) rfl
    have r0f := box2f hgr 0
    have r1f := box2f hgr 1
    have hlo := topS_lo c n (c.l.take k)
    by_cases hlt : k < c.l.length
    ·have hltz : (k : Int) < (c.l.length : Int) := by omega
     obtain ⟨b, off, rfl, hb, hcs⟩ := (hr.gr (unbox (unbox hgr))).at hlt
     obtain ⟨x, y, hx⟩ : ∃ x y, c.l[k] = (x, y) := ⟨_, _, rfl⟩
     have e0 := (hcs k hlt).1
     have e1 := (hcs k hlt).2
     rw [hx] at e0 e1
     have hst : Hid (topS c n (c.l.take (k + 1)) = if x = n then max (topS c n (c.l.take k)) y else topS c n (c.l.take k)) := topS_take c n k hlt hx
     clear hcs hx
     by_cases hxn : x = n
     ·subst hxn
      go_wp2
      go_roundw
      case rel => exact ⟨k + 1, by omega, by go_num, by rw [hst.out, if_pos rfl], hgr.alloc _⟩
      case measure => simp [intOf]; omega
     ·have hxb : (x == n) = false := by simpa using hxn
      have hxH : Hid (¬ x = n) := hxn
      clear hxn
      go_wp2
      go_roundw
      case rel => exact ⟨k + 1, by omega, by go_num, by rw [hst.out, if_neg hxH.out], hgr.alloc _⟩
      case measure => simp [intOf]; omega
    ·have hltz : ¬ (k : Int) < (c.l.length : Int) := by omega
     have hke : c.l.take k = c.l := List.take_of_length_le (by omega)
     rw [hke] at hlo ⊢
     clear hke
     by_cases htop : 1099511627776 ≤ topS c n c.l
     ·have hD : Hid (nextD c n = (0, 0) ∧ nextE c n = 2) := by
       show _ ∧ _
       simp [nextD, nextE, htop]
      go_wp2
      rw [hA.out, hD.out.1, hD.out.2]
      exact bodyPost_ret (v := .tuple #[.agg #[.int .i64 0, .int .i64 0], .int .i64 2]) (by simp [results, Tryz.results53, go_sem, r0, r1]) rfl ⟨rfl, (((unbox (unbox hgr)).setCell (by simp) _).setCell (by simp) _)⟩
     ·have hD : Hid (nextD c n = (n, topS c n c.l + 1) ∧ nextE c n = 0) := by
       show _ ∧ _
       simp [nextD, nextE, htop]
      go_wp2
      rw [hA.out, hD.out.1, hD.out.2]
      exact bodyPost_ret (v := .tuple #[.agg #[.int .i64 n, .int .i64 (topS c n c.l + 1)], .int .i64 0]) (by simp [results, Tryz.results53, go_sem, r0, r1]) rfl ⟨rfl, (((unbox (unbox hgr)).setCell (by simp) _).setCell (by simp) _)⟩
 ·have hA : Hid (nextA c n = ((0, 0), errC c)) := by show nextA c n = _; simp [nextA, he]
  have heb : (errC c != 0) = true := by simpa using he
  clear he
  go_wp2
  rw [hA.out]
  exact bodyPost_ret (v := .tuple #[.agg #[.int .i64 0, .int .i64 0], .int .i64 (errC c)]) (by simp [results, Tryz.results53, go_sem, r0, r1]) rfl ⟨rfl, (((unbox (unbox hgr)).setCell (by simp) _).setCell (by simp) _)⟩
end Go.Proofs.YtmoicbmhjmdgdaaGreat
