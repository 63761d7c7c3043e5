/-
  viewref.Merge: two tables merged, as the document says it.
-/
import Derived.Test.YtjgefnipkaecgaaRMergeA
namespace Go.Proofs.Ytjgefnipkaecgaa
open Go.RowKit Go.Sort Go.Shelf Go.Lib

/-- A cell, somewhere in a block. -/
structure CelOff (w : World) (b o : Nat) (x : Cel) : Prop where
  k0 : w.cell? ⟨b, o, none⟩ = some (.int .i64 x.1.1)
  k1 : w.cell? ⟨b, o + 1, none⟩ = some (.int .i64 x.1.2)
  k2 : w.cell? ⟨b, o + 2, none⟩ = some (.int .i64 x.2.1)
  k3 : w.cell? ⟨b, o + 3, none⟩ = some (.int .i64 x.2.2.1)
  k4 : w.cell? ⟨b, o + 4, none⟩ = some (.int .i64 x.2.2.2)
  lt : b < w.heap.size
theorem CelOff.gr {w w' : World} {b o : Nat} {x : Cel} (h : CelOff w b o x) (k : Gr w w') : CelOff w' b o x :=
  ⟨(k.cell (p := ⟨b, o, none⟩) h.lt).trans h.k0, (k.cell (p := ⟨b, o + 1, none⟩) h.lt).trans h.k1, (k.cell (p := ⟨b, o + 2, none⟩) h.lt).trans h.k2, (k.cell (p := ⟨b, o + 3, none⟩) h.lt).trans h.k3, (k.cell (p := ⟨b, o + 4, none⟩) h.lt).trans h.k4, Nat.lt_of_lt_of_le h.lt k.size⟩
theorem CelOff.G {w : World} {b o : Nat} {x : Cel} (h : CelOff w b o x) : (∀ n os, (grow (w.drewN n) os).cell? ⟨b, o, none⟩ = some (.int .i64 x.1.1)) ∧ (∀ n os, (grow (w.drewN n) os).cell? ⟨b, o + 1, none⟩ = some (.int .i64 x.1.2)) ∧ (∀ n os, (grow (w.drewN n) os).cell? ⟨b, o + 2, none⟩ = some (.int .i64 x.2.1)) ∧ (∀ n os, (grow (w.drewN n) os).cell? ⟨b, o + 3, none⟩ = some (.int .i64 x.2.2.1)) ∧ (∀ n os, (grow (w.drewN n) os).cell? ⟨b, o + 4, none⟩ = some (.int .i64 x.2.2.2)) :=
  ⟨cell_grown (a := ⟨b, o, none⟩) h.lt h.k0, cell_grown (a := ⟨b, o + 1, none⟩) h.lt h.k1, cell_grown (a := ⟨b, o + 2, none⟩) h.lt h.k2, cell_grown (a := ⟨b, o + 3, none⟩) h.lt h.k3, cell_grown (a := ⟨b, o + 4, none⟩) h.lt h.k4⟩

theorem TabAt.G {w : World} {B : Nat} {t : Tab} {A : Option Addr} {ca : Nat} {D : Option Addr} {cd : Nat} (h : TabAt w B t A ca D cd) : (∀ n os, (grow (w.drewN n) os).cell? ⟨B, 0, none⟩ = some (.int .i64 t.c.c0)) ∧ (∀ n os, (grow (w.drewN n) os).cell? ⟨B, 1, none⟩ = some (.int .i64 t.c.c1)) ∧ (∀ n os, (grow (w.drewN n) os).cell? ⟨B, 2, none⟩ = some (.int .i64 t.c.c2)) ∧ (∀ n os, (grow (w.drewN n) os).cell? ⟨B, 3, none⟩ = some (.int .i64 t.c.c3)) ∧ (∀ n os, (grow (w.drewN n) os).cell? ⟨B, 4, none⟩ = some (.slice A t.c.l.length ca)) ∧ (∀ n os, (grow (w.drewN n) os).cell? ⟨B, 5, none⟩ = some (.slice D t.e.length cd)) :=
  ⟨cell_grown (a := ⟨B, 0, none⟩) h.lt h.k0, cell_grown (a := ⟨B, 1, none⟩) h.lt h.k1, cell_grown (a := ⟨B, 2, none⟩) h.lt h.k2, cell_grown (a := ⟨B, 3, none⟩) h.lt h.k3, cell_grown (a := ⟨B, 4, none⟩) h.lt h.k4, cell_grown (a := ⟨B, 5, none⟩) h.lt h.k5⟩
theorem rcell_G {t : Tab} {A : Option Addr} {ca : Nat} {D : Option Addr} {cd : Nat} {d : Int × Int} {X : Cel} {m : Bool} {W : World} (hX : fndD t.e d = X) (hm : memD t.e d = m) (hel : t.e.length ≤ maxLen) (hr : Row W A t.c.l) (hd : RowC W D t.e) (n : Nat) (os : Array Obj) :
    Calls Try.prog 65 #[.agg #[.int .i64 t.c.c0, .int .i64 t.c.c1, .int .i64 t.c.c2, .int .i64 t.c.c3, .slice A t.c.l.length ca, .slice D t.e.length cd], .agg #[.int .i64 d.1, .int .i64 d.2]] (grow (W.drewN n) os) fun e w'' => e = .returned (.tuple #[.agg #[.int .i64 X.1.1, .int .i64 X.1.2, .int .i64 X.2.1, .int .i64 X.2.2.1, .int .i64 X.2.2.2], .bool m]) ∧ ∃ p : GrownBy, w'' = grow (W.drewN p.n) p.os := by
  rw [← hX, ← hm]; exact toG n os (rcell_any t A ca D cd d _ hel (hr.gr (grG W n os)) (hd.gr (grG W n os)))
theorem rhasT_G {c : Ctx} {A : Option Addr} {cap : Nat} {d : Int × Int} {r : Bool} {W : World} (hx : hasB c d = r) (hl : c.l.length ≤ maxLen) (hr : Row W A c.l) (n : Nat) (os : Array Obj) :
    Calls Try.prog 18 #[.agg #[.int .i64 c.c0, .int .i64 c.c1, .int .i64 c.c2, .int .i64 c.c3, .slice A c.l.length cap], .agg #[.int .i64 d.1, .int .i64 d.2]] (grow (W.drewN n) os) fun e w'' => e = .returned (.bool r) ∧ ∃ p : GrownBy, w'' = grow (W.drewN p.n) p.os := by
  rw [← hx]; exact toG n os (rhas_any c A cap d _ hl (hr.gr (grG W n os)))

set_option maxRecDepth 100000 in
set_option maxHeartbeats 2000000 in
theorem rmerge_any (a b : Tab) (A B C D : Option Addr) (ca cb cc cd : Nat) (w : World) (hal : a.c.l.length ≤ maxLen) (hbl : b.c.l.length ≤ maxLen) (hael : a.e.length ≤ maxLen) (hbel : b.e.length ≤ maxLen) (hA : A = none → ca = 0) (hB : B = none → cb = 0) (hC : C = none → cc = 0) (hra : Row w A a.c.l) (hrb : Row w B b.c.l) (hrc : RowC w C a.e) (hrd : RowC w D b.e) :
    Calls Try.prog 40 #[.agg #[.int .i64 a.c.c0, .int .i64 a.c.c1, .int .i64 a.c.c2, .int .i64 a.c.c3, .slice A a.c.l.length ca, .slice C a.e.length cc], .agg #[.int .i64 b.c.c0, .int .i64 b.c.c1, .int .i64 b.c.c2, .int .i64 b.c.c3, .slice B b.c.l.length cb, .slice D b.e.length cd]] w fun e w' => ∃ E ce F cf, e = .returned (.tuple #[.agg #[.int .i64 (mergeT a b).c.c0, .int .i64 (mergeT a b).c.c1, .int .i64 (mergeT a b).c.c2, .int .i64 (mergeT a b).c.c3, .slice E (mergeT a b).c.l.length ce, .slice F (mergeT a b).e.length cf], .int .i64 (mergeE a b)]) ∧ Row w' E (mergeT a b).c.l ∧ RowC w' F (mergeT a b).e ∧ (E = none → ce = 0) ∧ (F = none → cf = 0) ∧ Below w.heap.size w w' := by
  have hF0 : MergeAt w (((w.alloc (.cells #[.int .i64 a.c.c0, .int .i64 a.c.c1, .int .i64 a.c.c2, .int .i64 a.c.c3, .slice A a.c.l.length ca, .slice C a.e.length cc] 51)).alloc (.cells #[.int .i64 b.c.c0, .int .i64 b.c.c1, .int .i64 b.c.c2, .int .i64 b.c.c3, .slice B b.c.l.length cb, .slice D b.e.length cd] 51)).alloc (.cells #[.int .i64 0, .int .i64 0, .int .i64 0, .int .i64 0, .slice none 0 0, .slice none 0 0] 51)) a b A ca C cc B cb D cd :=
    ⟨(TabAt.new 51 hra hrc rfl).gr (((Gr.refl _).alloc _).alloc _), (TabAt.new 51 (hrb.gr ((Gr.refl _).alloc _)) (hrd.gr ((Gr.refl _).alloc _)) (by simp)).gr ((Gr.refl _).alloc _), Six.new _ _ _ _ _ _ _ 51 (by simp), ((((Gr.refl w).alloc _).alloc _).alloc _).below⟩
  have mixed : Try.prog.follows .mixedOrders = true := by kernel_rfl
  have hlH : Hid (a.c.l.length ≤ maxLen ∧ b.c.l.length ≤ maxLen ∧ a.e.length ≤ maxLen ∧ b.e.length ≤ maxLen) := ⟨hal, hbl, hael, hbel⟩
  have hAH : Hid ((A = none → ca = 0) ∧ (B = none → cb = 0) ∧ (C = none → cc = 0)) := ⟨hA, hB, hC⟩
  have hck := rtable_any a A ca C cc _ hal hael hF0.ta.row hF0.ta.rowC
  have hckH : Hid _ := hck
  clear hck hal hbl hael hbel hra hrb hrc hrd hA hB hC
  go_enter Try.func40, Try.ntmps40
  go_wp2_with fail
  refine Calls.mono (show Calls _ _ _ _ _ from hckH.out) ?_
  rintro e w1 ⟨rfl, hg1⟩
  clear hckH
  have hF1 := hF0.gr hg1
  clear hF0 hg1
  obtain ⟨E1, hE1⟩ : ∃ E, errT a = E := ⟨_, rfl⟩
  rw [hE1]
  by_cases h1 : E1 = 0
  · subst h1
    have heA : Hid (errT a = 0) := hE1
    clear hE1
    obtain ⟨b0, b1, b2, b3, b4, b5, blt, brow, browC⟩ := (show TabAt _ _ _ _ _ _ _ from hF1.tb)
    have hck := rtable_any b B cb D cd w1 hlH.out.2.1 hlH.out.2.2.2 brow browC
    have hckH : Hid _ := hck
    clear hck brow browC
    go_wp2_with fail
    refine Calls.mono (show Calls _ _ _ _ _ from hckH.out) ?_
    rintro e w2 ⟨rfl, hg2⟩
    clear hckH b0 b1 b2 b3 b4 b5 blt
    have hF2 := hF1.gr hg2
    clear hF1 hg2
    obtain ⟨E2, hE2⟩ : ∃ E, errT b = E := ⟨_, rfl⟩
    rw [hE2]
    by_cases h2 : E2 = 0
    · subst h2
      have heB : Hid (errT b = 0) := hE2
      clear hE2
      have a5 := hF2.ta.k5
      have hal4 : a.e.length ≤ 400 := (errT_parts heA.out).2.1
      have hbl4 : b.e.length ≤ 400 := (errT_parts heB.out).2.1
      have hbd : Hid (([] : List Cel).length + a.e.length ≤ maxLen ∧ (([] : List Cel).length + a.e.length) * 40 ≤ 140737488355328) := by show _ ∧ _; unfold maxLen; simp only [List.length_nil]; omega
      go_wp2_with (at_builtin; refine wpList_append_c _ rfl _ _ rfl w2.heap.size (.slice none 0 0) [] a.e C cc rfl rfl (OwnG.nil _ _ _ _ _) hF2.ta.rowC hAH.out.2.2 hbd.out.1 hbd.out.2 (Nat.le_refl _) ?_; intro v3 w3 hown3 hgr3)
      clear a5
      have hb3 : Below w2.heap.size w2 w3 := below_none hgr3
      have hbd800 : Hid (a.e.length + b.e.length ≤ 800) := by show _ ≤ _; omega
      go_loopw [8, 9] (fun v i wr => ∃ k : Nat, k ≤ b.e.length ∧ i = .int .i64 k ∧ OwnC wr w2.heap.size v (a.e ++ (b.e.take k).filter fun y => !memD a.e y.1) ∧ Hid (∀ j (h : j < b.e.length), j < k → clP a.e b.e[j] = false) ∧ Below w2.heap.size w2 wr) (fun _ i _ => b.e.length - (intOf i).toNat)
      case atStart => exact ⟨0, by omega, rfl, by simpa using hown3, fun j _ hj => absurd hj (Nat.not_lt_zero _), hb3⟩
      case round =>
        clear hown3 hgr3 hb3
        obtain ⟨k, hk, rfl, hov, hnc, hbel⟩ := hrel
        obtain ⟨A1, cap1, rfl, hA1, hrow1, hlt1⟩ := OwnG.row encC_len hov
        have hFR := hF2.below hbel
        have hsR : w2.heap.size ≤ wr.heap.size := hbel.size
        have b5 := hFR.tb.k5
        by_cases hlt : k < b.e.length
        · have hltz : (k : Int) < (b.e.length : Int) := by omega
          obtain ⟨bb, off, rfl, hbb, hcs⟩ := RowC.get hFR.tb.rowC hlt
          obtain ⟨y, hy⟩ : ∃ y, b.e[k] = y := ⟨_, rfl⟩
          have hst := filter_take (p := fun y => !memD a.e y.1) hlt hy
          have hyH : Hid (b.e[k] = y) := hy
          obtain ⟨M, HM⟩ : ∃ M, (a.e ++ (b.e.take k).filter fun y => !memD a.e y.1) = M := ⟨_, rfl⟩
          have hMl : M.length ≤ 800 := by
            rw [← HM, List.length_append]
            have := filter_le (fun y => !memD a.e y.1) b.e k
            omega
          have hstM : Hid ((a.e ++ (b.e.take (k + 1)).filter fun y => !memD a.e y.1) = M ++ (if !memD a.e y.1 then [y] else [])) := by show _ = _; rw [hst, ← List.append_assoc, HM]
          rw [HM] at hov hrow1 ⊢
          have hovH : Hid (OwnC wr w2.heap.size (.slice A1 M.length cap1) M) := hov
          have hbelH : Hid (Below w2.heap.size w2 wr) := hbel
          have hFRH : Hid (MergeAt w wr a b A ca C cc B cb (some ⟨bb, off, none⟩) cd) := hFR
          have hcell : Hid (∀ W, Below wr.heap.size wr W → Calls Try.prog 65 #[.agg #[.int .i64 a.c.c0, .int .i64 a.c.c1, .int .i64 a.c.c2, .int .i64 a.c.c3, .slice A a.c.l.length ca, .slice C a.e.length cc], .agg #[.int .i64 y.1.1, .int .i64 y.1.2]] W fun e w' => e = .returned (.tuple #[.agg #[.int .i64 (fndD a.e y.1).1.1, .int .i64 (fndD a.e y.1).1.2, .int .i64 (fndD a.e y.1).2.1, .int .i64 (fndD a.e y.1).2.2.1, .int .i64 (fndD a.e y.1).2.2.2], .bool (memD a.e y.1)]) ∧ Gr W w') := fun W hb => rcell_any a A ca C cc y.1 W hlH.out.2.2.1 (hFRH.out.ta.below hb).row (hFRH.out.ta.below hb).rowC
          have hKeep : Hid (∀ w' : World, Below wr.heap.size wr w' → (fun w' => w'.cell? ⟨w.heap.size, 0, none⟩ = some (.int .i64 a.c.c0) ∧ w'.cell? ⟨w.heap.size, 1, none⟩ = some (.int .i64 a.c.c1) ∧ w'.cell? ⟨w.heap.size, 2, none⟩ = some (.int .i64 a.c.c2) ∧ w'.cell? ⟨w.heap.size, 3, none⟩ = some (.int .i64 a.c.c3) ∧ w'.cell? ⟨w.heap.size, 4, none⟩ = some (.slice A a.c.l.length ca) ∧ w'.cell? ⟨w.heap.size, 5, none⟩ = some (.slice C a.e.length cc) ∧ w'.cell? ⟨w.heap.size + 1, 5, none⟩ = some (.slice (some ⟨bb, off, none⟩) b.e.length cd) ∧ w'.cell? ⟨bb, off + k * 5, none⟩ = some (.int .i64 y.1.1) ∧ w'.cell? ⟨bb, off + k * 5 + 1, none⟩ = some (.int .i64 y.1.2)) w') := fun w' hb => by
            have h1 := hFRH.out.ta.below hb
            have h2 := hFRH.out.tb.below hb
            have hc1 := RowC.get h2.rowC hlt
            obtain ⟨b', o', he, _, h3⟩ := hc1
            obtain ⟨rfl, rfl⟩ : bb = b' ∧ off = o' := by injection he with he; injection he with h1 h2; exact ⟨h1, h2⟩
            have h4 := h3 k hlt
            rw [hyH.out] at h4
            exact ⟨h1.k0, h1.k1, h1.k2, h1.k3, h1.k4, h1.k5, h2.k5, h4.1, h4.2.1⟩
          obtain ⟨X, HX⟩ : ∃ X, fndD a.e y.1 = X := ⟨_, rfl⟩
          rw [HX] at hcell
          have HXH : Hid (fndD a.e y.1 = X) := HX
          obtain ⟨mm, Hm⟩ : ∃ m, memD a.e y.1 = m := ⟨_, rfl⟩
          rw [Hm] at hcell hstM
          have HmH : Hid (memD a.e y.1 = mm) := Hm
          have hbd : Below wr.heap.size wr wr.drew := (Below.refl _ _).drew
          have hbB : Below wr.heap.size wr (wr.alloc (.cells #[.int .i64 0, .int .i64 0, .int .i64 0, .int .i64 0, .int .i64 0] 72)).drew := ((Below.refl _ _).alloc (Nat.le_refl _) _).drew
          clear hov hbel hrow1 hcs hy hst HM HX Hm hFR
          go_upto_region 11 with fail
          clear b5
          go_region_held3 (fun w' => w'.cell? ⟨w.heap.size, 0, none⟩ = some (.int .i64 a.c.c0) ∧ w'.cell? ⟨w.heap.size, 1, none⟩ = some (.int .i64 a.c.c1) ∧ w'.cell? ⟨w.heap.size, 2, none⟩ = some (.int .i64 a.c.c2) ∧ w'.cell? ⟨w.heap.size, 3, none⟩ = some (.int .i64 a.c.c3) ∧ w'.cell? ⟨w.heap.size, 4, none⟩ = some (.slice A a.c.l.length ca) ∧ w'.cell? ⟨w.heap.size, 5, none⟩ = some (.slice C a.e.length cc) ∧ w'.cell? ⟨w.heap.size + 1, 5, none⟩ = some (.slice (some ⟨bb, off, none⟩) b.e.length cd) ∧ w'.cell? ⟨bb, off + k * 5, none⟩ = some (.int .i64 y.1.1) ∧ w'.cell? ⟨bb, off + k * 5 + 1, none⟩ = some (.int .i64 y.1.2)) (first | with_reducible exact hKeep.out _ hbd | with_reducible exact hKeep.out _ hbB | with_reducible exact hKeep.out _ hbc.out | with_reducible exact hKeep.out _ hbA.out | with_reducible exact hKeep.out _ hbS.out)
            (first
              | (go_at_call 65; (with_reducible refine Calls.mono (show Calls _ _ _ _ _ from hcell.out wr.drew hbd) ?_); rintro e x1 ⟨rfl, hg⟩; have hbc : Hid (Below wr.heap.size wr x1) := hbd.trans (hg.below.mono hbd.size); have hbA : Hid (Below wr.heap.size wr (x1.alloc (.cells #[.int .i64 0, .int .i64 0, .int .i64 0, .int .i64 0, .int .i64 0] 72))) := hbc.out.alloc hbc.out.size _; obtain ⟨y0, y1, y2, y3, y4, yf, ylt⟩ := FiveAt.new x1 (.int .i64 0) (.int .i64 0) (.int .i64 0) (.int .i64 0) (.int .i64 0) 72 rfl; have hbS : Hid (Below wr.heap.size wr (x1.alloc (.cells #[.int .i64 X.1.1, .int .i64 X.1.2, .int .i64 X.2.1, .int .i64 X.2.2.1, .int .i64 X.2.2.2] 72))) := hbc.out.alloc hbc.out.size _; have hXS : Hid (CelAt (x1.alloc (.cells #[.int .i64 X.1.1, .int .i64 X.1.2, .int .i64 X.2.1, .int .i64 X.2.2.1, .int .i64 X.2.2.2] 72)) x1.heap.size X) := CelAt.new X 72 rfl; clear hg)
              | (go_at_call 65; (with_reducible refine Calls.mono (show Calls _ _ _ _ _ from hcell.out (wr.alloc (.cells #[.int .i64 0, .int .i64 0, .int .i64 0, .int .i64 0, .int .i64 0] 72)).drew hbB) ?_); rintro e x1 ⟨rfl, hg⟩; have hbc : Hid (Below wr.heap.size wr x1) := hbB.trans (hg.below.mono hbB.size); obtain ⟨y0, y1, y2, y3, y4, yf, ylt⟩ := (FiveAt.new wr (.int .i64 0) (.int .i64 0) (.int .i64 0) (.int .i64 0) (.int .i64 0) 72 rfl).gr ((Gr.refl _).drew.trans hg); have hbS : Hid (Below wr.heap.size wr ((((((x1.setCell ⟨wr.heap.size, 0, none⟩ (.int .i64 X.1.1)).setCell ⟨wr.heap.size, 1, none⟩ (.int .i64 X.1.2)).setCell ⟨wr.heap.size, 2, none⟩ (.int .i64 X.2.1)).setCell ⟨wr.heap.size, 3, none⟩ (.int .i64 X.2.2.1)).setCell ⟨wr.heap.size, 4, none⟩ (.int .i64 X.2.2.2)))) := below_set5 hbc.out (Nat.le_refl _) _ _ _ _ _; have hXS : Hid (CelAt ((((((x1.setCell ⟨wr.heap.size, 0, none⟩ (.int .i64 X.1.1)).setCell ⟨wr.heap.size, 1, none⟩ (.int .i64 X.1.2)).setCell ⟨wr.heap.size, 2, none⟩ (.int .i64 X.2.1)).setCell ⟨wr.heap.size, 3, none⟩ (.int .i64 X.2.2.1)).setCell ⟨wr.heap.size, 4, none⟩ (.int .i64 X.2.2.2))) wr.heap.size X) := ⟨cell_set (cell_set (cell_set (cell_set (cell_set y0)))), cell_set (cell_set (cell_set (cell_set (cell_set y1)))), cell_set (cell_set (cell_set (cell_set (cell_set y2)))), cell_set (cell_set (cell_set (cell_set (cell_set y3)))), cell_set (cell_set (cell_set (cell_set (cell_set y4)))), by simpa [World.setCell] using ylt⟩; clear hg))
          all_goals (have hFS := hFRH.out.below hbS.out; have hovS := hovH.out.below hbS.out; have hXF := hXS.out; have hbSw : Below w2.heap.size w2 _ := hbelH.out.trans (hbS.out.mono hsR); clear hbS hXS hKeep hcell hbc hbd hbB y0 y1 y2 y3 y4 yf ylt)
          all_goals (first | (with_reducible change Exit.then _ _ _ _ (World.alloc x1 _); generalize x1.alloc (.cells #[.int .i64 X.1.1, .int .i64 X.1.2, .int .i64 X.2.1, .int .i64 X.2.2.1, .int .i64 X.2.2.2] 72) = V at hFS hovS hXF hbSw ⊢; generalize x1.heap.size = Bx at hXF ⊢) | (generalize ((((((x1.setCell ⟨wr.heap.size, 0, none⟩ (.int .i64 X.1.1)).setCell ⟨wr.heap.size, 1, none⟩ (.int .i64 X.1.2)).setCell ⟨wr.heap.size, 2, none⟩ (.int .i64 X.2.1)).setCell ⟨wr.heap.size, 3, none⟩ (.int .i64 X.2.2.1)).setCell ⟨wr.heap.size, 4, none⟩ (.int .i64 X.2.2.2))) = V at hFS hovS hXF hbSw ⊢; generalize wr.heap.size = Bx at hXF ⊢))
          all_goals
            clear hovH hFRH
            have hE := neqCel
            have hG := guardCel
            obtain ⟨bb', off', hbe, hbb, hcs⟩ := RowC.get hFS.tb.rowC hlt
            obtain ⟨rfl, rfl⟩ : bb = bb' ∧ off = off' := by injection hbe with hbe; injection hbe with h1 h2; exact ⟨h1, h2⟩
            obtain ⟨e0, e1, e2, e3, e4⟩ := hcs k hlt
            rw [hyH.out] at e0 e1 e2 e3 e4
            have b5 := hFS.tb.k5
            have kG := cell_grown (a := ⟨w.heap.size + 1, 5, none⟩) hFS.tb.lt b5
            have q0 := cell_grown (a := ⟨bb, off + k * 5, none⟩) hbb e0
            have q1 := cell_grown (a := ⟨bb, off + k * 5 + 1, none⟩) hbb e1
            have q2 := cell_grown (a := ⟨bb, off + k * 5 + 2, none⟩) hbb e2
            have q3 := cell_grown (a := ⟨bb, off + k * 5 + 3, none⟩) hbb e3
            have q4 := cell_grown (a := ⟨bb, off + k * 5 + 4, none⟩) hbb e4
            obtain ⟨g0, g1, g2, g3, g4⟩ := hXF.G
            have hFSH : Hid (MergeAt w V a b A ca C cc B cb (some ⟨bb, off, none⟩) cd) := hFS
            have hovSH : Hid (OwnC V w2.heap.size (.slice A1 M.length cap1) M) := hovS
            clear hFS hovS hcs hbe b5 e0 e1 e2 e3 e4
            cases mm
            · have hncK : Hid (∀ j (h : j < b.e.length), j < k + 1 → clP a.e b.e[j] = false) := by
                intro j hj hjk
                by_cases e : j = k
                · subst e; rw [hyH.out]; exact clP_none HmH.out
                · exact hnc j hj (by omega)
              have hst2 : Hid ((a.e ++ (b.e.take (k + 1)).filter fun y => !memD a.e y.1) = M ++ [y]) := by show _ = _; rw [hstM.out]; rfl
              have hbd : Hid (M.length + [y].length ≤ maxLen ∧ (M.length + [y].length) * 40 ≤ 140737488355328) := by show _ ∧ _; unfold maxLen; simp only [List.length_cons, List.length_nil]; omega
              go_upto_region 12 with fail
              refine wp_region_quiet_grown mixed (by kernel_rfl) ?_
              repeat (go_big_quiet_step (fail))
              refine wpQuiet_nil ?_
              rintro _ ⟨⟨nq, osq⟩, rfl⟩
              have hgQ : Gr V (grow (V.drewN nq) osq) := ⟨nq, osq, rfl⟩
              have f0 := q0 nq osq
              have f1 := q1 nq osq
              have f2 := q2 nq osq
              have f3 := q3 nq osq
              have f4 := q4 nq osq
              have f5 := kG nq osq
              have hovQ := hovSH.out.gr hgQ
              have hbQ : Hid (Below w2.heap.size w2 (grow (V.drewN nq) osq)) := hbSw.trans (hgQ.below.mono hbSw.size)
              clear q0 q1 q2 q3 q4 kG g0 g1 g2 g3 g4 hgQ
              generalize grow (V.drewN nq) osq = wq at f0 f1 f2 f3 f4 f5 hovQ hbQ ⊢
              have hovQH : Hid (OwnC wq w2.heap.size (.slice A1 M.length cap1) M) := hovQ
              have hsQ := hbQ.out.size
              clear hovQ
              go_wp2_with (at_builtin; refine wpList_append_c _ rfl _ _ rfl w2.heap.size (.slice A1 M.length cap1) M [y] (some ⟨wq.heap.size, 0, none⟩) 1 rfl rfl ?ho ?hr (fun h => by cases h) hbd.out.1 hbd.out.2 ?hs ?_)
              case ho => exact hovQH.out.gr ((Gr.refl _).alloc _)
              case hr => exact rowNewCl rfl _ _
              case hs => simp; omega
              intro v1 w4 hown1 hgr1
              have hb4 : Hid (Below w2.heap.size w2 w4) := hbQ.out.trans ((((Gr.refl _).alloc _).below.mono hsQ).trans (OwnG.grown_below (hovQH.out.gr ((Gr.refl _).alloc _)) hgr1 (by simp; omega)))
              have hownH : Hid (OwnC w4 w2.heap.size v1 (M ++ [y])) := hown1
              clear hown1 hgr1
              go_wp2
              go_roundw
              case rel => exact ⟨k + 1, by omega, by go_num, by rw [hst2.out]; exact hownH.out, hncK, hb4.out⟩
              case measure => simp [intOf]; omega
            · obtain ⟨hXm, hXd⟩ := fndD_mem HmH.out
              rw [HXH.out] at hXm hXd
              obtain ⟨ix, hix, hixe⟩ := List.getElem_of_mem hXm
              have hcl := clP_at (x := y) (errT_asc heA.out) hix (by rw [hixe]; exact hXd)
              rw [hixe] at hcl
              cases hq : celEq X y
              · have hfin : Hid (mergeE a b = 5 ∧ mergeT a b = ⟨zeroC, []⟩) := by
                  refine mergeT_no ?_ (by decide)
                  have : clashB a b = true := by
                    rw [clash_swap, List.any_eq_true]
                    exact ⟨y, by rw [← hyH.out]; exact List.getElem_mem hlt, by rw [hcl, hq]; rfl⟩
                  unfold mergeE
                  rw [heA.out, heB.out, this]
                  simp
                clear hXm hXd hixe hcl
                go_upto_region 12 with fail
                refine wp_region_quiet_grown mixed (by kernel_rfl) ?_
                repeat (go_big_quiet_step (fail))
                refine wpQuiet_nil ?_
                rintro _ ⟨⟨nq, osq⟩, rfl⟩
                have hgQ : Gr V (grow (V.drewN nq) osq) := ⟨nq, osq, rfl⟩
                have hFQ := hFSH.out.gr hgQ
                clear q0 q1 q2 q3 q4 kG g0 g1 g2 g3 g4 hgQ
                generalize grow (V.drewN nq) osq = wq at hFQ ⊢
                obtain ⟨z0, z1, z2, z3, z4, z5, zf, zlt⟩ := (show Six _ _ _ _ _ _ _ _ from hFQ.res)
                have hbw : Hid (Below w.heap.size w _) := hFQ.hw
                go_wp2
                rw [hfin.out.1, hfin.out.2]
                exact bodyPost_ret (v := .tuple #[.agg #[.int .i64 0, .int .i64 0, .int .i64 0, .int .i64 0, .slice none 0 0, .slice none 0 0], .int .i64 5]) (by simp [results, Try.results40, go_sem, z0, z1, z2, z3, z4, z5]) rfl ⟨none, 0, none, 0, rfl, Or.inl rfl, Or.inl rfl, fun _ => rfl, fun _ => rfl, below_set6 hbw.out (by omega) _ _ _ _ _ _⟩
              · have hncK : Hid (∀ j (h : j < b.e.length), j < k + 1 → clP a.e b.e[j] = false) := by
                  intro j hj hjk
                  by_cases e : j = k
                  · subst e; rw [hyH.out, hcl, hq]; rfl
                  · exact hnc j hj (by omega)
                have hst2 : Hid ((a.e ++ (b.e.take (k + 1)).filter fun y => !memD a.e y.1) = M) := by show _ = _; rw [hstM.out]; simp
                clear hXm hXd hixe hcl
                go_upto_region 12 with fail
                refine wp_region_quiet_grown mixed (by kernel_rfl) ?_
                repeat (go_big_quiet_step (fail))
                refine wpQuiet_nil ?_
                rintro _ ⟨⟨nq, osq⟩, rfl⟩
                have hgQ : Gr V (grow (V.drewN nq) osq) := ⟨nq, osq, rfl⟩
                have hovQ : Hid (OwnC (grow (V.drewN nq) osq) w2.heap.size (.slice A1 M.length cap1) M) := hovSH.out.gr hgQ
                have hbQ : Hid (Below w2.heap.size w2 (grow (V.drewN nq) osq)) := hbSw.trans (hgQ.below.mono hbSw.size)
                clear q0 q1 q2 q3 q4 kG g0 g1 g2 g3 g4 hgQ
                go_wp2
                go_roundw
                case rel => exact ⟨k + 1, by omega, by go_num, by rw [hst2.out]; exact hovQ.out, hncK, hbQ.out⟩
                case measure => simp [intOf]; omega
        · have hltz : ¬ (k : Int) < (b.e.length : Int) := by omega
          have hke : b.e.take k = b.e := List.take_of_length_le (by omega)
          rw [hke] at hov hrow1 ⊢
          have hKH : Hid (clashB a b = false) := by
            show clashB a b = false
            rw [clash_swap, List.any_eq_false]
            intro y hy
            obtain ⟨j, hj, rfl⟩ := List.getElem_of_mem hy
            rw [hnc.out j hj (by omega)]
            simp
          obtain ⟨M, HM⟩ : ∃ M, allC a b = M := ⟨_, rfl⟩
          have hMl : M.length ≤ 800 := by
            rw [← HM]
            unfold allC
            rw [List.length_append]
            have := List.length_filter_le (fun y => !memD a.e y.1) b.e
            omega
          have hMn : Hid ((M.map (·.1)).Nodup) := by show List.Nodup _; rw [← HM]; exact allC_nodup heA.out heB.out
          have hMr : Hid ((srtC M).filter (keepR a b) = mrg a b) := by show _ = _; rw [← HM]; exact mrg_ref heA.out heB.out
          change OwnC _ _ _ (allC a b) at hov
          rw [show (a.e ++ b.e.filter fun y => !memD a.e y.1) = allC a b from rfl, HM] at hrow1 ⊢
          rw [show (a.e ++ b.e.filter fun y => !memD a.e y.1) = allC a b from rfl] at hov
          rw [HM] at hov
          have hovH : Hid (OwnC wr w2.heap.size (.slice A1 M.length cap1) M) := hov
          clear hov hke hrow1 HM b5 hnc
          obtain ⟨a0, a1, a2, a3, a4, a5, alt, arow, arowC⟩ := (show TabAt _ _ _ _ _ _ _ from hFR.ta)
          obtain ⟨b0, b1, b2, b3, b4, b5, blt, brow, browC⟩ := (show TabAt _ _ _ _ _ _ _ from hFR.tb)
          have hab : Hid (errB a.c b.c = 0) := by show errB a.c b.c = 0; unfold errB; rw [(errT_parts heA.out).1, (errT_parts heB.out).1]; simp
          have hjo := joined_any a.c b.c A B ca cb wr hab arow brow hAH.out.1 hAH.out.2.1
          have hjoH : Hid _ := hjo
          clear hjo arow brow arowC browC alt blt
          go_wp2_with fail
          refine Calls.mono (show Calls _ _ _ _ _ from hjoH.out) ?_
          rintro e w4 ⟨C4, p4, rfl, hr4, hC4, hCb4, hb4⟩
          clear hjoH a0 a1 a2 a3 a4 a5 b0 b1 b2 b3 b4 b5
          have hF4 := hFR.below hb4
          have hov4 := hovH.out.below hb4
          have hsR4 := hFR.res.lt
          have hCn4 : Hid (∀ x, C4 = some x → x.block ≠ w.heap.size + 1 + 1) := fun x hx => by have := hCb4 x hx; omega
          have hbw4 : Below w2.heap.size w2 w4 := hbel.trans (hb4.mono hsR)
          have hCbR : Hid (∀ x, C4 = some x → wr.heap.size ≤ x.block) := hCb4
          have hsW4 : wr.heap.size ≤ w4.heap.size := hb4.size
          have hovW : Hid (OwnC wr w2.heap.size (.slice A1 M.length cap1) M) := hovH
          clear hFR hb4 hCb4 hovH
          obtain ⟨J, hJ⟩ : ∃ J, joinC a.c b.c = J := ⟨_, rfl⟩
          obtain ⟨E4, hE4⟩ : ∃ E, joinE a.c b.c = E := ⟨_, rfl⟩
          rw [hJ] at hr4 ⊢
          rw [hE4]
          have hJH : Hid (joinC a.c b.c = J ∧ joinE a.c b.c = E4) := ⟨hJ, hE4⟩
          clear hJ hE4
          have hgC : Gr w4 (w4.alloc (.cells #[.int .i64 J.c0, .int .i64 J.c1, .int .i64 J.c2, .int .i64 J.c3, .slice C4 J.l.length p4] 25)) := (Gr.refl _).alloc _
          have hF5 := hF4.gr hgC
          have hov5 : OwnC _ _ _ _ := hov4.gr hgC
          have hc5 : CtxAt (w4.alloc (.cells #[.int .i64 J.c0, .int .i64 J.c1, .int .i64 J.c2, .int .i64 J.c3, .slice C4 J.l.length p4] 25)) w4.heap.size J C4 p4 := CtxAt.new (c := J) 25 hr4 rfl
          have hbw5 : Below w2.heap.size w2 (w4.alloc (.cells #[.int .i64 J.c0, .int .i64 J.c1, .int .i64 J.c2, .int .i64 J.c3, .slice C4 J.l.length p4] 25)) := hbw4.trans (hgC.below.mono hbw4.size)
          clear hF4 hgC hr4 hov4
          by_cases h4 : E4 = 0
          · subst h4
            have hso := sortOwnG (fun x y => ltR x y) 67 #[] (enters_of Try.func67 (by kernel_rfl) rfl) w2.heap.size A1 cap1 M _ (fun g => cmpR g 0 _ _) (nodup_uniq hMn.out) hov5 (by omega)
            have hsoH : Hid _ := hso
            have hgb : ∀ g, (Value.slice A1 M.length cap1).ownBlock = some g → g < wr.heap.size := fun g hg => (World.ownsRow.lt hovW.out g hg).2
            clear hso
            go_wp2_with fail
            refine Calls.mono (show Calls _ _ _ _ _ from hsoH.out) ?_
            rintro e w6 ⟨rfl, hrE, hgr6⟩
            clear hsoH
            have hb6 : Below w2.heap.size w2 w6 := hbw5.trans (OwnG.grown_below hov5 hgr6 hbw5.size)
            have hF6 := hF2.below hb6
            have hc6 := hc5.grownBy hgr6 (fun e => by have := hgb _ e.symm; omega) (fun x hx _ e => by have := hgb _ e.symm; have := hCbR.out x hx; omega)
            clear hov5 hgr6 hF5 hc5 hbw5 hgb
            go_wp2
            obtain ⟨L, HL⟩ : ∃ L, srtC M = L := ⟨_, rfl⟩
            have hLl : M.length = L.length := by rw [← HL, srtC_length]
            rw [HL] at hrE
            have hMrL : Hid (L.filter (keepR a b) = mrg a b) := by show _ = _; rw [← HL]; exact hMr.out
            rw [hLl]
            rw [hLl] at hMl
            clear HL hMr hMn hovW hbel
            go_loopw [14, 15] (fun v i wq => ∃ k : Nat, k ≤ L.length ∧ i = .int .i64 k ∧ OwnC wq w6.heap.size v ((L.take k).filter (keepR a b)) ∧ Below w6.heap.size w6 wq) (fun _ i _ => L.length - (intOf i).toNat)
            case atStart => exact ⟨0, by omega, rfl, OwnG.nil _ _ _ _ _, Below.refl _ _⟩
            case round =>
              rename World => wq
              obtain ⟨j, hj, rfl, hov, hbel⟩ := hrel
              obtain ⟨A2, cap2, rfl, hA2, hrow2, hlt2⟩ := OwnG.row encC_len hov
              have hFQ := hF6.below hbel
              have hcQ := hc6.below hbel
              have hrQ := hrE.below hbel
              have hsQ : w6.heap.size ≤ wq.heap.size := hbel.size
              by_cases hjt : j < L.length
              · have hltz2 : (j : Int) < (L.length : Int) := by omega
                obtain ⟨bb, off, rfl, hbb, hcs⟩ := RowC.get hrQ hjt
                obtain ⟨z, hz⟩ : ∃ z, L[j] = z := ⟨_, rfl⟩
                have hzQ : CelOff wq bb (off + j * 5) z := by
                  obtain ⟨e0, e1, e2, e3, e4⟩ := hcs j hjt
                  rw [hz] at e0 e1 e2 e3 e4
                  exact ⟨e0, e1, e2, e3, e4, hbb⟩
                have hst := filter_take (p := keepR a b) hjt hz
                obtain ⟨N, HN⟩ : ∃ N, (L.take j).filter (keepR a b) = N := ⟨_, rfl⟩
                have hNl : N.length ≤ 800 := by rw [← HN]; exact Nat.le_trans (filter_le _ _ _) hMl
                rw [HN] at hov hst hrow2 ⊢
                have hstH : Hid ((L.take (j + 1)).filter (keepR a b) = N ++ (if keepR a b z then [z] else [])) := hst
                have hovH : Hid (OwnC wq w6.heap.size (.slice A2 N.length cap2) N) := hov
                have hbelH : Hid (Below w6.heap.size w6 wq) := hbel
                clear hcs hz HN hst hov hbel hrow2 hlt2
                obtain ⟨Xa, hXa⟩ : ∃ X, fndD a.e z.1 = X := ⟨_, rfl⟩
                obtain ⟨Xb, hXb⟩ : ∃ X, fndD b.e z.1 = X := ⟨_, rfl⟩
                obtain ⟨ma, hma⟩ : ∃ m, memD a.e z.1 = m := ⟨_, rfl⟩
                obtain ⟨mb, hmb⟩ : ∃ m, memD b.e z.1 = m := ⟨_, rfl⟩
                obtain ⟨ra, hra⟩ : ∃ m, hasB a.c z.1 = m := ⟨_, rfl⟩
                obtain ⟨rb, hrb⟩ : ∃ m, hasB b.c z.1 = m := ⟨_, rfl⟩
                have hkp : Hid (keepR a b z = ((ma && mb) || (ma && !rb) || (mb && !ra))) := by show _ = _; unfold keepR; rw [hma, hmb, hra, hrb]
                have hcell : Hid (∀ W, Gr wq W → Calls Try.prog 65 #[.agg #[.int .i64 a.c.c0, .int .i64 a.c.c1, .int .i64 a.c.c2, .int .i64 a.c.c3, .slice A a.c.l.length ca, .slice C a.e.length cc], .agg #[.int .i64 z.1.1, .int .i64 z.1.2]] W fun e w' => e = .returned (.tuple #[.agg #[.int .i64 Xa.1.1, .int .i64 Xa.1.2, .int .i64 Xa.2.1, .int .i64 Xa.2.2.1, .int .i64 Xa.2.2.2], .bool ma]) ∧ Gr W w') := fun W hg => by
                  have := rcell_any a A ca C cc z.1 W hlH.out.2.2.1 (hFQ.ta.gr hg).row (hFQ.ta.gr hg).rowC
                  rw [hXa, hma] at this
                  exact this
                have hKeep : Hid (∀ w' : World, Gr wq w' → (fun w' => w'.cell? ⟨w.heap.size, 0, none⟩ = some (.int .i64 a.c.c0) ∧ w'.cell? ⟨w.heap.size, 1, none⟩ = some (.int .i64 a.c.c1) ∧ w'.cell? ⟨w.heap.size, 2, none⟩ = some (.int .i64 a.c.c2) ∧ w'.cell? ⟨w.heap.size, 3, none⟩ = some (.int .i64 a.c.c3) ∧ w'.cell? ⟨w.heap.size, 4, none⟩ = some (.slice A a.c.l.length ca) ∧ w'.cell? ⟨w.heap.size, 5, none⟩ = some (.slice C a.e.length cc) ∧ w'.cell? ⟨bb, off + j * 5, none⟩ = some (.int .i64 z.1.1) ∧ w'.cell? ⟨bb, off + j * 5 + 1, none⟩ = some (.int .i64 z.1.2)) w') := fun w' hg => by
                  have h1 := hFQ.ta.gr hg
                  have h2 := hzQ.gr hg
                  exact ⟨h1.k0, h1.k1, h1.k2, h1.k3, h1.k4, h1.k5, h2.k0, h2.k1⟩
                have hbd : Gr wq wq.drew := (Gr.refl _).drew
                have hbB : Gr wq (wq.alloc (.cells #[.int .i64 0, .int .i64 0, .int .i64 0, .int .i64 0, .int .i64 0] 72)).drew := ((Gr.refl _).alloc _).drew
                go_upto_region 24 with fail
                go_region_held3 (fun w' => w'.cell? ⟨w.heap.size, 0, none⟩ = some (.int .i64 a.c.c0) ∧ w'.cell? ⟨w.heap.size, 1, none⟩ = some (.int .i64 a.c.c1) ∧ w'.cell? ⟨w.heap.size, 2, none⟩ = some (.int .i64 a.c.c2) ∧ w'.cell? ⟨w.heap.size, 3, none⟩ = some (.int .i64 a.c.c3) ∧ w'.cell? ⟨w.heap.size, 4, none⟩ = some (.slice A a.c.l.length ca) ∧ w'.cell? ⟨w.heap.size, 5, none⟩ = some (.slice C a.e.length cc) ∧ w'.cell? ⟨bb, off + j * 5, none⟩ = some (.int .i64 z.1.1) ∧ w'.cell? ⟨bb, off + j * 5 + 1, none⟩ = some (.int .i64 z.1.2)) (first | with_reducible exact hKeep.out _ hbd | with_reducible exact hKeep.out _ hbB | with_reducible exact hKeep.out _ hbc.out | with_reducible exact hKeep.out _ hbA.out | with_reducible exact hKeep.out _ hbS.out)
                  (first
                    | (go_at_call 65; (with_reducible refine Calls.mono (show Calls _ _ _ _ _ from hcell.out wq.drew hbd) ?_); rintro e x1 ⟨rfl, hg⟩; have hbc : Hid (Gr wq x1) := hbd.trans hg; have hbA : Hid (Gr wq (x1.alloc (.cells #[.int .i64 0, .int .i64 0, .int .i64 0, .int .i64 0, .int .i64 0] 72))) := hbc.out.alloc _; obtain ⟨y0, y1, y2, y3, y4, yf, ylt⟩ := FiveAt.new x1 (.int .i64 0) (.int .i64 0) (.int .i64 0) (.int .i64 0) (.int .i64 0) 72 rfl; have hbS : Hid (Gr wq (x1.alloc (.cells #[.int .i64 Xa.1.1, .int .i64 Xa.1.2, .int .i64 Xa.2.1, .int .i64 Xa.2.2.1, .int .i64 Xa.2.2.2] 72))) := hbc.out.alloc _; clear hg)
                    | (go_at_call 65; (with_reducible refine Calls.mono (show Calls _ _ _ _ _ from hcell.out (wq.alloc (.cells #[.int .i64 0, .int .i64 0, .int .i64 0, .int .i64 0, .int .i64 0] 72)).drew hbB) ?_); rintro e x1 ⟨rfl, hg⟩; have hbc : Hid (Gr wq x1) := hbB.trans hg; obtain ⟨y0, y1, y2, y3, y4, yf, ylt⟩ := (FiveAt.new wq (.int .i64 0) (.int .i64 0) (.int .i64 0) (.int .i64 0) (.int .i64 0) 72 rfl).gr ((Gr.refl _).drew.trans hg); have hbS : Hid (Gr wq (((((x1.setCell ⟨wq.heap.size, 0, none⟩ (.int .i64 Xa.1.1)).setCell ⟨wq.heap.size, 1, none⟩ (.int .i64 Xa.1.2)).setCell ⟨wq.heap.size, 2, none⟩ (.int .i64 Xa.2.1)).setCell ⟨wq.heap.size, 3, none⟩ (.int .i64 Xa.2.2.1)).setCell ⟨wq.heap.size, 4, none⟩ (.int .i64 Xa.2.2.2))) := hbc.out.set5 (Nat.le_refl _) _ _ _ _ _; clear hg))
                all_goals (have hgA := hbS.out; clear hbS hKeep hcell hbc hbd hbB y0 y1 y2 y3 y4 yf ylt)
                all_goals (first | (with_reducible change Exit.then _ _ _ _ (World.alloc x1 _); generalize x1.alloc (.cells #[.int .i64 Xa.1.1, .int .i64 Xa.1.2, .int .i64 Xa.2.1, .int .i64 Xa.2.2.1, .int .i64 Xa.2.2.2] 72) = wA at hgA ⊢; generalize x1.heap.size = B24 at ⊢) | (generalize (((((x1.setCell ⟨wq.heap.size, 0, none⟩ (.int .i64 Xa.1.1)).setCell ⟨wq.heap.size, 1, none⟩ (.int .i64 Xa.1.2)).setCell ⟨wq.heap.size, 2, none⟩ (.int .i64 Xa.2.1)).setCell ⟨wq.heap.size, 3, none⟩ (.int .i64 Xa.2.2.1)).setCell ⟨wq.heap.size, 4, none⟩ (.int .i64 Xa.2.2.2)) = wA at hgA ⊢; generalize wq.heap.size = B24 at ⊢))
                all_goals
                  have hFA := hFQ.gr hgA
                  have hzA := hzQ.gr hgA
                  clear hFQ hzQ
                  have hcell : Hid (∀ W, Gr wA W → Calls Try.prog 65 #[.agg #[.int .i64 b.c.c0, .int .i64 b.c.c1, .int .i64 b.c.c2, .int .i64 b.c.c3, .slice B b.c.l.length cb, .slice D b.e.length cd], .agg #[.int .i64 z.1.1, .int .i64 z.1.2]] W fun e w' => e = .returned (.tuple #[.agg #[.int .i64 Xb.1.1, .int .i64 Xb.1.2, .int .i64 Xb.2.1, .int .i64 Xb.2.2.1, .int .i64 Xb.2.2.2], .bool mb]) ∧ Gr W w') := fun W hg => by
                    have := rcell_any b B cb D cd z.1 W hlH.out.2.2.2 (hFA.tb.gr hg).row (hFA.tb.gr hg).rowC
                    rw [hXb, hmb] at this
                    exact this
                  have hKeep : Hid (∀ w' : World, Gr wA w' → (fun w' => w'.cell? ⟨w.heap.size + 1, 0, none⟩ = some (.int .i64 b.c.c0) ∧ w'.cell? ⟨w.heap.size + 1, 1, none⟩ = some (.int .i64 b.c.c1) ∧ w'.cell? ⟨w.heap.size + 1, 2, none⟩ = some (.int .i64 b.c.c2) ∧ w'.cell? ⟨w.heap.size + 1, 3, none⟩ = some (.int .i64 b.c.c3) ∧ w'.cell? ⟨w.heap.size + 1, 4, none⟩ = some (.slice B b.c.l.length cb) ∧ w'.cell? ⟨w.heap.size + 1, 5, none⟩ = some (.slice D b.e.length cd) ∧ w'.cell? ⟨bb, off + j * 5, none⟩ = some (.int .i64 z.1.1) ∧ w'.cell? ⟨bb, off + j * 5 + 1, none⟩ = some (.int .i64 z.1.2)) w') := fun w' hg => by
                    have h1 := hFA.tb.gr hg
                    have h2 := hzA.gr hg
                    exact ⟨h1.k0, h1.k1, h1.k2, h1.k3, h1.k4, h1.k5, h2.k0, h2.k1⟩
                  have hbd : Gr wA wA.drew := (Gr.refl _).drew
                  have hbB : Gr wA (wA.alloc (.cells #[.int .i64 0, .int .i64 0, .int .i64 0, .int .i64 0, .int .i64 0] 72)).drew := ((Gr.refl _).alloc _).drew
                  go_upto_region 25 with fail
                  go_region_held3 (fun w' => w'.cell? ⟨w.heap.size + 1, 0, none⟩ = some (.int .i64 b.c.c0) ∧ w'.cell? ⟨w.heap.size + 1, 1, none⟩ = some (.int .i64 b.c.c1) ∧ w'.cell? ⟨w.heap.size + 1, 2, none⟩ = some (.int .i64 b.c.c2) ∧ w'.cell? ⟨w.heap.size + 1, 3, none⟩ = some (.int .i64 b.c.c3) ∧ w'.cell? ⟨w.heap.size + 1, 4, none⟩ = some (.slice B b.c.l.length cb) ∧ w'.cell? ⟨w.heap.size + 1, 5, none⟩ = some (.slice D b.e.length cd) ∧ w'.cell? ⟨bb, off + j * 5, none⟩ = some (.int .i64 z.1.1) ∧ w'.cell? ⟨bb, off + j * 5 + 1, none⟩ = some (.int .i64 z.1.2)) (first | with_reducible exact hKeep.out _ hbd | with_reducible exact hKeep.out _ hbB | with_reducible exact hKeep.out _ hbc.out | with_reducible exact hKeep.out _ hbA.out | with_reducible exact hKeep.out _ hbS.out)
                    (first
                      | (go_at_call 65; (with_reducible refine Calls.mono (show Calls _ _ _ _ _ from hcell.out wA.drew hbd) ?_); rintro e x1 ⟨rfl, hg⟩; have hbc : Hid (Gr wA x1) := hbd.trans hg; have hbA : Hid (Gr wA (x1.alloc (.cells #[.int .i64 0, .int .i64 0, .int .i64 0, .int .i64 0, .int .i64 0] 72))) := hbc.out.alloc _; obtain ⟨y0, y1, y2, y3, y4, yf, ylt⟩ := FiveAt.new x1 (.int .i64 0) (.int .i64 0) (.int .i64 0) (.int .i64 0) (.int .i64 0) 72 rfl; have hbS : Hid (Gr wA (x1.alloc (.cells #[.int .i64 Xb.1.1, .int .i64 Xb.1.2, .int .i64 Xb.2.1, .int .i64 Xb.2.2.1, .int .i64 Xb.2.2.2] 72))) := hbc.out.alloc _; clear hg)
                      | (go_at_call 65; (with_reducible refine Calls.mono (show Calls _ _ _ _ _ from hcell.out (wA.alloc (.cells #[.int .i64 0, .int .i64 0, .int .i64 0, .int .i64 0, .int .i64 0] 72)).drew hbB) ?_); rintro e x1 ⟨rfl, hg⟩; have hbc : Hid (Gr wA x1) := hbB.trans hg; obtain ⟨y0, y1, y2, y3, y4, yf, ylt⟩ := (FiveAt.new wA (.int .i64 0) (.int .i64 0) (.int .i64 0) (.int .i64 0) (.int .i64 0) 72 rfl).gr ((Gr.refl _).drew.trans hg); have hbS : Hid (Gr wA (((((x1.setCell ⟨wA.heap.size, 0, none⟩ (.int .i64 Xb.1.1)).setCell ⟨wA.heap.size, 1, none⟩ (.int .i64 Xb.1.2)).setCell ⟨wA.heap.size, 2, none⟩ (.int .i64 Xb.2.1)).setCell ⟨wA.heap.size, 3, none⟩ (.int .i64 Xb.2.2.1)).setCell ⟨wA.heap.size, 4, none⟩ (.int .i64 Xb.2.2.2))) := hbc.out.set5 (Nat.le_refl _) _ _ _ _ _; clear hg))
                  all_goals (have hgB0 := hbS.out; clear hbS hKeep hcell hbc hbd hbB y0 y1 y2 y3 y4 yf ylt)
                  all_goals (first | (with_reducible change Exit.then _ _ _ _ (World.alloc x1 _); generalize x1.alloc (.cells #[.int .i64 Xb.1.1, .int .i64 Xb.1.2, .int .i64 Xb.2.1, .int .i64 Xb.2.2.1, .int .i64 Xb.2.2.2] 72) = wB at hgB0 ⊢; generalize x1.heap.size = B25 at ⊢) | (generalize (((((x1.setCell ⟨wA.heap.size, 0, none⟩ (.int .i64 Xb.1.1)).setCell ⟨wA.heap.size, 1, none⟩ (.int .i64 Xb.1.2)).setCell ⟨wA.heap.size, 2, none⟩ (.int .i64 Xb.2.1)).setCell ⟨wA.heap.size, 3, none⟩ (.int .i64 Xb.2.2.1)).setCell ⟨wA.heap.size, 4, none⟩ (.int .i64 Xb.2.2.2)) = wB at hgB0 ⊢; generalize wA.heap.size = B25 at ⊢))
                  all_goals
                    have hgB : Gr wq wB := hgA.trans hgB0
                    have hFB := hFA.gr hgB0
                    have hzB := hzA.gr hgB0
                    clear hFA hzA hgA hgB0
                    obtain ⟨f0, f1, f2, f3, f4⟩ := hzB.G
                    obtain ⟨a0, a1, a2, a3, a4, a5⟩ := hFB.ta.G
                    obtain ⟨b0, b1, b2, b3, b4, b5⟩ := hFB.tb.G
                    have rawA := hFB.ta.row
                    have rawB := hFB.tb.row
                    have hsB : w6.heap.size ≤ wB.heap.size := Nat.le_trans hsQ hgB.size
                    clear hXa hXb hma hmb
                    cases ma <;> cases mb
                    · go_upto_region 26 with fail
                      refine wp_region_quiet_grown mixed (by kernel_rfl) ?_
                      repeat (go_big_quiet_step (first | (go_at_call 18; (with_reducible exact rhasT_G hrb hlH.out.2.1 rawB _ _)) | (go_at_call 18; (with_reducible exact rhasT_G hra hlH.out.1 rawA _ _))))
                      refine wpQuiet_nil ?_
                      rintro _ ⟨⟨ns, oss⟩, rfl⟩
                      have hgC : Gr wq (grow (wB.drewN ns) oss) := hgB.trans ⟨ns, oss, rfl⟩
                      have hzC := hzB.gr ⟨ns, oss, rfl⟩
                      clear f0 f1 f2 f3 f4 a0 a1 a2 a3 a4 a5 b0 b1 b2 b3 b4 b5 rawA rawB hFB hzB hgB hra hrb
                      generalize grow (wB.drewN ns) oss = wC at hgC hzC ⊢
                      have hst2 : Hid ((L.take (j + 1)).filter (keepR a b) = N) := by show _ = _; rw [hstH.out, hkp.out]; simp
                      go_wp2
                      go_roundw
                      case rel => exact ⟨j + 1, by omega, by go_num, by rw [hst2.out]; exact hovH.out.gr hgC, hbelH.out.trans (hgC.below.mono hsQ)⟩
                      case measure => simp [intOf]; omega
                    · cases ra
                      · go_upto_region 26 with fail
                        refine wp_region_quiet_grown mixed (by kernel_rfl) ?_
                        repeat (go_big_quiet_step (first | (go_at_call 18; (with_reducible exact rhasT_G hrb hlH.out.2.1 rawB _ _)) | (go_at_call 18; (with_reducible exact rhasT_G hra hlH.out.1 rawA _ _))))
                        refine wpQuiet_nil ?_
                        rintro _ ⟨⟨ns, oss⟩, rfl⟩
                        have hgC : Gr wq (grow (wB.drewN ns) oss) := hgB.trans ⟨ns, oss, rfl⟩
                        have hzC := hzB.gr ⟨ns, oss, rfl⟩
                        clear f0 f1 f2 f3 f4 a0 a1 a2 a3 a4 a5 b0 b1 b2 b3 b4 b5 rawA rawB hFB hzB hgB hra hrb
                        generalize grow (wB.drewN ns) oss = wC at hgC hzC ⊢
                        have hst2 : Hid ((L.take (j + 1)).filter (keepR a b) = N ++ [z]) := by show _ = _; rw [hstH.out, hkp.out]; rfl
                        have hbd : Hid (N.length + [z].length ≤ maxLen ∧ (N.length + [z].length) * 40 ≤ 140737488355328) := by show _ ∧ _; unfold maxLen; simp only [List.length_cons, List.length_nil]; omega
                        obtain ⟨g0, g1, g2, g3, g4, glt⟩ := (show CelOff _ _ _ _ from hzC)
                        have hsC : w6.heap.size ≤ wC.heap.size := Nat.le_trans hsQ hgC.size
                        clear hzC
                        go_wp2_with (at_builtin; refine wpList_append_c _ rfl _ _ rfl w6.heap.size (.slice A2 N.length cap2) N [z] (some ⟨wC.heap.size, 0, none⟩) 1 rfl rfl ?ho ?hr (fun h => by cases h) hbd.out.1 hbd.out.2 ?hs ?_)
                        case ho => exact hovH.out.gr (hgC.alloc _)
                        case hr => exact rowNewCl rfl _ _
                        case hs => simp; omega
                        intro v1 w7 hown1 hgr1
                        have hb7 : Hid (Below w6.heap.size w6 w7) := hbelH.out.trans (((hgC.alloc _).below.mono hsQ).trans (OwnG.grown_below (hovH.out.gr (hgC.alloc _)) hgr1 (by simp; omega)))
                        have hownH : Hid (OwnC w7 w6.heap.size v1 (N ++ [z])) := hown1
                        clear hown1 hgr1
                        go_wp2
                        go_roundw
                        case rel => exact ⟨j + 1, by omega, by go_num, by rw [hst2.out]; exact hownH.out, hb7.out⟩
                        case measure => simp [intOf]; omega
                      · go_upto_region 26 with fail
                        refine wp_region_quiet_grown mixed (by kernel_rfl) ?_
                        repeat (go_big_quiet_step (first | (go_at_call 18; (with_reducible exact rhasT_G hrb hlH.out.2.1 rawB _ _)) | (go_at_call 18; (with_reducible exact rhasT_G hra hlH.out.1 rawA _ _))))
                        refine wpQuiet_nil ?_
                        rintro _ ⟨⟨ns, oss⟩, rfl⟩
                        have hgC : Gr wq (grow (wB.drewN ns) oss) := hgB.trans ⟨ns, oss, rfl⟩
                        have hzC := hzB.gr ⟨ns, oss, rfl⟩
                        clear f0 f1 f2 f3 f4 a0 a1 a2 a3 a4 a5 b0 b1 b2 b3 b4 b5 rawA rawB hFB hzB hgB hra hrb
                        generalize grow (wB.drewN ns) oss = wC at hgC hzC ⊢
                        have hst2 : Hid ((L.take (j + 1)).filter (keepR a b) = N) := by show _ = _; rw [hstH.out, hkp.out]; simp
                        go_wp2
                        go_roundw
                        case rel => exact ⟨j + 1, by omega, by go_num, by rw [hst2.out]; exact hovH.out.gr hgC, hbelH.out.trans (hgC.below.mono hsQ)⟩
                        case measure => simp [intOf]; omega
                    · cases rb
                      · go_upto_region 26 with fail
                        refine wp_region_quiet_grown mixed (by kernel_rfl) ?_
                        repeat (go_big_quiet_step (first | (go_at_call 18; (with_reducible exact rhasT_G hrb hlH.out.2.1 rawB _ _)) | (go_at_call 18; (with_reducible exact rhasT_G hra hlH.out.1 rawA _ _))))
                        refine wpQuiet_nil ?_
                        rintro _ ⟨⟨ns, oss⟩, rfl⟩
                        have hgC : Gr wq (grow (wB.drewN ns) oss) := hgB.trans ⟨ns, oss, rfl⟩
                        have hzC := hzB.gr ⟨ns, oss, rfl⟩
                        clear f0 f1 f2 f3 f4 a0 a1 a2 a3 a4 a5 b0 b1 b2 b3 b4 b5 rawA rawB hFB hzB hgB hra hrb
                        generalize grow (wB.drewN ns) oss = wC at hgC hzC ⊢
                        have hst2 : Hid ((L.take (j + 1)).filter (keepR a b) = N ++ [z]) := by show _ = _; rw [hstH.out, hkp.out]; rfl
                        have hbd : Hid (N.length + [z].length ≤ maxLen ∧ (N.length + [z].length) * 40 ≤ 140737488355328) := by show _ ∧ _; unfold maxLen; simp only [List.length_cons, List.length_nil]; omega
                        obtain ⟨g0, g1, g2, g3, g4, glt⟩ := (show CelOff _ _ _ _ from hzC)
                        have hsC : w6.heap.size ≤ wC.heap.size := Nat.le_trans hsQ hgC.size
                        clear hzC
                        go_wp2_with (at_builtin; refine wpList_append_c _ rfl _ _ rfl w6.heap.size (.slice A2 N.length cap2) N [z] (some ⟨wC.heap.size, 0, none⟩) 1 rfl rfl ?ho ?hr (fun h => by cases h) hbd.out.1 hbd.out.2 ?hs ?_)
                        case ho => exact hovH.out.gr (hgC.alloc _)
                        case hr => exact rowNewCl rfl _ _
                        case hs => simp; omega
                        intro v1 w7 hown1 hgr1
                        have hb7 : Hid (Below w6.heap.size w6 w7) := hbelH.out.trans (((hgC.alloc _).below.mono hsQ).trans (OwnG.grown_below (hovH.out.gr (hgC.alloc _)) hgr1 (by simp; omega)))
                        have hownH : Hid (OwnC w7 w6.heap.size v1 (N ++ [z])) := hown1
                        clear hown1 hgr1
                        go_wp2
                        go_roundw
                        case rel => exact ⟨j + 1, by omega, by go_num, by rw [hst2.out]; exact hownH.out, hb7.out⟩
                        case measure => simp [intOf]; omega
                      · go_upto_region 26 with fail
                        refine wp_region_quiet_grown mixed (by kernel_rfl) ?_
                        repeat (go_big_quiet_step (first | (go_at_call 18; (with_reducible exact rhasT_G hrb hlH.out.2.1 rawB _ _)) | (go_at_call 18; (with_reducible exact rhasT_G hra hlH.out.1 rawA _ _))))
                        refine wpQuiet_nil ?_
                        rintro _ ⟨⟨ns, oss⟩, rfl⟩
                        have hgC : Gr wq (grow (wB.drewN ns) oss) := hgB.trans ⟨ns, oss, rfl⟩
                        have hzC := hzB.gr ⟨ns, oss, rfl⟩
                        clear f0 f1 f2 f3 f4 a0 a1 a2 a3 a4 a5 b0 b1 b2 b3 b4 b5 rawA rawB hFB hzB hgB hra hrb
                        generalize grow (wB.drewN ns) oss = wC at hgC hzC ⊢
                        have hst2 : Hid ((L.take (j + 1)).filter (keepR a b) = N) := by show _ = _; rw [hstH.out, hkp.out]; simp
                        go_wp2
                        go_roundw
                        case rel => exact ⟨j + 1, by omega, by go_num, by rw [hst2.out]; exact hovH.out.gr hgC, hbelH.out.trans (hgC.below.mono hsQ)⟩
                        case measure => simp [intOf]; omega
                    · go_upto_region 26 with fail
                      refine wp_region_quiet_grown mixed (by kernel_rfl) ?_
                      repeat (go_big_quiet_step (first | (go_at_call 18; (with_reducible exact rhasT_G hrb hlH.out.2.1 rawB _ _)) | (go_at_call 18; (with_reducible exact rhasT_G hra hlH.out.1 rawA _ _))))
                      refine wpQuiet_nil ?_
                      rintro _ ⟨⟨ns, oss⟩, rfl⟩
                      have hgC : Gr wq (grow (wB.drewN ns) oss) := hgB.trans ⟨ns, oss, rfl⟩
                      have hzC := hzB.gr ⟨ns, oss, rfl⟩
                      clear f0 f1 f2 f3 f4 a0 a1 a2 a3 a4 a5 b0 b1 b2 b3 b4 b5 rawA rawB hFB hzB hgB hra hrb
                      generalize grow (wB.drewN ns) oss = wC at hgC hzC ⊢
                      have hst2 : Hid ((L.take (j + 1)).filter (keepR a b) = N ++ [z]) := by show _ = _; rw [hstH.out, hkp.out]; rfl
                      have hbd : Hid (N.length + [z].length ≤ maxLen ∧ (N.length + [z].length) * 40 ≤ 140737488355328) := by show _ ∧ _; unfold maxLen; simp only [List.length_cons, List.length_nil]; omega
                      obtain ⟨g0, g1, g2, g3, g4, glt⟩ := (show CelOff _ _ _ _ from hzC)
                      have hsC : w6.heap.size ≤ wC.heap.size := Nat.le_trans hsQ hgC.size
                      clear hzC
                      go_wp2_with (at_builtin; refine wpList_append_c _ rfl _ _ rfl w6.heap.size (.slice A2 N.length cap2) N [z] (some ⟨wC.heap.size, 0, none⟩) 1 rfl rfl ?ho ?hr (fun h => by cases h) hbd.out.1 hbd.out.2 ?hs ?_)
                      case ho => exact hovH.out.gr (hgC.alloc _)
                      case hr => exact rowNewCl rfl _ _
                      case hs => simp; omega
                      intro v1 w7 hown1 hgr1
                      have hb7 : Hid (Below w6.heap.size w6 w7) := hbelH.out.trans (((hgC.alloc _).below.mono hsQ).trans (OwnG.grown_below (hovH.out.gr (hgC.alloc _)) hgr1 (by simp; omega)))
                      have hownH : Hid (OwnC w7 w6.heap.size v1 (N ++ [z])) := hown1
                      clear hown1 hgr1
                      go_wp2
                      go_roundw
                      case rel => exact ⟨j + 1, by omega, by go_num, by rw [hst2.out]; exact hownH.out, hb7.out⟩
                      case measure => simp [intOf]; omega
              · have hltz2 : ¬ (j : Int) < (L.length : Int) := by omega
                have hke : L.take j = L := List.take_of_length_le (by omega)
                rw [hke, hMrL.out] at hov hrow2 ⊢
                have hbwQ : Below w.heap.size w wq := hFQ.hw
                have hs6 := hF6.res.lt
                have hA2n : Hid (∀ x, A2 = some x → x.block ≠ w.heap.size + 1 + 1) := fun x hx => by have := (hlt2 x hx).1; omega
                obtain ⟨G, HG⟩ : ∃ G, mrg a b = G := ⟨_, rfl⟩
                rw [HG] at hrow2 ⊢
                have hMH : Hid (mrg a b = G) := HG
                clear hke hov HG
                by_cases h400 : 400 < G.length
                · have h400z : (400 : Int) < (G.length : Int) := by omega
                  have hfin : Hid (mergeE a b = 2 ∧ mergeT a b = ⟨zeroC, []⟩) := mergeT_no (by unfold mergeE; rw [heA.out, heB.out, hKH.out, hJH.out.2, hMH.out]; simp [h400]) (by decide)
                  obtain ⟨z0, z1, z2, z3, z4, z5, zf, zlt⟩ := (show Six _ _ _ _ _ _ _ _ from hFQ.res)
                  have hbw : Hid (Below w.heap.size w _) := hFQ.hw
                  go_wp2
                  rw [hfin.out.1, hfin.out.2]
                  exact bodyPost_ret (v := .tuple #[.agg #[.int .i64 0, .int .i64 0, .int .i64 0, .int .i64 0, .slice none 0 0, .slice none 0 0], .int .i64 2]) (by simp [results, Try.results40, go_sem, z0, z1, z2, z3, z4, z5]) rfl ⟨none, 0, none, 0, rfl, Or.inl rfl, Or.inl rfl, fun _ => rfl, fun _ => rfl, below_set6 hbw.out (by omega) _ _ _ _ _ _⟩
                · have h400z : ¬ (400 : Int) < (G.length : Int) := by omega
                  have hfin : Hid (mergeE a b = 0 ∧ mergeT a b = ⟨J, G⟩) := by
                    have h0 : mergeE a b = 0 := by unfold mergeE; rw [heA.out, heB.out, hKH.out, hJH.out.2, hMH.out]; simp; omega
                    exact ⟨h0, by unfold mergeT; rw [h0, if_pos rfl, hJH.out.1, hMH.out]⟩
                  obtain ⟨z0, z1, z2, z3, z4, z5, zf, zlt⟩ := (show Six _ _ _ _ _ _ _ _ from hFQ.res)
                  obtain ⟨c0, c1, c2, c3, c4, clt, crow⟩ := (show CtxAt _ _ _ _ _ from hcQ)
                  have hbw : Hid (Below w.heap.size w _) := hFQ.hw
                  have hcrow : Hid (Row _ C4 J.l) := crow
                  have hrFH : Hid (RowC _ A2 G) := hrow2
                  clear crow hrow2 h400
                  go_wp2
                  rw [hfin.out.1, hfin.out.2]
                  have h1 := hCn4.out
                  have h2 := hA2n.out
                  exact bodyPost_ret (v := .tuple #[.agg #[.int .i64 J.c0, .int .i64 J.c1, .int .i64 J.c2, .int .i64 J.c3, .slice C4 J.l.length p4, .slice A2 G.length cap2], .int .i64 0]) (by simp [results, Try.results40, go_sem, z0, z1, z2, z3, z4, z5]) rfl ⟨C4, p4, A2, cap2, rfl, (((((hcrow.out.setCell _ h1).setCell _ h1).setCell _ h1).setCell _ h1).setCell _ h1).setCell _ h1, (((((hrFH.out.setCell _ h2).setCell _ h2).setCell _ h2).setCell _ h2).setCell _ h2).setCell _ h2, hC4, hA2, below_set6 hbw.out (by omega) _ _ _ _ _ _⟩
          · have hfin : Hid (mergeE a b = E4 ∧ mergeT a b = ⟨zeroC, []⟩) := mergeT_no (by unfold mergeE; rw [heA.out, heB.out, hKH.out, hJH.out.2]; simp [h4]) h4
            have heb : (E4 != 0) = true := by simpa using h4
            clear h4
            obtain ⟨z0, z1, z2, z3, z4, z5, zf, zlt⟩ := (show Six _ _ _ _ _ _ _ _ from hF5.res)
            have hbw : Hid (Below w.heap.size w _) := hF5.hw
            go_upto_region 18 with fail
            generalize w4.alloc (.cells #[.int .i64 J.c0, .int .i64 J.c1, .int .i64 J.c2, .int .i64 J.c3, .slice C4 J.l.length p4] 25) = V at z0 z1 z2 z3 z4 z5 zf zlt hbw ⊢
            go_wp2
            rw [hfin.out.1, hfin.out.2]
            exact bodyPost_ret (v := .tuple #[.agg #[.int .i64 0, .int .i64 0, .int .i64 0, .int .i64 0, .slice none 0 0, .slice none 0 0], .int .i64 E4]) (by simp [results, Try.results40, go_sem, z0, z1, z2, z3, z4, z5]) rfl ⟨none, 0, none, 0, rfl, Or.inl rfl, Or.inl rfl, fun _ => rfl, fun _ => rfl, below_set6 hbw.out (by omega) _ _ _ _ _ _⟩
    · have hfin : Hid (mergeE a b = E2 ∧ mergeT a b = ⟨zeroC, []⟩) := mergeT_no (by unfold mergeE; rw [heA.out, hE2]; simp [h2]) h2
      have heb : (E2 != 0) = true := by simpa using h2
      clear h2 hE2
      obtain ⟨z0, z1, z2, z3, z4, z5, zf, zlt⟩ := (show Six _ _ _ _ _ _ _ _ from hF2.res)
      have hbw : Hid (Below w.heap.size w _) := hF2.hw
      go_wp2
      rw [hfin.out.1, hfin.out.2]
      exact bodyPost_ret (v := .tuple #[.agg #[.int .i64 0, .int .i64 0, .int .i64 0, .int .i64 0, .slice none 0 0, .slice none 0 0], .int .i64 E2]) (by simp [results, Try.results40, go_sem, z0, z1, z2, z3, z4, z5]) rfl ⟨none, 0, none, 0, rfl, Or.inl rfl, Or.inl rfl, fun _ => rfl, fun _ => rfl, below_set6 hbw.out (by omega) _ _ _ _ _ _⟩
  · have hfin : Hid (mergeE a b = E1 ∧ mergeT a b = ⟨zeroC, []⟩) := mergeT_no (by unfold mergeE; rw [hE1]; simp [h1]) h1
    have heb : (E1 != 0) = true := by simpa using h1
    clear h1 hE1
    obtain ⟨z0, z1, z2, z3, z4, z5, zf, zlt⟩ := (show Six _ _ _ _ _ _ _ _ from hF1.res)
    have hbw : Hid (Below w.heap.size w _) := hF1.hw
    go_wp2
    rw [hfin.out.1, hfin.out.2]
    exact bodyPost_ret (v := .tuple #[.agg #[.int .i64 0, .int .i64 0, .int .i64 0, .int .i64 0, .slice none 0 0, .slice none 0 0], .int .i64 E1]) (by simp [results, Try.results40, go_sem, z0, z1, z2, z3, z4, z5]) rfl ⟨none, 0, none, 0, rfl, Or.inl rfl, Or.inl rfl, fun _ => rfl, fun _ => rfl, below_set6 hbw.out (by omega) _ _ _ _ _ _⟩

end Go.Proofs.Ytjgefnipkaecgaa
