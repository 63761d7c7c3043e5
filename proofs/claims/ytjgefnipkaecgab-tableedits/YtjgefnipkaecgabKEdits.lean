/-
  Proved: whatever edits and numbers are handed in, TableEdits returns true (behind a Put its value is the only one of its column, the others stay; behind a Del there is none of the row), and each argument reads afterwards as it read before. No condition.
-/
import Derived.Test.YtjgefnipkaecgabKEdMath
import Derived.Test.YtjgefnipkaecgabKPuts
import Derived.Test.YtjgefnipkaecgabKConts
import Derived.Test.YtjgefnipkaecgabTOpen
import Derived.Deep.RegionHeld3
import Derived.Deep.RegionWith
namespace Go.Proofs.Ytjgefnipkaecgab
section
open Go.RowKit Go.Sort Go.Shelf Go.Lib

/-- What was there is as it was. -/
structure BW (w W : World) : Prop where
  hw : Below w.heap.size w W
theorem BW.below {w W W' : World} (h : BW w W) (k : Below W.heap.size W W') : BW w W' := ⟨h.hw.trans (k.mono h.hw.size)⟩
theorem BW.gr {w W W' : World} (h : BW w W) (k : Gr W W') : BW w W' := h.below k.below
/-- A table is not too long to be read. -/
def Fits (t : Tab) : Prop := t.c.l.length ≤ maxLen ∧ t.e.length ≤ maxLen
theorem fits_ok {t : Tab} (h : errT t = 0) : Fits t := ⟨Nat.le_trans (errC_parts (errT_parts h).1).2.1 (by decide), Nat.le_trans (errT_parts h).2.1 (by decide)⟩
theorem small_ok {t : Tab} (h : errT t = 0) : t.e.length * 40 ≤ 140737488355328 := by have := (errT_parts h).2.1; omega
theorem onceL_max (l : List Int) (h : l.length ≤ 400) : (onceL l).length ≤ 9223372036854775807 ∧ (onceL l).length ≤ maxLen := by
  have := onceL_len l
  exact ⟨by omega, Nat.le_trans (Nat.le_trans this h) (by decide)⟩
theorem rowI_same {w : World} {C : Option Addr} {v : Int} (h : RowI w C [v]) {B : Nat} {u : Value} (hc : w.cell? ⟨B, 0, none⟩ = some u) : RowI (w.setCell ⟨B, 0, none⟩ (.int .i64 v)) C [v] := by
  obtain ⟨b, off, rfl, hb, hcs⟩ := h.at (m := 0) (by simp)
  refine Or.inr ⟨b, off, rfl, by simpa [World.setCell] using hb, fun j hj i hi => ?_⟩
  obtain rfl : j = 0 := by simp at hj; omega
  obtain rfl : i = 0 := by omega
  have h0 := hcs 0 (by simp) 0 (by omega)
  have h1 : w.cell? ⟨b, off, none⟩ = some (.int .i64 v) := by simpa [encI] using h0
  show (w.setCell ⟨B, 0, none⟩ (.int .i64 v)).cell? ⟨b, off + 0 * 1 + 0, none⟩ = some (.int .i64 v)
  simp only [Nat.zero_mul, Nat.add_zero]
  by_cases e : b = B ∧ off = 0
  · obtain ⟨rfl, rfl⟩ := e
    exact World.cell?_setCell_same _ _ _ h1
  · rw [World.cell?_setCell_other _ _ _ _ (by intro k; injection k with k1 k2; exact e ⟨k1.symm, k2.symm⟩)]
    exact h1
theorem rowI_put {w : World} {B : Nat} {v z : Int} (hc : w.cell? ⟨B, 0, none⟩ = some (.int .i64 z)) (hB : B < w.heap.size) : RowI (w.setCell ⟨B, 0, none⟩ (.int .i64 v)) (some ⟨B, 0, none⟩) [v] := by
  refine Or.inr ⟨B, 0, rfl, by simpa [World.setCell] using hB, fun j hj i hi => ?_⟩
  obtain rfl : j = 0 := by simp at hj; omega
  obtain rfl : i = 0 := by omega
  exact World.cell?_setCell_same _ _ _ hc

set_option maxRecDepth 100000 in
set_option maxHeartbeats 8000000 in
theorem tableEdits_any (l : List Cel) (L : Option Addr) (cl : Nat) (n key col value other : Int) (w : World) (hl : l.length ≤ maxLen) (hcl : l.length ≤ cl) (hr : RowC w L l) :
    Calls Try.prog 6 #[.slice L l.length cl, .int .i64 n, .int .i64 key, .int .i64 col, .int .i64 value, .int .i64 other] w fun e w' => e = .returned (.bool true) ∧ Below w.heap.size w w' := by
  have hlH : Hid (l.length ≤ maxLen ∧ l.length ≤ cl) := ⟨hl, hcl⟩
  have hrH : Hid (RowC w L l) := hr
  clear hl hcl hr
  go_enter Try.func6, Try.ntmps6
  go_wp2_with fail
  refine (puts_any _).mono ?_
  rintro e w1 ⟨rfl, hb1⟩
  have hF1 : BW w w1 := ⟨hb1⟩
  have hed := edited_any l L cl w1 hlH.out.1 hlH.out.2 (hrH.out.below hb1)
  have hedH : Hid _ := hed
  clear hed hb1
  go_wp2_with fail
  refine Calls.mono (show Calls _ _ _ _ _ from hedH.out) ?_
  rintro e u2 ⟨C2, p2, D2, q2, rfl, hr, hd, hn, -, hb⟩
  clear hedH
  have het := errT_edited l (min 60 l.length)
  obtain ⟨t, h0⟩ : ∃ t, editedTo l (min 60 l.length) = t := ⟨_, rfl⟩
  rw [h0] at hr hd het ⊢
  have hteH : Hid (errT t = 0) := het
  have hft : Hid (Fits t) := fits_ok het
  have hnt : Hid (C2 = none → p2 = 0) := hn
  have hg : Gr u2 (u2.alloc (.cells #[.int .i64 t.c.c0, .int .i64 t.c.c1, .int .i64 t.c.c2, .int .i64 t.c.c3, .slice C2 t.c.l.length p2, .slice D2 t.e.length q2] 46)) := (Gr.refl _).alloc _
  have hF2 := (hF1.below hb).gr hg
  have htt2 : TabAt (u2.alloc (.cells #[.int .i64 t.c.c0, .int .i64 t.c.c1, .int .i64 t.c.c2, .int .i64 t.c.c3, .slice C2 t.c.l.length p2, .slice D2 t.e.length q2] 46)) u2.heap.size t C2 p2 D2 q2 := TabAt.new 46 hr hd rfl
  clear h0 hn hg hr hd hb hF1 het
  obtain ⟨x0, x1, x2, x3, x4, x5, xlt, xrow, xrowC⟩ := (show TabAt _ _ _ _ _ _ _ from htt2)
  have hm := put_new t C2 p2 D2 q2 n key col value _ hft.out.1 hft.out.2 xrow xrowC
  have hmH : Hid _ := hm
  clear hm xlt xrow xrowC
  go_wp2_with fail
  refine Calls.mono (show Calls _ _ _ _ _ from hmH.out) ?_
  rintro e u3 ⟨C3, p3, D3, q3, rfl, hr, hd, hn, -, -, -, hb⟩
  clear hmH x0 x1 x2 x3 x4 x5
  obtain ⟨pt, h0⟩ : ∃ t', putT t n key col value = t' := ⟨_, rfl⟩
  obtain ⟨ept, h1⟩ : ∃ e, putE t n key col value = e := ⟨_, rfl⟩
  have hfpt : Hid (Fits pt) := by show Fits _; rw [← h0]; exact putT_lenK _ _ _ _ _
  rw [h0] at hr hd ⊢
  rw [h1]
  have hzpt : Hid (putT t n key col value = pt ∧ putE t n key col value = ept) := ⟨h0, h1⟩
  have hnpt : Hid (C3 = none → p3 = 0) := hn
  have hg : Gr u3 (u3.alloc (.cells #[.int .i64 pt.c.c0, .int .i64 pt.c.c1, .int .i64 pt.c.c2, .int .i64 pt.c.c3, .slice C3 pt.c.l.length p3, .slice D3 pt.e.length q3] 46)) := (Gr.refl _).alloc _
  have hF3 := (hF2.below hb).gr hg
  have htt3 := (htt2.below hb).gr hg
  have htpt3 : TabAt (u3.alloc (.cells #[.int .i64 pt.c.c0, .int .i64 pt.c.c1, .int .i64 pt.c.c2, .int .i64 pt.c.c3, .slice C3 pt.c.l.length p3, .slice D3 pt.e.length q3] 46)) u3.heap.size pt C3 p3 D3 q3 := TabAt.new 46 hr hd rfl
  clear h0 h1 hn hg hr hd hb hF2 htt2
  by_cases hpe : ept = 0
  · subst hpe
    obtain ⟨x0, x1, x2, x3, x4, x5, xlt, xrow, xrowC⟩ := (show TabAt _ _ _ _ _ _ _ from htt3)
    obtain ⟨y0, y1, y2, y3, y4, y5, ylt, yrow, yrowC⟩ := (show TabAt _ _ _ _ _ _ _ from htpt3)
    have hm := merge_new t pt C2 C3 D2 D3 p2 p3 q2 q3 _ hft.out.1 hfpt.out.1 hft.out.2 hfpt.out.2 hnt.out hnpt.out xrow yrow xrowC yrowC
    have hmH : Hid _ := hm
    clear hm xlt ylt xrow yrow xrowC yrowC
    go_wp2_with fail
    refine Calls.mono (show Calls _ _ _ _ _ from hmH.out) ?_
    rintro e u4 ⟨C4, p4, D4, q4, rfl, hr, hd, hn, -, -, -, hb⟩
    clear hmH x0 x1 x2 x3 x4 x5 y0 y1 y2 y3 y4 y5
    obtain ⟨xx, h0⟩ : ∃ t', mergeT t pt = t' := ⟨_, rfl⟩
    obtain ⟨exx, h1⟩ : ∃ e, mergeE t pt = e := ⟨_, rfl⟩
    have hfxx : Hid (Fits xx) := by show Fits _; rw [← h0]; exact mergeT_lenK _ _
    rw [h0] at hr hd ⊢
    rw [h1]
    have hzxx : Hid (mergeT t pt = xx ∧ mergeE t pt = exx) := ⟨h0, h1⟩
    have hnxx : Hid (C4 = none → p4 = 0) := hn
    have hg : Gr u4 (u4.alloc (.cells #[.int .i64 xx.c.c0, .int .i64 xx.c.c1, .int .i64 xx.c.c2, .int .i64 xx.c.c3, .slice C4 xx.c.l.length p4, .slice D4 xx.e.length q4] 46)) := (Gr.refl _).alloc _
    have hF4 := (hF3.below hb).gr hg
    have htt4 := (htt3.below hb).gr hg
    have htpt4 := (htpt3.below hb).gr hg
    have htxx4 : TabAt (u4.alloc (.cells #[.int .i64 xx.c.c0, .int .i64 xx.c.c1, .int .i64 xx.c.c2, .int .i64 xx.c.c3, .slice C4 xx.c.l.length p4, .slice D4 xx.e.length q4] 46)) u4.heap.size xx C4 p4 D4 q4 := TabAt.new 46 hr hd rfl
    clear h0 h1 hn hg hr hd hb hF3 htt3 htpt3
    by_cases hxe : exx = 0
    · subst hxe
      have hxt : errT xx = 0 := by rw [← hzxx.out.1]; exact errT_merge hzxx.out.2
      have hxtH : Hid (errT xx = 0) := hxt
      have hv0 : onceL (valsOf key col xx.e) = [value] := by have h := put_vals hzpt.out.2 (by rw [hzpt.out.1]; exact hzxx.out.2); rw [hzpt.out.1, hzxx.out.1] at h; exact h
      have hvo : other ≠ col → onceL (valsOf key other xx.e) = onceL (valsOf key other t.e) := fun ho => by have h := put_other hzpt.out.2 (by rw [hzpt.out.1]; exact hzxx.out.2) ho; rw [hzpt.out.1, hzxx.out.1] at h; exact h
      go_upto_region 9 with fail
      generalize (u4.alloc (.cells #[.int .i64 xx.c.c0, .int .i64 xx.c.c1, .int .i64 xx.c.c2, .int .i64 xx.c.c3, .slice C4 xx.c.l.length p4, .slice D4 xx.e.length q4] 46)) = X at hF4 htt4 htxx4 ⊢
      have hv1 : Hid (∀ W, Below X.heap.size X W → Calls Try.prog 24 #[.agg #[.int .i64 xx.c.c0, .int .i64 xx.c.c1, .int .i64 xx.c.c2, .int .i64 xx.c.c3, .slice C4 xx.c.l.length p4, .slice D4 xx.e.length q4], .int .i64 key, .int .i64 col] W fun e w' => ∃ C cp, e = .returned (.slice C 1 cp) ∧ RowI w' C [value] ∧ Below W.heap.size W w') := fun W hb => by
        have h := values_any xx C4 p4 D4 q4 key col W (small_ok hxtH.out) (htxx4.below hb).row (htxx4.below hb).rowC
        rw [hv0] at h
        exact h
      obtain ⟨Vo, hVo⟩ : ∃ V, onceL (valsOf key other t.e) = V := ⟨_, rfl⟩
      have hVl : Hid (Vo.length ≤ 9223372036854775807) := by show _ ≤ _; rw [← hVo]; exact (onceL_max _ (Nat.le_trans (valsOf_len _ _ _) (errT_parts hteH.out).2.1)).1
      have hv3 : Hid (∀ W, Below X.heap.size X W → Calls Try.prog 24 #[.agg #[.int .i64 t.c.c0, .int .i64 t.c.c1, .int .i64 t.c.c2, .int .i64 t.c.c3, .slice C2 t.c.l.length p2, .slice D2 t.e.length q2], .int .i64 key, .int .i64 other] W fun e w' => ∃ C cp, e = .returned (.slice C Vo.length cp) ∧ RowI w' C Vo ∧ Below W.heap.size W w') := fun W hb => by rw [← hVo]; exact values_any t C2 p2 D2 q2 key other W (small_ok hteH.out) (htt4.below hb).row (htt4.below hb).rowC
      have hv2 : Hid (other ≠ col → ∀ W, Below X.heap.size X W → Calls Try.prog 24 #[.agg #[.int .i64 xx.c.c0, .int .i64 xx.c.c1, .int .i64 xx.c.c2, .int .i64 xx.c.c3, .slice C4 xx.c.l.length p4, .slice D4 xx.e.length q4], .int .i64 key, .int .i64 other] W fun e w' => ∃ C cp, e = .returned (.slice C Vo.length cp) ∧ RowI w' C Vo ∧ Below W.heap.size W w') := fun ho W hb => by rw [← hVo, ← hvo ho]; exact values_any xx C4 p4 D4 q4 key other W (small_ok hxtH.out) (htxx4.below hb).row (htxx4.below hb).rowC
      have hKeep : Hid (∀ w' : World, Below X.heap.size X w' → (fun w' => w'.cell? ⟨u2.heap.size, 0, none⟩ = some (.int .i64 t.c.c0) ∧ w'.cell? ⟨u2.heap.size, 1, none⟩ = some (.int .i64 t.c.c1) ∧ w'.cell? ⟨u2.heap.size, 2, none⟩ = some (.int .i64 t.c.c2) ∧ w'.cell? ⟨u2.heap.size, 3, none⟩ = some (.int .i64 t.c.c3) ∧ w'.cell? ⟨u2.heap.size, 4, none⟩ = some (.slice C2 t.c.l.length p2) ∧ w'.cell? ⟨u2.heap.size, 5, none⟩ = some (.slice D2 t.e.length q2) ∧ w'.cell? ⟨u4.heap.size, 0, none⟩ = some (.int .i64 xx.c.c0) ∧ w'.cell? ⟨u4.heap.size, 1, none⟩ = some (.int .i64 xx.c.c1) ∧ w'.cell? ⟨u4.heap.size, 2, none⟩ = some (.int .i64 xx.c.c2) ∧ w'.cell? ⟨u4.heap.size, 3, none⟩ = some (.int .i64 xx.c.c3) ∧ w'.cell? ⟨u4.heap.size, 4, none⟩ = some (.slice C4 xx.c.l.length p4) ∧ w'.cell? ⟨u4.heap.size, 5, none⟩ = some (.slice D4 xx.e.length q4)) w') := fun w' hb => by
        have h1 := htt4.below hb
        have h2 := htxx4.below hb
        exact ⟨h1.k0, h1.k1, h1.k2, h1.k3, h1.k4, h1.k5, h2.k0, h2.k1, h2.k2, h2.k3, h2.k4, h2.k5⟩
      have hEqV : Hid (∀ (C D : Option Addr) (cp dp : Nat) (W : World), RowI W C [value] → RowI W D [value] → Calls Try.prog 23 #[.slice C 1 cp, .slice D 1 dp] W fun e w' => e = .returned (.bool true) ∧ Gr W w') := fun C D cp dp W h1 h2 => by
        have h := equalI_anyK [value] [value] C D cp dp W (show 1 ≤ 9223372036854775807 by decide) (show 1 ≤ 9223372036854775807 by decide) h1 h2
        rw [decide_eq_true rfl] at h
        exact h
      have hEqO : Hid (∀ (C D : Option Addr) (cp dp : Nat) (W : World), RowI W C Vo → RowI W D Vo → Calls Try.prog 23 #[.slice C Vo.length cp, .slice D Vo.length dp] W fun e w' => e = .returned (.bool true) ∧ Gr W w') := fun C D cp dp W h1 h2 => by
        have h := equalI_anyK Vo Vo C D cp dp W hVl.out hVl.out h1 h2
        rw [decide_eq_true rfl] at h
        exact h
      have hbd : Below X.heap.size X X.drew := (Below.refl _ _).drew
      have hbB : Below X.heap.size X (X.alloc (.cells #[.int .i64 0] 3)).drew := ((Below.refl _ _).alloc (Nat.le_refl _) _).drew
      have hbD : Below X.heap.size X (X.alloc (.cells #[.int .i64 value] 3)).drew := ((Below.refl _ _).alloc (Nat.le_refl _) _).drew
      have hbaseH : Hid (BW w X) := hF4
      have htH : Hid (TabAt X u2.heap.size t C2 p2 D2 q2) := htt4
      have X0 : (X.alloc (.cells #[.int .i64 0] 3)).drew.cell? ⟨X.heap.size, 0, none⟩ = some (.int .i64 0) := box1 ((Gr.refl _).drew) rfl
      have Xf : ∀ j, (X.alloc (.cells #[.int .i64 0] 3)).drew.frozen? ⟨X.heap.size, j, none⟩ = false := fun j => box1f ((Gr.refl _).drew) j
      clear hF4 htt4 htpt4 htxx4 hv0 hVo hvo hxt
      by_cases hoc0 : other = col
      · subst hoc0
        have hocb : (other != other) = false := by simp
        refine wp_region_noPanic ?_
        refine wp_region_held_drew (S := fun w' => w'.cell? ⟨u2.heap.size, 0, none⟩ = some (.int .i64 t.c.c0) ∧ w'.cell? ⟨u2.heap.size, 1, none⟩ = some (.int .i64 t.c.c1) ∧ w'.cell? ⟨u2.heap.size, 2, none⟩ = some (.int .i64 t.c.c2) ∧ w'.cell? ⟨u2.heap.size, 3, none⟩ = some (.int .i64 t.c.c3) ∧ w'.cell? ⟨u2.heap.size, 4, none⟩ = some (.slice C2 t.c.l.length p2) ∧ w'.cell? ⟨u2.heap.size, 5, none⟩ = some (.slice D2 t.e.length q2) ∧ w'.cell? ⟨u4.heap.size, 0, none⟩ = some (.int .i64 xx.c.c0) ∧ w'.cell? ⟨u4.heap.size, 1, none⟩ = some (.int .i64 xx.c.c1) ∧ w'.cell? ⟨u4.heap.size, 2, none⟩ = some (.int .i64 xx.c.c2) ∧ w'.cell? ⟨u4.heap.size, 3, none⟩ = some (.int .i64 xx.c.c3) ∧ w'.cell? ⟨u4.heap.size, 4, none⟩ = some (.slice C4 xx.c.l.length p4) ∧ w'.cell? ⟨u4.heap.size, 5, none⟩ = some (.slice D4 xx.e.length q4)) (by kernel_rfl) (hKeep.out _ hbd) (fun hHeld => ?_)
        refine wpAnyH_take (i := 0) (oi := ?oi1) (v := ?v1) ?hop1 ?hs1 ?hf1 ?hr1 ?hQ1 ?hy1 (by assumption) ?rest1
        case hop1 => (simp only [List.getElem?_toArray, List.getElem?_cons_zero]; rfl)
        case hs1 => kernel_rfl
        case hf1 => kernel_rfl
        case hr1 => kernel_rfl
        case hQ1 => exact fun _ _ _ h => h
        case hy1 => (refine Or.inl ⟨by rfl, ?_⟩; intro w hSw; (try dsimp only at hSw); go_simp <;> with_reducible rfl)
        try simp only [Act.put, List.setIfInBounds_toArray, List.set_cons_zero, List.set_cons_succ]
        refine wpAnyH_take (i := 1) (oi := ?oi2) (v := ?v2) ?hop2 ?hs2 ?hf2 ?hr2 ?hQ2 ?hy2 (by assumption) ?rest2
        case hop2 => (simp only [List.getElem?_toArray, List.getElem?_cons_zero, List.getElem?_cons_succ]; rfl)
        case hs2 => kernel_rfl
        case hf2 => kernel_rfl
        case hr2 => kernel_rfl
        case hQ2 => exact fun _ _ _ h => h
        case hy2 => (refine Or.inl ⟨by rfl, ?_⟩; intro w hSw; (try dsimp only at hSw); go_simp <;> with_reducible rfl)
        try simp only [Act.put, List.setIfInBounds_toArray, List.set_cons_zero, List.set_cons_succ]
        refine wpAnyH_take (i := 2) (oi := ?oi3) (v := ?v3) ?hop3 ?hs3 ?hf3 ?hr3 ?hQ3 ?hy3 (by assumption) ?rest3
        case hop3 => (simp only [List.getElem?_toArray, List.getElem?_cons_zero, List.getElem?_cons_succ]; rfl)
        case hs3 => kernel_rfl
        case hf3 => kernel_rfl
        case hr3 => kernel_rfl
        case hQ3 => exact fun _ _ _ h => h
        case hy3 => (refine Or.inl ⟨by rfl, ?_⟩; intro w hSw; (try dsimp only at hSw); go_simp <;> with_reducible rfl)
        try simp only [Act.put, List.setIfInBounds_toArray, List.set_cons_zero, List.set_cons_succ]
        refine wpAnyH_take (i := 4) (oi := ?oi4) (v := ?v4) ?hop4 ?hs4 ?hf4 ?hr4 ?hQ4 ?hy4 (by assumption) ?rest4
        case hop4 => (simp only [List.getElem?_toArray, List.getElem?_cons_zero, List.getElem?_cons_succ]; rfl)
        case hs4 => kernel_rfl
        case hf4 => kernel_rfl
        case hr4 => kernel_rfl
        case hQ4 => exact fun _ _ _ h => h
        case hy4 => (refine Or.inl ⟨by rfl, ?_⟩; intro w hSw; (try dsimp only at hSw); go_simp <;> with_reducible rfl)
        try simp only [Act.put, List.setIfInBounds_toArray, List.set_cons_zero, List.set_cons_succ]
        refine wpAnyH_ready (rs := [3, 5]) (by kernel_rfl) (by simp) ?_
        refine AllReadyH.cons (o := ?oi5) ?hop5 (fun K hK => ?step5) ?more5
        case hop5 => (simp only [List.getElem?_toArray, List.getElem?_cons_zero, List.getElem?_cons_succ]; rfl)
        case more5 =>
          refine AllReadyH.cons (o := ?oi26) ?hop26 (fun K hK => ?step26) ?more26
          case hop26 => (simp only [List.getElem?_toArray, List.getElem?_cons_zero, List.getElem?_cons_succ]; rfl)
          case more26 => exact AllReadyH.nil
          go_simp
          refine hK.out _ _ ?_ (fun hHeld => ?_)
          · (try dsimp only); (first | with_reducible exact hKeep.out _ hbd | with_reducible exact hKeep.out _ hbB | with_reducible exact hKeep.out _ hbD | with_reducible exact hKeep.out _ hb1.out | with_reducible exact hKeep.out _ hb1A.out | with_reducible exact hKeep.out _ hbF.out | with_reducible exact hKeep.out _ hb2.out | with_reducible exact hKeep.out _ hb3.out | with_reducible exact hKeep.out _ hb4.out | with_reducible exact hKeep.out _ hb5.out)
          clear hK K
          try simp only [Act.put, List.setIfInBounds_toArray, List.set_cons_zero, List.set_cons_succ]
          refine wpAnyH_ready (rs := [3]) (by kernel_rfl) (by simp) ?_
          refine AllReadyH.cons (o := ?oi27) ?hop27 (fun K hK => ?step27) ?more27
          case hop27 => (simp only [List.getElem?_toArray, List.getElem?_cons_zero, List.getElem?_cons_succ]; rfl)
          case more27 => exact AllReadyH.nil
          go_simp
          (go_at_call 24; (with_reducible refine Calls.mono (show Calls _ _ _ _ _ from hv1.out (X.alloc (.cells #[.int .i64 value] 3)).drew hbD) ?_); rintro e x1 ⟨V1, v1, rfl, hq, hg⟩; have hb1 : Hid (Below X.heap.size X x1) := hbD.trans (hg.mono hbD.size); have hbF : Hid (Below X.heap.size X x1) := hb1; have hlit : RowI (X.alloc (.cells #[.int .i64 value] 3)).drew (some ⟨X.heap.size, 0, none⟩) [value] := (rowNewI rfl value 3).gr (Gr.refl _).drew; have hEq : Hid (Calls Try.prog 23 #[.slice V1 1 v1, .slice (some ⟨X.heap.size, 0, none⟩) 1 1] x1 fun e w' => e = .returned (.bool true) ∧ Gr x1 w') := hEqV.out V1 (some ⟨X.heap.size, 0, none⟩) v1 1 _ hq (hlit.below hg); clear hg hq hlit)
          first | (go_wp2_with fail) | skip
          refine hK.out _ _ ?_ (fun hHeld => ?_)
          · (try dsimp only); (first | with_reducible exact hKeep.out _ hbd | with_reducible exact hKeep.out _ hbB | with_reducible exact hKeep.out _ hbD | with_reducible exact hKeep.out _ hb1.out | with_reducible exact hKeep.out _ hb1A.out | with_reducible exact hKeep.out _ hbF.out | with_reducible exact hKeep.out _ hb2.out | with_reducible exact hKeep.out _ hb3.out | with_reducible exact hKeep.out _ hb4.out | with_reducible exact hKeep.out _ hb5.out)
          clear hK K
          try simp only [Act.put, List.setIfInBounds_toArray, List.set_cons_zero, List.set_cons_succ]
          refine wpAnyH_ready (rs := [6]) (by kernel_rfl) (by simp) ?_
          refine AllReadyH.cons (o := ?oi28) ?hop28 (fun K hK => ?step28) ?more28
          case hop28 => (simp only [List.getElem?_toArray, List.getElem?_cons_zero, List.getElem?_cons_succ]; rfl)
          case more28 => exact AllReadyH.nil
          go_simp
          (go_at_call 23; (with_reducible refine Calls.mono (show Calls _ _ _ _ _ from hEq.out) ?_); rintro e x2 ⟨rfl, hg⟩; have hb2 : Hid (Below X.heap.size X x2) := hbF.out.trans (hg.below.mono hbF.out.size); clear hg)
          first | (go_wp2_with fail) | skip
          refine hK.out _ _ ?_ (fun hHeld => ?_)
          · (try dsimp only); (first | with_reducible exact hKeep.out _ hbd | with_reducible exact hKeep.out _ hbB | with_reducible exact hKeep.out _ hbD | with_reducible exact hKeep.out _ hb1.out | with_reducible exact hKeep.out _ hb1A.out | with_reducible exact hKeep.out _ hbF.out | with_reducible exact hKeep.out _ hb2.out | with_reducible exact hKeep.out _ hb3.out | with_reducible exact hKeep.out _ hb4.out | with_reducible exact hKeep.out _ hb5.out)
          clear hK K
          try simp only [Act.put, List.setIfInBounds_toArray, List.set_cons_zero, List.set_cons_succ]
          refine wpAnyH_take (i := 7) (oi := ?oi29) (v := ?v29) ?hop29 ?hs29 ?hf29 ?hr29 ?hQ29 ?hy29 (by assumption) ?rest29
          case hop29 => (simp only [List.getElem?_toArray, List.getElem?_cons_zero, List.getElem?_cons_succ]; rfl)
          case hs29 => kernel_rfl
          case hf29 => kernel_rfl
          case hr29 => kernel_rfl
          case hQ29 => exact fun _ _ _ h => h
          case hy29 => (refine Or.inl ⟨by rfl, ?_⟩; intro w hSw; (try dsimp only at hSw); go_simp <;> with_reducible rfl)
          try simp only [Act.put, List.setIfInBounds_toArray, List.set_cons_zero, List.set_cons_succ]
          refine wpAnyH_take (i := 8) (oi := ?oi30) (v := ?v30) ?hop30 ?hs30 ?hf30 ?hr30 ?hQ30 ?hy30 (by assumption) ?rest30
          case hop30 => (simp only [List.getElem?_toArray, List.getElem?_cons_zero, List.getElem?_cons_succ]; rfl)
          case hs30 => kernel_rfl
          case hf30 => kernel_rfl
          case hr30 => kernel_rfl
          case hQ30 => exact fun _ _ _ h => h
          case hy30 => (refine Or.inl ⟨by rfl, ?_⟩; intro w hSw; (try dsimp only at hSw); go_simp <;> with_reducible rfl)
          try simp only [Act.put, List.setIfInBounds_toArray, List.set_cons_zero, List.set_cons_succ]
          refine wpAnyH_take (i := 9) (oi := ?oi31) (v := ?v31) ?hop31 ?hs31 ?hf31 ?hr31 ?hQ31 ?hy31 (by assumption) ?rest31
          case hop31 => (simp only [List.getElem?_toArray, List.getElem?_cons_zero, List.getElem?_cons_succ]; rfl)
          case hs31 => kernel_rfl
          case hf31 => kernel_rfl
          case hr31 => kernel_rfl
          case hQ31 => exact fun _ _ _ h => h
          case hy31 => (refine Or.inl ⟨by rfl, ?_⟩; intro w hSw; (try dsimp only at hSw); go_simp <;> with_reducible rfl)
          try simp only [Act.put, List.setIfInBounds_toArray, List.set_cons_zero, List.set_cons_succ]
          refine wpAnyH_take (i := 10) (oi := ?oi32) (v := ?v32) ?hop32 ?hs32 ?hf32 ?hr32 ?hQ32 ?hy32 (by assumption) ?rest32
          case hop32 => (simp only [List.getElem?_toArray, List.getElem?_cons_zero, List.getElem?_cons_succ]; rfl)
          case hs32 => kernel_rfl
          case hf32 => kernel_rfl
          case hr32 => kernel_rfl
          case hQ32 => exact fun _ _ _ h => h
          case hy32 => (refine Or.inl ⟨by rfl, ?_⟩; intro w hSw; (try dsimp only at hSw); go_simp <;> with_reducible rfl)
          try simp only [Act.put, List.setIfInBounds_toArray, List.set_cons_zero, List.set_cons_succ]
          refine wpAnyH_take (i := 11) (oi := ?oi33) (v := ?v33) ?hop33 ?hs33 ?hf33 ?hr33 ?hQ33 ?hy33 (by assumption) ?rest33
          case hop33 => (simp only [List.getElem?_toArray, List.getElem?_cons_zero, List.getElem?_cons_succ]; rfl)
          case hs33 => kernel_rfl
          case hf33 => kernel_rfl
          case hr33 => kernel_rfl
          case hQ33 => exact fun _ _ _ h => h
          case hy33 => (refine Or.inl ⟨by rfl, ?_⟩; intro w hSw; (try dsimp only at hSw); go_simp <;> with_reducible rfl)
          try simp only [Act.put, List.setIfInBounds_toArray, List.set_cons_zero, List.set_cons_succ]
          refine wpAnyH_take (i := 12) (oi := ?oi34) (v := ?v34) ?hop34 ?hs34 ?hf34 ?hr34 ?hQ34 ?hy34 (by assumption) ?rest34
          case hop34 => (simp only [List.getElem?_toArray, List.getElem?_cons_zero, List.getElem?_cons_succ]; rfl)
          case hs34 => kernel_rfl
          case hf34 => kernel_rfl
          case hr34 => kernel_rfl
          case hQ34 => exact fun _ _ _ h => h
          case hy34 => (refine Or.inl ⟨by rfl, ?_⟩; intro w hSw; (try dsimp only at hSw); go_simp <;> with_reducible rfl)
          try simp only [Act.put, List.setIfInBounds_toArray, List.set_cons_zero, List.set_cons_succ]
          refine wpAnyH_take (i := 13) (oi := ?oi35) (v := undef) ?hop35 ?hs35 ?hf35 ?hr35 ?hQ35 ?hy35 (by assumption) ?rest35
          case hop35 => (simp only [List.getElem?_toArray, List.getElem?_cons_zero, List.getElem?_cons_succ]; rfl)
          case hs35 => kernel_rfl
          case hf35 => kernel_rfl
          case hr35 => kernel_rfl
          case hQ35 => exact fun _ _ _ h => h
          case hy35 => (exact Or.inr ⟨by rfl, rfl⟩)
          try simp only [Act.put, List.setIfInBounds_toArray, List.set_cons_zero, List.set_cons_succ]
          refine wpAnyH_take (i := 14) (oi := ?oi36) (v := undef) ?hop36 ?hs36 ?hf36 ?hr36 ?hQ36 ?hy36 (by assumption) ?rest36
          case hop36 => (simp only [List.getElem?_toArray, List.getElem?_cons_zero, List.getElem?_cons_succ]; rfl)
          case hs36 => kernel_rfl
          case hf36 => kernel_rfl
          case hr36 => kernel_rfl
          case hQ36 => exact fun _ _ _ h => h
          case hy36 => (exact Or.inr ⟨by rfl, rfl⟩)
          try simp only [Act.put, List.setIfInBounds_toArray, List.set_cons_zero, List.set_cons_succ]
          refine wpAnyH_take (i := 15) (oi := ?oi37) (v := undef) ?hop37 ?hs37 ?hf37 ?hr37 ?hQ37 ?hy37 (by assumption) ?rest37
          case hop37 => (simp only [List.getElem?_toArray, List.getElem?_cons_zero, List.getElem?_cons_succ]; rfl)
          case hs37 => kernel_rfl
          case hf37 => kernel_rfl
          case hr37 => kernel_rfl
          case hQ37 => exact fun _ _ _ h => h
          case hy37 => (exact Or.inr ⟨by rfl, rfl⟩)
          try simp only [Act.put, List.setIfInBounds_toArray, List.set_cons_zero, List.set_cons_succ]
          refine wpAnyH_take (i := 17) (oi := ?oi38) (v := undef) ?hop38 ?hs38 ?hf38 ?hr38 ?hQ38 ?hy38 (by assumption) ?rest38
          case hop38 => (simp only [List.getElem?_toArray, List.getElem?_cons_zero, List.getElem?_cons_succ]; rfl)
          case hs38 => kernel_rfl
          case hf38 => kernel_rfl
          case hr38 => kernel_rfl
          case hQ38 => exact fun _ _ _ h => h
          case hy38 => (exact Or.inr ⟨by rfl, rfl⟩)
          try simp only [Act.put, List.setIfInBounds_toArray, List.set_cons_zero, List.set_cons_succ]
          refine wpAnyH_take (i := 18) (oi := ?oi39) (v := undef) ?hop39 ?hs39 ?hf39 ?hr39 ?hQ39 ?hy39 (by assumption) ?rest39
          case hop39 => (simp only [List.getElem?_toArray, List.getElem?_cons_zero, List.getElem?_cons_succ]; rfl)
          case hs39 => kernel_rfl
          case hf39 => kernel_rfl
          case hr39 => kernel_rfl
          case hQ39 => exact fun _ _ _ h => h
          case hy39 => (exact Or.inr ⟨by rfl, rfl⟩)
          try simp only [Act.put, List.setIfInBounds_toArray, List.set_cons_zero, List.set_cons_succ]
          refine wpAnyH_take (i := 19) (oi := ?oi40) (v := undef) ?hop40 ?hs40 ?hf40 ?hr40 ?hQ40 ?hy40 (by assumption) ?rest40
          case hop40 => (simp only [List.getElem?_toArray, List.getElem?_cons_zero, List.getElem?_cons_succ]; rfl)
          case hs40 => kernel_rfl
          case hf40 => kernel_rfl
          case hr40 => kernel_rfl
          case hQ40 => exact fun _ _ _ h => h
          case hy40 => (exact Or.inr ⟨by rfl, rfl⟩)
          try simp only [Act.put, List.setIfInBounds_toArray, List.set_cons_zero, List.set_cons_succ]
          refine wpAnyH_take (i := 16) (oi := ?oi41) (v := undef) ?hop41 ?hs41 ?hf41 ?hr41 ?hQ41 ?hy41 (by assumption) ?rest41
          case hop41 => (simp only [List.getElem?_toArray, List.getElem?_cons_zero, List.getElem?_cons_succ]; rfl)
          case hs41 => kernel_rfl
          case hf41 => kernel_rfl
          case hr41 => kernel_rfl
          case hQ41 => exact fun _ _ _ h => h
          case hy41 => (exact Or.inr ⟨by rfl, rfl⟩)
          try simp only [Act.put, List.setIfInBounds_toArray, List.set_cons_zero, List.set_cons_succ]
          refine wpAnyH_take (i := 20) (oi := ?oi42) (v := undef) ?hop42 ?hs42 ?hf42 ?hr42 ?hQ42 ?hy42 (by assumption) ?rest42
          case hop42 => (simp only [List.getElem?_toArray, List.getElem?_cons_zero, List.getElem?_cons_succ]; rfl)
          case hs42 => kernel_rfl
          case hf42 => kernel_rfl
          case hr42 => kernel_rfl
          case hQ42 => exact fun _ _ _ h => h
          case hy42 => (exact Or.inr ⟨by rfl, rfl⟩)
          try simp only [Act.put, List.setIfInBounds_toArray, List.set_cons_zero, List.set_cons_succ]
          refine wpAnyH_take (i := 21) (oi := ?oi43) (v := undef) ?hop43 ?hs43 ?hf43 ?hr43 ?hQ43 ?hy43 (by assumption) ?rest43
          case hop43 => (simp only [List.getElem?_toArray, List.getElem?_cons_zero, List.getElem?_cons_succ]; rfl)
          case hs43 => kernel_rfl
          case hf43 => kernel_rfl
          case hr43 => kernel_rfl
          case hQ43 => exact fun _ _ _ h => h
          case hy43 => (exact Or.inr ⟨by rfl, rfl⟩)
          try simp only [Act.put, List.setIfInBounds_toArray, List.set_cons_zero, List.set_cons_succ]
          refine wpAnyH_take (i := 22) (oi := ?oi44) (v := undef) ?hop44 ?hs44 ?hf44 ?hr44 ?hQ44 ?hy44 (by assumption) ?rest44
          case hop44 => (simp only [List.getElem?_toArray, List.getElem?_cons_zero, List.getElem?_cons_succ]; rfl)
          case hs44 => kernel_rfl
          case hf44 => kernel_rfl
          case hr44 => kernel_rfl
          case hQ44 => exact fun _ _ _ h => h
          case hy44 => (exact Or.inr ⟨by rfl, rfl⟩)
          try simp only [Act.put, List.setIfInBounds_toArray, List.set_cons_zero, List.set_cons_succ]
          refine wpAnyH_take (i := 23) (oi := ?oi45) (v := ?v45) ?hop45 ?hs45 ?hf45 ?hr45 ?hQ45 ?hy45 (by assumption) ?rest45
          case hop45 => (simp only [List.getElem?_toArray, List.getElem?_cons_zero, List.getElem?_cons_succ]; rfl)
          case hs45 => kernel_rfl
          case hf45 => kernel_rfl
          case hr45 => kernel_rfl
          case hQ45 => exact fun _ _ _ h => h
          case hy45 => (refine Or.inl ⟨by rfl, ?_⟩; intro w hSw; (try dsimp only at hSw); go_simp <;> with_reducible rfl)
          try simp only [Act.put, List.setIfInBounds_toArray, List.set_cons_zero, List.set_cons_succ]
          refine wpAnyH_take (i := 24) (oi := ?oi46) (v := ?v46) ?hop46 ?hs46 ?hf46 ?hr46 ?hQ46 ?hy46 (by assumption) ?rest46
          case hop46 => (simp only [List.getElem?_toArray, List.getElem?_cons_zero, List.getElem?_cons_succ]; rfl)
          case hs46 => kernel_rfl
          case hf46 => kernel_rfl
          case hr46 => kernel_rfl
          case hQ46 => exact fun _ _ _ h => h
          case hy46 => (refine Or.inl ⟨by rfl, ?_⟩; intro w hSw; (try dsimp only at hSw); go_simp <;> with_reducible rfl)
          try simp only [Act.put, List.setIfInBounds_toArray, List.set_cons_zero, List.set_cons_succ]
          refine wpAnyH_done (by kernel_rfl) ?_ _
          refine NoPanic.normal ?_
          clear hKeep hv1 hv2 hv3 hEqV hEqO hEq hbF hbd hbB hbD X0 Xf
          have hFX : BW w _ := hbaseH.out.below hb2.out
          have htX := htH.out.below hb2.out
          obtain ⟨x0, x1, x2, x3, x4, x5, xlt, xrow, xrowC⟩ := (show TabAt _ _ _ _ _ _ _ from htX)
          have hm := del_any t C2 p2 D2 q2 key _ hft.out.1 hft.out.2 xrow xrowC
          have hmH : Hid _ := hm
          clear hm xlt xrow xrowC
          go_wp2_with fail
          refine Calls.mono (show Calls _ _ _ _ _ from hmH.out) ?_
          rintro e u50 ⟨C50, p50, rfl, hr, hn, -, hb⟩
          clear hmH x0 x1 x2 x3 x4 x5
          obtain ⟨dc, h0⟩ : ∃ c, delC t key = c := ⟨_, rfl⟩
          obtain ⟨edc, h1⟩ : ∃ e, delE t key = e := ⟨_, rfl⟩
          have hfdc : Hid (dc.l.length ≤ maxLen) := by show _ ≤ _; rw [← h0]; exact delC_lenK _ _
          rw [h0] at hr ⊢
          rw [h1]
          have hzdc : Hid (delC t key = dc ∧ delE t key = edc) := ⟨h0, h1⟩
          have hndc : Hid (C50 = none → p50 = 0) := hn
          have hg : Gr u50 (u50.alloc (.cells #[.int .i64 dc.c0, .int .i64 dc.c1, .int .i64 dc.c2, .int .i64 dc.c3, .slice C50 dc.l.length p50, .slice none 0 0] 46)) := (Gr.refl _).alloc _
          have hF50 := (hFX.below hb).gr hg
          have htt50 := (htX.below hb).gr hg
          have htd50 : TabAt (u50.alloc (.cells #[.int .i64 dc.c0, .int .i64 dc.c1, .int .i64 dc.c2, .int .i64 dc.c3, .slice C50 dc.l.length p50, .slice none 0 0] 46)) u50.heap.size ⟨dc, []⟩ C50 p50 none 0 := TabAt.new (t := ⟨dc, []⟩) 46 hr (Or.inl rfl) rfl
          clear h0 h1 hn hg hr hb hFX htX
          by_cases hde : edc = 0
          · subst hde
            obtain ⟨_, _, hm0, _⟩ := del_cells hzdc.out.2
            have hdk := del_keys hzdc.out.2
            rw [hzdc.out.1] at hm0 hdk
            have hm0H : Hid (mergeE t ⟨dc, []⟩ = 0) := hm0
            obtain ⟨x0, x1, x2, x3, x4, x5, xlt, xrow, xrowC⟩ := (show TabAt _ _ _ _ _ _ _ from htt50)
            obtain ⟨y0, y1, y2, y3, y4, y5, ylt, yrow, yrowC⟩ := (show TabAt _ _ _ _ _ _ _ from htd50)
            have hm := merge_new t ⟨dc, []⟩ C2 C50 D2 none p2 p50 q2 0 _ hft.out.1 hfdc.out hft.out.2 (show 0 ≤ maxLen by decide) hnt.out hndc.out xrow yrow xrowC yrowC
            have hmH : Hid _ := hm
            clear hm xlt ylt xrow yrow xrowC yrowC hm0
            go_wp2_with fail
            refine Calls.mono (show Calls _ _ _ _ _ from hmH.out) ?_
            rintro e u51 ⟨C51, p51, D51, q51, rfl, hr, hd, hn, -, -, -, hb⟩
            clear hmH x0 x1 x2 x3 x4 x5 y0 y1 y2 y3 y4 y5
            have hzt : errT (mergeT t ⟨dc, []⟩) = 0 := errT_merge hm0H.out
            obtain ⟨z, h0⟩ : ∃ t', mergeT t ⟨dc, []⟩ = t' := ⟨_, rfl⟩
            rw [h0] at hr hd hzt hdk ⊢
            rw [hm0H.out]
            have hdkH : Hid ((onceL (keysOf z.e)).length + 1 = (onceL (keysOf t.e)).length ∧ key ∉ onceL (keysOf z.e)) := hdk
            have hztH : Hid (errT z = 0) := hzt
            have hg : Gr u51 (u51.alloc (.cells #[.int .i64 z.c.c0, .int .i64 z.c.c1, .int .i64 z.c.c2, .int .i64 z.c.c3, .slice C51 z.c.l.length p51, .slice D51 z.e.length q51] 46)) := (Gr.refl _).alloc _
            have hF51 := (hF50.below hb).gr hg
            have htt51 := (htt50.below hb).gr hg
            have htz51 : TabAt (u51.alloc (.cells #[.int .i64 z.c.c0, .int .i64 z.c.c1, .int .i64 z.c.c2, .int .i64 z.c.c3, .slice C51 z.c.l.length p51, .slice D51 z.e.length q51] 46)) u51.heap.size z C51 p51 D51 q51 := TabAt.new 46 hr hd rfl
            clear h0 hn hg hr hd hb hF50 htt50 htd50 hdk hzt
            go_upto_region 15 with fail
            generalize (u51.alloc (.cells #[.int .i64 z.c.c0, .int .i64 z.c.c1, .int .i64 z.c.c2, .int .i64 z.c.c3, .slice C51 z.c.l.length p51, .slice D51 z.e.length q51] 46)) = Y at hF51 htt51 htz51 ⊢
            obtain ⟨Kz, hKz⟩ : ∃ K, onceL (keysOf z.e) = K := ⟨_, rfl⟩
            obtain ⟨Kt, hKt⟩ : ∃ K, onceL (keysOf t.e) = K := ⟨_, rfl⟩
            rw [hKz, hKt] at hdkH
            have hKl : Hid (Kz.length ≤ maxLen ∧ (Kt.length : Int) - 1 = (Kz.length : Int)) := ⟨by rw [← hKz]; exact (onceL_max _ (Nat.le_trans (keysOf_len _) (errT_parts hztH.out).2.1)).2, by have := hdkH.out.1; omega⟩
            have hkz : Hid (∀ W, Below Y.heap.size Y W → Calls Try.prog 27 #[.agg #[.int .i64 z.c.c0, .int .i64 z.c.c1, .int .i64 z.c.c2, .int .i64 z.c.c3, .slice C51 z.c.l.length p51, .slice D51 z.e.length q51]] W fun e w' => ∃ C cp, e = .returned (.slice C Kz.length cp) ∧ RowI w' C Kz ∧ Below W.heap.size W w') := fun W hb => by rw [← hKz]; exact keys_any z C51 p51 D51 q51 W (small_ok hztH.out) (htz51.below hb).row (htz51.below hb).rowC
            have hkt : Hid (∀ W, Below Y.heap.size Y W → Calls Try.prog 27 #[.agg #[.int .i64 t.c.c0, .int .i64 t.c.c1, .int .i64 t.c.c2, .int .i64 t.c.c3, .slice C2 t.c.l.length p2, .slice D2 t.e.length q2]] W fun e w' => ∃ C cp, e = .returned (.slice C Kt.length cp) ∧ RowI w' C Kt ∧ Below W.heap.size W w') := fun W hb => by rw [← hKt]; exact keys_any t C2 p2 D2 q2 W (small_ok hteH.out) (htt51.below hb).row (htt51.below hb).rowC
            have hKeep : Hid (∀ w' : World, Below Y.heap.size Y w' → (fun w' => w'.cell? ⟨u2.heap.size, 0, none⟩ = some (.int .i64 t.c.c0) ∧ w'.cell? ⟨u2.heap.size, 1, none⟩ = some (.int .i64 t.c.c1) ∧ w'.cell? ⟨u2.heap.size, 2, none⟩ = some (.int .i64 t.c.c2) ∧ w'.cell? ⟨u2.heap.size, 3, none⟩ = some (.int .i64 t.c.c3) ∧ w'.cell? ⟨u2.heap.size, 4, none⟩ = some (.slice C2 t.c.l.length p2) ∧ w'.cell? ⟨u2.heap.size, 5, none⟩ = some (.slice D2 t.e.length q2) ∧ w'.cell? ⟨u51.heap.size, 0, none⟩ = some (.int .i64 z.c.c0) ∧ w'.cell? ⟨u51.heap.size, 1, none⟩ = some (.int .i64 z.c.c1) ∧ w'.cell? ⟨u51.heap.size, 2, none⟩ = some (.int .i64 z.c.c2) ∧ w'.cell? ⟨u51.heap.size, 3, none⟩ = some (.int .i64 z.c.c3) ∧ w'.cell? ⟨u51.heap.size, 4, none⟩ = some (.slice C51 z.c.l.length p51) ∧ w'.cell? ⟨u51.heap.size, 5, none⟩ = some (.slice D51 z.e.length q51)) w') := fun w' hb => by
              have h1 := htt51.below hb
              have h2 := htz51.below hb
              exact ⟨h1.k0, h1.k1, h1.k2, h1.k3, h1.k4, h1.k5, h2.k0, h2.k1, h2.k2, h2.k3, h2.k4, h2.k5⟩
            have hco : hasI Kz key = false := by unfold hasI; exact decide_eq_false hdkH.out.2
            have hco' : Hid (hasI Kz key = false) := hco
            have hsub : (Kt.length : Int) - 1 = (Kz.length : Int) := hKl.out.2
            have hKtl : (Kt.length : Int) ≤ 401 ∧ 0 ≤ (Kt.length : Int) := ⟨by have h := onceL_len (keysOf t.e); rw [hKt] at h; have h2 := keysOf_len t.e; have h3 := (errT_parts hteH.out).2.1; omega, by omega⟩
            have hwr : IntKind.i64.wrap (Kz.length : Int) = (Kz.length : Int) := by have h1 := hKtl.1; have h2 := hsub; rw [IntKind.wrap_i64]; omega
            have hbd : Below Y.heap.size Y Y.drew := (Below.refl _ _).drew
            have hbwH : Hid (Below w.heap.size w Y) := hF51.hw
            clear hF51 htt51 htz51 hKz hKt hco
            go_region_held3 (fun w' => w'.cell? ⟨u2.heap.size, 0, none⟩ = some (.int .i64 t.c.c0) ∧ w'.cell? ⟨u2.heap.size, 1, none⟩ = some (.int .i64 t.c.c1) ∧ w'.cell? ⟨u2.heap.size, 2, none⟩ = some (.int .i64 t.c.c2) ∧ w'.cell? ⟨u2.heap.size, 3, none⟩ = some (.int .i64 t.c.c3) ∧ w'.cell? ⟨u2.heap.size, 4, none⟩ = some (.slice C2 t.c.l.length p2) ∧ w'.cell? ⟨u2.heap.size, 5, none⟩ = some (.slice D2 t.e.length q2) ∧ w'.cell? ⟨u51.heap.size, 0, none⟩ = some (.int .i64 z.c.c0) ∧ w'.cell? ⟨u51.heap.size, 1, none⟩ = some (.int .i64 z.c.c1) ∧ w'.cell? ⟨u51.heap.size, 2, none⟩ = some (.int .i64 z.c.c2) ∧ w'.cell? ⟨u51.heap.size, 3, none⟩ = some (.int .i64 z.c.c3) ∧ w'.cell? ⟨u51.heap.size, 4, none⟩ = some (.slice C51 z.c.l.length p51) ∧ w'.cell? ⟨u51.heap.size, 5, none⟩ = some (.slice D51 z.e.length q51)) (first | with_reducible exact hKeep.out _ hbd | with_reducible exact hKeep.out _ hk1.out | with_reducible exact hKeep.out _ hk2.out | with_reducible exact hKeep.out _ hk3.out | with_reducible exact hKeep.out _ hk4.out)
              (first
                | (go_at_call 27; (with_reducible refine Calls.mono (show Calls _ _ _ _ _ from hkt.out _ hk3.out) ?_); rintro e x4 ⟨Q4, r4, rfl, hq, hg⟩; have hk4 : Hid (Below Y.heap.size Y x4) := hk3.out.trans (hg.mono hk3.out.size); clear hg hq)
                | (go_at_call 27; (with_reducible refine Calls.mono (show Calls _ _ _ _ _ from hkz.out _ hk2.out) ?_); rintro e x3 ⟨Q3, r3, rfl, hq, hg⟩; have hk3 : Hid (Below Y.heap.size Y x3) := hk2.out.trans (hg.mono hk2.out.size); clear hg hq)
                | (go_at_call 27; (with_reducible refine Calls.mono (show Calls _ _ _ _ _ from hkz.out _ hbd) ?_); rintro e x1 ⟨Q1, r1, rfl, hq, hg⟩; have hq1 : Hid (RowI x1 Q1 Kz) := hq; have hk1 : Hid (Below Y.heap.size Y x1) := hbd.trans (hg.mono hbd.size); clear hg hq)
                | (go_at_call 26; (with_reducible refine Calls.mono (show Calls _ _ _ _ _ from containsI_any Kz Q1 r1 key _ hKl.out.1 hq1.out) ?_); rintro e x2 ⟨rfl, hg⟩; rw [hco'.out]; have hk2 : Hid (Below Y.heap.size Y x2) := hk1.out.trans (hg.below.mono hk1.out.size); clear hg))
            go_wp2
            go_ret
            exact ⟨by simp, hbwH.out.trans (hk4.out.mono hbwH.out.size)⟩
          · have hdeb : (edc != 0) = true := by simpa using hde
            have hno := del_no hteH.out (by rw [hzdc.out.2]; exact hde : delE t key ≠ 0)
            obtain ⟨Kt, hKt⟩ : ∃ K, onceL (keysOf t.e) = K := ⟨_, rfl⟩
            have hKl : Hid (Kt.length ≤ maxLen ∧ hasI Kt key = false) := ⟨by rw [← hKt]; exact (onceL_max _ (Nat.le_trans (keysOf_len _) (errT_parts hteH.out).2.1)).2, by unfold hasI; rw [← hKt]; exact decide_eq_false fun k => hno (((once_good _).2 key).1 k)⟩
            obtain ⟨x0, x1, x2, x3, x4, x5, xlt, xrow, xrowC⟩ := (show TabAt _ _ _ _ _ _ _ from htt50)
            have hk := keys_any t C2 p2 D2 q2 _ (small_ok hteH.out) xrow xrowC
            rw [hKt] at hk
            have hkH : Hid _ := hk
            have hbwH : Hid (BW w _) := hF50
            clear hk xlt xrow xrowC hde hno hKt htt50 htd50 hF50
            go_wp2_with fail
            refine Calls.mono (show Calls _ _ _ _ _ from hkH.out) ?_
            rintro e xa ⟨Q1, r1, rfl, hq, hg1⟩
            clear hkH x0 x1 x2 x3 x4 x5
            have hc := containsI_any Kt Q1 r1 key xa hKl.out.1 hq
            rw [hKl.out.2] at hc
            have hcH : Hid _ := hc
            clear hc
            go_wp2_with fail
            refine Calls.mono (show Calls _ _ _ _ _ from hcH.out) ?_
            rintro e xb ⟨rfl, hg2⟩
            clear hcH
            go_wp2
            go_ret
            exact ⟨rfl, ((hbwH.out.below hg1).gr hg2).hw⟩
        case step5 =>
          go_simp
          (go_at_call 24; (with_reducible refine Calls.mono (show Calls _ _ _ _ _ from hv1.out X.drew hbd) ?_); rintro e x1 ⟨V1, v1, rfl, hq, hg⟩; have hb1 : Hid (Below X.heap.size X x1) := hbd.trans (hg.mono hbd.size); have hb1A : Hid (Below X.heap.size X (x1.alloc (.cells #[.int .i64 0] 3))) := hb1.out.alloc hb1.out.size _; have hb1V : Hid (Below X.heap.size X (x1.alloc (.cells #[.int .i64 value] 3))) := hb1.out.alloc hb1.out.size _; have y0 : (x1.alloc (.cells #[.int .i64 0] 3)).cell? ⟨x1.heap.size, 0, none⟩ = some (.int .i64 0) := box1 (Gr.refl _) rfl; have yf : ∀ j, (x1.alloc (.cells #[.int .i64 0] 3)).frozen? ⟨x1.heap.size, j, none⟩ = false := fun j => box1f (Gr.refl _) j; have hEq : Hid (Calls Try.prog 23 #[.slice V1 1 v1, .slice (some ⟨x1.heap.size, 0, none⟩) 1 1] (x1.alloc (.cells #[.int .i64 value] 3)) fun e w' => e = .returned (.bool true) ∧ Gr (x1.alloc (.cells #[.int .i64 value] 3)) w') := hEqV.out V1 (some ⟨x1.heap.size, 0, none⟩) v1 1 _ (hq.gr ((Gr.refl _).alloc _)) (rowNewI rfl value 3); have hbF : Hid (Below X.heap.size X (x1.alloc (.cells #[.int .i64 value] 3))) := hb1V; clear hg hq)
          first | (go_wp2_with fail) | skip
          refine hK.out _ _ ?_ (fun hHeld => ?_)
          · (try dsimp only); (first | with_reducible exact hKeep.out _ hbd | with_reducible exact hKeep.out _ hbB | with_reducible exact hKeep.out _ hbD | with_reducible exact hKeep.out _ hb1.out | with_reducible exact hKeep.out _ hb1A.out | with_reducible exact hKeep.out _ hbF.out | with_reducible exact hKeep.out _ hb2.out | with_reducible exact hKeep.out _ hb3.out | with_reducible exact hKeep.out _ hb4.out | with_reducible exact hKeep.out _ hb5.out)
          clear hK K
          try simp only [Act.put, List.setIfInBounds_toArray, List.set_cons_zero, List.set_cons_succ]
          refine wpAnyH_ready (rs := [5]) (by kernel_rfl) (by simp) ?_
          refine AllReadyH.cons (o := ?oi6) ?hop6 (fun K hK => ?step6) ?more6
          case hop6 => (simp only [List.getElem?_toArray, List.getElem?_cons_zero, List.getElem?_cons_succ]; rfl)
          case more6 => exact AllReadyH.nil
          go_simp
          refine hK.out _ _ ?_ (fun hHeld => ?_)
          · (try dsimp only); (first | with_reducible exact hKeep.out _ hbd | with_reducible exact hKeep.out _ hbB | with_reducible exact hKeep.out _ hbD | with_reducible exact hKeep.out _ hb1.out | with_reducible exact hKeep.out _ hb1A.out | with_reducible exact hKeep.out _ hbF.out | with_reducible exact hKeep.out _ hb2.out | with_reducible exact hKeep.out _ hb3.out | with_reducible exact hKeep.out _ hb4.out | with_reducible exact hKeep.out _ hb5.out)
          clear hK K
          try simp only [Act.put, List.setIfInBounds_toArray, List.set_cons_zero, List.set_cons_succ]
          refine wpAnyH_ready (rs := [6]) (by kernel_rfl) (by simp) ?_
          refine AllReadyH.cons (o := ?oi7) ?hop7 (fun K hK => ?step7) ?more7
          case hop7 => (simp only [List.getElem?_toArray, List.getElem?_cons_zero, List.getElem?_cons_succ]; rfl)
          case more7 => exact AllReadyH.nil
          go_simp
          (go_at_call 23; (with_reducible refine Calls.mono (show Calls _ _ _ _ _ from hEq.out) ?_); rintro e x2 ⟨rfl, hg⟩; have hb2 : Hid (Below X.heap.size X x2) := hbF.out.trans (hg.below.mono hbF.out.size); clear hg)
          first | (go_wp2_with fail) | skip
          refine hK.out _ _ ?_ (fun hHeld => ?_)
          · (try dsimp only); (first | with_reducible exact hKeep.out _ hbd | with_reducible exact hKeep.out _ hbB | with_reducible exact hKeep.out _ hbD | with_reducible exact hKeep.out _ hb1.out | with_reducible exact hKeep.out _ hb1A.out | with_reducible exact hKeep.out _ hbF.out | with_reducible exact hKeep.out _ hb2.out | with_reducible exact hKeep.out _ hb3.out | with_reducible exact hKeep.out _ hb4.out | with_reducible exact hKeep.out _ hb5.out)
          clear hK K
          try simp only [Act.put, List.setIfInBounds_toArray, List.set_cons_zero, List.set_cons_succ]
          refine wpAnyH_take (i := 7) (oi := ?oi8) (v := ?v8) ?hop8 ?hs8 ?hf8 ?hr8 ?hQ8 ?hy8 (by assumption) ?rest8
          case hop8 => (simp only [List.getElem?_toArray, List.getElem?_cons_zero, List.getElem?_cons_succ]; rfl)
          case hs8 => kernel_rfl
          case hf8 => kernel_rfl
          case hr8 => kernel_rfl
          case hQ8 => exact fun _ _ _ h => h
          case hy8 => (refine Or.inl ⟨by rfl, ?_⟩; intro w hSw; (try dsimp only at hSw); go_simp <;> with_reducible rfl)
          try simp only [Act.put, List.setIfInBounds_toArray, List.set_cons_zero, List.set_cons_succ]
          refine wpAnyH_take (i := 8) (oi := ?oi9) (v := ?v9) ?hop9 ?hs9 ?hf9 ?hr9 ?hQ9 ?hy9 (by assumption) ?rest9
          case hop9 => (simp only [List.getElem?_toArray, List.getElem?_cons_zero, List.getElem?_cons_succ]; rfl)
          case hs9 => kernel_rfl
          case hf9 => kernel_rfl
          case hr9 => kernel_rfl
          case hQ9 => exact fun _ _ _ h => h
          case hy9 => (refine Or.inl ⟨by rfl, ?_⟩; intro w hSw; (try dsimp only at hSw); go_simp <;> with_reducible rfl)
          try simp only [Act.put, List.setIfInBounds_toArray, List.set_cons_zero, List.set_cons_succ]
          refine wpAnyH_take (i := 9) (oi := ?oi10) (v := ?v10) ?hop10 ?hs10 ?hf10 ?hr10 ?hQ10 ?hy10 (by assumption) ?rest10
          case hop10 => (simp only [List.getElem?_toArray, List.getElem?_cons_zero, List.getElem?_cons_succ]; rfl)
          case hs10 => kernel_rfl
          case hf10 => kernel_rfl
          case hr10 => kernel_rfl
          case hQ10 => exact fun _ _ _ h => h
          case hy10 => (refine Or.inl ⟨by rfl, ?_⟩; intro w hSw; (try dsimp only at hSw); go_simp <;> with_reducible rfl)
          try simp only [Act.put, List.setIfInBounds_toArray, List.set_cons_zero, List.set_cons_succ]
          refine wpAnyH_take (i := 10) (oi := ?oi11) (v := ?v11) ?hop11 ?hs11 ?hf11 ?hr11 ?hQ11 ?hy11 (by assumption) ?rest11
          case hop11 => (simp only [List.getElem?_toArray, List.getElem?_cons_zero, List.getElem?_cons_succ]; rfl)
          case hs11 => kernel_rfl
          case hf11 => kernel_rfl
          case hr11 => kernel_rfl
          case hQ11 => exact fun _ _ _ h => h
          case hy11 => (refine Or.inl ⟨by rfl, ?_⟩; intro w hSw; (try dsimp only at hSw); go_simp <;> with_reducible rfl)
          try simp only [Act.put, List.setIfInBounds_toArray, List.set_cons_zero, List.set_cons_succ]
          refine wpAnyH_take (i := 11) (oi := ?oi12) (v := ?v12) ?hop12 ?hs12 ?hf12 ?hr12 ?hQ12 ?hy12 (by assumption) ?rest12
          case hop12 => (simp only [List.getElem?_toArray, List.getElem?_cons_zero, List.getElem?_cons_succ]; rfl)
          case hs12 => kernel_rfl
          case hf12 => kernel_rfl
          case hr12 => kernel_rfl
          case hQ12 => exact fun _ _ _ h => h
          case hy12 => (refine Or.inl ⟨by rfl, ?_⟩; intro w hSw; (try dsimp only at hSw); go_simp <;> with_reducible rfl)
          try simp only [Act.put, List.setIfInBounds_toArray, List.set_cons_zero, List.set_cons_succ]
          refine wpAnyH_take (i := 12) (oi := ?oi13) (v := ?v13) ?hop13 ?hs13 ?hf13 ?hr13 ?hQ13 ?hy13 (by assumption) ?rest13
          case hop13 => (simp only [List.getElem?_toArray, List.getElem?_cons_zero, List.getElem?_cons_succ]; rfl)
          case hs13 => kernel_rfl
          case hf13 => kernel_rfl
          case hr13 => kernel_rfl
          case hQ13 => exact fun _ _ _ h => h
          case hy13 => (refine Or.inl ⟨by rfl, ?_⟩; intro w hSw; (try dsimp only at hSw); go_simp <;> with_reducible rfl)
          try simp only [Act.put, List.setIfInBounds_toArray, List.set_cons_zero, List.set_cons_succ]
          refine wpAnyH_take (i := 13) (oi := ?oi14) (v := undef) ?hop14 ?hs14 ?hf14 ?hr14 ?hQ14 ?hy14 (by assumption) ?rest14
          case hop14 => (simp only [List.getElem?_toArray, List.getElem?_cons_zero, List.getElem?_cons_succ]; rfl)
          case hs14 => kernel_rfl
          case hf14 => kernel_rfl
          case hr14 => kernel_rfl
          case hQ14 => exact fun _ _ _ h => h
          case hy14 => (exact Or.inr ⟨by rfl, rfl⟩)
          try simp only [Act.put, List.setIfInBounds_toArray, List.set_cons_zero, List.set_cons_succ]
          refine wpAnyH_take (i := 14) (oi := ?oi15) (v := undef) ?hop15 ?hs15 ?hf15 ?hr15 ?hQ15 ?hy15 (by assumption) ?rest15
          case hop15 => (simp only [List.getElem?_toArray, List.getElem?_cons_zero, List.getElem?_cons_succ]; rfl)
          case hs15 => kernel_rfl
          case hf15 => kernel_rfl
          case hr15 => kernel_rfl
          case hQ15 => exact fun _ _ _ h => h
          case hy15 => (exact Or.inr ⟨by rfl, rfl⟩)
          try simp only [Act.put, List.setIfInBounds_toArray, List.set_cons_zero, List.set_cons_succ]
          refine wpAnyH_take (i := 15) (oi := ?oi16) (v := undef) ?hop16 ?hs16 ?hf16 ?hr16 ?hQ16 ?hy16 (by assumption) ?rest16
          case hop16 => (simp only [List.getElem?_toArray, List.getElem?_cons_zero, List.getElem?_cons_succ]; rfl)
          case hs16 => kernel_rfl
          case hf16 => kernel_rfl
          case hr16 => kernel_rfl
          case hQ16 => exact fun _ _ _ h => h
          case hy16 => (exact Or.inr ⟨by rfl, rfl⟩)
          try simp only [Act.put, List.setIfInBounds_toArray, List.set_cons_zero, List.set_cons_succ]
          refine wpAnyH_take (i := 17) (oi := ?oi17) (v := undef) ?hop17 ?hs17 ?hf17 ?hr17 ?hQ17 ?hy17 (by assumption) ?rest17
          case hop17 => (simp only [List.getElem?_toArray, List.getElem?_cons_zero, List.getElem?_cons_succ]; rfl)
          case hs17 => kernel_rfl
          case hf17 => kernel_rfl
          case hr17 => kernel_rfl
          case hQ17 => exact fun _ _ _ h => h
          case hy17 => (exact Or.inr ⟨by rfl, rfl⟩)
          try simp only [Act.put, List.setIfInBounds_toArray, List.set_cons_zero, List.set_cons_succ]
          refine wpAnyH_take (i := 18) (oi := ?oi18) (v := undef) ?hop18 ?hs18 ?hf18 ?hr18 ?hQ18 ?hy18 (by assumption) ?rest18
          case hop18 => (simp only [List.getElem?_toArray, List.getElem?_cons_zero, List.getElem?_cons_succ]; rfl)
          case hs18 => kernel_rfl
          case hf18 => kernel_rfl
          case hr18 => kernel_rfl
          case hQ18 => exact fun _ _ _ h => h
          case hy18 => (exact Or.inr ⟨by rfl, rfl⟩)
          try simp only [Act.put, List.setIfInBounds_toArray, List.set_cons_zero, List.set_cons_succ]
          refine wpAnyH_take (i := 19) (oi := ?oi19) (v := undef) ?hop19 ?hs19 ?hf19 ?hr19 ?hQ19 ?hy19 (by assumption) ?rest19
          case hop19 => (simp only [List.getElem?_toArray, List.getElem?_cons_zero, List.getElem?_cons_succ]; rfl)
          case hs19 => kernel_rfl
          case hf19 => kernel_rfl
          case hr19 => kernel_rfl
          case hQ19 => exact fun _ _ _ h => h
          case hy19 => (exact Or.inr ⟨by rfl, rfl⟩)
          try simp only [Act.put, List.setIfInBounds_toArray, List.set_cons_zero, List.set_cons_succ]
          refine wpAnyH_take (i := 16) (oi := ?oi20) (v := undef) ?hop20 ?hs20 ?hf20 ?hr20 ?hQ20 ?hy20 (by assumption) ?rest20
          case hop20 => (simp only [List.getElem?_toArray, List.getElem?_cons_zero, List.getElem?_cons_succ]; rfl)
          case hs20 => kernel_rfl
          case hf20 => kernel_rfl
          case hr20 => kernel_rfl
          case hQ20 => exact fun _ _ _ h => h
          case hy20 => (exact Or.inr ⟨by rfl, rfl⟩)
          try simp only [Act.put, List.setIfInBounds_toArray, List.set_cons_zero, List.set_cons_succ]
          refine wpAnyH_take (i := 20) (oi := ?oi21) (v := undef) ?hop21 ?hs21 ?hf21 ?hr21 ?hQ21 ?hy21 (by assumption) ?rest21
          case hop21 => (simp only [List.getElem?_toArray, List.getElem?_cons_zero, List.getElem?_cons_succ]; rfl)
          case hs21 => kernel_rfl
          case hf21 => kernel_rfl
          case hr21 => kernel_rfl
          case hQ21 => exact fun _ _ _ h => h
          case hy21 => (exact Or.inr ⟨by rfl, rfl⟩)
          try simp only [Act.put, List.setIfInBounds_toArray, List.set_cons_zero, List.set_cons_succ]
          refine wpAnyH_take (i := 21) (oi := ?oi22) (v := undef) ?hop22 ?hs22 ?hf22 ?hr22 ?hQ22 ?hy22 (by assumption) ?rest22
          case hop22 => (simp only [List.getElem?_toArray, List.getElem?_cons_zero, List.getElem?_cons_succ]; rfl)
          case hs22 => kernel_rfl
          case hf22 => kernel_rfl
          case hr22 => kernel_rfl
          case hQ22 => exact fun _ _ _ h => h
          case hy22 => (exact Or.inr ⟨by rfl, rfl⟩)
          try simp only [Act.put, List.setIfInBounds_toArray, List.set_cons_zero, List.set_cons_succ]
          refine wpAnyH_take (i := 22) (oi := ?oi23) (v := undef) ?hop23 ?hs23 ?hf23 ?hr23 ?hQ23 ?hy23 (by assumption) ?rest23
          case hop23 => (simp only [List.getElem?_toArray, List.getElem?_cons_zero, List.getElem?_cons_succ]; rfl)
          case hs23 => kernel_rfl
          case hf23 => kernel_rfl
          case hr23 => kernel_rfl
          case hQ23 => exact fun _ _ _ h => h
          case hy23 => (exact Or.inr ⟨by rfl, rfl⟩)
          try simp only [Act.put, List.setIfInBounds_toArray, List.set_cons_zero, List.set_cons_succ]
          refine wpAnyH_take (i := 23) (oi := ?oi24) (v := ?v24) ?hop24 ?hs24 ?hf24 ?hr24 ?hQ24 ?hy24 (by assumption) ?rest24
          case hop24 => (simp only [List.getElem?_toArray, List.getElem?_cons_zero, List.getElem?_cons_succ]; rfl)
          case hs24 => kernel_rfl
          case hf24 => kernel_rfl
          case hr24 => kernel_rfl
          case hQ24 => exact fun _ _ _ h => h
          case hy24 => (refine Or.inl ⟨by rfl, ?_⟩; intro w hSw; (try dsimp only at hSw); go_simp <;> with_reducible rfl)
          try simp only [Act.put, List.setIfInBounds_toArray, List.set_cons_zero, List.set_cons_succ]
          refine wpAnyH_take (i := 24) (oi := ?oi25) (v := ?v25) ?hop25 ?hs25 ?hf25 ?hr25 ?hQ25 ?hy25 (by assumption) ?rest25
          case hop25 => (simp only [List.getElem?_toArray, List.getElem?_cons_zero, List.getElem?_cons_succ]; rfl)
          case hs25 => kernel_rfl
          case hf25 => kernel_rfl
          case hr25 => kernel_rfl
          case hQ25 => exact fun _ _ _ h => h
          case hy25 => (refine Or.inl ⟨by rfl, ?_⟩; intro w hSw; (try dsimp only at hSw); go_simp <;> with_reducible rfl)
          try simp only [Act.put, List.setIfInBounds_toArray, List.set_cons_zero, List.set_cons_succ]
          refine wpAnyH_done (by kernel_rfl) ?_ _
          refine NoPanic.normal ?_
          clear hKeep hv1 hv2 hv3 hEqV hEqO hEq hbF hbd hbB hbD X0 Xf
          have hFX : BW w _ := hbaseH.out.below hb2.out
          have htX := htH.out.below hb2.out
          obtain ⟨x0, x1, x2, x3, x4, x5, xlt, xrow, xrowC⟩ := (show TabAt _ _ _ _ _ _ _ from htX)
          have hm := del_any t C2 p2 D2 q2 key _ hft.out.1 hft.out.2 xrow xrowC
          have hmH : Hid _ := hm
          clear hm xlt xrow xrowC
          go_wp2_with fail
          refine Calls.mono (show Calls _ _ _ _ _ from hmH.out) ?_
          rintro e u50 ⟨C50, p50, rfl, hr, hn, -, hb⟩
          clear hmH x0 x1 x2 x3 x4 x5
          obtain ⟨dc, h0⟩ : ∃ c, delC t key = c := ⟨_, rfl⟩
          obtain ⟨edc, h1⟩ : ∃ e, delE t key = e := ⟨_, rfl⟩
          have hfdc : Hid (dc.l.length ≤ maxLen) := by show _ ≤ _; rw [← h0]; exact delC_lenK _ _
          rw [h0] at hr ⊢
          rw [h1]
          have hzdc : Hid (delC t key = dc ∧ delE t key = edc) := ⟨h0, h1⟩
          have hndc : Hid (C50 = none → p50 = 0) := hn
          have hg : Gr u50 (u50.alloc (.cells #[.int .i64 dc.c0, .int .i64 dc.c1, .int .i64 dc.c2, .int .i64 dc.c3, .slice C50 dc.l.length p50, .slice none 0 0] 46)) := (Gr.refl _).alloc _
          have hF50 := (hFX.below hb).gr hg
          have htt50 := (htX.below hb).gr hg
          have htd50 : TabAt (u50.alloc (.cells #[.int .i64 dc.c0, .int .i64 dc.c1, .int .i64 dc.c2, .int .i64 dc.c3, .slice C50 dc.l.length p50, .slice none 0 0] 46)) u50.heap.size ⟨dc, []⟩ C50 p50 none 0 := TabAt.new (t := ⟨dc, []⟩) 46 hr (Or.inl rfl) rfl
          clear h0 h1 hn hg hr hb hFX htX
          by_cases hde : edc = 0
          · subst hde
            obtain ⟨_, _, hm0, _⟩ := del_cells hzdc.out.2
            have hdk := del_keys hzdc.out.2
            rw [hzdc.out.1] at hm0 hdk
            have hm0H : Hid (mergeE t ⟨dc, []⟩ = 0) := hm0
            obtain ⟨x0, x1, x2, x3, x4, x5, xlt, xrow, xrowC⟩ := (show TabAt _ _ _ _ _ _ _ from htt50)
            obtain ⟨y0, y1, y2, y3, y4, y5, ylt, yrow, yrowC⟩ := (show TabAt _ _ _ _ _ _ _ from htd50)
            have hm := merge_new t ⟨dc, []⟩ C2 C50 D2 none p2 p50 q2 0 _ hft.out.1 hfdc.out hft.out.2 (show 0 ≤ maxLen by decide) hnt.out hndc.out xrow yrow xrowC yrowC
            have hmH : Hid _ := hm
            clear hm xlt ylt xrow yrow xrowC yrowC hm0
            go_wp2_with fail
            refine Calls.mono (show Calls _ _ _ _ _ from hmH.out) ?_
            rintro e u51 ⟨C51, p51, D51, q51, rfl, hr, hd, hn, -, -, -, hb⟩
            clear hmH x0 x1 x2 x3 x4 x5 y0 y1 y2 y3 y4 y5
            have hzt : errT (mergeT t ⟨dc, []⟩) = 0 := errT_merge hm0H.out
            obtain ⟨z, h0⟩ : ∃ t', mergeT t ⟨dc, []⟩ = t' := ⟨_, rfl⟩
            rw [h0] at hr hd hzt hdk ⊢
            rw [hm0H.out]
            have hdkH : Hid ((onceL (keysOf z.e)).length + 1 = (onceL (keysOf t.e)).length ∧ key ∉ onceL (keysOf z.e)) := hdk
            have hztH : Hid (errT z = 0) := hzt
            have hg : Gr u51 (u51.alloc (.cells #[.int .i64 z.c.c0, .int .i64 z.c.c1, .int .i64 z.c.c2, .int .i64 z.c.c3, .slice C51 z.c.l.length p51, .slice D51 z.e.length q51] 46)) := (Gr.refl _).alloc _
            have hF51 := (hF50.below hb).gr hg
            have htt51 := (htt50.below hb).gr hg
            have htz51 : TabAt (u51.alloc (.cells #[.int .i64 z.c.c0, .int .i64 z.c.c1, .int .i64 z.c.c2, .int .i64 z.c.c3, .slice C51 z.c.l.length p51, .slice D51 z.e.length q51] 46)) u51.heap.size z C51 p51 D51 q51 := TabAt.new 46 hr hd rfl
            clear h0 hn hg hr hd hb hF50 htt50 htd50 hdk hzt
            go_upto_region 15 with fail
            generalize (u51.alloc (.cells #[.int .i64 z.c.c0, .int .i64 z.c.c1, .int .i64 z.c.c2, .int .i64 z.c.c3, .slice C51 z.c.l.length p51, .slice D51 z.e.length q51] 46)) = Y at hF51 htt51 htz51 ⊢
            obtain ⟨Kz, hKz⟩ : ∃ K, onceL (keysOf z.e) = K := ⟨_, rfl⟩
            obtain ⟨Kt, hKt⟩ : ∃ K, onceL (keysOf t.e) = K := ⟨_, rfl⟩
            rw [hKz, hKt] at hdkH
            have hKl : Hid (Kz.length ≤ maxLen ∧ (Kt.length : Int) - 1 = (Kz.length : Int)) := ⟨by rw [← hKz]; exact (onceL_max _ (Nat.le_trans (keysOf_len _) (errT_parts hztH.out).2.1)).2, by have := hdkH.out.1; omega⟩
            have hkz : Hid (∀ W, Below Y.heap.size Y W → Calls Try.prog 27 #[.agg #[.int .i64 z.c.c0, .int .i64 z.c.c1, .int .i64 z.c.c2, .int .i64 z.c.c3, .slice C51 z.c.l.length p51, .slice D51 z.e.length q51]] W fun e w' => ∃ C cp, e = .returned (.slice C Kz.length cp) ∧ RowI w' C Kz ∧ Below W.heap.size W w') := fun W hb => by rw [← hKz]; exact keys_any z C51 p51 D51 q51 W (small_ok hztH.out) (htz51.below hb).row (htz51.below hb).rowC
            have hkt : Hid (∀ W, Below Y.heap.size Y W → Calls Try.prog 27 #[.agg #[.int .i64 t.c.c0, .int .i64 t.c.c1, .int .i64 t.c.c2, .int .i64 t.c.c3, .slice C2 t.c.l.length p2, .slice D2 t.e.length q2]] W fun e w' => ∃ C cp, e = .returned (.slice C Kt.length cp) ∧ RowI w' C Kt ∧ Below W.heap.size W w') := fun W hb => by rw [← hKt]; exact keys_any t C2 p2 D2 q2 W (small_ok hteH.out) (htt51.below hb).row (htt51.below hb).rowC
            have hKeep : Hid (∀ w' : World, Below Y.heap.size Y w' → (fun w' => w'.cell? ⟨u2.heap.size, 0, none⟩ = some (.int .i64 t.c.c0) ∧ w'.cell? ⟨u2.heap.size, 1, none⟩ = some (.int .i64 t.c.c1) ∧ w'.cell? ⟨u2.heap.size, 2, none⟩ = some (.int .i64 t.c.c2) ∧ w'.cell? ⟨u2.heap.size, 3, none⟩ = some (.int .i64 t.c.c3) ∧ w'.cell? ⟨u2.heap.size, 4, none⟩ = some (.slice C2 t.c.l.length p2) ∧ w'.cell? ⟨u2.heap.size, 5, none⟩ = some (.slice D2 t.e.length q2) ∧ w'.cell? ⟨u51.heap.size, 0, none⟩ = some (.int .i64 z.c.c0) ∧ w'.cell? ⟨u51.heap.size, 1, none⟩ = some (.int .i64 z.c.c1) ∧ w'.cell? ⟨u51.heap.size, 2, none⟩ = some (.int .i64 z.c.c2) ∧ w'.cell? ⟨u51.heap.size, 3, none⟩ = some (.int .i64 z.c.c3) ∧ w'.cell? ⟨u51.heap.size, 4, none⟩ = some (.slice C51 z.c.l.length p51) ∧ w'.cell? ⟨u51.heap.size, 5, none⟩ = some (.slice D51 z.e.length q51)) w') := fun w' hb => by
              have h1 := htt51.below hb
              have h2 := htz51.below hb
              exact ⟨h1.k0, h1.k1, h1.k2, h1.k3, h1.k4, h1.k5, h2.k0, h2.k1, h2.k2, h2.k3, h2.k4, h2.k5⟩
            have hco : hasI Kz key = false := by unfold hasI; exact decide_eq_false hdkH.out.2
            have hco' : Hid (hasI Kz key = false) := hco
            have hsub : (Kt.length : Int) - 1 = (Kz.length : Int) := hKl.out.2
            have hKtl : (Kt.length : Int) ≤ 401 ∧ 0 ≤ (Kt.length : Int) := ⟨by have h := onceL_len (keysOf t.e); rw [hKt] at h; have h2 := keysOf_len t.e; have h3 := (errT_parts hteH.out).2.1; omega, by omega⟩
            have hwr : IntKind.i64.wrap (Kz.length : Int) = (Kz.length : Int) := by have h1 := hKtl.1; have h2 := hsub; rw [IntKind.wrap_i64]; omega
            have hbd : Below Y.heap.size Y Y.drew := (Below.refl _ _).drew
            have hbwH : Hid (Below w.heap.size w Y) := hF51.hw
            clear hF51 htt51 htz51 hKz hKt hco
            go_region_held3 (fun w' => w'.cell? ⟨u2.heap.size, 0, none⟩ = some (.int .i64 t.c.c0) ∧ w'.cell? ⟨u2.heap.size, 1, none⟩ = some (.int .i64 t.c.c1) ∧ w'.cell? ⟨u2.heap.size, 2, none⟩ = some (.int .i64 t.c.c2) ∧ w'.cell? ⟨u2.heap.size, 3, none⟩ = some (.int .i64 t.c.c3) ∧ w'.cell? ⟨u2.heap.size, 4, none⟩ = some (.slice C2 t.c.l.length p2) ∧ w'.cell? ⟨u2.heap.size, 5, none⟩ = some (.slice D2 t.e.length q2) ∧ w'.cell? ⟨u51.heap.size, 0, none⟩ = some (.int .i64 z.c.c0) ∧ w'.cell? ⟨u51.heap.size, 1, none⟩ = some (.int .i64 z.c.c1) ∧ w'.cell? ⟨u51.heap.size, 2, none⟩ = some (.int .i64 z.c.c2) ∧ w'.cell? ⟨u51.heap.size, 3, none⟩ = some (.int .i64 z.c.c3) ∧ w'.cell? ⟨u51.heap.size, 4, none⟩ = some (.slice C51 z.c.l.length p51) ∧ w'.cell? ⟨u51.heap.size, 5, none⟩ = some (.slice D51 z.e.length q51)) (first | with_reducible exact hKeep.out _ hbd | with_reducible exact hKeep.out _ hk1.out | with_reducible exact hKeep.out _ hk2.out | with_reducible exact hKeep.out _ hk3.out | with_reducible exact hKeep.out _ hk4.out)
              (first
                | (go_at_call 27; (with_reducible refine Calls.mono (show Calls _ _ _ _ _ from hkt.out _ hk3.out) ?_); rintro e x4 ⟨Q4, r4, rfl, hq, hg⟩; have hk4 : Hid (Below Y.heap.size Y x4) := hk3.out.trans (hg.mono hk3.out.size); clear hg hq)
                | (go_at_call 27; (with_reducible refine Calls.mono (show Calls _ _ _ _ _ from hkz.out _ hk2.out) ?_); rintro e x3 ⟨Q3, r3, rfl, hq, hg⟩; have hk3 : Hid (Below Y.heap.size Y x3) := hk2.out.trans (hg.mono hk2.out.size); clear hg hq)
                | (go_at_call 27; (with_reducible refine Calls.mono (show Calls _ _ _ _ _ from hkz.out _ hbd) ?_); rintro e x1 ⟨Q1, r1, rfl, hq, hg⟩; have hq1 : Hid (RowI x1 Q1 Kz) := hq; have hk1 : Hid (Below Y.heap.size Y x1) := hbd.trans (hg.mono hbd.size); clear hg hq)
                | (go_at_call 26; (with_reducible refine Calls.mono (show Calls _ _ _ _ _ from containsI_any Kz Q1 r1 key _ hKl.out.1 hq1.out) ?_); rintro e x2 ⟨rfl, hg⟩; rw [hco'.out]; have hk2 : Hid (Below Y.heap.size Y x2) := hk1.out.trans (hg.below.mono hk1.out.size); clear hg))
            go_wp2
            go_ret
            exact ⟨by simp, hbwH.out.trans (hk4.out.mono hbwH.out.size)⟩
          · have hdeb : (edc != 0) = true := by simpa using hde
            have hno := del_no hteH.out (by rw [hzdc.out.2]; exact hde : delE t key ≠ 0)
            obtain ⟨Kt, hKt⟩ : ∃ K, onceL (keysOf t.e) = K := ⟨_, rfl⟩
            have hKl : Hid (Kt.length ≤ maxLen ∧ hasI Kt key = false) := ⟨by rw [← hKt]; exact (onceL_max _ (Nat.le_trans (keysOf_len _) (errT_parts hteH.out).2.1)).2, by unfold hasI; rw [← hKt]; exact decide_eq_false fun k => hno (((once_good _).2 key).1 k)⟩
            obtain ⟨x0, x1, x2, x3, x4, x5, xlt, xrow, xrowC⟩ := (show TabAt _ _ _ _ _ _ _ from htt50)
            have hk := keys_any t C2 p2 D2 q2 _ (small_ok hteH.out) xrow xrowC
            rw [hKt] at hk
            have hkH : Hid _ := hk
            have hbwH : Hid (BW w _) := hF50
            clear hk xlt xrow xrowC hde hno hKt htt50 htd50 hF50
            go_wp2_with fail
            refine Calls.mono (show Calls _ _ _ _ _ from hkH.out) ?_
            rintro e xa ⟨Q1, r1, rfl, hq, hg1⟩
            clear hkH x0 x1 x2 x3 x4 x5
            have hc := containsI_any Kt Q1 r1 key xa hKl.out.1 hq
            rw [hKl.out.2] at hc
            have hcH : Hid _ := hc
            clear hc
            go_wp2_with fail
            refine Calls.mono (show Calls _ _ _ _ _ from hcH.out) ?_
            rintro e xb ⟨rfl, hg2⟩
            clear hcH
            go_wp2
            go_ret
            exact ⟨rfl, ((hbwH.out.below hg1).gr hg2).hw⟩
      · have hoc : Hid (other ≠ col) := hoc0
        have hocb : (other != col) = true := by simpa using hoc0
        clear hoc0
        go_region_held3 (fun w' => w'.cell? ⟨u2.heap.size, 0, none⟩ = some (.int .i64 t.c.c0) ∧ w'.cell? ⟨u2.heap.size, 1, none⟩ = some (.int .i64 t.c.c1) ∧ w'.cell? ⟨u2.heap.size, 2, none⟩ = some (.int .i64 t.c.c2) ∧ w'.cell? ⟨u2.heap.size, 3, none⟩ = some (.int .i64 t.c.c3) ∧ w'.cell? ⟨u2.heap.size, 4, none⟩ = some (.slice C2 t.c.l.length p2) ∧ w'.cell? ⟨u2.heap.size, 5, none⟩ = some (.slice D2 t.e.length q2) ∧ w'.cell? ⟨u4.heap.size, 0, none⟩ = some (.int .i64 xx.c.c0) ∧ w'.cell? ⟨u4.heap.size, 1, none⟩ = some (.int .i64 xx.c.c1) ∧ w'.cell? ⟨u4.heap.size, 2, none⟩ = some (.int .i64 xx.c.c2) ∧ w'.cell? ⟨u4.heap.size, 3, none⟩ = some (.int .i64 xx.c.c3) ∧ w'.cell? ⟨u4.heap.size, 4, none⟩ = some (.slice C4 xx.c.l.length p4) ∧ w'.cell? ⟨u4.heap.size, 5, none⟩ = some (.slice D4 xx.e.length q4)) (first | with_reducible exact hKeep.out _ hbd | with_reducible exact hKeep.out _ hbB | with_reducible exact hKeep.out _ hbD | with_reducible exact hKeep.out _ hb1.out | with_reducible exact hKeep.out _ hb1A.out | with_reducible exact hKeep.out _ hbF.out | with_reducible exact hKeep.out _ hb2.out | with_reducible exact hKeep.out _ hb3.out | with_reducible exact hKeep.out _ hb4.out | with_reducible exact hKeep.out _ hb5.out)
          (first | (go_at_call 24; (with_reducible refine Calls.mono (show Calls _ _ _ _ _ from hv3.out _ hb3.out) ?_); rintro e x4 ⟨V4, v4, rfl, hq, hg⟩; have hq4 : Hid (RowI x4 V3 Vo ∧ RowI x4 V4 Vo) := ⟨hq3.out.below hg, hq⟩; have hb4 : Hid (Below X.heap.size X x4) := hb3.out.trans (hg.mono hb3.out.size); clear hg hq) | (go_at_call 24; (with_reducible refine Calls.mono (show Calls _ _ _ _ _ from hv2.out hoc.out _ hb2.out) ?_); rintro e x3 ⟨V3, v3, rfl, hq, hg⟩; have hq3 : Hid (RowI x3 V3 Vo) := hq; have hb3 : Hid (Below X.heap.size X x3) := hb2.out.trans (hg.mono hb2.out.size); clear hg hq) | (go_at_call 23; (with_reducible refine Calls.mono (show Calls _ _ _ _ _ from hEqO.out V3 V4 v3 v4 _ hq4.out.1 hq4.out.2) ?_); rintro e x5 ⟨rfl, hg⟩; have hb5 : Hid (Below X.heap.size X x5) := hb4.out.trans (hg.below.mono hb4.out.size); clear hg) | (go_at_call 24; (with_reducible refine Calls.mono (show Calls _ _ _ _ _ from hv1.out X.drew hbd) ?_); rintro e x1 ⟨V1, v1, rfl, hq, hg⟩; have hb1 : Hid (Below X.heap.size X x1) := hbd.trans (hg.mono hbd.size); have hb1A : Hid (Below X.heap.size X (x1.alloc (.cells #[.int .i64 0] 3))) := hb1.out.alloc hb1.out.size _; have hb1V : Hid (Below X.heap.size X (x1.alloc (.cells #[.int .i64 value] 3))) := hb1.out.alloc hb1.out.size _; have y0 : (x1.alloc (.cells #[.int .i64 0] 3)).cell? ⟨x1.heap.size, 0, none⟩ = some (.int .i64 0) := box1 (Gr.refl _) rfl; have yf : ∀ j, (x1.alloc (.cells #[.int .i64 0] 3)).frozen? ⟨x1.heap.size, j, none⟩ = false := fun j => box1f (Gr.refl _) j; have hEq : Hid (Calls Try.prog 23 #[.slice V1 1 v1, .slice (some ⟨x1.heap.size, 0, none⟩) 1 1] (x1.alloc (.cells #[.int .i64 value] 3)) fun e w' => e = .returned (.bool true) ∧ Gr (x1.alloc (.cells #[.int .i64 value] 3)) w') := hEqV.out V1 (some ⟨x1.heap.size, 0, none⟩) v1 1 _ (hq.gr ((Gr.refl _).alloc _)) (rowNewI rfl value 3); have hbF : Hid (Below X.heap.size X (x1.alloc (.cells #[.int .i64 value] 3))) := hb1V; clear hg hq) | (go_at_call 24; (with_reducible refine Calls.mono (show Calls _ _ _ _ _ from hv1.out (X.alloc (.cells #[.int .i64 0] 3)).drew hbB) ?_); rintro e x1 ⟨V1, v1, rfl, hq, hg⟩; have hb1 : Hid (Below X.heap.size X x1) := hbB.trans (hg.mono hbB.size); have y0 : x1.cell? ⟨X.heap.size, 0, none⟩ = some (.int .i64 0) := (hg.cell (p := ⟨X.heap.size, 0, none⟩) (show X.heap.size < (X.alloc (.cells #[.int .i64 0] 3)).drew.heap.size by simp [World.drew])).trans X0; have yf : ∀ j, x1.frozen? ⟨X.heap.size, j, none⟩ = false := fun j => (hg.frozen (p := ⟨X.heap.size, j, none⟩) (show X.heap.size < (X.alloc (.cells #[.int .i64 0] 3)).drew.heap.size by simp [World.drew])).trans (Xf j); have hbF : Hid (Below X.heap.size X (x1.setCell ⟨X.heap.size, 0, none⟩ (.int .i64 value))) := hb1.out.setCell (Nat.le_refl _) _; have hxl : X.heap.size < x1.heap.size := World.block_lt_of_cell? x1 ⟨X.heap.size, 0, none⟩ y0; have hEq : Hid (Calls Try.prog 23 #[.slice V1 1 v1, .slice (some ⟨X.heap.size, 0, none⟩) 1 1] (x1.setCell ⟨X.heap.size, 0, none⟩ (.int .i64 value)) fun e w' => e = .returned (.bool true) ∧ Gr (x1.setCell ⟨X.heap.size, 0, none⟩ (.int .i64 value)) w') := hEqV.out V1 (some ⟨X.heap.size, 0, none⟩) v1 1 _ (rowI_same hq y0) (rowI_put y0 hxl); clear hg hq hxl) | (go_at_call 24; (with_reducible refine Calls.mono (show Calls _ _ _ _ _ from hv1.out (X.alloc (.cells #[.int .i64 value] 3)).drew hbD) ?_); rintro e x1 ⟨V1, v1, rfl, hq, hg⟩; have hb1 : Hid (Below X.heap.size X x1) := hbD.trans (hg.mono hbD.size); have hbF : Hid (Below X.heap.size X x1) := hb1; have hlit : RowI (X.alloc (.cells #[.int .i64 value] 3)).drew (some ⟨X.heap.size, 0, none⟩) [value] := (rowNewI rfl value 3).gr (Gr.refl _).drew; have hEq : Hid (Calls Try.prog 23 #[.slice V1 1 v1, .slice (some ⟨X.heap.size, 0, none⟩) 1 1] x1 fun e w' => e = .returned (.bool true) ∧ Gr x1 w') := hEqV.out V1 (some ⟨X.heap.size, 0, none⟩) v1 1 _ hq (hlit.below hg); clear hg hq hlit) | (go_at_call 23; (with_reducible refine Calls.mono (show Calls _ _ _ _ _ from hEq.out) ?_); rintro e x2 ⟨rfl, hg⟩; have hb2 : Hid (Below X.heap.size X x2) := hbF.out.trans (hg.below.mono hbF.out.size); clear hg))
        all_goals clear hKeep hv1 hv2 hv3 hEqV hEqO hEq hbF hbd hbB hbD X0 Xf
        all_goals
          have hFX : BW w _ := hbaseH.out.below hb5.out
          have htX := htH.out.below hb5.out
          obtain ⟨x0, x1, x2, x3, x4, x5, xlt, xrow, xrowC⟩ := (show TabAt _ _ _ _ _ _ _ from htX)
          have hm := del_any t C2 p2 D2 q2 key _ hft.out.1 hft.out.2 xrow xrowC
          have hmH : Hid _ := hm
          clear hm xlt xrow xrowC
          go_wp2_with fail
          refine Calls.mono (show Calls _ _ _ _ _ from hmH.out) ?_
          rintro e u50 ⟨C50, p50, rfl, hr, hn, -, hb⟩
          clear hmH x0 x1 x2 x3 x4 x5
          obtain ⟨dc, h0⟩ : ∃ c, delC t key = c := ⟨_, rfl⟩
          obtain ⟨edc, h1⟩ : ∃ e, delE t key = e := ⟨_, rfl⟩
          have hfdc : Hid (dc.l.length ≤ maxLen) := by show _ ≤ _; rw [← h0]; exact delC_lenK _ _
          rw [h0] at hr ⊢
          rw [h1]
          have hzdc : Hid (delC t key = dc ∧ delE t key = edc) := ⟨h0, h1⟩
          have hndc : Hid (C50 = none → p50 = 0) := hn
          have hg : Gr u50 (u50.alloc (.cells #[.int .i64 dc.c0, .int .i64 dc.c1, .int .i64 dc.c2, .int .i64 dc.c3, .slice C50 dc.l.length p50, .slice none 0 0] 46)) := (Gr.refl _).alloc _
          have hF50 := (hFX.below hb).gr hg
          have htt50 := (htX.below hb).gr hg
          have htd50 : TabAt (u50.alloc (.cells #[.int .i64 dc.c0, .int .i64 dc.c1, .int .i64 dc.c2, .int .i64 dc.c3, .slice C50 dc.l.length p50, .slice none 0 0] 46)) u50.heap.size ⟨dc, []⟩ C50 p50 none 0 := TabAt.new (t := ⟨dc, []⟩) 46 hr (Or.inl rfl) rfl
          clear h0 h1 hn hg hr hb hFX htX
          by_cases hde : edc = 0
          · subst hde
            obtain ⟨_, _, hm0, _⟩ := del_cells hzdc.out.2
            have hdk := del_keys hzdc.out.2
            rw [hzdc.out.1] at hm0 hdk
            have hm0H : Hid (mergeE t ⟨dc, []⟩ = 0) := hm0
            obtain ⟨x0, x1, x2, x3, x4, x5, xlt, xrow, xrowC⟩ := (show TabAt _ _ _ _ _ _ _ from htt50)
            obtain ⟨y0, y1, y2, y3, y4, y5, ylt, yrow, yrowC⟩ := (show TabAt _ _ _ _ _ _ _ from htd50)
            have hm := merge_new t ⟨dc, []⟩ C2 C50 D2 none p2 p50 q2 0 _ hft.out.1 hfdc.out hft.out.2 (show 0 ≤ maxLen by decide) hnt.out hndc.out xrow yrow xrowC yrowC
            have hmH : Hid _ := hm
            clear hm xlt ylt xrow yrow xrowC yrowC hm0
            go_wp2_with fail
            refine Calls.mono (show Calls _ _ _ _ _ from hmH.out) ?_
            rintro e u51 ⟨C51, p51, D51, q51, rfl, hr, hd, hn, -, -, -, hb⟩
            clear hmH x0 x1 x2 x3 x4 x5 y0 y1 y2 y3 y4 y5
            have hzt : errT (mergeT t ⟨dc, []⟩) = 0 := errT_merge hm0H.out
            obtain ⟨z, h0⟩ : ∃ t', mergeT t ⟨dc, []⟩ = t' := ⟨_, rfl⟩
            rw [h0] at hr hd hzt hdk ⊢
            rw [hm0H.out]
            have hdkH : Hid ((onceL (keysOf z.e)).length + 1 = (onceL (keysOf t.e)).length ∧ key ∉ onceL (keysOf z.e)) := hdk
            have hztH : Hid (errT z = 0) := hzt
            have hg : Gr u51 (u51.alloc (.cells #[.int .i64 z.c.c0, .int .i64 z.c.c1, .int .i64 z.c.c2, .int .i64 z.c.c3, .slice C51 z.c.l.length p51, .slice D51 z.e.length q51] 46)) := (Gr.refl _).alloc _
            have hF51 := (hF50.below hb).gr hg
            have htt51 := (htt50.below hb).gr hg
            have htz51 : TabAt (u51.alloc (.cells #[.int .i64 z.c.c0, .int .i64 z.c.c1, .int .i64 z.c.c2, .int .i64 z.c.c3, .slice C51 z.c.l.length p51, .slice D51 z.e.length q51] 46)) u51.heap.size z C51 p51 D51 q51 := TabAt.new 46 hr hd rfl
            clear h0 hn hg hr hd hb hF50 htt50 htd50 hdk hzt
            go_upto_region 15 with fail
            generalize (u51.alloc (.cells #[.int .i64 z.c.c0, .int .i64 z.c.c1, .int .i64 z.c.c2, .int .i64 z.c.c3, .slice C51 z.c.l.length p51, .slice D51 z.e.length q51] 46)) = Y at hF51 htt51 htz51 ⊢
            obtain ⟨Kz, hKz⟩ : ∃ K, onceL (keysOf z.e) = K := ⟨_, rfl⟩
            obtain ⟨Kt, hKt⟩ : ∃ K, onceL (keysOf t.e) = K := ⟨_, rfl⟩
            rw [hKz, hKt] at hdkH
            have hKl : Hid (Kz.length ≤ maxLen ∧ (Kt.length : Int) - 1 = (Kz.length : Int)) := ⟨by rw [← hKz]; exact (onceL_max _ (Nat.le_trans (keysOf_len _) (errT_parts hztH.out).2.1)).2, by have := hdkH.out.1; omega⟩
            have hkz : Hid (∀ W, Below Y.heap.size Y W → Calls Try.prog 27 #[.agg #[.int .i64 z.c.c0, .int .i64 z.c.c1, .int .i64 z.c.c2, .int .i64 z.c.c3, .slice C51 z.c.l.length p51, .slice D51 z.e.length q51]] W fun e w' => ∃ C cp, e = .returned (.slice C Kz.length cp) ∧ RowI w' C Kz ∧ Below W.heap.size W w') := fun W hb => by rw [← hKz]; exact keys_any z C51 p51 D51 q51 W (small_ok hztH.out) (htz51.below hb).row (htz51.below hb).rowC
            have hkt : Hid (∀ W, Below Y.heap.size Y W → Calls Try.prog 27 #[.agg #[.int .i64 t.c.c0, .int .i64 t.c.c1, .int .i64 t.c.c2, .int .i64 t.c.c3, .slice C2 t.c.l.length p2, .slice D2 t.e.length q2]] W fun e w' => ∃ C cp, e = .returned (.slice C Kt.length cp) ∧ RowI w' C Kt ∧ Below W.heap.size W w') := fun W hb => by rw [← hKt]; exact keys_any t C2 p2 D2 q2 W (small_ok hteH.out) (htt51.below hb).row (htt51.below hb).rowC
            have hKeep : Hid (∀ w' : World, Below Y.heap.size Y w' → (fun w' => w'.cell? ⟨u2.heap.size, 0, none⟩ = some (.int .i64 t.c.c0) ∧ w'.cell? ⟨u2.heap.size, 1, none⟩ = some (.int .i64 t.c.c1) ∧ w'.cell? ⟨u2.heap.size, 2, none⟩ = some (.int .i64 t.c.c2) ∧ w'.cell? ⟨u2.heap.size, 3, none⟩ = some (.int .i64 t.c.c3) ∧ w'.cell? ⟨u2.heap.size, 4, none⟩ = some (.slice C2 t.c.l.length p2) ∧ w'.cell? ⟨u2.heap.size, 5, none⟩ = some (.slice D2 t.e.length q2) ∧ w'.cell? ⟨u51.heap.size, 0, none⟩ = some (.int .i64 z.c.c0) ∧ w'.cell? ⟨u51.heap.size, 1, none⟩ = some (.int .i64 z.c.c1) ∧ w'.cell? ⟨u51.heap.size, 2, none⟩ = some (.int .i64 z.c.c2) ∧ w'.cell? ⟨u51.heap.size, 3, none⟩ = some (.int .i64 z.c.c3) ∧ w'.cell? ⟨u51.heap.size, 4, none⟩ = some (.slice C51 z.c.l.length p51) ∧ w'.cell? ⟨u51.heap.size, 5, none⟩ = some (.slice D51 z.e.length q51)) w') := fun w' hb => by
              have h1 := htt51.below hb
              have h2 := htz51.below hb
              exact ⟨h1.k0, h1.k1, h1.k2, h1.k3, h1.k4, h1.k5, h2.k0, h2.k1, h2.k2, h2.k3, h2.k4, h2.k5⟩
            have hco : hasI Kz key = false := by unfold hasI; exact decide_eq_false hdkH.out.2
            have hco' : Hid (hasI Kz key = false) := hco
            have hsub : (Kt.length : Int) - 1 = (Kz.length : Int) := hKl.out.2
            have hKtl : (Kt.length : Int) ≤ 401 ∧ 0 ≤ (Kt.length : Int) := ⟨by have h := onceL_len (keysOf t.e); rw [hKt] at h; have h2 := keysOf_len t.e; have h3 := (errT_parts hteH.out).2.1; omega, by omega⟩
            have hwr : IntKind.i64.wrap (Kz.length : Int) = (Kz.length : Int) := by have h1 := hKtl.1; have h2 := hsub; rw [IntKind.wrap_i64]; omega
            have hbd : Below Y.heap.size Y Y.drew := (Below.refl _ _).drew
            have hbwH : Hid (Below w.heap.size w Y) := hF51.hw
            clear hF51 htt51 htz51 hKz hKt hco
            go_region_held3 (fun w' => w'.cell? ⟨u2.heap.size, 0, none⟩ = some (.int .i64 t.c.c0) ∧ w'.cell? ⟨u2.heap.size, 1, none⟩ = some (.int .i64 t.c.c1) ∧ w'.cell? ⟨u2.heap.size, 2, none⟩ = some (.int .i64 t.c.c2) ∧ w'.cell? ⟨u2.heap.size, 3, none⟩ = some (.int .i64 t.c.c3) ∧ w'.cell? ⟨u2.heap.size, 4, none⟩ = some (.slice C2 t.c.l.length p2) ∧ w'.cell? ⟨u2.heap.size, 5, none⟩ = some (.slice D2 t.e.length q2) ∧ w'.cell? ⟨u51.heap.size, 0, none⟩ = some (.int .i64 z.c.c0) ∧ w'.cell? ⟨u51.heap.size, 1, none⟩ = some (.int .i64 z.c.c1) ∧ w'.cell? ⟨u51.heap.size, 2, none⟩ = some (.int .i64 z.c.c2) ∧ w'.cell? ⟨u51.heap.size, 3, none⟩ = some (.int .i64 z.c.c3) ∧ w'.cell? ⟨u51.heap.size, 4, none⟩ = some (.slice C51 z.c.l.length p51) ∧ w'.cell? ⟨u51.heap.size, 5, none⟩ = some (.slice D51 z.e.length q51)) (first | with_reducible exact hKeep.out _ hbd | with_reducible exact hKeep.out _ hk1.out | with_reducible exact hKeep.out _ hk2.out | with_reducible exact hKeep.out _ hk3.out | with_reducible exact hKeep.out _ hk4.out)
              (first
                | (go_at_call 27; (with_reducible refine Calls.mono (show Calls _ _ _ _ _ from hkt.out _ hk3.out) ?_); rintro e x4 ⟨Q4, r4, rfl, hq, hg⟩; have hk4 : Hid (Below Y.heap.size Y x4) := hk3.out.trans (hg.mono hk3.out.size); clear hg hq)
                | (go_at_call 27; (with_reducible refine Calls.mono (show Calls _ _ _ _ _ from hkz.out _ hk2.out) ?_); rintro e x3 ⟨Q3, r3, rfl, hq, hg⟩; have hk3 : Hid (Below Y.heap.size Y x3) := hk2.out.trans (hg.mono hk2.out.size); clear hg hq)
                | (go_at_call 27; (with_reducible refine Calls.mono (show Calls _ _ _ _ _ from hkz.out _ hbd) ?_); rintro e x1 ⟨Q1, r1, rfl, hq, hg⟩; have hq1 : Hid (RowI x1 Q1 Kz) := hq; have hk1 : Hid (Below Y.heap.size Y x1) := hbd.trans (hg.mono hbd.size); clear hg hq)
                | (go_at_call 26; (with_reducible refine Calls.mono (show Calls _ _ _ _ _ from containsI_any Kz Q1 r1 key _ hKl.out.1 hq1.out) ?_); rintro e x2 ⟨rfl, hg⟩; rw [hco'.out]; have hk2 : Hid (Below Y.heap.size Y x2) := hk1.out.trans (hg.below.mono hk1.out.size); clear hg))
            go_wp2
            go_ret
            exact ⟨by simp, hbwH.out.trans (hk4.out.mono hbwH.out.size)⟩
          · have hdeb : (edc != 0) = true := by simpa using hde
            have hno := del_no hteH.out (by rw [hzdc.out.2]; exact hde : delE t key ≠ 0)
            obtain ⟨Kt, hKt⟩ : ∃ K, onceL (keysOf t.e) = K := ⟨_, rfl⟩
            have hKl : Hid (Kt.length ≤ maxLen ∧ hasI Kt key = false) := ⟨by rw [← hKt]; exact (onceL_max _ (Nat.le_trans (keysOf_len _) (errT_parts hteH.out).2.1)).2, by unfold hasI; rw [← hKt]; exact decide_eq_false fun k => hno (((once_good _).2 key).1 k)⟩
            obtain ⟨x0, x1, x2, x3, x4, x5, xlt, xrow, xrowC⟩ := (show TabAt _ _ _ _ _ _ _ from htt50)
            have hk := keys_any t C2 p2 D2 q2 _ (small_ok hteH.out) xrow xrowC
            rw [hKt] at hk
            have hkH : Hid _ := hk
            have hbwH : Hid (BW w _) := hF50
            clear hk xlt xrow xrowC hde hno hKt htt50 htd50 hF50
            go_wp2_with fail
            refine Calls.mono (show Calls _ _ _ _ _ from hkH.out) ?_
            rintro e xa ⟨Q1, r1, rfl, hq, hg1⟩
            clear hkH x0 x1 x2 x3 x4 x5
            have hc := containsI_any Kt Q1 r1 key xa hKl.out.1 hq
            rw [hKl.out.2] at hc
            have hcH : Hid _ := hc
            clear hc
            go_wp2_with fail
            refine Calls.mono (show Calls _ _ _ _ _ from hcH.out) ?_
            rintro e xb ⟨rfl, hg2⟩
            clear hcH
            go_wp2
            go_ret
            exact ⟨rfl, ((hbwH.out.below hg1).gr hg2).hw⟩
    · have hx2 : exx = 2 := by
        have h := put_room hzpt.out.2 (by rw [hzpt.out.1, hzxx.out.2]; exact hxe)
        rw [hzpt.out.1, hzxx.out.2] at h
        exact h
      subst hx2
      have hbwH : Hid (BW w _) := hF4
      go_wp2
      go_ret
      exact ⟨rfl, hbwH.out.hw⟩
  · have hpeb : (ept == 0) = false := by simpa using hpe
    clear hpe
    obtain ⟨x0, x1, x2, x3, x4, x5, xlt, xrow, xrowC⟩ := (show TabAt _ _ _ _ _ _ _ from htt3)
    have hm := del_any t C2 p2 D2 q2 key _ hft.out.1 hft.out.2 xrow xrowC
    have hmH : Hid _ := hm
    clear hm xlt xrow xrowC
    go_wp2_with fail
    refine Calls.mono (show Calls _ _ _ _ _ from hmH.out) ?_
    rintro e u70 ⟨C70, p70, rfl, hr, hn, -, hb⟩
    clear hmH x0 x1 x2 x3 x4 x5
    obtain ⟨dc, h0⟩ : ∃ c, delC t key = c := ⟨_, rfl⟩
    obtain ⟨edc, h1⟩ : ∃ e, delE t key = e := ⟨_, rfl⟩
    have hfdc : Hid (dc.l.length ≤ maxLen) := by show _ ≤ _; rw [← h0]; exact delC_lenK _ _
    rw [h0] at hr ⊢
    rw [h1]
    have hzdc : Hid (delC t key = dc ∧ delE t key = edc) := ⟨h0, h1⟩
    have hndc : Hid (C70 = none → p70 = 0) := hn
    have hg : Gr u70 (u70.alloc (.cells #[.int .i64 dc.c0, .int .i64 dc.c1, .int .i64 dc.c2, .int .i64 dc.c3, .slice C70 dc.l.length p70, .slice none 0 0] 46)) := (Gr.refl _).alloc _
    have hF70 := (hF3.below hb).gr hg
    have htt70 := (htt3.below hb).gr hg
    have htd70 : TabAt (u70.alloc (.cells #[.int .i64 dc.c0, .int .i64 dc.c1, .int .i64 dc.c2, .int .i64 dc.c3, .slice C70 dc.l.length p70, .slice none 0 0] 46)) u70.heap.size ⟨dc, []⟩ C70 p70 none 0 := TabAt.new (t := ⟨dc, []⟩) 46 hr (Or.inl rfl) rfl
    clear h0 h1 hn hg hr hb hF3 htt3
    by_cases hde : edc = 0
    · subst hde
      obtain ⟨_, _, hm0, _⟩ := del_cells hzdc.out.2
      have hdk := del_keys hzdc.out.2
      rw [hzdc.out.1] at hm0 hdk
      have hm0H : Hid (mergeE t ⟨dc, []⟩ = 0) := hm0
      obtain ⟨x0, x1, x2, x3, x4, x5, xlt, xrow, xrowC⟩ := (show TabAt _ _ _ _ _ _ _ from htt70)
      obtain ⟨y0, y1, y2, y3, y4, y5, ylt, yrow, yrowC⟩ := (show TabAt _ _ _ _ _ _ _ from htd70)
      have hm := merge_new t ⟨dc, []⟩ C2 C70 D2 none p2 p70 q2 0 _ hft.out.1 hfdc.out hft.out.2 (show 0 ≤ maxLen by decide) hnt.out hndc.out xrow yrow xrowC yrowC
      have hmH : Hid _ := hm
      clear hm xlt ylt xrow yrow xrowC yrowC hm0
      go_wp2_with fail
      refine Calls.mono (show Calls _ _ _ _ _ from hmH.out) ?_
      rintro e u71 ⟨C71, p71, D71, q71, rfl, hr, hd, hn, -, -, -, hb⟩
      clear hmH x0 x1 x2 x3 x4 x5 y0 y1 y2 y3 y4 y5
      have hzt : errT (mergeT t ⟨dc, []⟩) = 0 := errT_merge hm0H.out
      obtain ⟨z, h0⟩ : ∃ t', mergeT t ⟨dc, []⟩ = t' := ⟨_, rfl⟩
      rw [h0] at hr hd hzt hdk ⊢
      rw [hm0H.out]
      have hdkH : Hid ((onceL (keysOf z.e)).length + 1 = (onceL (keysOf t.e)).length ∧ key ∉ onceL (keysOf z.e)) := hdk
      have hztH : Hid (errT z = 0) := hzt
      have hg : Gr u71 (u71.alloc (.cells #[.int .i64 z.c.c0, .int .i64 z.c.c1, .int .i64 z.c.c2, .int .i64 z.c.c3, .slice C71 z.c.l.length p71, .slice D71 z.e.length q71] 46)) := (Gr.refl _).alloc _
      have hF71 := (hF70.below hb).gr hg
      have htt71 := (htt70.below hb).gr hg
      have htz71 : TabAt (u71.alloc (.cells #[.int .i64 z.c.c0, .int .i64 z.c.c1, .int .i64 z.c.c2, .int .i64 z.c.c3, .slice C71 z.c.l.length p71, .slice D71 z.e.length q71] 46)) u71.heap.size z C71 p71 D71 q71 := TabAt.new 46 hr hd rfl
      clear h0 hn hg hr hd hb hF70 htt70 htd70 hdk hzt
      go_upto_region 15 with fail
      generalize (u71.alloc (.cells #[.int .i64 z.c.c0, .int .i64 z.c.c1, .int .i64 z.c.c2, .int .i64 z.c.c3, .slice C71 z.c.l.length p71, .slice D71 z.e.length q71] 46)) = Y at hF71 htt71 htz71 ⊢
      obtain ⟨Kz, hKz⟩ : ∃ K, onceL (keysOf z.e) = K := ⟨_, rfl⟩
      obtain ⟨Kt, hKt⟩ : ∃ K, onceL (keysOf t.e) = K := ⟨_, rfl⟩
      rw [hKz, hKt] at hdkH
      have hKl : Hid (Kz.length ≤ maxLen ∧ (Kt.length : Int) - 1 = (Kz.length : Int)) := ⟨by rw [← hKz]; exact (onceL_max _ (Nat.le_trans (keysOf_len _) (errT_parts hztH.out).2.1)).2, by have := hdkH.out.1; omega⟩
      have hkz : Hid (∀ W, Below Y.heap.size Y W → Calls Try.prog 27 #[.agg #[.int .i64 z.c.c0, .int .i64 z.c.c1, .int .i64 z.c.c2, .int .i64 z.c.c3, .slice C71 z.c.l.length p71, .slice D71 z.e.length q71]] W fun e w' => ∃ C cp, e = .returned (.slice C Kz.length cp) ∧ RowI w' C Kz ∧ Below W.heap.size W w') := fun W hb => by rw [← hKz]; exact keys_any z C71 p71 D71 q71 W (small_ok hztH.out) (htz71.below hb).row (htz71.below hb).rowC
      have hkt : Hid (∀ W, Below Y.heap.size Y W → Calls Try.prog 27 #[.agg #[.int .i64 t.c.c0, .int .i64 t.c.c1, .int .i64 t.c.c2, .int .i64 t.c.c3, .slice C2 t.c.l.length p2, .slice D2 t.e.length q2]] W fun e w' => ∃ C cp, e = .returned (.slice C Kt.length cp) ∧ RowI w' C Kt ∧ Below W.heap.size W w') := fun W hb => by rw [← hKt]; exact keys_any t C2 p2 D2 q2 W (small_ok hteH.out) (htt71.below hb).row (htt71.below hb).rowC
      have hKeep : Hid (∀ w' : World, Below Y.heap.size Y w' → (fun w' => w'.cell? ⟨u2.heap.size, 0, none⟩ = some (.int .i64 t.c.c0) ∧ w'.cell? ⟨u2.heap.size, 1, none⟩ = some (.int .i64 t.c.c1) ∧ w'.cell? ⟨u2.heap.size, 2, none⟩ = some (.int .i64 t.c.c2) ∧ w'.cell? ⟨u2.heap.size, 3, none⟩ = some (.int .i64 t.c.c3) ∧ w'.cell? ⟨u2.heap.size, 4, none⟩ = some (.slice C2 t.c.l.length p2) ∧ w'.cell? ⟨u2.heap.size, 5, none⟩ = some (.slice D2 t.e.length q2) ∧ w'.cell? ⟨u71.heap.size, 0, none⟩ = some (.int .i64 z.c.c0) ∧ w'.cell? ⟨u71.heap.size, 1, none⟩ = some (.int .i64 z.c.c1) ∧ w'.cell? ⟨u71.heap.size, 2, none⟩ = some (.int .i64 z.c.c2) ∧ w'.cell? ⟨u71.heap.size, 3, none⟩ = some (.int .i64 z.c.c3) ∧ w'.cell? ⟨u71.heap.size, 4, none⟩ = some (.slice C71 z.c.l.length p71) ∧ w'.cell? ⟨u71.heap.size, 5, none⟩ = some (.slice D71 z.e.length q71)) w') := fun w' hb => by
        have h1 := htt71.below hb
        have h2 := htz71.below hb
        exact ⟨h1.k0, h1.k1, h1.k2, h1.k3, h1.k4, h1.k5, h2.k0, h2.k1, h2.k2, h2.k3, h2.k4, h2.k5⟩
      have hco : hasI Kz key = false := by unfold hasI; exact decide_eq_false hdkH.out.2
      have hco' : Hid (hasI Kz key = false) := hco
      have hsub : (Kt.length : Int) - 1 = (Kz.length : Int) := hKl.out.2
      have hKtl : (Kt.length : Int) ≤ 401 ∧ 0 ≤ (Kt.length : Int) := ⟨by have h := onceL_len (keysOf t.e); rw [hKt] at h; have h2 := keysOf_len t.e; have h3 := (errT_parts hteH.out).2.1; omega, by omega⟩
      have hwr : IntKind.i64.wrap (Kz.length : Int) = (Kz.length : Int) := by have h1 := hKtl.1; have h2 := hsub; rw [IntKind.wrap_i64]; omega
      have hbd : Below Y.heap.size Y Y.drew := (Below.refl _ _).drew
      have hbwH : Hid (Below w.heap.size w Y) := hF71.hw
      clear hF71 htt71 htz71 hKz hKt hco
      go_region_held3 (fun w' => w'.cell? ⟨u2.heap.size, 0, none⟩ = some (.int .i64 t.c.c0) ∧ w'.cell? ⟨u2.heap.size, 1, none⟩ = some (.int .i64 t.c.c1) ∧ w'.cell? ⟨u2.heap.size, 2, none⟩ = some (.int .i64 t.c.c2) ∧ w'.cell? ⟨u2.heap.size, 3, none⟩ = some (.int .i64 t.c.c3) ∧ w'.cell? ⟨u2.heap.size, 4, none⟩ = some (.slice C2 t.c.l.length p2) ∧ w'.cell? ⟨u2.heap.size, 5, none⟩ = some (.slice D2 t.e.length q2) ∧ w'.cell? ⟨u71.heap.size, 0, none⟩ = some (.int .i64 z.c.c0) ∧ w'.cell? ⟨u71.heap.size, 1, none⟩ = some (.int .i64 z.c.c1) ∧ w'.cell? ⟨u71.heap.size, 2, none⟩ = some (.int .i64 z.c.c2) ∧ w'.cell? ⟨u71.heap.size, 3, none⟩ = some (.int .i64 z.c.c3) ∧ w'.cell? ⟨u71.heap.size, 4, none⟩ = some (.slice C71 z.c.l.length p71) ∧ w'.cell? ⟨u71.heap.size, 5, none⟩ = some (.slice D71 z.e.length q71)) (first | with_reducible exact hKeep.out _ hbd | with_reducible exact hKeep.out _ hk1.out | with_reducible exact hKeep.out _ hk2.out | with_reducible exact hKeep.out _ hk3.out | with_reducible exact hKeep.out _ hk4.out)
        (first
          | (go_at_call 27; (with_reducible refine Calls.mono (show Calls _ _ _ _ _ from hkt.out _ hk3.out) ?_); rintro e x4 ⟨Q4, r4, rfl, hq, hg⟩; have hk4 : Hid (Below Y.heap.size Y x4) := hk3.out.trans (hg.mono hk3.out.size); clear hg hq)
          | (go_at_call 27; (with_reducible refine Calls.mono (show Calls _ _ _ _ _ from hkz.out _ hk2.out) ?_); rintro e x3 ⟨Q3, r3, rfl, hq, hg⟩; have hk3 : Hid (Below Y.heap.size Y x3) := hk2.out.trans (hg.mono hk2.out.size); clear hg hq)
          | (go_at_call 27; (with_reducible refine Calls.mono (show Calls _ _ _ _ _ from hkz.out _ hbd) ?_); rintro e x1 ⟨Q1, r1, rfl, hq, hg⟩; have hq1 : Hid (RowI x1 Q1 Kz) := hq; have hk1 : Hid (Below Y.heap.size Y x1) := hbd.trans (hg.mono hbd.size); clear hg hq)
          | (go_at_call 26; (with_reducible refine Calls.mono (show Calls _ _ _ _ _ from containsI_any Kz Q1 r1 key _ hKl.out.1 hq1.out) ?_); rintro e x2 ⟨rfl, hg⟩; rw [hco'.out]; have hk2 : Hid (Below Y.heap.size Y x2) := hk1.out.trans (hg.below.mono hk1.out.size); clear hg))
      go_wp2
      go_ret
      exact ⟨by simp, hbwH.out.trans (hk4.out.mono hbwH.out.size)⟩
    · have hdeb : (edc != 0) = true := by simpa using hde
      have hno := del_no hteH.out (by rw [hzdc.out.2]; exact hde : delE t key ≠ 0)
      obtain ⟨Kt, hKt⟩ : ∃ K, onceL (keysOf t.e) = K := ⟨_, rfl⟩
      have hKl : Hid (Kt.length ≤ maxLen ∧ hasI Kt key = false) := ⟨by rw [← hKt]; exact (onceL_max _ (Nat.le_trans (keysOf_len _) (errT_parts hteH.out).2.1)).2, by unfold hasI; rw [← hKt]; exact decide_eq_false fun k => hno (((once_good _).2 key).1 k)⟩
      obtain ⟨x0, x1, x2, x3, x4, x5, xlt, xrow, xrowC⟩ := (show TabAt _ _ _ _ _ _ _ from htt70)
      have hk := keys_any t C2 p2 D2 q2 _ (small_ok hteH.out) xrow xrowC
      rw [hKt] at hk
      have hkH : Hid _ := hk
      have hbwH : Hid (BW w _) := hF70
      clear hk xlt xrow xrowC hde hno hKt htt70 htd70 hF70
      go_wp2_with fail
      refine Calls.mono (show Calls _ _ _ _ _ from hkH.out) ?_
      rintro e xa ⟨Q1, r1, rfl, hq, hg1⟩
      clear hkH x0 x1 x2 x3 x4 x5
      have hc := containsI_any Kt Q1 r1 key xa hKl.out.1 hq
      rw [hKl.out.2] at hc
      have hcH : Hid _ := hc
      clear hc
      go_wp2_with fail
      refine Calls.mono (show Calls _ _ _ _ _ from hcH.out) ?_
      rintro e xb ⟨rfl, hg2⟩
      clear hcH
      go_wp2
      go_ret
      exact ⟨rfl, ((hbwH.out.below hg1).gr hg2).hw⟩

end

open Go.ChangeShapes Go.WideShapes Go.ChangeAt Go.RowKit Go.Deep

set_option maxRecDepth 100000 in
theorem open_edi {H : Type} {enc : TypeId × Value → H} {W : World} {fuel : Nat} {cs : List Value} {x : DataW H × List MemPlace} (hl : cs.length = 5) (h : DataW.trod enc Try.prog W 0 (fun _ => true) true fuel 72 cs = some x) : ∃ y : Cel, cs = encC y := by
  match cs, hl with
  | [v0, v1, v2, v3, v4], _ =>
    obtain ⟨xs, n, _, _, _, hxl, hf⟩ := DataW.trod_struct Try.underlying72 h
    have c1 : Try.prog.cellsOf 3 = 1 := by kernel_rfl
    have hx5 : xs.length = 5 := hxl
    match xs, hx5 with
    | [y0, y1, y2, y3, y4], _ =>
      have g0 := hf 0 _ rfl
      have g1 := hf 1 _ rfl
      have g2 := hf 2 _ rfl
      have g3 := hf 3 _ rfl
      have g4 := hf 4 _ rfl
      simp [c1] at g0 g1 g2 g3 g4
      obtain ⟨z0, e0, _⟩ := DataW.trod_int Try.underlying3 g0
      obtain ⟨z1, e1, _⟩ := DataW.trod_int Try.underlying3 g1
      obtain ⟨z2, e2, _⟩ := DataW.trod_int Try.underlying3 g2
      obtain ⟨z3, e3, _⟩ := DataW.trod_int Try.underlying3 g3
      obtain ⟨z4, e4, _⟩ := DataW.trod_int Try.underlying3 g4
      simp only [List.cons.injEq, and_true] at e0 e1 e2 e3 e4
      exact ⟨((z0, z1), z2, z3, z4), by rw [e0, e1, e2, e3, e4]; rfl⟩

set_option maxRecDepth 100000 in
theorem open_edits {H : Type} {enc : TypeId × Value → H} {W : World} {r : Reach} {b0 : Nat} {v : Value} {d : DataW H} {p : List MemPlace} (hv : Value.okWide Try.prog W r b0 53 v) (h : DataW.Trod enc Try.prog W 0 (fun _ => true) true 53 v d p) :
    ∃ A cap l, v = .slice A (l : List Cel).length cap ∧ l.length ≤ cap ∧ RowC W A l ∧ l.length ≤ maxLen := by
  obtain ⟨aL, lenL, capL, rfl⟩ := okWide_slice Try.underlying53 hv
  obtain ⟨fuel, hf⟩ := h
  rcases open_slice Try.underlying53 hf with ⟨hcs, _⟩ | ⟨a, len, cap, m, n, D, Pl, hcs, _, hl, hm, hmm, hx, hi⟩
  · simp [Value.cells] at hcs
    obtain ⟨rfl, rfl, rfl⟩ := hcs
    exact ⟨none, 0, [], rfl, by simp, Or.inl rfl, by simp⟩
  · simp [Value.cells] at hcs
    obtain ⟨rfl, rfl, rfl⟩ := hcs
    have c5 : Try.prog.cellsOf 72 = 5 := by kernel_rfl
    have hlm : lenL ≤ m := by rw [hmm]; simp; exact hl
    obtain ⟨Z, hZ⟩ := choose_lt (α := Cel) (n := lenL) (p := fun i z => ∀ j, j < 5 → W.cell? (a.add (i * 5 + j)) = (encC z)[j]?) (fun i hi' => by
      obtain ⟨cs', h1, h2⟩ := hi i (by omega)
      rw [c5] at h1
      obtain ⟨_, hlen, hcell⟩ := World.cells?_some h1
      obtain ⟨y, hy⟩ := open_edi hlen h2
      refine ⟨y, fun j hj => ?_⟩
      have := hcell j (by omega)
      rw [add_add] at this
      rw [this, ← hy, List.getElem?_eq_getElem (by omega)])
    refine ⟨some a, capL, (List.range lenL).map Z, by simp, by simpa using hl, ?_, by simp; omega⟩
    by_cases h0 : lenL = 0
    · exact Or.inl (by rw [h0]; rfl)
    · have hc0 := hZ 0 (by omega) 0 (by omega)
      obtain ⟨b, off, spot⟩ := a
      have hc1 : W.cell? (Addr.add ⟨b, off, spot⟩ (0 * 5 + 0)) = some (.int .i64 (Z 0).1.1) := hc0
      have hspot : spot = none := by simpa [Addr.add] using World.cell?_spot hc1
      subst hspot
      refine Or.inr ⟨b, off, rfl, ?_, fun j hj i hi5 => ?_⟩
      · have := World.block_lt_of_cell? W _ hc1
        simpa [Addr.add_lit] using this
      · have hj' : j < lenL := by simpa using hj
        have := hZ j hj' i hi5
        simp only [Addr.add_lit, ← Nat.add_assoc] at this
        simpa using this

set_option maxRecDepth 100000 in
theorem tableEdits_lifted (os : Os) (started : os.Started) (H : Type) (enc : TypeId × Value → H) :
    ReturnsInHanded {} Try.checked os 6 .any (Rows.tableEditsSpec.pre6 enc Try.prog Try.f6 Rows.tableEditsRow.domain false) (Rows.tableEditsSpec.post enc Try.prog Try.f6 false true false false) := by
  refine returnsInHanded_of_change (C := Try.checked) ownK started (by kernel_rfl) Try.func6
    (ChangeSpec.witness6 (enc := enc) (C := Try.checked) false ⟨#[], #[.slice none 0 0, .int .i64 0, .int .i64 0, .int .i64 0, .int .i64 0, .int .i64 0], []⟩ 8 (by kernel_rfl) (by kernel_rfl) (by kernel_rfl) (by kernel_rfl)) ?_
  intro W base args ds gs before hval0 hW hcnd _
  have hval : ∀ (j : Nat) t v, Try.f6.params[j]? = some t → args[j]? = some v → Value.okWide Try.prog W .any base t v := hval0
  have hW' := hW
  obtain ⟨p, q, hA0, hV, rfl, hfz, hnd⟩ := hW
  have hA : DataW.TrodAll enc Try.prog W 0 (fun _ => true) true Try.f6.params.toList args.toList ds p := hA0
  rw [Try.params6] at hA hval
  obtain ⟨v0, vs0, d0, ds0, p0, q0, hargs, rfl, rfl, h0, r0⟩ := trodAll_cons hA
  obtain ⟨v1, vs1, d1, ds1, p1, q1, rfl, rfl, rfl, h1, r1⟩ := trodAll_cons r0
  obtain ⟨v2, vs2, d2, ds2, p2, q2, rfl, rfl, rfl, h2, r2⟩ := trodAll_cons r1
  obtain ⟨v3, vs3, d3, ds3, p3, q3, rfl, rfl, rfl, h3, r3⟩ := trodAll_cons r2
  obtain ⟨v4, vs4, d4, ds4, p4, q4, rfl, rfl, rfl, h4, r4⟩ := trodAll_cons r3
  obtain ⟨v5, vs5, d5, ds5, p5, q5, rfl, rfl, rfl, h5, r5⟩ := trodAll_cons r4
  obtain ⟨rfl, rfl, rfl⟩ := trodAll_nil r5
  obtain rfl : args = #[v0, v1, v2, v3, v4, v5] := by cases args; simp_all
  obtain ⟨rfl, rfl⟩ := trodVars_none hV
  have lt0 : ∀ x ∈ p0, x.block < W.heap.size := by obtain ⟨m, hm⟩ := h0; exact DataW.trod_lt m _ _ _ hm
  have k0 := h0
  have lt1 : ∀ x ∈ p1, x.block < W.heap.size := by obtain ⟨m, hm⟩ := h1; exact DataW.trod_lt m _ _ _ hm
  have k1 := h1
  have lt2 : ∀ x ∈ p2, x.block < W.heap.size := by obtain ⟨m, hm⟩ := h2; exact DataW.trod_lt m _ _ _ hm
  have k2 := h2
  have lt3 : ∀ x ∈ p3, x.block < W.heap.size := by obtain ⟨m, hm⟩ := h3; exact DataW.trod_lt m _ _ _ hm
  have k3 := h3
  have lt4 : ∀ x ∈ p4, x.block < W.heap.size := by obtain ⟨m, hm⟩ := h4; exact DataW.trod_lt m _ _ _ hm
  have k4 := h4
  have lt5 : ∀ x ∈ p5, x.block < W.heap.size := by obtain ⟨m, hm⟩ := h5; exact DataW.trod_lt m _ _ _ hm
  have k5 := h5
  obtain ⟨L, cl, l, rfl, hcl, hrl, hll⟩ := open_edits (hval 0 53 v0 rfl rfl) h0
  obtain ⟨n1, rfl, rfl, rfl, w1⟩ := open_int Try.underlying3 (hval 1 3 v1 rfl rfl) h1
  obtain ⟨n2, rfl, rfl, rfl, w2⟩ := open_int Try.underlying3 (hval 2 3 v2 rfl rfl) h2
  obtain ⟨n3, rfl, rfl, rfl, w3⟩ := open_int Try.underlying3 (hval 3 3 v3 rfl rfl) h3
  obtain ⟨n4, rfl, rfl, rfl, w4⟩ := open_int Try.underlying3 (hval 4 3 v4 rfl rfl) h4
  obtain ⟨n5, rfl, rfl, rfl, w5⟩ := open_int Try.underlying3 (hval 5 3 v5 rfl rfl) h5
  clear hA0 hval0
  refine (tableEdits_any l L cl n1 n2 n3 n4 n5 W hll hcl hrl).mono fun e W' ⟨he, bel⟩ => ?_
  subst he
  exact ⟨_, rfl, _, _, _, [], _, [], hW', trodAll_mk1 (shut_bool Try.underlying4 _),
    (trodAll_cons_mk (Below.trod laidAll (by kernel_rfl) (of_decide_eq_true (by kernel_rfl)) k0 bel lt0) (trodAll_cons_mk (Below.trod laidAll (by kernel_rfl) (of_decide_eq_true (by kernel_rfl)) k1 bel lt1) (trodAll_cons_mk (Below.trod laidAll (by kernel_rfl) (of_decide_eq_true (by kernel_rfl)) k2 bel lt2) (trodAll_cons_mk (Below.trod laidAll (by kernel_rfl) (of_decide_eq_true (by kernel_rfl)) k3 bel lt3) (trodAll_cons_mk (Below.trod laidAll (by kernel_rfl) (of_decide_eq_true (by kernel_rfl)) k4 bel lt4) (trodAll_cons_mk (Below.trod laidAll (by kernel_rfl) (of_decide_eq_true (by kernel_rfl)) k5 bel lt5) trodAll_mk0)))))), rfl, bel.frame _, fun h => by cases h⟩

theorem tableEdits_holds : Rows.TableEditsSaid :=
  OpenClaim.holds_of_wide 6 Try.f6 rfl rfl rfl rfl rfl rfl rfl ⟨rfl, rfl, rfl, rfl, rfl⟩ rfl rfl rfl rfl rfl (by kernel_rfl) Try.func6 (by kernel_rfl)
    (of_decide_eq_true (by kernel_rfl)) (by unfold Func.isWrapper; first | (rw [if_pos (by decide +kernel)]; kernel_rfl) | (rw [if_neg (by decide +kernel)]; exact ⟨rfl, rfl⟩))
    (fun os started H enc _ => tableEdits_lifted os started H enc)

#print axioms tableEdits_holds
end Go.Proofs.Ytjgefnipkaecgab
