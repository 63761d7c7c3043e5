/-
  (*Node).Whole: the packet of both tables, in memory of its own.
  What is handed in, opened: a slice of cells, a table.
  What is handed in, opened: a list of steps.
-/
import Derived.Test.YtmoicbmhjmdgdaaGreatM39
import Derived.Test.YtmoicbmhjmdgdaaGreatM43
import Derived.Deep.RegionHeld3
import Derived.Test.YtmoicbmhjmdgdaaGreatM19
import Derived.Test.YtmoicbmhjmdgdaaGreatM02
import Derived.SizedLaws
import Derived.Test.YtmoicbmhjmdgdaaGreatM22
namespace Go.Proofs.YtmoicbmhjmdgdaaGreat
open Go.RowKit Go.Sort

theorem own_agr {w w' : World} {base : Nat} {e : TypeId} {k : Nat} {v : Value} {n : Nat} {l : List Value} (h : w.ownsRow base e k v n l) (hA : Agr (fun b => base ≤ b) w w') : w'.ownsRow base e k v n l := by
 refine ⟨h.1, ?_⟩
 rcases h.2 with h1 | ⟨g, cap, cur, hv, hb, hc, rest⟩
 ·exact Or.inl h1
 ·exact Or.inr ⟨g, cap, cur, hv, hb, (hA.block g hb (Array.getElem?_eq_some_iff.1 hc).1).trans hc, rest⟩
set_option maxRecDepth 100000 in
set_option maxHeartbeats 4000000 in
theorem whole_any {w : World} {N : Nat} {P : Nat → Prop} {id : Int} {s t : Tab} {qs : List (List Stp)} (h : Nd w N P id s t qs) :
  Calls Tryz.prog 10 #[.pointer (some ⟨N, 0, none⟩)] w fun e w' => ∃ (EA : Option Addr) (eca : Nat) (EC : Option Addr) (ecc : Nat) (EB : Option Addr) (ecb : Nat) (ED : Option Addr) (ecd : Nat), e = .returned (.agg #[.int .i64 s.c.c0, .int .i64 s.c.c1, .int .i64 s.c.c2, .int .i64 s.c.c3, .slice EA s.c.l.length eca, .slice EC s.e.length ecc, .int .i64 t.c.c0, .int .i64 t.c.c1, .int .i64 t.c.c2, .int .i64 t.c.c3, .slice EB t.c.l.length ecb, .slice ED t.e.length ecd]) ∧ (Own w' w.heap.size (.slice EA s.c.l.length eca) s.c.l ∧ OwnC w' w.heap.size (.slice EC s.e.length ecc) s.e) ∧ (Own w' w.heap.size (.slice EB t.c.l.length ecb) t.c.l ∧ OwnC w' w.heap.size (.slice ED t.e.length ecd) t.e) ∧ Below w.heap.size w w' := by
 have mixed : Tryz.prog.follows .mixedOrders = true := by kernel_rfl
 obtain ⟨A, ca, C, cc, hcs, hts⟩ := h.ts
 obtain ⟨B, cb, D, cd, hct, htt⟩ := h.tt
 have hx0 := idxT0 (.int .i64 s.c.c0) (.int .i64 s.c.c1) (.int .i64 s.c.c2) (.int .i64 s.c.c3) (.slice A s.c.l.length ca) (.slice C s.e.length cc) (.int .i64 t.c.c0) (.int .i64 t.c.c1) (.int .i64 t.c.c2) (.int .i64 t.c.c3) (.slice B t.c.l.length cb) (.slice D t.e.length cd)
 have hx1 := idxT1 (.int .i64 s.c.c0) (.int .i64 s.c.c1) (.int .i64 s.c.c2) (.int .i64 s.c.c3) (.slice A s.c.l.length ca) (.slice C s.e.length cc) (.int .i64 t.c.c0) (.int .i64 t.c.c1) (.int .i64 t.c.c2) (.int .i64 t.c.c3) (.slice B t.c.l.length cb) (.slice D t.e.length cd)
 have n1 := hcs.k0
 have n2 := hcs.k1
 have n3 := hcs.k2
 have n4 := hcs.k3
 have n5 := hcs.k4
 have n6 := hcs.k5
 have n7 := hct.k0
 have n8 := hct.k1
 have n9 := hct.k2
 have n10 := hct.k3
 have n11 := hct.k4
 have n12 := hct.k5
 have hH : Hid (TbP P w s A ca C cc ∧ TbP P w t B cb D cd ∧ True) := ⟨hts, htt, trivial⟩
 have hltN : N < w.heap.size := h.blk.lt
 have hltM : N < w.heap.size + 1 := by omega
 clear h hts htt hcs hct
 go_enter Tryz.func10, Tryz.ntmps10
 go_wp2
 obtain ⟨w1, hw1⟩ : ∃ W, (w.alloc (.cells #[.int .i64 0, .int .i64 0, .int .i64 0, .int .i64 0, .slice none 0 0, .slice none 0 0, .int .i64 0, .int .i64 0, .int .i64 0, .int .i64 0, .slice none 0 0, .slice none 0 0] 51)).alloc (.cells #[.int .i64 0, .int .i64 0, .int .i64 0, .int .i64 0, .slice none 0 0, .slice none 0 0, .int .i64 0, .int .i64 0, .int .i64 0, .int .i64 0, .slice none 0 0, .slice none 0 0] 51) = W := ⟨_, rfl⟩
 rw [hw1]
 have hI : Hid (Below w.heap.size w w1 ∧ Cls w1 (w.heap.size + 1) [.int .i64 0, .int .i64 0, .int .i64 0, .int .i64 0, .slice none 0 0, .slice none 0 0, .int .i64 0, .int .i64 0, .int .i64 0, .int .i64 0, .slice none 0 0, .slice none 0 0] ∧ Cls w1 w.heap.size [.int .i64 0, .int .i64 0, .int .i64 0, .int .i64 0, .slice none 0 0, .slice none 0 0, .int .i64 0, .int .i64 0, .int .i64 0, .int .i64 0, .slice none 0 0, .slice none 0 0]) := by
  refine ⟨by rw [← hw1]; exact (((Gr.refl w).alloc _).alloc _).below, ?_, by rw [← hw1]; exact (Cls.new w _ _).gr ((Gr.refl _).alloc _)⟩
  have := Cls.new (w.alloc (.cells #[.int .i64 0, .int .i64 0, .int .i64 0, .int .i64 0, .slice none 0 0, .slice none 0 0, .int .i64 0, .int .i64 0, .int .i64 0, .int .i64 0, .slice none 0 0, .slice none 0 0] 51)) #[.int .i64 0, .int .i64 0, .int .i64 0, .int .i64 0, .slice none 0 0, .slice none 0 0, .int .i64 0, .int .i64 0, .int .i64 0, .int .i64 0, .slice none 0 0, .slice none 0 0] 51
  rw [hw1, show (w.alloc (.cells #[.int .i64 0, .int .i64 0, .int .i64 0, .int .i64 0, .slice none 0 0, .slice none 0 0, .int .i64 0, .int .i64 0, .int .i64 0, .int .i64 0, .slice none 0 0, .slice none 0 0] 51)).heap.size = w.heap.size + 1 by simp] at this
  exact this
 clear hw1 n1 n2 n3 n4 n5 n6 n7 n8 n9 n10 n11 n12
 refine wp_loop_rounds 3 ?_
 rw [rounds_succ]
 go_upto_region 5 with fail
 obtain ⟨wb0, hwb⟩ : ∃ W, w1.alloc (.cells #[.int .i64 s.c.c0, .int .i64 s.c.c1, .int .i64 s.c.c2, .int .i64 s.c.c3, .slice A s.c.l.length ca, .slice C s.e.length cc] 48) = W := ⟨_, rfl⟩
 rw [hwb]
 have hA : Hid (Gr w1 wb0 ∧ Below w.heap.size w wb0 ∧ Cls wb0 w1.heap.size [.int .i64 s.c.c0, .int .i64 s.c.c1, .int .i64 s.c.c2, .int .i64 s.c.c3, .slice A s.c.l.length ca, .slice C s.e.length cc] ∧ Cls wb0 (w.heap.size + 1) [.int .i64 0, .int .i64 0, .int .i64 0, .int .i64 0, .slice none 0 0, .slice none 0 0, .int .i64 0, .int .i64 0, .int .i64 0, .int .i64 0, .slice none 0 0, .slice none 0 0] ∧ Cls wb0 w.heap.size [.int .i64 0, .int .i64 0, .int .i64 0, .int .i64 0, .slice none 0 0, .slice none 0 0, .int .i64 0, .int .i64 0, .int .i64 0, .int .i64 0, .slice none 0 0, .slice none 0 0] ∧ w.heap.size + 1 < w1.heap.size ∧ w1.heap.size < wb0.heap.size) := by
  have hg : Gr w1 wb0 := by rw [← hwb]; exact (Gr.refl _).alloc _
  exact ⟨hg, hI.out.1.trans (hg.below.mono hI.out.1.size), by rw [← hwb]; exact Cls.new w1 _ _, hI.out.2.1.gr hg, hI.out.2.2.gr hg, hI.out.2.1.lt, by rw [← hwb]; simp⟩
 clear hwb
 have hD0 : Hid (Below wb0.heap.size wb0 wb0.drew) := (Gr.refl wb0).drew.below
 have hCc : Hid (∀ W, Below wb0.heap.size wb0 W → Calls Tryz.prog 24 #[.agg #[.int .i64 s.c.c0, .int .i64 s.c.c1, .int .i64 s.c.c2, .int .i64 s.c.c3, .slice A s.c.l.length ca]] W fun e w' => ∃ B cb, e = .returned (.agg #[.int .i64 s.c.c0, .int .i64 s.c.c1, .int .i64 s.c.c2, .int .i64 s.c.c3, .slice B s.c.l.length cb]) ∧ Own w' W.heap.size (.slice B s.c.l.length cb) s.c.l ∧ Below W.heap.size W w') := fun W hW => by
  have hb := hA.out.2.1.trans (hW.mono hA.out.2.1.size)
  have hr := hH.out.1.below hb
  exact copyCtx_any s.c A ca W (errC_parts (errT_parts hr.ok).1).2.1 hr.row hr.nr
 have hCl : Hid (∀ W, Below wb0.heap.size wb0 W → Calls Tryz.prog 25 #[.slice C s.e.length cc] W fun e w' => ∃ C c, e = .returned (.slice C s.e.length c) ∧ OwnC w' W.heap.size (.slice C s.e.length c) s.e ∧ Below W.heap.size W w') := fun W hW => by
  have hb := hA.out.2.1.trans (hW.mono hA.out.2.1.size)
  have hr := hH.out.1.below hb
  have := (errT_parts hr.ok).2.1
  exact cloneC_any s.e C cc W (by omega) hr.cel hr.nc
 have hKc : Hid (∀ W, Cls W w1.heap.size [.int .i64 s.c.c0, .int .i64 s.c.c1, .int .i64 s.c.c2, .int .i64 s.c.c3, .slice A s.c.l.length ca, .slice C s.e.length cc] → (fun w' => w'.cell? ⟨w1.heap.size, 0, none⟩ = some (.int .i64 s.c.c0) ∧ w'.cell? ⟨w1.heap.size, 1, none⟩ = some (.int .i64 s.c.c1) ∧ w'.cell? ⟨w1.heap.size, 2, none⟩ = some (.int .i64 s.c.c2) ∧ w'.cell? ⟨w1.heap.size, 3, none⟩ = some (.int .i64 s.c.c3) ∧ w'.cell? ⟨w1.heap.size, 4, none⟩ = some (.slice A s.c.l.length ca) ∧ w'.cell? ⟨w1.heap.size, 5, none⟩ = some (.slice C s.e.length cc)) W) := fun W hW => ⟨hW.cell (j := 0) rfl, hW.cell (j := 1) rfl, hW.cell (j := 2) rfl, hW.cell (j := 3) rfl, hW.cell (j := 4) rfl, hW.cell (j := 5) rfl⟩
 have hne : Hid (w1.heap.size ≠ w.heap.size + 1) := by have := hA.out.2.2.2.2.2.1; show _ ≠ _; omega
 refine wp_region_noPanic ?_
 refine wp_region_held_drew (S := (fun w' => w'.cell? ⟨w1.heap.size, 0, none⟩ = some (.int .i64 s.c.c0) ∧ w'.cell? ⟨w1.heap.size, 1, none⟩ = some (.int .i64 s.c.c1) ∧ w'.cell? ⟨w1.heap.size, 2, none⟩ = some (.int .i64 s.c.c2) ∧ w'.cell? ⟨w1.heap.size, 3, none⟩ = some (.int .i64 s.c.c3) ∧ w'.cell? ⟨w1.heap.size, 4, none⟩ = some (.slice A s.c.l.length ca) ∧ w'.cell? ⟨w1.heap.size, 5, none⟩ = some (.slice C s.e.length cc))) (by kernel_rfl) (hKc.out _ (hA.out.2.2.1.below hD0.out)) (fun hHeld => ?_)
 refine wpAnyH_take (i := 0) (oi := ?ois01) (v := ?vs01) ?hops01 ?hss01 ?hfs01 ?hrs01 ?hQs01 ?hys01 (by assumption) ?rests01
 case hops01 => (simp only [List.getElem?_toArray, List.getElem?_cons_zero]; rfl)
 case hss01 => kernel_rfl
 case hfs01 => kernel_rfl
 case hrs01 => kernel_rfl
 case hQs01 => exact fun _ _ _ h => h
 case hys01 => (refine Or.inl ⟨by rfl, ?_⟩; intro w hSw; (try dsimp only at hSw); go_simp <;> with_reducible rfl)
 try simp only [Act.put, List.setIfInBounds_toArray, List.set_cons_zero, List.set_cons_succ]
 refine wpAnyH_take (i := 1) (oi := ?ois02) (v := ?vs02) ?hops02 ?hss02 ?hfs02 ?hrs02 ?hQs02 ?hys02 (by assumption) ?rests02
 case hops02 => (simp only [List.getElem?_toArray, List.getElem?_cons_zero, List.getElem?_cons_succ]; rfl)
 case hss02 => kernel_rfl
 case hfs02 => kernel_rfl
 case hrs02 => kernel_rfl
 case hQs02 => exact fun _ _ _ h => h
 case hys02 => (refine Or.inl ⟨by rfl, ?_⟩; intro w hSw; (try dsimp only at hSw); go_simp <;> with_reducible rfl)
 try simp only [Act.put, List.setIfInBounds_toArray, List.set_cons_zero, List.set_cons_succ]
 refine wpAnyH_take (i := 2) (oi := ?ois03) (v := ?vs03) ?hops03 ?hss03 ?hfs03 ?hrs03 ?hQs03 ?hys03 (by assumption) ?rests03
 case hops03 => (simp only [List.getElem?_toArray, List.getElem?_cons_zero, List.getElem?_cons_succ]; rfl)
 case hss03 => kernel_rfl
 case hfs03 => kernel_rfl
 case hrs03 => kernel_rfl
 case hQs03 => exact fun _ _ _ h => h
 case hys03 => (refine Or.inl ⟨by rfl, ?_⟩; intro w hSw; (try dsimp only at hSw); go_simp <;> with_reducible rfl)
 try simp only [Act.put, List.setIfInBounds_toArray, List.set_cons_zero, List.set_cons_succ]
 refine wpAnyH_take (i := 4) (oi := ?ois04) (v := ?vs04) ?hops04 ?hss04 ?hfs04 ?hrs04 ?hQs04 ?hys04 (by assumption) ?rests04
 case hops04 => (simp only [List.getElem?_toArray, List.getElem?_cons_zero, List.getElem?_cons_succ]; rfl)
 case hss04 => kernel_rfl
 case hfs04 => kernel_rfl
 case hrs04 => kernel_rfl
 case hQs04 => exact fun _ _ _ h => h
 case hys04 => (refine Or.inl ⟨by rfl, ?_⟩; intro w hSw; (try dsimp only at hSw); go_simp <;> with_reducible rfl)
 try simp only [Act.put, List.setIfInBounds_toArray, List.set_cons_zero, List.set_cons_succ]
 refine wpAnyH_take (i := 5) (oi := ?ois05) (v := ?vs05) ?hops05 ?hss05 ?hfs05 ?hrs05 ?hQs05 ?hys05 (by assumption) ?rests05
 case hops05 => (simp only [List.getElem?_toArray, List.getElem?_cons_zero, List.getElem?_cons_succ]; rfl)
 case hss05 => kernel_rfl
 case hfs05 => kernel_rfl
 case hrs05 => kernel_rfl
 case hQs05 => exact fun _ _ _ h => h
 case hys05 => (refine Or.inl ⟨by rfl, ?_⟩; intro w hSw; (try dsimp only at hSw); go_simp <;> with_reducible rfl)
 try simp only [Act.put, List.setIfInBounds_toArray, List.set_cons_zero, List.set_cons_succ]
 refine wpAnyH_take (i := 8) (oi := ?ois06) (v := ?vs06) ?hops06 ?hss06 ?hfs06 ?hrs06 ?hQs06 ?hys06 (by assumption) ?rests06
 case hops06 => (simp only [List.getElem?_toArray, List.getElem?_cons_zero, List.getElem?_cons_succ]; rfl)
 case hss06 => kernel_rfl
 case hfs06 => kernel_rfl
 case hrs06 => kernel_rfl
 case hQs06 => exact fun _ _ _ h => h
 case hys06 => (refine Or.inl ⟨by rfl, ?_⟩; intro w hSw; (try dsimp only at hSw); go_simp <;> with_reducible rfl)
 try simp only [Act.put, List.setIfInBounds_toArray, List.set_cons_zero, List.set_cons_succ]
 refine wpAnyH_ready (rs := [3]) (by kernel_rfl) (by simp) ?_
 refine AllReadyH.cons (o := ?ois07) ?hops07 (fun K hK => ?steps07) ?mores07
 case hops07 => (simp only [List.getElem?_toArray, List.getElem?_cons_zero, List.getElem?_cons_succ]; rfl)
 case mores07 => exact AllReadyH.nil
 go_simp
 (go_at_call 24; (with_reducible refine Calls.mono (hCc.out _ hD0.out) ?_); rintro e w2 ⟨EA, eca, rfl, f1, f2⟩; have hF : Hid (Below wb0.heap.size wb0 w2 ∧ Own w2 wb0.heap.size (.slice EA s.c.l.length eca) s.c.l) := ⟨hD0.out.trans (f2.mono hD0.out.size), f1⟩; clear f1 f2)
 first | (go_wp2_with fail) | skip
 refine hK.out _ _ ?_ (fun hHeld => ?_)
 ·(try dsimp only); first | with_reducible exact hKc.out _ (hA.out.2.2.1.below hG.out.1) | with_reducible exact hKc.out _ (hA.out.2.2.1.below hF.out.1) | exact hKc.out _ (((((((hA.out.2.2.1.below hG.out.1).oth hne.out _).oth hne.out _).oth hne.out _).oth hne.out _).oth hne.out _).oth hne.out _)
 clear hK K
 try simp only [Act.put, List.setIfInBounds_toArray, List.set_cons_zero, List.set_cons_succ]
 refine wpAnyH_ready (rs := [6]) (by kernel_rfl) (by simp) ?_
 refine AllReadyH.cons (o := ?ois08) ?hops08 (fun K hK => ?steps08) ?mores08
 case hops08 => (simp only [List.getElem?_toArray, List.getElem?_cons_zero, List.getElem?_cons_succ]; rfl)
 case mores08 => exact AllReadyH.nil
 go_simp
 (go_at_call 25; (with_reducible refine Calls.mono (hCl.out _ hF.out.1) ?_); rintro e w3 ⟨EC, ecc, rfl, f1, f2⟩; have hG : Hid (Below wb0.heap.size wb0 w3 ∧ Own w3 wb0.heap.size (.slice EA s.c.l.length eca) s.c.l ∧ OwnC w3 wb0.heap.size (.slice EC s.e.length ecc) s.e) := ⟨hF.out.1.trans (f2.mono hF.out.1.size), hF.out.2.below f2, f1.mono hF.out.1.size⟩; clear f1 f2; have p0 := (hA.out.2.2.2.1.below hG.out.1).cell (j := 0) rfl; have z0 := (hA.out.2.2.2.1.below hG.out.1).fz 0; have p1 := (hA.out.2.2.2.1.below hG.out.1).cell (j := 1) rfl; have z1 := (hA.out.2.2.2.1.below hG.out.1).fz 1; have p2 := (hA.out.2.2.2.1.below hG.out.1).cell (j := 2) rfl; have z2 := (hA.out.2.2.2.1.below hG.out.1).fz 2; have p3 := (hA.out.2.2.2.1.below hG.out.1).cell (j := 3) rfl; have z3 := (hA.out.2.2.2.1.below hG.out.1).fz 3; have p4 := (hA.out.2.2.2.1.below hG.out.1).cell (j := 4) rfl; have z4 := (hA.out.2.2.2.1.below hG.out.1).fz 4; have p5 := (hA.out.2.2.2.1.below hG.out.1).cell (j := 5) rfl; have z5 := (hA.out.2.2.2.1.below hG.out.1).fz 5)
 first | (go_wp2_with fail) | skip
 refine hK.out _ _ ?_ (fun hHeld => ?_)
 ·(try dsimp only); first | with_reducible exact hKc.out _ (hA.out.2.2.1.below hG.out.1) | with_reducible exact hKc.out _ (hA.out.2.2.1.below hF.out.1) | exact hKc.out _ (((((((hA.out.2.2.1.below hG.out.1).oth hne.out _).oth hne.out _).oth hne.out _).oth hne.out _).oth hne.out _).oth hne.out _)
 clear hK K
 try simp only [Act.put, List.setIfInBounds_toArray, List.set_cons_zero, List.set_cons_succ]
 refine wpAnyH_take (i := 7) (oi := ?ois09) (v := ?vs09) ?hops09 ?hss09 ?hfs09 ?hrs09 ?hQs09 ?hys09 (by assumption) ?rests09
 case hops09 => (simp only [List.getElem?_toArray, List.getElem?_cons_zero, List.getElem?_cons_succ]; rfl)
 case hss09 => kernel_rfl
 case hfs09 => kernel_rfl
 case hrs09 => kernel_rfl
 case hQs09 => exact fun _ _ _ h => h
 case hys09 => (refine Or.inl ⟨by rfl, ?_⟩; intro w hSw; (try dsimp only at hSw); go_simp <;> with_reducible rfl)
 try simp only [Act.put, List.setIfInBounds_toArray, List.set_cons_zero, List.set_cons_succ]
 refine wpAnyH_take (i := 9) (oi := ?ois010) (v := ?vs010) ?hops010 ?hss010 ?hfs010 ?hrs010 ?hQs010 ?hys010 (by assumption) ?rests010
 case hops010 => (simp only [List.getElem?_toArray, List.getElem?_cons_zero, List.getElem?_cons_succ]; rfl)
 case hss010 => kernel_rfl
 case hfs010 => kernel_rfl
 case hrs010 => kernel_rfl
 case hQs010 => exact fun _ _ _ h => h
 case hys010 => (refine Or.inl ⟨by rfl, ?_⟩; intro w hSw; (try dsimp only at hSw); go_simp <;> with_reducible rfl)
 try simp only [Act.put, List.setIfInBounds_toArray, List.set_cons_zero, List.set_cons_succ]
 refine wpAnyH_ready (rs := [10]) (by kernel_rfl) (by simp) ?_
 refine AllReadyH.cons (o := ?ois011) ?hops011 (fun K hK => ?steps011) ?mores011
 case hops011 => (simp only [List.getElem?_toArray, List.getElem?_cons_zero, List.getElem?_cons_succ]; rfl)
 case mores011 => exact AllReadyH.nil
 go_simp
 refine hK.out _ _ ?_ (fun hHeld => ?_)
 ·(try dsimp only); first | with_reducible exact hKc.out _ (hA.out.2.2.1.below hG.out.1) | with_reducible exact hKc.out _ (hA.out.2.2.1.below hF.out.1) | exact hKc.out _ (((((((hA.out.2.2.1.below hG.out.1).oth hne.out _).oth hne.out _).oth hne.out _).oth hne.out _).oth hne.out _).oth hne.out _)
 clear hK K
 try simp only [Act.put, List.setIfInBounds_toArray, List.set_cons_zero, List.set_cons_succ]
 refine wpAnyH_done (by kernel_rfl) ?_ _
 refine NoPanic.normal ?_
 go_wp2_with fail
 obtain ⟨wd0, hwd⟩ : ∃ W, ((((((w3.setCell ⟨w.heap.size + 1, 0, none⟩ (.int .i64 s.c.c0)).setCell ⟨w.heap.size + 1, 1, none⟩ (.int .i64 s.c.c1)).setCell ⟨w.heap.size + 1, 2, none⟩ (.int .i64 s.c.c2)).setCell ⟨w.heap.size + 1, 3, none⟩ (.int .i64 s.c.c3)).setCell ⟨w.heap.size + 1, 4, none⟩ (.slice EA s.c.l.length eca)).setCell ⟨w.heap.size + 1, 5, none⟩ (.slice EC s.e.length ecc)) = W := ⟨_, rfl⟩
 rw [hwd]
 have hJ : Hid (Below w.heap.size w wd0 ∧ Cls wd0 (w.heap.size + 1) [.int .i64 s.c.c0, .int .i64 s.c.c1, .int .i64 s.c.c2, .int .i64 s.c.c3, .slice EA s.c.l.length eca, .slice EC s.e.length ecc, .int .i64 0, .int .i64 0, .int .i64 0, .int .i64 0, .slice none 0 0, .slice none 0 0] ∧ Cls wd0 w.heap.size [.int .i64 0, .int .i64 0, .int .i64 0, .int .i64 0, .slice none 0 0, .slice none 0 0, .int .i64 0, .int .i64 0, .int .i64 0, .int .i64 0, .slice none 0 0, .slice none 0 0] ∧ Own wd0 wb0.heap.size (.slice EA s.c.l.length eca) s.c.l ∧ OwnC wd0 wb0.heap.size (.slice EC s.e.length ecc) s.e) := by
  have hs1 := hA.out.2.2.2.2.2.1
  have hs2 := hA.out.2.2.2.2.2.2
  have hb3 := hA.out.2.1.trans (hG.out.1.mono hA.out.2.1.size)
  have hge : w.heap.size ≤ w.heap.size + 1 := by omega
  have hnw : w.heap.size ≠ w.heap.size + 1 := by omega
  refine ⟨?_, ?_, ?_, ?_, ?_⟩
  ·rw [← hwd]; exact (((((hb3.setCell hge _).setCell hge _).setCell hge _).setCell hge _).setCell hge _).setCell hge _
  ·rw [← hwd]; exact ((((((hA.out.2.2.2.1.below hG.out.1).put 0 _).put 1 _).put 2 _).put 3 _).put 4 _).put 5 _
  ·rw [← hwd]; exact ((((((hA.out.2.2.2.2.1.below hG.out.1).oth hnw _).oth hnw _).oth hnw _).oth hnw _).oth hnw _).oth hnw _
  ·rw [← hwd]; exact own_agr hG.out.2.1 ((((((Agr.set _ fun h => by omega).trans (Agr.set _ fun h => by omega)).trans (Agr.set _ fun h => by omega)).trans (Agr.set _ fun h => by omega)).trans (Agr.set _ fun h => by omega)).trans (Agr.set _ fun h => by omega))
  ·rw [← hwd]; exact own_agr hG.out.2.2 ((((((Agr.set _ fun h => by omega).trans (Agr.set _ fun h => by omega)).trans (Agr.set _ fun h => by omega)).trans (Agr.set _ fun h => by omega)).trans (Agr.set _ fun h => by omega)).trans (Agr.set _ fun h => by omega))
 clear hwd hG hF hCc hCl hKc hne hD0 hHeld p0 z0 p1 z1 p2 z2 p3 z3 p4 z4 p5 z5
 have hI0 : Hid (Own wd0 wb0.heap.size (.slice EA s.c.l.length eca) s.c.l ∧ OwnC wd0 wb0.heap.size (.slice EC s.e.length ecc) s.e) := ⟨hJ.out.2.2.2.1, hJ.out.2.2.2.2⟩
 have hs0H : Hid (w.heap.size + 1 < wb0.heap.size) := by have h1 := hA.out.2.2.2.2.2.1; have h2 := hA.out.2.2.2.2.2.2; show _ < _; omega
 have hI2 : Hid (Below w.heap.size w wd0 ∧ Cls wd0 (w.heap.size + 1) [.int .i64 s.c.c0, .int .i64 s.c.c1, .int .i64 s.c.c2, .int .i64 s.c.c3, .slice EA s.c.l.length eca, .slice EC s.e.length ecc, .int .i64 0, .int .i64 0, .int .i64 0, .int .i64 0, .slice none 0 0, .slice none 0 0] ∧ Cls wd0 w.heap.size [.int .i64 0, .int .i64 0, .int .i64 0, .int .i64 0, .slice none 0 0, .slice none 0 0, .int .i64 0, .int .i64 0, .int .i64 0, .int .i64 0, .slice none 0 0, .slice none 0 0]) := ⟨hJ.out.1, hJ.out.2.1, hJ.out.2.2.1⟩
 clear hA hI hJ
 have hI := hI2
 clear hI2
 rw [rounds_succ]
 go_upto_region 5 with fail
 obtain ⟨wb1, hwb⟩ : ∃ W, wd0.alloc (.cells #[.int .i64 t.c.c0, .int .i64 t.c.c1, .int .i64 t.c.c2, .int .i64 t.c.c3, .slice B t.c.l.length cb, .slice D t.e.length cd] 48) = W := ⟨_, rfl⟩
 rw [hwb]
 have hA : Hid (Gr wd0 wb1 ∧ Below w.heap.size w wb1 ∧ Cls wb1 wd0.heap.size [.int .i64 t.c.c0, .int .i64 t.c.c1, .int .i64 t.c.c2, .int .i64 t.c.c3, .slice B t.c.l.length cb, .slice D t.e.length cd] ∧ Cls wb1 (w.heap.size + 1) [.int .i64 s.c.c0, .int .i64 s.c.c1, .int .i64 s.c.c2, .int .i64 s.c.c3, .slice EA s.c.l.length eca, .slice EC s.e.length ecc, .int .i64 0, .int .i64 0, .int .i64 0, .int .i64 0, .slice none 0 0, .slice none 0 0] ∧ Cls wb1 w.heap.size [.int .i64 0, .int .i64 0, .int .i64 0, .int .i64 0, .slice none 0 0, .slice none 0 0, .int .i64 0, .int .i64 0, .int .i64 0, .int .i64 0, .slice none 0 0, .slice none 0 0] ∧ w.heap.size + 1 < wd0.heap.size ∧ wd0.heap.size < wb1.heap.size) := by
  have hg : Gr wd0 wb1 := by rw [← hwb]; exact (Gr.refl _).alloc _
  exact ⟨hg, hI.out.1.trans (hg.below.mono hI.out.1.size), by rw [← hwb]; exact Cls.new wd0 _ _, hI.out.2.1.gr hg, hI.out.2.2.gr hg, hI.out.2.1.lt, by rw [← hwb]; simp⟩
 clear hwb
 have hD0 : Hid (Below wb1.heap.size wb1 wb1.drew) := (Gr.refl wb1).drew.below
 have hCc : Hid (∀ W, Below wb1.heap.size wb1 W → Calls Tryz.prog 24 #[.agg #[.int .i64 t.c.c0, .int .i64 t.c.c1, .int .i64 t.c.c2, .int .i64 t.c.c3, .slice B t.c.l.length cb]] W fun e w' => ∃ B cb, e = .returned (.agg #[.int .i64 t.c.c0, .int .i64 t.c.c1, .int .i64 t.c.c2, .int .i64 t.c.c3, .slice B t.c.l.length cb]) ∧ Own w' W.heap.size (.slice B t.c.l.length cb) t.c.l ∧ Below W.heap.size W w') := fun W hW => by
  have hb := hA.out.2.1.trans (hW.mono hA.out.2.1.size)
  have hr := hH.out.2.1.below hb
  exact copyCtx_any t.c B cb W (errC_parts (errT_parts hr.ok).1).2.1 hr.row hr.nr
 have hCl : Hid (∀ W, Below wb1.heap.size wb1 W → Calls Tryz.prog 25 #[.slice D t.e.length cd] W fun e w' => ∃ C c, e = .returned (.slice C t.e.length c) ∧ OwnC w' W.heap.size (.slice C t.e.length c) t.e ∧ Below W.heap.size W w') := fun W hW => by
  have hb := hA.out.2.1.trans (hW.mono hA.out.2.1.size)
  have hr := hH.out.2.1.below hb
  have := (errT_parts hr.ok).2.1
  exact cloneC_any t.e D cd W (by omega) hr.cel hr.nc
 have hKc : Hid (∀ W, Cls W wd0.heap.size [.int .i64 t.c.c0, .int .i64 t.c.c1, .int .i64 t.c.c2, .int .i64 t.c.c3, .slice B t.c.l.length cb, .slice D t.e.length cd] → (fun w' => w'.cell? ⟨wd0.heap.size, 0, none⟩ = some (.int .i64 t.c.c0) ∧ w'.cell? ⟨wd0.heap.size, 1, none⟩ = some (.int .i64 t.c.c1) ∧ w'.cell? ⟨wd0.heap.size, 2, none⟩ = some (.int .i64 t.c.c2) ∧ w'.cell? ⟨wd0.heap.size, 3, none⟩ = some (.int .i64 t.c.c3) ∧ w'.cell? ⟨wd0.heap.size, 4, none⟩ = some (.slice B t.c.l.length cb) ∧ w'.cell? ⟨wd0.heap.size, 5, none⟩ = some (.slice D t.e.length cd)) W) := fun W hW => ⟨hW.cell (j := 0) rfl, hW.cell (j := 1) rfl, hW.cell (j := 2) rfl, hW.cell (j := 3) rfl, hW.cell (j := 4) rfl, hW.cell (j := 5) rfl⟩
 have hne : Hid (wd0.heap.size ≠ w.heap.size + 1) := by have := hA.out.2.2.2.2.2.1; show _ ≠ _; omega
 refine wp_region_noPanic ?_
 refine wp_region_held_drew (S := (fun w' => w'.cell? ⟨wd0.heap.size, 0, none⟩ = some (.int .i64 t.c.c0) ∧ w'.cell? ⟨wd0.heap.size, 1, none⟩ = some (.int .i64 t.c.c1) ∧ w'.cell? ⟨wd0.heap.size, 2, none⟩ = some (.int .i64 t.c.c2) ∧ w'.cell? ⟨wd0.heap.size, 3, none⟩ = some (.int .i64 t.c.c3) ∧ w'.cell? ⟨wd0.heap.size, 4, none⟩ = some (.slice B t.c.l.length cb) ∧ w'.cell? ⟨wd0.heap.size, 5, none⟩ = some (.slice D t.e.length cd))) (by kernel_rfl) (hKc.out _ (hA.out.2.2.1.below hD0.out)) (fun hHeld => ?_)
 refine wpAnyH_take (i := 0) (oi := ?ois11) (v := ?vs11) ?hops11 ?hss11 ?hfs11 ?hrs11 ?hQs11 ?hys11 (by assumption) ?rests11
 case hops11 => (simp only [List.getElem?_toArray, List.getElem?_cons_zero]; rfl)
 case hss11 => kernel_rfl
 case hfs11 => kernel_rfl
 case hrs11 => kernel_rfl
 case hQs11 => exact fun _ _ _ h => h
 case hys11 => (refine Or.inl ⟨by rfl, ?_⟩; intro w hSw; (try dsimp only at hSw); go_simp <;> with_reducible rfl)
 try simp only [Act.put, List.setIfInBounds_toArray, List.set_cons_zero, List.set_cons_succ]
 refine wpAnyH_take (i := 1) (oi := ?ois12) (v := ?vs12) ?hops12 ?hss12 ?hfs12 ?hrs12 ?hQs12 ?hys12 (by assumption) ?rests12
 case hops12 => (simp only [List.getElem?_toArray, List.getElem?_cons_zero, List.getElem?_cons_succ]; rfl)
 case hss12 => kernel_rfl
 case hfs12 => kernel_rfl
 case hrs12 => kernel_rfl
 case hQs12 => exact fun _ _ _ h => h
 case hys12 => (refine Or.inl ⟨by rfl, ?_⟩; intro w hSw; (try dsimp only at hSw); go_simp <;> with_reducible rfl)
 try simp only [Act.put, List.setIfInBounds_toArray, List.set_cons_zero, List.set_cons_succ]
 refine wpAnyH_take (i := 2) (oi := ?ois13) (v := ?vs13) ?hops13 ?hss13 ?hfs13 ?hrs13 ?hQs13 ?hys13 (by assumption) ?rests13
 case hops13 => (simp only [List.getElem?_toArray, List.getElem?_cons_zero, List.getElem?_cons_succ]; rfl)
 case hss13 => kernel_rfl
 case hfs13 => kernel_rfl
 case hrs13 => kernel_rfl
 case hQs13 => exact fun _ _ _ h => h
 case hys13 => (refine Or.inl ⟨by rfl, ?_⟩; intro w hSw; (try dsimp only at hSw); go_simp <;> with_reducible rfl)
 try simp only [Act.put, List.setIfInBounds_toArray, List.set_cons_zero, List.set_cons_succ]
 refine wpAnyH_take (i := 4) (oi := ?ois14) (v := ?vs14) ?hops14 ?hss14 ?hfs14 ?hrs14 ?hQs14 ?hys14 (by assumption) ?rests14
 case hops14 => (simp only [List.getElem?_toArray, List.getElem?_cons_zero, List.getElem?_cons_succ]; rfl)
 case hss14 => kernel_rfl
 case hfs14 => kernel_rfl
 case hrs14 => kernel_rfl
 case hQs14 => exact fun _ _ _ h => h
 case hys14 => (refine Or.inl ⟨by rfl, ?_⟩; intro w hSw; (try dsimp only at hSw); go_simp <;> with_reducible rfl)
 try simp only [Act.put, List.setIfInBounds_toArray, List.set_cons_zero, List.set_cons_succ]
 refine wpAnyH_take (i := 5) (oi := ?ois15) (v := ?vs15) ?hops15 ?hss15 ?hfs15 ?hrs15 ?hQs15 ?hys15 (by assumption) ?rests15
 case hops15 => (simp only [List.getElem?_toArray, List.getElem?_cons_zero, List.getElem?_cons_succ]; rfl)
 case hss15 => kernel_rfl
 case hfs15 => kernel_rfl
 case hrs15 => kernel_rfl
 case hQs15 => exact fun _ _ _ h => h
 case hys15 => (refine Or.inl ⟨by rfl, ?_⟩; intro w hSw; (try dsimp only at hSw); go_simp <;> with_reducible rfl)
 try simp only [Act.put, List.setIfInBounds_toArray, List.set_cons_zero, List.set_cons_succ]
 refine wpAnyH_take (i := 8) (oi := ?ois16) (v := ?vs16) ?hops16 ?hss16 ?hfs16 ?hrs16 ?hQs16 ?hys16 (by assumption) ?rests16
 case hops16 => (simp only [List.getElem?_toArray, List.getElem?_cons_zero, List.getElem?_cons_succ]; rfl)
 case hss16 => kernel_rfl
 case hfs16 => kernel_rfl
 case hrs16 => kernel_rfl
 case hQs16 => exact fun _ _ _ h => h
 case hys16 => (refine Or.inl ⟨by rfl, ?_⟩; intro w hSw; (try dsimp only at hSw); go_simp <;> with_reducible rfl)
 try simp only [Act.put, List.setIfInBounds_toArray, List.set_cons_zero, List.set_cons_succ]
 refine wpAnyH_ready (rs := [3]) (by kernel_rfl) (by simp) ?_
 refine AllReadyH.cons (o := ?ois17) ?hops17 (fun K hK => ?steps17) ?mores17
 case hops17 => (simp only [List.getElem?_toArray, List.getElem?_cons_zero, List.getElem?_cons_succ]; rfl)
 case mores17 => exact AllReadyH.nil
 go_simp
 (go_at_call 24; (with_reducible refine Calls.mono (hCc.out _ hD0.out) ?_); rintro e w2 ⟨EB, ecb, rfl, f1, f2⟩; have hF : Hid (Below wb1.heap.size wb1 w2 ∧ Own w2 wb1.heap.size (.slice EB t.c.l.length ecb) t.c.l) := ⟨hD0.out.trans (f2.mono hD0.out.size), f1⟩; clear f1 f2)
 first | (go_wp2_with fail) | skip
 refine hK.out _ _ ?_ (fun hHeld => ?_)
 ·(try dsimp only); first | with_reducible exact hKc.out _ (hA.out.2.2.1.below hG.out.1) | with_reducible exact hKc.out _ (hA.out.2.2.1.below hF.out.1) | exact hKc.out _ (((((((hA.out.2.2.1.below hG.out.1).oth hne.out _).oth hne.out _).oth hne.out _).oth hne.out _).oth hne.out _).oth hne.out _)
 clear hK K
 try simp only [Act.put, List.setIfInBounds_toArray, List.set_cons_zero, List.set_cons_succ]
 refine wpAnyH_ready (rs := [6]) (by kernel_rfl) (by simp) ?_
 refine AllReadyH.cons (o := ?ois18) ?hops18 (fun K hK => ?steps18) ?mores18
 case hops18 => (simp only [List.getElem?_toArray, List.getElem?_cons_zero, List.getElem?_cons_succ]; rfl)
 case mores18 => exact AllReadyH.nil
 go_simp
 (go_at_call 25; (with_reducible refine Calls.mono (hCl.out _ hF.out.1) ?_); rintro e w3 ⟨ED, ecd, rfl, f1, f2⟩; have hG : Hid (Below wb1.heap.size wb1 w3 ∧ Own w3 wb1.heap.size (.slice EB t.c.l.length ecb) t.c.l ∧ OwnC w3 wb1.heap.size (.slice ED t.e.length ecd) t.e) := ⟨hF.out.1.trans (f2.mono hF.out.1.size), hF.out.2.below f2, f1.mono hF.out.1.size⟩; clear f1 f2; have p6 := (hA.out.2.2.2.1.below hG.out.1).cell (j := 6) rfl; have z6 := (hA.out.2.2.2.1.below hG.out.1).fz 6; have p7 := (hA.out.2.2.2.1.below hG.out.1).cell (j := 7) rfl; have z7 := (hA.out.2.2.2.1.below hG.out.1).fz 7; have p8 := (hA.out.2.2.2.1.below hG.out.1).cell (j := 8) rfl; have z8 := (hA.out.2.2.2.1.below hG.out.1).fz 8; have p9 := (hA.out.2.2.2.1.below hG.out.1).cell (j := 9) rfl; have z9 := (hA.out.2.2.2.1.below hG.out.1).fz 9; have p10 := (hA.out.2.2.2.1.below hG.out.1).cell (j := 10) rfl; have z10 := (hA.out.2.2.2.1.below hG.out.1).fz 10; have p11 := (hA.out.2.2.2.1.below hG.out.1).cell (j := 11) rfl; have z11 := (hA.out.2.2.2.1.below hG.out.1).fz 11)
 first | (go_wp2_with fail) | skip
 refine hK.out _ _ ?_ (fun hHeld => ?_)
 ·(try dsimp only); first | with_reducible exact hKc.out _ (hA.out.2.2.1.below hG.out.1) | with_reducible exact hKc.out _ (hA.out.2.2.1.below hF.out.1) | exact hKc.out _ (((((((hA.out.2.2.1.below hG.out.1).oth hne.out _).oth hne.out _).oth hne.out _).oth hne.out _).oth hne.out _).oth hne.out _)
 clear hK K
 try simp only [Act.put, List.setIfInBounds_toArray, List.set_cons_zero, List.set_cons_succ]
 refine wpAnyH_take (i := 7) (oi := ?ois19) (v := ?vs19) ?hops19 ?hss19 ?hfs19 ?hrs19 ?hQs19 ?hys19 (by assumption) ?rests19
 case hops19 => (simp only [List.getElem?_toArray, List.getElem?_cons_zero, List.getElem?_cons_succ]; rfl)
 case hss19 => kernel_rfl
 case hfs19 => kernel_rfl
 case hrs19 => kernel_rfl
 case hQs19 => exact fun _ _ _ h => h
 case hys19 => (refine Or.inl ⟨by rfl, ?_⟩; intro w hSw; (try dsimp only at hSw); go_simp <;> with_reducible rfl)
 try simp only [Act.put, List.setIfInBounds_toArray, List.set_cons_zero, List.set_cons_succ]
 refine wpAnyH_take (i := 9) (oi := ?ois110) (v := ?vs110) ?hops110 ?hss110 ?hfs110 ?hrs110 ?hQs110 ?hys110 (by assumption) ?rests110
 case hops110 => (simp only [List.getElem?_toArray, List.getElem?_cons_zero, List.getElem?_cons_succ]; rfl)
 case hss110 => kernel_rfl
 case hfs110 => kernel_rfl
 case hrs110 => kernel_rfl
 case hQs110 => exact fun _ _ _ h => h
 case hys110 => (refine Or.inl ⟨by rfl, ?_⟩; intro w hSw; (try dsimp only at hSw); go_simp <;> with_reducible rfl)
 try simp only [Act.put, List.setIfInBounds_toArray, List.set_cons_zero, List.set_cons_succ]
 refine wpAnyH_ready (rs := [10]) (by kernel_rfl) (by simp) ?_
 refine AllReadyH.cons (o := ?ois111) ?hops111 (fun K hK => ?steps111) ?mores111
 case hops111 => (simp only [List.getElem?_toArray, List.getElem?_cons_zero, List.getElem?_cons_succ]; rfl)
 case mores111 => exact AllReadyH.nil
 go_simp
 refine hK.out _ _ ?_ (fun hHeld => ?_)
 ·(try dsimp only); first | with_reducible exact hKc.out _ (hA.out.2.2.1.below hG.out.1) | with_reducible exact hKc.out _ (hA.out.2.2.1.below hF.out.1) | exact hKc.out _ (((((((hA.out.2.2.1.below hG.out.1).oth hne.out _).oth hne.out _).oth hne.out _).oth hne.out _).oth hne.out _).oth hne.out _)
 clear hK K
 try simp only [Act.put, List.setIfInBounds_toArray, List.set_cons_zero, List.set_cons_succ]
 refine wpAnyH_done (by kernel_rfl) ?_ _
 refine NoPanic.normal ?_
 go_wp2_with fail
 obtain ⟨wd1, hwd⟩ : ∃ W, ((((((w3.setCell ⟨w.heap.size + 1, 6, none⟩ (.int .i64 t.c.c0)).setCell ⟨w.heap.size + 1, 7, none⟩ (.int .i64 t.c.c1)).setCell ⟨w.heap.size + 1, 8, none⟩ (.int .i64 t.c.c2)).setCell ⟨w.heap.size + 1, 9, none⟩ (.int .i64 t.c.c3)).setCell ⟨w.heap.size + 1, 10, none⟩ (.slice EB t.c.l.length ecb)).setCell ⟨w.heap.size + 1, 11, none⟩ (.slice ED t.e.length ecd)) = W := ⟨_, rfl⟩
 rw [hwd]
 have hJ : Hid (Below w.heap.size w wd1 ∧ Cls wd1 (w.heap.size + 1) [.int .i64 s.c.c0, .int .i64 s.c.c1, .int .i64 s.c.c2, .int .i64 s.c.c3, .slice EA s.c.l.length eca, .slice EC s.e.length ecc, .int .i64 t.c.c0, .int .i64 t.c.c1, .int .i64 t.c.c2, .int .i64 t.c.c3, .slice EB t.c.l.length ecb, .slice ED t.e.length ecd] ∧ Cls wd1 w.heap.size [.int .i64 0, .int .i64 0, .int .i64 0, .int .i64 0, .slice none 0 0, .slice none 0 0, .int .i64 0, .int .i64 0, .int .i64 0, .int .i64 0, .slice none 0 0, .slice none 0 0] ∧ Own wd1 wb1.heap.size (.slice EB t.c.l.length ecb) t.c.l ∧ OwnC wd1 wb1.heap.size (.slice ED t.e.length ecd) t.e ∧ Own wd1 wb0.heap.size (.slice EA s.c.l.length eca) s.c.l ∧ OwnC wd1 wb0.heap.size (.slice EC s.e.length ecc) s.e) := by
  have hs1 := hA.out.2.2.2.2.2.1
  have hs2 := hA.out.2.2.2.2.2.2
  have hb3 := hA.out.2.1.trans (hG.out.1.mono hA.out.2.1.size)
  have hge : w.heap.size ≤ w.heap.size + 1 := by omega
  have hnw : w.heap.size ≠ w.heap.size + 1 := by omega
  refine ⟨?_, ?_, ?_, ?_, ?_, ?_, ?_⟩
  ·rw [← hwd]; exact (((((hb3.setCell hge _).setCell hge _).setCell hge _).setCell hge _).setCell hge _).setCell hge _
  ·rw [← hwd]; exact ((((((hA.out.2.2.2.1.below hG.out.1).put 6 _).put 7 _).put 8 _).put 9 _).put 10 _).put 11 _
  ·rw [← hwd]; exact ((((((hA.out.2.2.2.2.1.below hG.out.1).oth hnw _).oth hnw _).oth hnw _).oth hnw _).oth hnw _).oth hnw _
  ·rw [← hwd]; exact own_agr hG.out.2.1 ((((((Agr.set _ fun h => by omega).trans (Agr.set _ fun h => by omega)).trans (Agr.set _ fun h => by omega)).trans (Agr.set _ fun h => by omega)).trans (Agr.set _ fun h => by omega)).trans (Agr.set _ fun h => by omega))
  ·rw [← hwd]; exact own_agr hG.out.2.2 ((((((Agr.set _ fun h => by omega).trans (Agr.set _ fun h => by omega)).trans (Agr.set _ fun h => by omega)).trans (Agr.set _ fun h => by omega)).trans (Agr.set _ fun h => by omega)).trans (Agr.set _ fun h => by omega))
  ·have hbx : Below wd0.heap.size wd0 w3 := hA.out.1.below.trans (hG.out.1.mono hA.out.1.size)
   have hs00 := hs0H.out
   rw [← hwd]; exact own_agr (hI0.out.1.below hbx) ((((((Agr.set _ fun h => by omega).trans (Agr.set _ fun h => by omega)).trans (Agr.set _ fun h => by omega)).trans (Agr.set _ fun h => by omega)).trans (Agr.set _ fun h => by omega)).trans (Agr.set _ fun h => by omega))
  ·have hbx : Below wd0.heap.size wd0 w3 := hA.out.1.below.trans (hG.out.1.mono hA.out.1.size)
   have hs00 := hs0H.out
   rw [← hwd]; exact own_agr (OwnG.below hI0.out.2 hbx) ((((((Agr.set _ fun h => by omega).trans (Agr.set _ fun h => by omega)).trans (Agr.set _ fun h => by omega)).trans (Agr.set _ fun h => by omega)).trans (Agr.set _ fun h => by omega)).trans (Agr.set _ fun h => by omega))
 clear hwd hG hF hCc hCl hKc hne hD0 hHeld p6 z6 p7 z7 p8 z8 p9 z9 p10 z10 p11 z11
 rw [rounds_succ]
 have q0 := hJ.out.2.1.cell (j := 0) rfl
 have q1 := hJ.out.2.1.cell (j := 1) rfl
 have q2 := hJ.out.2.1.cell (j := 2) rfl
 have q3 := hJ.out.2.1.cell (j := 3) rfl
 have q4 := hJ.out.2.1.cell (j := 4) rfl
 have q5 := hJ.out.2.1.cell (j := 5) rfl
 have q6 := hJ.out.2.1.cell (j := 6) rfl
 have q7 := hJ.out.2.1.cell (j := 7) rfl
 have q8 := hJ.out.2.1.cell (j := 8) rfl
 have q9 := hJ.out.2.1.cell (j := 9) rfl
 have q10 := hJ.out.2.1.cell (j := 10) rfl
 have q11 := hJ.out.2.1.cell (j := 11) rfl
 have r0 := hJ.out.2.2.1.cell (j := 0) rfl
 have r1 := hJ.out.2.2.1.cell (j := 1) rfl
 have r2 := hJ.out.2.2.1.cell (j := 2) rfl
 have r3 := hJ.out.2.2.1.cell (j := 3) rfl
 have r4 := hJ.out.2.2.1.cell (j := 4) rfl
 have r5 := hJ.out.2.2.1.cell (j := 5) rfl
 have r6 := hJ.out.2.2.1.cell (j := 6) rfl
 have r7 := hJ.out.2.2.1.cell (j := 7) rfl
 have r8 := hJ.out.2.2.1.cell (j := 8) rfl
 have r9 := hJ.out.2.2.1.cell (j := 9) rfl
 have r10 := hJ.out.2.2.1.cell (j := 10) rfl
 have r11 := hJ.out.2.2.1.cell (j := 11) rfl
 have z0 := hJ.out.2.2.1.fz 0
 have z1 := hJ.out.2.2.1.fz 1
 have z2 := hJ.out.2.2.1.fz 2
 have z3 := hJ.out.2.2.1.fz 3
 have z4 := hJ.out.2.2.1.fz 4
 have z5 := hJ.out.2.2.1.fz 5
 have z6 := hJ.out.2.2.1.fz 6
 have z7 := hJ.out.2.2.1.fz 7
 have z8 := hJ.out.2.2.1.fz 8
 have z9 := hJ.out.2.2.1.fz 9
 have z10 := hJ.out.2.2.1.fz 10
 have z11 := hJ.out.2.2.1.fz 11
 go_wp2
 have hs00 := hs0H.out
 have hs1 := hA.out.2.2.2.2.2.1
 have hs2 := hA.out.2.2.2.2.2.2
 have hAg : ∀ base, w.heap.size < base → Agr (fun b => base ≤ b) wd1 ((((((((((((wd1.setCell ⟨w.heap.size, 0, none⟩ (.int .i64 s.c.c0)).setCell ⟨w.heap.size, 1, none⟩ (.int .i64 s.c.c1)).setCell ⟨w.heap.size, 2, none⟩ (.int .i64 s.c.c2)).setCell ⟨w.heap.size, 3, none⟩ (.int .i64 s.c.c3)).setCell ⟨w.heap.size, 4, none⟩ (.slice EA s.c.l.length eca)).setCell ⟨w.heap.size, 5, none⟩ (.slice EC s.e.length ecc)).setCell ⟨w.heap.size, 6, none⟩ (.int .i64 t.c.c0)).setCell ⟨w.heap.size, 7, none⟩ (.int .i64 t.c.c1)).setCell ⟨w.heap.size, 8, none⟩ (.int .i64 t.c.c2)).setCell ⟨w.heap.size, 9, none⟩ (.int .i64 t.c.c3)).setCell ⟨w.heap.size, 10, none⟩ (.slice EB t.c.l.length ecb)).setCell ⟨w.heap.size, 11, none⟩ (.slice ED t.e.length ecd)) := fun base hbase => ((((((((((((Agr.set _ fun h => by omega).trans (Agr.set _ fun h => by omega)).trans (Agr.set _ fun h => by omega)).trans (Agr.set _ fun h => by omega)).trans (Agr.set _ fun h => by omega)).trans (Agr.set _ fun h => by omega)).trans (Agr.set _ fun h => by omega)).trans (Agr.set _ fun h => by omega)).trans (Agr.set _ fun h => by omega)).trans (Agr.set _ fun h => by omega)).trans (Agr.set _ fun h => by omega)).trans (Agr.set _ fun h => by omega))
 have hl0 : w.heap.size ≤ wb0.heap.size := by omega
 have hl1 : w.heap.size ≤ wb1.heap.size := by have := hA.out.2.1.size; omega
 exact bodyPost_ret (v := .agg #[.int .i64 s.c.c0, .int .i64 s.c.c1, .int .i64 s.c.c2, .int .i64 s.c.c3, .slice EA s.c.l.length eca, .slice EC s.e.length ecc, .int .i64 t.c.c0, .int .i64 t.c.c1, .int .i64 t.c.c2, .int .i64 t.c.c3, .slice EB t.c.l.length ecb, .slice ED t.e.length ecd]) (by simp [results, Tryz.results10, go_sem, r0, r1, r2, r3, r4, r5, r6, r7, r8, r9, r10, r11]) rfl ⟨EA, eca, EC, ecc, EB, ecb, ED, ecd, rfl, ⟨Own.mono (own_agr hJ.out.2.2.2.2.2.1 (hAg _ (by omega))) hl0, OwnG.mono (own_agr hJ.out.2.2.2.2.2.2 (hAg _ (by omega))) hl0⟩, ⟨Own.mono (own_agr hJ.out.2.2.2.1 (hAg _ (by omega))) hl1, OwnG.mono (own_agr hJ.out.2.2.2.2.1 (hAg _ (by omega))) hl1⟩, ((((((((((((hJ.out.1.setCell (Nat.le_refl _) _).setCell (Nat.le_refl _) _).setCell (Nat.le_refl _) _).setCell (Nat.le_refl _) _).setCell (Nat.le_refl _) _).setCell (Nat.le_refl _) _).setCell (Nat.le_refl _) _).setCell (Nat.le_refl _) _).setCell (Nat.le_refl _) _).setCell (Nat.le_refl _) _).setCell (Nat.le_refl _) _).setCell (Nat.le_refl _) _)⟩
end Go.Proofs.YtmoicbmhjmdgdaaGreat

namespace Go.Proofs.YtmoicbmhjmdgdaaGreat
open Go.ChangeShapes Go.WideShapes Go.ChangeAt Go.RowKit Go.Deep

variable {H : Type} {enc : TypeId × Value → H} {W : World}

set_option maxRecDepth 100000 in
theorem open_cel {fuel : Nat} {cs : List Value} {x : DataW H × List MemPlace} (hl : cs.length = 5) (h : DataW.trod enc Tryz.prog W 0 (fun _ => true) true fuel 87 cs = some x) : ∃ y : Cel, cs = encC y := by
 match cs, hl with
 | [v0, v1, v2, v3, v4], _ =>
  obtain ⟨xs, n, _, _, _, hxl, hf⟩ := DataW.trod_struct Tryz.underlying87 h
  have c2 : Tryz.prog.cellsOf 85 = 2 := by kernel_rfl
  have c1 : Tryz.prog.cellsOf 3 = 1 := by kernel_rfl
  have hx4 : xs.length = 4 := hxl
  match xs, hx4 with
  | [y0, y1, y2, y3], _ =>
   have g0 := hf 0 _ rfl
   have g1 := hf 1 _ rfl
   have g2 := hf 2 _ rfl
   have g3 := hf 3 _ rfl
   simp [c1, c2] at g0 g1 g2 g3
   obtain ⟨z2, e2, _⟩ := DataW.trod_int Tryz.underlying3 g1
   obtain ⟨z3, e3, _⟩ := DataW.trod_int Tryz.underlying3 g2
   obtain ⟨z4, e4, _⟩ := DataW.trod_int Tryz.underlying3 g3
   obtain ⟨ys, m, _, _, _, hyl, hd⟩ := DataW.trod_struct Tryz.underlying85 g0
   have hy2 : ys.length = 2 := hyl
   match ys, hy2 with
   | [u0, u1], _ =>
    have k0 := hd 0 _ rfl
    have k1 := hd 1 _ rfl
    simp [c1] at k0 k1
    obtain ⟨z0, e0, _⟩ := DataW.trod_int Tryz.underlying3 k0
    obtain ⟨z1, e1, _⟩ := DataW.trod_int Tryz.underlying3 k1
    simp only [List.cons.injEq, and_true] at e0 e1 e2 e3 e4
    exact ⟨((z0, z1), z2, z3, z4), by rw [e0, e1, e2, e3, e4]; rfl⟩

set_option maxRecDepth 100000 in
theorem open_cels {fuel : Nat} {cs : List Value} {x : DataW H × List MemPlace} (h : DataW.trod enc Tryz.prog W 0 (fun _ => true) true fuel 46 cs = some x) :
  ∃ A cap l, cs = [.slice A l.length cap] ∧ (A = none → cap = 0) ∧ RowC W A l ∧ l.length ≤ maxLen ∧ ((∀ n ∈ x.1.weights Tryz.prog 46, n ≤ reachBytes) → l.length * 40 ≤ 140737488355328) := by
 rcases open_slice Tryz.underlying46 h with ⟨hcs, _⟩ | ⟨a, len, cap, m, n, D, Pl, hcs, _, hl, hm, hmm, hx, hi⟩
 ·exact ⟨none, 0, [], hcs, fun _ => rfl, Or.inl rfl, by simp, fun _ => by simp⟩
 ·have c5 : Tryz.prog.cellsOf 87 = 5 := by kernel_rfl
  have b40 : Tryz.prog.bytesOf 87 = 40 := by kernel_rfl
  have hlm : len ≤ m := by rw [hmm]; simp; exact hl
  obtain ⟨Z, hZ⟩ := choose_lt (α := Cel) (n := len) (p := fun i z => ∀ j, j < 5 → W.cell? (a.add (i * 5 + j)) = (encC z)[j]?) (fun i hi' => by
   obtain ⟨cs', h1, h2⟩ := hi i (by omega)
   rw [c5] at h1
   obtain ⟨_, hlen, hcell⟩ := World.cells?_some h1
   obtain ⟨y, hy⟩ := open_cel hlen h2
   refine ⟨y, fun j hj => ?_⟩
   have := hcell j (by omega)
   rw [add_add] at this
   rw [this, ← hy, List.getElem?_eq_getElem (by omega)])
  refine ⟨some a, cap, (List.range len).map Z, by rw [hcs]; simp, (fun h => by cases h), ?_, by simp; omega, fun hw => ?_⟩
  ·by_cases h0 : len = 0
   ·exact Or.inl (by rw [h0]; rfl)
   ·have hc0 := hZ 0 (by omega) 0 (by omega)
    obtain ⟨b, off, spot⟩ := a
    have hc1 : W.cell? (Addr.add ⟨b, off, spot⟩ (0 * 5 + 0)) = some (.int .i64 (Z 0).1.1) := hc0
    have hspot : spot = none := by simpa [Addr.add] using World.cell?_spot hc1
    subst hspot
    refine Or.inr ⟨b, off, rfl, ?_, fun j hj i hi5 => ?_⟩
    ·have := World.block_lt_of_cell? W _ hc1
     simpa [Addr.add_lit] using this
    ·have hj' : j < len := by simpa using hj
     have := hZ j hj' i hi5
     simp only [Addr.add_lit, ← Nat.add_assoc] at this
     simpa using this
  ·rw [hx] at hw
   have := hw ((((List.range len).map D).length + ((List.range (m - len)).map fun j => D (len + j)).length) * Tryz.prog.bytesOf 87) (by simp [DataW.weights, Tryz.underlying46])
   have hb := reachBytes_lt
   rw [b40] at this
   simp only [List.length_map, List.length_range] at this ⊢
   omega

theorem open_ctxc {fuel : Nat} {cs : List Value} {x : DataW H × List MemPlace} (hlen : cs.length = 5) (hf : DataW.trod enc Tryz.prog W 0 (fun _ => true) true fuel 45 cs = some x) :
  ∃ (c : Ctx) (A : Option Addr) (cap : Nat), cs = [.int .i64 c.c0, .int .i64 c.c1, .int .i64 c.c2, .int .i64 c.c3, .slice A c.l.length cap] ∧ (A = none → cap = 0) ∧ Row W A c.l ∧ c.l.length ≤ maxLen := by
 match cs, hlen with
 | [v0, v1, v2, v3, v4], _ =>
  obtain ⟨y0, y1, n, _, _, t0, t1⟩ := trod_struct2 Tryz.underlying45 hf
  have c22 : Tryz.prog.cellsOf 42 = 4 := by kernel_rfl
  have c23 : Tryz.prog.cellsOf 43 = 1 := by kernel_rfl
  have c3 : Tryz.prog.cellsOf 3 = 1 := by kernel_rfl
  simp only [c22, c23] at t0 t1
  obtain ⟨A, cap, l, hl, hA, hr, hm⟩ := open_dots t1
  obtain ⟨xs, m, _, _, _, hlen, hi⟩ := DataW.trod_array Tryz.underlying42 t0
  have each : ∀ (i : Nat) (u : Value), i < 4 → ((([v0, v1, v2, v3, v4] : List Value).drop 0).take 4)[i]? = some u → ∃ z, u = .int .i64 z := by
   intro i u h4 hu
   have ht := hi i h4
   rw [c3] at ht
   obtain ⟨y, hy⟩ : ∃ y, xs[i]? = some y := ⟨xs[i]'(by omega), List.getElem?_eq_getElem (by omega)⟩
   rw [hy] at ht
   obtain ⟨z, e, _⟩ := DataW.trod_int Tryz.underlying3 ht
   refine ⟨z, ?_⟩
   match i, h4, hu, e with
   | 0, _, hu, e => simp at hu e; rw [← hu, e]
   | 1, _, hu, e => simp at hu e; rw [← hu, e]
   | 2, _, hu, e => simp at hu e; rw [← hu, e]
   | 3, _, hu, e => simp at hu e; rw [← hu, e]
  obtain ⟨z0, rfl⟩ := each 0 v0 (by omega) rfl
  obtain ⟨z1, rfl⟩ := each 1 v1 (by omega) rfl
  obtain ⟨z2, rfl⟩ := each 2 v2 (by omega) rfl
  obtain ⟨z3, rfl⟩ := each 3 v3 (by omega) rfl
  simp at hl
  exact ⟨⟨z0, z1, z2, z3, l⟩, A, cap, by rw [hl], hA, hr, hm⟩

end Go.Proofs.YtmoicbmhjmdgdaaGreat

namespace Go.Proofs.YtmoicbmhjmdgdaaGreat
open Go.ChangeShapes Go.WideShapes Go.ChangeAt Go.RowKit Go.Deep

variable {H : Type} {enc : TypeId × Value → H} {W : World}

theorem list7 {cs : List Value} (h : cs.length = 7) : ∃ a b c d e f g, cs = [a, b, c, d, e, f, g] := by
 match cs, h with
 | [a, b, c, d, e, f, g], _ => exact ⟨a, b, c, d, e, f, g, rfl⟩

set_option maxRecDepth 100000 in
theorem open_step {fuel : Nat} {cs : List Value} {x : DataW H × List MemPlace} (hl : cs.length = 7) (h : DataW.trod enc Tryz.prog W 0 (fun _ => true) true fuel 30 cs = some x) : ∃ y : Stp, cs = encQ y ∧ RowI W y.p y.l ∧ y.l.length ≤ maxLen ∧ (y.p = none → y.n = 0) := by
 obtain ⟨v0, v1, v2, v3, v4, v5, v6, rfl⟩ := list7 hl
 obtain ⟨xs, n, _, _, _, hxl, hf⟩ := DataW.trod_struct Tryz.underlying30 h
 have c1 : Tryz.prog.cellsOf 3 = 1 := by kernel_rfl
 have c2 : Tryz.prog.cellsOf 28 = 1 := by kernel_rfl
 have hx7 : xs.length = 7 := hxl
 match xs, hx7 with
 | [y0, y1, y2, y3, y4, y5, y6], _ =>
  have g0 := hf 0 _ rfl
  have g1 := hf 1 _ rfl
  have g2 := hf 2 _ rfl
  have g3 := hf 3 _ rfl
  have g4 := hf 4 _ rfl
  have g5 := hf 5 _ rfl
  have g6 := hf 6 _ rfl
  simp [c1, c2] at g0 g1 g2 g3 g4 g5 g6
  obtain ⟨z0, e0, _⟩ := DataW.trod_int Tryz.underlying3 g0
  obtain ⟨z1, e1, _⟩ := DataW.trod_int Tryz.underlying3 g1
  obtain ⟨z2, e2, _⟩ := DataW.trod_int Tryz.underlying3 g2
  obtain ⟨z3, e3, _⟩ := DataW.trod_int Tryz.underlying3 g3
  obtain ⟨z4, e4, _⟩ := DataW.trod_int Tryz.underlying3 g4
  obtain ⟨z5, e5, _⟩ := DataW.trod_int Tryz.underlying3 g5
  obtain ⟨A, cap, l, e6, hA, hr, hm⟩ := open_row g6
  simp only [List.cons.injEq, and_true] at e0 e1 e2 e3 e4 e5 e6
  exact ⟨⟨z0, z1, z2, z3, z4, z5, A, cap, l⟩, by rw [e0, e1, e2, e3, e4, e5, e6]; rfl, hr, hm, hA⟩

end Go.Proofs.YtmoicbmhjmdgdaaGreat
