/-
  dot.fold: what it makes of a clock and of dots that are right and in order, step by step.
  The library's slices.SortFunc at dots: where its functions and types stand in this program.
  dot.rising: the dots of two lists, sorted, in memory of its own.
-/
import Derived.Test.YtmoicbmhjmdgdaaGreatM02
import Derived.Shelf.SlSortCmp.NoneTotal
import Derived.Shelf.SlGeneric
import Derived.Test.YtmoicbmhjmdgdaaGreatProg
import Derived.Test.YtmoicbmhjmdgdaaGreatM01
import Derived.Test.YtmoicbmhjmdgdaaGreatM03
namespace Go.Proofs.YtmoicbmhjmdgdaaGreat
open Go.RowKit Go.Sort

set_option maxHeartbeats 4000000 in
theorem fold_any (c : Ctx) (l : List (Int × Int)) (A : Option Addr) (cap : Nat) (w : World) (hc0 : c.l = []) (hok : okClk c = true) (hl : l.length ≤ 800) (hri : ∀ x ∈ l, rightB x = true) (hr : Row w A l) :
  Calls Tryz.prog 63 #[.agg #[.int .i64 c.c0, .int .i64 c.c1, .int .i64 c.c2, .int .i64 c.c3], .slice A l.length cap] w fun e w' => ∃ C cp, e = .returned (.agg #[.int .i64 (foldTo c l l.length).c0, .int .i64 (foldTo c l l.length).c1, .int .i64 (foldTo c l l.length).c2, .int .i64 (foldTo c l l.length).c3, .slice C (foldTo c l l.length).l.length cp]) ∧ Row w' C (foldTo c l l.length).l ∧ (C = none → cp = 0) ∧ (∀ a, C = some a → w.heap.size ≤ a.block) ∧ Below w.heap.size w w' := by
 have hE := neqDot
 have hG := guardDot
 have hH : Hid (c.l = [] ∧ okClk c = true ∧ (∀ x ∈ l, rightB x = true)) := ⟨hc0, hok, hri⟩
 clear hc0 hok hri
 go_enter Tryz.func63, Tryz.ntmps63
 go_wp2
 go_loopw [13] (fun i wr => ∃ k : Nat, k ≤ l.length ∧ i = .int .i64 k ∧ CB wr (w.heap.size + 1 + 1) (w.heap.size + 1 + 1 + 1) (foldTo c l k) ∧ Below (w.heap.size + 1 + 1) ((w.alloc (.cells #[.int .i64 c.c0, .int .i64 c.c1, .int .i64 c.c2, .int .i64 c.c3] 42)).alloc (.cells #[.int .i64 0, .int .i64 0, .int .i64 0, .int .i64 0, .slice none 0 0] 45)) wr) (fun i _ => l.length - (intOf i).toNat)
 case atStart =>
  refine ⟨0, Nat.zero_le _, rfl, ?_, (Below.refl _ _).alloc (by simp) _⟩
  have := CB.start ((w.alloc (.cells #[.int .i64 c.c0, .int .i64 c.c1, .int .i64 c.c2, .int .i64 c.c3] 42)).alloc (.cells #[.int .i64 0, .int .i64 0, .int .i64 0, .int .i64 0, .slice none 0 0] 45)) hH.out.1 45
  show CB _ _ _ c
  simpa using this
 case round =>
  obtain ⟨k, hk, rfl, hCB, hbel⟩ := hrel
  have hbw : Hid (Below w.heap.size w wr) := (((Below.refl _ w).alloc (Nat.le_refl _) _).alloc (by simp) _).trans (hbel.mono (by omega))
  have hBlt := hCB.lt
  by_cases hlt : k < l.length
  ·have hltz : (k : Int) < (l.length : Int) := by omega
   obtain ⟨b, off, rfl, hb, hcs⟩ := (hr.below hbw.out).at hlt
   obtain ⟨x, y, hx⟩ : ∃ x y, l[k] = (x, y) := ⟨_, _, rfl⟩
   have e0 := (hcs k hlt).1
   have e1 := (hcs k hlt).2
   rw [hx] at e0 e1
   have hcsH : Hid (∀ j (h : j < l.length), _) := hcs
   have hxH : Hid (l[k] = (x, y)) := hx
   have hn := rightB_node (hH.out.2.2 (x, y) (by rw [← hx]; exact List.getElem_mem hlt))
   have hFc := clk_of_ok (foldTo_clk hH.out.2.1 hH.out.2.2 k hk) x hn.1 hn.2.1
   have kc := hCB.clk hn.1 hn.2.1
   have kf := hCB.fz x.toNat
   simp only at hn
   clear hcs hx
   by_cases h1 : y ≤ clk (foldTo c l k) x
   ·have hst : Hid (foldTo c l (k + 1) = foldTo c l k) := by
     cases k with
     | zero => show foldTo c l 1 = _; rw [foldTo_zero hlt hxH.out]; exact step_le h1
     | succ m => show foldTo c l (m + 2) = _; rw [foldTo_succ hlt hxH.out rfl]; exact step_le h1
    go_wp2
    go_roundw
    case rel => exact ⟨k + 1, by omega, by go_num, by rw [hst.out]; exact hCB.gr ((Gr.refl _).alloc _), hbel.alloc (by omega) _⟩
    case measure => simp [intOf]; omega
   ·by_cases h2 : y = clk (foldTo c l k) x + 1
    ·have hst : Hid (foldTo c l (k + 1) = setClk (foldTo c l k) x y) := by
      cases k with
      | zero => show foldTo c l 1 = _; rw [foldTo_zero hlt hxH.out]; exact step_eq h2
      | succ m => show foldTo c l (m + 2) = _; rw [foldTo_succ hlt hxH.out rfl]; exact step_eq h2
     have h1b : decide (y ≤ clk (foldTo c l k) x) = false := by simpa using h1
     have h2b : (y == clk (foldTo c l k) x + 1) = true := by simpa using h2
     have h2H : Hid (y = clk (foldTo c l k) x + 1) := h2
     clear h2 h1
     go_wp2
     go_roundw
     case rel => exact ⟨k + 1, by omega, by go_num, by rw [hst.out]; exact (hCB.setClk hn.1 hn.2.1 y).gr ((Gr.refl _).alloc _), (hbel.setCell (Nat.le_refl _) _).alloc (by simp only [World.setCell, Array.size_modify]; omega) _⟩
     case measure => simp [intOf]; omega
    ·have h1b : decide (y ≤ clk (foldTo c l k) x) = false := by simpa using h1
     have h2b : (y == clk (foldTo c l k) x + 1) = false := by simpa using h2
     have h12 : Hid (¬ y ≤ clk (foldTo c l k) x ∧ ¬ y = clk (foldTo c l k) x + 1) := ⟨h1, h2⟩
     clear h1 h2
     obtain ⟨v, k4, hov⟩ := hCB.v
     have hovH : Hid (Own wr (w.heap.size + 1 + 1 + 1) v (foldTo c l k).l) := hov
     have hlen := foldTo_len c l k
     have hbd : Hid (((foldTo c l k).l.length + [(x, y)].length) * 16 ≤ 140737488355328) := by
      have := hH.out.1
      rw [this] at hlen
      simp only [List.length_nil, List.length_cons] at hlen ⊢
      show _ ≤ _
      omega
     clear hov hlen
     cases k with
     | zero =>
      have hst : Hid (foldTo c l 1 = { foldTo c l 0 with l := (foldTo c l 0).l ++ [(x, y)] }) := by
       show foldTo c l 1 = _
       rw [foldTo_zero hlt hxH.out]
       exact step_new h12.out.1 h12.out.2 (by simp)
      simp only [Nat.zero_mul, Nat.add_zero] at e0 e1
      go_wp2
      go_quiet (fail)
      go_wp2_with (at_builtin; refine wpList_append_dots _ rfl (.tmp 53) (.tmp 55) rfl (w.heap.size + 1 + 1 + 1) v (foldTo c l 0).l [(x, y)] (some ⟨wr.heap.size + 1, 0, none⟩) 1 rfl rfl ?ho ?hr (fun h => by cases h) hbd.out ?hs ?_)
      case ho => exact hovH.out.gr ((((Gr.refl wr).alloc _).drewN nq).alloc _)
      case hr => exact rowNew (by simp) x y _
      case hs => simp; omega
      intro v1 w1 hown1 hgr1 _
      obtain ⟨C, cp, rfl, hC, -, -⟩ := hown1.row
      have hgA : Gr wr (((wr.alloc (.cells #[.int .i64 x, .int .i64 y] 85)).drewN nq).alloc (.cells #[.int .i64 x, .int .i64 y] 85)) := (((Gr.refl wr).alloc _).drewN nq).alloc _
      have hb1 : Below (w.heap.size + 1 + 1 + 1) (((wr.alloc (.cells #[.int .i64 x, .int .i64 y] 85)).drewN nq).alloc (.cells #[.int .i64 x, .int .i64 y] 85)) w1 := Own.grown_below (hovH.out.gr hgA) hgr1 (by simp; omega)
      have hfin := (hCB.gr hgA).setL hb1 hown1
      have hbel1 : Below (w.heap.size + 1 + 1) ((w.alloc (.cells #[.int .i64 c.c0, .int .i64 c.c1, .int .i64 c.c2, .int .i64 c.c3] 42)).alloc (.cells #[.int .i64 0, .int .i64 0, .int .i64 0, .int .i64 0, .slice none 0 0] 45)) w1 := (hbel.trans (hgA.below.mono (by omega))).trans (hb1.mono (by omega))
      have c4 : w1.cell? ⟨w.heap.size + 1 + 1, 4, none⟩ = some v := (hb1.cell (p := ⟨w.heap.size + 1 + 1, 4, none⟩) (by simp)).trans ((hgA.cell (p := ⟨w.heap.size + 1 + 1, 4, none⟩) hBlt).trans k4)
      have f4 : w1.frozen? ⟨w.heap.size + 1 + 1, 4, none⟩ = false := (hb1.frozen (p := ⟨w.heap.size + 1 + 1, 4, none⟩) (by simp)).trans ((hCB.gr hgA).fz 4)
      have hfinH : Hid (CB _ _ _ _) := hfin
      have hbelH : Hid (Below _ _ _) := hbel1
      clear hfin hbel1 hb1 hgA hgr1 hown1 hbel hCB k4 kc kf e0 e1
      go_wp2
      go_roundw
      case rel => exact ⟨1, hlt, by go_num, by rw [hst.out]; have := hfinH.out; simp only [List.length_append, List.length_cons, List.length_nil, Nat.zero_add] at this; exact this, hbelH.out.setCell (Nat.le_refl _) _⟩
      case measure => simp [intOf]; omega
     | succ m =>
      obtain ⟨x', y', hx'⟩ : ∃ x' y', l[m] = (x', y') := ⟨_, _, rfl⟩
      have g0 := (hcsH.out m (by omega)).1
      have g1 := (hcsH.out m (by omega)).2
      rw [hx'] at g0 g1
      have hxH' : Hid (l[m] = (x', y')) := hx'
      clear hx'
      have hm0 : ((m : Int) + 1 == 0) = false := by simp; omega
      cases hq : (x' == x && y' == y)
      ·have hst : Hid (foldTo c l (m + 2) = { foldTo c l (m + 1) with l := (foldTo c l (m + 1)).l ++ [(x, y)] }) := by
        show foldTo c l (m + 2) = _
        rw [foldTo_succ hlt hxH.out hxH'.out]
        refine step_new h12.out.1 h12.out.2 ?_
        intro h
        injection h with h
        injection h with h1 h2
        subst h1 h2
        simp at hq
       go_wp2
       go_quiet (fail)
       go_wp2_with (at_builtin; refine wpList_append_dots _ rfl (.tmp 53) (.tmp 55) rfl (w.heap.size + 1 + 1 + 1) v (foldTo c l (m + 1)).l [(x, y)] (some ⟨wr.heap.size + 1, 0, none⟩) 1 rfl rfl ?ho ?hr (fun h => by cases h) hbd.out ?hs ?_)
       case ho => exact hovH.out.gr ((((Gr.refl wr).alloc _).drewN nq).alloc _)
       case hr => exact rowNew (by simp) x y _
       case hs => simp; omega
       intro v1 w1 hown1 hgr1 _
       obtain ⟨C, cp, rfl, hC, -, -⟩ := hown1.row
       have hgA : Gr wr (((wr.alloc (.cells #[.int .i64 x, .int .i64 y] 85)).drewN nq).alloc (.cells #[.int .i64 x, .int .i64 y] 85)) := (((Gr.refl wr).alloc _).drewN nq).alloc _
       have hb1 : Below (w.heap.size + 1 + 1 + 1) (((wr.alloc (.cells #[.int .i64 x, .int .i64 y] 85)).drewN nq).alloc (.cells #[.int .i64 x, .int .i64 y] 85)) w1 := Own.grown_below (hovH.out.gr hgA) hgr1 (by simp; omega)
       have hfin := (hCB.gr hgA).setL hb1 hown1
       have hbel1 : Below (w.heap.size + 1 + 1) ((w.alloc (.cells #[.int .i64 c.c0, .int .i64 c.c1, .int .i64 c.c2, .int .i64 c.c3] 42)).alloc (.cells #[.int .i64 0, .int .i64 0, .int .i64 0, .int .i64 0, .slice none 0 0] 45)) w1 := (hbel.trans (hgA.below.mono (by omega))).trans (hb1.mono (by omega))
       have c4 : w1.cell? ⟨w.heap.size + 1 + 1, 4, none⟩ = some v := (hb1.cell (p := ⟨w.heap.size + 1 + 1, 4, none⟩) (by simp)).trans ((hgA.cell (p := ⟨w.heap.size + 1 + 1, 4, none⟩) hBlt).trans k4)
       have f4 : w1.frozen? ⟨w.heap.size + 1 + 1, 4, none⟩ = false := (hb1.frozen (p := ⟨w.heap.size + 1 + 1, 4, none⟩) (by simp)).trans ((hCB.gr hgA).fz 4)
       have hfinH : Hid (CB _ _ _ _) := hfin
       have hbelH : Hid (Below _ _ _) := hbel1
       clear hfin hbel1 hb1 hgA hgr1 hown1 hbel hCB k4 kc kf e0 e1
       go_wp2
       go_roundw
       case rel => exact ⟨m + 2, hlt, by go_num, by rw [hst.out]; have := hfinH.out; simp only [List.length_append, List.length_cons, List.length_nil, Nat.zero_add] at this; exact this, hbelH.out.setCell (Nat.le_refl _) _⟩
       case measure => simp [intOf]; omega
      ·have hst : Hid (foldTo c l (m + 2) = foldTo c l (m + 1)) := by
        show foldTo c l (m + 2) = _
        rw [foldTo_succ hlt hxH.out hxH'.out]
        simp only [Bool.and_eq_true, beq_iff_eq] at hq
        rw [hq.1, hq.2]
        exact step_dup h12.out.1 h12.out.2
       go_wp2
       go_quiet (fail)
       go_wp2
       go_roundw
       case rel => exact ⟨m + 2, hlt, by go_num, by rw [hst.out]; exact hCB.gr (((Gr.refl _).alloc _).drewN nq), (hbel.alloc (by omega) _).trans ((((Gr.refl _).drewN nq).below).mono (by simp; omega))⟩
       case measure => simp [intOf]; omega
  ·have hltz : ¬ (k : Int) < (l.length : Int) := by omega
   obtain rfl : k = l.length := by omega
   obtain ⟨F, hF⟩ : ∃ F, foldTo c l l.length = F := ⟨_, rfl⟩
   rw [hF] at hCB
   have HF : Hid (foldTo c l l.length = F) := hF
   clear hF
   obtain ⟨v, k0, k1, k2, k3, k4, hov, hf, hBb, hBs⟩ := hCB
   obtain ⟨C, cp, rfl, hC, hrow, hCb⟩ := hov.row
   have r0 := (hbel.cell (p := ⟨w.heap.size + 1, 0, none⟩) (by simp)).trans (show _ = some (.int .i64 0) by go_simp)
   have r1 := (hbel.cell (p := ⟨w.heap.size + 1, 1, none⟩) (by simp)).trans (show _ = some (.int .i64 0) by go_simp)
   have r2 := (hbel.cell (p := ⟨w.heap.size + 1, 2, none⟩) (by simp)).trans (show _ = some (.int .i64 0) by go_simp)
   have r3 := (hbel.cell (p := ⟨w.heap.size + 1, 3, none⟩) (by simp)).trans (show _ = some (.int .i64 0) by go_simp)
   have r4 := (hbel.cell (p := ⟨w.heap.size + 1, 4, none⟩) (by simp)).trans (show _ = some (.slice none 0 0) by go_simp)
   have rf : ∀ j, wr.frozen? ⟨w.heap.size + 1, j, none⟩ = false := fun j => (hbel.frozen (p := ⟨w.heap.size + 1, j, none⟩) (by simp)).trans (by simp)
   have hovH : Hid (Own _ _ _ _) := hov
   clear hov hf
   have hCn : ∀ a, C = some a → a.block ≠ w.heap.size + 1 := fun a ha => by have := (hCb a ha).1; omega
   go_wp2
   rw [HF.out]
   refine bodyPost_ret (v := .agg #[.int .i64 F.c0, .int .i64 F.c1, .int .i64 F.c2, .int .i64 F.c3, .slice C F.l.length cp]) (by simp [results, Tryz.results63, go_sem, r0, r1, r2, r3, r4]) rfl ⟨C, cp, rfl, ?_, hC, fun a ha => by have := (hCb a ha).1; omega, ?_⟩
   ·exact ((((hrow.setCell _ hCn).setCell _ hCn).setCell _ hCn).setCell _ hCn).setCell _ hCn
   ·exact ((((hbw.out.setCell (by simp) _).setCell (by simp) _).setCell (by simp) _).setCell (by simp) _).setCell (by simp) _
end Go.Proofs.YtmoicbmhjmdgdaaGreat

namespace Go.Proofs
open Go.Shelf
def Tryz.sortDot_ren : Go.Shelf.Ren := ⟨fun | 6 => 82 | 15 => 84 | 14 => 106 | 28 => 115 | 29 => 116 | 20 => 139 | 21 => 140 | 22 => 141 | 23 => 142 | 24 => 143 | 25 => 144 | 26 => 145 | 27 => 146 | 46 => 164 | 47 => 148 | 48 => 149 | 49 => 165 | 50 => 166 | 57 => 173 | n => n, fun | 22 => 43 | 24 => 85 | 25 => 132 | 3 => 3 | 39 => 142 | 0 => 0 | 53 => 179 | 55 => 181 | 4 => 4 | 46 => 173 | 45 => 172 | 50 => 124 | 5 => 5 | 9 => 9 | 66 => 202 | 70 => 192 | 76 => 216 | 77 => 217 | n => n, fun | n => n⟩
theorem Tryz.sortDot : Go.Proofs.SlLaysF0.n6 Tryz.prog Tryz.sortDot_ren := {
 mixed := by kernel_rfl
 f6 := ⟨Tryz.f82.name, by decide, Tryz.func82.trans (congrArg some (by kernel_rfl))⟩
 f14 := ⟨Tryz.f106.name, by decide, Tryz.func106.trans (congrArg some (by kernel_rfl))⟩
 f15 := Tryz.func84.trans (congrArg some (by kernel_rfl))
 f20 := ⟨Tryz.f139.name, by decide, Tryz.func139.trans (congrArg some (by kernel_rfl))⟩
 f21 := ⟨Tryz.f140.name, by decide, Tryz.func140.trans (congrArg some (by kernel_rfl))⟩
 f22 := ⟨Tryz.f141.name, by decide, Tryz.func141.trans (congrArg some (by kernel_rfl))⟩
 f23 := ⟨Tryz.f142.name, by decide, Tryz.func142.trans (congrArg some (by kernel_rfl))⟩
 f24 := ⟨Tryz.f143.name, by decide, Tryz.func143.trans (congrArg some (by kernel_rfl))⟩
 f25 := ⟨Tryz.f144.name, by decide, Tryz.func144.trans (congrArg some (by kernel_rfl))⟩
 f26 := ⟨Tryz.f145.name, by decide, Tryz.func145.trans (congrArg some (by kernel_rfl))⟩
 f27 := ⟨Tryz.f146.name, by decide, Tryz.func146.trans (congrArg some (by kernel_rfl))⟩
 f28 := Tryz.func115.trans (congrArg some (by kernel_rfl))
 f29 := Tryz.func116.trans (congrArg some (by kernel_rfl))
 f46 := ⟨Tryz.f164.name, by decide, Tryz.func164.trans (congrArg some (by kernel_rfl))⟩
 f47 := Tryz.func148.trans (congrArg some (by kernel_rfl))
 f48 := Tryz.func149.trans (congrArg some (by kernel_rfl))
 f49 := ⟨Tryz.f165.name, by decide, Tryz.func165.trans (congrArg some (by kernel_rfl))⟩
 f50 := ⟨Tryz.f166.name, by decide, Tryz.func166.trans (congrArg some (by kernel_rfl))⟩
 f57 := ⟨Tryz.f173.name, by decide, Tryz.func173.trans (congrArg some (by kernel_rfl))⟩
 t0 := Tryz.underlying0
 a0 := Tryz.isAgg0
 z0 := Tryz.sizeOf0
 v0 := Tryz.zeroValue0
 t3 := Tryz.underlying3
 a3 := Tryz.isAgg3
 z3 := Tryz.sizeOf3
 v3 := Tryz.zeroValue3
 t4 := Tryz.underlying4
 a4 := Tryz.isAgg4
 z4 := Tryz.sizeOf4
 v4 := Tryz.zeroValue4
 t5 := Tryz.underlying5
 a5 := Tryz.isAgg5
 z5 := Tryz.sizeOf5
 v5 := Tryz.zeroValue5
 t9 := Tryz.underlying9
 a9 := Tryz.isAgg9
 z9 := Tryz.sizeOf9
 v9 := Tryz.zeroValue9
 t22 := Tryz.underlying43
 a22 := Tryz.isAgg43
 z22 := Tryz.sizeOf43
 v22 := Tryz.zeroValue43
 t25 := Tryz.underlying132
 a25 := Tryz.isAgg132
 z25 := Tryz.sizeOf132
 v25 := Tryz.zeroValue132
 t39 := Tryz.underlying142
 a39 := Tryz.isAgg142
 z39 := Tryz.sizeOf142
 v39 := Tryz.zeroValue142
 t45 := Tryz.underlying172
 a45 := Tryz.isAgg172
 z45 := Tryz.sizeOf172
 v45 := Tryz.zeroValue172
 t46 := Tryz.underlying173
 a46 := Tryz.isAgg173
 z46 := Tryz.sizeOf173
 v46 := Tryz.zeroValue173
 t50 := Tryz.underlying124
 a50 := Tryz.isAgg124
 z50 := Tryz.sizeOf124
 v50 := Tryz.zeroValue124
 t53 := Tryz.underlying179
 a53 := Tryz.isAgg179
 z53 := Tryz.sizeOf179
 v53 := Tryz.zeroValue179
 t55 := Tryz.underlying181
 a55 := Tryz.isAgg181
 z55 := Tryz.sizeOf181
 v55 := Tryz.zeroValue181
 t66 := Tryz.underlying202
 a66 := Tryz.isAgg202
 z66 := Tryz.sizeOf202
 v66 := Tryz.zeroValue202
 t70 := Tryz.underlying192
 a70 := Tryz.isAgg192
 z70 := Tryz.sizeOf192
 v70 := Tryz.zeroValue192
 t76 := Tryz.underlying216
 a76 := Tryz.isAgg216
 z76 := Tryz.sizeOf216
 v76 := Tryz.zeroValue216
 t77 := Tryz.underlying217
 a77 := Tryz.isAgg217
 z77 := Tryz.sizeOf217
 v77 := Tryz.zeroValue217 }
end Go.Proofs

namespace Go.Proofs.YtmoicbmhjmdgdaaGreat
open Go.RowKit Go.Sort Go.Shelf Go.Lib

/-- A dot's two cells. -/
def encD (x : Int × Int) : List Value := [.int .i64 x.1, .int .i64 x.2]

theorem ltD (x y : Int × Int) : ltOf ordI x y = befB x y := by
 unfold ltOf
 cases h : befB x y
 ·have := ordI_not h
  simp; omega
 ·rw [ordI_bef h]; simp

theorem befB_iff (x y : Int × Int) : befB x y = true ↔ x.1 < y.1 ∨ (x.1 = y.1 ∧ x.2 < y.2) := by simp [befB]
theorem befB_not (x y : Int × Int) : befB x y = false ↔ y.1 < x.1 ∨ (x.1 = y.1 ∧ y.2 ≤ x.2) := by
 simp [befB]; omega

theorem swoD : SWO (ltOf ordI) where
 irrefl x := by rw [ltD]; simp [befB]
 trans x y z h1 h2 := by rw [ltD, befB_iff] at *; omega
 ntrans x y z h1 h2 := by rw [ltD, befB_not] at *; omega

theorem totD (x y : Int × Int) (h1 : ltOf ordI x y = false) (h2 : ltOf ordI y x = false) : x = y := by
 rw [ltD, befB_not] at *
 exact Prod.ext (by omega) (by omega)

/-- The dots of a list, sorted. -/
def srt (l : List (Int × Int)) : List (Int × Int) := l.mergeSort fun x y => !ltOf ordI y x

theorem srt_length (l : List (Int × Int)) : (srt l).length = l.length := by simp [srt]

theorem cmpD (blk off size : Nat) (w : World) : CmpLays Tryz.prog 68 #[] encD 2 ordI blk off size w :=
 fun _ _ _ _ x y => order_any x y _

theorem holdsD {w : World} {g off : Nat} {l : List (Int × Int)} (hc : ∀ j (h : j < l.length), w.cell? ⟨g, off + j * 2, none⟩ = some (.int .i64 l[j].1) ∧ w.cell? ⟨g, off + j * 2 + 1, none⟩ = some (.int .i64 l[j].2)) (hf : ∀ j, w.frozen? ⟨g, j, none⟩ = false) : HoldsK encD 2 w g off l.toArray := by
 intro t ht
 rw [size_flatK] at ht
 rw [get_flatK _ _ _ t ht]
 simp only [List.size_toArray] at ht
 have hk : t / 2 < l.length := by omega
 refine ⟨?_, hf _⟩
 have e : l.toArray[t / 2]! = l[t / 2] := by simp [hk]
 rw [e]
 have := hc (t / 2) hk
 by_cases he : t % 2 = 0
 ·rw [he, show off + t = off + t / 2 * 2 from by omega, this.1]; rfl
 ·rw [show t % 2 = 1 from by omega, show off + t = off + t / 2 * 2 + 1 from by omega, this.2]; rfl

theorem rowK {w : World} {g off : Nat} {l : List (Int × Int)} (h : HoldsK encD 2 w g off l.toArray) (hg : g < w.heap.size) : Row w (some ⟨g, off, none⟩) l := by
 refine Or.inr ⟨g, off, rfl, hg, fun j hj => ?_⟩
 have h0 := (h (j * 2) (by rw [size_flatK]; simp; omega)).1
 have h1 := (h (j * 2 + 1) (by rw [size_flatK]; simp; omega)).1
 rw [get_flatK _ _ _ _ (by simp; omega)] at h0 h1
 rw [show j * 2 / 2 = j from by omega, show j * 2 % 2 = 0 from by omega] at h0
 rw [show (j * 2 + 1) / 2 = j from by omega, show (j * 2 + 1) % 2 = 1 from by omega] at h1
 have e : l.toArray[j]! = l[j] := by simp [hj]
 rw [e] at h0 h1
 exact ⟨h0, h1⟩

theorem below_sort {w : World} {g n base : Nat} {os : Array Obj} {d : Array (Int × Int)} (hb : base ≤ g) (hs : base ≤ w.heap.size) : Below base w (sortWorldK encD 2 w g 0 n d os) := by
 refine ⟨rfl, rfl, rfl, by simp [sortWorldK, grow, putRowK], fun k hk => ?_⟩
 show ((putRowK encD 2 (Sort.ahead w n) g 0 d).heap ++ os)[k]? = _
 rw [Array.getElem?_append_left (by simp [putRowK]; omega)]
 show ((Sort.ahead w n).heap.modify g _)[k]? = _
 rw [Array.getElem?_modify, if_neg (by omega)]
 rfl

theorem sortD (g cap : Nat) (l : List (Int × Int)) (w : World) (hH : HoldsK encD 2 w g 0 l.toArray) (hg : g < w.heap.size) (hsz : l.length < 4611686018427387904) :
  Calls Tryz.prog 82 #[.slice (some ⟨g, 0, none⟩) l.length cap, .func (.func 68) #[] #[]] w fun e w' => e = .returned (.tuple #[]) ∧ Row w' (some ⟨g, 0, none⟩) (srt l) ∧ ∀ base, base ≤ g → base ≤ w.heap.size → Below base w w' := by
 have eg : ∀ args w, (callFunc 68 args).run Tryz.prog w = .ok (.enter 68 args) w := enters_of Tryz.func68 (by kernel_rfl) rfl
 have hcon := AnyQ.slices_SortFunc_total Tryz.sortDot 2 Tryz.isAgg85 Tryz.sizeOf85 encD (fun _ => rfl) (fun x v hv => by simp [encD] at hv; rcases hv with rfl | rfl <;> rfl) ordI swoD 68 #[] g 0 cap l.toArray w eg (cmpD g 0 _ w) hH hg (by simpa using hsz) totD
 change Calls Tryz.prog 82 _ _ _ at hcon
 simp only [List.size_toArray] at hcon
 refine hcon.mono ?_
 rintro e w' ⟨he, n, os, hw⟩
 refine ⟨he, ?_, fun base h1 h2 => by rw [hw]; exact below_sort h1 h2⟩
 have hH' : HoldsK encD 2 w' g 0 (srt l).toArray := by
  rw [hw]
  refine holdsK_grow _ _ _ _ _ _ _ (by simp [putRowK]; exact hg) ?_
  exact holdsK_putRowK _ _ _ _ _ l.toArray _ (holdsK_ahead _ _ _ _ _ _ _ hH) (by simp)
 refine rowK hH' ?_
 rw [hw]
 simp [sortWorldK, grow, putRowK]
 omega

theorem sortOwn (base : Nat) (v : Value) (l : List (Int × Int)) (w : World) (hown : Own w base v l) (hb : base ≤ w.heap.size) (hsz : l.length < 4611686018427387904) :
  Calls Tryz.prog 82 #[v, .func (.func 68) #[] #[]] w fun e w' => e = .returned (.tuple #[]) ∧ (∃ C cap, v = .slice C (srt l).length cap ∧ Row w' C (srt l)) ∧ Below base w w' := by
 rcases hown.2 with ⟨hv, hn⟩ | ⟨g, cap, cur, hv, hbg, hg, _⟩
 ·obtain rfl : l = [] := List.eq_nil_of_length_eq_zero hn
  have hcon := AnyF.slices_SortFunc_none Tryz.sortDot none 0 (.func (.func 68) #[] #[]) w
  change Calls Tryz.prog 82 _ _ _ at hcon
  rw [hv]
  refine hcon.mono ?_
  rintro e w' ⟨he, rfl⟩
  exact ⟨he, ⟨none, 0, by simp [srt], Or.inl (by simp [srt])⟩, Below.refl _ _⟩
 ·have hlt : g < w.heap.size := (Array.getElem?_eq_some_iff.1 hg).1
  have hc := hown.cells (g := g) (by rw [hv]; rfl)
  have hH : HoldsK encD 2 w g 0 l.toArray := by
   refine holdsD (fun j hj => ?_) (fun j => ?_)
   ·have e := flat_get l j hj
    have c0 := hc _ _ e.1
    have c1 := hc _ _ e.2
    rw [Addr.add_lit] at c0 c1
    exact ⟨c0, c1⟩
   ·have := World.ownsRow.frozenAt (by rw [← hv]; exact hown) (g := g) (cap := cap) j
    exact this
  rw [hv]
  refine (sortD g cap l w hH hlt hsz).mono ?_
  rintro e w' ⟨he, hrow, hbel⟩
  exact ⟨he, ⟨_, cap, by rw [srt_length], hrow⟩, hbel base hbg hb⟩

set_option maxHeartbeats 1000000 in
theorem rising_any (a b : List (Int × Int)) (A B : Option Addr) (ca cb : Nat) (w : World) (ha : Row w A a) (hb : Row w B b) (hA : A = none → ca = 0) (hB : B = none → cb = 0) (hal : a.length ≤ 400) (hbl : b.length ≤ 400) :
  Calls Tryz.prog 64 #[.slice A a.length ca, .slice B b.length cb] w fun e w' => ∃ C cap, e = .returned (.slice C (srt (a ++ b)).length cap) ∧ Row w' C (srt (a ++ b)) ∧ Below w.heap.size w w' := by
 obtain ⟨i0, hi, hz0, hz1, hz2⟩ := info_parts Tryz.info85
 go_enter Tryz.func64, Tryz.ntmps64
 have hbd : (a.length + b.length) * 16 ≤ 140737488355328 := by omega
 have hbd0 : (([] : List (Int × Int)).length + a.length) * 16 ≤ 140737488355328 := by simp; omega
 go_wp2_with (first | (at_make; refine wpList_make_own _ rfl _ (.tmp 10) 43 rfl w.heap.size 85 i0 _ 2 Tryz.underlying43 hi hz0 hz1 .i64 .i64 _ (a.length + b.length) rfl rfl (by omega) (by rw [hz2]; omega) (by unfold maxLen; omega) (Nat.le_refl _) ?_; intro w1 hown1 hgr1) | (at_builtin; refine wpList_append_dots _ rfl (.tmp 12) (.tmp 13) rfl w.heap.size (.slice (some ⟨w.heap.size, 0, none⟩) 0 (a.length + b.length)) [] a A ca rfl rfl hown1 (ha.below ((Below.refl _ w).grown hgr1 (Nat.le_refl _) (fun k e => by cases e))) hA hbd0 hgr1.size ?_; intro v2 w2 hown2 hgr2 _; simp only [List.nil_append] at hown2) | (at_builtin; refine wpList_append_dots _ rfl (.tmp 15) (.tmp 16) rfl w.heap.size v2 a b B cb rfl rfl hown2 (hb.below (((Below.refl _ w).grown hgr1 (Nat.le_refl _) (fun k e => by cases e)).trans (Own.grown_below (l := []) hown1 hgr2 hgr1.size))) hB hbd (Nat.le_trans hgr1.size hgr2.size) ?_; intro v3 w3 hown3 hgr3 _) | fail)
 have hb3 : Below w.heap.size w w3 := (((Below.refl _ w).grown hgr1 (Nat.le_refl _) (fun k e => by cases e)).trans (Own.grown_below (l := []) hown1 hgr2 hgr1.size)).trans (hown2.grown_below hgr3 (Nat.le_trans hgr1.size hgr2.size))
 refine (sortOwn w.heap.size v3 (a ++ b) w3 hown3 hb3.size (by rw [List.length_append]; omega)).mono ?_
 rintro e w4 ⟨rfl, ⟨C, cap, hv, hrow⟩, hbel⟩
 have hbel4 := hb3.trans hbel
 clear hown1 hgr1 hown2 hgr2 hown3 hgr3 hb3 hbel
 go_wp2
 go_ret
 exact ⟨C, cap, by rw [← hv]; rfl, hrow, hbel4⟩
end Go.Proofs.YtmoicbmhjmdgdaaGreat
