/-
  dot.fold: what it makes of a clock and of dots that are right and in order, step by step.
-/
import Derived.Test.YtjgefnipkaecgacCBox
namespace Go.Proofs.Ytjgefnipkaecgac
open Go.RowKit Go.Sort

set_option maxHeartbeats 4000000 in
theorem fold_any (c : Ctx) (l : List (Int × Int)) (A : Option Addr) (cap : Nat) (w : World) (hc0 : c.l = []) (hok : okClk c = true) (hl : l.length ≤ 800) (hri : ∀ x ∈ l, rightB x = true) (hr : Row w A l) :
    Calls Try.prog 47 #[.agg #[.int .i64 c.c0, .int .i64 c.c1, .int .i64 c.c2, .int .i64 c.c3], .slice A l.length cap] w fun e w' => ∃ C cp, e = .returned (.agg #[.int .i64 (foldTo c l l.length).c0, .int .i64 (foldTo c l l.length).c1, .int .i64 (foldTo c l l.length).c2, .int .i64 (foldTo c l l.length).c3, .slice C (foldTo c l l.length).l.length cp]) ∧ Row w' C (foldTo c l l.length).l ∧ (C = none → cp = 0) ∧ (∀ a, C = some a → w.heap.size ≤ a.block) ∧ Below w.heap.size w w' := by
  have hE := neqDot
  have hG := guardDot
  have hH : Hid (c.l = [] ∧ okClk c = true ∧ (∀ x ∈ l, rightB x = true)) := ⟨hc0, hok, hri⟩
  clear hc0 hok hri
  go_enter Try.func47, Try.ntmps47
  go_wp2
  go_loopw [13] (fun i wr => ∃ k : Nat, k ≤ l.length ∧ i = .int .i64 k ∧ CB wr (w.heap.size + 1 + 1) (w.heap.size + 1 + 1 + 1) (foldTo c l k) ∧ Below (w.heap.size + 1 + 1) ((w.alloc (.cells #[.int .i64 c.c0, .int .i64 c.c1, .int .i64 c.c2, .int .i64 c.c3] 22)).alloc (.cells #[.int .i64 0, .int .i64 0, .int .i64 0, .int .i64 0, .slice none 0 0] 25)) wr) (fun i _ => l.length - (intOf i).toNat)
  case atStart =>
    refine ⟨0, Nat.zero_le _, rfl, ?_, (Below.refl _ _).alloc (by simp) _⟩
    have := CB.start ((w.alloc (.cells #[.int .i64 c.c0, .int .i64 c.c1, .int .i64 c.c2, .int .i64 c.c3] 22)).alloc (.cells #[.int .i64 0, .int .i64 0, .int .i64 0, .int .i64 0, .slice none 0 0] 25)) hH.out.1 25
    show CB _ _ _ c
    simpa using this
  case round =>
    obtain ⟨k, hk, rfl, hCB, hbel⟩ := hrel
    have hbw : Hid (Below w.heap.size w wr) := (((Below.refl _ w).alloc (Nat.le_refl _) _).alloc (by simp) _).trans (hbel.mono (by omega))
    have hBlt := hCB.lt
    by_cases hlt : k < l.length
    · have hltz : (k : Int) < (l.length : Int) := by omega
      obtain ⟨b, off, rfl, hb, hcs⟩ := (hr.below hbw.out).at hlt
      obtain ⟨x, y, hx⟩ : ∃ x y, l[k] = (x, y) := ⟨_, _, rfl⟩
      have e0 := (hcs k hlt).1
      have e1 := (hcs k hlt).2
      rw [hx] at e0 e1
      have hcsH : Hid (∀ j (h : j < l.length), _) := hcs
      have hxH : Hid (l[k] = (x, y)) := hx
      have hn := rightB_node (hH.out.2.2 (x, y) (by rw [← hx]; exact List.getElem_mem hlt))
      have hFc := clk_of_ok (foldTo_clk hH.out.2.1 hH.out.2.2 k hk) x hn.1 hn.2.1
      have kc := hCB.clk hn.1 hn.2.1
      have kf := hCB.fz x.toNat
      simp only at hn
      clear hcs hx
      by_cases h1 : y ≤ clk (foldTo c l k) x
      · have hst : Hid (foldTo c l (k + 1) = foldTo c l k) := by
          cases k with
          | zero => show foldTo c l 1 = _; rw [foldTo_zero hlt hxH.out]; exact step_le h1
          | succ m => show foldTo c l (m + 2) = _; rw [foldTo_succ hlt hxH.out rfl]; exact step_le h1
        go_wp2
        go_roundw
        case rel => exact ⟨k + 1, by omega, by go_num, by rw [hst.out]; exact hCB.gr ((Gr.refl _).alloc _), hbel.alloc (by omega) _⟩
        case measure => simp [intOf]; omega
      · by_cases h2 : y = clk (foldTo c l k) x + 1
        · have hst : Hid (foldTo c l (k + 1) = setClk (foldTo c l k) x y) := by
            cases k with
            | zero => show foldTo c l 1 = _; rw [foldTo_zero hlt hxH.out]; exact step_eq h2
            | succ m => show foldTo c l (m + 2) = _; rw [foldTo_succ hlt hxH.out rfl]; exact step_eq h2
          have h1b : decide (y ≤ clk (foldTo c l k) x) = false := by simpa using h1
          have h2b : (y == clk (foldTo c l k) x + 1) = true := by simpa using h2
          have h2H : Hid (y = clk (foldTo c l k) x + 1) := h2
          clear h2 h1
          go_wp2
          go_roundw
          case rel => exact ⟨k + 1, by omega, by go_num, by rw [hst.out]; exact (hCB.setClk hn.1 hn.2.1 y).gr ((Gr.refl _).alloc _), (hbel.setCell (Nat.le_refl _) _).alloc (by simp only [World.setCell, Array.size_modify]; omega) _⟩
          case measure => simp [intOf]; omega
        · have h1b : decide (y ≤ clk (foldTo c l k) x) = false := by simpa using h1
          have h2b : (y == clk (foldTo c l k) x + 1) = false := by simpa using h2
          have h12 : Hid (¬ y ≤ clk (foldTo c l k) x ∧ ¬ y = clk (foldTo c l k) x + 1) := ⟨h1, h2⟩
          clear h1 h2
          obtain ⟨v, k4, hov⟩ := hCB.v
          have hovH : Hid (Own wr (w.heap.size + 1 + 1 + 1) v (foldTo c l k).l) := hov
          have hlen := foldTo_len c l k
          have hbd : Hid (((foldTo c l k).l.length + [(x, y)].length) * 16 ≤ 140737488355328) := by
            have := hH.out.1
            rw [this] at hlen
            simp only [List.length_nil, List.length_cons] at hlen ⊢
            show _ ≤ _
            omega
          clear hov hlen
          cases k with
          | zero =>
            have hst : Hid (foldTo c l 1 = { foldTo c l 0 with l := (foldTo c l 0).l ++ [(x, y)] }) := by
              show foldTo c l 1 = _
              rw [foldTo_zero hlt hxH.out]
              exact step_new h12.out.1 h12.out.2 (by simp)
            simp only [Nat.zero_mul, Nat.add_zero] at e0 e1
            go_wp2
            go_quiet (fail)
            go_wp2_with (at_builtin; refine wpList_append_dots _ rfl (.tmp 53) (.tmp 55) rfl (w.heap.size + 1 + 1 + 1) v (foldTo c l 0).l [(x, y)] (some ⟨wr.heap.size + 1, 0, none⟩) 1 rfl rfl ?ho ?hr (fun h => by cases h) hbd.out ?hs ?_)
            case ho => exact hovH.out.gr ((((Gr.refl wr).alloc _).drewN nq).alloc _)
            case hr => exact rowNew (by simp) x y _
            case hs => simp; omega
            intro v1 w1 hown1 hgr1 _
            obtain ⟨C, cp, rfl, hC, -, -⟩ := hown1.row
            have hgA : Gr wr (((wr.alloc (.cells #[.int .i64 x, .int .i64 y] 62)).drewN nq).alloc (.cells #[.int .i64 x, .int .i64 y] 62)) := (((Gr.refl wr).alloc _).drewN nq).alloc _
            have hb1 : Below (w.heap.size + 1 + 1 + 1) (((wr.alloc (.cells #[.int .i64 x, .int .i64 y] 62)).drewN nq).alloc (.cells #[.int .i64 x, .int .i64 y] 62)) w1 := Own.grown_below (hovH.out.gr hgA) hgr1 (by simp; omega)
            have hfin := (hCB.gr hgA).setL hb1 hown1
            have hbel1 : Below (w.heap.size + 1 + 1) ((w.alloc (.cells #[.int .i64 c.c0, .int .i64 c.c1, .int .i64 c.c2, .int .i64 c.c3] 22)).alloc (.cells #[.int .i64 0, .int .i64 0, .int .i64 0, .int .i64 0, .slice none 0 0] 25)) w1 := (hbel.trans (hgA.below.mono (by omega))).trans (hb1.mono (by omega))
            have c4 : w1.cell? ⟨w.heap.size + 1 + 1, 4, none⟩ = some v := (hb1.cell (p := ⟨w.heap.size + 1 + 1, 4, none⟩) (by simp)).trans ((hgA.cell (p := ⟨w.heap.size + 1 + 1, 4, none⟩) hBlt).trans k4)
            have f4 : w1.frozen? ⟨w.heap.size + 1 + 1, 4, none⟩ = false := (hb1.frozen (p := ⟨w.heap.size + 1 + 1, 4, none⟩) (by simp)).trans ((hCB.gr hgA).fz 4)
            have hfinH : Hid (CB _ _ _ _) := hfin
            have hbelH : Hid (Below _ _ _) := hbel1
            clear hfin hbel1 hb1 hgA hgr1 hown1 hbel hCB k4 kc kf e0 e1
            go_wp2
            go_roundw
            case rel => exact ⟨1, hlt, by go_num, by rw [hst.out]; have := hfinH.out; simp only [List.length_append, List.length_cons, List.length_nil, Nat.zero_add] at this; exact this, hbelH.out.setCell (Nat.le_refl _) _⟩
            case measure => simp [intOf]; omega
          | succ m =>
            obtain ⟨x', y', hx'⟩ : ∃ x' y', l[m] = (x', y') := ⟨_, _, rfl⟩
            have g0 := (hcsH.out m (by omega)).1
            have g1 := (hcsH.out m (by omega)).2
            rw [hx'] at g0 g1
            have hxH' : Hid (l[m] = (x', y')) := hx'
            clear hx'
            have hm0 : ((m : Int) + 1 == 0) = false := by simp; omega
            cases hq : (x' == x && y' == y)
            · have hst : Hid (foldTo c l (m + 2) = { foldTo c l (m + 1) with l := (foldTo c l (m + 1)).l ++ [(x, y)] }) := by
                show foldTo c l (m + 2) = _
                rw [foldTo_succ hlt hxH.out hxH'.out]
                refine step_new h12.out.1 h12.out.2 ?_
                intro h
                injection h with h
                injection h with h1 h2
                subst h1 h2
                simp at hq
              go_wp2
              go_quiet (fail)
              go_wp2_with (at_builtin; refine wpList_append_dots _ rfl (.tmp 53) (.tmp 55) rfl (w.heap.size + 1 + 1 + 1) v (foldTo c l (m + 1)).l [(x, y)] (some ⟨wr.heap.size + 1, 0, none⟩) 1 rfl rfl ?ho ?hr (fun h => by cases h) hbd.out ?hs ?_)
              case ho => exact hovH.out.gr ((((Gr.refl wr).alloc _).drewN nq).alloc _)
              case hr => exact rowNew (by simp) x y _
              case hs => simp; omega
              intro v1 w1 hown1 hgr1 _
              obtain ⟨C, cp, rfl, hC, -, -⟩ := hown1.row
              have hgA : Gr wr (((wr.alloc (.cells #[.int .i64 x, .int .i64 y] 62)).drewN nq).alloc (.cells #[.int .i64 x, .int .i64 y] 62)) := (((Gr.refl wr).alloc _).drewN nq).alloc _
              have hb1 : Below (w.heap.size + 1 + 1 + 1) (((wr.alloc (.cells #[.int .i64 x, .int .i64 y] 62)).drewN nq).alloc (.cells #[.int .i64 x, .int .i64 y] 62)) w1 := Own.grown_below (hovH.out.gr hgA) hgr1 (by simp; omega)
              have hfin := (hCB.gr hgA).setL hb1 hown1
              have hbel1 : Below (w.heap.size + 1 + 1) ((w.alloc (.cells #[.int .i64 c.c0, .int .i64 c.c1, .int .i64 c.c2, .int .i64 c.c3] 22)).alloc (.cells #[.int .i64 0, .int .i64 0, .int .i64 0, .int .i64 0, .slice none 0 0] 25)) w1 := (hbel.trans (hgA.below.mono (by omega))).trans (hb1.mono (by omega))
              have c4 : w1.cell? ⟨w.heap.size + 1 + 1, 4, none⟩ = some v := (hb1.cell (p := ⟨w.heap.size + 1 + 1, 4, none⟩) (by simp)).trans ((hgA.cell (p := ⟨w.heap.size + 1 + 1, 4, none⟩) hBlt).trans k4)
              have f4 : w1.frozen? ⟨w.heap.size + 1 + 1, 4, none⟩ = false := (hb1.frozen (p := ⟨w.heap.size + 1 + 1, 4, none⟩) (by simp)).trans ((hCB.gr hgA).fz 4)
              have hfinH : Hid (CB _ _ _ _) := hfin
              have hbelH : Hid (Below _ _ _) := hbel1
              clear hfin hbel1 hb1 hgA hgr1 hown1 hbel hCB k4 kc kf e0 e1
              go_wp2
              go_roundw
              case rel => exact ⟨m + 2, hlt, by go_num, by rw [hst.out]; have := hfinH.out; simp only [List.length_append, List.length_cons, List.length_nil, Nat.zero_add] at this; exact this, hbelH.out.setCell (Nat.le_refl _) _⟩
              case measure => simp [intOf]; omega
            · have hst : Hid (foldTo c l (m + 2) = foldTo c l (m + 1)) := by
                show foldTo c l (m + 2) = _
                rw [foldTo_succ hlt hxH.out hxH'.out]
                simp only [Bool.and_eq_true, beq_iff_eq] at hq
                rw [hq.1, hq.2]
                exact step_dup h12.out.1 h12.out.2
              go_wp2
              go_quiet (fail)
              go_wp2
              go_roundw
              case rel => exact ⟨m + 2, hlt, by go_num, by rw [hst.out]; exact hCB.gr (((Gr.refl _).alloc _).drewN nq), (hbel.alloc (by omega) _).trans ((((Gr.refl _).drewN nq).below).mono (by simp; omega))⟩
              case measure => simp [intOf]; omega
    · have hltz : ¬ (k : Int) < (l.length : Int) := by omega
      obtain rfl : k = l.length := by omega
      obtain ⟨F, hF⟩ : ∃ F, foldTo c l l.length = F := ⟨_, rfl⟩
      rw [hF] at hCB
      have HF : Hid (foldTo c l l.length = F) := hF
      clear hF
      obtain ⟨v, k0, k1, k2, k3, k4, hov, hf, hBb, hBs⟩ := hCB
      obtain ⟨C, cp, rfl, hC, hrow, hCb⟩ := hov.row
      have r0 := (hbel.cell (p := ⟨w.heap.size + 1, 0, none⟩) (by simp)).trans (show _ = some (.int .i64 0) by go_simp)
      have r1 := (hbel.cell (p := ⟨w.heap.size + 1, 1, none⟩) (by simp)).trans (show _ = some (.int .i64 0) by go_simp)
      have r2 := (hbel.cell (p := ⟨w.heap.size + 1, 2, none⟩) (by simp)).trans (show _ = some (.int .i64 0) by go_simp)
      have r3 := (hbel.cell (p := ⟨w.heap.size + 1, 3, none⟩) (by simp)).trans (show _ = some (.int .i64 0) by go_simp)
      have r4 := (hbel.cell (p := ⟨w.heap.size + 1, 4, none⟩) (by simp)).trans (show _ = some (.slice none 0 0) by go_simp)
      have rf : ∀ j, wr.frozen? ⟨w.heap.size + 1, j, none⟩ = false := fun j => (hbel.frozen (p := ⟨w.heap.size + 1, j, none⟩) (by simp)).trans (by simp)
      have hovH : Hid (Own _ _ _ _) := hov
      clear hov hf
      have hCn : ∀ a, C = some a → a.block ≠ w.heap.size + 1 := fun a ha => by have := (hCb a ha).1; omega
      go_wp2
      rw [HF.out]
      refine bodyPost_ret (v := .agg #[.int .i64 F.c0, .int .i64 F.c1, .int .i64 F.c2, .int .i64 F.c3, .slice C F.l.length cp]) (by simp [results, Try.results47, go_sem, r0, r1, r2, r3, r4]) rfl ⟨C, cp, rfl, ?_, hC, fun a ha => by have := (hCb a ha).1; omega, ?_⟩
      · exact ((((hrow.setCell _ hCn).setCell _ hCn).setCell _ hCn).setCell _ hCn).setCell _ hCn
      · exact ((((hbw.out.setCell (by simp) _).setCell (by simp) _).setCell (by simp) _).setCell (by simp) _).setCell (by simp) _

end Go.Proofs.Ytjgefnipkaecgac
