/-
  viewref.Missing: the dots that a has and b hasn't, of right contexts.
-/
import Derived.Test.YtjgefnipkaecgaaMinus
import Derived.Test.YtjgefnipkaecgaaRHas
namespace Go.Proofs.Ytjgefnipkaecgaa
open Go.RowKit Go.Sort

theorem rhas_g {c : Ctx} {A : Option Addr} {cap : Nat} {x y : Int} {r : Bool} {w : World} (hx : hasB c (x, y) = r) (hl : c.l.length ≤ maxLen) (hr : Row w A c.l) :
    Calls Try.prog 18 #[.agg #[.int .i64 c.c0, .int .i64 c.c1, .int .i64 c.c2, .int .i64 c.c3, .slice A c.l.length cap], .agg #[.int .i64 x, .int .i64 y]] w fun e w' => e = .returned (.bool r) ∧ Gr w w' := by
  rw [← hx]; exact rhas_any c A cap (x, y) w hl hr

theorem miss1_start (b : Ctx) (node : Int) (l : List (Int × Int)) (ka kb : Int) : miss1 b node ka (ka + 1 - (min ka kb + 1)).toNat l (min ka kb + 1) = miss1 b node ka (ka - kb).toNat l (kb + 1) := by
  rcases Int.lt_or_le ka kb with h | h
  · rw [show (ka + 1 - (min ka kb + 1)).toNat = 0 from by omega, show (ka - kb).toNat = 0 from by omega]; rfl
  · rw [show min ka kb = kb from by omega, show ka + 1 - (kb + 1) = ka - kb from by omega]

set_option maxHeartbeats 4000000 in
theorem rmissing_any (a b : Ctx) (A B : Option Addr) (ca cb : Nat) (w : World) (hoa : okClk a = true) (hob : okClk b = true) (hal : a.l.length ≤ 400) (hbl : b.l.length ≤ 400) (hra : Row w A a.l) (hrb : Row w B b.l) :
    Calls Try.prog 22 #[.agg #[.int .i64 a.c0, .int .i64 a.c1, .int .i64 a.c2, .int .i64 a.c3, .slice A a.l.length ca], .agg #[.int .i64 b.c0, .int .i64 b.c1, .int .i64 b.c2, .int .i64 b.c3, .slice B b.l.length cb]] w fun e w' => ∃ C cp, e = .returned (.slice C (missK a b 4).length cp) ∧ Row w' C (missK a b 4) ∧ (C = none → cp = 0) ∧ Below w.heap.size w w' := by
  have hg0 : Gr w ((w.alloc (.cells #[.int .i64 a.c0, .int .i64 a.c1, .int .i64 a.c2, .int .i64 a.c3, .slice A a.l.length ca] 25)).alloc (.cells #[.int .i64 b.c0, .int .i64 b.c1, .int .i64 b.c2, .int .i64 b.c3, .slice B b.l.length cb] 25)) := ((Gr.refl w).alloc _).alloc _
  have hAM0 : AM w ((w.alloc (.cells #[.int .i64 a.c0, .int .i64 a.c1, .int .i64 a.c2, .int .i64 a.c3, .slice A a.l.length ca] 25)).alloc (.cells #[.int .i64 b.c0, .int .i64 b.c1, .int .i64 b.c2, .int .i64 b.c3, .slice B b.l.length cb] 25)) w.heap.size w.heap.size a b A B ca cb (.slice none 0 0) [] := ⟨Own.nil _ _, (fun k hk => by cases hk), (CtxAt.new 25 hra rfl).gr ((Gr.refl _).alloc _), CtxAt.new 25 (hrb.gr ((Gr.refl _).alloc _)) (by simp), hg0.below, hg0.size, fun x hx hl => hra.lt x hx hl, fun x hx hl => hrb.lt x hx hl⟩
  have hbM : Hid (b.l.length ≤ maxLen) := by show _ ≤ _; unfold maxLen; omega
  clear hra hrb
  go_enter Try.func22, Try.ntmps22
  go_wp2
  go_loopw [5, 6] (fun v i wr => ∃ (V : Value) (q : Nat), v = V ∧ q ≤ 4 ∧ i = .int .i64 q ∧ (missK a b q).length ≤ 401 + 400 * q ∧ AM w wr w.heap.size w.heap.size a b A B ca cb V (missK a b q)) (fun _ i _ => 4 - (intOf i).toNat)
  case atStart => exact ⟨_, 0, rfl, by omega, rfl, by simp [missK], hAM0⟩
  case round =>
    clear hAM0
    obtain ⟨V, q, rfl, hq, rfl, hmq, hAM⟩ := hrel
    obtain ⟨A0, cap0, rfl, hA0, hrow0, _⟩ := hAM.own.row
    by_cases hq4 : q < 4
    · have hq4z : (q : Int) < 4 := by omega
      have hca := clk_of_ok hoa (q : Int) (by omega) hq4z
      have hcb := clk_of_ok hob (q : Int) (by omega) hq4z
      have hqn := missK_len a b q
      have ka : wr.cell? ⟨w.heap.size, q, none⟩ = some (.int .i64 (clk a (q : Int))) := by have h := ctxClk hAM.ca (a := (q : Int)) (by omega) (by omega); rw [Int.toNat_natCast] at h; exact h
      have kb : wr.cell? ⟨w.heap.size + 1, q, none⟩ = some (.int .i64 (clk b (q : Int))) := by have h := ctxClk hAM.cb (a := (q : Int)) (by omega) (by omega); rw [Int.toNat_natCast] at h; exact h
      go_upto_region 5 with fail
      go_quiet (fail)
      go_wp2
      clear ka kb
      go_loopw [5, 7] (fun v s wr => ∃ (V : Value) (m : List (Int × Int)) (t : Int), v = V ∧ s = .int .i64 t ∧ min (clk a (q : Int)) (clk b (q : Int)) + 1 ≤ t ∧ t ≤ 1099511627777 ∧ m.length ≤ 2002 ∧ AM w wr w.heap.size w.heap.size a b A B ca cb V m ∧ Hid (miss1 b (q : Int) (clk a (q : Int)) (clk a (q : Int) + 1 - t).toNat m t = miss1 b (q : Int) (clk a (q : Int)) (clk a (q : Int) - clk b (q : Int)).toNat (missK a b q) (clk b (q : Int) + 1))) (fun _ s _ => (clk a (q : Int) + 1 - intOf s).toNat)
      case atStart => exact ⟨_, missK a b q, min (clk a (q : Int)) (clk b (q : Int)) + 1, rfl, by go_num, by omega, by omega, by omega, hAM.gr ((Gr.refl _).drewN _), miss1_start b (q : Int) _ _ _⟩
      case round =>
        clear hAM
        rename World => wq
        obtain ⟨V, m, t, rfl, rfl, ht1, ht2, hml, hAM, hmi⟩ := hrel
        obtain ⟨A1, cap1, rfl, hA1, _, _⟩ := hAM.own.row
        have kc := hAM.ca.k4
        have ka : wq.cell? ⟨w.heap.size, q, none⟩ = some (.int .i64 (clk a (q : Int))) := by have h := ctxClk hAM.ca (a := (q : Int)) (by omega) (by omega); rw [Int.toNat_natCast] at h; exact h
        by_cases hs : t ≤ clk a (q : Int)
        · by_cases hl4 : m.length ≤ 400
          · have hl4z : (m.length : Int) ≤ 400 := by omega
            have hst := miss1_step (b := b) (node := (q : Int)) hs hl4
            have hgD : Gr wq (wq.alloc (.cells #[.int .i64 (q : Int), .int .i64 t] 27)) := (Gr.refl _).alloc _
            obtain ⟨b0, b1, b2, b3, b4, blt, brow⟩ := (show CtxAt _ _ _ _ _ from hAM.cb)
            cases hh : hasB b ((q : Int), t)
            · rw [hh] at hst
              simp only [Bool.false_eq_true, if_false] at hst
              have hnx : Hid (miss1 b (q : Int) (clk a (q : Int)) (clk a (q : Int) + 1 - (t + 1)).toNat (m ++ [((q : Int), t)]) (t + 1) = miss1 b (q : Int) (clk a (q : Int)) (clk a (q : Int) - clk b (q : Int)).toNat (missK a b q) (clk b (q : Int) + 1)) := hst.symm.trans hmi.out
              clear hst
              have hbd : Hid ((m.length + [((q : Int), t)].length) * 16 ≤ 140737488355328) := by show _ ≤ _; simp only [List.length_cons, List.length_nil]; omega
              go_wp2_with (first | (go_at_call 18; refine (rhas_g hh hbM.out (brow.gr hgD)).mono ?_; rintro e w1 ⟨rfl, hg1⟩; have hd0 := (hg1.cell (p := ⟨wq.heap.size, 0, none⟩) (by simp)).trans (box1 (Gr.refl (wq.alloc (.cells #[.int .i64 (q : Int), .int .i64 t] 27))) (j := 0) rfl); have hd1 := (hg1.cell (p := ⟨wq.heap.size, 1, none⟩) (by simp)).trans (box1 (Gr.refl (wq.alloc (.cells #[.int .i64 (q : Int), .int .i64 t] 27))) (j := 1) rfl)) | (at_builtin; refine wpList_append_dots _ rfl (.tmp 45) (.tmp 47) rfl w.heap.size (.slice A1 m.length cap1) m [((q : Int), t)] (some ⟨w1.heap.size, 0, none⟩) 1 rfl rfl ?ho ?hr (fun h => by cases h) hbd.out ?hs ?_))
              case ho => exact (hAM.gr ((hgD.trans hg1).alloc _)).own
              case hr => exact rowNew rfl (q : Int) t _
              case hs => exact (hAM.gr ((hgD.trans hg1).alloc _)).bs
              intro v1 w2 hown1 hgr1 hat1
              have hAM2 : Hid (AM w w2 w.heap.size w.heap.size a b A B ca cb v1 (m ++ [((q : Int), t)])) := hAM.append ((hgD.trans hg1).alloc _) hown1 hgr1 (by simp) hat1
              clear hown1 hgr1 hat1 hd0 hd1 hAM
              go_wp2
              go_roundw
              case rel => exact ⟨v1, m ++ [((q : Int), t)], t + 1, rfl, by go_num, by omega, by omega, by simp only [List.length_append, List.length_cons, List.length_nil]; omega, hAM2.out, hnx⟩
              case measure => simp [intOf]; omega
            · rw [hh] at hst
              simp only [if_true] at hst
              have hnx : Hid (miss1 b (q : Int) (clk a (q : Int)) (clk a (q : Int) + 1 - (t + 1)).toNat m (t + 1) = miss1 b (q : Int) (clk a (q : Int)) (clk a (q : Int) - clk b (q : Int)).toNat (missK a b q) (clk b (q : Int) + 1)) := hst.symm.trans hmi.out
              clear hst
              go_wp2_with (go_at_call 18; refine (rhas_g hh hbM.out (brow.gr hgD)).mono ?_; rintro e w1 ⟨rfl, hg1⟩)
              go_roundw
              case rel => exact ⟨_, m, t + 1, rfl, by go_num, by omega, by omega, hml, hAM.gr (hgD.trans hg1), hnx⟩
              case measure => simp [intOf]; omega
          · have hl4z : ¬ (m.length : Int) ≤ 400 := by omega
            have hstop : ¬ (t ≤ clk a (q : Int) ∧ m.length ≤ 400) := fun h => hl4 h.2
            have hmm : Hid (missN a b (q : Int) (missK a b q) = miss2 b (q : Int) a.l m) := by
              show missN a b (q : Int) (missK a b q) = _
              unfold missN
              rw [← hmi.out, miss1_stop hstop]
            clear hmi hstop
            obtain ⟨b0, b1, b2, b3, b4, blt, brow⟩ := (show CtxAt _ _ _ _ _ from hAM.cb)
            go_wp2
            clear kc ka b0 b1 b2 b3 b4 blt brow
            go_loopw [5, 9] (fun v i wi => ∃ (V : Value) (k : Nat), v = V ∧ k ≤ a.l.length ∧ i = .int .i64 k ∧ AM w wi w.heap.size w.heap.size a b A B ca cb V (miss2 b (q : Int) (a.l.take k) m)) (fun _ i _ => a.l.length - (intOf i).toNat)
            case atStart => exact ⟨_, 0, rfl, Nat.zero_le _, rfl, hAM⟩
            case round =>
              clear hAM
              rename World => wi
              obtain ⟨V, k, rfl, hk, rfl, hAM⟩ := hrel
              have hln := miss2_len b (q : Int) (a.l.take k) m
              have hlt2 : (a.l.take k).length ≤ k := List.length_take_le _ _
              obtain ⟨M, hM⟩ : ∃ M, miss2 b (q : Int) (a.l.take k) m = M := ⟨_, rfl⟩
              rw [hM] at hAM hln
              have HM : Hid (miss2 b (q : Int) (a.l.take k) m = M) := hM
              clear hM
              obtain ⟨A2, cap2, rfl, hA2, _, _⟩ := hAM.own.row
              have kc := hAM.ca.k4
              by_cases hlt : k < a.l.length
              · have hltz : (k : Int) < (a.l.length : Int) := by omega
                obtain ⟨bb, off, rfl, hbb, hcs⟩ := hAM.ca.row.at hlt
                obtain ⟨x, y, hx⟩ : ∃ x y, a.l[k] = (x, y) := ⟨_, _, rfl⟩
                have e0 := (hcs k hlt).1
                have e1 := (hcs k hlt).2
                rw [hx] at e0 e1
                have hst := miss2_take (b := b) (node := (q : Int)) (l := m) hlt hx
                rw [HM.out] at hst
                simp only at hst
                clear hcs hx
                have hgD : Gr wi (wi.alloc (.cells #[.int .i64 x, .int .i64 y] 27)) := (Gr.refl _).alloc _
                obtain ⟨b0, b1, b2, b3, b4, blt, brow⟩ := (show CtxAt _ _ _ _ _ from hAM.cb)
                by_cases hxn : x = (q : Int)
                · subst hxn
                  cases hh : hasB b ((q : Int), y)
                  · have hst2 : Hid (miss2 b (q : Int) (a.l.take (k + 1)) m = M ++ [((q : Int), y)]) := by show _ = _; rw [hst, if_pos ⟨rfl, hh⟩]
                    have hbd : Hid ((M.length + [((q : Int), y)].length) * 16 ≤ 140737488355328) := by show _ ≤ _; simp only [List.length_cons, List.length_nil]; omega
                    clear hst
                    go_wp2_with (first | (go_at_call 18; refine (rhas_g hh hbM.out (brow.gr hgD)).mono ?_; rintro e w1 ⟨rfl, hg1⟩; have hd0 := (hg1.cell (p := ⟨wi.heap.size, 0, none⟩) (by simp)).trans (box1 (Gr.refl (wi.alloc (.cells #[.int .i64 (q : Int), .int .i64 y] 27))) (j := 0) rfl); have hd1 := (hg1.cell (p := ⟨wi.heap.size, 1, none⟩) (by simp)).trans (box1 (Gr.refl (wi.alloc (.cells #[.int .i64 (q : Int), .int .i64 y] 27))) (j := 1) rfl)) | (at_builtin; refine wpList_append_dots _ rfl (.tmp 71) (.tmp 73) rfl w.heap.size (.slice A2 M.length cap2) M [((q : Int), y)] (some ⟨w1.heap.size, 0, none⟩) 1 rfl rfl ?ho ?hr (fun h => by cases h) hbd.out ?hs ?_))
                    case ho => exact (hAM.gr ((hgD.trans hg1).alloc _)).own
                    case hr => exact rowNew rfl (q : Int) y _
                    case hs => exact (hAM.gr ((hgD.trans hg1).alloc _)).bs
                    intro v1 w2 hown1 hgr1 hat1
                    have hAM2 : Hid (AM w w2 w.heap.size w.heap.size a b (some ⟨bb, off, none⟩) B ca cb v1 (M ++ [((q : Int), y)])) := hAM.append ((hgD.trans hg1).alloc _) hown1 hgr1 (by simp) hat1
                    clear hown1 hgr1 hat1 hd0 hd1 hAM
                    go_wp2
                    go_roundw
                    case rel => exact ⟨v1, k + 1, rfl, by omega, by go_num, by rw [hst2.out]; exact hAM2.out⟩
                    case measure => simp [intOf]; omega
                  · have hst2 : Hid (miss2 b (q : Int) (a.l.take (k + 1)) m = M) := by show _ = _; rw [hst, if_neg (by rw [hh]; simp)]
                    clear hst
                    go_wp2_with (go_at_call 18; refine (rhas_g hh hbM.out (brow.gr hgD)).mono ?_; rintro e w1 ⟨rfl, hg1⟩)
                    go_roundw
                    case rel => exact ⟨_, k + 1, rfl, by omega, by go_num, by rw [hst2.out]; exact hAM.gr (hgD.trans hg1)⟩
                    case measure => simp [intOf]; omega
                · have hst2 : Hid (miss2 b (q : Int) (a.l.take (k + 1)) m = M) := by show _ = _; rw [hst, if_neg (fun h => hxn h.1)]
                  have hxb : (x == (q : Int)) = false := by simpa using hxn
                  clear hst hxn
                  go_wp2
                  go_roundw
                  case rel => exact ⟨_, k + 1, rfl, by omega, by go_num, by rw [hst2.out]; exact hAM.gr hgD⟩
                  case measure => simp [intOf]; omega
              · have hltz : ¬ (k : Int) < (a.l.length : Int) := by omega
                have hke : a.l.take k = a.l := List.take_of_length_le (by omega)
                have hfin : Hid (missN a b (q : Int) (missK a b q) = M) := by
                  have h1 := HM.out
                  rw [hke] at h1
                  exact hmm.out.trans h1
                clear hke HM
                have hnxA : Hid (missK a b (q + 1) = M) := hfin.out
                go_wp2
                go_roundw
                case rel => exact ⟨_, q + 1, rfl, by omega, by go_num, by omega, by rw [hnxA.out]; exact hAM⟩
                case measure => simp [intOf]; omega
        · have hsb : decide (t ≤ clk a (q : Int)) = false := by simpa using hs
          have hstop : ¬ (t ≤ clk a (q : Int) ∧ m.length ≤ 400) := fun h => hs h.1
          have hmm : Hid (missN a b (q : Int) (missK a b q) = miss2 b (q : Int) a.l m) := by
            show missN a b (q : Int) (missK a b q) = _
            unfold missN
            rw [← hmi.out, miss1_stop hstop]
          clear hmi hstop
          obtain ⟨b0, b1, b2, b3, b4, blt, brow⟩ := (show CtxAt _ _ _ _ _ from hAM.cb)
          go_wp2
          clear kc ka b0 b1 b2 b3 b4 blt brow
          go_loopw [5, 9] (fun v i wi => ∃ (V : Value) (k : Nat), v = V ∧ k ≤ a.l.length ∧ i = .int .i64 k ∧ AM w wi w.heap.size w.heap.size a b A B ca cb V (miss2 b (q : Int) (a.l.take k) m)) (fun _ i _ => a.l.length - (intOf i).toNat)
          case atStart => exact ⟨_, 0, rfl, Nat.zero_le _, rfl, hAM⟩
          case round =>
            clear hAM
            rename World => wi
            obtain ⟨V, k, rfl, hk, rfl, hAM⟩ := hrel
            have hln := miss2_len b (q : Int) (a.l.take k) m
            have hlt2 : (a.l.take k).length ≤ k := List.length_take_le _ _
            obtain ⟨M, hM⟩ : ∃ M, miss2 b (q : Int) (a.l.take k) m = M := ⟨_, rfl⟩
            rw [hM] at hAM hln
            have HM : Hid (miss2 b (q : Int) (a.l.take k) m = M) := hM
            clear hM
            obtain ⟨A2, cap2, rfl, hA2, _, _⟩ := hAM.own.row
            have kc := hAM.ca.k4
            by_cases hlt : k < a.l.length
            · have hltz : (k : Int) < (a.l.length : Int) := by omega
              obtain ⟨bb, off, rfl, hbb, hcs⟩ := hAM.ca.row.at hlt
              obtain ⟨x, y, hx⟩ : ∃ x y, a.l[k] = (x, y) := ⟨_, _, rfl⟩
              have e0 := (hcs k hlt).1
              have e1 := (hcs k hlt).2
              rw [hx] at e0 e1
              have hst := miss2_take (b := b) (node := (q : Int)) (l := m) hlt hx
              rw [HM.out] at hst
              simp only at hst
              clear hcs hx
              have hgD : Gr wi (wi.alloc (.cells #[.int .i64 x, .int .i64 y] 27)) := (Gr.refl _).alloc _
              obtain ⟨b0, b1, b2, b3, b4, blt, brow⟩ := (show CtxAt _ _ _ _ _ from hAM.cb)
              by_cases hxn : x = (q : Int)
              · subst hxn
                cases hh : hasB b ((q : Int), y)
                · have hst2 : Hid (miss2 b (q : Int) (a.l.take (k + 1)) m = M ++ [((q : Int), y)]) := by show _ = _; rw [hst, if_pos ⟨rfl, hh⟩]
                  have hbd : Hid ((M.length + [((q : Int), y)].length) * 16 ≤ 140737488355328) := by show _ ≤ _; simp only [List.length_cons, List.length_nil]; omega
                  clear hst
                  go_wp2_with (first | (go_at_call 18; refine (rhas_g hh hbM.out (brow.gr hgD)).mono ?_; rintro e w1 ⟨rfl, hg1⟩; have hd0 := (hg1.cell (p := ⟨wi.heap.size, 0, none⟩) (by simp)).trans (box1 (Gr.refl (wi.alloc (.cells #[.int .i64 (q : Int), .int .i64 y] 27))) (j := 0) rfl); have hd1 := (hg1.cell (p := ⟨wi.heap.size, 1, none⟩) (by simp)).trans (box1 (Gr.refl (wi.alloc (.cells #[.int .i64 (q : Int), .int .i64 y] 27))) (j := 1) rfl)) | (at_builtin; refine wpList_append_dots _ rfl (.tmp 71) (.tmp 73) rfl w.heap.size (.slice A2 M.length cap2) M [((q : Int), y)] (some ⟨w1.heap.size, 0, none⟩) 1 rfl rfl ?ho ?hr (fun h => by cases h) hbd.out ?hs ?_))
                  case ho => exact (hAM.gr ((hgD.trans hg1).alloc _)).own
                  case hr => exact rowNew rfl (q : Int) y _
                  case hs => exact (hAM.gr ((hgD.trans hg1).alloc _)).bs
                  intro v1 w2 hown1 hgr1 hat1
                  have hAM2 : Hid (AM w w2 w.heap.size w.heap.size a b (some ⟨bb, off, none⟩) B ca cb v1 (M ++ [((q : Int), y)])) := hAM.append ((hgD.trans hg1).alloc _) hown1 hgr1 (by simp) hat1
                  clear hown1 hgr1 hat1 hd0 hd1 hAM
                  go_wp2
                  go_roundw
                  case rel => exact ⟨v1, k + 1, rfl, by omega, by go_num, by rw [hst2.out]; exact hAM2.out⟩
                  case measure => simp [intOf]; omega
                · have hst2 : Hid (miss2 b (q : Int) (a.l.take (k + 1)) m = M) := by show _ = _; rw [hst, if_neg (by rw [hh]; simp)]
                  clear hst
                  go_wp2_with (go_at_call 18; refine (rhas_g hh hbM.out (brow.gr hgD)).mono ?_; rintro e w1 ⟨rfl, hg1⟩)
                  go_roundw
                  case rel => exact ⟨_, k + 1, rfl, by omega, by go_num, by rw [hst2.out]; exact hAM.gr (hgD.trans hg1)⟩
                  case measure => simp [intOf]; omega
              · have hst2 : Hid (miss2 b (q : Int) (a.l.take (k + 1)) m = M) := by show _ = _; rw [hst, if_neg (fun h => hxn h.1)]
                have hxb : (x == (q : Int)) = false := by simpa using hxn
                clear hst hxn
                go_wp2
                go_roundw
                case rel => exact ⟨_, k + 1, rfl, by omega, by go_num, by rw [hst2.out]; exact hAM.gr hgD⟩
                case measure => simp [intOf]; omega
            · have hltz : ¬ (k : Int) < (a.l.length : Int) := by omega
              have hke : a.l.take k = a.l := List.take_of_length_le (by omega)
              have hfin : Hid (missN a b (q : Int) (missK a b q) = M) := by
                have h1 := HM.out
                rw [hke] at h1
                exact hmm.out.trans h1
              clear hke HM
              have hnxA : Hid (missK a b (q + 1) = M) := hfin.out
              go_wp2
              go_roundw
              case rel => exact ⟨_, q + 1, rfl, by omega, by go_num, by omega, by rw [hnxA.out]; exact hAM⟩
              case measure => simp [intOf]; omega
    · obtain rfl : q = 4 := by omega
      have hovH : Hid (Row wr A0 (missK a b 4)) := hrow0
      have hbH : Hid (Below w.heap.size w wr) := hAM.bel
      clear hAM hrow0
      go_wp2
      go_ret
      exact ⟨A0, cap0, rfl, hovH.out, hA0, hbH.out⟩

end Go.Proofs.Ytjgefnipkaecgaa
