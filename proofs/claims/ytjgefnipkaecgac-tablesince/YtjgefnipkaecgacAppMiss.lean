/-
  dot.appendMissing: the dots of a node that a has and b hasn't, behind a list.
-/
import Derived.Test.YtjgefnipkaecgacAM
import Derived.Test.YtjgefnipkaecgacHas
namespace Go.Proofs.Ytjgefnipkaecgac
open Go.RowKit Go.Sort

theorem has_g {c : Ctx} {A : Option Addr} {cap : Nat} {x y : Int} {r : Bool} {w : World} (hx : hasB c (x, y) = r) (hl : c.l.length ≤ maxLen) (hr : Row w A c.l) :
    Calls Try.prog 26 #[.agg #[.int .i64 c.c0, .int .i64 c.c1, .int .i64 c.c2, .int .i64 c.c3, .slice A c.l.length cap], .agg #[.int .i64 x, .int .i64 y]] w fun e w' => e = .returned (.bool r) ∧ Gr w w' := by
  rw [← hx]; exact has_any c A cap (x, y) w hl hr

set_option maxHeartbeats 4000000 in
theorem appMiss_any (a b : Ctx) (A B : Option Addr) (ca cb : Nat) (v : Value) (l : List (Int × Int)) (node : Int) (base : Nat) (w : World) (h0 : 0 ≤ node) (h4 : node < 4) (hoa : okClk a = true) (hob : okClk b = true) (hal : a.l.length ≤ 400) (hbl : b.l.length ≤ 400) (hll : l.length ≤ 2000)
    (hra : Row w A a.l) (hrb : Row w B b.l) (hAb : ∀ x, A = some x → a.l ≠ [] → x.block < base) (hBb : ∀ x, B = some x → b.l ≠ [] → x.block < base) (hov : Own w base v l) (hbs : base ≤ w.heap.size) :
    Calls Try.prog 74 #[v, .agg #[.int .i64 a.c0, .int .i64 a.c1, .int .i64 a.c2, .int .i64 a.c3, .slice A a.l.length ca], .agg #[.int .i64 b.c0, .int .i64 b.c1, .int .i64 b.c2, .int .i64 b.c3, .slice B b.l.length cb], .int .i64 node] w fun e w' => ∃ v', e = .returned v' ∧ Own w' base v' (missN a b node l) ∧ Below base w w' := by
  have hca := clk_of_ok hoa node h0 h4
  have hcb := clk_of_ok hob node h0 h4
  have hg0 : Gr w ((w.alloc (.cells #[.int .i64 a.c0, .int .i64 a.c1, .int .i64 a.c2, .int .i64 a.c3, .slice A a.l.length ca] 25)).alloc (.cells #[.int .i64 b.c0, .int .i64 b.c1, .int .i64 b.c2, .int .i64 b.c3, .slice B b.l.length cb] 25)) := ((Gr.refl w).alloc _).alloc _
  have hAM0 : AM w ((w.alloc (.cells #[.int .i64 a.c0, .int .i64 a.c1, .int .i64 a.c2, .int .i64 a.c3, .slice A a.l.length ca] 25)).alloc (.cells #[.int .i64 b.c0, .int .i64 b.c1, .int .i64 b.c2, .int .i64 b.c3, .slice B b.l.length cb] 25)) w.heap.size base a b A B ca cb v l := ⟨hov.gr hg0, fun k hk => by have := (hov.lt k hk).2; omega, (CtxAt.new 25 hra rfl).gr ((Gr.refl _).alloc _), CtxAt.new 25 (hrb.gr ((Gr.refl _).alloc _)) (by simp), hg0.below.mono hbs, Nat.le_trans hbs hg0.size, hAb, hBb⟩
  have hbM : Hid (b.l.length ≤ maxLen) := by show _ ≤ _; unfold maxLen; omega
  have k0 := hAM0.ca.k4
  have kc0 := box1 (unbox_in (Gr.refl ((w.alloc (.cells #[.int .i64 a.c0, .int .i64 a.c1, .int .i64 a.c2, .int .i64 a.c3, .slice A a.l.length ca] 25)).alloc (.cells #[.int .i64 b.c0, .int .i64 b.c1, .int .i64 b.c2, .int .i64 b.c3, .slice B b.l.length cb] 25)))) (clkCell (c := a) h0 h4)
  have kd0 := box2 (Gr.refl ((w.alloc (.cells #[.int .i64 a.c0, .int .i64 a.c1, .int .i64 a.c2, .int .i64 a.c3, .slice A a.l.length ca] 25)).alloc (.cells #[.int .i64 b.c0, .int .i64 b.c1, .int .i64 b.c2, .int .i64 b.c3, .slice B b.l.length cb] 25))) (clkCell (c := b) h0 h4)
  clear hov hra hrb
  obtain ⟨A0, cap0, rfl, _, _, _⟩ := hAM0.own.row
  go_enter Try.func74, Try.ntmps74
  go_wp2
  clear k0 kc0 kd0
  go_loopw [0, 9] (fun v s wr => ∃ (V : Value) (m : List (Int × Int)) (t : Int), v = V ∧ s = .int .i64 t ∧ clk b node + 1 ≤ t ∧ t ≤ 1099511627777 ∧ m.length ≤ 2001 ∧ AM w wr w.heap.size base a b A B ca cb V m ∧ Hid (miss1 b node (clk a node) (clk a node + 1 - t).toNat m t = miss1 b node (clk a node) (clk a node - clk b node).toNat l (clk b node + 1))) (fun _ s _ => (clk a node + 1 - intOf s).toNat)
  case atStart => exact ⟨_, l, clk b node + 1, rfl, rfl, Int.le_refl _, by omega, by omega, hAM0, by show miss1 _ _ _ _ _ _ = _; congr 1; omega⟩
  case round =>
    obtain ⟨V, m, t, rfl, rfl, ht1, ht2, hml, hAM, hmi⟩ := hrel
    obtain ⟨A1, cap1, rfl, hA1, _, _⟩ := hAM.own.row
    have kc := hAM.ca.k4
    have ka : wr.cell? ⟨w.heap.size, node.toNat, none⟩ = some (.int .i64 (clk a node)) := ctxClk hAM.ca h0 h4
    by_cases hs : t ≤ clk a node
    · by_cases hl4 : m.length ≤ 400
      · have hl4z : (m.length : Int) ≤ 400 := by omega
        have hst := miss1_step (b := b) (node := node) hs hl4
        have hgD : Gr wr (wr.alloc (.cells #[.int .i64 node, .int .i64 t] 62)) := (Gr.refl _).alloc _
        obtain ⟨b0, b1, b2, b3, b4, blt, brow⟩ := (show CtxAt _ _ _ _ _ from hAM.cb)
        cases hh : hasB b (node, t)
        · rw [hh] at hst
          simp only [Bool.false_eq_true, if_false] at hst
          have hnx : Hid (miss1 b node (clk a node) (clk a node + 1 - (t + 1)).toNat (m ++ [(node, t)]) (t + 1) = miss1 b node (clk a node) (clk a node - clk b node).toNat l (clk b node + 1)) := hst.symm.trans hmi.out
          clear hst
          have hbd : Hid ((m.length + [(node, t)].length) * 16 ≤ 140737488355328) := by show _ ≤ _; simp only [List.length_cons, List.length_nil]; omega
          go_wp2_with (first | (go_at_call 26; refine (has_g hh hbM.out (brow.gr hgD)).mono ?_; rintro e w1 ⟨rfl, hg1⟩; have hd0 := (hg1.cell (p := ⟨wr.heap.size, 0, none⟩) (by simp)).trans (box1 (Gr.refl (wr.alloc (.cells #[.int .i64 node, .int .i64 t] 62))) (j := 0) rfl); have hd1 := (hg1.cell (p := ⟨wr.heap.size, 1, none⟩) (by simp)).trans (box1 (Gr.refl (wr.alloc (.cells #[.int .i64 node, .int .i64 t] 62))) (j := 1) rfl)) | (at_builtin; refine wpList_append_dots _ rfl (.tmp 38) (.tmp 40) rfl base (.slice A1 m.length cap1) m [(node, t)] (some ⟨w1.heap.size, 0, none⟩) 1 rfl rfl ?ho ?hr (fun h => by cases h) hbd.out ?hs ?_))
          case ho => exact (hAM.gr ((hgD.trans hg1).alloc _)).own
          case hr => exact rowNew rfl node t _
          case hs => exact (hAM.gr ((hgD.trans hg1).alloc _)).bs
          intro v1 w2 hown1 hgr1 hat1
          have hAM2 : Hid (AM w w2 w.heap.size base a b A B ca cb v1 (m ++ [(node, t)])) := hAM.append ((hgD.trans hg1).alloc _) hown1 hgr1 (by simp) hat1
          clear hown1 hgr1 hat1 hd0 hd1 hAM
          go_wp2
          go_roundw
          case rel => exact ⟨v1, m ++ [(node, t)], t + 1, rfl, by go_num, by omega, by omega, by simp only [List.length_append, List.length_cons, List.length_nil]; omega, hAM2.out, hnx⟩
          case measure => simp [intOf]; omega
        · rw [hh] at hst
          simp only [if_true] at hst
          have hnx : Hid (miss1 b node (clk a node) (clk a node + 1 - (t + 1)).toNat m (t + 1) = miss1 b node (clk a node) (clk a node - clk b node).toNat l (clk b node + 1)) := hst.symm.trans hmi.out
          clear hst
          go_wp2_with (go_at_call 26; refine (has_g hh hbM.out (brow.gr hgD)).mono ?_; rintro e w1 ⟨rfl, hg1⟩)
          go_roundw
          case rel => exact ⟨_, m, t + 1, rfl, by go_num, by omega, by omega, hml, hAM.gr (hgD.trans hg1), hnx⟩
          case measure => simp [intOf]; omega
      · have hl4z : ¬ (m.length : Int) ≤ 400 := by omega
        have hstop : ¬ (t ≤ clk a node ∧ m.length ≤ 400) := fun h => hl4 h.2
        have hmm : Hid (missN a b node l = miss2 b node a.l m) := by
          show missN a b node l = _
          unfold missN
          rw [← hmi.out, miss1_stop hstop]
        clear hmi hstop
        obtain ⟨b0, b1, b2, b3, b4, blt, brow⟩ := (show CtxAt _ _ _ _ _ from hAM.cb)
        go_wp2
        clear kc ka b0 b1 b2 b3 b4 blt brow
        go_loopw [0, 45] (fun v i wi => ∃ (V : Value) (k : Nat), v = V ∧ k ≤ a.l.length ∧ i = .int .i64 k ∧ AM w wi w.heap.size base a b A B ca cb V (miss2 b node (a.l.take k) m)) (fun _ i _ => a.l.length - (intOf i).toNat)
        case atStart => exact ⟨_, 0, rfl, Nat.zero_le _, rfl, hAM⟩
        case round =>
          clear hAM
          rename World => wi
          obtain ⟨V, k, rfl, hk, rfl, hAM⟩ := hrel
          have hln := miss2_len b node (a.l.take k) m
          have hlt2 : (a.l.take k).length ≤ k := List.length_take_le _ _
          obtain ⟨M, hM⟩ : ∃ M, miss2 b node (a.l.take k) m = M := ⟨_, rfl⟩
          rw [hM] at hAM hln
          have HM : Hid (miss2 b node (a.l.take k) m = M) := hM
          clear hM
          obtain ⟨A2, cap2, rfl, hA2, _, _⟩ := hAM.own.row
          by_cases hlt : k < a.l.length
          · have hltz : (k : Int) < (a.l.length : Int) := by omega
            obtain ⟨bb, off, rfl, hbb, hcs⟩ := hAM.ca.row.at hlt
            obtain ⟨x, y, hx⟩ : ∃ x y, a.l[k] = (x, y) := ⟨_, _, rfl⟩
            have e0 := (hcs k hlt).1
            have e1 := (hcs k hlt).2
            rw [hx] at e0 e1
            have hst := miss2_take (b := b) (node := node) (l := m) hlt hx
            rw [HM.out] at hst
            simp only at hst
            clear hcs hx
            have hgD : Gr wi (wi.alloc (.cells #[.int .i64 x, .int .i64 y] 62)) := (Gr.refl _).alloc _
            obtain ⟨b0, b1, b2, b3, b4, blt, brow⟩ := (show CtxAt _ _ _ _ _ from hAM.cb)
            by_cases hxn : x = node
            · subst hxn
              cases hh : hasB b (x, y)
              · have hst2 : Hid (miss2 b x (a.l.take (k + 1)) m = M ++ [(x, y)]) := by show _ = _; rw [hst, if_pos ⟨rfl, hh⟩]
                have hbd : Hid ((M.length + [(x, y)].length) * 16 ≤ 140737488355328) := by show _ ≤ _; simp only [List.length_cons, List.length_nil]; omega
                clear hst
                go_wp2_with (first | (go_at_call 26; refine (has_g hh hbM.out (brow.gr hgD)).mono ?_; rintro e w1 ⟨rfl, hg1⟩; have hd0 := (hg1.cell (p := ⟨wi.heap.size, 0, none⟩) (by simp)).trans (box1 (Gr.refl (wi.alloc (.cells #[.int .i64 x, .int .i64 y] 62))) (j := 0) rfl); have hd1 := (hg1.cell (p := ⟨wi.heap.size, 1, none⟩) (by simp)).trans (box1 (Gr.refl (wi.alloc (.cells #[.int .i64 x, .int .i64 y] 62))) (j := 1) rfl)) | (at_builtin; refine wpList_append_dots _ rfl (.tmp 59) (.tmp 61) rfl base (.slice A2 M.length cap2) M [(x, y)] (some ⟨w1.heap.size, 0, none⟩) 1 rfl rfl ?ho ?hr (fun h => by cases h) hbd.out ?hs ?_))
                case ho => exact (hAM.gr ((hgD.trans hg1).alloc _)).own
                case hr => exact rowNew rfl x y _
                case hs => exact (hAM.gr ((hgD.trans hg1).alloc _)).bs
                intro v1 w2 hown1 hgr1 hat1
                have hAM2 : Hid (AM w w2 w.heap.size base a b (some ⟨bb, off, none⟩) B ca cb v1 (M ++ [(x, y)])) := hAM.append ((hgD.trans hg1).alloc _) hown1 hgr1 (by simp) hat1
                clear hown1 hgr1 hat1 hd0 hd1 hAM
                go_wp2
                go_roundw
                case rel => exact ⟨v1, k + 1, rfl, by omega, by go_num, by rw [hst2.out]; exact hAM2.out⟩
                case measure => simp [intOf]; omega
              · have hst2 : Hid (miss2 b x (a.l.take (k + 1)) m = M) := by show _ = _; rw [hst, if_neg (by rw [hh]; simp)]
                clear hst
                go_wp2_with (go_at_call 26; refine (has_g hh hbM.out (brow.gr hgD)).mono ?_; rintro e w1 ⟨rfl, hg1⟩)
                go_roundw
                case rel => exact ⟨_, k + 1, rfl, by omega, by go_num, by rw [hst2.out]; exact hAM.gr (hgD.trans hg1)⟩
                case measure => simp [intOf]; omega
            · have hst2 : Hid (miss2 b node (a.l.take (k + 1)) m = M) := by show _ = _; rw [hst, if_neg (fun h => hxn h.1)]
              have hxb : (x == node) = false := by simpa using hxn
              clear hst hxn
              go_wp2
              go_roundw
              case rel => exact ⟨_, k + 1, rfl, by omega, by go_num, by rw [hst2.out]; exact hAM.gr hgD⟩
              case measure => simp [intOf]; omega
          · have hltz : ¬ (k : Int) < (a.l.length : Int) := by omega
            have hke : a.l.take k = a.l := List.take_of_length_le (by omega)
            have hfin : Hid (missN a b node l = M) := by
              have h1 := HM.out
              rw [hke] at h1
              exact hmm.out.trans h1
            clear hke HM
            go_wp2
            go_ret
            rw [hfin.out]
            exact ⟨_, rfl, hAM.own, hAM.bel⟩
    · have hsb : decide (t ≤ clk a node) = false := by simpa using hs
      have hstop : ¬ (t ≤ clk a node ∧ m.length ≤ 400) := fun h => hs h.1
      have hmm : Hid (missN a b node l = miss2 b node a.l m) := by
        show missN a b node l = _
        unfold missN
        rw [← hmi.out, miss1_stop hstop]
      clear hmi hstop
      obtain ⟨b0, b1, b2, b3, b4, blt, brow⟩ := (show CtxAt _ _ _ _ _ from hAM.cb)
      go_wp2
      clear kc ka b0 b1 b2 b3 b4 blt brow
      go_loopw [0, 45] (fun v i wi => ∃ (V : Value) (k : Nat), v = V ∧ k ≤ a.l.length ∧ i = .int .i64 k ∧ AM w wi w.heap.size base a b A B ca cb V (miss2 b node (a.l.take k) m)) (fun _ i _ => a.l.length - (intOf i).toNat)
      case atStart => exact ⟨_, 0, rfl, Nat.zero_le _, rfl, hAM⟩
      case round =>
        clear hAM
        rename World => wi
        obtain ⟨V, k, rfl, hk, rfl, hAM⟩ := hrel
        have hln := miss2_len b node (a.l.take k) m
        have hlt2 : (a.l.take k).length ≤ k := List.length_take_le _ _
        obtain ⟨M, hM⟩ : ∃ M, miss2 b node (a.l.take k) m = M := ⟨_, rfl⟩
        rw [hM] at hAM hln
        have HM : Hid (miss2 b node (a.l.take k) m = M) := hM
        clear hM
        obtain ⟨A2, cap2, rfl, hA2, _, _⟩ := hAM.own.row
        by_cases hlt : k < a.l.length
        · have hltz : (k : Int) < (a.l.length : Int) := by omega
          obtain ⟨bb, off, rfl, hbb, hcs⟩ := hAM.ca.row.at hlt
          obtain ⟨x, y, hx⟩ : ∃ x y, a.l[k] = (x, y) := ⟨_, _, rfl⟩
          have e0 := (hcs k hlt).1
          have e1 := (hcs k hlt).2
          rw [hx] at e0 e1
          have hst := miss2_take (b := b) (node := node) (l := m) hlt hx
          rw [HM.out] at hst
          simp only at hst
          clear hcs hx
          have hgD : Gr wi (wi.alloc (.cells #[.int .i64 x, .int .i64 y] 62)) := (Gr.refl _).alloc _
          obtain ⟨b0, b1, b2, b3, b4, blt, brow⟩ := (show CtxAt _ _ _ _ _ from hAM.cb)
          by_cases hxn : x = node
          · subst hxn
            cases hh : hasB b (x, y)
            · have hst2 : Hid (miss2 b x (a.l.take (k + 1)) m = M ++ [(x, y)]) := by show _ = _; rw [hst, if_pos ⟨rfl, hh⟩]
              have hbd : Hid ((M.length + [(x, y)].length) * 16 ≤ 140737488355328) := by show _ ≤ _; simp only [List.length_cons, List.length_nil]; omega
              clear hst
              go_wp2_with (first | (go_at_call 26; refine (has_g hh hbM.out (brow.gr hgD)).mono ?_; rintro e w1 ⟨rfl, hg1⟩; have hd0 := (hg1.cell (p := ⟨wi.heap.size, 0, none⟩) (by simp)).trans (box1 (Gr.refl (wi.alloc (.cells #[.int .i64 x, .int .i64 y] 62))) (j := 0) rfl); have hd1 := (hg1.cell (p := ⟨wi.heap.size, 1, none⟩) (by simp)).trans (box1 (Gr.refl (wi.alloc (.cells #[.int .i64 x, .int .i64 y] 62))) (j := 1) rfl)) | (at_builtin; refine wpList_append_dots _ rfl (.tmp 59) (.tmp 61) rfl base (.slice A2 M.length cap2) M [(x, y)] (some ⟨w1.heap.size, 0, none⟩) 1 rfl rfl ?ho ?hr (fun h => by cases h) hbd.out ?hs ?_))
              case ho => exact (hAM.gr ((hgD.trans hg1).alloc _)).own
              case hr => exact rowNew rfl x y _
              case hs => exact (hAM.gr ((hgD.trans hg1).alloc _)).bs
              intro v1 w2 hown1 hgr1 hat1
              have hAM2 : Hid (AM w w2 w.heap.size base a b (some ⟨bb, off, none⟩) B ca cb v1 (M ++ [(x, y)])) := hAM.append ((hgD.trans hg1).alloc _) hown1 hgr1 (by simp) hat1
              clear hown1 hgr1 hat1 hd0 hd1 hAM
              go_wp2
              go_roundw
              case rel => exact ⟨v1, k + 1, rfl, by omega, by go_num, by rw [hst2.out]; exact hAM2.out⟩
              case measure => simp [intOf]; omega
            · have hst2 : Hid (miss2 b x (a.l.take (k + 1)) m = M) := by show _ = _; rw [hst, if_neg (by rw [hh]; simp)]
              clear hst
              go_wp2_with (go_at_call 26; refine (has_g hh hbM.out (brow.gr hgD)).mono ?_; rintro e w1 ⟨rfl, hg1⟩)
              go_roundw
              case rel => exact ⟨_, k + 1, rfl, by omega, by go_num, by rw [hst2.out]; exact hAM.gr (hgD.trans hg1)⟩
              case measure => simp [intOf]; omega
          · have hst2 : Hid (miss2 b node (a.l.take (k + 1)) m = M) := by show _ = _; rw [hst, if_neg (fun h => hxn h.1)]
            have hxb : (x == node) = false := by simpa using hxn
            clear hst hxn
            go_wp2
            go_roundw
            case rel => exact ⟨_, k + 1, rfl, by omega, by go_num, by rw [hst2.out]; exact hAM.gr hgD⟩
            case measure => simp [intOf]; omega
        · have hltz : ¬ (k : Int) < (a.l.length : Int) := by omega
          have hke : a.l.take k = a.l := List.take_of_length_le (by omega)
          have hfin : Hid (missN a b node l = M) := by
            have h1 := HM.out
            rw [hke] at h1
            exact hmm.out.trans h1
          clear hke HM
          go_wp2
          go_ret
          rw [hfin.out]
          exact ⟨_, rfl, hAM.own, hAM.bel⟩

end Go.Proofs.Ytjgefnipkaecgac
