/-
  dot.Next: the next dot of a node.
-/
import Derived.Test.YtjgefnipkaecgacCheck
namespace Go.Proofs.Ytjgefnipkaecgac
open Go.RowKit Go.Sort

theorem errC_okClk {c : Ctx} (h : errC c = 0) : okClk c = true := by
  unfold errC at h
  cases hk : okClk c
  · simp [hk] at h
  · rfl

/-- What Next answers: the dot, and the error. -/
def nextA (c : Ctx) (n : Int) : (Int × Int) × Int := if errC c = 0 then (if inB n 0 3 = true then (nextD c n, nextE c n) else ((0, 0), 1)) else ((0, 0), errC c)

set_option maxHeartbeats 2000000 in
theorem next_any (c : Ctx) (A : Option Addr) (cap : Nat) (n : Int) (w : World) (hl : c.l.length ≤ maxLen) (hr : Row w A c.l) :
    Calls Try.prog 63 #[.agg #[.int .i64 c.c0, .int .i64 c.c1, .int .i64 c.c2, .int .i64 c.c3, .slice A c.l.length cap], .int .i64 n] w fun e w' => e = .returned (.tuple #[.agg #[.int .i64 (nextA c n).1.1, .int .i64 (nextA c n).1.2], .int .i64 (nextA c n).2]) ∧ Gr w w' := by
  have hchk := check_any c A cap ((w.alloc (.cells #[.int .i64 c.c0, .int .i64 c.c1, .int .i64 c.c2, .int .i64 c.c3, .slice A c.l.length cap] 25)).alloc (.cells #[.int .i64 0, .int .i64 0] 62)) hl (hr.gr (((Gr.refl _).alloc _).alloc _))
  have hchkH : Hid _ := hchk
  clear hchk
  unfold maxLen at hl
  go_enter Try.func63, Try.ntmps63
  go_wp2_with fail
  refine Calls.mono (show Calls _ _ _ _ _ from hchkH.out) ?_
  rintro e w1 ⟨rfl, hgr⟩
  clear hchkH
  have r0 := box2 hgr (j := 0) rfl
  have r1 := box2 hgr (j := 1) rfl
  have r0f := box2f hgr 0
  have r1f := box2f hgr 1
  by_cases he : errC c = 0
  · have heH : Hid (errC c = 0) := he
    rw [he]
    clear he
    cases hin : inB n 0 3
    · have hA : Hid (nextA c n = ((0, 0), 1)) := by show nextA c n = _; simp [nextA, heH.out, hin]
      go_wp2_with (go_at_call 52; refine (isNode_g hin _).mono ?_; rintro e w' ⟨rfl, rfl⟩)
      rw [hA.out]
      exact bodyPost_ret (v := .tuple #[.agg #[.int .i64 0, .int .i64 0], .int .i64 1]) (by simp [results, Try.results63, go_sem, r0, r1]) rfl ⟨rfl, (((unbox (unbox hgr)).setCell (by simp) _).setCell (by simp) _)⟩
    · have hn : 0 ≤ n ∧ n < 4 := by simp [inB] at hin; omega
      have hA : Hid (nextA c n = (nextD c n, nextE c n)) := by show nextA c n = _; simp [nextA, heH.out, hin]
      have kc := box1 (unbox_in hgr) (clkCell (c := c) hn.1 hn.2)
      have k4 := box1 (unbox_in hgr) (j := 4) rfl
      have hcl := clk_of_ok (errC_okClk heH.out) n hn.1 hn.2
      go_wp2_with (go_at_call 52; refine (isNode_g hin _).mono ?_; rintro e w' ⟨rfl, rfl⟩)
      clear kc k4 r0 r1 r0f r1f
      go_loopw [7, 27] (fun m i wr => ∃ k : Nat, k ≤ c.l.length ∧ i = .int .i64 k ∧ m = .int .i64 (topS c n (c.l.take k)) ∧ Gr ((w.alloc (.cells #[.int .i64 c.c0, .int .i64 c.c1, .int .i64 c.c2, .int .i64 c.c3, .slice A c.l.length cap] 25)).alloc (.cells #[.int .i64 0, .int .i64 0] 62)) wr) (fun _ i _ => c.l.length - (intOf i).toNat)
      case atStart => exact ⟨0, by omega, rfl, rfl, hgr⟩
      case round =>
        clear hgr
        obtain ⟨k, hk, rfl, rfl, hgr⟩ := hrel
        have r0 := box2 hgr (j := 0) rfl
        have r1 := box2 hgr (j := 1) rfl
        have r0f := box2f hgr 0
        have r1f := box2f hgr 1
        have hlo := topS_lo c n (c.l.take k)
        by_cases hlt : k < c.l.length
        · have hltz : (k : Int) < (c.l.length : Int) := by omega
          obtain ⟨b, off, rfl, hb, hcs⟩ := (hr.gr (unbox (unbox hgr))).at hlt
          obtain ⟨x, y, hx⟩ : ∃ x y, c.l[k] = (x, y) := ⟨_, _, rfl⟩
          have e0 := (hcs k hlt).1
          have e1 := (hcs k hlt).2
          rw [hx] at e0 e1
          have hst : Hid (topS c n (c.l.take (k + 1)) = if x = n then max (topS c n (c.l.take k)) y else topS c n (c.l.take k)) := topS_take c n k hlt hx
          clear hcs hx
          by_cases hxn : x = n
          · subst hxn
            go_wp2
            go_roundw
            case rel => exact ⟨k + 1, by omega, by go_num, by rw [hst.out, if_pos rfl], hgr.alloc _⟩
            case measure => simp [intOf]; omega
          · have hxb : (x == n) = false := by simpa using hxn
            have hxH : Hid (¬ x = n) := hxn
            clear hxn
            go_wp2
            go_roundw
            case rel => exact ⟨k + 1, by omega, by go_num, by rw [hst.out, if_neg hxH.out], hgr.alloc _⟩
            case measure => simp [intOf]; omega
        · have hltz : ¬ (k : Int) < (c.l.length : Int) := by omega
          have hke : c.l.take k = c.l := List.take_of_length_le (by omega)
          rw [hke] at hlo ⊢
          clear hke
          by_cases htop : 1099511627776 ≤ topS c n c.l
          · have hD : Hid (nextD c n = (0, 0) ∧ nextE c n = 2) := by
              show _ ∧ _
              simp [nextD, nextE, htop]
            go_wp2
            rw [hA.out, hD.out.1, hD.out.2]
            exact bodyPost_ret (v := .tuple #[.agg #[.int .i64 0, .int .i64 0], .int .i64 2]) (by simp [results, Try.results63, go_sem, r0, r1]) rfl ⟨rfl, (((unbox (unbox hgr)).setCell (by simp) _).setCell (by simp) _)⟩
          · have hD : Hid (nextD c n = (n, topS c n c.l + 1) ∧ nextE c n = 0) := by
              show _ ∧ _
              simp [nextD, nextE, htop]
            go_wp2
            rw [hA.out, hD.out.1, hD.out.2]
            exact bodyPost_ret (v := .tuple #[.agg #[.int .i64 n, .int .i64 (topS c n c.l + 1)], .int .i64 0]) (by simp [results, Try.results63, go_sem, r0, r1]) rfl ⟨rfl, (((unbox (unbox hgr)).setCell (by simp) _).setCell (by simp) _)⟩
  · have hA : Hid (nextA c n = ((0, 0), errC c)) := by show nextA c n = _; simp [nextA, he]
    have heb : (errC c != 0) = true := by simpa using he
    clear he
    go_wp2
    rw [hA.out]
    exact bodyPost_ret (v := .tuple #[.agg #[.int .i64 0, .int .i64 0], .int .i64 (errC c)]) (by simp [results, Try.results63, go_sem, r0, r1]) rfl ⟨rfl, (((unbox (unbox hgr)).setCell (by simp) _).setCell (by simp) _)⟩

end Go.Proofs.Ytjgefnipkaecgac
