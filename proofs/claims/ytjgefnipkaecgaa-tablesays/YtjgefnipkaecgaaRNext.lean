/-
  viewref.Next: the next dot of a node, of a right context.
-/
import Derived.Test.YtjgefnipkaecgaaLeaf
namespace Go.Proofs.Ytjgefnipkaecgaa
open Go.RowKit Go.Sort

set_option maxHeartbeats 1000000 in
theorem rnext_any (c : Ctx) (A : Option Addr) (cap : Nat) (n : Int) (w : World) (hl : c.l.length ≤ maxLen) (hr : Row w A c.l) (hok : okClk c = true) (h0 : 0 ≤ n) (h4 : n < 4) :
    Calls Try.prog 14 #[.agg #[.int .i64 c.c0, .int .i64 c.c1, .int .i64 c.c2, .int .i64 c.c3, .slice A c.l.length cap], .int .i64 n] w fun e w' => e = .returned (.tuple #[.agg #[.int .i64 (nextD c n).1, .int .i64 (nextD c n).2], .int .i64 (nextE c n)]) ∧ Gr w w' := by
  unfold maxLen at hl
  have hcl := clk_of_ok hok n h0 h4
  have hokH : Hid (okClk c = true) := hok
  clear hok
  have kc := box1 ((Gr.refl (w.alloc (.cells #[.int .i64 c.c0, .int .i64 c.c1, .int .i64 c.c2, .int .i64 c.c3, .slice A c.l.length cap] 25))).alloc (.cells #[.int .i64 0, .int .i64 0] 27)) (clkCell (c := c) h0 h4)
  go_enter Try.func14, Try.ntmps14
  go_wp2
  clear kc
  go_loopw [6, 7] (fun m i wr => ∃ k : Nat, k ≤ c.l.length ∧ i = .int .i64 k ∧ m = .int .i64 (topS c n (c.l.take k)) ∧ Gr ((w.alloc (.cells #[.int .i64 c.c0, .int .i64 c.c1, .int .i64 c.c2, .int .i64 c.c3, .slice A c.l.length cap] 25)).alloc (.cells #[.int .i64 0, .int .i64 0] 27)) wr) (fun _ i _ => c.l.length - (intOf i).toNat)
  case atStart => exact ⟨0, by omega, rfl, rfl, Gr.refl _⟩
  case round =>
    obtain ⟨k, hk, rfl, rfl, hgr⟩ := hrel
    have k4 := box1 (unbox_in hgr) (j := 4) rfl
    have r0 := box2 hgr (j := 0) rfl
    have r1 := box2 hgr (j := 1) rfl
    have r0f := box2f hgr 0
    have r1f := box2f hgr 1
    have hlo := topS_lo c n (c.l.take k)
    by_cases hlt : k < c.l.length
    · have hltz : (k : Int) < (c.l.length : Int) := by omega
      obtain ⟨b, off, rfl, hb, hcs⟩ := (hr.gr (unbox (unbox hgr))).at hlt
      obtain ⟨x, y, hx⟩ : ∃ x y, c.l[k] = (x, y) := ⟨_, _, rfl⟩
      have e0 := (hcs k hlt).1
      have e1 := (hcs k hlt).2
      rw [hx] at e0 e1
      have hst : Hid (topS c n (c.l.take (k + 1)) = if x = n then max (topS c n (c.l.take k)) y else topS c n (c.l.take k)) := topS_take c n k hlt hx
      clear hcs hx
      by_cases hxn : x = n
      · subst hxn
        by_cases hyt : topS c x (c.l.take k) < y
        · go_wp2
          go_roundw
          case rel => exact ⟨k + 1, by omega, by go_num, by rw [hst.out, if_pos rfl]; congr 1; omega, hgr⟩
          case measure => simp [intOf]; omega
        · go_wp2
          go_roundw
          case rel => exact ⟨k + 1, by omega, by go_num, by rw [hst.out, if_pos rfl]; congr 1; omega, hgr⟩
          case measure => simp [intOf]; omega
      · have hxb : (x == n) = false := by simpa using hxn
        have hxH : Hid (¬ x = n) := hxn
        clear hxn
        go_wp2
        go_roundw
        case rel => exact ⟨k + 1, by omega, by go_num, by rw [hst.out, if_neg hxH.out], hgr⟩
        case measure => simp [intOf]; omega
    · have hltz : ¬ (k : Int) < (c.l.length : Int) := by omega
      have hke : c.l.take k = c.l := List.take_of_length_le (by omega)
      rw [hke] at hlo ⊢
      clear hke
      by_cases htop : 1099511627776 ≤ topS c n c.l
      · have hD : Hid (nextD c n = (0, 0) ∧ nextE c n = 2) := by
          show _ ∧ _
          simp [nextD, nextE, htop]
        go_wp2
        rw [hD.out.1, hD.out.2]
        exact bodyPost_ret (v := .tuple #[.agg #[.int .i64 0, .int .i64 0], .int .i64 2]) (by simp [results, Try.results14, go_sem, r0, r1]) rfl ⟨rfl, (((unbox (unbox hgr)).setCell (by simp) _).setCell (by simp) _)⟩
      · have hD : Hid (nextD c n = (n, topS c n c.l + 1) ∧ nextE c n = 0) := by
          show _ ∧ _
          simp [nextD, nextE, htop]
        go_wp2
        rw [hD.out.1, hD.out.2]
        exact bodyPost_ret (v := .tuple #[.agg #[.int .i64 n, .int .i64 (topS c n c.l + 1)], .int .i64 0]) (by simp [results, Try.results14, go_sem, r0, r1]) rfl ⟨rfl, (((unbox (unbox hgr)).setCell (by simp) _).setCell (by simp) _)⟩

end Go.Proofs.Ytjgefnipkaecgaa
