/-
  wire.appendNumbers, wire.Number: numbers as bytes, put behind others.
-/
import Derived.Test.YtbhhpijidbhipaaWBuf
namespace Go.Proofs.Ytbhhpijidbhipaa
open Go.RowKit Go.Sort

def numsL (ns : List Int) : List UInt8 := ns.flatMap numL
theorem numsL_take {ns : List Int} {k : Nat} (h : k < ns.length) {n : Int} (hn : ns[k] = n) : numsL (ns.take (k + 1)) = numsL (ns.take k) ++ numL n := by
  unfold numsL
  rw [List.take_succ_eq_append_getElem h, List.flatMap_append, hn]
  simp
theorem numL_le9 (n : Int) : (numL n).length ≤ 9 := (numL_short n).2
theorem numsL_len (ns : List Int) : (numsL ns).length ≤ 9 * ns.length := by
  induction ns with
  | nil => simp [numsL]
  | cons n t ih =>
    have := numL_le9 n
    simp only [numsL, List.flatMap_cons, List.length_append, List.length_cons] at ih ⊢
    omega
theorem RowI.nth {w : World} {A : Option Addr} {l : List Int} (h : RowI w A l) {k : Nat} (hk : k < l.length) : ∃ b off, A = some ⟨b, off, none⟩ ∧ b < w.heap.size ∧ w.cell? ⟨b, off + k, none⟩ = some (.int .i64 l[k]) := by
  obtain ⟨b, off, hA, hb, hc⟩ := h.at hk
  have := hc k hk 0 (by omega)
  rw [Nat.mul_one, Nat.add_zero] at this
  exact ⟨b, off, hA, hb, by rw [this]; rfl⟩

set_option maxHeartbeats 2000000 in
theorem appNums_any (ns : List Int) (A : Option Addr) (cap base : Nat) (v : Value) (l : List UInt8) (w : World) (hl : l.length + 9 * ns.length ≤ 1000000) (hb : base ≤ w.heap.size) (hown : OwnB w base v l) (hr : RowI w A ns) (hne : ∀ a, A = some a → v.ownBlock ≠ some a.block) :
    Calls Try.prog 26 #[v, .slice A ns.length cap] w fun e w' => ∃ v', e = .returned v' ∧ Hid (OwnB w' base v' (l ++ numsL ns) ∧ Grw w w' v v') := by
  have hH : Hid (RowI w A ns ∧ ∀ a, A = some a → v.ownBlock ≠ some a.block) := ⟨hr, hne⟩
  have h0 : Hid (OwnB w base v (l ++ numsL (ns.take 0)) ∧ Grw w w v v) := ⟨by simpa [numsL] using hown, Grw.refl _ _⟩
  clear hr hne hown
  go_enter Try.func26, Try.ntmps26
  go_wp2
  go_loopw [0, 10] (fun bv iv wr => ∃ (k : Nat), iv = .int .i64 k ∧ k ≤ ns.length ∧ Hid (OwnB wr base bv (l ++ numsL (ns.take k)) ∧ Grw w wr v bv)) (fun _ iv _ => ns.length - (intOf iv).toNat)
  case atStart => exact ⟨0, rfl, by omega, h0⟩
  case round =>
    clear h0
    rename World => wr
    obtain ⟨k, rfl, hk, hR⟩ := hrel
    by_cases hlt : k < ns.length
    · have hltz : (k : Int) < (ns.length : Int) := by omega
      obtain ⟨b, off, rfl, hbl, hc⟩ := RowI.nth (RowG.grw hH.out.1 hR.out.2 hH.out.2) hlt
      obtain ⟨n, hn⟩ : ∃ n, ns[k] = n := ⟨_, rfl⟩
      rw [hn] at hc
      obtain ⟨T, hT⟩ : ∃ T, Hid (l ++ numsL (ns.take k) ++ numL n = T) := ⟨_, rfl⟩
      have hTn : Hid (T = l ++ numsL (ns.take (k + 1))) := by show _ = _; rw [numsL_take hlt hn, ← List.append_assoc, hT.out]
      have hTl : Hid (T.length ≤ 1000000) := by
        have h1 := numsL_len (ns.take (k + 1))
        rw [List.length_take] at h1
        show _ ≤ _
        rw [hTn.out, List.length_append]
        omega
      have hz := zig_lt n
      obtain ⟨z0, hz0⟩ : ∃ z0, zigN (clampN n) = z0 := ⟨_, rfl⟩
      have hF := fun w => fold_any n w
      rw [hz0] at hF hz
      have hI : Hid (OwnB wr base _ (l ++ numsL (ns.take k)) ∧ (l ++ numsL (ns.take k)) ++ leb z0 = T ∧ Grw w wr v _) := ⟨hR.out.1, by rw [← hT.out, ← hz0]; rfl, hR.out.2⟩
      have hFH : Hid _ := hF
      clear hF hz0 hn hR
      go_wp2_with fail
      refine Calls.mono (show Calls _ _ _ _ _ from hFH.out _) ?_
      rintro e w1 ⟨rfl, hw1⟩
      subst w1
      clear hFH hc
      go_wp2
      go_loopw [0, 7] (fun bv uv wi => ∃ (u : Nat) (o : List UInt8), uv = .int .u64 u ∧ u ≤ 4611686018427387904 ∧ Hid (OwnB wi base bv o ∧ o ++ leb u = T ∧ Grw w wi v bv)) (fun _ uv _ => (intOf uv).toNat)
      case atStart => exact ⟨z0, _, rfl, hz, hI⟩
      case round =>
        clear hI hz
        rename World => wi
        obtain ⟨u, o, rfl, hu, hR⟩ := hrel
        have hol : Hid (o.length ≤ 1000000) := by
          have h1 := congrArg List.length hR.out.2.1
          rw [List.length_append] at h1
          have h2 := hTl.out
          show _ ≤ _
          omega
        by_cases hbig : 127 < u
        · have hbz : (128 : Int) ≤ (u : Int) := by omega
          obtain ⟨c, hc⟩ : ∃ c, UInt8.ofNat (128 + u % 128) = c := ⟨_, rfl⟩
          have hor : bits .or .u8 ((u : Int) % 256) 128 = (c.toNat : Int) := by
            have := u8_or_nat (u % 256) 128 (by omega) (by omega)
            rw [or128] at this
            rw [← hc, UInt8.toNat_ofNat']
            simp at this ⊢
            rw [this]
            omega
          have hX : Hid (OwnB (wi.alloc (.cells #[.int .u8 c.toNat] 5)) base u0 o ∧ RowG encB 1 (wi.alloc (.cells #[.int .u8 c.toNat] 5)) (some ⟨wi.heap.size, 0, none⟩) [c] ∧ base ≤ (wi.alloc (.cells #[.int .u8 c.toNat] 5)).heap.size ∧ Grw w (wi.alloc (.cells #[.int .u8 c.toNat] 5)) v u0) :=
            ⟨hR.out.1.gr ((Gr.refl _).alloc _), rowNewB rfl c _, by have := hR.out.2.2.g.size; simp; omega, hR.out.2.2.gr ((Gr.refl _).alloc _)⟩
          have hnx : Hid ((o ++ [c]) ++ leb (u / 128) = T) := by show _ = _; rw [← hR.out.2.1, leb_big hbig, hc]; simp
          clear hR hc
          go_wp2_with (at_builtin; refine wpList_append_b _ rfl (.tmp 20) (.tmp 24) rfl base u0 o [c] ⟨wi.heap.size, 0, none⟩ 1 1 rfl rfl rfl hX.out.1 hX.out.2.1 (by have := hol.out; simp; omega) hX.out.2.2.1 ?_)
          intro v2 w2 hown2 hg2
          have h2 : Hid (OwnB w2 base v2 (o ++ [c]) ∧ (o ++ [c]) ++ leb (u / 128) = T ∧ Grw w w2 v v2) := ⟨hown2, hnx.out, hX.out.2.2.2.trans hg2⟩
          clear hown2 hg2 hX hnx
          go_wp2
          go_roundw
          case rel => exact ⟨u / 128, o ++ [c], by go_num, by omega, h2⟩
          case measure => simp [intOf]; omega
        · have hbz : ¬ (128 : Int) ≤ (u : Int) := by omega
          obtain ⟨c, hc⟩ : ∃ c, UInt8.ofNat u = c := ⟨_, rfl⟩
          have hcu : (c.toNat : Int) = (u : Int) := by
            rw [← hc, UInt8.toNat_ofNat']
            omega
          have hX : Hid (OwnB (wi.alloc (.cells #[.int .u8 c.toNat] 5)) base u0 o ∧ RowG encB 1 (wi.alloc (.cells #[.int .u8 c.toNat] 5)) (some ⟨wi.heap.size, 0, none⟩) [c] ∧ base ≤ (wi.alloc (.cells #[.int .u8 c.toNat] 5)).heap.size ∧ Grw w (wi.alloc (.cells #[.int .u8 c.toNat] 5)) v u0) :=
            ⟨hR.out.1.gr ((Gr.refl _).alloc _), rowNewB rfl c _, by have := hR.out.2.2.g.size; simp; omega, hR.out.2.2.gr ((Gr.refl _).alloc _)⟩
          rw [hcu] at hX
          have hnx : Hid (o ++ [c] = l ++ numsL (ns.take (k + 1))) := by show _ = _; rw [← hTn.out, ← hR.out.2.1, leb_small hbig, hc]
          clear hR hc hcu
          go_wp2_with (at_builtin; refine wpList_append_b _ rfl (.tmp 26) (.tmp 29) rfl base u0 o [c] ⟨wi.heap.size, 0, none⟩ 1 1 rfl rfl rfl hX.out.1 hX.out.2.1 (by have := hol.out; simp; omega) hX.out.2.2.1 ?_)
          intro v2 w2 hown2 hg2
          have h2 : Hid (OwnB w2 base v2 (l ++ numsL (ns.take (k + 1))) ∧ Grw w w2 v v2) := ⟨by rw [← hnx.out]; exact hown2, hX.out.2.2.2.trans hg2⟩
          clear hown2 hg2 hX hnx
          go_wp2
          go_roundw
          case rel => exact ⟨k + 1, by go_num, by omega, h2⟩
          case measure => simp [intOf]; omega
    · have hltz : ¬ (k : Int) < (ns.length : Int) := by omega
      have hke : ns.take k = ns := List.take_of_length_le (by omega)
      rw [hke] at hR
      go_wp2
      go_ret
      exact ⟨u0, rfl, hR⟩

set_option maxHeartbeats 2000000 in
theorem number_any (n : Int) (w : World) : Calls Try.prog 9 #[.int .i64 n] w fun e w' => e = .returned (.string ⟨(numL n).toArray⟩) ∧ Below w.heap.size w w' := by
  have hrow := rowNewI (W := w) rfl n 3
  have hC := appNums_any [n] (some ⟨w.heap.size, 0, none⟩) 1 (w.heap.size + 1) (.slice none 0 0) [] (w.alloc (.cells #[.int .i64 n] 3)) (by simp) (by simp) (OwnG.nil _ _ _ _ _) hrow (fun _ _ => by intro h; cases h)
  have hCH : Hid _ := hC
  clear hC hrow
  go_enter Try.func9, Try.ntmps9
  go_wp2_with fail
  refine Calls.mono (show Calls _ _ _ _ _ from hCH.out) ?_
  rintro e w1 ⟨v1, rfl, hR⟩
  clear hCH
  have hL : ([] ++ numsL [n]) = numL n := by simp [numsL]
  have hO := hR.out.1
  rw [hL] at hO
  obtain ⟨A1, c1, hv1, _⟩ := OwnG.row encB_len hO
  subst hv1
  have hcv := conv_own hO (by unfold numL; rw [leb]; split <;> simp)
  have hb : Hid (Below w.heap.size w w1) := ((Gr.refl w).alloc _).below.trans ((OwnG.grw_below (base := w.heap.size + 1) (show OwnB _ _ _ [] from OwnG.nil _ _ _ _ _) hR.out.2 (by simp)).mono (by omega))
  clear hR hO hL
  go_wp2
  go_ret
  exact ⟨rfl, hb.out⟩
end Go.Proofs.Ytbhhpijidbhipaa
