/-
  viewref.Number: a whole number as bytes.
-/
import Derived.Test.YtbhhpijidbhipaaBase
import Derived.Laws.BytesArg
namespace Go.Proofs.Ytbhhpijidbhipaa
open Go.RowKit Go.Sort

/-- Seven bits a byte, the lowest first, each byte but the last one with 128 more. -/
def leb (u : Nat) : List UInt8 := if h : 127 < u then UInt8.ofNat (128 + u % 128) :: leb (u / 128) else [UInt8.ofNat u]
termination_by u
decreasing_by omega
theorem leb_big {u : Nat} (h : 127 < u) : leb u = UInt8.ofNat (128 + u % 128) :: leb (u / 128) := by rw [leb, dif_pos h]
theorem leb_small {u : Nat} (h : ¬ 127 < u) : leb u = [UInt8.ofNat u] := by rw [leb, dif_neg h]
/-- The number within its range. -/
def clampN (n : Int) : Int := max (min n 2305843009213693952) (-2305843009213693952)
/-- Twice n, or twice how far it is below 0, less 1. -/
def zigN (n : Int) : Nat := if n < 0 then (-2 * n - 1).toNat else (2 * n).toNat
/-- A number's bytes. -/
def numL (n : Int) : List UInt8 := leb (zigN (clampN n))

theorem leb_len : ∀ (k : Nat) {u : Nat}, u < 128 ^ (k + 1) → (leb u).length ≤ k + 1
  | 0, u, h => by
    rw [leb_small (by simp at h; omega)]
    simp
  | k + 1, u, h => by
    by_cases hu : 127 < u
    · rw [leb_big hu, List.length_cons]
      have := leb_len k (u := u / 128) (by rw [Nat.pow_succ] at h; exact Nat.div_lt_of_lt_mul (by rw [Nat.mul_comm]; exact h))
      omega
    · rw [leb_small hu]
      simp
/-- One byte as a text. -/
theorem oneByte (v : Int) (w : World) : (convert 47 9 (.slice (some ⟨w.heap.size, 0, none⟩) 1 1)).run Try.prog (w.alloc (.cells #[.int .u8 v] 5)) = .ok (.string ⟨#[UInt8.ofNat v.toNat]⟩) (w.alloc (.cells #[.int .u8 v] 5)) := by
  have h := run_convert_bytes_arg (P := Try.prog) (w.alloc (.cells #[.int .u8 v] 5)) 47 5 Try.underlying47 Try.underlying5 w.heap.size 0 1 1 [v] rfl (fun i hi => by
    obtain rfl : i = 0 := by omega
    exact box1 (w := w) (Gr.refl _) (j := 0) rfl) 9 Try.underlying9
  rw [h]
  rfl
theorem addB {x y : List UInt8} {a b c : ByteArray} (hc : c = ⟨(x ++ y).toArray⟩) (ha : a = ⟨x.toArray⟩) (hb : b = ⟨y.toArray⟩) (h : x.length + y.length ≤ 9000000000000000000) : ∀ w, (Op.stringOp .add a b).run Try.prog w = .ok (.string c) w := fun w => by
  subst hc ha hb
  rw [run_string_add_sum w _ _ (by simp [ByteArray.size]; omega), ByteArray.mk_append_mk]
set_option maxHeartbeats 2000000 in
theorem rnumber_any (n : Int) (w : World) : Calls Try.prog 10 #[.int .i64 n] w fun e w' => e = .returned (.string ⟨(numL n).toArray⟩) ∧ Gr w w' := by
  obtain ⟨m, hm⟩ : ∃ m, clampN n = m := ⟨_, rfl⟩
  have hmm : max (min n 2305843009213693952) (-2305843009213693952) = m := hm
  have hb : -2305843009213693952 ≤ m ∧ m ≤ 2305843009213693952 := by unfold clampN at hm; omega
  by_cases h0 : m < 0
  · obtain ⟨u0, hu0⟩ : ∃ u : Nat, -2 * m - 1 = (u : Int) := ⟨(-2 * m - 1).toNat, by omega⟩
    have hfin : Hid (numL n = leb u0) := by
      show _ = _
      unfold numL zigN
      rw [hm, if_pos h0]
      congr 1
      omega
    have hul : u0 ≤ 4611686018427387904 := by omega
    clear hm
    go_enter Try.func10, Try.ntmps10
    go_wp2
    clear hu0 hmm
    go_loopw [3, 4] (fun uv ov wr => ∃ (u : Nat) (o : List UInt8) (O : ByteArray), uv = .int .i64 u ∧ ov = .string O ∧ u ≤ 4611686018427387904 ∧ Hid (o ++ leb u = leb u0 ∧ O = ⟨o.toArray⟩) ∧ Gr w wr) (fun uv _ _ => (intOf uv).toNat)
    case atStart => exact ⟨u0, [], _, rfl, rfl, hul, ⟨rfl, rfl⟩, Gr.refl _⟩
    case round =>
      have hlen : Hid ((leb u0).length ≤ 9) := leb_len 8 (by omega)
      clear hul h0 hb
      obtain ⟨u, o, O, rfl, rfl, hul, hol, hgr⟩ := hrel
      have ho9 : Hid (o.length ≤ 9) := by
        have h1 := congrArg List.length hol.out.1
        have h2 := hlen.out
        rw [List.length_append] at h1
        show _ ≤ _
        omega
      by_cases hlt : 127 < u
      · have hltz : (127 : Int) < (u : Int) := by omega
        have hcv := oneByte (128 + (u : Int) % 128) wr
        obtain ⟨Bt, hBt⟩ : ∃ B : ByteArray, (⟨#[UInt8.ofNat (128 + (u : Int) % 128).toNat]⟩ : ByteArray) = B := ⟨_, rfl⟩
        obtain ⟨C, hC⟩ : ∃ C : ByteArray, C = ⟨(o ++ [UInt8.ofNat (128 + (u : Int) % 128).toNat]).toArray⟩ := ⟨_, rfl⟩
        rw [hBt] at hcv
        have hsum := addB hC hol.out.2 hBt.symm (by have := ho9.out; simp; omega)
        have hst : Hid ((o ++ [UInt8.ofNat (128 + (u : Int) % 128).toNat]) ++ leb (u / 128) = leb u0 ∧ C = ⟨(o ++ [UInt8.ofNat (128 + (u : Int) % 128).toNat]).toArray⟩) := by
          refine ⟨?_, hC⟩
          rw [← hol.out.1, leb_big hlt, List.append_assoc, show (128 + (u : Int) % 128).toNat = 128 + u % 128 by omega]
          rfl
        have hgX : Gr w (wr.alloc (.cells #[.int .u8 (128 + (u : Int) % 128)] 5)) := hgr.alloc _
        clear hBt hC
        go_wp2
        go_roundw
        case rel => exact ⟨u / 128, _, C, by go_num, rfl, by omega, hst, hgX⟩
        case measure => simp [intOf]; omega
      · have hltz : ¬ (127 : Int) < (u : Int) := by omega
        have hcv := oneByte (u : Int) wr
        obtain ⟨Bt, hBt⟩ : ∃ B : ByteArray, (⟨#[UInt8.ofNat (u : Int).toNat]⟩ : ByteArray) = B := ⟨_, rfl⟩
        obtain ⟨C, hC⟩ : ∃ C : ByteArray, C = ⟨(o ++ [UInt8.ofNat (u : Int).toNat]).toArray⟩ := ⟨_, rfl⟩
        rw [hBt] at hcv
        have hsum := addB hC hol.out.2 hBt.symm (by have := ho9.out; simp; omega)
        have hend : Hid (C = ⟨(numL n).toArray⟩) := by
          show _ = _
          rw [hC, hfin.out, ← hol.out.1, leb_small hlt]
          rfl
        clear hBt hC
        go_wp2
        go_ret
        rw [hend.out]
        exact ⟨rfl, hgr.alloc _⟩
  · obtain ⟨u0, hu0⟩ : ∃ u : Nat, 2 * m = (u : Int) := ⟨(2 * m).toNat, by omega⟩
    have hfin : Hid (numL n = leb u0) := by
      show _ = _
      unfold numL zigN
      rw [hm, if_neg h0]
      congr 1
      omega
    have hul : u0 ≤ 4611686018427387904 := by omega
    clear hm
    go_enter Try.func10, Try.ntmps10
    go_wp2
    clear hu0 hmm
    go_loopw [3, 4] (fun uv ov wr => ∃ (u : Nat) (o : List UInt8) (O : ByteArray), uv = .int .i64 u ∧ ov = .string O ∧ u ≤ 4611686018427387904 ∧ Hid (o ++ leb u = leb u0 ∧ O = ⟨o.toArray⟩) ∧ Gr w wr) (fun uv _ _ => (intOf uv).toNat)
    case atStart => exact ⟨u0, [], _, rfl, rfl, hul, ⟨rfl, rfl⟩, Gr.refl _⟩
    case round =>
      have hlen : Hid ((leb u0).length ≤ 9) := leb_len 8 (by omega)
      clear hul h0 hb
      obtain ⟨u, o, O, rfl, rfl, hul, hol, hgr⟩ := hrel
      have ho9 : Hid (o.length ≤ 9) := by
        have h1 := congrArg List.length hol.out.1
        have h2 := hlen.out
        rw [List.length_append] at h1
        show _ ≤ _
        omega
      by_cases hlt : 127 < u
      · have hltz : (127 : Int) < (u : Int) := by omega
        have hcv := oneByte (128 + (u : Int) % 128) wr
        obtain ⟨Bt, hBt⟩ : ∃ B : ByteArray, (⟨#[UInt8.ofNat (128 + (u : Int) % 128).toNat]⟩ : ByteArray) = B := ⟨_, rfl⟩
        obtain ⟨C, hC⟩ : ∃ C : ByteArray, C = ⟨(o ++ [UInt8.ofNat (128 + (u : Int) % 128).toNat]).toArray⟩ := ⟨_, rfl⟩
        rw [hBt] at hcv
        have hsum := addB hC hol.out.2 hBt.symm (by have := ho9.out; simp; omega)
        have hst : Hid ((o ++ [UInt8.ofNat (128 + (u : Int) % 128).toNat]) ++ leb (u / 128) = leb u0 ∧ C = ⟨(o ++ [UInt8.ofNat (128 + (u : Int) % 128).toNat]).toArray⟩) := by
          refine ⟨?_, hC⟩
          rw [← hol.out.1, leb_big hlt, List.append_assoc, show (128 + (u : Int) % 128).toNat = 128 + u % 128 by omega]
          rfl
        have hgX : Gr w (wr.alloc (.cells #[.int .u8 (128 + (u : Int) % 128)] 5)) := hgr.alloc _
        clear hBt hC
        go_wp2
        go_roundw
        case rel => exact ⟨u / 128, _, C, by go_num, rfl, by omega, hst, hgX⟩
        case measure => simp [intOf]; omega
      · have hltz : ¬ (127 : Int) < (u : Int) := by omega
        have hcv := oneByte (u : Int) wr
        obtain ⟨Bt, hBt⟩ : ∃ B : ByteArray, (⟨#[UInt8.ofNat (u : Int).toNat]⟩ : ByteArray) = B := ⟨_, rfl⟩
        obtain ⟨C, hC⟩ : ∃ C : ByteArray, C = ⟨(o ++ [UInt8.ofNat (u : Int).toNat]).toArray⟩ := ⟨_, rfl⟩
        rw [hBt] at hcv
        have hsum := addB hC hol.out.2 hBt.symm (by have := ho9.out; simp; omega)
        have hend : Hid (C = ⟨(numL n).toArray⟩) := by
          show _ = _
          rw [hC, hfin.out, ← hol.out.1, leb_small hlt]
          rfl
        clear hBt hC
        go_wp2
        go_ret
        rw [hend.out]
        exact ⟨rfl, hgr.alloc _⟩
end Go.Proofs.Ytbhhpijidbhipaa
