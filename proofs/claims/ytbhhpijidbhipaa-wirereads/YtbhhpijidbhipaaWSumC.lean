/-
  wire.Sum: the CRC-32 of a text, all bits of a byte put in at once; wire.sumBytes.
-/
import Derived.Test.YtbhhpijidbhipaaWDec
import Derived.Test.YtbhhpijidbhipaaWAppN
namespace Go.Proofs.Ytbhhpijidbhipaa
open Go.RowKit Go.Sort

theorem crc_once {s r c k : Nat} (h : s = r ^^^ c / 2 ^ k) : (if s % 2 ≠ 0 then s / 2 ^^^ 3988292384 else s / 2) = crcBit r c k ^^^ c / 2 ^ (k + 1) := by
  have h1 : s / 2 = r / 2 ^^^ c / 2 ^ (k + 1) := by rw [h, Nat.xor_div_two, Nat.div_div_eq_div_mul, Nat.pow_succ]
  have h2 := Nat.xor_mod_two_eq_one (a := r) (b := c / 2 ^ k)
  rw [← h] at h2
  unfold crcBit
  by_cases hc : r % 2 ≠ c / 2 ^ k % 2
  · rw [if_pos (by omega), if_pos hc, h1, Nat.xor_assoc, Nat.xor_assoc, Nat.xor_comm (c / 2 ^ (k + 1))]
  · rw [if_neg (by omega), if_neg hc, h1]
theorem sum_turned {r : Nat} (h : r < 4294967296) : (4294967295 : Nat) ^^^ r = 4294967295 - r := by
  apply Nat.eq_of_testBit_eq
  intro i
  rw [Nat.testBit_xor, show (4294967295 : Nat) - r = 2 ^ 32 - (r + 1) by omega, Nat.testBit_two_pow_sub_succ (by omega), show (4294967295 : Nat) = 2 ^ 32 - 1 from rfl, Nat.testBit_two_pow_sub_one]
  by_cases hi : i < 32
  · simp [hi]
  · have : r.testBit i = false := Nat.testBit_lt_two_pow (Nat.lt_of_lt_of_le h (Nat.pow_le_pow_right (n := 2) (i := 32) (by decide) (by omega)))
    simp [hi, this]

set_option maxHeartbeats 2000000 in
theorem sum_any (x : List UInt8) (w : World) (hx : x.length ≤ maxLen) : Calls Try.prog 11 #[.string ⟨x.toArray⟩] w fun e w' => e = .returned (.int .u32 (sumL x)) ∧ w' = w := by
  unfold maxLen at hx
  go_enter Try.func11, Try.ntmps11
  go_wp2
  go_loopw [3, 8] (fun rv iv wr => ∃ (r : Nat) (i : Nat), rv = .int .u32 r ∧ r < 4294967296 ∧ iv = .int .i64 i ∧ i ≤ x.length ∧ Hid (r = crcL 4294967295 (x.take i)) ∧ wr = w) (fun _ iv _ => x.length - (intOf iv).toNat)
  case atStart => exact ⟨4294967295, 0, rfl, by omega, rfl, by omega, rfl, rfl⟩
  case round =>
    obtain ⟨r, i, rfl, hr, rfl, hi, hri, rfl⟩ := hrel
    by_cases hlt : i < x.length
    · have hltz : (i : Int) < (x.length : Int) := by omega
      obtain ⟨c, hc⟩ : ∃ c, x[i].toNat = c := ⟨_, rfl⟩
      have hcH : Hid (x[i].toNat = c) := hc
      have hc256 : c < 256 := by rw [← hc]; exact UInt8.toNat_lt _
      have hbs : i < (ByteArray.mk x.toArray).size := by show i < x.toArray.size; simpa using hlt
      have hbz : (((ByteArray.mk x.toArray)[i]'hbs).toNat : Int) % 4294967296 = (c : Int) := by
        have : ((ByteArray.mk x.toArray)[i]'hbs) = x[i] := by show x.toArray[i]'_ = _; simp
        rw [this, hc]
        omega
      have hx0 : Hid (r ^^^ c < 4294967296) := Nat.xor_lt_two_pow (n := 32) (by omega) (by omega)
      have hxr : bits .xor .u32 (r : Int) (c : Int) = ((r ^^^ c : Nat) : Int) := u32_xor_nat r c (by omega) (by omega)
      go_wp2
      clear hxr hbz hbs hc
      go_loopw [3, 17] (fun rv kv wi => ∃ (s : Nat) (k : Nat), rv = .int .u32 s ∧ s < 4294967296 ∧ kv = .int .i64 k ∧ k ≤ 8 ∧ Hid (s = crcBits r c k ^^^ c / 2 ^ k) ∧ wi = wr) (fun _ kv _ => 8 - (intOf kv).toNat)
      case atStart => exact ⟨r ^^^ c, 0, rfl, hx0.out, rfl, by omega, by show _ = _; simp [crcBits], rfl⟩
      case round =>
        rename World => wi
        obtain ⟨s, k, rfl, hs, rfl, hk, hsk, rfl⟩ := hrel
        by_cases hk8 : k < 8
        · have hk8z : (k : Int) < 8 := by omega
          have hst := crc_once hsk.out
          have hst : (if s % 2 ≠ 0 then s / 2 ^^^ 3988292384 else s / 2) = crcBits r c (k + 1) ^^^ c / 2 ^ (k + 1) := hst
          have hand : bits .and .u32 (s : Int) 1 = ((s % 2 : Nat) : Int) := by
            have := u32_and_nat s 1 (by omega) (by decide)
            rw [Nat.and_one_is_mod] at this
            exact this
          by_cases hcnd : s % 2 = 0
          · have hnx : Hid (s / 2 = crcBits r c (k + 1) ^^^ c / 2 ^ (k + 1)) := by show _ = _; rw [← hst, if_neg (by simp [hcnd])]
            have hcz : ((s : Int) % 2) = 0 := by omega
            clear hst
            go_wp2
            go_roundw
            case rel => exact ⟨s / 2, k + 1, by go_num, by omega, by go_num, by omega, hnx, trivial⟩
            case measure => simp [intOf]; omega
          · have hnx : Hid (s / 2 ^^^ 3988292384 = crcBits r c (k + 1) ^^^ c / 2 ^ (k + 1)) := by show _ = _; rw [← hst, if_pos hcnd]
            have hcz : ((s : Int) % 2) ≠ 0 := by omega
            have hxr : bits .xor .u32 ((s : Int) / 2) 3988292384 = ((s / 2 ^^^ 3988292384 : Nat) : Int) := by
              have := u32_xor_nat (s / 2) 3988292384 (by omega) (by decide)
              simpa using this
            have hb2 : Hid (s / 2 ^^^ 3988292384 < 4294967296) := Nat.xor_lt_two_pow (n := 32) (by omega) (by decide)
            clear hst
            go_wp2
            go_roundw
            case rel => exact ⟨s / 2 ^^^ 3988292384, k + 1, rfl, hb2.out, by go_num, by omega, hnx, trivial⟩
            case measure => simp [intOf]; omega
        · have hk8z : ¬ (k : Int) < 8 := by omega
          obtain rfl : k = 8 := by omega
          have hse : Hid (s = crcL 4294967295 (x.take (i + 1))) := by
            show _ = _
            rw [crcL_take hlt, ← hri.out, hcH.out, hsk.out, Nat.div_eq_of_lt (by omega)]
            simp
          go_wp2
          go_roundw
          case rel => exact ⟨s, i + 1, rfl, hs, by go_num, by omega, hse, trivial⟩
          case measure => simp [intOf]; omega
    · have hltz : ¬ (i : Int) < (x.length : Int) := by omega
      have hfin : bits .xor .u32 IntKind.u32.max (r : Int) = ((sumL x : Nat) : Int) := by
        have := u32_xor_nat 4294967295 r (by decide) (by omega)
        rw [sum_turned hr] at this
        unfold sumL
        rw [← List.take_of_length_le (show x.length ≤ i by omega), ← hri.out]
        exact this
      go_wp2
      go_ret
      exact ⟨rfl, rfl⟩

theorem sumBytes_conv {s : Nat} (hs : s < 4294967296) (w : World) (cs : Array Value) (hcs : cs = #[.int .u8 ((s : Int) % 256), .int .u8 ((s : Int) / 256 % 256), .int .u8 ((s : Int) / 65536 % 256), .int .u8 ((s : Int) / 16777216)]) : (convert 47 9 (.slice (some ⟨w.heap.size, 0, none⟩) 4 4)).run Try.prog (w.alloc (.cells cs 5)) = .ok (.string ⟨(sumB s).toArray⟩) (w.alloc (.cells cs 5)) := by
  subst hcs
  have h := run_convert_bytes_arg (P := Try.prog) (w.alloc (.cells #[.int .u8 ((s : Int) % 256), .int .u8 ((s : Int) / 256 % 256), .int .u8 ((s : Int) / 65536 % 256), .int .u8 ((s : Int) / 16777216)] 5)) 47 5 Try.underlying47 Try.underlying5 w.heap.size 0 4 4 [(s : Int) % 256, (s : Int) / 256 % 256, (s : Int) / 65536 % 256, (s : Int) / 16777216] rfl (fun i hi => by
    have hi : i = 0 ∨ i = 1 ∨ i = 2 ∨ i = 3 := by omega
    rcases hi with rfl | rfl | rfl | rfl <;> exact box1 (w := w) (Gr.refl _) rfl) 9 Try.underlying9
  rw [h]
  congr 2
  simp only [strOfNums, sumB]
  rw [show s / 16777216 % 256 = s / 16777216 by omega]
  congr 1

set_option maxHeartbeats 2000000 in
theorem sumBytes_any (x : List UInt8) (w : World) (hx : x.length ≤ maxLen) : Calls Try.prog 25 #[.string ⟨x.toArray⟩] w fun e w' => e = .returned (.string ⟨(sumB (sumL x)).toArray⟩) ∧ Gr w w' := by
  have hC := sum_any x w hx
  obtain ⟨s, hs⟩ : ∃ s, sumL x = s := ⟨_, rfl⟩
  have hsl : s < 4294967296 := by rw [← hs]; unfold sumL; omega
  rw [hs] at hC ⊢
  have hCH : Hid _ := hC
  clear hC hs
  go_enter Try.func25, Try.ntmps25
  go_wp2_with fail
  refine Calls.mono (show Calls _ _ _ _ _ from hCH.out) ?_
  rintro e w1 ⟨rfl, hw1⟩
  subst w1
  clear hCH
  have hcv := sumBytes_conv hsl w _ rfl
  go_wp2
  go_ret
  exact ⟨rfl, (Gr.refl _).alloc _⟩
end Go.Proofs.Ytbhhpijidbhipaa
