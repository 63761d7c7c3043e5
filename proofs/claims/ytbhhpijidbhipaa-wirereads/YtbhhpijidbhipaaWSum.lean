/-
  viewref.Sum: the CRC-32 of a text, bit by bit.
-/
import Derived.Test.YtbhhpijidbhipaaBase
import Derived.Laws.BitsAllLaws
namespace Go.Proofs.Ytbhhpijidbhipaa
open Go.RowKit Go.Sort

/-- One bit of a byte. -/
def crcBit (r c k : Nat) : Nat := if r % 2 ≠ c / 2 ^ k % 2 then r / 2 ^^^ 3988292384 else r / 2
/-- The first bits of a byte. -/
def crcBits (r c : Nat) : Nat → Nat
  | 0 => r
  | k + 1 => crcBit (crcBits r c k) c k
/-- A text, byte by byte. -/
def crcL (r : Nat) (x : List UInt8) : Nat := x.foldl (fun r c => crcBits r c.toNat 8) r
/-- The sum of a text. -/
def sumL (x : List UInt8) : Nat := 4294967295 - crcL 4294967295 x
theorem crcBit_lt {r c k : Nat} (h : r < 4294967296) : crcBit r c k < 4294967296 := by
  unfold crcBit
  split
  · exact Nat.xor_lt_two_pow (n := 32) (by omega) (by decide)
  · omega
theorem crcBits_lt {r c : Nat} (h : r < 4294967296) : ∀ k, crcBits r c k < 4294967296
  | 0 => h
  | k + 1 => crcBit_lt (crcBits_lt h k)
theorem crcL_lt (x : List UInt8) : ∀ {r : Nat}, r < 4294967296 → crcL r x < 4294967296 := by
  induction x with
  | nil => intro r h; exact h
  | cons c t ih => intro r h; exact ih (crcBits_lt h 8)
theorem crcL_take {r : Nat} {x : List UInt8} {i : Nat} (h : i < x.length) : crcL r (x.take (i + 1)) = crcBits (crcL r (x.take i)) x[i].toNat 8 := by
  unfold crcL
  rw [List.take_succ_eq_append_getElem h, List.foldl_append]
  rfl

theorem bit_int (c k : Nat) : ((c : Int) / 2 ^ k).tmod 2 = ((c / 2 ^ k % 2 : Nat) : Int) := by
  have h : ((c : Int) / 2 ^ k) = ((c / 2 ^ k : Nat) : Int) := by simp
  rw [h]
  exact Int.tmod_eq_emod_of_nonneg (Int.natCast_nonneg _)

set_option maxHeartbeats 2000000 in
theorem rsum_any (x : List UInt8) (w : World) (hx : x.length ≤ maxLen) : Calls Try.prog 12 #[.string ⟨x.toArray⟩] w fun e w' => e = .returned (.int .u32 (sumL x)) ∧ w' = w := by
  unfold maxLen at hx
  go_enter Try.func12, Try.ntmps12
  go_wp2
  go_loopw [3, 4] (fun rv iv wr => ∃ (r : Nat) (i : Nat), rv = .int .u32 r ∧ r < 4294967296 ∧ iv = .int .i64 i ∧ i ≤ x.length ∧ Hid (r = crcL 4294967295 (x.take i)) ∧ wr = w) (fun _ iv _ => x.length - (intOf iv).toNat)
  case atStart => exact ⟨4294967295, 0, rfl, by omega, rfl, by omega, rfl, rfl⟩
  case round =>
    obtain ⟨r, i, rfl, hr, rfl, hi, hri, rfl⟩ := hrel
    by_cases hlt : i < x.length
    · have hltz : (i : Int) < (x.length : Int) := by omega
      obtain ⟨c, hc⟩ : ∃ c, x[i].toNat = c := ⟨_, rfl⟩
      have hcH : Hid (x[i].toNat = c) := hc
      have hc256 : c < 256 := by rw [← hc]; exact UInt8.toNat_lt _
      have hbs : i < (ByteArray.mk x.toArray).size := by show i < x.toArray.size; simpa using hlt
      have hbz : (((ByteArray.mk x.toArray)[i]'hbs).toNat : Int) % 4294967296 = (c : Int) := by
        have : ((ByteArray.mk x.toArray)[i]'hbs) = x[i] := by show x.toArray[i]'_ = _; simp
        rw [this, hc]
        omega
      go_wp2
      go_loopw [3, 5] (fun rv kv wi => ∃ (s : Nat) (k : Nat), rv = .int .u32 s ∧ s < 4294967296 ∧ kv = .int .i64 k ∧ k ≤ 8 ∧ Hid (s = crcBits r c k) ∧ wi = wr) (fun _ kv _ => 8 - (intOf kv).toNat)
      case atStart => exact ⟨r, 0, rfl, hr, rfl, by omega, rfl, rfl⟩
      case round =>
        rename World => wi
        obtain ⟨s, k, rfl, hs, rfl, hk, hsk, rfl⟩ := hrel
        by_cases hk8 : k < 8
        · have hk8z : (k : Int) < 8 := by omega
          have hlt2 : Hid (crcBits r c (k + 1) < 4294967296) := crcBits_lt hr (k + 1)
          have hst : crcBits r c (k + 1) = if s % 2 ≠ c / 2 ^ k % 2 then s / 2 ^^^ 3988292384 else s / 2 := by
            show crcBit (crcBits r c k) c k = _
            rw [← hsk.out]
            rfl
          have hbi := bit_int c k
          by_cases hcnd : s % 2 = c / 2 ^ k % 2
          · have hcb : ((s : Int) % 2 != ((c : Int) / 2 ^ k).tmod 2) = false := by rw [hbi, ← hcnd]; simp
            have hnx : Hid (s / 2 = crcBits r c (k + 1)) := by show _ = _; rw [hst, if_neg (by simp [hcnd])]
            clear hcnd hst hbi
            go_wp2
            go_roundw
            case rel => exact ⟨s / 2, k + 1, by go_num, by omega, by go_num, by omega, hnx, trivial⟩
            case measure => simp [intOf]; omega
          · have hcb : ((s : Int) % 2 != ((c : Int) / 2 ^ k).tmod 2) = true := by
              rw [hbi]
              have : (s : Int) % 2 ≠ ((c / 2 ^ k % 2 : Nat) : Int) := by omega
              simpa using this
            have hnx : Hid (s / 2 ^^^ 3988292384 = crcBits r c (k + 1)) := by show _ = _; rw [hst, if_pos hcnd]
            have hxr : bits .xor .u32 ((s : Int) / 2) 3988292384 = ((s / 2 ^^^ 3988292384 : Nat) : Int) := by
              have := u32_xor_nat (s / 2) 3988292384 (by omega) (by decide)
              simpa using this
            have hb2 : Hid (s / 2 ^^^ 3988292384 < 4294967296) := by show _ < _; rw [hnx.out]; exact hlt2.out
            clear hcnd hst hbi
            go_wp2
            go_roundw
            case rel => exact ⟨s / 2 ^^^ 3988292384, k + 1, rfl, hb2.out, by go_num, by omega, hnx, trivial⟩
            case measure => simp [intOf]; omega
        · have hk8z : ¬ (k : Int) < 8 := by omega
          obtain rfl : k = 8 := by omega
          go_wp2
          go_roundw
          case rel => exact ⟨s, i + 1, rfl, hs, by go_num, by omega, by show _ = _; rw [crcL_take hlt, ← hri.out, hcH.out]; exact hsk.out, trivial⟩
          case measure => simp [intOf]; omega
    · have hltz : ¬ (i : Int) < (x.length : Int) := by omega
      have hfin : Hid (((4294967295 : Int) - (r : Int)) = ((sumL x : Nat) : Int)) := by
        show _ = _
        unfold sumL
        rw [← List.take_of_length_le (show x.length ≤ i by omega), ← hri.out]
        omega
      go_wp2
      go_ret
      rw [← hfin.out]
      exact ⟨rfl, rfl⟩
end Go.Proofs.Ytbhhpijidbhipaa
