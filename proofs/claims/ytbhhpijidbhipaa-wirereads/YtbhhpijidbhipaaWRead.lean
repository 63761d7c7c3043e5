/-
  viewref.ReadNumber: the number that a text begins with.
-/
import Derived.Test.YtbhhpijidbhipaaBase
namespace Go.Proofs.Ytbhhpijidbhipaa
open Go.RowKit Go.Sort

/-- How many bytes at the front have their highest bit, up to a most. -/
def hiN : Nat → List UInt8 → Nat
  | 0, _ => 0
  | _ + 1, [] => 0
  | n + 1, c :: t => if 128 ≤ c.toNat then hiN n t + 1 else 0
/-- What some bytes are worth, seven bits each, the lowest first. -/
def lebV : List UInt8 → Nat
  | [] => 0
  | c :: t => lebV t * 128 + c.toNat % 128
/-- A number from what its bytes are worth. -/
def unzig (u : Nat) : Int := if u % 2 = 1 then -((u / 2 : Nat) : Int) - 1 else ((u / 2 : Nat) : Int)
/-- Whether a text begins with a number. -/
def readB (x : List UInt8) : Bool := !(hiN 9 x == x.length || hiN 9 x == 9 || (decide (0 < hiN 9 x) && x[hiN 9 x]? == some 0))
/-- The number a text begins with. -/
def readN (x : List UInt8) : Int := if readB x then unzig (lebV (x.take (hiN 9 x + 1))) else 0
/-- How many bytes it has. -/
def readK (x : List UInt8) : Nat := if readB x then hiN 9 x + 1 else 0

theorem hiN_le : ∀ (n : Nat) (x : List UInt8), hiN n x ≤ n
  | 0, _ => Nat.le_refl _
  | _ + 1, [] => Nat.zero_le _
  | n + 1, c :: t => by
    unfold hiN
    have := hiN_le n t
    split <;> omega
theorem hiN_len : ∀ (n : Nat) (x : List UInt8), hiN n x ≤ x.length
  | 0, _ => Nat.zero_le _
  | _ + 1, [] => Nat.zero_le _
  | n + 1, c :: t => by
    unfold hiN
    have := hiN_len n t
    simp
    split <;> omega
theorem hiN_step {x : List UInt8} {k : Nat} (h : k < x.length) (h9 : k < 9) (hc : 128 ≤ x[k].toNat) : hiN (9 - k) (x.drop k) = hiN (9 - (k + 1)) (x.drop (k + 1)) + 1 := by
  obtain ⟨m, hm⟩ : ∃ m, 9 - k = m + 1 := ⟨8 - k, by omega⟩
  rw [hm, List.drop_eq_getElem_cons h, hiN, if_pos hc, show 9 - (k + 1) = m by omega]
theorem hiN_stop {x : List UInt8} {k : Nat} (h : k < x.length) (hc : ¬ 128 ≤ x[k].toNat) : hiN (9 - k) (x.drop k) = 0 := by
  rw [List.drop_eq_getElem_cons h]
  cases 9 - k with
  | zero => rfl
  | succ m => rw [hiN, if_neg hc]
theorem hiN_end {x : List UInt8} {k : Nat} (h : x.length ≤ k) : hiN (9 - k) (x.drop k) = 0 := by
  rw [List.drop_eq_nil_of_le h]
  cases 9 - k <;> rfl
theorem lebV_lt : ∀ (l : List UInt8), lebV l < 128 ^ l.length
  | [] => by decide
  | c :: t => by
    have h := lebV_lt t
    unfold lebV
    rw [List.length_cons, Nat.pow_succ]
    omega
theorem lebV_at {x : List UInt8} {k m : Nat} (hk : k < x.length) (hm : m ≤ k) : lebV ((x.take (k + 1)).drop m) = lebV ((x.take (k + 1)).drop (m + 1)) * 128 + x[m].toNat % 128 := by
  have hl : m < (x.take (k + 1)).length := by rw [List.length_take]; omega
  rw [List.drop_eq_getElem_cons hl, lebV, List.getElem_take]
theorem byteAt {x : List UInt8} {i c : Nat} (hbs : i < (ByteArray.mk x.toArray).size) (hc : (x[i]'(by simpa [ByteArray.size] using hbs)).toNat = c) : (((ByteArray.mk x.toArray)[i]'hbs).toNat : Int) = (c : Int) := by
  rw [← hc]
  show ((x.toArray[i]'_).toNat : Int) = _
  simp

set_option maxHeartbeats 4000000 in
theorem rread_any (x : List UInt8) (w : World) (hx : x.length ≤ maxLen) : Calls Try.prog 30 #[.string ⟨x.toArray⟩] w fun e w' => e = .returned (.tuple #[.int .i64 (readN x), .int .i64 (readK x)]) ∧ w' = w := by
  unfold maxLen at hx
  go_enter Try.func30, Try.ntmps30
  go_wp2
  go_loopw [4] (fun kv wr => ∃ (k : Nat), kv = .int .i64 k ∧ k ≤ 9 ∧ k ≤ x.length ∧ Hid (k + hiN (9 - k) (x.drop k) = hiN 9 x) ∧ wr = w) (fun kv _ => 9 - (intOf kv).toNat)
  case atStart => exact ⟨0, rfl, by omega, by omega, by show _ = _; simp, rfl⟩
  case round =>
    obtain ⟨k, rfl, hk9, hkx, hkh, rfl⟩ := hrel
    by_cases hlt : k < x.length
    · have hltz : (k : Int) < (x.length : Int) := by omega
      have hbs : k < (ByteArray.mk x.toArray).size := by show k < x.toArray.size; simpa using hlt
      obtain ⟨c, hc⟩ : ∃ c, x[k].toNat = c := ⟨_, rfl⟩
      have hbz := byteAt hbs hc
      have hcH : Hid (x[k].toNat = c) := hc
      clear hc
      by_cases h9 : k < 9
      · have h9z : (k : Int) < 9 := by omega
        by_cases hc : 128 ≤ c
        · have hcz : (128 : Int) ≤ (c : Int) := by omega
          have hnx : Hid (k + 1 + hiN (9 - (k + 1)) (x.drop (k + 1)) = hiN 9 x) := by
            show _ = _
            have h1 := hkh.out
            rw [hiN_step hlt h9 (by rw [hcH.out]; exact hc)] at h1
            omega
          go_wp2
          go_roundw
          case rel => exact ⟨k + 1, by go_num, by omega, by omega, hnx, trivial⟩
          case measure => simp [intOf]; omega
        · have hcz : ¬ (128 : Int) ≤ (c : Int) := by omega
          have hkk : Hid (hiN 9 x = k) := by
            show _ = _
            have h1 := hkh.out
            rw [hiN_stop hlt (by rw [hcH.out]; exact hc)] at h1
            omega
          by_cases hz : 0 < k ∧ c = 0
          · have hno : Hid (readB x = false) := by
              show _ = _
              unfold readB
              rw [hkk.out, List.getElem?_eq_getElem hlt, show x[k] = 0 from UInt8.toNat_inj.mp (by rw [hcH.out, hz.2]; rfl)]
              simp [hz.1]
            have hfin : Hid (readN x = 0 ∧ readK x = 0) := by
              show _ ∧ _
              unfold readN readK
              rw [hno.out]
              exact ⟨rfl, rfl⟩
            obtain ⟨hz0, rfl⟩ := hz
            have hz0z : (0 : Int) < (k : Int) := by omega
            go_wp2
            go_ret2
            rw [hfin.out.1, hfin.out.2]
            exact ⟨rfl, rfl⟩
          · have hc256 : c < 256 := by rw [← hcH.out]; exact UInt8.toNat_lt _
            have hyes : Hid (readB x = true) := by
              show _ = _
              unfold readB
              rw [hkk.out, List.getElem?_eq_getElem hlt]
              have h1 : (k == x.length) = false := by simp; omega
              have h2 : (k == 9) = false := by simp; omega
              rw [h1, h2]
              by_cases hk0 : 0 < k
              · have h3 : (some x[k] == some 0) = false := by
                  simp
                  intro h
                  apply hz
                  refine ⟨hk0, ?_⟩
                  rw [← hcH.out, h]
                  rfl
                rw [h3]
                simp
              · simp [hk0]
            have hfin : Hid (readN x = unzig (lebV (x.take (k + 1))) ∧ readK x = k + 1) := by
              show _ ∧ _
              unfold readN readK
              rw [hyes.out, hkk.out]
              exact ⟨rfl, rfl⟩
            have e1 : ((k : Int) == (x.length : Int)) = false := by simp; omega
            have e2 : ((k : Int) == 9) = false := by simp; omega
            have e3 : 0 < k → ((c : Int) == 0) = false := fun h => by simp; omega
            by_cases hk0 : 0 < k
            · have hk0z : (0 : Int) < (k : Int) := by omega
              have e4 := e3 hk0
              go_wp2
              clear hkh e4 e3 e2 e1 hz hcz hc hbz hkk hyes hcH hbs hc256
              go_loopw [5, 6] (fun uv iv wi => ∃ (u : Nat) (z : Int), uv = .int .u64 u ∧ iv = .int .i64 z ∧ -1 ≤ z ∧ z ≤ k ∧ Hid (u = lebV ((x.take (k + 1)).drop (z + 1).toNat)) ∧ wi = wr) (fun _ iv _ => (intOf iv + 1).toNat)
              case atStart => exact ⟨0, k, rfl, rfl, by omega, by omega, by show _ = _; rw [show ((k : Int) + 1).toNat = k + 1 by omega, List.drop_eq_nil_of_le (by rw [List.length_take]; omega)]; rfl, rfl⟩
              case round =>
                rename World => wi
                obtain ⟨u, z, rfl, rfl, hz1, hzk, hu, rfl⟩ := hrel
                by_cases hz0 : 0 ≤ z
                · obtain ⟨m, rfl⟩ : ∃ m : Nat, z = m := ⟨z.toNat, by omega⟩
                  have hm : m ≤ k := by omega
                  have hul : u < 72057594037927936 := by
                    rw [hu.out]
                    refine Nat.lt_of_lt_of_le (lebV_lt _) (Nat.le_trans (Nat.pow_le_pow_right (n := 128) (j := 8) (by decide) ?_) (by decide))
                    rw [List.length_drop, List.length_take]
                    omega
                  have hmx : m < x.length := by omega
                  have hmb : m < (ByteArray.mk x.toArray).size := by show m < x.toArray.size; simpa using hmx
                  obtain ⟨d, hd⟩ : ∃ d, x[m].toNat = d := ⟨_, rfl⟩
                  have hdz := byteAt hmb hd
                  have hd256 : d < 256 := by rw [← hd]; exact UInt8.toNat_lt _
                  have hnx : Hid (u * 128 + d % 128 = lebV ((x.take (k + 1)).drop ((m : Int) - 1 + 1).toNat)) := by
                    show _ = _
                    rw [show ((m : Int) - 1 + 1).toNat = m by omega, lebV_at hlt hm, hd, hu.out, show ((m : Int) + 1).toNat = m + 1 by omega]
                  clear hu hd
                  go_wp2
                  go_roundw
                  case rel => exact ⟨u * 128 + d % 128, (m : Int) - 1, by go_num, rfl, by omega, by omega, hnx, trivial⟩
                  case measure => simp [intOf]
                · obtain rfl : z = -1 := by omega
                  have hul : u < 9223372036854775808 := by
                    rw [hu.out]
                    refine Nat.lt_of_lt_of_le (lebV_lt _) (Nat.le_trans (Nat.pow_le_pow_right (n := 128) (j := 9) (by decide) ?_) (by decide))
                    rw [List.length_drop, List.length_take]
                    omega
                  have huv : Hid (readN x = unzig u ∧ readK x = k + 1) := by
                    refine ⟨?_, hfin.out.2⟩
                    rw [hfin.out.1, hu.out]
                    rfl
                  clear hfin hu
                  by_cases h2 : u % 2 = 1
                  · have h2z : (u : Int) % 2 = 1 := by omega
                    go_wp2
                    go_ret2
                    rw [huv.out.1, huv.out.2, unzig, if_pos h2]
                    exact ⟨by simp, rfl⟩
                  · have h2z : ¬ (u : Int) % 2 = 1 := by omega
                    go_wp2
                    go_ret2
                    rw [huv.out.1, huv.out.2, unzig, if_neg h2]
                    exact ⟨by simp, rfl⟩
            · obtain rfl : k = 0 := by omega
              go_wp2
              clear hkh e3 e2 e1 hz hcz hc hbz hkk hyes hcH hbs hc256
              go_loopw [5, 6] (fun uv iv wi => ∃ (u : Nat) (z : Int), uv = .int .u64 u ∧ iv = .int .i64 z ∧ -1 ≤ z ∧ z ≤ (0 : Nat) ∧ Hid (u = lebV ((x.take (0 + 1)).drop (z + 1).toNat)) ∧ wi = wr) (fun _ iv _ => (intOf iv + 1).toNat)
              case atStart => exact ⟨0, (0 : Nat), rfl, rfl, by omega, by omega, by show _ = _; rw [show (((0 : Nat) : Int) + 1).toNat = 0 + 1 by omega, List.drop_eq_nil_of_le (by rw [List.length_take]; omega)]; rfl, rfl⟩
              case round =>
                rename World => wi
                obtain ⟨u, z, rfl, rfl, hz1, hzk, hu, rfl⟩ := hrel
                by_cases hz0 : 0 ≤ z
                · obtain ⟨m, rfl⟩ : ∃ m : Nat, z = m := ⟨z.toNat, by omega⟩
                  have hm : m ≤ 0 := by omega
                  have hul : u < 72057594037927936 := by
                    rw [hu.out]
                    refine Nat.lt_of_lt_of_le (lebV_lt _) (Nat.le_trans (Nat.pow_le_pow_right (n := 128) (j := 8) (by decide) ?_) (by decide))
                    rw [List.length_drop, List.length_take]
                    omega
                  have hmx : m < x.length := by omega
                  have hmb : m < (ByteArray.mk x.toArray).size := by show m < x.toArray.size; simpa using hmx
                  obtain ⟨d, hd⟩ : ∃ d, x[m].toNat = d := ⟨_, rfl⟩
                  have hdz := byteAt hmb hd
                  have hd256 : d < 256 := by rw [← hd]; exact UInt8.toNat_lt _
                  have hnx : Hid (u * 128 + d % 128 = lebV ((x.take (0 + 1)).drop ((m : Int) - 1 + 1).toNat)) := by
                    show _ = _
                    rw [show ((m : Int) - 1 + 1).toNat = m by omega, lebV_at hlt hm, hd, hu.out, show ((m : Int) + 1).toNat = m + 1 by omega]
                  clear hu hd
                  go_wp2
                  go_roundw
                  case rel => exact ⟨u * 128 + d % 128, (m : Int) - 1, by go_num, rfl, by omega, by omega, hnx, trivial⟩
                  case measure => simp [intOf]
                · obtain rfl : z = -1 := by omega
                  have hul : u < 9223372036854775808 := by
                    rw [hu.out]
                    refine Nat.lt_of_lt_of_le (lebV_lt _) (Nat.le_trans (Nat.pow_le_pow_right (n := 128) (j := 9) (by decide) ?_) (by decide))
                    rw [List.length_drop, List.length_take]
                    omega
                  have huv : Hid (readN x = unzig u ∧ readK x = 0 + 1) := by
                    refine ⟨?_, hfin.out.2⟩
                    rw [hfin.out.1, hu.out]
                    rfl
                  clear hfin hu
                  by_cases h2 : u % 2 = 1
                  · have h2z : (u : Int) % 2 = 1 := by omega
                    go_wp2
                    go_ret2
                    rw [huv.out.1, huv.out.2, unzig, if_pos h2]
                    exact ⟨by simp, rfl⟩
                  · have h2z : ¬ (u : Int) % 2 = 1 := by omega
                    go_wp2
                    go_ret2
                    rw [huv.out.1, huv.out.2, unzig, if_neg h2]
                    exact ⟨by simp, rfl⟩
      · obtain rfl : k = 9 := by omega
        have hno : Hid (readN x = 0 ∧ readK x = 0) := by
          have h1 : hiN 9 x = 9 := by
            have h1 := hkh.out
            have h2 := hiN_le 9 x
            omega
          have h2 : readB x = false := by unfold readB; rw [h1]; simp
          show _ ∧ _
          unfold readN readK
          rw [h2]
          exact ⟨rfl, rfl⟩
        go_wp2
        go_ret2
        rw [hno.out.1, hno.out.2]
        exact ⟨rfl, rfl⟩
    · have hltz : ¬ (k : Int) < (x.length : Int) := by omega
      obtain rfl : k = x.length := by omega
      have hno : Hid (readN x = 0 ∧ readK x = 0) := by
        have h1 : hiN 9 x = x.length := by
          have h1 := hkh.out
          have h2 := hiN_len 9 x
          omega
        have h2 : readB x = false := by unfold readB; rw [h1]; simp
        show _ ∧ _
        unfold readN readK
        rw [h2]
        exact ⟨rfl, rfl⟩
      go_wp2
      go_ret2
      rw [hno.out.1, hno.out.2]
      exact ⟨rfl, rfl⟩
end Go.Proofs.Ytbhhpijidbhipaa
