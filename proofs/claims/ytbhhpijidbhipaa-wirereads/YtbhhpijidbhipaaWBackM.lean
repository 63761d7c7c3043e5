/-
  What WireBack needs besides: viewref.Rest, a text as bytes, a bit turned.
-/
import Derived.Test.YtbhhpijidbhipaaWDecode
import Derived.Test.YtbhhpijidbhipaaTSame
import Derived.Lib.ConvBytes
namespace Go.Proofs.Ytbhhpijidbhipaa
open Go.RowKit Go.Sort

set_option maxHeartbeats 400000 in
theorem wrest_any (n : Int) (m : Nat) (w : World) (hm : 0 < m ∧ m ≤ 1000000) : Calls Try.prog 16 #[.int .i64 n, .int .i64 m] w fun e w' => (∃ r : Nat, e = .returned (.int .i64 r) ∧ r < m) ∧ w' = w := by
  have hm0 : (m : Int) ≠ 0 := by omega
  have h1 := Int.tmod_lt_of_pos n (b := (m : Int)) (by omega)
  have h2 : -(m : Int) < n.tmod m := by
    have := Int.tmod_lt_of_pos (-n) (b := (m : Int)) (by omega)
    rw [Int.neg_tmod] at this
    omega
  by_cases h : n.tmod m < 0
  · obtain ⟨r, hr⟩ : ∃ r : Nat, n.tmod m + m = r := ⟨(n.tmod m + m).toNat, by omega⟩
    have hrm : r < m := by omega
    go_enter Try.func16, Try.ntmps16
    go_wp2
    go_ret
    exact ⟨⟨r, rfl, hrm⟩, rfl⟩
  · obtain ⟨r, hr⟩ : ∃ r : Nat, n.tmod m = r := ⟨(n.tmod m).toNat, by omega⟩
    go_enter Try.func16, Try.ntmps16
    go_wp2
    go_ret
    exact ⟨⟨r, rfl, by omega⟩, rfl⟩
/-- A text's bytes in a block of their own. -/
structure ByAt (w : World) (N : Nat) (z : List UInt8) : Prop where
  c : ∀ j (h : j < z.length), w.cell? ⟨N, j, none⟩ = some (.int .u8 z[j].toNat)
  f : ∀ j, j < z.length → w.frozen? ⟨N, j, none⟩ = false
  lt : N < w.heap.size
theorem conv_to (z : List UInt8) (w : World) {N : Nat} (hN : w.heap.size = N) : ∃ W cap, (convert 9 47 (.string ⟨z.toArray⟩)).run Try.prog w = .ok (.slice (some ⟨N, 0, none⟩) z.length cap) W ∧ Hid (Below w.heap.size w W ∧ ByAt W N z) := by
  subst hN
  have h := Go.Lib.run_convert_string_bytes (P := Try.prog) w 9 47 5 ⟨z.toArray⟩ Try.underlying9 Try.underlying47 Try.underlying5
  have hsz : (ByteArray.mk z.toArray).size = z.length := by show z.toArray.size = _; simp
  rw [hsz] at h
  refine ⟨Go.Lib.bytesWorld w 5 ⟨z.toArray⟩, _, h, ⟨rfl, rfl, rfl, by rw [Go.Lib.bytesWorld_size]; omega, fun k hk => Go.Lib.bytesWorld_at_old w _ _ k hk⟩, fun j hj => ?_, fun j hj => ?_, by rw [Go.Lib.bytesWorld_size]; omega⟩
  · rw [Go.Lib.bytesWorld_cell w _ _ j (by rw [hsz]; exact hj)]
    simp [hj]
  · have hb : z.length ≤ (Go.Lib.bytesCells w 5 ⟨z.toArray⟩).size := by unfold Go.Lib.bytesCells; simp
    unfold World.frozen?
    rw [Go.Lib.bytesWorld_at_new]
    simp
    omega
theorem ByAt.put {w : World} {N : Nat} {z : List UInt8} (h : ByAt w N z) {k : Nat} (hk : k < z.length) (c : UInt8) : ByAt (w.setCell ⟨N, k, none⟩ (.int .u8 c.toNat)) N (z.set k c) := by
  refine ⟨fun j hj => ?_, fun j hj => by rw [List.length_set] at hj; simp [h.f j hj], by simpa using h.lt⟩
  rw [List.length_set] at hj
  rw [cell_set (h.c j hj), List.getElem_set]
  by_cases hji : j = k
  · subst hji; rw [if_pos rfl, if_pos rfl]
  · rw [if_neg hji, if_neg (Ne.symm hji)]
theorem ByAt.conv {w : World} {N : Nat} {z : List UInt8} (h : ByAt w N z) {n : Nat} (hn : z.length = n) (cap : Nat) : (convert 47 9 (.slice (some ⟨N, 0, none⟩) n cap)).run Try.prog w = .ok (.string ⟨z.toArray⟩) w := by
  subst hn
  have hq := run_convert_bytes_arg (P := Try.prog) w 47 5 Try.underlying47 Try.underlying5 N 0 z.length cap (z.map fun c => (c.toNat : Int)) (by simp) (fun i hi => by
    rw [Nat.zero_add, h.c i hi]
    simp [hi]) 9 Try.underlying9
  rw [hq]
  congr 2
  simp only [strOfNums]
  congr 1
  simp only [bytes_map]
theorem ByAt.gr {w w' : World} {N : Nat} {z : List UInt8} (h : ByAt w N z) (k : Gr w w') : ByAt w' N z :=
  ⟨fun j hj => (k.cell (p := ⟨N, j, none⟩) h.lt).trans (h.c j hj), fun j hj => (k.below.frozen (p := ⟨N, j, none⟩) h.lt).trans (h.f j hj), Nat.lt_of_lt_of_le h.lt k.size⟩
/-- A bit turned. -/
theorem turn_bit {v m : Nat} (hv : v < 256) (hm : m < 8) : bits .xor .u8 (v : Int) ((2 ^ m : Nat) : Int) = ((v ^^^ 2 ^ m : Nat) : Int) ∧ v ^^^ 2 ^ m < 256 ∧ v ^^^ 2 ^ m ≠ v := by
  have h2 : 2 ^ m < 256 := Nat.pow_lt_pow_right (a := 2) (n := 8) (by decide) hm
  refine ⟨u8_xor_nat v (2 ^ m) hv h2, Nat.xor_lt_two_pow (n := 8) hv h2, fun e => ?_⟩
  have h3 : v ^^^ (v ^^^ 2 ^ m) = v ^^^ v := by rw [e]
  rw [← Nat.xor_assoc, Nat.xor_self, Nat.zero_xor] at h3
  have := Nat.two_pow_pos m
  omega
theorem set_ne {z : List UInt8} {k : Nat} (hk : k < z.length) {c : UInt8} (hc : c.toNat ≠ z[k].toNat) : z.set k c ≠ z := by
  intro e
  apply hc
  have h1 : (z.set k c)[k]? = z[k]? := by rw [e]
  rw [List.getElem?_set_self hk, List.getElem?_eq_getElem hk] at h1
  injection h1 with h1
  rw [h1]
theorem numL_zero : numL 0 = [0] := by
  unfold numL
  rw [show zigN (clampN 0) = 0 by decide, leb_small (by omega)]
  rfl
theorem numL_one : numL (-1) = [1] := by
  unfold numL
  rw [show zigN (clampN (-1)) = 1 by decide, leb_small (by omega)]
  rfl
theorem numL_64 : numL 64 = [128, 1] := by
  unfold numL
  rw [show zigN (clampN 64) = 128 by decide, leb_big (by omega), leb_small (by decide)]
  rfl
theorem enc_zero : errP zeroTab zeroTab = 0 ∧ (encR zeroTab zeroTab).length = 16 := by
  have h : errP zeroTab zeroTab = 0 := by decide
  refine ⟨h, ?_⟩
  unfold encR
  rw [if_pos h]
  unfold encP
  rw [List.length_append, sumB_len]
  have hc : codT zeroTab = [0, 0, 0, 0, 0, 0] := by
    unfold codT zeroTab
    simp [numL_zero, codD, codE]
  unfold bodP
  rw [hc]
  rfl
end Go.Proofs.Ytbhhpijidbhipaa
