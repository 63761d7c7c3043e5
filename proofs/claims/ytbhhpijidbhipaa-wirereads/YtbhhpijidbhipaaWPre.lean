/-
  strings.HasPrefix.
-/
import Derived.Test.YtbhhpijidbhipaaWDec
namespace Go.Proofs.Ytbhhpijidbhipaa
open Go.RowKit Go.Sort

/-- A text begins with another one. -/
def preB (y p : List UInt8) : Bool := decide (p.length ≤ y.length) && (y.take p.length == p)
theorem cut_from (x : List UInt8) (n : Nat) : (ByteArray.mk x.toArray).extract n x.length = ⟨(x.drop n).toArray⟩ := by
  apply ByteArray.ext
  rw [ByteArray.data_extract]
  simp [List.take_of_length_le]
theorem cut_to (x : List UInt8) (n : Nat) : (ByteArray.mk x.toArray).extract 0 n = ⟨(x.take n).toArray⟩ := by
  apply ByteArray.ext
  rw [ByteArray.data_extract]
  simp
set_option maxHeartbeats 2000000 in
theorem hasPre_in (y p : List UInt8) (w : World) : Calls Try.prog 42 #[.string ⟨y.toArray⟩, .string ⟨p.toArray⟩] w fun e w' => e = .returned (.bool (preB y p)) ∧ w' = w := by
  obtain ⟨r, hr⟩ : ∃ r, preB y p = r := ⟨_, rfl⟩
  have hrH : Hid (preB y p = r) := hr
  rw [hr]
  clear hr
  by_cases h : p.length ≤ y.length
  · have hz : (p.length : Int) ≤ (y.length : Int) := by omega
    have hcut := cut_to y p.length
    have he : (y.take p.length == p) = r := by
      rw [← hrH.out]
      unfold preB
      simp [h]
    go_enter Try.func42, Try.ntmps42
    go_wp2
    go_ret
    exact ⟨rfl, rfl⟩
  · have hz : ¬ (p.length : Int) ≤ (y.length : Int) := by omega
    have hd : Hid (r = false) := by
      show _ = _
      rw [← hrH.out]
      unfold preB
      simp [h]
    go_enter Try.func42, Try.ntmps42
    go_wp2
    go_ret
    exact ⟨by rw [hd.out]; rfl, rfl⟩
theorem hasPre_any (y p : List UInt8) (w : World) : Calls Try.prog 28 #[.string ⟨y.toArray⟩, .string ⟨p.toArray⟩] w fun e w' => e = .returned (.bool (preB y p)) ∧ Gr w w' := by
  have hC := hasPre_in y p w
  have hCH : Hid _ := hC
  clear hC
  go_enter Try.func28, Try.ntmps28
  go_wp2_with fail
  refine Calls.mono (show Calls _ _ _ _ _ from hCH.out) ?_
  rintro e w1 ⟨rfl, hw⟩
  subst w1
  go_wp2
  go_ret
  exact ⟨rfl, Gr.refl _⟩
end Go.Proofs.Ytbhhpijidbhipaa
