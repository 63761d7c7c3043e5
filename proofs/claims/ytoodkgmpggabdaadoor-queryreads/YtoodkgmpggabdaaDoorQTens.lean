/-
  strconv.Itoa: the text of a number.
-/
import Derived.Test.YtoodkgmpggabdaaDoorQFine
import Derived.Test.YtoodkgmpggabdaaDoorShelfN
import Derived.Shelf.Unicode.PredsPay
import Derived.Lib.ItoaLen
namespace Go.Proofs.YtoodkgmpggabdaaDoor
open Go.RowKit Go.Sort

/-- The library's powers of ten lie as they are laid. -/
def Tens (w : World) : Prop := Lib.TabIs Tryd.prog w "internal/strconv.uint64pow10" .u64 Lib.pow10Tab
theorem Tens.below {w w' : World} (h : Tens w) (k : Below w.heap.size w w') : Tens w' := by
  have hs : (Tryd.prog.globalNamed "internal/strconv.uint64pow10").isSome = true := by kernel_rfl
  obtain ⟨g, hg⟩ := Option.isSome_iff_exists.1 hs
  exact TabIs_below hg h k
theorem Tens.gr {w w' : World} (h : Tens w) (k : Gr w w') : Tens w' := h.below k.below
theorem itoa_any {n : Int} (h : Small n) {w : World} (ht : Tens w) : Calls Tryd.prog 44 #[.int .i64 n] w fun e w' => e = .returned (.string ⟨(Lib.itoa n).toArray⟩) ∧ Gr w w' := by
  have hc := Any.strconv_Itoa Tryd.lays171 n (by have := h.1; omega) (by have := h.2; omega) w ht
  change Calls Tryd.prog 44 _ _ _ at hc
  exact hc
theorem itoa_len {n : Int} (h : Small n) : (Lib.itoa n).length ≤ 21 := Lib.itoa_length_le n (by have := h.1; omega) (by have := h.2; omega)
end Go.Proofs.YtoodkgmpggabdaaDoor
