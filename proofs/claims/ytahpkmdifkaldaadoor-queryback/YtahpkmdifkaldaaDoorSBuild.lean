/-
  strings.Builder: what is written, what it says.
-/
import Derived.Test.YtahpkmdifkaldaaDoorQTens
import Derived.Test.YtahpkmdifkaldaaDoorShelfP
namespace Go.Proofs.YtahpkmdifkaldaaDoor
open Go.RowKit Go.Sort

/-- A builder stays where only newer memory changes. -/
theorem builder_below {T e : TypeId} {B b : Nat} {bs : List Value} {w w' : World} (h : Lib.IsBuilder T e B b bs w) (k : Below w.heap.size w w') : Lib.IsBuilder T e B b bs w' := by
  have one : ∀ p, Lib.BuilderAt T e B b p bs w → Lib.BuilderAt T e B b p bs w' := by
    rintro p ⟨hB, v, hb, hown, hne⟩
    have hlt : b < w.heap.size := (Array.getElem?_eq_some_iff.1 hb).1
    refine ⟨hB, v, (k.block b hlt).trans hb, ?_, hne⟩
    refine ⟨hown.1, ?_⟩
    rcases hown.2 with h1 | ⟨g, cap, cur, hv, hg, hh, rest⟩
    · exact .inl h1
    · exact .inr ⟨g, cap, cur, hv, hg, (k.block g (Array.getElem?_eq_some_iff.1 hh).1).trans hh, rest⟩
  rcases h with h | h
  · exact Or.inl (one _ h)
  · exact Or.inr (one _ h)

theorem writeString_any (B b : Nat) (l x : List UInt8) (w : World) (h : Lib.IsBuilder 37 5 B b (Lib.byteCells l) w) (hlen : l.length + x.length ≤ 140737488355328) (hB : B ≤ w.heap.size) :
    Calls Tryd.prog 8 #[.pointer (some ⟨b, 0, none⟩), .string ⟨x.toArray⟩] w fun e w' => e = .returned (.tuple #[.int .i64 x.length, .nilIface]) ∧ Lib.IsBuilder 37 5 B b (Lib.byteCells (l ++ x)) w' ∧ Below B w w' := by
  have hx : (⟨x.toArray⟩ : ByteArray).size = x.length := by simp [ByteArray.size]
  have hc := Any.Builder_WriteString Tryd.laysB166 Tryd.extraB B b (Lib.byteCells l) ⟨x.toArray⟩ w h (by rw [Lib.byteCells_length, hx]; exact hlen) hB
  change Calls Tryd.prog 8 _ _ _ at hc
  refine hc.mono ?_
  rintro e w' ⟨he, hb, hbel⟩
  refine ⟨by rw [he, hx], Or.inr ?_, hbel⟩
  have e1 : Lib.byteCells (l ++ x) = Lib.byteCells l ++ Lib.strCells ⟨x.toArray⟩ := by simp [Lib.byteCells, Lib.strCells]
  rw [e1]
  exact hb
theorem writeByte_any (B b : Nat) (l : List UInt8) (c : UInt8) (w : World) (h : Lib.IsBuilder 37 5 B b (Lib.byteCells l) w) (hlen : l.length + 1 ≤ 140737488355328) (hB : B ≤ w.heap.size) :
    Calls Tryd.prog 10 #[.pointer (some ⟨b, 0, none⟩), .int .u8 c.toNat] w fun e w' => e = .returned .nilIface ∧ Lib.IsBuilder 37 5 B b (Lib.byteCells (l ++ [c])) w' ∧ Below B w w' := by
  have hc := Any.Builder_WriteByte Tryd.laysB167 Tryd.extraB B b (Lib.byteCells l) (c.toNat : Int) w h (by rw [Lib.byteCells_length]; exact hlen) hB
  change Calls Tryd.prog 10 _ _ _ at hc
  refine hc.mono ?_
  rintro e w' ⟨he, hb, hbel⟩
  refine ⟨he, Or.inr ?_, hbel⟩
  have e1 : Lib.byteCells (l ++ [c]) = Lib.byteCells l ++ [.int .u8 (c.toNat : Int)] := by simp [Lib.byteCells]
  rw [e1]
  exact hb
theorem string_any0 (B b : Nat) (l : List UInt8) (w : World) (h : Lib.IsBuilder 37 5 B b (Lib.byteCells l) w) (hB : B ≤ w.heap.size) :
    Calls Tryd.prog 11 #[.pointer (some ⟨b, 0, none⟩)] w fun e w' => e = .returned (.string ⟨l.toArray⟩) ∧ Below B w w' := by
  have hc := Any.Builder_String_any Tryd.lays169 Tryd.extra169 B b l w h hB
  change Calls Tryd.prog 11 _ _ _ at hc
  exact hc
end Go.Proofs.YtahpkmdifkaldaaDoor
