/-
  Proved: whatever list of steps and number are handed in, QuerySays returns true (Check, Width and Print answer what the document says), and each argument reads afterwards as it read before; the listed package variables (the library's tables and viewref.verbs) start as the program's text lays them.
-/
import Derived.Test.YtjjpmkekcffceaaDoorQSays
import Derived.Test.YtjjpmkekcffceaaDoorQOpen
import Derived.Test.YtjjpmkekcffceaaDoorCards
import Derived.Test.YtjjpmkekcffceaaDoorTie
import Derived.LaidMore
import Derived.Stop.Joined
import Derived.SevenTiedAt
namespace Go.Proofs.YtjjpmkekcffceaaDoor
open Go.ChangeShapes Go.WideShapes Go.ChangeAt Go.RowKit

theorem gVerbs : Tryd.prog.globalNamed "viewmere/viewref.verbs" = some 0 := by kernel_rfl
theorem tVerbs : (Tryd.prog.globals[0]?).map (·.type) = some 38 := by kernel_rfl

theorem verbs_list {H : Type} : (Rows.laid_viewmere_viewref_verbs : DataW H) = .agg ((List.range 10).map fun k : Nat => .lit (.string (wordL (k : Int)))) := rfl
theorem tTens : ((Tryd.prog.globalNamed "internal/strconv.uint64pow10").bind fun g => (Tryd.prog.globals[g]?).map (·.type)) = some 82 := by kernel_rfl
theorem tens_list {H : Type} : (Rows.laid_internal_strconv_uint64pow10 : DataW H) = Lib.tabData .u64 Lib.pow10Tab := rfl

set_option maxRecDepth 100000 in
theorem verbs_of {W : World} {f : Nat} {cs : Array Value} {p : List MemPlace} {H : Type} {enc : TypeId × Value → H} {sp : Nat → Bool} {held : Bool} (hv : W.var? Tryd.prog "viewmere/viewref.verbs" = some cs) (hd : DataW.trod enc Tryd.prog W 0 sp held f 38 cs.toList = some (Rows.laid_viewmere_viewref_verbs, p)) : Verbs W := by
  obtain ⟨xs, m, _, hx, hlen, hn, hel⟩ := DataW.trod_array Tryd.underlying38 hd
  have c1 : Tryd.prog.cellsOf 9 = 1 := by kernel_rfl
  have hx1 := (Prod.mk.inj hx).1
  rw [verbs_list] at hx1
  have hx2 := (DataW.agg.inj hx1)
  have each : ∀ k : Nat, k < 10 → W.cell? ⟨0, k, none⟩ = some (.string ⟨(wordL (k : Int)).toArray⟩) := fun k hk => by
    have e := hel k hk
    rw [c1, Nat.mul_one] at e
    obtain ⟨y, hy⟩ : ∃ y, xs[k]? = some y := ⟨xs[k]'(by omega), List.getElem?_eq_getElem (by omega)⟩
    rw [hy] at e
    obtain ⟨t, ht, hyt, _⟩ := DataW.trod_string Tryd.underlying9 e
    have h1 : (xs.map (·.1))[k]? = some y.1 := by rw [List.getElem?_map, hy]; rfl
    rw [← hx2, List.getElem?_map, List.getElem?_range hk] at h1
    rw [hyt] at h1
    have h2 : wordL (k : Int) = t.data.toList := by
      have := Option.some.inj h1
      simpa using this
    have h3 : cs[k]? = some (.string t) := by
      have : ((cs.toList.drop k).take 1)[0]? = some (.string t) := by rw [ht]; rfl
      rw [List.getElem?_take, List.getElem?_drop] at this
      simpa using this
    rw [World.var?_cell gVerbs hv k, h3, h2]
  exact ⟨by have := World.block_lt_of_cell? W _ (each 0 (by omega)); simpa using this, each⟩

set_option maxRecDepth 100000 in
theorem of_laid {W : World} (h : laidMetH Tryd.prog Rows.querySaysRow.laid W) : Tens W ∧ Verbs W := by
  rw [MakeChecks.laidMetH_plain _ _ _ (by kernel_rfl)] at h
  obtain ⟨ps, ⟨g0, t0, cs0, f0, p0, q0, hg0, ht0, hv0, hd0, ⟨g1, t1, cs1, f1, p1, q1, hg1, ht1, hv1, hd1, ⟨g2, t2, cs2, f2, p2, q2, hg2, ht2, hv2, hd2, ⟨g3, t3, cs3, f3, p3, q3, hg3, ht3, hv3, hd3, _, _⟩, _⟩, _⟩, _⟩, _, _⟩ := h
  obtain rfl := Option.some.inj (gVerbs.symm.trans hg3)
  obtain rfl := Option.some.inj (tVerbs.symm.trans ht3)
  refine ⟨?_, verbs_of hv3 hd3⟩
  have hT := tTens
  rw [hg2] at hT
  obtain rfl := Option.some.inj (ht2.symm.trans hT)
  rw [tens_list] at hd2
  have := Lib.cells_of_tab Tryd.underlying82 Tryd.underlying72 (by kernel_rfl) (by kernel_rfl) hd2
  show W.var? Tryd.prog _ = some _
  rw [hv2, ← this]

theorem door_met (os : Os) (args : Array Value) : laidMetH Tryd.prog Rows.querySaysRow.laid ((World.doorLaid Tryd.prog 29 os).forCall (fun _ _ => 0) ⟨#[], args, []⟩).memory :=
  laidMetH_of_parts3 (fuel := 8) (laidMet_of_run' 8 (by kernel_rfl) (by kernel_rfl)) (by kernel_rfl) (by kernel_rfl)
end Go.Proofs.YtjjpmkekcffceaaDoor
