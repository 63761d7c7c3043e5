/-
  From what the row lays and from the world's shape: what the library's texts and viewref's read.
-/
import Derived.Test.YtoodkgmpggabdaaDoorQReads
import Derived.Test.YtoodkgmpggabdaaDoorQOpen
import Derived.Test.YtoodkgmpggabdaaDoorCards
import Derived.Test.YtoodkgmpggabdaaDoorTie
import Derived.LaidMore
import Derived.Stop.Joined
import Derived.SevenTiedAt
import Derived.HandedShaped
import Derived.Stop.LaidErr
namespace Go.Proofs.YtoodkgmpggabdaaDoor
open Go.ChangeShapes Go.WideShapes Go.ChangeAt Go.RowKit

theorem gVerbs : Tryd.prog.globalNamed "viewmere/viewref.verbs" = some 0 := by kernel_rfl
theorem tVerbs : (Tryd.prog.globals[0]?).map (·.type) = some 51 := by kernel_rfl

theorem verbs_list {H : Type} : (Rows.laid_viewmere_viewref_verbs : DataW H) = .agg ((List.range 10).map fun k : Nat => .lit (.string (wordL (k : Int)))) := rfl
theorem tTens : ((Tryd.prog.globalNamed "internal/strconv.uint64pow10").bind fun g => (Tryd.prog.globals[g]?).map (·.type)) = some 117 := by kernel_rfl
theorem tens_list {H : Type} : (Rows.laid_internal_strconv_uint64pow10 : DataW H) = Lib.tabData .u64 Lib.pow10Tab := rfl

set_option maxRecDepth 100000 in
theorem verbs_of {W : World} {f : Nat} {cs : Array Value} {p : List MemPlace} {H : Type} {enc : TypeId × Value → H} {sp : Nat → Bool} {held : Bool} (hv : W.var? Tryd.prog "viewmere/viewref.verbs" = some cs) (hd : DataW.trod enc Tryd.prog W 0 sp held f 51 cs.toList = some (Rows.laid_viewmere_viewref_verbs, p)) : Verbs W := by
  obtain ⟨xs, m, _, hx, hlen, hn, hel⟩ := DataW.trod_array Tryd.underlying51 hd
  have c1 : Tryd.prog.cellsOf 9 = 1 := by kernel_rfl
  have hx1 := (Prod.mk.inj hx).1
  rw [verbs_list] at hx1
  have hx2 := (DataW.agg.inj hx1)
  have each : ∀ k : Nat, k < 10 → W.cell? ⟨0, k, none⟩ = some (.string ⟨(wordL (k : Int)).toArray⟩) := fun k hk => by
    have e := hel k hk
    rw [c1, Nat.mul_one] at e
    obtain ⟨y, hy⟩ : ∃ y, xs[k]? = some y := ⟨xs[k]'(by omega), List.getElem?_eq_getElem (by omega)⟩
    rw [hy] at e
    obtain ⟨t, ht, hyt, _⟩ := DataW.trod_string Tryd.underlying9 e
    have h1 : (xs.map (·.1))[k]? = some y.1 := by rw [List.getElem?_map, hy]; rfl
    rw [← hx2, List.getElem?_map, List.getElem?_range hk] at h1
    rw [hyt] at h1
    have h2 : wordL (k : Int) = t.data.toList := by
      have := Option.some.inj h1
      simpa using this
    have h3 : cs[k]? = some (.string t) := by
      have : ((cs.toList.drop k).take 1)[0]? = some (.string t) := by rw [ht]; rfl
      rw [List.getElem?_take, List.getElem?_drop] at this
      simpa using this
    rw [World.var?_cell gVerbs hv k, h3, h2]
  exact ⟨by have := World.block_lt_of_cell? W _ (each 0 (by omega)); simpa using this, each⟩

theorem gES : Tryd.prog.globalNamed "strconv.ErrSyntax" = some (Tryd.lays172_ren.g 15) := by kernel_rfl
theorem gESType : (Tryd.prog.globals[Tryd.lays172_ren.g 15]?).map (·.type) = some 71 := by kernel_rfl
set_option maxRecDepth 100000 in
theorem of_laid {W : World} (h : laidMetH Tryd.prog Rows.queryReadsRow.laid W) : Tens W ∧ (∃ ev, W.cell? ⟨Tryd.lays172_ren.g 15, 0, none⟩ = some ev ∧ (ev = .nilIface ∨ ∃ te pe, ev = .iface te pe)) ∧ Verbs W := by
  rw [MakeChecks.laidMetH_plain _ _ _ (by kernel_rfl)] at h
  obtain ⟨ps, ⟨g0, t0, cs0, f0, p0, q0, hg0, ht0, hv0, hd0, ⟨g1, t1, cs1, f1, p1, q1, hg1, ht1, hv1, hd1, ⟨g2, t2, cs2, f2, p2, q2, hg2, ht2, hv2, hd2, ⟨g3, t3, cs3, f3, p3, q3, hg3, ht3, hv3, hd3, ⟨g4, t4, cs4, f4, p4, q4, hg4, ht4, hv4, hd4, h5, _⟩, _⟩, _⟩, _⟩, _⟩, _, _⟩ := h
  obtain ⟨g5, t5, cs5, f5, p5, q5, hg5, ht5, hv5, hd5, h6, _⟩ := h5
  obtain ⟨g6, t6, cs6, f6, p6, q6, hg6, ht6, hv6, hd6, _, _⟩ := h6
  refine ⟨?_, ?_, ?_⟩
  · have hT := tTens
    rw [hg2] at hT
    obtain rfl := Option.some.inj (ht2.symm.trans hT)
    rw [tens_list] at hd2
    have := Lib.cells_of_tab Tryd.underlying117 Tryd.underlying99 (by kernel_rfl) (by kernel_rfl) hd2
    show W.var? Tryd.prog _ = some _
    rw [hv2, ← this]
  · rw [← Option.some.inj (gES.symm.trans hg5), gESType] at ht5
    obtain rfl := Option.some.inj ht5
    obtain ⟨_, u, v, hcs, _, _⟩ := iface_of_trod Tryd.underlying71 hd5
    refine ⟨.iface u v, ?_, Or.inr ⟨u, v, rfl⟩⟩
    rw [World.var?_cell gES hv5 0]
    have h1 : cs5.toList[0]? = some (.iface u v) := by rw [hcs]; rfl
    simpa using h1
  · obtain rfl := Option.some.inj (gVerbs.symm.trans hg6)
    obtain rfl := Option.some.inj (tVerbs.symm.trans ht6)
    exact verbs_of hv6 hd6
theorem reads_of {W : World} (h : W.ShapedOpen Tryd.prog) (hL : laidMetH Tryd.prog Rows.queryReadsRow.laid W) : Reads W := ⟨Tryd.lays145.s1_3 W h, (of_laid hL).2.1, (of_laid hL).1⟩
end Go.Proofs.YtoodkgmpggabdaaDoor
