/-
  From what the row lays and from the world's shape: what the library's texts read.
-/
import Derived.Test.YtahpkmdifkaldaaDoorKBack
import Derived.Test.YtahpkmdifkaldaaDoorQOpen
import Derived.Test.YtahpkmdifkaldaaDoorCards
import Derived.Test.YtahpkmdifkaldaaDoorTie
import Derived.LaidMore
import Derived.Stop.Joined
import Derived.SevenTiedAt
import Derived.HandedShaped
import Derived.Stop.LaidErr
namespace Go.Proofs.YtahpkmdifkaldaaDoor
open Go.ChangeShapes Go.WideShapes Go.ChangeAt Go.RowKit

theorem tTens : ((Tryd.prog.globalNamed "internal/strconv.uint64pow10").bind fun g => (Tryd.prog.globals[g]?).map (·.type)) = some 111 := by kernel_rfl
theorem tens_list {H : Type} : (Rows.laid_internal_strconv_uint64pow10 : DataW H) = Lib.tabData .u64 Lib.pow10Tab := rfl
theorem gES : Tryd.prog.globalNamed "strconv.ErrSyntax" = some (Tryd.lays172_ren.g 15) := by kernel_rfl
theorem gESType : (Tryd.prog.globals[Tryd.lays172_ren.g 15]?).map (·.type) = some 39 := by kernel_rfl
set_option maxRecDepth 100000 in
theorem of_laid {W : World} (h : laidMetH Tryd.prog Rows.queryBackRow.laid W) : Tens W ∧ ∃ ev, W.cell? ⟨Tryd.lays172_ren.g 15, 0, none⟩ = some ev ∧ (ev = .nilIface ∨ ∃ te pe, ev = .iface te pe) := by
  rw [MakeChecks.laidMetH_plain _ _ _ (by kernel_rfl)] at h
  obtain ⟨ps, ⟨g0, t0, cs0, f0, p0, q0, hg0, ht0, hv0, hd0, ⟨g1, t1, cs1, f1, p1, q1, hg1, ht1, hv1, hd1, ⟨g2, t2, cs2, f2, p2, q2, hg2, ht2, hv2, hd2, ⟨g3, t3, cs3, f3, p3, q3, hg3, ht3, hv3, hd3, ⟨g4, t4, cs4, f4, p4, q4, hg4, ht4, hv4, hd4, h5, _⟩, _⟩, _⟩, _⟩, _⟩, _, _⟩ := h
  constructor
  · have hT := tTens
    rw [hg2] at hT
    obtain rfl := Option.some.inj (ht2.symm.trans hT)
    rw [tens_list] at hd2
    have := Lib.cells_of_tab Tryd.underlying111 Tryd.underlying98 (by kernel_rfl) (by kernel_rfl) hd2
    show W.var? Tryd.prog _ = some _
    rw [hv2, ← this]
  · obtain ⟨g5, t5, cs5, f5, p5, q5, hg5, ht5, hv5, hd5, _, _⟩ := h5
    rw [← Option.some.inj (gES.symm.trans hg5), gESType] at ht5
    obtain rfl := Option.some.inj ht5
    obtain ⟨_, u, v, hcs, _, _⟩ := iface_of_trod Tryd.underlying39 hd5
    refine ⟨.iface u v, ?_, Or.inr ⟨u, v, rfl⟩⟩
    rw [World.var?_cell gES hv5 0]
    have h1 : cs5.toList[0]? = some (.iface u v) := by rw [hcs]; rfl
    simpa using h1
theorem reads_of {W : World} (h : W.ShapedOpen Tryd.prog) (hL : laidMetH Tryd.prog Rows.queryBackRow.laid W) : Reads W := ⟨Tryd.lays145.s1_3 W h, (of_laid hL).2, (of_laid hL).1⟩
end Go.Proofs.YtahpkmdifkaldaaDoor
