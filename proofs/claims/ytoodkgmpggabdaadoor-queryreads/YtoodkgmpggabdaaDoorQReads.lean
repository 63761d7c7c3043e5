/-
  The law QueryReads: both readers of a text tell the same.
-/
import Derived.Test.YtoodkgmpggabdaaDoorRReadQ
import Derived.Test.YtoodkgmpggabdaaDoorQSame
import Derived.Test.YtoodkgmpggabdaaDoorQBackM
namespace Go.Proofs.YtoodkgmpggabdaaDoor
open Go.RowKit Go.Sort

/-- What is read is told by the text. -/
theorem readX_one {x : List UInt8} {q r : List Stp} {k m e f : Int} (h : ReadX x q k e) (g : ReadX x r m f) : q.map clr = r.map clr ∧ k = m ∧ e = f := by
  rcases h with ⟨h1, rfl, rfl, rfl⟩ | ⟨h1, h2, rfl, rfl, rfl⟩ | ⟨h1, h2, q0, q1, h3, h4, rfl, h5, h6, h7⟩
  · rcases g with ⟨g1, rfl, rfl, rfl⟩ | ⟨g1, _⟩ | ⟨g1, _⟩
    · exact ⟨rfl, rfl, rfl⟩
    · omega
    · omega
  · rcases g with ⟨g1, _⟩ | ⟨g1, g2, rfl, rfl, rfl⟩ | ⟨g1, g2, _⟩
    · omega
    · exact ⟨rfl, rfl, rfl⟩
    · exact absurd g2 h2
  · rcases g with ⟨g1, _⟩ | ⟨g1, g2, _⟩ | ⟨g1, g2, r0, r1, g3, g4, rfl, g5, g6, g7⟩
    · omega
    · exact absurd h2 g2
    · obtain rfl : q0 = r0 := Option.some.inj (h3.symm.trans g3)
      have he : e = f := by rw [h5, g5]; exact errQ_same (h4.trans g4.symm)
      subst he
      refine ⟨?_, rfl, rfl⟩
      by_cases h0 : e = 0
      · rw [h6 h0, g6 h0]; exact h4.trans g4.symm
      · rw [h7 h0, g7 h0]

set_option maxHeartbeats 2000000 in
theorem queryReads_any (x : List UInt8) (w : World) (hr : Reads w) (hv : Verbs w) (hx : x.length ≤ maxLen) : Calls Tryd.prog 3 #[.string ⟨x.toArray⟩] w fun e w' => e = .returned (.bool true) ∧ Below w.heap.size w w' := by
  have hp := parseX_any x w hr hx
  have hpH : Hid _ := hp
  have hvH : Hid (Verbs w ∧ x.length ≤ maxLen) := ⟨hv, hx⟩
  clear hp hr hv hx
  go_enter Tryd.func3, Tryd.ntmps3
  go_wp2_with fail
  refine Calls.mono (show Calls _ _ _ _ _ from hpH.out) ?_
  rintro e w1 ⟨⟨A, ca, a, k, er, rfl, hk, ha, hal, hra⟩, hb1⟩
  clear hpH
  have hq := readQ_any x w1 (hvH.out.1.below hb1) hvH.out.2
  have hqH : Hid _ := hq
  have hraH : Hid (ReadX x a k er ∧ Stps w1 A a ∧ a.length ≤ 1024 ∧ Below w.heap.size w w1) := ⟨hra, ha, hal, hb1⟩
  clear hq hra ha hal hb1 hk
  go_wp2_with fail
  refine Calls.mono (show Calls _ _ _ _ _ from hqH.out) ?_
  rintro e w2 ⟨⟨B, cb, b, m, fr, rfl, hm, hbs, hbl, hrb⟩, hb2⟩
  clear hqH
  obtain ⟨h1, rfl, rfl⟩ := readX_one hraH.out.1 hrb
  have hs := sameQ_any a b A B ca cb w2 (by have := hraH.out.2.2.1; unfold maxLen; omega) (hraH.out.2.1.below hb2) hbs h1
  have hsH : Hid _ := hs
  clear hs h1 hrb hbs hbl hm
  go_wp2_with fail
  refine Calls.mono (show Calls _ _ _ _ _ from hsH.out) ?_
  rintro e w3 ⟨rfl, hg3⟩
  clear hsH
  have hbw : Below w.heap.size w w3 := (hraH.out.2.2.2.trans (hb2.mono hraH.out.2.2.2.size)).trans (hg3.below.mono (Nat.le_trans hraH.out.2.2.2.size hb2.size))
  go_wp2
  go_ret
  exact ⟨rfl, hbw⟩

end Go.Proofs.YtoodkgmpggabdaaDoor
