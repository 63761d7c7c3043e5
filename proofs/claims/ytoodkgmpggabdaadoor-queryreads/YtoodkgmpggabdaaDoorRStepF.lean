/-
  viewref.readStep: any words of a line.
-/
import Derived.Test.YtoodkgmpggabdaaDoorRStepC
import Derived.Test.YtoodkgmpggabdaaDoorRStepE
namespace Go.Proofs.YtoodkgmpggabdaaDoor
open Go.RowKit Go.Sort

theorem rstep_any (ws : List (List UInt8)) (A : Option Addr) (cap : Nat) (w : World) (hr : RowX w A ws) (h0 : ws ≠ []) (hl : ws.length ≤ 2000) (hcap : ws.length ≤ cap) (hx : ∀ x ∈ ws, x.length ≤ 1100) (hv : Verbs w) {B9 : Bool} (hB9 : stpB ws = B9) :
    Calls Tryd.prog 11 #[.slice A ws.length cap] w fun e w' => ∃ t', e = .returned (.tuple #[.agg #[.int .i64 t'.k, .int .i64 t'.a, .int .i64 t'.b, .int .i64 t'.c, .int .i64 t'.o, .int .i64 t'.v, .slice t'.p t'.l.length t'.n], .bool B9]) ∧ Below w.heap.size w w' ∧ StpO ws w w' t' := by
  obtain ⟨y, r, rfl⟩ := List.exists_cons_of_ne_nil h0
  have hx2 : ∀ x ∈ y :: r, x.length ≤ 2000 := fun x h => Nat.le_trans (hx x h) (by omega)
  by_cases hk : kindP y = 0
  · have hn : stepP (y :: r) = none := by unfold stepP; exact if_pos (Or.inl hk)
    refine Calls.mono (rstep_kind0 (y :: r) A cap w hr (by simp) hl hv hk) ?_
    rintro e w' ⟨rfl, hb⟩
    exact ⟨zeroS, by rw [← hB9, stpB_none hn], hb, fun t ht => by rw [hn] at ht; cases ht⟩
  · obtain ⟨_, h1, h9⟩ := kindP_word hk
    have hc : kindP y = 1 ∨ kindP y = 2 ∨ kindP y = 3 ∨ kindP y = 4 ∨ kindP y = 5 ∨ kindP y = 6 ∨ kindP y = 7 ∨ kindP y = 8 ∨ kindP y = 9 := by omega
    rcases hc with h | h | h | h | h | h | h | h | h
    · exact rstep_1 y r A cap w hr hl hcap hx2 hv h hB9
    · exact rstep_2 y r A cap w hr hl hcap hx2 hv h hB9
    · exact rstep_3 y r A cap w hr hl hcap hx hv h hB9
    · exact rstep_4 y r A cap w hr hl hcap hx2 hv h hB9
    · exact rstep_5 y r A cap w hr hl hcap hx2 hv h hB9
    · exact rstep_6 y r A cap w hr hl hcap hx2 hv h hB9
    · exact rstep_7 y r A cap w hr hl hcap hx2 hv h hB9
    · exact rstep_8 y r A cap w hr hl hcap hx2 hv h hB9
    · exact rstep_9 y r A cap w hr hl hcap hx2 hv h hB9
end Go.Proofs.YtoodkgmpggabdaaDoor
