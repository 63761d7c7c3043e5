/-
  Several operations of a drawn region that only read, taken one behind the other.
-/
import Derived.Test.YtoodkgmpggabdaaDoorProg
import Derived.Deep.RegionHeld3
namespace Go.Proofs.YtoodkgmpggabdaaDoor

/-- The operations of these numbers are taken; then the rest. -/
def Tks (P : Program) (md : Region.Mode) (ops : Array Oper) (Q : Exit → Act → World → Prop) (S : World → Prop) : List Nat → Nat → Array Bool → Act → World → Prop
  | [], fuel, listed, a, w => wpAnyH P md ops (NoPanic Q) S fuel listed a w
  | i :: l, fuel, listed, a, w => ∃ f oi v, fuel = f + 1 ∧ ops[i]? = some oi ∧ (Region.noSelect ops && Region.free md ops listed i && (Region.ready md ops listed).contains i) = true ∧ YieldsIf P ops S oi v a ∧ Tks P md ops Q S l f (listed.setIfInBounds i true) (a.put oi.dst v) w
section
variable {P : Program} {md : Region.Mode} {ops : Array Oper} {Q : Exit → Act → World → Prop} {S : World → Prop}
theorem tks : ∀ (l : List Nat) {fuel : Nat} {listed : Array Bool} {a : Act} {w : World}, S w → Tks P md ops Q S l fuel listed a w → wpAnyH P md ops (NoPanic Q) S fuel listed a w
  | [], _, _, _, _, _, h => h
  | i :: l, _, _, _, _, hS, ⟨f, oi, v, e, h1, h2, h3, h4⟩ => by
    subst e
    simp only [Bool.and_eq_true] at h2
    exact wpAnyH_take h1 h2.1.1 h2.1.2 h2.2 (fun _ _ _ h => h) h3 hS (tks l hS h4)
theorem tk {i : Nat} {l : List Nat} {f : Nat} {listed : Array Bool} {a : Act} {w : World} {oi : Oper} {v : Value} (h1 : ops[i]? = some oi) (h2 : (Region.noSelect ops && Region.free md ops listed i && (Region.ready md ops listed).contains i) = true) (h3 : YieldsIf P ops S oi v a) (h4 : Tks P md ops Q S l f (listed.setIfInBounds i true) (a.put oi.dst v) w) : Tks P md ops Q S (i :: l) (f + 1) listed a w :=
  ⟨f, oi, v, rfl, h1, h2, h3, h4⟩
/-- (For telling goals apart.) -/
theorem isW {fuel : Nat} {listed : Array Bool} {a : Act} {w : World} {Q : Exit → Act → World → Prop} (h : wpAnyH P md ops Q S fuel listed a w) : wpAnyH P md ops Q S fuel listed a w := h
theorem isR {fuel : Nat} {listed : Array Bool} {a : Act} {w : World} {rs : List Nat} {Q : Exit → Act → World → Prop} (h : AllReadyH P md ops Q S fuel listed a w rs) : AllReadyH P md ops Q S fuel listed a w rs := h
theorem tkk (i : Nat) (l : List Nat) {f : Nat} {listed : Array Bool} {a : Act} {w : World} {oi : Oper} {v : Value} (hS : S w) (h1 : ops[i]? = some oi) (h2 : (Region.noSelect ops && Region.free md ops listed i && (Region.ready md ops listed).contains i) = true) (h3 : YieldsIf P ops S oi v a) (h4 : Tks P md ops Q S l f (listed.setIfInBounds i true) (a.put oi.dst v) w) : wpAnyH P md ops (NoPanic Q) S (f + 1) listed a w :=
  tks (i :: l) hS (tk h1 h2 h3 h4)
theorem rdc {fuel : Nat} {listed : Array Bool} {a : Act} {w : World} {i : Nat} {o : Oper} {rs : List Nat} {Q : Exit → Act → World → Prop} (ho : ops[i]? = some o) (hs : AllReadyH P md ops Q S fuel listed a w rs)
    (h : ∀ K' : Act → World → Prop, Shut (∀ a w, S w → (S w → wpAnyH P md ops Q S fuel (listed.setIfInBounds i true) a w) → K' a w) → if Region.wanted o (yielded ops a.tmps) = true then Oper.wp P o a w K' Q else K' (a.put o.dst undef) w) : AllReadyH P md ops Q S fuel listed a w (i :: rs) := AllReadyH.cons ho h hs
theorem rdy (i : Nat) {fuel : Nat} {listed : Array Bool} {a : Act} {w : World} {o : Oper} {Q : Exit → Act → World → Prop} (hr : Region.ready md ops listed = [i]) (ho : ops[i]? = some o)
    (h : ∀ K' : Act → World → Prop, Shut (∀ a w, S w → (S w → wpAnyH P md ops Q S fuel (listed.setIfInBounds i true) a w) → K' a w) → if Region.wanted o (yielded ops a.tmps) = true then Oper.wp P o a w K' Q else K' (a.put o.dst undef) w) : wpAnyH P md ops Q S (fuel + 1) listed a w := wpAnyH_ready hr (by simp) (AllReadyH.cons ho h AllReadyH.nil)
theorem tk0 {f : Nat} {listed : Array Bool} {a : Act} {w : World} (h : wpAnyH P md ops (NoPanic Q) S f listed a w) : Tks P md ops Q S [] f listed a w := h
end
end Go.Proofs.YtoodkgmpggabdaaDoor
