/-
  The calls that only read, as they are met in a region that leaves its order open.
-/
import Derived.Test.YtknjeajdiibafaaAt
import Derived.Test.YtknjeajdiibafaaSame
import Derived.Test.YtknjeajdiibafaaHas
import Derived.Test.YtknjeajdiibafaaCheck
namespace Go.Proofs.Ytknjeajdiibafaa
open Go.RowKit Go.Sort

theorem grG (W : World) (n : Nat) (os : Array Obj) : Gr W (grow (W.drewN n) os) := ⟨n, os, rfl⟩

theorem toG {f : FuncId} {args : Array Value} {W : World} {v : Value} (n : Nat) (os : Array Obj) (h : Calls Try.prog f args (grow (W.drewN n) os) fun e w' => e = .returned v ∧ Gr (grow (W.drewN n) os) w') :
    Calls Try.prog f args (grow (W.drewN n) os) fun e w'' => e = .returned v ∧ ∃ p : GrownBy, w'' = grow (W.drewN p.n) p.os := Calls.grown_of h

theorem check_G {c : Ctx} {A : Option Addr} {cap : Nat} {W : World} (hl : c.l.length ≤ maxLen) (hr : Row W A c.l) (n : Nat) (os : Array Obj) :
    Calls Try.prog 16 #[.agg #[.int .i64 c.c0, .int .i64 c.c1, .int .i64 c.c2, .int .i64 c.c3, .slice A c.l.length cap]] (grow (W.drewN n) os) fun e w'' => e = .returned (.int .i64 (errC c)) ∧ ∃ p : GrownBy, w'' = grow (W.drewN p.n) p.os :=
  toG n os (check_any c A cap _ hl (hr.gr (grG W n os)))
theorem has_G {c : Ctx} {A : Option Addr} {cap : Nat} {x y : Int} {r : Bool} {W : World} (hx : hasB c (x, y) = r) (hl : c.l.length ≤ maxLen) (hr : Row W A c.l) (n : Nat) (os : Array Obj) :
    Calls Try.prog 15 #[.agg #[.int .i64 c.c0, .int .i64 c.c1, .int .i64 c.c2, .int .i64 c.c3, .slice A c.l.length cap], .agg #[.int .i64 x, .int .i64 y]] (grow (W.drewN n) os) fun e w'' => e = .returned (.bool r) ∧ ∃ p : GrownBy, w'' = grow (W.drewN p.n) p.os := by
  rw [← hx]; exact toG n os (has_any c A cap (x, y) _ hl (hr.gr (grG W n os)))
theorem same_G {c d : Ctx} {A B : Option Addr} {cap dap : Nat} {r : Bool} {W : World} (hx : sameB c d = r) (hl : c.l.length ≤ maxLen) (hm : d.l.length ≤ maxLen) (hr : Row W A c.l) (hs : Row W B d.l) (n : Nat) (os : Array Obj) :
    Calls Try.prog 10 #[.agg #[.int .i64 c.c0, .int .i64 c.c1, .int .i64 c.c2, .int .i64 c.c3, .slice A c.l.length cap], .agg #[.int .i64 d.c0, .int .i64 d.c1, .int .i64 d.c2, .int .i64 d.c3, .slice B d.l.length dap]] (grow (W.drewN n) os) fun e w'' => e = .returned (.bool r) ∧ ∃ p : GrownBy, w'' = grow (W.drewN p.n) p.os := by
  rw [← hx]; exact toG n os (same_any c d A B cap dap _ hl hm (hr.gr (grG W n os)) (hs.gr (grG W n os)))

theorem sameB_self (c : Ctx) : sameB c c = true := by simp [sameB, clkEq, eqL]

/-- A context's cells, some draws and blocks on. -/
theorem CtxAt.G {w : World} {B : Nat} {c : Ctx} {A : Option Addr} {cap : Nat} (h : CtxAt w B c A cap) : (∀ n os, (grow (w.drewN n) os).cell? ⟨B, 0, none⟩ = some (.int .i64 c.c0)) ∧ (∀ n os, (grow (w.drewN n) os).cell? ⟨B, 1, none⟩ = some (.int .i64 c.c1)) ∧ (∀ n os, (grow (w.drewN n) os).cell? ⟨B, 2, none⟩ = some (.int .i64 c.c2)) ∧ (∀ n os, (grow (w.drewN n) os).cell? ⟨B, 3, none⟩ = some (.int .i64 c.c3)) ∧ (∀ n os, (grow (w.drewN n) os).cell? ⟨B, 4, none⟩ = some (.slice A c.l.length cap)) :=
  ⟨cell_grown (a := ⟨B, 0, none⟩) h.lt h.k0, cell_grown (a := ⟨B, 1, none⟩) h.lt h.k1, cell_grown (a := ⟨B, 2, none⟩) h.lt h.k2, cell_grown (a := ⟨B, 3, none⟩) h.lt h.k3, cell_grown (a := ⟨B, 4, none⟩) h.lt h.k4⟩
theorem DotAt.G {w : World} {B : Nat} {x y : Int} (h : DotAt w B x y) : (∀ n os, (grow (w.drewN n) os).cell? ⟨B, 0, none⟩ = some (.int .i64 x)) ∧ (∀ n os, (grow (w.drewN n) os).cell? ⟨B, 1, none⟩ = some (.int .i64 y)) :=
  ⟨cell_grown (a := ⟨B, 0, none⟩) h.lt h.k0, cell_grown (a := ⟨B, 1, none⟩) h.lt h.k1⟩

/-- '==' on two bools. -/
theorem eqBool (a b : Bool) (w : World) : (binOp .eql 4 (.bool a) (.bool b)).run Try.prog w = .ok (.bool (a == b)) w := (EqlAt.bool 4 Try.underlying4).1 a b w

end Go.Proofs.Ytknjeajdiibafaa
