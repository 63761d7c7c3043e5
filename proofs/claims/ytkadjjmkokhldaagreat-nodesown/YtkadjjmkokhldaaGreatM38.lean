/-
  The calls that only read, as they are met in a region that leaves its order open.
  Plain facts of Minus, Less and Next: what is missing is what a has and b hasn't; joined, it is no more missing.
  Plain facts: joining is a lattice's.
-/
import Derived.Test.YtkadjjmkokhldaaGreatM02
import Derived.Test.YtkadjjmkokhldaaGreatM32
import Derived.Test.YtkadjjmkokhldaaGreatM04
import Derived.Test.YtkadjjmkokhldaaGreatM34
import Derived.Test.YtkadjjmkokhldaaGreatM37
import Derived.Test.YtkadjjmkokhldaaGreatM30
namespace Go.Proofs.YtkadjjmkokhldaaGreat
open Go.RowKit Go.Sort

/-- A context's cells, some draws and blocks on. -/
theorem CtxAt.G {w:World} {B:Nat} {c:Ctx} {A:Option Addr} {cap:Nat} (h:CtxAt w B c A cap):(∀n os,(grow (w.drewN n) os).cell? ⟨B,0,none⟩=some (.int .i64 c.c0))∧(∀n os,(grow (w.drewN n) os).cell? ⟨B,1,none⟩=some (.int .i64 c.c1))∧(∀n os,(grow (w.drewN n) os).cell? ⟨B,2,none⟩=some (.int .i64 c.c2))∧(∀n os,(grow (w.drewN n) os).cell? ⟨B,3,none⟩=some (.int .i64 c.c3))∧(∀n os,(grow (w.drewN n) os).cell? ⟨B,4,none⟩=some (.slice A c.l.length cap)) :=
 ⟨cell_grown (a:=⟨B,0,none⟩) h.lt h.k0,cell_grown (a:=⟨B,1,none⟩) h.lt h.k1,cell_grown (a:=⟨B,2,none⟩) h.lt h.k2,cell_grown (a:=⟨B,3,none⟩) h.lt h.k3,cell_grown (a:=⟨B,4,none⟩) h.lt h.k4⟩
theorem DotAt.G {w:World} {B:Nat} {x y:Int} (h:DotAt w B x y):(∀n os,(grow (w.drewN n) os).cell? ⟨B,0,none⟩=some (.int .i64 x))∧(∀n os,(grow (w.drewN n) os).cell? ⟨B,1,none⟩=some (.int .i64 y)) :=
 ⟨cell_grown (a:=⟨B,0,none⟩) h.lt h.k0,cell_grown (a:=⟨B,1,none⟩) h.lt h.k1⟩

end Go.Proofs.YtkadjjmkokhldaaGreat

namespace Go.Proofs.YtkadjjmkokhldaaGreat
open Go.RowKit Go.Sort

end Go.Proofs.YtkadjjmkokhldaaGreat

namespace Go.Proofs.YtkadjjmkokhldaaGreat
open Go.RowKit Go.Sort

theorem join_can {a b:Ctx} (h:joinE a b=0):Can (joinC a b)∧errC (joinC a b)=0∧(joinC a b).l.length≤400∧∀x,hasB (joinC a b) x=true↔hasB a x=true∨hasB b x=true:=by
 obtain ⟨ha,hb,_,hc,hl⟩:=joinE_ok h
 rw[hc]
 exact ⟨joinF_can ha hb,err_of_can (joinF_can ha hb) hl,hl,joinF_has ha hb⟩
theorem join_has {a b:Ctx} (h:joinE a b=0) (x:Int×Int):hasB (joinC a b) x=(hasB a x || hasB b x):=by
 rw[Bool.eq_iff_iff,(join_can h).2.2.2 x,Bool.or_eq_true]
end Go.Proofs.YtkadjjmkokhldaaGreat
