/-
  viewkeep.edited: a table, behind some edits of two nodes.
  A list that grows while two contexts are read: what an append leaves ds it was. And which dots are missing.
  dot.appendMissing: the dots of a node that a has and b hasn't, behind a list.
-/
import Derived.Test.YtkadjjmkokhldaaGreatM35
import Derived.Test.YtkadjjmkokhldaaGreatM34
import Derived.Test.YtkadjjmkokhldaaGreatM02
import Derived.Test.YtkadjjmkokhldaaGreatM04
namespace Go.Proofs.YtkadjjmkokhldaaGreat
open Go.RowKit Go.Sort

theorem Six.oth {w:World} {B:Nat} {u0 u1 u2 u3 u4 u5:Value} (h:Six w B u0 u1 u2 u3 u4 u5) {B' j:Nat} (u:Value) (hB:B≠B'):Six (w.setCell ⟨B',j,none⟩ u) B u0 u1 u2 u3 u4 u5:=by
 have ho:∀i,(w.setCell ⟨B',j,none⟩ u).cell? ⟨B,i,none⟩=w.cell? ⟨B,i,none⟩:=fun i=>World.cell?_setCell_other _ _ _ _ (by intro e;injection e with e1;exact hB e1.symm)
 exact ⟨(ho 0).trans h.k0,(ho 1).trans h.k1,(ho 2).trans h.k2,(ho 3).trans h.k3,(ho 4).trans h.k4,(ho 5).trans h.k5,fun i=>by simp only[World.frozen?_setCell];exact h.fz i,by simpa[World.setCell] using h.lt⟩
theorem RowG.set0 {α : Type} {enc: α → List Value} {k:Nat} {w:World} {A:Option Addr} {l:List α} (h:RowG enc k w A l) {B m:Nat} (u:Value) (hA:∀x,A=some x→l≠[]→x.block≠B):RowG enc k (w.setCell ⟨B,m,none⟩ u) A l:=by
 by_cases h0:l=[]
 ·exact Or.inl h0
 ·exact h.setCell u fun x hx=>hA x hx h0
theorem TabAt.oth {w:World} {B:Nat} {t:Tab} {A:Option Addr} {ca:Nat} {D:Option Addr} {cd:Nat} (h:TabAt w B t A ca D cd) {B' j:Nat} (u:Value) (hB:B≠B') (hA:∀x,A=some x→t.c.l≠[]→x.block≠B') (hD:∀x,D=some x→t.e≠[]→x.block≠B'):TabAt (w.setCell ⟨B',j,none⟩ u) B t A ca D cd:=by
 have ho:∀i,(w.setCell ⟨B',j,none⟩ u).cell? ⟨B,i,none⟩=w.cell? ⟨B,i,none⟩:=fun i=>World.cell?_setCell_other _ _ _ _ (by intro e;injection e with e1;exact hB e1.symm)
 exact ⟨(ho 0).trans h.k0,(ho 1).trans h.k1,(ho 2).trans h.k2,(ho 3).trans h.k3,(ho 4).trans h.k4,(ho 5).trans h.k5,by simpa[World.setCell] using h.lt,h.row.setCell0 _ hA,h.rowC.set0 _ hD⟩
theorem joinC_lenK (a b:Ctx):(joinC a b).l.length≤maxLen:=by
 by_cases h:joinE a b=0
 ·rw[(joinE_ok h).2.2.2.1]
  exact Nat.le_trans (joinE_ok h).2.2.2.2 (by decide)
 ·have:joinC a b=zeroC:=by simp[joinC,h]
  rw[this];decide
theorem mergeE_parts {a b:Tab} (h:mergeE a b=0):errT a=0∧errT b=0∧clashB a b=false∧joinE a.c b.c=0∧(mrg a b).length≤400:=by
 unfold mergeE at h
 by_cases h1:errT a=0
 ·by_cases h2:errT b=0
  ·cases h3:clashB a b
   ·by_cases h5:joinE a.c b.c=0
    ·by_cases h6:400<(mrg a b).length
     ·simp[h1,h2,h3,h5,h6] at h
     ·exact ⟨h1,h2,rfl,h5,by omega⟩
    ·simp[h1,h2,h3,h5] at h
   ·simp[h1,h2,h3] at h
  ·simp[h1,h2] at h
 ·simp[h1] at h
theorem putT_lenK (t:Tab) (n key col v:Int):(putT t n key col v).c.l.length≤maxLen∧(putT t n key col v).e.length≤maxLen:=by
 unfold putT
 by_cases h:putE t n key col v=0
 ·rw[if_pos h]
  exact ⟨joinC_lenK _ _,show 1≤maxLen by decide⟩
 ·rw[if_neg h]
  exact ⟨by decide,by decide⟩
theorem delC_lenK (t:Tab) (key:Int):(delC t key).l.length≤maxLen:=by
 unfold delC
 by_cases h:delE t key=0
 ·rw[if_pos h]
  have h1:errT t=0:=by
   by_cases h1:errT t=0
   ·exact h1
   ·unfold delE at h
    rw[if_pos h1] at h
    exact absurd h h1
  exact makeC_len _ (Nat.le_trans (dotsOf_len _ _) (errT_parts h1).2.1)
 ·rw[if_neg h];decide

end Go.Proofs.YtkadjjmkokhldaaGreat

namespace Go.Proofs.YtkadjjmkokhldaaGreat
open Go.RowKit Go.Sort

theorem CtxAt.belowB {w w':World} {B:Nat} {c:Ctx} {A:Option Addr} {cap base:Nat} (h:CtxAt w B c A cap) (k:Below base w w') (hB:B<base) (hA:∀x,A=some x→c.l≠[]→x.block<base):CtxAt w' B c A cap :=
 ⟨(k.cell (p:=⟨B,0,none⟩) hB).trans h.k0,(k.cell (p:=⟨B,1,none⟩) hB).trans h.k1,(k.cell (p:=⟨B,2,none⟩) hB).trans h.k2,(k.cell (p:=⟨B,3,none⟩) hB).trans h.k3,(k.cell (p:=⟨B,4,none⟩) hB).trans h.k4,Nat.lt_of_lt_of_le h.lt k.size,h.row.belowB hA k⟩

theorem CtxAt.grown {w w':World} {B:Nat} {c:Ctx} {A:Option Addr} {cap:Nat} {row:Option Nat} {base:Nat} (h:CtxAt w B c A cap) (hg:w.grownBy w' row) (hB:some B≠row) (hb:Below base w w') (hA:∀x,A=some x→c.l≠[]→x.block<base):CtxAt w' B c A cap :=
 ⟨hg.cell h.k0 hB,hg.cell h.k1 hB,hg.cell h.k2 hB,hg.cell h.k3 hB,hg.cell h.k4 hB,Nat.lt_of_lt_of_le h.lt hg.size,h.row.belowB hA hb⟩

end Go.Proofs.YtkadjjmkokhldaaGreat

namespace Go.Proofs.YtkadjjmkokhldaaGreat
open Go.RowKit Go.Sort

end Go.Proofs.YtkadjjmkokhldaaGreat
