/-
  What two readings of one text have in common; the queries of four nodes that were read out of one text.
-/
import Derived.Test.YtkefkplnamkicaaGreatDoorM41
set_option maxRecDepth 100000
set_option maxHeartbeats 8000000
namespace Go.Proofs.YtkefkplnamkicaaGreatDoor
open Go.RowKit Go.Sort

def oG (i:Int):Hap:=⟨5,i,0,0,0,0,0,0,0⟩
theorem tK (N:NetM) (i:Int):aj N (oG i)=N:=by
 show (if (5:Int)=1 then _ else if (5:Int)=2 then _ else if (5:Int)=3 then _ else if (5:Int)=4 then _ else N)=N
 rw[if_neg (by decide),if_neg (by decide),if_neg (by decide),if_neg (by decide)]
theorem jr {x:List UInt8} {q r:List Stp} {e f:Int} (h:eC x q e) (k:eC x r f) (e0:e=0):f=0∧q.map bare=r.map bare:=by
 rcases h with ⟨_,h1,⟨q0,h2,h3⟩,h4⟩|⟨h,_⟩
 ·rcases k with ⟨k0,_,⟨r0,k2,k3⟩,_⟩|⟨_,_,k1|k1|⟨r0,r1,k2,k3,k4⟩⟩
  ·rw[h2] at k2
   obtain rfl:=sI k2
   exact ⟨k0,h3.trans k3.symm⟩
  ·omega
  ·rw[h2] at k1;cases k1
  ·rw[h2] at k2
   obtain rfl:=sI k2
   have:bV r1=bV q:=by
    rw[←kt r1,←kt q]
    exact congrArg bV (k3.trans h3.symm)
   exact absurd (this.trans h4) k4
 ·exact absurd e0 h
def NoQ (x:List UInt8):Prop:=∀q e,eC x q e→e≠0
theorem oD {x:List UInt8} {N:NetM} {Q Q':Nat→List (List Stp)} {er:Int} {i:Nat} (hi:i<4) (h:py x N (oG i) Q er Q') (hl:(Q i).length<4):(NoQ x∧Q'=Q)∨∃q,eC x q 0∧Q'=eo Q i (Q i++[q]):=by
 rcases h with ⟨h,_⟩|⟨_,h⟩
 ·exact absurd rfl h
 rcases h with ⟨h,_⟩|⟨_,q,ep,hp,⟨h1,_,h3⟩|⟨h1,_,h3⟩⟩
 ·exact absurd (show isN (oG i).a from ⟨by show (0:Int)≤(i:Int);omega,by show (i:Int)<4;omega⟩) h
 ·exact oL ⟨fun r e hr e0=>h1 (jr hr hp.parsed e0).1,h3⟩
 ·have hp:=hp.parsed
  subst h1
  refine oR ⟨q,hp,?_⟩
  have he:bV q=0:=by
   rcases hp with ⟨_,_,_,h⟩|⟨h,_⟩
   ·exact h
   ·exact absurd rfl h
  have hi2:(oG i).a.toNat=i:=Int.toNat_natCast i
  rw[hi2] at h3
  have hw:wtE q (Q i)=0:=by unfold wtE;rw[if_pos he,if_neg (by omega)]
  have hq:wtQ q (Q i)=Q i++[q]:=by unfold wtQ;rw[if_pos hw]
  rw[h3,hq]
structure QI (x:List UInt8) (Q:Nat→List (List Stp)) (k:Nat):Prop where
 of:∀j,∀q∈Q j,eC x q 0
 few:∀j,k≤j→(Q j).length≤1
 has:∀j,j<k→NoQ x∨Q j≠[]
theorem QI.zero (x:List UInt8):QI x (fun _=>[]) 0:=⟨fun _ q hq=>(by cases hq),fun _ _=>nZ _,fun j hj=>absurd hj (Nat.not_lt_zero j)⟩
theorem QI.step {x:List UInt8} {Q Q':Nat→List (List Stp)} {k:Nat} (h:QI x Q k) (s:(NoQ x∧Q'=Q)∨∃q,eC x q 0∧Q'=eo Q k (Q k++[q])):QI x Q' (k+1):=by
 rcases s with ⟨h1,rfl⟩|⟨q,h1,rfl⟩
 ·exact ⟨h.of,fun j hj=>h.few j (by omega),fun _ _=>oL h1⟩
 ·refine ⟨fun j r hr=> ?_,fun j hj=> ?_,fun j hj=> ?_⟩
  ·by_cases e:j=k
   ·subst e
    rw[show eo Q j (Q j++[q]) j=Q j++[q] from if_pos rfl] at hr
    rcases List.mem_append.1 hr with hr|hr
    ·exact h.of j r hr
    ·rw[List.mem_singleton.1 hr];exact h1
   ·rw[show eo Q k (Q k++[q]) j=Q j from if_neg e] at hr
    exact h.of j r hr
  ·rw[show eo Q k (Q k++[q]) j=Q j from if_neg (by omega)]
   exact h.few j (by omega)
  ·by_cases e:j=k
   ·subst e
    rw[show eo Q j (Q j++[q]) j=Q j++[q] from if_pos rfl]
    exact oR (by simp)
   ·rw[show eo Q k (Q k++[q]) j=Q j from if_neg e]
    exact h.has j (by omega)
theorem QI.first {x:List UInt8} {Q':Nat→List (List Stp)} (s:(NoQ x∧Q'=fun _=>[])∨∃q,eC x q 0∧Q'=eo (fun _=>[]) 0 ([]++[q])):QI x Q' 0:=by
 rcases s with ⟨_,rfl⟩|⟨q,h1,rfl⟩
 ·exact QI.zero x
 ·refine ⟨fun j r hr=> ?_,fun j _=> ?_,fun j hj=>absurd hj (Nat.not_lt_zero j)⟩
  ·by_cases e:j=0
   ·rw[show eo (fun _=>[]) 0 ([]++[q]) j=[q] from if_pos e] at hr
    rw[List.mem_singleton.1 hr];exact h1
   ·rw[show eo (fun _=>[]) 0 ([]++[q]) j=[] from if_neg e] at hr
    cases hr
  ·by_cases e:j=0
   ·rw[show eo (fun _=>[]) 0 ([]++[q]) j=[q] from if_pos e]
    exact nR _
   ·rw[show eo (fun _=>[]) 0 ([]++[q]) j=[] from if_neg e]
    exact nZ _
theorem QI.tell {x:List UInt8} {Q:Nat→List (List Stp)} (h:QI x Q 4) (s t:Tab):∃E F,∀i,i<4→(Q i=[]∧E=4∧F=[])∨∃q r,Q i=q::r∧bY q (ofR s) (ofR t)=E∧e7 q (ofR s) (ofR t)=F:=by
 by_cases hn:NoQ x
 ·refine ⟨4,[],fun i _=>oL ⟨?_,rfl,rfl⟩⟩
  cases hq:Q i with
  | nil=>rfl
  | cons q r=>exact absurd rfl (hn q 0 (h.of i q (by rw[hq];exact mS ..)))
 ·have all:∀i,i<4→∃q r,Q i=q::r∧eC x q 0:=fun i hi=>by
   have h1:=(h.has i hi).resolve_left hn
   cases hq:Q i with
   | nil=>exact absurd hq h1
   | cons q r=>exact ⟨q,r,rfl,h.of i q (by rw[hq];exact mS ..)⟩
  obtain ⟨q0,_,_,hp0⟩:=all 0 (by omega)
  refine ⟨bY q0 (ofR s) (ofR t),e7 q0 (ofR s) (ofR t),fun i hi=>oR ?_⟩
  obtain ⟨q,r,h1,h2⟩:=all i hi
  have hb:=(jr h2 hp0 rfl).2
  exact ⟨q,r,h1,kM hb _ _,kL hb _ _⟩
end Go.Proofs.YtkefkplnamkicaaGreatDoor
