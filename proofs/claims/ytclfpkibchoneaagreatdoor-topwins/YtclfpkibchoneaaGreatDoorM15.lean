/-
  query.printPart: one part of a step.
  query.printLine: the line of a step.
  query.Print: the text of a query.
  What Parse reads: texts cut at a byte, numbers told in one way alone. No run in this text.
  What Parse reads: a line's step, a text's query; Print's texts are read as they were, and what is read is printed as it stood. No run in this text.
  Print's lines and texts are read as they were. No run in this text.
-/
import Derived.Test.YtclfpkibchoneaaGreatDoorM14
import Derived.Lib.Atoi
set_option maxRecDepth 100000
set_option maxHeartbeats 8000000
namespace Go.Proofs.YtclfpkibchoneaaGreatDoor
open Go.RowKit Go.Sort


theorem uH (k:Int):(bx k).length≤4:=by
 unfold bx
 repeat' split
 all_goals simp


def bq (c:UInt8):List UInt8→List (List UInt8)
 | []=>[[]]
 | b::r=>if b=c then []::bq c r else match bq c r with
  | []=>[[b]]
  | x::t=>(b::x)::t
theorem kJ (c:UInt8):∀l,bq c l≠[]
 | []=>by simp[bq]
 | b::r=>by
  unfold bq
  split
  ·simp
  ·split<;>simp
theorem jr {c:UInt8}:∀(x l:List UInt8),c ∉ x→bq c (x++c::l)=x::bq c l
 | [],l,_=>by simp[bq]
 | b::x,l,h=>by
  have hb:¬b=c:=fun e=>h (by simp[e])
  have ih:=jr x l (fun e=>h (mC _ e))
  rw[List.cons_append,bq,if_neg hb,ih]
theorem js {c:UInt8}:∀(x:List UInt8),c ∉ x→bq c x=[x]
 | [],_=>by simp[bq]
 | b::x,h=>by
  have hb:¬b=c:=fun e=>h (by simp[e])
  have ih:=js x (fun e=>h (mC _ e))
  rw[bq,if_neg hb,ih]
def dA (x:List UInt8):Option Int:=if 10<(Lib.trimPrefix x [45]).length then none else match Lib.atoi x with
 | none=>none
 | some n=>if Lib.itoa n=x then some n else none
theorem uB {x:List UInt8} {n:Int} (h:dA x=some n):Lib.itoa n=x:=by
 unfold dA at h
 split at h
 ·simp at h
 ·split at h
  ·simp at h
  ·split at h
   ·simp at h;subst h;assumption
   ·simp at h

def ek:List (List UInt8)→Option (List Int)
 | []=>some []
 | x::r=>match dA x with
  | none=>none
  | some n=>match ek r with
   | none=>none
   | some l=>some (n::l)
theorem oA:∀ {xs:List (List UInt8)} {l:List Int},ek xs=some l→l.map Lib.itoa=xs
 | [],l,h=>by simp[ek] at h;subst h;rfl
 | x::r,l,h=>by
  unfold ek at h
  cases e:dA x with
  | none=>rw[e] at h;simp at h
  | some n =>
   cases e2:ek r with
   | none=>rw[e,e2] at h;simp at h
   | some m =>
    rw[e,e2] at h
    simp at h
    subst h
    rw[List.map_cons,uB e,oA e2]
def iZ (x:List UInt8):Option (List Int):=ek (bq 44 x)
def dr (x:List UInt8):Int:=if x=[60] then 1 else if x=[61] then 2 else if x=[62] then 3 else 0
theorem sz {x:List UInt8} (h:dr x≠0):jY (dr x)=x:=by
 unfold dr at h ⊢
 split
 ·next e=>rw[e];rfl
 ·split
  ·next e=>rw[e];rfl
  ·split
   ·next e=>rw[e];rfl
   ·next a b c=>simp[a,b,c] at h
theorem sy {o:Int} (h:o=1∨o=2∨o=3):dr (jY o)=o:=by
 rcases h with rfl|rfl|rfl<;>rfl
def dE (x:List UInt8):Int:=if x=ew 1 then 1 else if x=ew 2 then 2 else if x=ew 3 then 3 else if x=ew 4 then 4 else if x=ew 5 then 5 else if x=ew 6 then 6 else if x=ew 7 then 7 else if x=ew 8 then 8 else if x=ew 9 then 9 else 0
theorem rY {x:List UInt8} (h:dE x≠0):ew (dE x)=x∧1≤dE x∧dE x≤9:=by
 unfold dE at h ⊢
 repeat' split
 all_goals first
  | (next e=>exact ⟨e.symm,by decide,by decide⟩)
  | (simp only[*,if_false] at h;exact absurd rfl h)
theorem rX {k:Int} (h:1≤k∧k≤9):dE (ew k)=k:=by
 have:k=1∨k=2∨k=3∨k=4∨k=5∨k=6∨k=7∨k=8∨k=9:=by omega
 rcases this with rfl|rfl|rfl|rfl|rfl|rfl|rfl|rfl|rfl<;>rfl
def dm (s:Stp) (p:UInt8) (x:List UInt8):Option Stp :=
 if p=79 then (if dr x=0 then none else some { s with o:=dr x })
 else if p=76 then (match iZ x with
  | none=>none
  | some l=>some { s with l:=l })
 else match dA x with
  | none=>none
  | some n=>some (if p=65 then { s with a:=n } else if p=66 then { s with b:=n } else if p=67 then { s with c:=n } else { s with v:=n })
def dU (s:Stp):List UInt8→List (List UInt8)→Option Stp
 | [],[]=>some s
 | p::ps,x::xs=>match dm s p x with
  | none=>none
  | some t=>dU t ps xs
 | [],_::_=>none
 | _::_,[]=>none
def fR (k:Int):Stp:=⟨k,0,0,0,0,0,none,0,[]⟩
def iY (x:List UInt8):Option Stp:=match bq 32 x with
 | []=>none
 | y::r=>if dE y=0∨r.length≠(bx (dE y)).length then none else dU (fR (dE y)) (bx (dE y)) r
theorem xn {k:Int}:(∀p∈bx k,p∈([65,66,67,79,86,76]:List UInt8))∧(bx k).Nodup:=by
 unfold bx
 repeat' split
 all_goals decide

def clr (s:Stp):Stp:={ s with p:=none,n:=0 }
def kv:List (List UInt8)→Option (List Stp)
 | []=>none
 | [x]=>if x=[] then some [] else none
 | x::y::r=>match iY x with
  | none=>none
  | some s=>match kv (y::r) with
   | none=>none
   | some q=>some (s::q)
def eE (x:List UInt8):Option (List Stp):=kv (bq 10 x)
end Go.Proofs.YtclfpkibchoneaaGreatDoor
