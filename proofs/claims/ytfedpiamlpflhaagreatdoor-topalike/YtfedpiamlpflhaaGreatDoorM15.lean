/-
  query.printPart: one part of a step.
  query.printLine: the line of a step.
  query.Print: the text of a query.
  What Parse reads: texts cut at a byte, numbers told in one way alone. No run in this text.
  What Parse reads: a line's step, a text's query; Print's texts are read as they were, and what is read is printed as it stood. No run in this text.
  Print's lines and texts are read as they were. No run in this text.
-/
import Derived.Test.YtfedpiamlpflhaaGreatDoorM14
import Derived.Lib.Atoi
set_option maxRecDepth 100000
set_option maxHeartbeats 8000000
namespace Go.Proofs.YtfedpiamlpflhaaGreatDoor
open Go.RowKit Go.Sort


theorem sP (k:Int):(aZ k).length≤4:=by
 unfold aZ
 repeat' split
 all_goals simp


def aV (c:UInt8):List UInt8→List (List UInt8)
 | []=>[[]]
 | b::r=>if b=c then []::aV c r else match aV c r with
  | []=>[[b]]
  | x::t=>(b::x)::t
theorem jO (c:UInt8):∀l,aV c l≠[]
 | []=>by simp[aV]
 | b::r=>by
  unfold aV
  split
  ·simp
  ·split<;>simp
theorem iP {c:UInt8}:∀(x l:List UInt8),c ∉ x→aV c (x++c::l)=x::aV c l
 | [],l,_=>by simp[aV]
 | b::x,l,h=>by
  have hb:¬b=c:=fun e=>h (by simp[e])
  have ih:=iP x l (fun e=>h (mC _ e))
  rw[List.cons_append,aV,if_neg hb,ih]
theorem iQ {c:UInt8}:∀(x:List UInt8),c ∉ x→aV c x=[x]
 | [],_=>by simp[aV]
 | b::x,h=>by
  have hb:¬b=c:=fun e=>h (by simp[e])
  have ih:=iQ x (fun e=>h (mC _ e))
  rw[aV,if_neg hb,ih]
def df (x:List UInt8):Option Int:=if 10<(Lib.trimPrefix x [45]).length then none else match Lib.atoi x with
 | none=>none
 | some n=>if Lib.itoa n=x then some n else none
theorem sF {x:List UInt8} {n:Int} (h:df x=some n):Lib.itoa n=x:=by
 unfold df at h
 split at h
 ·simp at h
 ·split at h
  ·simp at h
  ·split at h
   ·simp at h;subst h;assumption
   ·simp at h

def dT:List (List UInt8)→Option (List Int)
 | []=>some []
 | x::r=>match df x with
  | none=>none
  | some n=>match dT r with
   | none=>none
   | some l=>some (n::l)
theorem mU:∀ {xs:List (List UInt8)} {l:List Int},dT xs=some l→l.map Lib.itoa=xs
 | [],l,h=>by simp[dT] at h;subst h;rfl
 | x::r,l,h=>by
  unfold dT at h
  cases e:df x with
  | none=>rw[e] at h;simp at h
  | some n =>
   cases e2:dT r with
   | none=>rw[e,e2] at h;simp at h
   | some m =>
    rw[e,e2] at h
    simp at h
    subst h
    rw[List.map_cons,sF e,mU e2]
def iq (x:List UInt8):Option (List Int):=dT (aV 44 x)
def cX (x:List UInt8):Int:=if x=[60] then 1 else if x=[61] then 2 else if x=[62] then 3 else 0
theorem qN {x:List UInt8} (h:cX x≠0):jp (cX x)=x:=by
 unfold cX at h ⊢
 split
 ·next e=>rw[e];rfl
 ·split
  ·next e=>rw[e];rfl
  ·split
   ·next e=>rw[e];rfl
   ·next a b c=>simp[a,b,c] at h
theorem qM {o:Int} (h:o=1∨o=2∨o=3):cX (jp o)=o:=by
 rcases h with rfl|rfl|rfl<;>rfl
def dj (x:List UInt8):Int:=if x=dW 1 then 1 else if x=dW 2 then 2 else if x=dW 3 then 3 else if x=dW 4 then 4 else if x=dW 5 then 5 else if x=dW 6 then 6 else if x=dW 7 then 7 else if x=dW 8 then 8 else if x=dW 9 then 9 else 0
theorem qr {x:List UInt8} (h:dj x≠0):dW (dj x)=x∧1≤dj x∧dj x≤9:=by
 unfold dj at h ⊢
 repeat' split
 all_goals first
  | (next e=>exact ⟨e.symm,by decide,by decide⟩)
  | (simp only[*,if_false] at h;exact absurd rfl h)
theorem qq {k:Int} (h:1≤k∧k≤9):dj (dW k)=k:=by
 have:k=1∨k=2∨k=3∨k=4∨k=5∨k=6∨k=7∨k=8∨k=9:=by omega
 rcases this with rfl|rfl|rfl|rfl|rfl|rfl|rfl|rfl|rfl<;>rfl
def cU (s:Stp) (p:UInt8) (x:List UInt8):Option Stp :=
 if p=79 then (if cX x=0 then none else some { s with o:=cX x })
 else if p=76 then (match iq x with
  | none=>none
  | some l=>some { s with l:=l })
 else match df x with
  | none=>none
  | some n=>some (if p=65 then { s with a:=n } else if p=66 then { s with b:=n } else if p=67 then { s with c:=n } else { s with v:=n })
def dF (s:Stp):List UInt8→List (List UInt8)→Option Stp
 | [],[]=>some s
 | p::ps,x::xs=>match cU s p x with
  | none=>none
  | some t=>dF t ps xs
 | [],_::_=>none
 | _::_,[]=>none
def fs (k:Int):Stp:=⟨k,0,0,0,0,0,none,0,[]⟩
def ip (x:List UInt8):Option Stp:=match aV 32 x with
 | []=>none
 | y::r=>if dj y=0∨r.length≠(aZ (dj y)).length then none else dF (fs (dj y)) (aZ (dj y)) r
theorem ve {k:Int}:(∀p∈aZ k,p∈([65,66,67,79,86,76]:List UInt8))∧(aZ k).Nodup:=by
 unfold aZ
 repeat' split
 all_goals decide

def clr (s:Stp):Stp:={ s with p:=none,n:=0 }
def jE:List (List UInt8)→Option (List Stp)
 | []=>none
 | [x]=>if x=[] then some [] else none
 | x::y::r=>match ip x with
  | none=>none
  | some s=>match jE (y::r) with
   | none=>none
   | some q=>some (s::q)
def e8 (x:List UInt8):Option (List Stp):=jE (aV 10 x)
end Go.Proofs.YtfedpiamlpflhaaGreatDoor
