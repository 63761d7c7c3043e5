/-
  query.printPart: one part of a step.
  query.printLine: the line of a step.
  query.Print: the text of a query.
  What Parse reads: texts cut at a byte, numbers told in one way alone. No run in this text.
  What Parse reads: a line's step, a text's query; Print's texts are read as they were, and what is read is printed as it stood. No run in this text.
  Print's lines and texts are read as they were. No run in this text.
-/
import Derived.Test.YtfedpiamlpflhaaGreatDoorM14
import Derived.Lib.Atoi
set_option maxRecDepth 100000
set_option maxHeartbeats 8000000
namespace Go.Proofs.YtfedpiamlpflhaaGreatDoor
open Go.RowKit Go.Sort


theorem sX (k:Int):(bg k).length≤4:=by
 unfold bg
 repeat' split
 all_goals simp


def aW (c:UInt8):List UInt8→List (List UInt8)
 | []=>[[]]
 | b::r=>if b=c then []::aW c r else match aW c r with
  | []=>[[b]]
  | x::t=>(b::x)::t
theorem jR (c:UInt8):∀l,aW c l≠[]
 | []=>by simp[aW]
 | b::r=>by
  unfold aW
  split
  ·simp
  ·split<;>simp
theorem iU {c:UInt8}:∀(x l:List UInt8),c ∉ x→aW c (x++c::l)=x::aW c l
 | [],l,_=>by simp[aW]
 | b::x,l,h=>by
  have hb:¬b=c:=fun e=>h (by simp[e])
  have ih:=iU x l (fun e=>h (mC _ e))
  rw[List.cons_append,aW,if_neg hb,ih]
theorem iV {c:UInt8}:∀(x:List UInt8),c ∉ x→aW c x=[x]
 | [],_=>by simp[aW]
 | b::x,h=>by
  have hb:¬b=c:=fun e=>h (by simp[e])
  have ih:=iV x (fun e=>h (mC _ e))
  rw[aW,if_neg hb,ih]
def dc (x:List UInt8):Option Int:=if 10<(Lib.trimPrefix x [45]).length then none else match Lib.atoi x with
 | none=>none
 | some n=>if Lib.itoa n=x then some n else none
theorem sQ {x:List UInt8} {n:Int} (h:dc x=some n):Lib.itoa n=x:=by
 unfold dc at h
 split at h
 ·simp at h
 ·split at h
  ·simp at h
  ·split at h
   ·simp at h;subst h;assumption
   ·simp at h

def dP:List (List UInt8)→Option (List Int)
 | []=>some []
 | x::r=>match dc x with
  | none=>none
  | some n=>match dP r with
   | none=>none
   | some l=>some (n::l)
theorem mT:∀ {xs:List (List UInt8)} {l:List Int},dP xs=some l→l.map Lib.itoa=xs
 | [],l,h=>by simp[dP] at h;subst h;rfl
 | x::r,l,h=>by
  unfold dP at h
  cases e:dc x with
  | none=>rw[e] at h;simp at h
  | some n =>
   cases e2:dP r with
   | none=>rw[e,e2] at h;simp at h
   | some m =>
    rw[e,e2] at h
    simp at h
    subst h
    rw[List.map_cons,sQ e,mT e2]
def iz (x:List UInt8):Option (List Int):=dP (aW 44 x)
def cW (x:List UInt8):Int:=if x=[60] then 1 else if x=[61] then 2 else if x=[62] then 3 else 0
theorem qU {x:List UInt8} (h:cW x≠0):js (cW x)=x:=by
 unfold cW at h ⊢
 split
 ·next e=>rw[e];rfl
 ·split
  ·next e=>rw[e];rfl
  ·split
   ·next e=>rw[e];rfl
   ·next a b c=>simp[a,b,c] at h
theorem qT {o:Int} (h:o=1∨o=2∨o=3):cW (js o)=o:=by
 rcases h with rfl|rfl|rfl<;>rfl
def dh (x:List UInt8):Int:=if x=dS 1 then 1 else if x=dS 2 then 2 else if x=dS 3 then 3 else if x=dS 4 then 4 else if x=dS 5 then 5 else if x=dS 6 then 6 else if x=dS 7 then 7 else if x=dS 8 then 8 else if x=dS 9 then 9 else 0
theorem qx {x:List UInt8} (h:dh x≠0):dS (dh x)=x∧1≤dh x∧dh x≤9:=by
 unfold dh at h ⊢
 repeat' split
 all_goals first
  | (next e=>exact ⟨e.symm,by decide,by decide⟩)
  | (simp only[*,if_false] at h;exact absurd rfl h)
theorem qw {k:Int} (h:1≤k∧k≤9):dh (dS k)=k:=by
 have:k=1∨k=2∨k=3∨k=4∨k=5∨k=6∨k=7∨k=8∨k=9:=by omega
 rcases this with rfl|rfl|rfl|rfl|rfl|rfl|rfl|rfl|rfl<;>rfl
def cT (s:Stp) (p:UInt8) (x:List UInt8):Option Stp :=
 if p=79 then (if cW x=0 then none else some { s with o:=cW x })
 else if p=76 then (match iz x with
  | none=>none
  | some l=>some { s with l:=l })
 else match dc x with
  | none=>none
  | some n=>some (if p=65 then { s with a:=n } else if p=66 then { s with b:=n } else if p=67 then { s with c:=n } else { s with v:=n })
def dE (s:Stp):List UInt8→List (List UInt8)→Option Stp
 | [],[]=>some s
 | p::ps,x::xs=>match cT s p x with
  | none=>none
  | some t=>dE t ps xs
 | [],_::_=>none
 | _::_,[]=>none
def fs (k:Int):Stp:=⟨k,0,0,0,0,0,none,0,[]⟩
def iy (x:List UInt8):Option Stp:=match aW 32 x with
 | []=>none
 | y::r=>if dh y=0∨r.length≠(bg (dh y)).length then none else dE (fs (dh y)) (bg (dh y)) r
theorem vj {k:Int}:(∀p∈bg k,p∈([65,66,67,79,86,76]:List UInt8))∧(bg k).Nodup:=by
 unfold bg
 repeat' split
 all_goals decide

def clr (s:Stp):Stp:={ s with p:=none,n:=0 }
def jH:List (List UInt8)→Option (List Stp)
 | []=>none
 | [x]=>if x=[] then some [] else none
 | x::y::r=>match iy x with
  | none=>none
  | some s=>match jH (y::r) with
   | none=>none
   | some q=>some (s::q)
def dW (x:List UInt8):Option (List Stp):=jH (aW 10 x)
end Go.Proofs.YtfedpiamlpflhaaGreatDoor
