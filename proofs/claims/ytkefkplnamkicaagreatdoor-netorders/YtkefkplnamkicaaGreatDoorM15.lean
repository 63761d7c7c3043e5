/-
  query.printPart: one part of a step.
  query.printLine: the line of a step.
  query.Print: the text of a query.
  What Parse reads: texts cut at a byte, numbers told in one way alone. No run in this text.
  What Parse reads: a line's step, a text's query; Print's texts are read as they were, and what is read is printed as it stood. No run in this text.
  Print's lines and texts are read as they were. No run in this text.
-/
import Derived.Test.YtkefkplnamkicaaGreatDoorM14
import Derived.Lib.Atoi
set_option maxRecDepth 100000
set_option maxHeartbeats 8000000
namespace Go.Proofs.YtkefkplnamkicaaGreatDoor
open Go.RowKit Go.Sort


theorem vn (k:Int):(dH k).length≤4:=by
 unfold dH
 repeat' split
 all_goals simp


def aH (c:UInt8):List UInt8→List (List UInt8)
 | []=>[[]]
 | b::r=>if b=c then []::aH c r else match aH c r with
  | []=>[[b]]
  | x::t=>(b::x)::t
theorem gl (c:UInt8):∀l,aH c l≠[]
 | []=>by simp[aH]
 | b::r=>by
  unfold aH
  split
  ·simp
  ·split<;>simp
theorem fl {c:UInt8}:∀(x l:List UInt8),c ∉ x→aH c (x++c::l)=x::aH c l
 | [],l,_=>by simp[aH]
 | b::x,l,h=>by
  have hb:¬b=c:=fun e=>h (by simp[e])
  have ih:=fl x l (fun e=>h (mC _ e))
  rw[List.cons_append,aH,if_neg hb,ih]
theorem jx {c:UInt8}:∀(x:List UInt8),c ∉ x→aH c x=[x]
 | [],_=>by simp[aH]
 | b::x,h=>by
  have hb:¬b=c:=fun e=>h (by simp[e])
  have ih:=jx x (fun e=>h (mC _ e))
  rw[aH,if_neg hb,ih]
def ee (x:List UInt8):Option Int:=if 10<(Lib.trimPrefix x [45]).length then none else match Lib.atoi x with
 | none=>none
 | some n=>if Lib.itoa n=x then some n else none
theorem vd {x:List UInt8} {n:Int} (h:ee x=some n):Lib.itoa n=x:=by
 unfold ee at h
 split at h
 ·simp at h
 ·split at h
  ·simp at h
  ·split at h
   ·simp at h;subst h;assumption
   ·simp at h

def ef:List (List UInt8)→Option (List Int)
 | []=>some []
 | x::r=>match ee x with
  | none=>none
  | some n=>match ef r with
   | none=>none
   | some l=>some (n::l)
theorem oV:∀ {xs:List (List UInt8)} {l:List Int},ef xs=some l→l.map Lib.itoa=xs
 | [],l,h=>by simp[ef] at h;subst h;rfl
 | x::r,l,h=>by
  unfold ef at h
  cases e:ee x with
  | none=>rw[e] at h;simp at h
  | some n =>
   cases e2:ef r with
   | none=>rw[e,e2] at h;simp at h
   | some m =>
    rw[e,e2] at h
    simp at h
    subst h
    rw[List.map_cons,vd e,oV e2]
def ja (x:List UInt8):Option (List Int):=ef (aH 44 x)
def dc (x:List UInt8):Int:=if x=[60] then 1 else if x=[61] then 2 else if x=[62] then 3 else 0
theorem ti {x:List UInt8} (h:dc x≠0):jZ (dc x)=x:=by
 unfold dc at h ⊢
 split
 ·next e=>rw[e];rfl
 ·split
  ·next e=>rw[e];rfl
  ·split
   ·next e=>rw[e];rfl
   ·next a b c=>simp[a,b,c] at h
theorem th {o:Int} (h:o=1∨o=2∨o=3):dc (jZ o)=o:=by
 rcases h with rfl|rfl|rfl<;>rfl
def du (x:List UInt8):Int:=if x=ek 1 then 1 else if x=ek 2 then 2 else if x=ek 3 then 3 else if x=ek 4 then 4 else if x=ek 5 then 5 else if x=ek 6 then 6 else if x=ek 7 then 7 else if x=ek 8 then 8 else if x=ek 9 then 9 else 0
theorem sD {x:List UInt8} (h:du x≠0):ek (du x)=x∧1≤du x∧du x≤9:=by
 unfold du at h ⊢
 repeat' split
 all_goals first
  | (next e=>exact ⟨e.symm,by decide,by decide⟩)
  | (simp only[*,if_false] at h;exact absurd rfl h)
theorem sC {k:Int} (h:1≤k∧k≤9):du (ek k)=k:=by
 have:k=1∨k=2∨k=3∨k=4∨k=5∨k=6∨k=7∨k=8∨k=9:=by omega
 rcases this with rfl|rfl|rfl|rfl|rfl|rfl|rfl|rfl|rfl<;>rfl
def d9 (s:Stp) (p:UInt8) (x:List UInt8):Option Stp :=
 if p=79 then (if dc x=0 then none else some { s with o:=dc x })
 else if p=76 then (match ja x with
  | none=>none
  | some l=>some { s with l:=l })
 else match ee x with
  | none=>none
  | some n=>some (if p=65 then { s with a:=n } else if p=66 then { s with b:=n } else if p=67 then { s with c:=n } else { s with v:=n })
def dO (s:Stp):List UInt8→List (List UInt8)→Option Stp
 | [],[]=>some s
 | p::ps,x::xs=>match d9 s p x with
  | none=>none
  | some t=>dO t ps xs
 | [],_::_=>none
 | _::_,[]=>none
def fO (k:Int):Stp:=⟨k,0,0,0,0,0,none,0,[]⟩
def fY (x:List UInt8):Option Stp:=match aH 32 x with
 | []=>none
 | y::r=>if du y=0∨r.length≠(dH (du y)).length then none else dO (fO (du y)) (dH (du y)) r
theorem xN {k:Int}:(∀p∈dH k,p∈([65,66,67,79,86,76]:List UInt8))∧(dH k).Nodup:=by
 unfold dH
 repeat' split
 all_goals decide

def clr (s:Stp):Stp:={ s with p:=none,n:=0 }
def io:List (List UInt8)→Option (List Stp)
 | []=>none
 | [x]=>if x=[] then some [] else none
 | x::y::r=>match fY x with
  | none=>none
  | some s=>match io (y::r) with
   | none=>none
   | some q=>some (s::q)
def gm (x:List UInt8):Option (List Stp):=io (aH 10 x)
end Go.Proofs.YtkefkplnamkicaaGreatDoor
