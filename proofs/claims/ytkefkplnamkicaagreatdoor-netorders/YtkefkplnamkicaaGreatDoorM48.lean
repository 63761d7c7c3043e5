/-
  Two nets that a law has made.
-/
import Derived.Test.YtkefkplnamkicaaGreatDoorM42
set_option maxRecDepth 100000
set_option maxHeartbeats 8000000
namespace Go.Proofs.YtkefkplnamkicaaGreatDoor
open Go.RowKit Go.Sort

structure TwN (w wr:World) (X Y:Nat) (M:NetM) (Q:Nat→List (List Stp)) (M':NetM) (Q':Nat→List (List Stp)):Prop where
 ex:∃P P',NetP wr X P M Q∧NetP wr Y P' M' Q'∧¬P Y∧¬P' X
 bel:Below w.heap.size w wr
 hX:w.heap.size≤X
 hY:w.heap.size≤Y
 ne:X≠Y
section
variable {w wr w':World} {X Y:Nat} {M M' N:NetM} {Q Q' R:Nat→List (List Stp)}
theorem TwN.swap (h:TwN w wr X Y M Q M' Q'):TwN w wr Y X M' Q' M Q:=by
 obtain ⟨P,P',h1,h2,h3,h4⟩:=h.ex
 exact ⟨⟨P',P,h2,h1,h4,h3⟩,h.bel,h.hY,h.hX,h.ne.symm⟩
theorem TwN.below (h:TwN w wr X Y M Q M' Q') (k:Below wr.heap.size wr w'):TwN w w' X Y M Q M' Q':=by
 obtain ⟨P,P',h1,h2,h3,h4⟩:=h.ex
 exact ⟨⟨P,P',h1.below k,h2.below k,h3,h4⟩,h.bel.trans (k.mono h.bel.size),h.hX,h.hY,h.ne⟩
theorem TwN.step (h:TwN w wr X Y M Q M' Q') (k:∀P,NetP wr X P M Q→bk wr X P w' N R):TwN w w' X Y N R M' Q'∧Wr X 0 153 wr w':=by
 obtain ⟨P,P',h1,h2,h3,h4⟩:=h.ex
 obtain ⟨⟨P2,k1,k2⟩,k3⟩:=k P h1
 have hY:=h2.lt
 refine ⟨⟨⟨P2,P',k1,h2.keep (k3.oth Y hY h.ne.symm) (k3.agr h4),fun hp=>(k2 Y hp).elim h3 fun h=>by omega,h4⟩,Wr.after h.bel k3 h.hX,h.hX,h.hY,h.ne⟩,k3⟩
theorem TwN.of {w1:World} (h:aV w w1 X M Q) (k:aV w1 wr Y M' Q'):TwN w wr X Y M Q M' Q':=by
 obtain ⟨⟨P,h1,h2⟩,h3,h4⟩:=h
 obtain ⟨⟨P',k1,k2⟩,k3,k4⟩:=k
 have hX:=h1.lt
 exact ⟨⟨P,P',h1.below k3,k1,fun hp=>by have:=h1.up Y hp;omega,fun hp=>by have:=k2 X hp;omega⟩,h3.trans (k3.mono h3.size),h4,nT h3.size k4,by omega⟩
theorem s6 (h:TwN w wr X Y M Q M' Q') (hr:Reads w) (y:Hap×List UInt8) (hx:y.2.length≤maxLen) :
  Calls Tryz.prog 11 #[.pointer (some ⟨X,0,none⟩),.agg (bH y).toArray] wr fun e w'=>∃er R,e= .returned (.int .i64 er)∧py y.2 M y.1 Q er R∧TwN w w' X Y (aj M y.1) R M' Q'∧Wr X 0 153 wr w':=by
 obtain ⟨P,P',h1,h2,h3,h4⟩:=h.ex
 refine (pF h1 (hr.below h.bel) y.2 hx y.1).mono ?_
 rintro e w' ⟨er,R,rfl,f1,f2⟩
 obtain ⟨⟨P2,k1,k2⟩,k3⟩:=f2
 have hY:=h2.lt
 exact ⟨er,R,rfl,f1,⟨⟨P2,P',k1,h2.keep (k3.oth Y hY h.ne.symm) (k3.agr h4),fun hp=>(k2 Y hp).elim h3 fun h=>by omega,h4⟩,Wr.after h.bel k3 h.hX,h.hX,h.hY,h.ne⟩,k3⟩
theorem mP (h:TwN w wr X Y M Q M' Q'):Calls Tryz.prog 12 #[.pointer (some ⟨X,0,none⟩)] wr fun e w'=>e= .returned (.int .i64 (M.pk.length:Int))∧w'=wr:=by
 obtain ⟨P,P',h1,_⟩:=h.ex
 exact lg h1
theorem rI (h:TwN w wr X Y M Q M' Q') (i:Nat) (hi:i<4):(Calls Tryz.prog 19 #[.pointer (some ⟨X,0,none⟩),.int .i64 i] wr fun e w'=>∃v,e= .returned (.tuple #[v,.bool true])∧PkW wr.heap.size w' v (M.s i) (M.t i)∧Below wr.heap.size wr w')∧am (M.s i)=0∧am (M.t i)=0:=by
 obtain ⟨P,P',h1,_⟩:=h.ex
 exact ⟨kQ h1 i hi,(h1.nd i hi).ts.ok,(h1.nd i hi).tt.ok⟩
end
def cC (n:Int):Hap:=⟨4,0,0,n,0,0,0,0,0⟩
theorem Ar (N:NetM) (y:Hap):(aj N y).pk.length≤N.pk.length+1:=by
 unfold aj
 split
 ·split
  ·exact Nat.le_succ _
  ·exact Nat.le_succ _
 ·split
  ·split
   ·show (N.pk++_).length≤_;simp
   ·exact Nat.le_succ _
  ·split
   ·split
    ·unfold m7
     split
     ·show (N.pk++_).length≤_;simp
     ·exact Nat.le_succ _
    ·exact Nat.le_succ _
   ·split
    ·split
     ·split
      ·exact Nat.le_succ _
      ·exact Nat.le_succ _
     ·exact Nat.le_succ _
    ·exact Nat.le_succ _
theorem lJ:∀(l:List Hap) (N:NetM),(l.foldl aj N).pk.length≤N.pk.length+l.length
 | [],_=>nR _
 | y::l,N=>by
  have h1:=lJ l (aj N y)
  have h2:=Ar N y
  simp only[List.foldl_cons,List.length_cons]
  omega
theorem lK (n:Int) (m:Nat) (w:World) (hm:0<m∧m≤1000000):Calls Tryz.prog 13 #[.int .i64 n,.int .i64 m] w fun e w'=>(∃r:Nat,e= .returned (.int .i64 r)∧r<m)∧w'=w:=by
 have hm0:(m:Int)≠0:=by omega
 have h1:=Int.tmod_lt_of_pos n (b:=(m:Int)) (by omega)
 have h2: -(m:Int)<n.tmod m:=by
  have:=Int.tmod_lt_of_pos (-n) (b:=(m:Int)) (by omega)
  rw[Int.neg_tmod] at this
  omega
 by_cases h:n.tmod m<0
 ·obtain ⟨r,hr⟩:∃r:Nat,n.tmod m+m=r:=⟨(n.tmod m+m).toNat,by omega⟩
  have hrm:r<m:=by omega
  go_enter Tryz.func13,Tryz.ntmps13
  go_wp2
  go_ret
  exact ⟨⟨r,rfl,hrm⟩,rfl⟩
 ·obtain ⟨r,hr⟩:∃r:Nat,n.tmod m=r:=⟨(n.tmod m).toNat,by omega⟩
  go_enter Tryz.func13,Tryz.ntmps13
  go_wp2
  go_ret
  exact ⟨⟨r,rfl,by omega⟩,rfl⟩
end Go.Proofs.YtkefkplnamkicaaGreatDoor
