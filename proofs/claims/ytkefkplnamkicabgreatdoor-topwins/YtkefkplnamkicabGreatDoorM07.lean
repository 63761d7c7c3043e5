import Derived.Test.YtkefkplnamkicabGreatDoorM05
import Derived.Test.YtkefkplnamkicabGreatDoorM06
import Derived.Maps.OwnSet
set_option maxRecDepth 100000
set_option maxHeartbeats 8000000
open Go.Ending renaming returned → Z
open Go.IntKind renaming i64 → V
open Go.Obj renaming cells → O
open Go.Proofs.Tryz renaming prog → J
open Go.Value renaming slice → I, agg → H
namespace Go.Proofs.YtkefkplnamkicabGreatDoor

def toB (n op v:Int):Bool:=if op=1 then decide (n<v) else if op=2 then decide (n=v) else decide (v<n)
def atI (r:List Int) (c:Int):Int:=r.getD c.toNat 0
def di (l:List Zit) (c o v:Int):List Zit:=l.filter fun x=>toB (atI x.1 c) o v
def ec (cols:List Int) (r:List Int):List Int:=cols.map fun c=>atI r c
def fI (l:List Zit) (cols:List Int):List Zit:=l.map fun x=>(ec cols x.1,x.2)
def fv (l:List Zit):List Zit:=(l.filter fun x=>decide (0<x.2)).map fun x=>(x.1,1)
theorem mv {a b:List Zit} (h:aR a b=0):aw a=0∧aw b=0∧aw (aP a b)=0:=by
 unfold aR at h
 by_cases h1:aw a=0
 ·rw[if_pos h1] at h
  by_cases h2:aw b=0
  ·rw[if_pos h2] at h
   by_cases h3:dc (a++b)=0
   ·rw[if_pos h3] at h
    by_cases h4:400<(cU (a++b)).length
    ·rw[if_pos h4] at h;cases h
    ·refine ⟨h1,h2,?_⟩
     have e:aP a b=cU (a++b):=by
      unfold aP aR
      rw[if_pos h1,if_pos h2,if_pos h3,if_neg h4,if_pos rfl]
     rw[e]
     have T:=bi (a++b)
     refine (bx _).2 ⟨by omega,T.okZ (nF h3) (fun x hx=> ?_),T.rise⟩
     rcases List.mem_append.1 hx with k|k
     ·exact (bL (((bx a).1 h1).2.1 x k)).1
     ·exact (bL (((bx b).1 h2).2.1 x k)).1
   ·rw[if_neg h3] at h;exact absurd h h3
  ·rw[if_neg h2] at h;exact absurd h h2
 ·rw[if_neg h1] at h;exact absurd h h1
end Go.Proofs.YtkefkplnamkicabGreatDoor

namespace Go.Proofs.YtkefkplnamkicabGreatDoor
open Go.RowKit Go.Sort

theorem kN (q:List Stp) (A:Option Addr) (ca:Nat) (w:World) (hl:q.length≤maxLen) (hq:Stps w A q) :
  Calls J 55 #[I A q.length ca] w fun e w'=>e= Z (.int V (bX q))∧Below w.heap.size w w':=by
 have hwH:Hid _:=rm q A ca w hl hq
 clear hl hq
 go_enter Tryz.func55,Tryz.ntmps55
 go_wp2_with fail
 refine cM (show Calls _ _ _ _ _ from hwH.out) ?_
 rintro e w1 ⟨C,c,rfl,-,-,hb⟩
 clear hwH
 go_wp2
 go_ret
 exact ⟨rfl,hb⟩

end Go.Proofs.YtkefkplnamkicabGreatDoor

namespace Go.Proofs.YtkefkplnamkicabGreatDoor

theorem bB (n k:Int):belowB n k=inB n 0 (k-1):=by
 unfold belowB inB
 rw[Bool.eq_iff_iff]
 simp only[Bool.and_eq_true,decide_eq_true_eq]
 omega
theorem zn (n:Int):opB n=inB n 1 3:=by
 unfold opB inB
 rw[Bool.eq_iff_iff]
 simp only[Bool.and_eq_true,decide_eq_true_eq]
 omega
theorem xW {s:Stp} (h:s.k=1):bz s=(decide (s.b=0) && decide (s.c=0) && decide (s.o=0) && decide (s.v=0) && s.l.isEmpty):=by
 have t:av 1 65=true∧av 1 66=false∧av 1 67=false∧av 1 79=false∧av 1 86=false∧av 1 76=false:=by decide
 obtain ⟨t1,t2,t3,t4,t5,t6⟩:=t
 simp[bz,fe,h,List.range_succ,jS,Stp.at,t1,t2,t3,t4,t5,t6,Bool.and_assoc]
theorem xX {s:Stp} (h:s.k=2):bz s=(decide (s.b=0) && s.l.isEmpty):=by
 have t:av 2 65=true∧av 2 66=false∧av 2 67=true∧av 2 79=true∧av 2 86=true∧av 2 76=false:=by decide
 obtain ⟨t1,t2,t3,t4,t5,t6⟩:=t
 simp[bz,fe,h,List.range_succ,jS,Stp.at,t1,t2,t3,t4,t5,t6]
theorem xY {s:Stp} (h:s.k=3):bz s=(decide (s.b=0) && decide (s.c=0) && decide (s.o=0) && decide (s.v=0)):=by
 have t:av 3 65=true∧av 3 66=false∧av 3 67=false∧av 3 79=false∧av 3 86=false∧av 3 76=true:=by decide
 obtain ⟨t1,t2,t3,t4,t5,t6⟩:=t
 simp[bz,fe,h,List.range_succ,jS,Stp.at,t1,t2,t3,t4,t5,t6,Bool.and_assoc]
theorem xZ {s:Stp} (h:s.k=4):bz s=(decide (s.o=0) && s.l.isEmpty):=by
 have t:av 4 65=true∧av 4 66=true∧av 4 67=true∧av 4 79=false∧av 4 86=true∧av 4 76=false:=by decide
 obtain ⟨t1,t2,t3,t4,t5,t6⟩:=t
 simp[bz,fe,h,List.range_succ,jS,Stp.at,t1,t2,t3,t4,t5,t6]
theorem ya {s:Stp} (h:s.k=5):bz s=(decide (s.c=0) && decide (s.o=0) && decide (s.v=0) && s.l.isEmpty):=by
 have t:av 5 65=true∧av 5 66=true∧av 5 67=false∧av 5 79=false∧av 5 86=false∧av 5 76=false:=by decide
 obtain ⟨t1,t2,t3,t4,t5,t6⟩:=t
 simp[bz,fe,h,List.range_succ,jS,Stp.at,t1,t2,t3,t4,t5,t6,Bool.and_assoc]
theorem yc {s:Stp} (h:s.k=6):bz s=(decide (s.c=0) && decide (s.o=0) && decide (s.v=0) && s.l.isEmpty):=by
 have t:av 6 65=true∧av 6 66=true∧av 6 67=false∧av 6 79=false∧av 6 86=false∧av 6 76=false:=by decide
 obtain ⟨t1,t2,t3,t4,t5,t6⟩:=t
 simp[bz,fe,h,List.range_succ,jS,Stp.at,t1,t2,t3,t4,t5,t6,Bool.and_assoc]
theorem yd {s:Stp} (h:s.k=7):bz s=(decide (s.b=0) && decide (s.c=0) && decide (s.o=0) && decide (s.v=0) && s.l.isEmpty):=by
 have t:av 7 65=true∧av 7 66=false∧av 7 67=false∧av 7 79=false∧av 7 86=false∧av 7 76=false:=by decide
 obtain ⟨t1,t2,t3,t4,t5,t6⟩:=t
 simp[bz,fe,h,List.range_succ,jS,Stp.at,t1,t2,t3,t4,t5,t6,Bool.and_assoc]
theorem ye {s:Stp} (h:s.k=8):bz s=(decide (s.b=0) && decide (s.o=0) && decide (s.v=0) && s.l.isEmpty):=by
 have t:av 8 65=true∧av 8 66=false∧av 8 67=true∧av 8 79=false∧av 8 86=false∧av 8 76=false:=by decide
 obtain ⟨t1,t2,t3,t4,t5,t6⟩:=t
 simp[bz,fe,h,List.range_succ,jS,Stp.at,t1,t2,t3,t4,t5,t6,Bool.and_assoc]
theorem yg {s:Stp} (h:s.k=9):bz s=(decide (s.b=0) && decide (s.o=0) && s.l.isEmpty):=by
 have t:av 9 65=true∧av 9 66=false∧av 9 67=true∧av 9 79=false∧av 9 86=true∧av 9 76=false:=by decide
 obtain ⟨t1,t2,t3,t4,t5,t6⟩:=t
 simp[bz,fe,h,List.range_succ,jS,Stp.at,t1,t2,t3,t4,t5,t6,Bool.and_assoc]
theorem zg (x y:Bool) (r:Int):(if x=true then (if y=true then r else 0) else 0)=if (x && y)=true then r else 0:=by cases x<;>cases y<;>simp
theorem xj (x y z:Bool) (r:Int):(if x=true then (if y=true then (if z=true then r else 0) else 0) else 0)=if (x && y && z)=true then r else 0:=by cases x<;>cases y<;>cases z<;>simp
theorem yw (x y z u:Bool) (r:Int):(if x=true then (if y=true then (if z=true then (if u=true then r else 0) else 0) else 0) else 0)=if (x && y && z && u)=true then r else 0:=by cases x<;>cases y<;>cases z<;>cases u<;>simp
theorem xV {s:Stp} (h:¬(1≤s.k∧s.k≤9)) {ah:List Int}:aJ s ah=0:=by
 have h1:¬s.k=1:=by omega
 unfold aJ
 rw[if_neg h1,if_neg (by omega:¬(s.k=4∨s.k=5∨s.k=6))]
 unfold cH
 rw[if_neg (by omega:¬s.k=2),if_neg (by omega:¬s.k=3),if_neg (by omega:¬s.k=7),if_neg (by omega:¬s.k=8),if_neg (by omega:¬s.k=9)]
 simp
theorem zM {s:Stp} (h:s.k=1) (ah:List Int):aJ s ah=if (inB s.a 0 1 && decide (s.b=0) && decide (s.c=0) && decide (s.o=0) && decide (s.v=0) && s.l.isEmpty)=true then 4 else 0:=by
 unfold aJ
 rw[xW h,if_pos h]
 rw[bB,show (2:Int)-1=1 from rfl,zg,show ((decide (s.b=0) && decide (s.c=0) && decide (s.o=0) && decide (s.v=0) && s.l.isEmpty) && inB s.a 0 1)=(inB s.a 0 1 && decide (s.b=0) && decide (s.c=0) && decide (s.o=0) && decide (s.v=0) && s.l.isEmpty) from by ac_rfl]
theorem zN {s:Stp} (h:s.k=2) (ah:List Int):aJ s ah=if (inB s.a 0 ((ah.length:Int)-1) && decide (s.b=0) && s.l.isEmpty && inB s.o 1 3 && inB s.v (-1073741824) 1073741824 && inB s.c 0 ((ah.getD s.a.toNat 0)-1))=true then (ah.getD s.a.toNat 0) else 0:=by
 unfold aJ
 rw[xX h,if_neg (by omega:¬s.k=1),if_neg (by omega:¬(s.k=4∨s.k=5∨s.k=6))]
 unfold cH
 rw[if_pos h]
 rw[bB,bB,zn,show lB s.v=inB s.v (-1073741824) 1073741824 from rfl,xj,show ((decide (s.b=0) && s.l.isEmpty) && inB s.a 0 ((ah.length:Int)-1) && (inB s.c 0 ((ah.getD s.a.toNat 0)-1) && inB s.o 1 3 && inB s.v (-1073741824) 1073741824))=(inB s.a 0 ((ah.length:Int)-1) && decide (s.b=0) && s.l.isEmpty && inB s.o 1 3 && inB s.v (-1073741824) 1073741824 && inB s.c 0 ((ah.getD s.a.toNat 0)-1)) from by ac_rfl]
theorem zO {s:Stp} (h:s.k=3) (ah:List Int):aJ s ah=if (inB s.a 0 ((ah.length:Int)-1) && decide (s.b=0) && inB (s.l.length:Int) 1 8 && s.l.all (fun n=>inB n 0 ((ah.getD s.a.toNat 0)-1)) && decide (s.c=0) && decide (s.o=0) && decide (s.v=0))=true then (s.l.length:Int) else 0:=by
 unfold aJ
 rw[xY h,if_neg (by omega:¬s.k=1),if_neg (by omega:¬(s.k=4∨s.k=5∨s.k=6))]
 unfold cH
 rw[if_neg (by omega:¬s.k=2),if_pos h]
 rw[bB,show (fun n=>belowB n (ah.getD s.a.toNat 0))=(fun n=>inB n 0 (ah.getD s.a.toNat 0-1)) from funext fun n=>bB n _]
 rw[show (if (decide (s.l.length≤8) && s.l.all (fun n=>inB n 0 (ah.getD s.a.toNat 0-1)))=true then (s.l.length:Int) else 0)=(if (inB (s.l.length:Int) 1 8 && s.l.all (fun n=>inB n 0 (ah.getD s.a.toNat 0-1)))=true then (s.l.length:Int) else 0) from ?_]
 ·rw[xj,show ((decide (s.b=0) && decide (s.c=0) && decide (s.o=0) && decide (s.v=0)) && inB s.a 0 ((ah.length:Int)-1) && (inB (s.l.length:Int) 1 8 && s.l.all (fun n=>inB n 0 ((ah.getD s.a.toNat 0)-1))))=(inB s.a 0 ((ah.length:Int)-1) && decide (s.b=0) && inB (s.l.length:Int) 1 8 && s.l.all (fun n=>inB n 0 ((ah.getD s.a.toNat 0)-1)) && decide (s.c=0) && decide (s.o=0) && decide (s.v=0)) from by ac_rfl]
 ·by_cases hl:s.l.length=0
  ·rw[hl];simp
  ·rw[show decide (s.l.length≤8)=inB (s.l.length:Int) 1 8 from ?_]
   unfold inB
   rw[Bool.eq_iff_iff]
   simp only[Bool.and_eq_true,decide_eq_true_eq]
   omega
theorem zP {s:Stp} (h:s.k=4) (ah:List Int):aJ s ah=if (inB s.a 0 ((ah.length:Int)-1) && inB s.b 0 ((ah.length:Int)-1) && s.l.isEmpty && decide ((ah.getD s.a.toNat 0)+(ah.getD s.b.toNat 0)≤8) && inB s.v 0 ((ah.getD s.b.toNat 0)-1) && inB s.c 0 ((ah.getD s.a.toNat 0)-1) && decide (s.o=0))=true then (ah.getD s.a.toNat 0)+(ah.getD s.b.toNat 0) else 0:=by
 unfold aJ
 rw[xZ h,if_neg (by omega:¬s.k=1),if_pos (by omega:s.k=4∨s.k=5∨s.k=6)]
 unfold dt
 rw[if_pos h]
 rw[bB,bB,bB,bB,yw,show ((decide (s.o=0) && s.l.isEmpty) && inB s.a 0 ((ah.length:Int)-1) && inB s.b 0 ((ah.length:Int)-1) && (inB s.c 0 ((ah.getD s.a.toNat 0)-1) && inB s.v 0 ((ah.getD s.b.toNat 0)-1) && decide ((ah.getD s.a.toNat 0)+(ah.getD s.b.toNat 0)≤8)))=(inB s.a 0 ((ah.length:Int)-1) && inB s.b 0 ((ah.length:Int)-1) && s.l.isEmpty && decide ((ah.getD s.a.toNat 0)+(ah.getD s.b.toNat 0)≤8) && inB s.v 0 ((ah.getD s.b.toNat 0)-1) && inB s.c 0 ((ah.getD s.a.toNat 0)-1) && decide (s.o=0)) from by ac_rfl]
theorem zQ {s:Stp} (h:s.k=5) (ah:List Int):aJ s ah=if (inB s.a 0 ((ah.length:Int)-1) && inB s.b 0 ((ah.length:Int)-1) && s.l.isEmpty && decide ((ah.getD s.a.toNat 0)=(ah.getD s.b.toNat 0)) && decide (s.c=0) && decide (s.o=0) && decide (s.v=0))=true then (ah.getD s.a.toNat 0) else 0:=by
 unfold aJ
 rw[ya h,if_neg (by omega:¬s.k=1),if_pos (by omega:s.k=4∨s.k=5∨s.k=6)]
 unfold dt
 rw[if_neg (by omega:¬s.k=4),if_pos h]
 rw[show (if (ah.getD s.a.toNat 0)=(ah.getD s.b.toNat 0) then (ah.getD s.a.toNat 0) else 0)=(if decide ((ah.getD s.a.toNat 0)=(ah.getD s.b.toNat 0))=true then (ah.getD s.a.toNat 0) else 0) from by simp only[decide_eq_true_eq],bB,bB,yw,show ((decide (s.c=0) && decide (s.o=0) && decide (s.v=0) && s.l.isEmpty) && inB s.a 0 ((ah.length:Int)-1) && inB s.b 0 ((ah.length:Int)-1) && decide ((ah.getD s.a.toNat 0)=(ah.getD s.b.toNat 0)))=(inB s.a 0 ((ah.length:Int)-1) && inB s.b 0 ((ah.length:Int)-1) && s.l.isEmpty && decide ((ah.getD s.a.toNat 0)=(ah.getD s.b.toNat 0)) && decide (s.c=0) && decide (s.o=0) && decide (s.v=0)) from by ac_rfl]
theorem zR {s:Stp} (h:s.k=6) (ah:List Int):aJ s ah=if (inB s.a 0 ((ah.length:Int)-1) && inB s.b 0 ((ah.length:Int)-1) && s.l.isEmpty && decide ((ah.getD s.a.toNat 0)=(ah.getD s.b.toNat 0)) && decide (s.c=0) && decide (s.o=0) && decide (s.v=0))=true then (ah.getD s.a.toNat 0) else 0:=by
 unfold aJ
 rw[yc h,if_neg (by omega:¬s.k=1),if_pos (by omega:s.k=4∨s.k=5∨s.k=6)]
 unfold dt
 rw[if_neg (by omega:¬s.k=4),if_neg (by omega:¬s.k=5),if_pos h]
 rw[show (if (ah.getD s.a.toNat 0)=(ah.getD s.b.toNat 0) then (ah.getD s.a.toNat 0) else 0)=(if decide ((ah.getD s.a.toNat 0)=(ah.getD s.b.toNat 0))=true then (ah.getD s.a.toNat 0) else 0) from by simp only[decide_eq_true_eq],bB,bB,yw,show ((decide (s.c=0) && decide (s.o=0) && decide (s.v=0) && s.l.isEmpty) && inB s.a 0 ((ah.length:Int)-1) && inB s.b 0 ((ah.length:Int)-1) && decide ((ah.getD s.a.toNat 0)=(ah.getD s.b.toNat 0)))=(inB s.a 0 ((ah.length:Int)-1) && inB s.b 0 ((ah.length:Int)-1) && s.l.isEmpty && decide ((ah.getD s.a.toNat 0)=(ah.getD s.b.toNat 0)) && decide (s.c=0) && decide (s.o=0) && decide (s.v=0)) from by ac_rfl]
theorem zT {s:Stp} (h:s.k=7) (ah:List Int):aJ s ah=if (inB s.a 0 ((ah.length:Int)-1) && decide (s.b=0) && s.l.isEmpty && decide (s.c=0) && decide (s.o=0) && decide (s.v=0))=true then (ah.getD s.a.toNat 0) else 0:=by
 unfold aJ
 rw[yd h,if_neg (by omega:¬s.k=1),if_neg (by omega:¬(s.k=4∨s.k=5∨s.k=6))]
 unfold cH
 rw[if_neg (by omega:¬s.k=2),if_neg (by omega:¬s.k=3),if_pos h]
 rw[bB,zg,show ((decide (s.b=0) && decide (s.c=0) && decide (s.o=0) && decide (s.v=0) && s.l.isEmpty) && inB s.a 0 ((ah.length:Int)-1))=(inB s.a 0 ((ah.length:Int)-1) && decide (s.b=0) && s.l.isEmpty && decide (s.c=0) && decide (s.o=0) && decide (s.v=0)) from by ac_rfl]
theorem zU {s:Stp} (h:s.k=8) (ah:List Int):aJ s ah=if (inB s.a 0 ((ah.length:Int)-1) && decide (s.b=0) && s.l.isEmpty && inB s.c 0 ((ah.getD s.a.toNat 0)-1) && decide (s.o=0) && decide (s.v=0))=true then 2 else 0:=by
 unfold aJ
 rw[ye h,if_neg (by omega:¬s.k=1),if_neg (by omega:¬(s.k=4∨s.k=5∨s.k=6))]
 unfold cH
 rw[if_neg (by omega:¬s.k=2),if_neg (by omega:¬s.k=3),if_neg (by omega:¬s.k=7),if_pos h]
 rw[bB,bB,xj,show ((decide (s.b=0) && decide (s.o=0) && decide (s.v=0) && s.l.isEmpty) && inB s.a 0 ((ah.length:Int)-1) && inB s.c 0 ((ah.getD s.a.toNat 0)-1))=(inB s.a 0 ((ah.length:Int)-1) && decide (s.b=0) && s.l.isEmpty && inB s.c 0 ((ah.getD s.a.toNat 0)-1) && decide (s.o=0) && decide (s.v=0)) from by ac_rfl]
theorem zV {s:Stp} (h:s.k=9) (ah:List Int):aJ s ah=if (inB s.a 0 ((ah.length:Int)-1) && decide (s.b=0) && s.l.isEmpty && inB s.v 0 ((ah.getD s.a.toNat 0)-1) && inB s.c 0 ((ah.getD s.a.toNat 0)-1) && decide (s.o=0))=true then 2 else 0:=by
 unfold aJ
 rw[yg h,if_neg (by omega:¬s.k=1),if_neg (by omega:¬(s.k=4∨s.k=5∨s.k=6))]
 unfold cH
 rw[if_neg (by omega:¬s.k=2),if_neg (by omega:¬s.k=3),if_neg (by omega:¬s.k=7),if_neg (by omega:¬s.k=8),if_pos h]
 rw[bB,bB,bB,xj,show ((decide (s.b=0) && decide (s.o=0) && s.l.isEmpty) && inB s.a 0 ((ah.length:Int)-1) && (inB s.c 0 ((ah.getD s.a.toNat 0)-1) && inB s.v 0 ((ah.getD s.a.toNat 0)-1)))=(inB s.a 0 ((ah.length:Int)-1) && decide (s.b=0) && s.l.isEmpty && inB s.v 0 ((ah.getD s.a.toNat 0)-1) && inB s.c 0 ((ah.getD s.a.toNat 0)-1) && decide (s.o=0)) from by ac_rfl]

end Go.Proofs.YtkefkplnamkicabGreatDoor

namespace Go.Proofs.YtkefkplnamkicabGreatDoor

def fa:List (Int×List Zit)→Int→Zit→List (Int×List Zit)
 | [],n,x=>[(n,[x])]
 | g::t,n,x=>if g.1=n then (g.1,g.2++[x])::t else g::fa t n x
def me (l:List Zit) (c:Int):List (Int×List Zit):=l.foldl (fun g x=>fa g (atI x.1 c) x) []
def bg:List Zit→Int
 | []=>0
 | x::t=>x.2+bg t
def cg (v:Int):List Zit→Int
 | []=>0
 | x::t=>atI x.1 v*x.2+cg v t
def kP (g:Int×List Zit):Option Zit:=if bg g.2=0 then none else some ([g.1,bg g.2],1)
def lN (v:Int) (g:Int×List Zit):Option Zit:=if bg g.2=0 then none else some ([g.1,cg v g.2],1)
def kR (l:List Zit) (c:Int):List Zit:=(me l c).filterMap kP
def vS (l:List Zit) (c v:Int):List Zit:=(me l c).filterMap (lN v)
def e8 (s:Stp) (a:List Zit):List Zit:=if s.k=2 then di a s.c s.o s.v else if s.k=3 then fI a s.l else if s.k=7 then fv a else if s.k=8 then kR a s.c else vS a s.c s.v
def dq (a b:List Zit) (c v:Int):List Zit:=a.flatMap fun x=>(b.filter fun y=>decide (atI y.1 v=atI x.1 c)).map fun y=>(x.1++y.1,x.2*y.2)
def jR (a b:List Zit) (c v:Int):Int:=if (dq a b c v).all (fun x=>okW x.2)=true then bZ ((dq a b c v).take 401) else 5
def lI (a b:List Zit) (c v:Int):List Zit:=if jR a b c v=0 then dh ((dq a b c v).take 401) else []
def f9 (b:List Zit):List Zit:=b.map fun x=>(x.1,-x.2)
def mf (a b:List Zit):Int:=if aw b=0 then aR a (f9 b) else aw b
def qG (a b:List Zit):List Zit:=if mf a b=0 then aP a (f9 b) else []
def od (s:Stp) (a b:List Zit):List Zit:=if s.a=0 then a else b
def bI (S:List (List Zit)) (i:Int):List Zit:=S.getD i.toNat []
def aV (s:Stp) (a b:List Zit) (S:List (List Zit)):Int:=if s.k=1 then bZ (od s a b) else if s.k=4 then jR (bI S s.a) (bI S s.b) s.c s.v else if s.k=5 then aR (bI S s.a) (bI S s.b) else if s.k=6 then mf (bI S s.a) (bI S s.b) else bZ (e8 s (bI S s.a))
def aY (s:Stp) (a b:List Zit) (S:List (List Zit)):List Zit:=if s.k=1 then dh (od s a b) else if s.k=4 then lI (bI S s.a) (bI S s.b) s.c s.v else if s.k=5 then aP (bI S s.a) (bI S s.b) else if s.k=6 then qG (bI S s.a) (bI S s.b) else dh (e8 s (bI S s.a))
def iF (a b:List Zit):List Stp→List (List Zit)→Int
 | [],_=>0
 | s::t,S=>if aV s a b S=0 then iF a b t (S++[aY s a b S]) else aV s a b S
def ku (a b:List Zit):List Stp→List (List Zit)→List (List Zit)
 | [],S=>S
 | s::t,S=>if aV s a b S=0 then ku a b t (S++[aY s a b S]) else []
def cV (n:Int) (l:List Zit):Prop:=∀x∈l,(x.1.length:Int)=n
def lW (q:List Stp) (a b:List Zit):Int:=if bX q=0 then (if aw a=0 then (if aw b=0 then (if (a++b).all (fun x=>decide (x.1.length=4))=true then 0 else 5) else aw b) else aw a) else bX q
def cL (q:List Stp) (a b:List Zit):Int:=if lW q a b=0 then iF a b q [] else lW q a b
def iS (q:List Stp) (a b:List Zit):List (List Zit):=if cL q a b=0 then ku a b q [] else []

theorem jP {l:List Zit} {n:Int} (h:cV n l):cV n (dh l):=fun x hx=>by
 unfold dh at hx
 by_cases e:bZ l=0
 ·rw[if_pos e] at hx
  obtain ⟨y,hy,e2⟩:=(bi l).row hx
  rw[←e2];exact h y hy
 ·rw[if_neg e] at hx;cases hx
theorem om {a b:List Zit} {n:Int} (h:cV n a) (k:cV n b):cV n (aP a b):=fun x hx=>by
 unfold aP at hx
 by_cases e:aR a b=0
 ·rw[if_pos e] at hx
  obtain ⟨y,hy,e2⟩:=(bi _).row hx
  rw[←e2]
  rcases List.mem_append.1 hy with m|m
  ·exact h y m
  ·exact k y m
 ·rw[if_neg e] at hx;cases hx
theorem iP {l:List Zit} (h:bZ l=0):aw (dh l)=0:=by rw[(rN h).1];exact (rN h).2
structure Ahd (S:List (List Zit)) (ah:List Int):Prop where
 len:S.length=ah.length
 ok:∀i,i<S.length→aw (S.getD i [])=0∧cV (ah.getD i 0) (S.getD i [])
theorem Ahd.nil:Ahd [] []:=⟨rfl,fun i h=>absurd h (by simp)⟩
theorem Ahd.snoc {S:List (List Zit)} {ah:List Int} (h:Ahd S ah) {T:List Zit} {n:Int} (h1:aw T=0) (h2:cV n T):Ahd (S++[T]) (ah++[n]):=by
 refine ⟨by simp[h.len],fun i hi=> ?_⟩
 by_cases e:i<S.length
 ·have e2:i<ah.length:=by rw[←h.len];exact e
  rw[List.getD_eq_getElem?_getD,List.getD_eq_getElem?_getD,List.getElem?_append_left e,List.getElem?_append_left e2,←List.getD_eq_getElem?_getD,←List.getD_eq_getElem?_getD]
  exact h.ok i e
 ·have e1:i=S.length:=by simp at hi;omega
  have e2:i=ah.length:=by rw[←h.len];exact e1
  rw[List.getD_eq_getElem?_getD,List.getD_eq_getElem?_getD,List.getElem?_append_right (by omega),List.getElem?_append_right (by omega),e1,←h.len]
  simp only[Nat.sub_self,z0',Option.getD_some]
  exact ⟨h1,h2⟩
theorem Ahd.at {S:List (List Zit)} {ah:List Int} (h:Ahd S ah) {i:Int} (hi:inB i 0 ((ah.length:Int)-1)=true):0≤i∧i.toNat<S.length∧aw (bI S i)=0∧cV (ah.getD i.toNat 0) (bI S i):=by
 have hi':0≤i∧i≤(ah.length:Int)-1:=by simpa[inB] using hi
 have e:i.toNat<S.length:=by rw[h.len];omega
 exact ⟨hi'.1,e,h.ok _ e⟩
theorem qe (l:List Zit) (c:Int):cV 2 (kR l c):=fun x hx=>by
 obtain ⟨g,_,h⟩:=List.mem_filterMap.1 hx
 unfold kP at h
 by_cases e:bg g.2=0
 ·rw[if_pos e] at h;cases h
 ·rw[if_neg e] at h;cases h;rfl
theorem vV (l:List Zit) (c v:Int):cV 2 (vS l c v):=fun x hx=>by
 obtain ⟨g,_,h⟩:=List.mem_filterMap.1 hx
 unfold lN at h
 by_cases e:bg g.2=0
 ·rw[if_pos e] at h;cases h
 ·rw[if_neg e] at h;cases h;rfl
theorem rl {l:List Zit} {n:Int} (h:cV n l) (c o v:Int):cV n (di l c o v):=fun x hx=>h x (List.mem_filter.1 hx).1
theorem tp (l:List Zit) (cols:List Int):cV cols.length (fI l cols):=fun x hx=>by
 obtain ⟨y,_,rfl⟩:=List.mem_map.1 hx
 simp[ec]
theorem sv {l:List Zit} {n:Int} (h:cV n l):cV n (fv l):=fun x hx=>by
 obtain ⟨y,hy,rfl⟩:=List.mem_map.1 hx
 exact h y (List.mem_filter.1 hy).1
theorem ti {a b:List Zit} {n m:Int} (h:cV n a) (k:cV m b) (c v:Int):cV (n+m) (dq a b c v):=fun x hx=>by
 obtain ⟨y,hy,hx⟩:=List.mem_flatMap.1 hx
 obtain ⟨z,hz,rfl⟩:=List.mem_map.1 hx
 have h1:=h y hy
 have h2:=k z (List.mem_filter.1 hz).1
 simp only[List.length_append]
 omega
theorem vm {l:List Zit} {n:Int} (h:cV n l):cV n (l.map fun x=>(x.1,-x.2)):=fun x hx=>by
 obtain ⟨y,hy,rfl⟩:=List.mem_map.1 hx
 exact h y hy
theorem cV.take {l:List Zit} {n:Int} (h:cV n l) (k:Nat):cV n (l.take k):=fun x hx=>h x (List.mem_of_mem_take hx)
theorem kinds {s:Stp} {ah:List Int} (h:aJ s ah≠0):s.k=1∨s.k=2∨s.k=3∨s.k=4∨s.k=5∨s.k=6∨s.k=7∨s.k=8∨s.k=9:=by
 by_cases h1:s.k=1 ;· exact oL h1
 by_cases h2:s.k=2 ;· simp[h2]
 by_cases h3:s.k=3 ;· simp[h3]
 by_cases h4:s.k=4 ;· simp[h4]
 by_cases h5:s.k=5 ;· simp[h5]
 by_cases h6:s.k=6 ;· simp[h6]
 by_cases h7:s.k=7 ;· simp[h7]
 by_cases h8:s.k=8 ;· simp[h8]
 by_cases h9:s.k=9 ;· simp[h9]
 exfalso
 apply h
 have h456:¬(s.k=4∨s.k=5∨s.k=6):=by omega
 unfold aJ cH
 simp only[if_neg h1,if_neg h2,if_neg h3,if_neg h7,if_neg h8,if_neg h9,if_neg h456,ite_self]
theorem dj {p:Bool} {n:Int} (h:(if p=true then n else 0)≠0):p=true∧(if p=true then n else 0)=n:=by
 cases p with
 | true=>exact ⟨rfl,rfl⟩
 | false=>exact absurd rfl h
theorem zp {s:Stp} {ah:List Int} (h:aJ s ah≠0) (k:s.k=1):(s.a=0∨s.a=1)∧aJ s ah=4:=by
 rw[zM k] at h ⊢
 obtain ⟨h1,h2⟩:=dj h
 simp only[inB,Bool.and_eq_true,decide_eq_true_eq] at h1
 exact ⟨by omega,h2⟩
theorem yI {s:Stp} {ah:List Int} (h:aJ s ah≠0) (k:s.k=2):inB s.a 0 ((ah.length:Int)-1)=true∧inB s.o 1 3=true∧inB s.c 0 ((ah.getD s.a.toNat 0)-1)=true∧aJ s ah=ah.getD s.a.toNat 0:=by
 rw[zN k] at h ⊢
 obtain ⟨h1,h2⟩:=dj h
 simp only[Bool.and_eq_true] at h1
 exact ⟨h1.1.1.1.1.1,h1.1.1.2,h1.2,h2⟩
theorem yJ {s:Stp} {ah:List Int} (h:aJ s ah≠0) (k:s.k=3):inB s.a 0 ((ah.length:Int)-1)=true∧s.l.length≤8∧(∀n∈s.l,inB n 0 ((ah.getD s.a.toNat 0)-1)=true)∧aJ s ah=s.l.length:=by
 rw[zO k] at h ⊢
 obtain ⟨h1,h2⟩:=dj h
 simp only[Bool.and_eq_true,List.all_eq_true] at h1
 refine ⟨h1.1.1.1.1.1.1,?_,h1.1.1.1.2,h2⟩
 have:=h1.1.1.1.1.2
 simp only[inB,Bool.and_eq_true,decide_eq_true_eq] at this
 omega
theorem yK {s:Stp} {ah:List Int} (h:aJ s ah≠0) (k:s.k=4):inB s.a 0 ((ah.length:Int)-1)=true∧inB s.b 0 ((ah.length:Int)-1)=true∧inB s.v 0 ((ah.getD s.b.toNat 0)-1)=true∧inB s.c 0 ((ah.getD s.a.toNat 0)-1)=true∧aJ s ah=ah.getD s.a.toNat 0+ah.getD s.b.toNat 0:=by
 rw[zP k] at h ⊢
 obtain ⟨h1,h2⟩:=dj h
 simp only[Bool.and_eq_true] at h1
 exact ⟨h1.1.1.1.1.1.1,h1.1.1.1.1.1.2,h1.1.1.2,h1.1.2,h2⟩
theorem zq {s:Stp} {ah:List Int} (h:aJ s ah≠0) (k:s.k=5):inB s.a 0 ((ah.length:Int)-1)=true∧inB s.b 0 ((ah.length:Int)-1)=true∧ah.getD s.a.toNat 0=ah.getD s.b.toNat 0∧aJ s ah=ah.getD s.a.toNat 0:=by
 rw[zQ k] at h ⊢
 obtain ⟨h1,h2⟩:=dj h
 simp only[Bool.and_eq_true,decide_eq_true_eq] at h1
 exact ⟨h1.1.1.1.1.1.1,h1.1.1.1.1.1.2,h1.1.1.1.2,h2⟩
theorem zr {s:Stp} {ah:List Int} (h:aJ s ah≠0) (k:s.k=6):inB s.a 0 ((ah.length:Int)-1)=true∧inB s.b 0 ((ah.length:Int)-1)=true∧ah.getD s.a.toNat 0=ah.getD s.b.toNat 0∧aJ s ah=ah.getD s.a.toNat 0:=by
 rw[zR k] at h ⊢
 obtain ⟨h1,h2⟩:=dj h
 simp only[Bool.and_eq_true,decide_eq_true_eq] at h1
 exact ⟨h1.1.1.1.1.1.1,h1.1.1.1.1.1.2,h1.1.1.1.2,h2⟩
theorem zs {s:Stp} {ah:List Int} (h:aJ s ah≠0) (k:s.k=7):inB s.a 0 ((ah.length:Int)-1)=true∧aJ s ah=ah.getD s.a.toNat 0:=by
 rw[zT k] at h ⊢
 obtain ⟨h1,h2⟩:=dj h
 simp only[Bool.and_eq_true] at h1
 exact ⟨h1.1.1.1.1.1,h2⟩
theorem yL {s:Stp} {ah:List Int} (h:aJ s ah≠0) (k:s.k=8):inB s.a 0 ((ah.length:Int)-1)=true∧inB s.c 0 ((ah.getD s.a.toNat 0)-1)=true∧aJ s ah=2:=by
 rw[zU k] at h ⊢
 obtain ⟨h1,h2⟩:=dj h
 simp only[Bool.and_eq_true] at h1
 exact ⟨h1.1.1.1.1.1,h1.1.1.2,h2⟩
theorem yM {s:Stp} {ah:List Int} (h:aJ s ah≠0) (k:s.k=9):inB s.a 0 ((ah.length:Int)-1)=true∧inB s.v 0 ((ah.getD s.a.toNat 0)-1)=true∧inB s.c 0 ((ah.getD s.a.toNat 0)-1)=true∧aJ s ah=2:=by
 rw[zV k] at h ⊢
 obtain ⟨h1,h2⟩:=dj h
 simp only[Bool.and_eq_true] at h1
 exact ⟨h1.1.1.1.1.1,h1.1.1.2,h1.1.2,h2⟩

theorem lO {s:Stp} {ah:List Int} {S:List (List Zit)} {a b:List Zit} (h:aJ s ah≠0) (hS:Ahd S ah) (ha:cV 4 a) (hb:cV 4 b) (e:aV s a b S=0):aw (aY s a b S)=0∧cV (aJ s ah) (aY s a b S):=by
 have hone:s.k≠1→s.k≠4→s.k≠5→s.k≠6→(cV (aJ s ah) (e8 s (bI S s.a)))→aw (aY s a b S)=0∧cV (aJ s ah) (aY s a b S):=fun h1 h4 h5 h6 hw=>by
  unfold aV at e
  unfold aY
  rw[if_neg h1,if_neg h4,if_neg h5,if_neg h6] at e ⊢
  exact ⟨iP e,jP hw⟩
 rcases kinds h with k|k|k|k|k|k|k|k|k
 ·obtain ⟨hp,hw⟩:=zp h k
  unfold aV at e
  unfold aY
  rw[if_pos k] at e ⊢
  rw[hw]
  refine ⟨iP e,jP ?_⟩
  unfold od
  split
  ·exact ha
  ·exact hb
 ·obtain ⟨h1,h2,h3,h4⟩:=yI h k
  refine hone (by omega) (by omega) (by omega) (by omega) ?_
  unfold e8
  rw[if_pos k,h4]
  exact rl (hS.at h1).2.2.2 _ _ _
 ·obtain ⟨h1,h2,h3,h4⟩:=yJ h k
  refine hone (by omega) (by omega) (by omega) (by omega) ?_
  unfold e8
  rw[if_neg (by omega),if_pos k,h4]
  exact tp _ _
 ·obtain ⟨h1,h2,h3,h4,h5⟩:=yK h k
  unfold aV at e
  unfold aY
  rw[if_neg (by omega),if_pos k] at e ⊢
  unfold lI
  rw[if_pos e]
  unfold jR at e
  split at e
  ·rw[h5]
   exact ⟨iP e,jP ((ti (hS.at h1).2.2.2 (hS.at h2).2.2.2 _ _).take _)⟩
  ·cases e
 ·obtain ⟨h1,h2,h3,h4⟩:=zq h k
  unfold aV at e
  unfold aY
  rw[if_neg (by omega),if_neg (by omega),if_pos k] at e ⊢
  rw[h4]
  exact ⟨(mv e).2.2,om (hS.at h1).2.2.2 (h3▸(hS.at h2).2.2.2)⟩
 ·obtain ⟨h1,h2,h3,h4⟩:=zr h k
  unfold aV at e
  unfold aY
  rw[if_neg (by omega),if_neg (by omega),if_neg (by omega),if_pos k] at e ⊢
  unfold qG
  rw[if_pos e]
  unfold mf at e
  rw[if_pos (hS.at h2).2.2.1] at e
  rw[h4]
  exact ⟨(mv e).2.2,om (hS.at h1).2.2.2 (vm (h3▸(hS.at h2).2.2.2))⟩
 ·obtain ⟨h1,h4⟩:=zs h k
  refine hone (by omega) (by omega) (by omega) (by omega) ?_
  unfold e8
  rw[if_neg (by omega),if_neg (by omega),if_pos k,h4]
  exact sv (hS.at h1).2.2.2
 ·obtain ⟨h1,h2,h4⟩:=yL h k
  refine hone (by omega) (by omega) (by omega) (by omega) ?_
  unfold e8
  rw[if_neg (by omega),if_neg (by omega),if_neg (by omega),if_pos k,h4]
  exact qe _ _
 ·obtain ⟨h1,h2,h3,h4⟩:=yM h k
  refine hone (by omega) (by omega) (by omega) (by omega) ?_
  unfold e8
  rw[if_neg (by omega),if_neg (by omega),if_neg (by omega),if_neg (by omega),h4]
  exact vV _ _ _
end Go.Proofs.YtkefkplnamkicabGreatDoor

namespace Go.Proofs.YtkefkplnamkicabGreatDoor
open Go.RowKit Go.Sort

theorem uT (n o v:Int) (w:World) (ho:inB o 1 3=true):Calls J 245 #[.int V n,.int V o,.int V v] w fun e w'=>e= Z (.bool (toB n o v))∧w'=w:=by
 have ho':o=1∨o=2∨o=3:=by
  simp only[inB,Bool.and_eq_true,decide_eq_true_eq] at ho
  omega
 clear ho
 rcases ho' with rfl|rfl|rfl
 ·have e:toB n 1 v=decide (n<v):=rfl
  rw[e];clear e
  go_enter Tryz.func245,Tryz.ntmps245
  go_wp2
  go_ret
  exact ⟨rfl,rfl⟩
 ·have e:toB n 2 v=decide (n=v):=rfl
  rw[e];clear e
  go_enter Tryz.func245,Tryz.ntmps245
  go_wp2
  go_ret
  exact ⟨rfl,rfl⟩
 ·have e:toB n 3 v=decide (v<n):=rfl
  rw[e];clear e
  go_enter Tryz.func245,Tryz.ntmps245
  go_wp2
  go_ret
  exact ⟨rfl,rfl⟩
theorem mo (a b:List Zit):bg (a++b)=bg a+bg b:=by
 induction a with
 | nil=>simp[bg]
 | cons x a ih=>simp only[List.cons_append,bg,ih];omega
theorem oe {l:List Zit} (h:∀x∈l,okW x.2=true): -((l.length:Int)*1048576)≤bg l∧bg l≤(l.length:Int)*1048576:=by
 induction l with
 | nil=>simp[bg]
 | cons x l ih =>
  have h1:=ih fun y hy=>h y (mC _ hy)
  have h2:=h x (mS ..)
  simp only[okW,inB,Bool.and_eq_true,decide_eq_true_eq] at h2
  simp only[bg,List.length_cons]
  omega
theorem pL {l:List Itm} {k:Nat} (h:k<l.length):bg ((l.take (k+1)).map Itm.z)=bg ((l.take k).map Itm.z)+l[k].n:=by
 rw[List.take_succ_eq_append_getElem h,List.map_append,mo]
 simp[bg,Itm.z]

theorem nE (l:List Itm) (A:Option Addr) (cap:Nat) (w:World) (hl:l.length≤400) (hw:∀x∈l,okW x.n=true) (hr:Items w A l) :
  Calls J 246 #[I A l.length cap] w fun e w'=>e= Z (.int V (bg (l.map Itm.z)))∧Gr w w':=by
 have hrH:Hid (Items w A l):=hr
 have hwH:Hid (∀x∈l,okW x.n=true):=hw
 clear hr hw
 go_enter Tryz.func246,Tryz.ntmps246
 go_wp2
 go_loopw [3,8] (fun v i wr=>∃k:Nat,k≤l.length∧i= .int V k∧v= .int V (bg ((l.take k).map Itm.z))∧Hid (Gr w wr)) (fun _ i _=>l.length-(intOf i).toNat)
 case atStart=>exact ⟨0,nZ _,rfl,rfl,gR _⟩
 case round =>
  obtain ⟨k,hk,rfl,rfl,hg⟩:=hrel
  by_cases hlt:k<l.length
  ·have hltz:(k:Int)<(l.length:Int):=by omega
   have hI:Hid (Items wr A l):=hrH.out.gr hg.out
   obtain ⟨bb,off,rfl,hb,hcs⟩:=hI.out.at hlt
   obtain ⟨x,hx⟩:∃x,l[k]=x:=⟨_,rfl⟩
   obtain ⟨e0,e1⟩:=hcs k hlt
   rw[hx] at e0 e1
   have hst:Hid (bg ((l.take (k+1)).map Itm.z)=bg ((l.take k).map Itm.z)+x.n):=by show _=_;rw[pL hlt,hx]
   have hx2:=hwH.out x (by rw[←hx];exact gM hlt)
   have hbd:=oe (l:=(l.take k).map Itm.z) (fun y hy=>by
    obtain ⟨z,hz,rfl⟩:=List.mem_map.1 hy
    exact hwH.out z (List.mem_of_mem_take hz))
   have hlen:((l.take k).map Itm.z).length≤400:=by simp;omega
   obtain ⟨T,hT⟩:∃T,bg ((l.take k).map Itm.z)=T:=⟨_,rfl⟩
   rw[hT] at hst hbd ⊢
   have hwr:IntKind.i64.wrap (T+x.n)=T+x.n:=by
    simp only[okW,inB,Bool.and_eq_true,decide_eq_true_eq] at hx2
    rw[IntKind.wrap_i64];omega
   clear hcs hx hx2 hbd hlen hT
   have hgX:Hid (Gr w (wr.alloc (O #[I x.p x.r.length x.c,.int V x.n] 58))):=hg.out.alloc _
   go_wp2
   go_roundw
   case rel=>exact ⟨k+1,by omega,by go_num,by rw[hst.out],hgX.out⟩
   case measure=>simp[intOf];omega
  ·have hltz:¬(k:Int)<(l.length:Int):=by omega
   have hke:l.take k=l:=List.take_of_length_le (by omega)
   rw[hke]
   clear hke
   go_wp2
   go_ret
   exact ⟨rfl,hg.out⟩


theorem rk {l:List Itm} {k:Nat} (h:k<l.length) (c o v:Int):di ((l.take (k+1)).map Itm.z) c o v=di ((l.take k).map Itm.z) c o v++(if toB (atI l[k].r c) o v=true then [l[k].z] else []):=by
 rw[List.take_succ_eq_append_getElem h,List.map_append]
 unfold di
 rw[List.filter_append]
 congr 1
 by_cases e:toB (atI l[k].r c) o v=true
 ·rw[if_pos e];simp[Itm.z,e]
 ·rw[if_neg e];simp[Itm.z,e]
theorem gP {w:World} {p:Option Addr} {r:List Int} {c:Int} (h:ar w p r) (hc:inB c 0 ((r.length:Int)-1)=true):∃(b off:Nat) (n:Nat),p=some ⟨b,off,none⟩∧b<w.heap.size∧c=n∧n<r.length∧w.cell? ⟨b,off+n,none⟩=some (.int V (atI r c)):=by
 simp only[inB,Bool.and_eq_true,decide_eq_true_eq] at hc
 have hn:c.toNat<r.length:=by omega
 obtain ⟨b,off,hp,hb,hcs⟩:=h.at hn
 refine ⟨b,off,c.toNat,hp,hb,by omega,hn,?_⟩
 have:=hcs c.toNat hn 0 (by omega)
 simp only[Nat.mul_one,Nat.add_zero] at this
 rw[this]
 unfold atI
 rw[List.getD_eq_getElem?_getD,List.getElem?_eq_getElem hn]
 rfl

theorem tN (l:List Itm) (A:Option Addr) (cap:Nat) (c o v:Int) (w:World) (hl:l.length≤400) (hr:Items w A l) (hc:∀x∈l,inB c 0 ((x.r.length:Int)-1)=true) (ho:inB o 1 3=true) :
  Calls J 230 #[I A l.length cap,.int V c,.int V o,.int V v] w fun e w'=>∃(L:List Itm) (C:Option Addr) (k:Nat),e= Z (I C L.length k)∧L.map Itm.z=di (l.map Itm.z) c o v∧Lv w' C k L∧L.length≤400∧Below w.heap.size w w':=by
 have hrH:Hid (Items w A l):=hr
 have hcH:Hid (∀x∈l,inB c 0 ((x.r.length:Int)-1)=true):=hc
 have hoH:Hid (inB o 1 3=true):=ho
 clear hr hc ho
 go_enter Tryz.func230,Tryz.ntmps230
 go_wp2
 go_loopw [9,14] (fun u i wr=>∃(k:Nat) (L:List Itm),k≤l.length∧i= .int V k∧Hid (L.length≤k∧L.map Itm.z=di ((l.take k).map Itm.z) c o v∧(∀x∈L,x∈l)∧ai aM 2 58 wr w.heap.size u L∧Below w.heap.size w wr)) (fun _ i _=>l.length-(intOf i).toNat)
 case atStart=>exact ⟨0,[],nZ _,rfl,nR _,rfl,fun x hx=>(by cases hx),ai.nil _ _ _ _ _,bR _ _⟩
 case round =>
  obtain ⟨k,L,hk,rfl,hR⟩:=hrel
  by_cases hlt:k<l.length
  ·have hltz:(k:Int)<(l.length:Int):=by omega
   have hI:Hid (Items wr A l):=hrH.out.below hR.out.2.2.2.2
   obtain ⟨bb,off,rfl,hb,hcs⟩:=hI.out.at hlt
   obtain ⟨x,hx⟩:∃x,l[k]=x:=⟨_,rfl⟩
   obtain ⟨e0,e1⟩:=hcs k hlt
   rw[hx] at e0 e1
   have hxm:x∈l:=by rw[←hx];exact gM hlt
   obtain ⟨rb,ro,cn,hp,hrb,hcn,hcl,hcell⟩:=gP (hI.out.each x hxm).1 (hcH.out x hxm)
   have hst:Hid (di ((l.take (k+1)).map Itm.z) c o v=di ((l.take k).map Itm.z) c o v++(if toB (atI x.r c) o v=true then [x.z] else [])):=by show _=_;rw[rk hlt,hx]
   have hxH:Hid (x∈l):=hxm
   obtain ⟨nn,hnn⟩:∃nn,atI x.r c=nn:=⟨_,rfl⟩
   have hto:Hid (∀w,Calls J 245 #[.int V nn,.int V o,.int V v] w fun e w'=>e= Z (.bool (toB nn o v))∧w'=w):=fun w=>uT nn o v w hoH.out
   rw[hnn] at hcell hst
   rw[hp] at e0
   have hgX:Hid (Gr wr (wr.alloc (O #[I (some ⟨rb,ro,none⟩) x.r.length x.c,.int V x.n] 58))):=(gR _).alloc _
   have y0:(wr.alloc (O #[I (some ⟨rb,ro,none⟩) x.r.length x.c,.int V x.n] 58)).cell? ⟨rb,ro+cn,none⟩=some (.int V nn):=(hgX.out.cell (p:=⟨rb,ro+cn,none⟩) hrb).trans hcell
   have hcz:(cn:Int)<(x.r.length:Int):=by omega
   have hpH:Hid (x.p=some ⟨rb,ro,none⟩):=hp
   obtain rfl:=hcn
   clear hcs hx hxm hnn hp hcell hcl
   obtain ⟨tt,htt⟩:∃tt,toB nn o v=tt:=⟨_,rfl⟩
   have httH:Hid (toB nn o v=tt):=htt
   rw[htt] at hto
   clear htt
   cases tt
   ·have hst':Hid (di ((l.take (k+1)).map Itm.z) cn o v=di ((l.take k).map Itm.z) cn o v):=by
     show _=_;rw[hst.out,httH.out];simp
    have hfin:Hid (L.length≤k+1∧L.map Itm.z=di ((l.take (k+1)).map Itm.z) cn o v∧(∀x∈L,x∈l)∧ai aM 2 58 (wr.alloc (O #[I (some ⟨rb,ro,none⟩) x.r.length x.c,.int V x.n] 58)) w.heap.size u9 L∧Below w.heap.size w (wr.alloc (O #[I (some ⟨rb,ro,none⟩) x.r.length x.c,.int V x.n] 58))) :=
     ⟨by have:=hR.out.1;omega,by rw[hst'.out];exact hR.out.2.1,hR.out.2.2.1,hR.out.2.2.2.1.gr hgX.out,hR.out.2.2.2.2.trans (hgX.out.below.mono hR.out.2.2.2.2.size)⟩
    go_wp2_with (go_at_call 245;refine (hto.out _).mono ?_;rintro e w' ⟨rfl,hw'⟩;subst w')
    go_roundw
    case rel=>exact ⟨k+1,L,by omega,by go_num,hfin.out⟩
    case measure=>simp[intOf];omega
   ·have hst':Hid (di ((l.take (k+1)).map Itm.z) cn o v=di ((l.take k).map Itm.z) cn o v++[x.z]):=by
     show _=_;rw[hst.out,httH.out];simp
    have hoX:Hid (ai aM 2 58 ((wr.alloc (O #[I (some ⟨rb,ro,none⟩) x.r.length x.c,.int V x.n] 58)).alloc (O #[I (some ⟨rb,ro,none⟩) x.r.length x.c,.int V x.n] 58)) w.heap.size u9 L∧ay aM 2 ((wr.alloc (O #[I (some ⟨rb,ro,none⟩) x.r.length x.c,.int V x.n] 58)).alloc (O #[I (some ⟨rb,ro,none⟩) x.r.length x.c,.int V x.n] 58)) (some ⟨wr.heap.size+1,0,none⟩) [x]∧L.length+[x].length≤maxLen∧(L.length+[x].length)*32≤140737488355328∧Below w.heap.size w ((wr.alloc (O #[I (some ⟨rb,ro,none⟩) x.r.length x.c,.int V x.n] 58)).alloc (O #[I (some ⟨rb,ro,none⟩) x.r.length x.c,.int V x.n] 58))):=by
     have hLk:=hR.out.1
     refine ⟨hR.out.2.2.2.1.gr (hgX.out.alloc _),?_,by unfold maxLen;simp;omega,by simp;omega,hR.out.2.2.2.2.trans ((hgX.out.alloc _).below.mono hR.out.2.2.2.2.size)⟩
     rw[←hpH.out]
     exact d9 (by simp) x _
    go_wp2_with (first|(go_at_call 245;refine (hto.out _).mono ?_;rintro e w' ⟨rfl,hw'⟩;subst w')|(at_builtin;refine eu _ rfl (.tmp 26) (.tmp 28) rfl w.heap.size u9 L [x] (some ⟨wr.heap.size+1,0,none⟩) 1 rfl rfl hoX.out.1 hoX.out.2.1 (fun h=>by cases h) hoX.out.2.2.1 hoX.out.2.2.2.1 hoX.out.2.2.2.2.size ?_;intro v3 w3 hown3 hg3))
    have hfin:Hid ((L++[x]).length≤k+1∧(L++[x]).map Itm.z=di ((l.take (k+1)).map Itm.z) cn o v∧(∀y∈L++[x],y∈l)∧ai aM 2 58 w3 w.heap.size v3 (L++[x])∧Below w.heap.size w w3):=by
     refine ⟨by have:=hR.out.1;simp;omega,by rw[hst'.out,List.map_append,hR.out.2.1];rfl,fun y hy=> ?_,hown3,hoX.out.2.2.2.2.trans (hoX.out.1.grown_below hg3 hoX.out.2.2.2.2.size)⟩
     rcases List.mem_append.1 hy with h|h
     ·exact hR.out.2.2.1 y h
     ·rw[List.mem_singleton.1 h];exact hxH.out
    clear hown3 hg3
    go_roundw
    case rel=>exact ⟨k+1,L++[x],by omega,by go_num,hfin.out⟩
    case measure=>simp[intOf];omega
  ·have hltz:¬(k:Int)<(l.length:Int):=by omega
   have hke:l.take k=l:=List.take_of_length_le (by omega)
   obtain ⟨A2,cap2,hv2,hn1,hit,hcp,_,_⟩:=ai.full bD hR.out.2.2.2.1
   have hn2:du A2 L.length cap2:=du.mk hn1 hcp
   clear hn1 hcp
   have hlL:L.length≤400:=by have:=hR.out.1;omega
   have hfin:Hid (L.map Itm.z=di (l.map Itm.z) c o v∧Lv wr A2 cap2 L∧Below w.heap.size w wr):=by
    refine ⟨by have:=hR.out.2.1;rw[hke] at this;exact this,⟨⟨hit,fun x hx=> ?_⟩,hn2,by unfold maxLen;omega⟩,hR.out.2.2.2.2⟩
    have:=(hrH.out.below hR.out.2.2.2.2).each x (hR.out.2.2.1 x hx)
    exact this
   subst hv2
   clear hke hit hn2
   go_wp2
   go_ret
   exact ⟨L,A2,cap2,rfl,hfin.out.1,hfin.out.2.1,hlL,hfin.out.2.2⟩
section
open Go.Maps

structure Grp where
 n:Int
 p:Option Addr
 c:Nat
 l:List Itm
def Grp.v (g:Grp):Value:= I g.p g.l.length g.c
def Grp.z (g:Grp):Int×List Zit:=(g.n,g.l.map Itm.z)
def eT (g:Grp):List Value:=[.int V g.n,g.v]
theorem de (g:Grp):(eT g).length=2:=rfl
theorem uz (g:Grp):∀u∈eT g,u.oneCell'=true:=by
 intro u hu
 simp[eT,Grp.v] at hu
 rcases hu with h|h<;>rw[h]<;>rfl
theorem Tryz.infoP:(Tryz.prog.info? 292).map (fun i=>(i.zero,i.size,i.bytes))=some (some (H #[.int V 0,I none 0 0]),2,32):=by kernel_rfl
theorem Tryz.infoT2:(Tryz.prog.info? 58).map (fun i=>(i.zero,i.size,i.bytes))=some (some (H #[I none 0 0,.int V 0]),2,32):=by kernel_rfl

def Two (g h:Grp):Prop:=∀b,g.v.ownBlock=some b→h.v.ownBlock≠some b
structure Gps (w:World) (B:Nat) (v:Value) (gs:List Grp):Prop where
 own:ai eT 2 292 w B v gs
 each:∀g∈gs,ai aM 2 58 w B g.v g.l
 apart:gs.Pairwise Two
theorem Gps.nil (w:World) (B:Nat):Gps w B (I none 0 0) []:=⟨ai.nil _ _ _ _ _,fun g hg=>(by cases hg),List.Pairwise.nil⟩
theorem Gps.below {w w':World} {B:Nat} {v:Value} {gs:List Grp} (h:Gps w B v gs) (q:Below w.heap.size w w'):Gps w' B v gs:=⟨h.own.below q,fun g hg=>(h.each g hg).below q,h.apart⟩
theorem Gps.gr {w w':World} {B:Nat} {v:Value} {gs:List Grp} (h:Gps w B v gs) (q:Gr w w'):Gps w' B v gs:=h.below q.below
theorem ai.keep {α : Type} {enc: α → List Value} {k:Nat} {e:TypeId} {w w':World} {base:Nat} {v:Value} {l:List α} {row:Option Nat} (h:ai enc k e w base v l) (hg:w.grownBy w' row) (hne:v.ownBlock=none∨v.ownBlock≠row):ai enc k e w' base v l:=World.ownsRow.kept h hg hne
theorem gN {α β : Type} {enc: α → List Value} {enc': β → List Value} {k k':Nat} {e e':TypeId} {w:World} {base base':Nat} {v v':Value} {l:List α} {l':List β} (h:ai enc k e w base v l) (h':ai enc' k' e' w base' v' l') (hne:e≠e'):v.ownBlock=none∨v.ownBlock≠v'.ownBlock:=by
 rcases h.2 with ⟨hv,_⟩|⟨g,cap,cur,hv,_,hg,_⟩
 ·exact oL (by rw[hv];rfl)
 ·rcases h'.2 with ⟨hv',_⟩|⟨g',cap',cur',hv',_,hg',_⟩
  ·refine oR ?_
   rw[hv,hv'];intro k;cases k
  ·refine oR ?_
   rw[hv,hv']
   intro k
   have:g=g':=by simpa[Value.ownBlock] using k
   subst this
   rw[hg] at hg'
   simp at hg'
   exact hne hg'.2
theorem Gps.more {w w':World} {B:Nat} {v v':Value} {gs:List Grp} {n:Int} (h:Gps w B v gs) (ho:ai eT 2 292 w' B v' (gs++[⟨n,none,0,[]⟩])) (hg:w.grownBy w' v.ownBlock):Gps w' B v' (gs++[⟨n,none,0,[]⟩]):=by
 refine ⟨ho,fun g hg'=> ?_,?_⟩
 ·rcases List.mem_append.1 hg' with k|k
  ·exact (h.each g k).keep hg (gN (h.each g k) h.own (by decide))
  ·rw[List.mem_singleton.1 k];exact ai.nil _ _ _ _ _
 ·refine List.pairwise_append.2 ⟨h.apart,List.pairwise_singleton _ _,fun a _ b hb=> ?_⟩
  rw[List.mem_singleton.1 hb]
  intro x _ k
  cases k
theorem mH:∀(gs:List Grp) (i:Nat) (hi:i<gs.length) (g':Grp),g'.n=gs[i].n→aI eT (gs.set i g')=(aI eT gs).set (i*2+1) g'.v
 | g::t,0,_,g',h=>by
  have h':g'.n=g.n:=h
  simp[aI,eT,h']
 | g::t,i+1,hi,g',h=>by
  have ih:=mH t i (by simpa using hi) g' (by simpa using h)
  have e:(i+1)*2+1=(i*2+1)+2:=by omega
  simp only[aI,yS,List.flatMap_cons] at ih ⊢
  rw[ih,e]
  rfl
theorem tf {w:World} {B:Nat} {v:Value} {gs:List Grp} {i:Nat} (hi:i<gs.length) {g':Grp} (hn:g'.n=gs[i].n) (h:ai eT 2 292 w B v gs) {G:Nat} (hG:v.ownBlock=some G):ai eT 2 292 (w.setCell ⟨G,i*2+1,none⟩ g'.v) B v (gs.set i g'):=by
 refine ⟨bu de _,?_⟩
 rcases h.2 with ⟨hv,hz⟩|⟨g,cap,cur,hv,hb,hg,hle,hcm,hcs,htk⟩
 ·rw[hv] at hG;cases hG
 ·rw[hv] at hG
  have:g=G:=by simpa[Value.ownBlock] using hG
  subst this
  refine oR ⟨g,cap,cur.setIfInBounds (i*2+1) g'.v,by rw[hv,List.length_set],hb,?_,by rw[List.length_set];exact hle,hcm,by simpa using hcs,?_⟩
  ·have hlt:=lt_of_block hg
   have h':w.heap[g]= O cur 292 (0,0):=by simpa[Array.getElem?_eq_getElem hlt] using hg
   show (w.heap.modify g _)[g]? = _
   rw[Array.getElem?_eq_getElem (by simpa using hlt),Array.getElem_modify_self,h']
   rfl
  ·rw[List.length_set,mH gs i hi g' hn,←htk]
   simp[List.take_set]
theorem jJ (W:World) (a:Addr) (u:Value):W.grownBy (W.setCell a u) (some a.block) :=
 ⟨rfl,rfl,rfl,by simp[World.setCell],fun j _ hne=>Below.heap_setCell _ _ _ _ (fun e=>hne (by rw[e]))⟩
theorem Gps.item {w w':World} {B:Nat} {v:Value} {gs:List Grp} (h:Gps w B v gs) {i:Nat} (hi:i<gs.length) {g':Grp} (hn:g'.n=gs[i].n) (ho:ai aM 2 58 w' B g'.v g'.l) (hg:w.grownBy w' gs[i].v.ownBlock) (hloc:g'.v.ownBlock=gs[i].v.ownBlock∨g'.v.ownBlock=some w.heap.size) {G:Nat} (hG:v.ownBlock=some G) :
  Gps (w'.setCell ⟨G,i*2+1,none⟩ g'.v) B v (gs.set i g'):=by
 have hin:gs[i]∈gs:=gM hi
 have hown':=h.own.keep hg (gN h.own (h.each _ hin) (by decide))
 have hap:=List.pairwise_iff_getElem.1 h.apart
 have hsym:∀(a b:Nat) (ha:a<gs.length) (hb:b<gs.length),a≠b→Two gs[a] gs[b]:=fun a b ha hb hne=>by
  rcases Nat.lt_or_ge a b with k|k
  ·exact hap a b ha hb k
  ·intro x e1 e2
   exact hap b a hb ha (by omega) x e2 e1
 have hlt:∀(a:Nat) (ha:a<gs.length) x,gs[a].v.ownBlock=some x→x<w.heap.size:=fun a ha x e=>(World.ownsRow.lt (h.each _ (gM ha)) x e).2
 have hnew:∀(a:Nat) (ha:a<gs.length),a≠i→Two gs[a] g'∧Two g' gs[a]:=fun a ha hne=>by
  have k:∀x,gs[a].v.ownBlock=some x→g'.v.ownBlock≠some x:=fun x e1 e2=>by
   rcases hloc with e|e
   ·rw[e] at e2;exact hsym a i ha hi hne x e1 e2
   ·rw[e] at e2
    have:=hlt a ha x e1
    have:w.heap.size=x:=by simpa using e2
    omega
  exact ⟨k,fun x e1 e2=>k x e2 e1⟩
 refine ⟨tf hi hn hown' hG,fun g hg'=> ?_,?_⟩
 ·obtain ⟨j,hj,rfl⟩:=List.mem_iff_getElem.1 hg'
  have hj':j<gs.length:=by simpa using hj
  rw[List.getElem_set]
  by_cases e:i=j
  ·rw[if_pos e]
   have:=gN ho hown' (by decide)
   rw[hG] at this
   exact ho.keep (jJ _ _ _) this
  ·rw[if_neg e]
   have k1:=(h.each _ (gM hj')).keep hg (by
    cases e2:gs[j].v.ownBlock with
    | none=>exact oL rfl
    | some x=>exact oR (fun e3=>hsym j i hj' hi (fun k=>e k.symm) x e2 e3.symm))
   have:=gN k1 hown' (by decide)
   rw[hG] at this
   exact k1.keep (jJ _ _ _) this
 ·refine List.pairwise_iff_getElem.2 fun a b ha hb hab=> ?_
  have ha':a<gs.length:=by simpa using ha
  have hb':b<gs.length:=by simpa using hb
  rw[List.getElem_set,List.getElem_set]
  by_cases e1:i=a
  ·rw[if_pos e1,if_neg (by omega)]
   exact (hnew b hb' (by omega)).2
  ·rw[if_neg e1]
   by_cases e2:i=b
   ·rw[if_pos e2]
    exact (hnew a ha' (by omega)).1
   ·rw[if_neg e2]
    exact hap a b ha' hb' hab
end
section
open Go.Maps

theorem kA (w:World) {ops:Array Oper} {rest:List Oper} {o:Oper} {a:Act} {Q:Exit→Act→World→Prop} (hgd:o.guard=none) (s x:Operand)
  (ho:o.op= .call { callee:= .builtin .append,args:= #[s,x],argTypes:= #[287,287] })
  (base:Nat) (v:Value) (l m:List Grp) (A:Option Addr) (cap:Nat) (hs:a.eval s=v) (hx:a.eval x= I A m.length cap) (hown:ai eT 2 292 w base v l) (hr:ay eT 2 w A m) (hA:A=none→cap=0)
  (hml:l.length+m.length≤maxLen) (hb:(l.length+m.length)*32≤140737488355328) (hbase:base≤w.heap.size)
  (h:∀v' w',ai eT 2 292 w' base v' (l++m)→w.grownBy w' v.ownBlock→wpList J ops Q rest (a.put o.dst v') w'):wpList J ops Q (o::rest) a w :=
 wpList_plain hgd fun _ hK=>eG de uz (by omega) 287 Tryz.underlying287 (H #[.int V 0,I none 0 0]) 32 Tryz.infoP rfl w s x ho base v l m A cap hs hx hown hr hA hml hb hbase fun v' w' h2 h3=>hK _ _ (h v' w' h2 h3)
theorem eA (w:World) {ops:Array Oper} {o:Oper} {a:Act} {K:Act→World→Prop} {Q:Exit→Act→World→Prop} {E:Prop} (hgd:o.guard=none) (s z:Operand)
  (ho:o.op= .call { callee:= .builtin .append,args:= #[s,z],argTypes:= #[53,53] })
  (base:Nat) (v:Value) (l:List Itm) (x:Itm) (A:Addr) (cap:Nat) (hs:a.eval s=v) (hz:a.eval z= I (some A) 1 cap) (hown:ai aM 2 58 w base v l) (hr:ay aM 2 w (some A) [x])
  (hml:l.length+1≤maxLen) (hb:(l.length+1)*32≤140737488355328) (hbase:base≤w.heap.size)
  (h:∀v' w',ai aM 2 58 w' base v' (l++[x])→w.grownBy w' v.ownBlock→(v'.ownBlock=v.ownBlock∨v'.ownBlock=some w.heap.size)→K (a.put o.dst v') w') :
  if Region.wanted o (yielded ops a.tmps)=true then Oper.wp J o a w K Q else E:=by
 have hw:Region.wanted o (yielded ops a.tmps)=true:=by simp[Region.wanted,hgd]
 rw[if_pos hw]
 obtain ⟨i0,hi,hz0,hz1,hz2⟩:=info_parts Tryz.infoT2
 obtain ⟨v',w',g1,g2,g3,_,g5⟩:=run_append_own_at (P:=J) w base 53 o.type 58 i0 (H #[I none 0 0,.int V 0]) 2 32 Tryz.underlying53 hi hz0 hz1 hz2 rfl (by omega) v l.length (aI aM l) hown A 1 cap (aI aM [x]) (bu bD [x]) (hr.cells bD (by omega)) (fun u hu=>dL fw u [x] hu) hml hb hbase
 have h2:ai aM 2 58 w' base v' (l++[x]):=by
  show w'.ownsRow base _ 2 v' (l++[x]).length (aI aM (l++[x]))
  rw[List.length_append,cE]
  exact g2
 unfold Oper.wp execOp
 simp only[ho,resolve,invoke,builtin,Sem.run_bind,Sem.run_pure,Result.andThen_ok,List.map_toArray,List.map_cons,List.map_nil,hs,hz,g1]
 exact h v' w' h2 g3 g5

theorem pw:∀ {G:List (Int×List Zit)} {n:Int} {x:Zit},(∀g∈G,g.1≠n)→fa G n x=G++[(n,[x])]
 | [],_,_,_=>rfl
 | g::t,n,x,h=>by
  have h1:=h g (mS ..)
  have ih:=pw (x:=x) (fun y hy=>h y (mC _ hy))
  simp only[fa,if_neg h1,ih,List.cons_append]
theorem rR:∀ {G:List (Int×List Zit)} {n:Int} {x:Zit} {i:Nat} (hi:i<G.length),G[i].1=n→G.Pairwise (fun a b=>a.1≠b.1)→fa G n x=G.set i (n,G[i].2++[x])
 | g::t,n,x,0,_,h,_=>by
  have h':g.1=n:=h
  simp[fa,h']
 | g::t,n,x,i+1,hi,h,hp=>by
  have hp':=List.pairwise_cons.1 hp
  have hi':i<t.length:=by simpa using hi
  have h':t[i].1=n:=by simpa using h
  have h1:g.1≠n:=by rw[←h'];exact hp'.1 _ (gM hi')
  have ih:=rR (x:=x) hi' h' hp'.2
  simp only[fa,if_neg h1,ih,yS,List.getElem_cons_succ]
theorem sG {l:List Itm} {k:Nat} (h:k<l.length) (c:Int):me ((l.take (k+1)).map Itm.z) c=fa (me ((l.take k).map Itm.z) c) (atI l[k].r c) l[k].z:=by
 rw[List.take_succ_eq_append_getElem h,List.map_append]
 unfold me
 rw[List.foldl_append]
 rfl

structure Plc (D:DataW Unit) (gs:List Grp):Prop where
 has:∀n:Int,Maps.has D (.int V n)=gs.any (fun g=>decide (g.n=n))
 pos:∀i (hi:i<gs.length),D.atKey (.int V gs[i].n) (.lit (.int V 0))= .lit (.int V i)
 uniq:gs.Pairwise fun a b=>a.n≠b.n
 map:IsMap D
theorem Plc.nil:Plc (.map []) []:=⟨fun n=>rfl,fun i hi=>absurd hi (by simp),List.Pairwise.nil,⟨[],rfl⟩⟩
theorem Plc.set {D:DataW Unit} {gs:List Grp} (h:Plc D gs) {i:Nat} (hi:i<gs.length) {g':Grp} (hn:g'.n=gs[i].n):Plc D (gs.set i g'):=by
 have hm:(gs.set i g').map (·.n)=gs.map (·.n):=by
  apply List.ext_getElem (by simp)
  intro j h1 h2
  simp only[List.getElem_map,List.getElem_set]
  split
  ·rename_i e;subst e;exact hn
  ·rfl
 refine ⟨fun n=> ?_,fun j hj=> ?_,?_,h.map⟩
 ·rw[h.has n]
  have e:∀L:List Grp,L.any (fun g=>decide (g.n=n))=(L.map (·.n)).any (fun m=>decide (m=n)):=fun L=>by rw[List.any_map];rfl
  rw[e,e,hm]
 ·have hj':j<gs.length:=by simpa using hj
  have e:(gs.set i g')[j].n=gs[j].n:=by
   have:=congrArg (·[j]?) hm
   simp only[List.getElem?_map,List.getElem?_eq_getElem hj,List.getElem?_eq_getElem hj',Option.map_some] at this
   exact sI this
  rw[e];exact h.pos j hj'
 ·have e:∀L:List Grp,(L.map (·.n)).Pairwise (· ≠ ·)→L.Pairwise fun a b=>a.n≠b.n:=fun L hL=>List.pairwise_map.1 hL
  apply e
  rw[hm]
  exact List.pairwise_map.2 h.uniq
theorem Plc.more {D:DataW Unit} {gs:List Grp} (h:Plc D gs) {n:Int} (hno:Maps.has D (.int V n)=false):Plc (D.put (.int V n) (.lit (.int V gs.length))) (gs++[⟨n,none,0,[]⟩]):=by
 have hno':∀g∈gs,g.n≠n:=fun g hg e=>by
  rw[h.has n] at hno
  have:=List.any_eq_false.1 hno g hg
  simp[e] at this
 refine ⟨fun m=> ?_,fun j hj=> ?_,?_,?_⟩
 ·rw[List.any_append]
  by_cases e:m=n
  ·subst e
   rw[has_put_same h.map (show WideAt.IsKeyLit (.int V m) from trivial)]
   simp
  ·rw[has_put_other (fun k=>e (by cases k;rfl)),h.has m]
   have:decide (n=m)=false:=by simpa using fun k=>e k.symm
   simp[this]
 ·by_cases e:j<gs.length
  ·rw[List.getElem_append_left e]
   rw[atKey_put_other (fun k=>hno' _ (List.getElem_mem e) (by cases k;rfl))]
   exact h.pos j e
  ·have e2:j=gs.length:=by simp at hj;omega
   subst e2
   rw[List.getElem_append_right (Nat.le_refl _)]
   simp only[Nat.sub_self,List.getElem_cons_zero]
   exact atKey_put_same h.map (show WideAt.IsKeyLit (.int V n) from trivial) _ _
 ·exact List.pairwise_append.2 ⟨h.uniq,List.pairwise_singleton _ _,fun a ha b hb=>by rw[List.mem_singleton.1 hb];exact hno' a ha⟩
 ·obtain ⟨es,he⟩:=h.map
  rw[he]
  exact ⟨_,rfl⟩
theorem Plc.find {D:DataW Unit} {gs:List Grp} (h:Plc D gs) {n:Int} (hy:Maps.has D (.int V n)=true):∃i,∃hi:i<gs.length,gs[i].n=n∧D.atKey (.int V n) (.lit (.int V 0))= .lit (.int V i):=by
 rw[h.has n] at hy
 obtain ⟨g,hg,e⟩:=List.any_eq_true.1 hy
 obtain ⟨i,hi,rfl⟩:=List.mem_iff_getElem.1 hg
 have e':gs[i].n=n:=by simpa using e
 exact ⟨i,hi,e',by rw[←e'];exact h.pos i hi⟩
theorem xy {W:World} {n:Nat} (hn:W.heap.size=n) (m:Int) (T:TypeId):ay eT 2 (W.alloc (O #[.int V m,I none 0 0] T)) (some ⟨n,0,none⟩) [⟨m,none,0,[]⟩]:=by
 subst hn
 refine oR ⟨W.heap.size,0,rfl,by simp,fun j hj i hi=> ?_⟩
 obtain rfl:j=0:=by simp at hj;omega
 have hi':i=0∨i=1:=by omega
 rcases hi' with rfl|rfl
 ·exact ab (w:=W) (gR _) (j:=0) rfl
 ·exact ab (w:=W) (gR _) (j:=1) rfl
theorem uW:Keyed J 3:=int_keyed Tryz.underlying3
theorem s8 (w:World):(zeroValue 3).run J w= .ok (.int V 0) w:=by kernel_rfl
theorem wfN {n:Int} (h:okN n=true):(Lit.int V n).wf=true:=by
 simp only[okN,inB,Bool.and_eq_true,decide_eq_true_eq] at h
 exact WalkArith.wf_i64 ⟨by omega,by omega⟩
theorem qQ {r:List Int} (h:okR r=true) {c:Int}:okN (atI r c)=true:=by
 unfold okR at h
 simp only[Bool.and_eq_true,List.all_eq_true] at h
 unfold atI
 rw[List.getD_eq_getElem?_getD]
 cases e:r[c.toNat]? with
 | none=>rfl
 | some y=>exact h.2 y (List.mem_of_getElem? e)
end
section
open Go.Maps

theorem Gps.kept {w w':World} {B m:Nat} {v:Value} {gs:List Grp} (h:Gps w B v gs) (hg:w.grownBy w' (some m)) (hm:m<B):Gps w' B v gs:=by
 have k:∀ {α : Type} {enc: α → List Value} {n:Nat} {e:TypeId} {u:Value} {l:List α},ai enc n e w B u l→ai enc n e w' B u l:=fun {α enc n e u l} ho=>ho.keep hg (oR (fun e2=>by have:=(World.ownsRow.lt ho m e2).1;omega))
 exact ⟨k h.own,fun g hg'=>k (h.each g hg'),h.apart⟩
theorem Below.kept {B m:Nat} {a w w':World} (h:Below B a w) (hg:w.grownBy w' (some m)) (hm:B≤m) (hs:B≤w.heap.size):Below B a w':=h.grown hg hs (fun j hj=>by cases hj;exact hm)
structure GInv (w wr:World) (l:List Itm) (c:Int) (k:Nat) (u:Value) (gs:List Grp) (D:DataW Unit):Prop where
 z:List.map Grp.z gs=me ((l.take k).map Itm.z) c
 gps:Gps wr (w.heap.size+1) u gs
 sub:∀g∈gs,g.l.length≤k∧∀x∈g.l,x∈l
 plc:Plc D gs
 map:wr.ownsMap J 3 (plainElem J 3) w.heap.size k D
 bel:Below w.heap.size w wr
 len:gs.length≤k
 size:w.heap.size+1≤wr.heap.size

structure MidG (w W:World) (l:List Itm) (c:Int) (k G gc:Nat) (gs:List Grp) (i:Nat) (g:Grp) (D:DataW Unit) (x:Itm) (xb:Nat):Prop where
 gps:Gps W (w.heap.size+1) (I (some ⟨G,0,none⟩) gs.length gc) gs
 at_:gs[i]? = some g
 z:∀g':Grp,g'.n=g.n→g'.l=g.l++[x]→(gs.set i g').map Grp.z=me ((l.take (k+1)).map Itm.z) c
 sub:∀g∈gs,g.l.length≤k∧∀y∈g.l,y∈l
 xin:x∈l
 plc:Plc D gs
 map:W.ownsMap J 3 (plainElem J 3) w.heap.size (k+1) D
 bel:Below w.heap.size w W
 len:gs.length≤k+1
 size:w.heap.size+1≤W.heap.size
 blk:∀b,g.v.ownBlock=some b→b≠xb
 xlt:xb<W.heap.size
theorem MidG.hi {w W:World} {l:List Itm} {c:Int} {k G gc:Nat} {gs:List Grp} {i:Nat} {g:Grp} {D:DataW Unit} {x:Itm} {xb:Nat} (h:MidG w W l c k G gc gs i g D x xb):∃hi:i<gs.length,gs[i]=g:=by
 obtain ⟨hi,e⟩:=List.getElem?_eq_some_iff.1 h.at_
 exact ⟨hi,e⟩
theorem MidG.own {w W:World} {l:List Itm} {c:Int} {k G gc:Nat} {gs:List Grp} {i:Nat} {g:Grp} {D:DataW Unit} {x:Itm} {xb:Nat} (h:MidG w W l c k G gc gs i g D x xb):ai aM 2 58 W (w.heap.size+1) (I g.p g.l.length g.c) g.l:=by
 obtain ⟨hi,rfl⟩:=h.hi
 exact h.gps.each _ (gM hi)
theorem MidG.cell {w W:World} {l:List Itm} {c:Int} {k G gc:Nat} {gs:List Grp} {i:Nat} {g:Grp} {D:DataW Unit} {x:Itm} {xb:Nat} (h:MidG w W l c k G gc gs i g D x xb):W.cell? ⟨G,i*2+1,none⟩=some (I g.p g.l.length g.c)∧G<W.heap.size∧w.heap.size<G:=by
 obtain ⟨hi,rfl⟩:=h.hi
 obtain ⟨A,cp,hv,_,hr,hb⟩:=h.gps.own.row de
 simp only[Value.slice.injEq] at hv
 obtain ⟨hA,_,_⟩:=hv
 subst hA
 obtain ⟨b,off,e,_,hc⟩:=hr.at hi
 cases e
 have:=hc i hi 1 (by omega)
 have h2:=hb _ rfl
 exact ⟨by simpa[eT,Grp.v] using this,h2.2,h2.1⟩
theorem MidG.done {w W:World} {l:List Itm} {c:Int} {k G gc:Nat} {gs:List Grp} {i:Nat} {g:Grp} {D:DataW Unit} {x:Itm} {xb:Nat} (h:MidG w W l c k G gc gs i g D x xb) {o:Obj} {w3:World} {C:Option Addr} {cc:Nat}
  (ho:ai aM 2 58 w3 (w.heap.size+1) (I C (g.l++[x]).length cc) (g.l++[x])) (hg:(W.alloc o).drew.grownBy w3 (Value.slice g.p g.l.length g.c).ownBlock) (hloc:(Value.slice C (g.l++[x]).length cc).ownBlock=(Value.slice g.p g.l.length g.c).ownBlock∨(Value.slice C (g.l++[x]).length cc).ownBlock=some (W.alloc o).drew.heap.size) :
  GInv w (w3.setCell ⟨G,i*2+1,none⟩ (I C (g.l++[x]).length cc)) l c (k+1) (I (some ⟨G,0,none⟩) gs.length gc) (gs.set i ⟨g.n,C,cc,g.l++[x]⟩) D:=by
 obtain ⟨_,hGl,hGw⟩:=h.cell
 obtain ⟨hi,hgi⟩:=h.hi
 have hgr:Gr W (W.alloc o).drew:=((gR _).alloc _).drew
 have hG':=h.gps.gr hgr
 have hown:=h.own
 have hlo:∀b,(Value.slice g.p g.l.length g.c).ownBlock=some b→w.heap.size<b:=fun b e=>(World.ownsRow.lt hown b e).1
 have hbel:Below w.heap.size w w3:=(h.bel.trans (hgr.below.mono h.bel.size)).grown hg (nT h.bel.size hgr.size) (fun j ej=>Nat.le_of_lt (hlo j ej))
 have hit:=hG'.item hi (g':=⟨g.n,C,cc,g.l++[x]⟩) (by rw[hgi]) ho (by rw[hgi];exact hg) (by rw[hgi];exact hloc) (G:=G) rfl
 refine ⟨h.z _ rfl rfl,hit,fun y hy=> ?_,h.plc.set hi (by rw[hgi]),?_,hbel.setCell (Nat.le_of_lt hGw) _,by rw[List.length_set];exact h.len,?_⟩
 ·rcases List.mem_or_eq_of_mem_set hy with k1|k1
  ·have:=h.sub y k1
   exact ⟨by omega,this.2⟩
  ·subst k1
   have:=h.sub g (by rw[←hgi];exact gM hi)
   refine ⟨by simp;omega,fun z hz=> ?_⟩
   rcases List.mem_append.1 hz with e|e
   ·exact this.2 z e
   ·rw[List.mem_singleton.1 e];exact h.xin
 ·have m1:=(h.map.alloc o).drew
  have m2:=m1.kept hg (fun e=>by have:=hlo _ e.symm;omega)
  exact m2.kept (jJ _ _ _) (fun e=>by simp at e;omega)
 ·have h1:=h.size
  have h2:=hgr.size
  have h3:=hg.size
  simp[World.setCell]
  omega

theorem iN (l:List Itm) (A:Option Addr) (cap:Nat) (c:Int) (w:World) (hl:l.length≤400) (hr:Items w A l) (hc:∀x∈l,inB c 0 ((x.r.length:Int)-1)=true) (hok:∀x∈l,okR x.r=true) :
  Calls J 228 #[I A l.length cap,.int V c] w fun e w'=>∃(gs:List Grp) (v:Value) (D:DataW Unit),e= Z (.tuple #[v,.map (some w.heap.size)])∧GInv w w' l c l.length v gs D:=by
 have hrH:Hid (Items w A l):=hr
 have hcH:Hid (∀x∈l,inB c 0 ((x.r.length:Int)-1)=true):=hc
 have hkH:Hid (∀x∈l,okR x.r=true):=hok
 clear hr hc hok
 have hmm:= @run_makeMap J
 go_enter Tryz.func228,Tryz.ntmps228
 go_wp2
 go_loopw [6,16] (fun u i wr=>∃(k:Nat) (gs:List Grp) (D:DataW Unit),k≤l.length∧i= .int V k∧Hid (GInv w wr l c k u gs D)) (fun _ i _=>l.length-(intOf i).toNat)
 case atStart=>exact ⟨0,[],.map [],nZ _,rfl,show GInv _ _ _ _ _ _ _ _ from ⟨rfl,Gps.nil _ _,fun g hg=>(by cases hg),Plc.nil,World.ownsMap_made _ _ _ _,(bR _ _).alloc (nR _) _,nR _,by simp⟩⟩
 case round =>
  obtain ⟨k,gs,D,hk,rfl,hR⟩:=hrel
  by_cases hlt:k<l.length
  ·have hltz:(k:Int)<(l.length:Int):=by omega
   have hI:Hid (Items wr A l):=hrH.out.below hR.out.bel
   obtain ⟨bb,off,rfl,hb,hcs⟩:=hI.out.at hlt
   obtain ⟨x,hx⟩:∃x,l[k]=x:=⟨_,rfl⟩
   obtain ⟨e0,e1⟩:=hcs k hlt
   rw[hx] at e0 e1
   have hxm:x∈l:=by rw[←hx];exact gM hlt
   obtain ⟨rb,ro,cn,hp,hrb,hcn,hcl,hcell⟩:=gP (hI.out.each x hxm).1 (hcH.out x hxm)
   have hst:Hid (me ((l.take (k+1)).map Itm.z) c=fa (me ((l.take k).map Itm.z) c) (atI x.r c) x.z):=by show _=_;rw[sG hlt,hx]
   have hxH:Hid (x∈l):=hxm
   obtain ⟨nn,hnn⟩:∃nn,atI x.r c=nn:=⟨_,rfl⟩
   have hkey:keyOf J 3 (.int V nn)=some (.int V nn):=keyOf_int_mk Tryz.underlying3 (by rw[←hnn];exact wfN (qQ (hkH.out x hxm)))
   rw[hnn] at hcell hst
   rw[hp] at e0
   have hgX:Hid (Gr wr (wr.alloc (O #[I (some ⟨rb,ro,none⟩) x.r.length x.c,.int V x.n] 58))):=(gR _).alloc _
   have y0:(wr.alloc (O #[I (some ⟨rb,ro,none⟩) x.r.length x.c,.int V x.n] 58)).cell? ⟨rb,ro+cn,none⟩=some (.int V nn):=(hgX.out.cell (p:=⟨rb,ro+cn,none⟩) hrb).trans hcell
   have hcz:(cn:Int)<(x.r.length:Int):=by omega
   have hpH:Hid (x.p=some ⟨rb,ro,none⟩):=hp
   obtain rfl:=hcn
   clear hcs hx hxm hnn hp hcell hcl
   have hmp:Hid ((wr.alloc (O #[I (some ⟨rb,ro,none⟩) x.r.length x.c,.int V x.n] 58)).ownsMap J 3 (plainElem J 3) w.heap.size k D):=hR.out.map.alloc _
   cases hhas:Maps.has D (.int V nn)
   ·have hmore:Hid (Plc (D.put (.int V nn) (.lit (.int V gs.length))) (gs++[⟨nn,none,0,[]⟩])):=hR.out.plc.more hhas
    obtain ⟨GA,gcap,hu,hGn,hGr,hGb⟩:=hR.out.gps.own.row de
    have hgl:(gs.length:Int)≤400:=by have:=hR.out.len;omega
    have huH:Hid (u6= I GA gs.length gcap):=hu
    have hoG:Hid (∀W,Below wr.heap.size wr W→Gps W (w.heap.size+1) (I GA gs.length gcap) gs):=fun W hW=>by rw[←huH.out];exact hR.out.gps.below hW
    subst hu
    clear hGn hGr hGb
    have hne:Hid (some wr.heap.size≠some w.heap.size):=fun e=>by have:=hR.out.size;simp at e;omega
    have hwl:(Lit.int V gs.length).wf=true:=WalkArith.wf_i64 ⟨by omega,by omega⟩
    go_wp2_with (first
     | (at_lookup;refine wpList_lookup_own_ok_int _ rfl _ _ 288 rfl 3 3 V uW Tryz.underlying288 Tryz.underlying3 (s8 _) w.heap.size k _ rfl hmp.out _ _ rfl hkey ?_;intro c' hat hwc)
     | (at_mapUpdate;refine wpList_mapUpdate_own _ rfl _ _ _ 288 rfl 3 3 uW Tryz.underlying288 _ w.heap.size k _ rfl hmp.out (by unfold maxLen;omega) _ _ _ rfl rfl hkey _ [] (plainElem_int Tryz.underlying3 hwl) ?_;intro w1 hown1 hgrow1;have hG1:Hid (Gps (w1.alloc (O #[.int V nn,I none 0 0] 292)) (w.heap.size+1) (I GA gs.length gcap) gs):=((hoG.out _ hgX.out.below).kept hgrow1 (Nat.lt_succ_self _)).gr ((gR _).alloc _);have hM1:Hid ((w1.alloc (O #[.int V nn,I none 0 0] 292)).ownsMap J 3 (plainElem J 3) w.heap.size (k+1) (D.put (.int V nn) (.lit (.int V gs.length)))):=hown1.alloc _;have hB1:Hid (Below w.heap.size w w1∧w.heap.size+1≤w1.heap.size∧wr.heap.size<w1.heap.size):=⟨Below.kept (hR.out.bel.trans (hgX.out.below.mono hR.out.bel.size)) hgrow1 (nR _) (nT hR.out.bel.size hgX.out.size),nT hR.out.size (nT hgX.out.size hgrow1.size),nL (by simp) hgrow1.size⟩;have hX1:Hid (w1.cell? ⟨wr.heap.size,0,none⟩=some (I (some ⟨rb,ro,none⟩) x.r.length x.c)∧w1.cell? ⟨wr.heap.size,1,none⟩=some (.int V x.n)):=⟨(World.cell?_of_block (a:=⟨wr.heap.size,0,none⟩) (hgrow1.block _ (by simp) (hne.out))).trans (ab (gR _) rfl),(World.cell?_of_block (a:=⟨wr.heap.size,1,none⟩) (hgrow1.block _ (by simp) (hne.out))).trans (ab (gR _) rfl)⟩;have hX2:Hid (w1.heap[wr.heap.size]? = some (O #[I (some ⟨rb,ro,none⟩) x.r.length x.c,.int V x.n] 58)):=(hgrow1.block _ (by simp) hne.out).trans (MapKept.heap_alloc _ _).1;clear hown1 hgrow1)
     | (at_builtin;refine kA _ rfl (.tmp 38) (.tmp 41) rfl (w.heap.size+1) (I GA gs.length gcap) gs [⟨nn,none,0,[]⟩] (some ⟨w1.heap.size,0,none⟩) 1 rfl rfl hG1.out.own (xy rfl nn _) (fun h=>by cases h) (by unfold maxLen;simp;omega) (by simp;omega) (nT hB1.out.2.1 (by simp)) ?_;intro v2 w2 hown2 hg2)
     | fail)
    obtain ⟨GA2,gc,hv2,_,hr2,_,hb2,_⟩:=hown2.full de
    obtain ⟨G,gof,hGA,_,_⟩:=hr2.at (m:=0) (by simp)
    subst hGA
    have hof:gof=0:=(hb2 _ rfl).2.2.1
    subst hof
    subst hv2
    have hxne:some wr.heap.size≠(Value.slice GA gs.length gcap).ownBlock:=fun e=>by
     have:=(World.ownsRow.lt hR.out.gps.own wr.heap.size e.symm).2
     omega
    have xc0:w2.cell? ⟨wr.heap.size,0,none⟩=some (I (some ⟨rb,ro,none⟩) x.r.length x.c):=(World.cell?_of_block (a:=⟨wr.heap.size,0,none⟩) (hg2.block _ (nL hB1.out.2.2 (by simp)) hxne)).trans ((((gR _).alloc _).below.cell (p:=⟨wr.heap.size,0,none⟩) hB1.out.2.2).trans hX1.out.1)
    have xc1:w2.cell? ⟨wr.heap.size,1,none⟩=some (.int V x.n):=(World.cell?_of_block (a:=⟨wr.heap.size,1,none⟩) (hg2.block _ (nL hB1.out.2.2 (by simp)) hxne)).trans ((((gR _).alloc _).below.cell (p:=⟨wr.heap.size,1,none⟩) hB1.out.2.2).trans hX1.out.2)
    obtain ⟨g,hg_⟩:∃g:Grp,g=⟨nn,none,0,[]⟩:=⟨_,rfl⟩
    obtain ⟨D2,hD2⟩:∃D2,D.put (.int V nn) (.lit (.int V gs.length))=D2:=⟨_,rfl⟩
    have hMid:Hid (MidG w w2 l cn k G gc (gs++[⟨nn,none,0,[]⟩]) gs.length g D2 x wr.heap.size):=by
     refine ⟨hG1.out.more hown2 hg2,by rw[hg_];simp,fun g' hn hl'=> ?_,fun y hy=> ?_,hxH.out,by rw[←hD2];exact hmore.out,?_,?_,by have:=hR.out.len;simp;omega,?_,(fun b hb=>(by rw[hg_] at hb;cases hb)),?_⟩
     ·rw[hst.out,←hR.out.z,pw]
      ·rw[hg_] at hn hl'
       rw[List.set_append_right _ _ (Nat.le_refl _)]
       simp[Grp.z,hn,hl']
      ·intro y hy
       obtain ⟨g2,hg2',rfl⟩:=List.mem_map.1 hy
       intro e
       have h1:=hR.out.plc.has nn
       rw[hhas] at h1
       have:=List.any_eq_false.1 h1.symm g2 hg2'
       simp at this
       exact this e
     ·rcases List.mem_append.1 hy with e|e
      ·exact hR.out.sub y e
      ·rw[List.mem_singleton.1 e];exact ⟨nZ _,fun z hz=>by cases hz⟩
     ·rw[←hD2]
      exact hM1.out.kept hg2 (fun e=>by have:=(World.ownsRow.lt hG1.out.own _ e.symm).1;omega)
     ·exact (hB1.out.1.alloc hB1.out.1.size _).grown hg2 (nT hB1.out.1.size (by simp)) (fun j ej=>by have:=(World.ownsRow.lt hG1.out.own _ ej).1;omega)
     ·exact nT hB1.out.2.1 (nT (by simp) hg2.size)
     ·exact nL hB1.out.2.2 (nT (by simp) hg2.size)
    have hGx:Hid (G≠wr.heap.size):=fun e=>by
     have h1:=hown2
     rcases h1.2 with ⟨hv,_⟩|⟨g2,cap2,cur2,hv,_,hgc,_⟩
     ·cases hv
     ·have e2:G=g2:=by have h3:=hv;simp at h3;exact h3.1
      subst e2
      subst e
      have h2:=((hg2.block _ (nL hB1.out.2.2 (by simp)) hxne).trans (Below.heap_alloc _ _ _ hB1.out.2.2)).trans hX2.out
      rw[hgc] at h2
      simp at h2
    obtain ⟨gs2,hgs2⟩:∃gs2,gs++[(⟨nn,none,0,[]⟩:Grp)]=gs2:=⟨_,rfl⟩
    rw[hgs2] at hMid ⊢
    obtain ⟨i,hi_⟩:∃i,gs.length=i:=⟨_,rfl⟩
    obtain ⟨xb,hxb⟩:∃xb,wr.heap.size=xb:=⟨_,rfl⟩
    rw[hi_] at hMid ⊢
    rw[hxb] at hMid xc0 xc1 hGx ⊢
    clear hown2 hg2 hr2 hb2 hxne hg_ hD2 hgs2 hG1 hM1 hB1 hX1 hX2 hmp hmore hhas hat hwc hkey y0 e0 e1 hi_ hxb huH hoG hne hgX hI
    have hcl:=hMid.out.cell
    have e6:w2.cell? ⟨G,i*2+1,none⟩=some (I g.p g.l.length g.c):=hcl.1
    have hGlt:Hid (G<w2.heap.size∧w.heap.size<G):=hcl.2
    obtain ⟨hiN,hzz⟩:=hMid.out.hi
    have hiz:(i:Int)<(gs2.length:Int):=by omega
    have hlenG:Hid (g.l.length≤k):=(hMid.out.sub g (by obtain ⟨a,b⟩:=hMid.out.hi;rw[←b];exact gM a)).1
    have hgA:Hid (Gr w2 (w2.alloc (O #[I (some ⟨rb,ro,none⟩) x.r.length x.c,.int V x.n] 58)).drew):=((gR _).alloc _).drew
    have hKeep:Hid (∀W',Gr w2 W'→(fun w'=>w'.cell? ⟨G,i*2+1,none⟩=some (I g.p g.l.length g.c)∧w'.cell? ⟨xb,0,none⟩=some (I (some ⟨rb,ro,none⟩) x.r.length x.c)∧w'.cell? ⟨xb,1,none⟩=some (.int V x.n)) W'):=fun W' h=>⟨(h.below.cell (p:=⟨G,i*2+1,none⟩) hGlt.out.1).trans e6,(h.below.cell (p:=⟨xb,0,none⟩) hMid.out.xlt).trans xc0,(h.below.cell (p:=⟨xb,1,none⟩) hMid.out.xlt).trans xc1⟩
    have hgD:Hid (Gr w2 w2.drew):=(gR _).drew
    have hoX:Hid (ai aM 2 58 (w2.alloc (O #[I (some ⟨rb,ro,none⟩) x.r.length x.c,.int V x.n] 58)).drew (w.heap.size+1) (I g.p g.l.length g.c) g.l∧ay aM 2 (w2.alloc (O #[I (some ⟨rb,ro,none⟩) x.r.length x.c,.int V x.n] 58)).drew (some ⟨w2.heap.size,0,none⟩) [x]∧g.l.length+1≤maxLen∧(g.l.length+1)*32≤140737488355328∧w.heap.size+1≤(w2.alloc (O #[I (some ⟨rb,ro,none⟩) x.r.length x.c,.int V x.n] 58)).drew.heap.size):=by
     have h1:=hlenG.out
     refine ⟨hMid.out.own.gr hgA.out,?_,by unfold maxLen;omega,by omega,nT hMid.out.size hgA.out.size⟩
     rw[←hpH.out]
     exact (d9 rfl x _).gr (gR _).drew
    have hbg:Hid (some G≠(Value.slice g.p g.l.length g.c).ownBlock):=fun e=>by
     rcases gN hMid.out.own hMid.out.gps.own (by decide) with k1|k1
     ·rw[k1] at e;cases e
     ·exact k1 (by rw[←e];rfl)
    have hxG:Hid ((⟨G,i*2+1,none⟩:Addr)≠⟨xb,0,none⟩∧(⟨G,i*2+1,none⟩:Addr)≠⟨xb,1,none⟩):=⟨fun e=>hGx.out (by injection e),fun e=>hGx.out (by injection e)⟩
    have hS3:Hid (∀w3,(w2.alloc (O #[I (some ⟨rb,ro,none⟩) x.r.length x.c,.int V x.n] 58)).drew.grownBy w3 (Value.slice g.p g.l.length g.c).ownBlock→(fun w'=>w'.cell? ⟨G,i*2+1,none⟩=some (I g.p g.l.length g.c)∧w'.cell? ⟨xb,0,none⟩=some (I (some ⟨rb,ro,none⟩) x.r.length x.c)∧w'.cell? ⟨xb,1,none⟩=some (.int V x.n)) w3):=fun w3 hg3=>by
     have hk:=hKeep.out _ hgA.out
     have hbx:some xb≠(Value.slice g.p g.l.length g.c).ownBlock:=fun e=>hMid.out.blk xb e.symm rfl
     have l1:xb<(w2.alloc (O #[I (some ⟨rb,ro,none⟩) x.r.length x.c,.int V x.n] 58)).drew.heap.size:=nL hMid.out.xlt hgA.out.size
     have l2:G<(w2.alloc (O #[I (some ⟨rb,ro,none⟩) x.r.length x.c,.int V x.n] 58)).drew.heap.size:=nL hGlt.out.1 hgA.out.size
     exact ⟨(World.cell?_of_block (a:=⟨G,i*2+1,none⟩) (hg3.block _ l2 hbg.out)).trans hk.1,(World.cell?_of_block (a:=⟨xb,0,none⟩) (hg3.block _ l1 hbx)).trans hk.2.1,(World.cell?_of_block (a:=⟨xb,1,none⟩) (hg3.block _ l1 hbx)).trans hk.2.2⟩
    have hF3:Hid (∀w3,(w2.alloc (O #[I (some ⟨rb,ro,none⟩) x.r.length x.c,.int V x.n] 58)).drew.grownBy w3 (Value.slice g.p g.l.length g.c).ownBlock→w3.frozen? ⟨G,i*2+1,none⟩=false):=fun w3 hg3=>by
     have k1:=(hMid.out.gps.own.gr hgA.out).keep hg3 (gN hMid.out.gps.own hMid.out.own (by decide))
     obtain ⟨A2,cp,hv,_,_,_,_,hz⟩:=k1.full de
     simp only[Value.slice.injEq] at hv
     exact hz _ hv.1.symm _
    have e6a:w2.drew.cell? ⟨G,i*2+1,none⟩=some (I g.p g.l.length g.c):=(hKeep.out _ hgD.out).1
    have e6b:(w2.alloc (O #[I (some ⟨rb,ro,none⟩) x.r.length x.c,.int V x.n] 58)).drew.cell? ⟨G,i*2+1,none⟩=some (I g.p g.l.length g.c):=(hKeep.out _ hgA.out).1
    clear hcl hzz hiN
    refine wp_region_noPanic ?_
    refine wp_region_held_drew (S:=(fun w'=>w'.cell? ⟨xb,0,none⟩=some (I (some ⟨rb,ro,none⟩) x.r.length x.c)∧w'.cell? ⟨xb,1,none⟩=some (.int V x.n))) (by kernel_rfl) ((hKeep.out _ hgD.out).2) (fun hHeld=> ?_)
    refine tks [0,1,2,3,4,5,7] (by assumption) ?_
    iterate 7 (refine tk (v:= ?_) (by rfl) (by kernel_rfl) ?_ ?_;rotate_left;· (refine oL ⟨by rfl,?_⟩;intro w hSw;(try dsimp only at hSw);go_simp<;>with_reducible rfl);try simp only[Act.put,yA,aE,yS])
    refine tk0 ?_
    refine wpAnyH_ready (rs:=[6,8]) (by kernel_rfl) (by simp) ?_
    refine AllReadyH.cons (o:= ?oip8) ?hopp8 (fun K hK=> ?stepp8) ?morep8
    case hopp8=>(simp only[zA,z0',zS];rfl)
    case morep8 =>
     refine AllReadyH.cons (o:= ?oip9) ?hopp9 (fun K hK=> ?stepp9) ?morep9
     case hopp9=>(simp only[zA,z0',zS];rfl)
     case morep9=>exact AllReadyH.nil
     go_simp
     refine hK.out _ _ ?_ (fun hHeld=> ?_)
     ·(try dsimp only);first|with_reducible exact (hKeep.out _ hgD.out).2|with_reducible exact (hKeep.out _ hgA.out).2|with_reducible exact hk3.out|exact hk4.out _|exact (hKeep.out _ hgA.out).2
     clear hK K
     try simp only[Act.put,yA,aE,yS]
     refine wpAnyH_ready (rs:=[6]) (by kernel_rfl) (by simp) ?_
     refine AllReadyH.cons (o:= ?oip10) ?hopp10 (fun K hK=> ?stepp10) ?morep10
     case hopp10=>(simp only[zA,z0',zS];rfl)
     case morep10=>exact AllReadyH.nil
     go_simp
     refine hK.out _ _ ?_ (fun hHeld=> ?_)
     ·(try dsimp only);first|with_reducible exact (hKeep.out _ hgD.out).2|with_reducible exact (hKeep.out _ hgA.out).2|with_reducible exact hk3.out|exact hk4.out _|exact (hKeep.out _ hgA.out).2
     clear hK K
     try simp only[Act.put,yA,aE,yS]
     refine wpAnyH_ready (rs:=[9]) (by kernel_rfl) (by simp) ?_
     refine AllReadyH.cons (o:= ?oip11) ?hopp11 (fun K hK=> ?stepp11) ?morep11
     case hopp11=>(simp only[zA,z0',zS];rfl)
     case morep11=>exact AllReadyH.nil
     (refine eA _ rfl (.tmp 49) (.tmp 51) rfl (w.heap.size+1) (I g.p g.l.length g.c) g.l x ⟨w2.heap.size,0,none⟩ 1 rfl rfl hoX.out.1 hoX.out.2.1 hoX.out.2.2.1 hoX.out.2.2.2.1 hoX.out.2.2.2.2 ?_;intro v3 w3 hown3 hg3 hloc3;have hk3:Hid (w3.cell? ⟨xb,0,none⟩=some (I (some ⟨rb,ro,none⟩) x.r.length x.c)∧w3.cell? ⟨xb,1,none⟩=some (.int V x.n)):=((hS3.out w3 hg3).2);have hf3:w3.frozen? ⟨G,i*2+1,none⟩=false:=hF3.out w3 hg3;have hc3:w3.cell? ⟨G,i*2+1,none⟩=some (I g.p g.l.length g.c):=(hS3.out w3 hg3).1;obtain ⟨C,cc,hv3,_,_,_⟩:=hown3.row bD;subst hv3;have hfinal:Hid (GInv w (w3.setCell ⟨G,i*2+1,none⟩ (I C (g.l.length+1) cc)) l cn (k+1) (I (some ⟨G,0,none⟩) gs2.length gc) (gs2.set i ⟨g.n,C,cc,g.l++[x]⟩) D2):=(by have h:=hMid.out.done hown3 hg3 hloc3;rw[List.length_append] at h;exact h);have hk4:Hid (∀u,(w3.setCell ⟨G,i*2+1,none⟩ u).cell? ⟨xb,0,none⟩=some (I (some ⟨rb,ro,none⟩) x.r.length x.c)∧(w3.setCell ⟨G,i*2+1,none⟩ u).cell? ⟨xb,1,none⟩=some (.int V x.n)):=(fun u=>⟨(World.cell?_setCell_other _ _ _ _ hxG.out.1).trans hk3.out.1,(World.cell?_setCell_other _ _ _ _ hxG.out.2).trans hk3.out.2⟩);clear hown3 hg3 hloc3)
     refine hK.out _ _ ?_ (fun hHeld=> ?_)
     ·(try dsimp only);first|with_reducible exact (hKeep.out _ hgD.out).2|with_reducible exact (hKeep.out _ hgA.out).2|with_reducible exact hk3.out|exact hk4.out _|exact (hKeep.out _ hgA.out).2
     clear hK K
     try simp only[Act.put,yA,aE,yS]
     refine tks [10,11] (by assumption) ?_
     iterate 2 (refine tk (v:= ?_) (by rfl) (by kernel_rfl) ?_ ?_;rotate_left;· (refine oL ⟨by rfl,?_⟩;intro w hSw;(try dsimp only at hSw);go_simp<;>with_reducible rfl);try simp only[Act.put,yA,aE,yS])
     refine tk0 ?_
     refine wpAnyH_ready (rs:=[12]) (by kernel_rfl) (by simp) ?_
     refine AllReadyH.cons (o:= ?oip14) ?hopp14 (fun K hK=> ?stepp14) ?morep14
     case hopp14=>(simp only[zA,z0',zS];rfl)
     case morep14=>exact AllReadyH.nil
     go_simp
     refine hK.out _ _ ?_ (fun hHeld=> ?_)
     ·(try dsimp only);first|with_reducible exact (hKeep.out _ hgD.out).2|with_reducible exact (hKeep.out _ hgA.out).2|with_reducible exact hk3.out|exact hk4.out _|exact (hKeep.out _ hgA.out).2
     clear hK K
     try simp only[Act.put,yA,aE,yS]
     refine wpAnyH_done (by kernel_rfl) ?_ _
     refine NoPanic.normal ?_
     go_wp2
     go_roundw
     case rel=>exact ⟨k+1,gs2.set i ⟨g.n,C,cc,g.l++[x]⟩,D2,by omega,by go_num,hfinal⟩
     case measure=>simp[intOf];omega
    go_simp
    refine hK.out _ _ ?_ (fun hHeld=> ?_)
    ·(try dsimp only);first|with_reducible exact (hKeep.out _ hgD.out).2|with_reducible exact (hKeep.out _ hgA.out).2|with_reducible exact hk3.out|exact hk4.out _|exact (hKeep.out _ hgA.out).2
    clear hK K
    try simp only[Act.put,yA,aE,yS]
    refine wpAnyH_ready (rs:=[8]) (by kernel_rfl) (by simp) ?_
    refine AllReadyH.cons (o:= ?oip15) ?hopp15 (fun K hK=> ?stepp15) ?morep15
    case hopp15=>(simp only[zA,z0',zS];rfl)
    case morep15=>exact AllReadyH.nil
    go_simp
    refine hK.out _ _ ?_ (fun hHeld=> ?_)
    ·(try dsimp only);first|with_reducible exact (hKeep.out _ hgD.out).2|with_reducible exact (hKeep.out _ hgA.out).2|with_reducible exact hk3.out|exact hk4.out _|exact (hKeep.out _ hgA.out).2
    clear hK K
    try simp only[Act.put,yA,aE,yS]
    refine wpAnyH_ready (rs:=[9]) (by kernel_rfl) (by simp) ?_
    refine AllReadyH.cons (o:= ?oip16) ?hopp16 (fun K hK=> ?stepp16) ?morep16
    case hopp16=>(simp only[zA,z0',zS];rfl)
    case morep16=>exact AllReadyH.nil
    (refine eA _ rfl (.tmp 49) (.tmp 51) rfl (w.heap.size+1) (I g.p g.l.length g.c) g.l x ⟨w2.heap.size,0,none⟩ 1 rfl rfl hoX.out.1 hoX.out.2.1 hoX.out.2.2.1 hoX.out.2.2.2.1 hoX.out.2.2.2.2 ?_;intro v3 w3 hown3 hg3 hloc3;have hk3:Hid (w3.cell? ⟨xb,0,none⟩=some (I (some ⟨rb,ro,none⟩) x.r.length x.c)∧w3.cell? ⟨xb,1,none⟩=some (.int V x.n)):=((hS3.out w3 hg3).2);have hf3:w3.frozen? ⟨G,i*2+1,none⟩=false:=hF3.out w3 hg3;have hc3:w3.cell? ⟨G,i*2+1,none⟩=some (I g.p g.l.length g.c):=(hS3.out w3 hg3).1;obtain ⟨C,cc,hv3,_,_,_⟩:=hown3.row bD;subst hv3;have hfinal:Hid (GInv w (w3.setCell ⟨G,i*2+1,none⟩ (I C (g.l.length+1) cc)) l cn (k+1) (I (some ⟨G,0,none⟩) gs2.length gc) (gs2.set i ⟨g.n,C,cc,g.l++[x]⟩) D2):=(by have h:=hMid.out.done hown3 hg3 hloc3;rw[List.length_append] at h;exact h);have hk4:Hid (∀u,(w3.setCell ⟨G,i*2+1,none⟩ u).cell? ⟨xb,0,none⟩=some (I (some ⟨rb,ro,none⟩) x.r.length x.c)∧(w3.setCell ⟨G,i*2+1,none⟩ u).cell? ⟨xb,1,none⟩=some (.int V x.n)):=(fun u=>⟨(World.cell?_setCell_other _ _ _ _ hxG.out.1).trans hk3.out.1,(World.cell?_setCell_other _ _ _ _ hxG.out.2).trans hk3.out.2⟩);clear hown3 hg3 hloc3)
    refine hK.out _ _ ?_ (fun hHeld=> ?_)
    ·(try dsimp only);first|with_reducible exact (hKeep.out _ hgD.out).2|with_reducible exact (hKeep.out _ hgA.out).2|with_reducible exact hk3.out|exact hk4.out _|exact (hKeep.out _ hgA.out).2
    clear hK K
    try simp only[Act.put,yA,aE,yS]
    refine tks [10,11] (by assumption) ?_
    iterate 2 (refine tk (v:= ?_) (by rfl) (by kernel_rfl) ?_ ?_;rotate_left;· (refine oL ⟨by rfl,?_⟩;intro w hSw;(try dsimp only at hSw);go_simp<;>with_reducible rfl);try simp only[Act.put,yA,aE,yS])
    refine tk0 ?_
    refine wpAnyH_ready (rs:=[12]) (by kernel_rfl) (by simp) ?_
    refine AllReadyH.cons (o:= ?oip19) ?hopp19 (fun K hK=> ?stepp19) ?morep19
    case hopp19=>(simp only[zA,z0',zS];rfl)
    case morep19=>exact AllReadyH.nil
    go_simp
    refine hK.out _ _ ?_ (fun hHeld=> ?_)
    ·(try dsimp only);first|with_reducible exact (hKeep.out _ hgD.out).2|with_reducible exact (hKeep.out _ hgA.out).2|with_reducible exact hk3.out|exact hk4.out _|exact (hKeep.out _ hgA.out).2
    clear hK K
    try simp only[Act.put,yA,aE,yS]
    refine wpAnyH_done (by kernel_rfl) ?_ _
    refine NoPanic.normal ?_
    go_wp2
    go_roundw
    case rel=>exact ⟨k+1,gs2.set i ⟨g.n,C,cc,g.l++[x]⟩,D2,by omega,by go_num,hfinal⟩
    case measure=>simp[intOf];omega
   ·obtain ⟨i,hi_,hin,hatB⟩:=hR.out.plc.find hhas
    have hatH:Hid (D.atKey (.int V nn) (.lit (.int V 0))= .lit (.int V i)):=hatB
    obtain ⟨GA2,gc,hu,_,hr2,_,hb2,_⟩:=hR.out.gps.own.full de
    obtain ⟨G,gof,hGA,_,_⟩:=hr2.at hi_
    subst hGA
    have hof:gof=0:=(hb2 _ rfl).2.2.1
    subst hof
    subst hu
    obtain ⟨g,hg_⟩:∃g:Grp,gs[i]=g:=⟨_,rfl⟩
    have xc0:(wr.alloc (O #[I (some ⟨rb,ro,none⟩) x.r.length x.c,.int V x.n] 58)).cell? ⟨wr.heap.size,0,none⟩=some (I (some ⟨rb,ro,none⟩) x.r.length x.c):=ab (gR _) rfl
    have xc1:(wr.alloc (O #[I (some ⟨rb,ro,none⟩) x.r.length x.c,.int V x.n] 58)).cell? ⟨wr.heap.size,1,none⟩=some (.int V x.n):=ab (gR _) rfl
    have hGx:Hid (G≠wr.heap.size):=fun e=>by have:=(World.ownsRow.lt hR.out.gps.own G rfl).2;omega
    have hMid:Hid (MidG w (wr.alloc (O #[I (some ⟨rb,ro,none⟩) x.r.length x.c,.int V x.n] 58)) l cn k G gc gs i g D x wr.heap.size):=by
     refine ⟨hR.out.gps.gr hgX.out,by rw[List.getElem?_eq_getElem hi_,hg_],fun g' hn hl'=> ?_,hR.out.sub,hxH.out,hR.out.plc,hmp.out.mono (Nat.le_succ _),hR.out.bel.trans (hgX.out.below.mono hR.out.bel.size),by have:=hR.out.len;omega,nT hR.out.size hgX.out.size,fun b hb=> ?_,by simp⟩
     ·have hi2:i<(gs.map Grp.z).length:=by simpa using hi_
      rw[hst.out,←hR.out.z,rR hi2 (by simpa[Grp.z] using hin) (List.pairwise_map.2 hR.out.plc.uniq)]
      rw[List.map_set]
      congr 1
      simp only[List.getElem_map]
      rw[←hg_] at hn hl'
      simp[Grp.z,hn,hl',hin]
     ·have:=(World.ownsRow.lt (hR.out.gps.each g (by rw[←hg_];exact gM hi_)) b hb).2
      omega
    have hwX:Hid (Gr wr (wr.alloc (O #[I (some ⟨rb,ro,none⟩) x.r.length x.c,.int V x.n] 58))):=hgX
    clear hg_ hin hatB hr2 hb2 hi_
    go_wp2_with (first
     | (at_lookup;refine wpList_lookup_own_ok_int _ rfl _ _ 288 rfl 3 3 V uW Tryz.underlying288 Tryz.underlying3 (s8 _) w.heap.size k _ rfl hmp.out _ _ rfl hkey ?_;intro c' hat' hwc;(obtain rfl:c'=(i:Int):=by (rw[hatH.out] at hat';cases hat';rfl)))
     | fail)
    obtain ⟨xb,hxb⟩:∃xb,wr.heap.size=xb:=⟨_,rfl⟩
    obtain ⟨WX,hWX⟩:∃WX,(wr.alloc (O #[I (some ⟨rb,ro,none⟩) x.r.length x.c,.int V x.n] 58))=WX:=⟨_,rfl⟩
    rw[hWX] at hMid xc0 xc1 ⊢
    rw[hxb] at hMid xc0 xc1 hGx ⊢
    clear hmp hhas hwc hkey y0 e0 e1 hxb hgX hI hWX hwX
    have hcl:=hMid.out.cell
    have e6:WX.cell? ⟨G,i*2+1,none⟩=some (I g.p g.l.length g.c):=hcl.1
    have hGlt:Hid (G<WX.heap.size∧w.heap.size<G):=hcl.2
    obtain ⟨hiN,hzz⟩:=hMid.out.hi
    have hiz:(i:Int)<(gs.length:Int):=by omega
    have hlenG:Hid (g.l.length≤k):=(hMid.out.sub g (by obtain ⟨a,b⟩:=hMid.out.hi;rw[←b];exact gM a)).1
    have hgA:Hid (Gr WX (WX.alloc (O #[I (some ⟨rb,ro,none⟩) x.r.length x.c,.int V x.n] 58)).drew):=((gR _).alloc _).drew
    have hKeep:Hid (∀W',Gr WX W'→(fun w'=>w'.cell? ⟨G,i*2+1,none⟩=some (I g.p g.l.length g.c)∧w'.cell? ⟨xb,0,none⟩=some (I (some ⟨rb,ro,none⟩) x.r.length x.c)∧w'.cell? ⟨xb,1,none⟩=some (.int V x.n)) W'):=fun W' h=>⟨(h.below.cell (p:=⟨G,i*2+1,none⟩) hGlt.out.1).trans e6,(h.below.cell (p:=⟨xb,0,none⟩) hMid.out.xlt).trans xc0,(h.below.cell (p:=⟨xb,1,none⟩) hMid.out.xlt).trans xc1⟩
    have hgD:Hid (Gr WX WX.drew):=(gR _).drew
    have hoX:Hid (ai aM 2 58 (WX.alloc (O #[I (some ⟨rb,ro,none⟩) x.r.length x.c,.int V x.n] 58)).drew (w.heap.size+1) (I g.p g.l.length g.c) g.l∧ay aM 2 (WX.alloc (O #[I (some ⟨rb,ro,none⟩) x.r.length x.c,.int V x.n] 58)).drew (some ⟨WX.heap.size,0,none⟩) [x]∧g.l.length+1≤maxLen∧(g.l.length+1)*32≤140737488355328∧w.heap.size+1≤(WX.alloc (O #[I (some ⟨rb,ro,none⟩) x.r.length x.c,.int V x.n] 58)).drew.heap.size):=by
     have h1:=hlenG.out
     refine ⟨hMid.out.own.gr hgA.out,?_,by unfold maxLen;omega,by omega,nT hMid.out.size hgA.out.size⟩
     rw[←hpH.out]
     exact (d9 rfl x _).gr (gR _).drew
    have hbg:Hid (some G≠(Value.slice g.p g.l.length g.c).ownBlock):=fun e=>by
     rcases gN hMid.out.own hMid.out.gps.own (by decide) with k1|k1
     ·rw[k1] at e;cases e
     ·exact k1 (by rw[←e];rfl)
    have hxG:Hid ((⟨G,i*2+1,none⟩:Addr)≠⟨xb,0,none⟩∧(⟨G,i*2+1,none⟩:Addr)≠⟨xb,1,none⟩):=⟨fun e=>hGx.out (by injection e),fun e=>hGx.out (by injection e)⟩
    have hS3:Hid (∀w3,(WX.alloc (O #[I (some ⟨rb,ro,none⟩) x.r.length x.c,.int V x.n] 58)).drew.grownBy w3 (Value.slice g.p g.l.length g.c).ownBlock→(fun w'=>w'.cell? ⟨G,i*2+1,none⟩=some (I g.p g.l.length g.c)∧w'.cell? ⟨xb,0,none⟩=some (I (some ⟨rb,ro,none⟩) x.r.length x.c)∧w'.cell? ⟨xb,1,none⟩=some (.int V x.n)) w3):=fun w3 hg3=>by
     have hk:=hKeep.out _ hgA.out
     have hbx:some xb≠(Value.slice g.p g.l.length g.c).ownBlock:=fun e=>hMid.out.blk xb e.symm rfl
     have l1:xb<(WX.alloc (O #[I (some ⟨rb,ro,none⟩) x.r.length x.c,.int V x.n] 58)).drew.heap.size:=nL hMid.out.xlt hgA.out.size
     have l2:G<(WX.alloc (O #[I (some ⟨rb,ro,none⟩) x.r.length x.c,.int V x.n] 58)).drew.heap.size:=nL hGlt.out.1 hgA.out.size
     exact ⟨(World.cell?_of_block (a:=⟨G,i*2+1,none⟩) (hg3.block _ l2 hbg.out)).trans hk.1,(World.cell?_of_block (a:=⟨xb,0,none⟩) (hg3.block _ l1 hbx)).trans hk.2.1,(World.cell?_of_block (a:=⟨xb,1,none⟩) (hg3.block _ l1 hbx)).trans hk.2.2⟩
    have hF3:Hid (∀w3,(WX.alloc (O #[I (some ⟨rb,ro,none⟩) x.r.length x.c,.int V x.n] 58)).drew.grownBy w3 (Value.slice g.p g.l.length g.c).ownBlock→w3.frozen? ⟨G,i*2+1,none⟩=false):=fun w3 hg3=>by
     have k1:=(hMid.out.gps.own.gr hgA.out).keep hg3 (gN hMid.out.gps.own hMid.out.own (by decide))
     obtain ⟨A2,cp,hv,_,_,_,_,hz⟩:=k1.full de
     simp only[Value.slice.injEq] at hv
     exact hz _ hv.1.symm _
    have e6a:WX.drew.cell? ⟨G,i*2+1,none⟩=some (I g.p g.l.length g.c):=(hKeep.out _ hgD.out).1
    have e6b:(WX.alloc (O #[I (some ⟨rb,ro,none⟩) x.r.length x.c,.int V x.n] 58)).drew.cell? ⟨G,i*2+1,none⟩=some (I g.p g.l.length g.c):=(hKeep.out _ hgA.out).1
    clear hcl hzz hiN
    refine wp_region_noPanic ?_
    refine wp_region_held_drew (S:=(fun w'=>w'.cell? ⟨xb,0,none⟩=some (I (some ⟨rb,ro,none⟩) x.r.length x.c)∧w'.cell? ⟨xb,1,none⟩=some (.int V x.n))) (by kernel_rfl) ((hKeep.out _ hgD.out).2) (fun hHeld=> ?_)
    refine tks [0,1,2,3,4,5,7] (by assumption) ?_
    iterate 7 (refine tk (v:= ?_) (by rfl) (by kernel_rfl) ?_ ?_;rotate_left;· (refine oL ⟨by rfl,?_⟩;intro w hSw;(try dsimp only at hSw);go_simp<;>with_reducible rfl);try simp only[Act.put,yA,aE,yS])
    refine tk0 ?_
    refine wpAnyH_ready (rs:=[6,8]) (by kernel_rfl) (by simp) ?_
    refine AllReadyH.cons (o:= ?oiq8) ?hopq8 (fun K hK=> ?stepq8) ?moreq8
    case hopq8=>(simp only[zA,z0',zS];rfl)
    case moreq8 =>
     refine AllReadyH.cons (o:= ?oiq9) ?hopq9 (fun K hK=> ?stepq9) ?moreq9
     case hopq9=>(simp only[zA,z0',zS];rfl)
     case moreq9=>exact AllReadyH.nil
     go_simp
     refine hK.out _ _ ?_ (fun hHeld=> ?_)
     ·(try dsimp only);first|with_reducible exact (hKeep.out _ hgD.out).2|with_reducible exact (hKeep.out _ hgA.out).2|with_reducible exact hk3.out|exact hk4.out _|exact (hKeep.out _ hgA.out).2
     clear hK K
     try simp only[Act.put,yA,aE,yS]
     refine wpAnyH_ready (rs:=[6]) (by kernel_rfl) (by simp) ?_
     refine AllReadyH.cons (o:= ?oiq10) ?hopq10 (fun K hK=> ?stepq10) ?moreq10
     case hopq10=>(simp only[zA,z0',zS];rfl)
     case moreq10=>exact AllReadyH.nil
     go_simp
     refine hK.out _ _ ?_ (fun hHeld=> ?_)
     ·(try dsimp only);first|with_reducible exact (hKeep.out _ hgD.out).2|with_reducible exact (hKeep.out _ hgA.out).2|with_reducible exact hk3.out|exact hk4.out _|exact (hKeep.out _ hgA.out).2
     clear hK K
     try simp only[Act.put,yA,aE,yS]
     refine wpAnyH_ready (rs:=[9]) (by kernel_rfl) (by simp) ?_
     refine AllReadyH.cons (o:= ?oiq11) ?hopq11 (fun K hK=> ?stepq11) ?moreq11
     case hopq11=>(simp only[zA,z0',zS];rfl)
     case moreq11=>exact AllReadyH.nil
     (refine eA _ rfl (.tmp 49) (.tmp 51) rfl (w.heap.size+1) (I g.p g.l.length g.c) g.l x ⟨WX.heap.size,0,none⟩ 1 rfl rfl hoX.out.1 hoX.out.2.1 hoX.out.2.2.1 hoX.out.2.2.2.1 hoX.out.2.2.2.2 ?_;intro v3 w3 hown3 hg3 hloc3;have hk3:Hid (w3.cell? ⟨xb,0,none⟩=some (I (some ⟨rb,ro,none⟩) x.r.length x.c)∧w3.cell? ⟨xb,1,none⟩=some (.int V x.n)):=((hS3.out w3 hg3).2);have hf3:w3.frozen? ⟨G,i*2+1,none⟩=false:=hF3.out w3 hg3;have hc3:w3.cell? ⟨G,i*2+1,none⟩=some (I g.p g.l.length g.c):=(hS3.out w3 hg3).1;obtain ⟨C,cc,hv3,_,_,_⟩:=hown3.row bD;subst hv3;have hfinal:Hid (GInv w (w3.setCell ⟨G,i*2+1,none⟩ (I C (g.l.length+1) cc)) l cn (k+1) (I (some ⟨G,0,none⟩) gs.length gc) (gs.set i ⟨g.n,C,cc,g.l++[x]⟩) D):=(by have h:=hMid.out.done hown3 hg3 hloc3;rw[List.length_append] at h;exact h);have hk4:Hid (∀u,(w3.setCell ⟨G,i*2+1,none⟩ u).cell? ⟨xb,0,none⟩=some (I (some ⟨rb,ro,none⟩) x.r.length x.c)∧(w3.setCell ⟨G,i*2+1,none⟩ u).cell? ⟨xb,1,none⟩=some (.int V x.n)):=(fun u=>⟨(World.cell?_setCell_other _ _ _ _ hxG.out.1).trans hk3.out.1,(World.cell?_setCell_other _ _ _ _ hxG.out.2).trans hk3.out.2⟩);clear hown3 hg3 hloc3)
     refine hK.out _ _ ?_ (fun hHeld=> ?_)
     ·(try dsimp only);first|with_reducible exact (hKeep.out _ hgD.out).2|with_reducible exact (hKeep.out _ hgA.out).2|with_reducible exact hk3.out|exact hk4.out _|exact (hKeep.out _ hgA.out).2
     clear hK K
     try simp only[Act.put,yA,aE,yS]
     refine tks [10,11] (by assumption) ?_
     iterate 2 (refine tk (v:= ?_) (by rfl) (by kernel_rfl) ?_ ?_;rotate_left;· (refine oL ⟨by rfl,?_⟩;intro w hSw;(try dsimp only at hSw);go_simp<;>with_reducible rfl);try simp only[Act.put,yA,aE,yS])
     refine tk0 ?_
     refine wpAnyH_ready (rs:=[12]) (by kernel_rfl) (by simp) ?_
     refine AllReadyH.cons (o:= ?oiq14) ?hopq14 (fun K hK=> ?stepq14) ?moreq14
     case hopq14=>(simp only[zA,z0',zS];rfl)
     case moreq14=>exact AllReadyH.nil
     go_simp
     refine hK.out _ _ ?_ (fun hHeld=> ?_)
     ·(try dsimp only);first|with_reducible exact (hKeep.out _ hgD.out).2|with_reducible exact (hKeep.out _ hgA.out).2|with_reducible exact hk3.out|exact hk4.out _|exact (hKeep.out _ hgA.out).2
     clear hK K
     try simp only[Act.put,yA,aE,yS]
     refine wpAnyH_done (by kernel_rfl) ?_ _
     refine NoPanic.normal ?_
     go_wp2
     go_roundw
     case rel=>exact ⟨k+1,gs.set i ⟨g.n,C,cc,g.l++[x]⟩,D,by omega,by go_num,hfinal⟩
     case measure=>simp[intOf];omega
    go_simp
    refine hK.out _ _ ?_ (fun hHeld=> ?_)
    ·(try dsimp only);first|with_reducible exact (hKeep.out _ hgD.out).2|with_reducible exact (hKeep.out _ hgA.out).2|with_reducible exact hk3.out|exact hk4.out _|exact (hKeep.out _ hgA.out).2
    clear hK K
    try simp only[Act.put,yA,aE,yS]
    refine wpAnyH_ready (rs:=[8]) (by kernel_rfl) (by simp) ?_
    refine AllReadyH.cons (o:= ?oiq15) ?hopq15 (fun K hK=> ?stepq15) ?moreq15
    case hopq15=>(simp only[zA,z0',zS];rfl)
    case moreq15=>exact AllReadyH.nil
    go_simp
    refine hK.out _ _ ?_ (fun hHeld=> ?_)
    ·(try dsimp only);first|with_reducible exact (hKeep.out _ hgD.out).2|with_reducible exact (hKeep.out _ hgA.out).2|with_reducible exact hk3.out|exact hk4.out _|exact (hKeep.out _ hgA.out).2
    clear hK K
    try simp only[Act.put,yA,aE,yS]
    refine wpAnyH_ready (rs:=[9]) (by kernel_rfl) (by simp) ?_
    refine AllReadyH.cons (o:= ?oiq16) ?hopq16 (fun K hK=> ?stepq16) ?moreq16
    case hopq16=>(simp only[zA,z0',zS];rfl)
    case moreq16=>exact AllReadyH.nil
    (refine eA _ rfl (.tmp 49) (.tmp 51) rfl (w.heap.size+1) (I g.p g.l.length g.c) g.l x ⟨WX.heap.size,0,none⟩ 1 rfl rfl hoX.out.1 hoX.out.2.1 hoX.out.2.2.1 hoX.out.2.2.2.1 hoX.out.2.2.2.2 ?_;intro v3 w3 hown3 hg3 hloc3;have hk3:Hid (w3.cell? ⟨xb,0,none⟩=some (I (some ⟨rb,ro,none⟩) x.r.length x.c)∧w3.cell? ⟨xb,1,none⟩=some (.int V x.n)):=((hS3.out w3 hg3).2);have hf3:w3.frozen? ⟨G,i*2+1,none⟩=false:=hF3.out w3 hg3;have hc3:w3.cell? ⟨G,i*2+1,none⟩=some (I g.p g.l.length g.c):=(hS3.out w3 hg3).1;obtain ⟨C,cc,hv3,_,_,_⟩:=hown3.row bD;subst hv3;have hfinal:Hid (GInv w (w3.setCell ⟨G,i*2+1,none⟩ (I C (g.l.length+1) cc)) l cn (k+1) (I (some ⟨G,0,none⟩) gs.length gc) (gs.set i ⟨g.n,C,cc,g.l++[x]⟩) D):=(by have h:=hMid.out.done hown3 hg3 hloc3;rw[List.length_append] at h;exact h);have hk4:Hid (∀u,(w3.setCell ⟨G,i*2+1,none⟩ u).cell? ⟨xb,0,none⟩=some (I (some ⟨rb,ro,none⟩) x.r.length x.c)∧(w3.setCell ⟨G,i*2+1,none⟩ u).cell? ⟨xb,1,none⟩=some (.int V x.n)):=(fun u=>⟨(World.cell?_setCell_other _ _ _ _ hxG.out.1).trans hk3.out.1,(World.cell?_setCell_other _ _ _ _ hxG.out.2).trans hk3.out.2⟩);clear hown3 hg3 hloc3)
    refine hK.out _ _ ?_ (fun hHeld=> ?_)
    ·(try dsimp only);first|with_reducible exact (hKeep.out _ hgD.out).2|with_reducible exact (hKeep.out _ hgA.out).2|with_reducible exact hk3.out|exact hk4.out _|exact (hKeep.out _ hgA.out).2
    clear hK K
    try simp only[Act.put,yA,aE,yS]
    refine tks [10,11] (by assumption) ?_
    iterate 2 (refine tk (v:= ?_) (by rfl) (by kernel_rfl) ?_ ?_;rotate_left;· (refine oL ⟨by rfl,?_⟩;intro w hSw;(try dsimp only at hSw);go_simp<;>with_reducible rfl);try simp only[Act.put,yA,aE,yS])
    refine tk0 ?_
    refine wpAnyH_ready (rs:=[12]) (by kernel_rfl) (by simp) ?_
    refine AllReadyH.cons (o:= ?oiq19) ?hopq19 (fun K hK=> ?stepq19) ?moreq19
    case hopq19=>(simp only[zA,z0',zS];rfl)
    case moreq19=>exact AllReadyH.nil
    go_simp
    refine hK.out _ _ ?_ (fun hHeld=> ?_)
    ·(try dsimp only);first|with_reducible exact (hKeep.out _ hgD.out).2|with_reducible exact (hKeep.out _ hgA.out).2|with_reducible exact hk3.out|exact hk4.out _|exact (hKeep.out _ hgA.out).2
    clear hK K
    try simp only[Act.put,yA,aE,yS]
    refine wpAnyH_done (by kernel_rfl) ?_ _
    refine NoPanic.normal ?_
    go_wp2
    go_roundw
    case rel=>exact ⟨k+1,gs.set i ⟨g.n,C,cc,g.l++[x]⟩,D,by omega,by go_num,hfinal⟩
    case measure=>simp[intOf];omega
  ·have hltz:¬(k:Int)<(l.length:Int):=by omega
   have hke:k=l.length:=by omega
   subst hke
   go_wp2
   go_ret2
   exact ⟨gs,u6,rfl,D,hR.out⟩
end
end Go.Proofs.YtkefkplnamkicabGreatDoor
