import Derived.Test.YtjmmpnmgpgaagaaGreatDoorM06
import Derived.Maps.OwnSet
set_option maxRecDepth 100000
set_option maxHeartbeats 8000000
open Go renaming World → H, Value → X, Addr → U, Calls → ia
open Go.Ending renaming returned → N
open Go.IntKind renaming i64 → V
open Go.Obj renaming cells → O
open Go.Operand renaming tmp → d
open Go.Proofs.Tryz renaming prog → Z
open Go.RowKit renaming Hid → J, Below → Y
open Go.Value renaming slice → I
namespace Go.Proofs.YtjmmpnmgpgaagaaGreatDoor

theorem bH (n k:Int):belowB n k=inB n 0 (k-1):=by
 unfold belowB inB
 rw[Bool.eq_iff_iff]
 simp only[Bool.and_eq_true,decide_eq_true_eq]
 omega
theorem Ed (n:Int):opB n=inB n 1 3:=by
 unfold opB inB
 rw[Bool.eq_iff_iff]
 simp only[Bool.and_eq_true,decide_eq_true_eq]
 omega
theorem CO {s:Stp} (h:s.k=1):bD s=(decide (s.b=0) && decide (s.c=0) && decide (s.o=0) && decide (s.v=0) && s.l.isEmpty):=by
 have t:ay 1 65=true/\ay 1 66=false/\ay 1 67=false/\ay 1 79=false/\ay 1 86=false/\ay 1 76=false:=by decide
 obtain ⟨f,g,j,n,r,u⟩:=t
 simp[bD,fP,h,List.range_succ,lG,Stp.at,f,g,j,n,r,u,Bool.and_assoc]
theorem CP {s:Stp} (h:s.k=2):bD s=(decide (s.b=0) && s.l.isEmpty):=by
 have t:ay 2 65=true/\ay 2 66=false/\ay 2 67=true/\ay 2 79=true/\ay 2 86=true/\ay 2 76=false:=by decide
 obtain ⟨f,g,j,n,r,u⟩:=t
 simp[bD,fP,h,List.range_succ,lG,Stp.at,f,g,j,n,r,u]
theorem CQ {s:Stp} (h:s.k=3):bD s=(decide (s.b=0) && decide (s.c=0) && decide (s.o=0) && decide (s.v=0)):=by
 have t:ay 3 65=true/\ay 3 66=false/\ay 3 67=false/\ay 3 79=false/\ay 3 86=false/\ay 3 76=true:=by decide
 obtain ⟨f,g,j,n,r,u⟩:=t
 simp[bD,fP,h,List.range_succ,lG,Stp.at,f,g,j,n,r,u,Bool.and_assoc]
theorem CR {s:Stp} (h:s.k=4):bD s=(decide (s.o=0) && s.l.isEmpty):=by
 have t:ay 4 65=true/\ay 4 66=true/\ay 4 67=true/\ay 4 79=false/\ay 4 86=true/\ay 4 76=false:=by decide
 obtain ⟨f,g,j,n,r,u⟩:=t
 simp[bD,fP,h,List.range_succ,lG,Stp.at,f,g,j,n,r,u]
theorem CS {s:Stp} (h:s.k=5):bD s=(decide (s.c=0) && decide (s.o=0) && decide (s.v=0) && s.l.isEmpty):=by
 have t:ay 5 65=true/\ay 5 66=true/\ay 5 67=false/\ay 5 79=false/\ay 5 86=false/\ay 5 76=false:=by decide
 obtain ⟨f,g,j,n,r,u⟩:=t
 simp[bD,fP,h,List.range_succ,lG,Stp.at,f,g,j,n,r,u,Bool.and_assoc]
theorem CT {s:Stp} (h:s.k=6):bD s=(decide (s.c=0) && decide (s.o=0) && decide (s.v=0) && s.l.isEmpty):=by
 have t:ay 6 65=true/\ay 6 66=true/\ay 6 67=false/\ay 6 79=false/\ay 6 86=false/\ay 6 76=false:=by decide
 obtain ⟨f,g,j,n,r,u⟩:=t
 simp[bD,fP,h,List.range_succ,lG,Stp.at,f,g,j,n,r,u,Bool.and_assoc]
theorem CU {s:Stp} (h:s.k=7):bD s=(decide (s.b=0) && decide (s.c=0) && decide (s.o=0) && decide (s.v=0) && s.l.isEmpty):=by
 have t:ay 7 65=true/\ay 7 66=false/\ay 7 67=false/\ay 7 79=false/\ay 7 86=false/\ay 7 76=false:=by decide
 obtain ⟨f,g,j,n,r,u⟩:=t
 simp[bD,fP,h,List.range_succ,lG,Stp.at,f,g,j,n,r,u,Bool.and_assoc]
theorem CV {s:Stp} (h:s.k=8):bD s=(decide (s.b=0) && decide (s.o=0) && decide (s.v=0) && s.l.isEmpty):=by
 have t:ay 8 65=true/\ay 8 66=false/\ay 8 67=true/\ay 8 79=false/\ay 8 86=false/\ay 8 76=false:=by decide
 obtain ⟨f,g,j,n,r,u⟩:=t
 simp[bD,fP,h,List.range_succ,lG,Stp.at,f,g,j,n,r,u,Bool.and_assoc]
theorem CW {s:Stp} (h:s.k=9):bD s=(decide (s.b=0) && decide (s.o=0) && s.l.isEmpty):=by
 have t:ay 9 65=true/\ay 9 66=false/\ay 9 67=true/\ay 9 79=false/\ay 9 86=true/\ay 9 76=false:=by decide
 obtain ⟨f,g,j,n,r,u⟩:=t
 simp[bD,fP,h,List.range_succ,lG,Stp.at,f,g,j,n,r,u,Bool.and_assoc]
theorem DY (x y:Bool) (r:Int):(if x=true then (if y=true then r else 0) else 0)=if (x && y)=true then r else 0:=by cases x<;>cases y<;>simp
theorem BE (x y z:Bool) (r:Int):(if x=true then (if y=true then (if z=true then r else 0) else 0) else 0)=if (x && y && z)=true then r else 0:=by cases x<;>cases y<;>cases z<;>simp
theorem Dc (x y z u:Bool) (r:Int):(if x=true then (if y=true then (if z=true then (if u=true then r else 0) else 0) else 0) else 0)=if (x && y && z && u)=true then r else 0:=by cases x<;>cases y<;>cases z<;>cases u<;>simp
theorem CN {s:Stp} (h:¬(1<=s.k/\s.k<=9)) {f:List Int}:aE s f=0:=by
 have g:¬s.k=1:=by omega
 unfold aE
 rw[if_neg g,if_neg (by omega:¬(s.k=4\/s.k=5\/s.k=6))]
 unfold cN
 rw[if_neg (by omega:¬s.k=2),if_neg (by omega:¬s.k=3),if_neg (by omega:¬s.k=7),if_neg (by omega:¬s.k=8),if_neg (by omega:¬s.k=9)]
 simp
theorem EG {s:Stp} (h:s.k=1) (f:List Int):aE s f=if (inB s.a 0 1 && decide (s.b=0) && decide (s.c=0) && decide (s.o=0) && decide (s.v=0) && s.l.isEmpty)=true then 4 else 0:=by
 unfold aE
 rw[CO h,if_pos h]
 rw[bH,show (2:Int)-1=1 from rfl,DY,show ((decide (s.b=0) && decide (s.c=0) && decide (s.o=0) && decide (s.v=0) && s.l.isEmpty) && inB s.a 0 1)=(inB s.a 0 1 && decide (s.b=0) && decide (s.c=0) && decide (s.o=0) && decide (s.v=0) && s.l.isEmpty) from by ac_rfl]
theorem EH {s:Stp} (h:s.k=2) (f:List Int):aE s f=if (inB s.a 0 ((f.length:Int)-1) && decide (s.b=0) && s.l.isEmpty && inB s.o 1 3 && inB s.v (-1073741824) 1073741824 && inB s.c 0 ((f.getD s.a.toNat 0)-1))=true then (f.getD s.a.toNat 0) else 0:=by
 unfold aE
 rw[CP h,if_neg (by omega:¬s.k=1),if_neg (by omega:¬(s.k=4\/s.k=5\/s.k=6))]
 unfold cN
 rw[if_pos h]
 rw[bH,bH,Ed,show nI s.v=inB s.v (-1073741824) 1073741824 from rfl,BE,show ((decide (s.b=0) && s.l.isEmpty) && inB s.a 0 ((f.length:Int)-1) && (inB s.c 0 ((f.getD s.a.toNat 0)-1) && inB s.o 1 3 && inB s.v (-1073741824) 1073741824))=(inB s.a 0 ((f.length:Int)-1) && decide (s.b=0) && s.l.isEmpty && inB s.o 1 3 && inB s.v (-1073741824) 1073741824 && inB s.c 0 ((f.getD s.a.toNat 0)-1)) from by ac_rfl]
theorem DH {s:Stp} (h:s.k=3) (f:List Int):aE s f=if (inB s.a 0 ((f.length:Int)-1) && decide (s.b=0) && inB (s.l.length:Int) 1 8 && s.l.all (fun n=>inB n 0 ((f.getD s.a.toNat 0)-1)) && decide (s.c=0) && decide (s.o=0) && decide (s.v=0))=true then (s.l.length:Int) else 0:=by
 unfold aE
 rw[CQ h,if_neg (by omega:¬s.k=1),if_neg (by omega:¬(s.k=4\/s.k=5\/s.k=6))]
 unfold cN
 rw[if_neg (by omega:¬s.k=2),if_pos h]
 rw[bH,show (fun n=>belowB n (f.getD s.a.toNat 0))=(fun n=>inB n 0 (f.getD s.a.toNat 0-1)) from funext fun n=>bH n _]
 rw[show (if (decide (s.l.length<=8) && s.l.all (fun n=>inB n 0 (f.getD s.a.toNat 0-1)))=true then (s.l.length:Int) else 0)=(if (inB (s.l.length:Int) 1 8 && s.l.all (fun n=>inB n 0 (f.getD s.a.toNat 0-1)))=true then (s.l.length:Int) else 0) from ?_]
 ·rw[BE,show ((decide (s.b=0) && decide (s.c=0) && decide (s.o=0) && decide (s.v=0)) && inB s.a 0 ((f.length:Int)-1) && (inB (s.l.length:Int) 1 8 && s.l.all (fun n=>inB n 0 ((f.getD s.a.toNat 0)-1))))=(inB s.a 0 ((f.length:Int)-1) && decide (s.b=0) && inB (s.l.length:Int) 1 8 && s.l.all (fun n=>inB n 0 ((f.getD s.a.toNat 0)-1)) && decide (s.c=0) && decide (s.o=0) && decide (s.v=0)) from by ac_rfl]
 ·by_cases g:s.l.length=0
  ·rw[g];simp
  ·rw[show decide (s.l.length<=8)=inB (s.l.length:Int) 1 8 from ?_]
   unfold inB
   rw[Bool.eq_iff_iff]
   simp only[Bool.and_eq_true,decide_eq_true_eq]
   omega
theorem EI {s:Stp} (h:s.k=4) (f:List Int):aE s f=if (inB s.a 0 ((f.length:Int)-1) && inB s.b 0 ((f.length:Int)-1) && s.l.isEmpty && decide ((f.getD s.a.toNat 0)+(f.getD s.b.toNat 0)<=8) && inB s.v 0 ((f.getD s.b.toNat 0)-1) && inB s.c 0 ((f.getD s.a.toNat 0)-1) && decide (s.o=0))=true then (f.getD s.a.toNat 0)+(f.getD s.b.toNat 0) else 0:=by
 unfold aE
 rw[CR h,if_neg (by omega:¬s.k=1),if_pos (by omega:s.k=4\/s.k=5\/s.k=6)]
 unfold dM
 rw[if_pos h]
 rw[bH,bH,bH,bH,Dc,show ((decide (s.o=0) && s.l.isEmpty) && inB s.a 0 ((f.length:Int)-1) && inB s.b 0 ((f.length:Int)-1) && (inB s.c 0 ((f.getD s.a.toNat 0)-1) && inB s.v 0 ((f.getD s.b.toNat 0)-1) && decide ((f.getD s.a.toNat 0)+(f.getD s.b.toNat 0)<=8)))=(inB s.a 0 ((f.length:Int)-1) && inB s.b 0 ((f.length:Int)-1) && s.l.isEmpty && decide ((f.getD s.a.toNat 0)+(f.getD s.b.toNat 0)<=8) && inB s.v 0 ((f.getD s.b.toNat 0)-1) && inB s.c 0 ((f.getD s.a.toNat 0)-1) && decide (s.o=0)) from by ac_rfl]
theorem EJ {s:Stp} (h:s.k=5) (f:List Int):aE s f=if (inB s.a 0 ((f.length:Int)-1) && inB s.b 0 ((f.length:Int)-1) && s.l.isEmpty && decide ((f.getD s.a.toNat 0)=(f.getD s.b.toNat 0)) && decide (s.c=0) && decide (s.o=0) && decide (s.v=0))=true then (f.getD s.a.toNat 0) else 0:=by
 unfold aE
 rw[CS h,if_neg (by omega:¬s.k=1),if_pos (by omega:s.k=4\/s.k=5\/s.k=6)]
 unfold dM
 rw[if_neg (by omega:¬s.k=4),if_pos h]
 rw[show (if (f.getD s.a.toNat 0)=(f.getD s.b.toNat 0) then (f.getD s.a.toNat 0) else 0)=(if decide ((f.getD s.a.toNat 0)=(f.getD s.b.toNat 0))=true then (f.getD s.a.toNat 0) else 0) from by simp only[decide_eq_true_eq],bH,bH,Dc,show ((decide (s.c=0) && decide (s.o=0) && decide (s.v=0) && s.l.isEmpty) && inB s.a 0 ((f.length:Int)-1) && inB s.b 0 ((f.length:Int)-1) && decide ((f.getD s.a.toNat 0)=(f.getD s.b.toNat 0)))=(inB s.a 0 ((f.length:Int)-1) && inB s.b 0 ((f.length:Int)-1) && s.l.isEmpty && decide ((f.getD s.a.toNat 0)=(f.getD s.b.toNat 0)) && decide (s.c=0) && decide (s.o=0) && decide (s.v=0)) from by ac_rfl]
theorem EK {s:Stp} (h:s.k=6) (f:List Int):aE s f=if (inB s.a 0 ((f.length:Int)-1) && inB s.b 0 ((f.length:Int)-1) && s.l.isEmpty && decide ((f.getD s.a.toNat 0)=(f.getD s.b.toNat 0)) && decide (s.c=0) && decide (s.o=0) && decide (s.v=0))=true then (f.getD s.a.toNat 0) else 0:=by
 unfold aE
 rw[CT h,if_neg (by omega:¬s.k=1),if_pos (by omega:s.k=4\/s.k=5\/s.k=6)]
 unfold dM
 rw[if_neg (by omega:¬s.k=4),if_neg (by omega:¬s.k=5),if_pos h]
 rw[show (if (f.getD s.a.toNat 0)=(f.getD s.b.toNat 0) then (f.getD s.a.toNat 0) else 0)=(if decide ((f.getD s.a.toNat 0)=(f.getD s.b.toNat 0))=true then (f.getD s.a.toNat 0) else 0) from by simp only[decide_eq_true_eq],bH,bH,Dc,show ((decide (s.c=0) && decide (s.o=0) && decide (s.v=0) && s.l.isEmpty) && inB s.a 0 ((f.length:Int)-1) && inB s.b 0 ((f.length:Int)-1) && decide ((f.getD s.a.toNat 0)=(f.getD s.b.toNat 0)))=(inB s.a 0 ((f.length:Int)-1) && inB s.b 0 ((f.length:Int)-1) && s.l.isEmpty && decide ((f.getD s.a.toNat 0)=(f.getD s.b.toNat 0)) && decide (s.c=0) && decide (s.o=0) && decide (s.v=0)) from by ac_rfl]
theorem EL {s:Stp} (h:s.k=7) (f:List Int):aE s f=if (inB s.a 0 ((f.length:Int)-1) && decide (s.b=0) && s.l.isEmpty && decide (s.c=0) && decide (s.o=0) && decide (s.v=0))=true then (f.getD s.a.toNat 0) else 0:=by
 unfold aE
 rw[CU h,if_neg (by omega:¬s.k=1),if_neg (by omega:¬(s.k=4\/s.k=5\/s.k=6))]
 unfold cN
 rw[if_neg (by omega:¬s.k=2),if_neg (by omega:¬s.k=3),if_pos h]
 rw[bH,DY,show ((decide (s.b=0) && decide (s.c=0) && decide (s.o=0) && decide (s.v=0) && s.l.isEmpty) && inB s.a 0 ((f.length:Int)-1))=(inB s.a 0 ((f.length:Int)-1) && decide (s.b=0) && s.l.isEmpty && decide (s.c=0) && decide (s.o=0) && decide (s.v=0)) from by ac_rfl]
theorem EM {s:Stp} (h:s.k=8) (f:List Int):aE s f=if (inB s.a 0 ((f.length:Int)-1) && decide (s.b=0) && s.l.isEmpty && inB s.c 0 ((f.getD s.a.toNat 0)-1) && decide (s.o=0) && decide (s.v=0))=true then 2 else 0:=by
 unfold aE
 rw[CV h,if_neg (by omega:¬s.k=1),if_neg (by omega:¬(s.k=4\/s.k=5\/s.k=6))]
 unfold cN
 rw[if_neg (by omega:¬s.k=2),if_neg (by omega:¬s.k=3),if_neg (by omega:¬s.k=7),if_pos h]
 rw[bH,bH,BE,show ((decide (s.b=0) && decide (s.o=0) && decide (s.v=0) && s.l.isEmpty) && inB s.a 0 ((f.length:Int)-1) && inB s.c 0 ((f.getD s.a.toNat 0)-1))=(inB s.a 0 ((f.length:Int)-1) && decide (s.b=0) && s.l.isEmpty && inB s.c 0 ((f.getD s.a.toNat 0)-1) && decide (s.o=0) && decide (s.v=0)) from by ac_rfl]
theorem EN {s:Stp} (h:s.k=9) (f:List Int):aE s f=if (inB s.a 0 ((f.length:Int)-1) && decide (s.b=0) && s.l.isEmpty && inB s.v 0 ((f.getD s.a.toNat 0)-1) && inB s.c 0 ((f.getD s.a.toNat 0)-1) && decide (s.o=0))=true then 2 else 0:=by
 unfold aE
 rw[CW h,if_neg (by omega:¬s.k=1),if_neg (by omega:¬(s.k=4\/s.k=5\/s.k=6))]
 unfold cN
 rw[if_neg (by omega:¬s.k=2),if_neg (by omega:¬s.k=3),if_neg (by omega:¬s.k=7),if_neg (by omega:¬s.k=8),if_pos h]
 rw[bH,bH,bH,BE,show ((decide (s.b=0) && decide (s.o=0) && s.l.isEmpty) && inB s.a 0 ((f.length:Int)-1) && (inB s.c 0 ((f.getD s.a.toNat 0)-1) && inB s.v 0 ((f.getD s.a.toNat 0)-1)))=(inB s.a 0 ((f.length:Int)-1) && decide (s.b=0) && s.l.isEmpty && inB s.v 0 ((f.getD s.a.toNat 0)-1) && inB s.c 0 ((f.getD s.a.toNat 0)-1) && decide (s.o=0)) from by ac_rfl]

end Go.Proofs.YtjmmpnmgpgaagaaGreatDoor

namespace Go.Proofs.YtjmmpnmgpgaagaaGreatDoor

def fM:List (Int×List Zit)->Int->Zit->List (Int×List Zit)
 | [],n,x=>[(n,[x])]
 | g::t,n,x=>if g.1=n then (g.1,g.2++[x])::t else g::fM t n x
def oI (l:List Zit) (c:Int):List (Int×List Zit):=l.foldl (fun g x=>fM g (atI x.1 c) x) []
def bg:List Zit->Int
 | []=>0
 | x::t=>x.2+bg t
def co (v:Int):List Zit->Int
 | []=>0
 | x::t=>atI x.1 v*x.2+co v t
def mM (g:Int×List Zit):Option Zit:=if bg g.2=0 then none else some ([g.1,bg g.2],1)
def od (v:Int) (g:Int×List Zit):Option Zit:=if bg g.2=0 then none else some ([g.1,co v g.2],1)
def mO (l:List Zit) (c:Int):List Zit:=(oI l c).filterMap mM
def AG (l:List Zit) (c v:Int):List Zit:=(oI l c).filterMap (od v)
def eE (s:Stp) (a:List Zit):List Zit:=if s.k=2 then dC a s.c s.o s.v else if s.k=3 then gG a s.l else if s.k=7 then gl a else if s.k=8 then mO a s.c else AG a s.c s.v
def dJ (a b:List Zit) (c v:Int):List Zit:=a.flatMap fun x=>(b.filter fun y=>decide (atI y.1 v=atI x.1 c)).map fun y=>(x.1++y.1,x.2*y.2)
def lF (a b:List Zit) (c v:Int):Int:=if (dJ a b c v).all (fun x=>okW x.2)=true then bY ((dJ a b c v).take 401) else 5
def nU (a b:List Zit) (c v:Int):List Zit:=if lF a b c v=0 then dA ((dJ a b c v).take 401) else []
def fL (b:List Zit):List Zit:=b.map fun x=>(x.1,-x.2)
def oK (a b:List Zit):Int:=if aq b=0 then aY a (fL b) else aq b
def uh (a b:List Zit):List Zit:=if oK a b=0 then bw a (fL b) else []
def qZ (s:Stp) (a b:List Zit):List Zit:=if s.a=0 then a else b
def bJ (S:List (List Zit)) (i:Int):List Zit:=S.getD i.toNat []
def aT (s:Stp) (a b:List Zit) (S:List (List Zit)):Int:=if s.k=1 then bY (qZ s a b) else if s.k=4 then lF (bJ S s.a) (bJ S s.b) s.c s.v else if s.k=5 then aY (bJ S s.a) (bJ S s.b) else if s.k=6 then oK (bJ S s.a) (bJ S s.b) else bY (eE s (bJ S s.a))
def aU (s:Stp) (a b:List Zit) (S:List (List Zit)):List Zit:=if s.k=1 then dA (qZ s a b) else if s.k=4 then nU (bJ S s.a) (bJ S s.b) s.c s.v else if s.k=5 then bw (bJ S s.a) (bJ S s.b) else if s.k=6 then uh (bJ S s.a) (bJ S s.b) else dA (eE s (bJ S s.a))
def jB (a b:List Zit):List Stp->List (List Zit)->Int
 | [],_=>0
 | s::t,S=>if aT s a b S=0 then jB a b t (S++[aU s a b S]) else aT s a b S
def jQ (a b:List Zit):List Stp->List (List Zit)->List (List Zit)
 | [],S=>S
 | s::t,S=>if aT s a b S=0 then jQ a b t (S++[aU s a b S]) else []
def d9 (n:Int) (l:List Zit):Prop:=∀x∈l,(x.1.length:Int)=n
def oA (q:List Stp) (a b:List Zit):Int:=if bu q=0 then (if aq a=0 then (if aq b=0 then (if (a++b).all (fun x=>decide (x.1.length=4))=true then 0 else 5) else aq b) else aq a) else bu q
def bM (q:List Stp) (a b:List Zit):Int:=if oA q a b=0 then jB a b q [] else oA q a b
def jE (q:List Stp) (a b:List Zit):List (List Zit):=if bM q a b=0 then jQ a b q [] else []

theorem lD {l:List Zit} {n:Int} (h:d9 n l):d9 n (dA l):=fun x f=>by
 unfold dA at f
 by_cases e:bY l=0
 ·rw[if_pos e] at f
  obtain ⟨y,j,g⟩:=(bB l).row f
  rw[<-g];exact h y j
 ·rw[if_neg e] at f;cases f
theorem rn {a b:List Zit} {n:Int} (h:d9 n a) (k:d9 n b):d9 n (bw a b):=fun x f=>by
 unfold bw at f
 by_cases e:aY a b=0
 ·rw[if_pos e] at f
  obtain ⟨y,j,g⟩:=(bB _).row f
  rw[<-g]
  rcases List.mem_append.1 j with m|m
  ·exact h y m
  ·exact k y m
 ·rw[if_neg e] at f;cases f
theorem k7 {l:List Zit} (h:bY l=0):aq (dA l)=0:=by rw[(vE h).1];exact (vE h).2
structure Ahd (S:List (List Zit)) (ah:List Int):Prop where
 len:S.length=ah.length
 ok:∀i,i<S.length->aq (S.getD i [])=0/\d9 (ah.getD i 0) (S.getD i [])
theorem Ahd.nil:Ahd [] []:=⟨rfl,fun i h=>absurd h (by simp)⟩
theorem Ahd.snoc {S:List (List Zit)} {f:List Int} (h:Ahd S f) {T:List Zit} {n:Int} (k:aq T=0) (r:d9 n T):Ahd (S++[T]) (f++[n]):=by
 refine ⟨by simp[h.len],fun i hi=> ?_⟩
 by_cases e:i<S.length
 ·have j:i<f.length:=by rw[<-h.len];exact e
  rw[List.getD_eq_getElem?_getD,List.getD_eq_getElem?_getD,List.getElem?_append_left e,List.getElem?_append_left j,<-List.getD_eq_getElem?_getD,<-List.getD_eq_getElem?_getD]
  exact h.ok i e
 ·have g:i=S.length:=by simp at hi;omega
  have j:i=f.length:=by rw[<-h.len];exact g
  rw[List.getD_eq_getElem?_getD,List.getD_eq_getElem?_getD,List.getElem?_append_right (by omega),List.getElem?_append_right (by omega),g,<-h.len]
  simp only[Nat.sub_self,z0',Option.getD_some]
  exact ⟨k,r⟩
theorem Ahd.at {S:List (List Zit)} {f:List Int} (h:Ahd S f) {i:Int} (hi:inB i 0 ((f.length:Int)-1)=true):0<=i/\i.toNat<S.length/\aq (bJ S i)=0/\d9 (f.getD i.toNat 0) (bJ S i):=by
 have g:0<=i/\i<=(f.length:Int)-1:=by simpa[inB] using hi
 have e:i.toNat<S.length:=by rw[h.len];omega
 exact ⟨g.1,e,h.ok _ e⟩
theorem tE (l:List Zit) (c:Int):d9 2 (mO l c):=fun x f=>by
 obtain ⟨g,_,h⟩:=List.mem_filterMap.1 f
 unfold mM at h
 by_cases e:bg g.2=0
 ·rw[if_pos e] at h;cases h
 ·rw[if_neg e] at h;cases h;rfl
theorem AK (l:List Zit) (c v:Int):d9 2 (AG l c v):=fun x f=>by
 obtain ⟨g,_,h⟩:=List.mem_filterMap.1 f
 unfold od at h
 by_cases e:bg g.2=0
 ·rw[if_pos e] at h;cases h
 ·rw[if_neg e] at h;cases h;rfl
theorem uQ {l:List Zit} {n:Int} (h:d9 n l) (c o v:Int):d9 n (dC l c o v):=fun x f=>h x (List.mem_filter.1 f).1
theorem xM (l:List Zit) (f:List Int):d9 f.length (gG l f):=fun x g=>by
 obtain ⟨y,_,rfl⟩:=List.mem_map.1 g
 simp[eI]
theorem wJ {l:List Zit} {n:Int} (h:d9 n l):d9 n (gl l):=fun x f=>by
 obtain ⟨y,g,rfl⟩:=List.mem_map.1 f
 exact h y (List.mem_filter.1 g).1
theorem xJ {a b:List Zit} {n m:Int} (h:d9 n a) (k:d9 m b) (c v:Int):d9 (n+m) (dJ a b c v):=fun x f=>by
 obtain ⟨y,g,f⟩:=List.mem_flatMap.1 f
 obtain ⟨z,j,rfl⟩:=List.mem_map.1 f
 have r:=h y g
 have u:=k z (List.mem_filter.1 j).1
 simp only[List.length_append]
 omega
theorem A7 {l:List Zit} {n:Int} (h:d9 n l):d9 n (l.map fun x=>(x.1,-x.2)):=fun x f=>by
 obtain ⟨y,g,rfl⟩:=List.mem_map.1 f
 exact h y g
theorem d9.take {l:List Zit} {n:Int} (h:d9 n l) (k:Nat):d9 n (l.take k):=fun x f=>h x (List.mem_of_mem_take f)
theorem kinds {s:Stp} {E:List Int} (h:aE s E≠0):s.k=1\/s.k=2\/s.k=3\/s.k=4\/s.k=5\/s.k=6\/s.k=7\/s.k=8\/s.k=9:=by
 by_cases g:s.k=1 ;· exact oL g
 by_cases j:s.k=2 ;· simp[j]
 by_cases n:s.k=3 ;· simp[n]
 by_cases F:s.k=4 ;· simp[F]
 by_cases L:s.k=5 ;· simp[L]
 by_cases R:s.k=6 ;· simp[R]
 by_cases r:s.k=7 ;· simp[r]
 by_cases u:s.k=8 ;· simp[u]
 by_cases C:s.k=9 ;· simp[C]
 exfalso
 apply h
 have f:¬(s.k=4\/s.k=5\/s.k=6):=by omega
 unfold aE cN
 simp only[if_neg g,if_neg j,if_neg n,if_neg r,if_neg u,if_neg C,if_neg f,ite_self]
theorem dE {p:Bool} {n:Int} (h:(if p=true then n else 0)≠0):p=true/\(if p=true then n else 0)=n:=by
 cases p with
 | true=>exact ⟨rfl,rfl⟩
 | false=>exact absurd rfl h
theorem Ef {s:Stp} {f:List Int} (h:aE s f≠0) (k:s.k=1):(s.a=0\/s.a=1)/\aE s f=4:=by
 rw[EG k] at h ⊢
 obtain ⟨g,j⟩:=dE h
 simp only[inB,Bool.and_eq_true,decide_eq_true_eq] at g
 exact ⟨by omega,j⟩
theorem Dx {s:Stp} {f:List Int} (h:aE s f≠0) (k:s.k=2):inB s.a 0 ((f.length:Int)-1)=true/\inB s.o 1 3=true/\inB s.c 0 ((f.getD s.a.toNat 0)-1)=true/\aE s f=f.getD s.a.toNat 0:=by
 rw[EH k] at h ⊢
 obtain ⟨g,j⟩:=dE h
 simp only[Bool.and_eq_true] at g
 exact ⟨g.1.1.1.1.1,g.1.1.2,g.2,j⟩
theorem Dy {s:Stp} {f:List Int} (h:aE s f≠0) (k:s.k=3):inB s.a 0 ((f.length:Int)-1)=true/\s.l.length<=8/\(∀n∈s.l,inB n 0 ((f.getD s.a.toNat 0)-1)=true)/\aE s f=s.l.length:=by
 rw[DH k] at h ⊢
 obtain ⟨g,j⟩:=dE h
 simp only[Bool.and_eq_true,List.all_eq_true] at g
 refine ⟨g.1.1.1.1.1.1,?_,g.1.1.1.2,j⟩
 have:=g.1.1.1.1.2
 simp only[inB,Bool.and_eq_true,decide_eq_true_eq] at this
 omega
theorem Dz {s:Stp} {f:List Int} (h:aE s f≠0) (k:s.k=4):inB s.a 0 ((f.length:Int)-1)=true/\inB s.b 0 ((f.length:Int)-1)=true/\inB s.v 0 ((f.getD s.b.toNat 0)-1)=true/\inB s.c 0 ((f.getD s.a.toNat 0)-1)=true/\aE s f=f.getD s.a.toNat 0+f.getD s.b.toNat 0:=by
 rw[EI k] at h ⊢
 obtain ⟨g,j⟩:=dE h
 simp only[Bool.and_eq_true] at g
 exact ⟨g.1.1.1.1.1.1,g.1.1.1.1.1.2,g.1.1.2,g.1.2,j⟩
theorem Eg {s:Stp} {f:List Int} (h:aE s f≠0) (k:s.k=5):inB s.a 0 ((f.length:Int)-1)=true/\inB s.b 0 ((f.length:Int)-1)=true/\f.getD s.a.toNat 0=f.getD s.b.toNat 0/\aE s f=f.getD s.a.toNat 0:=by
 rw[EJ k] at h ⊢
 obtain ⟨g,j⟩:=dE h
 simp only[Bool.and_eq_true,decide_eq_true_eq] at g
 exact ⟨g.1.1.1.1.1.1,g.1.1.1.1.1.2,g.1.1.1.2,j⟩
theorem Eh {s:Stp} {f:List Int} (h:aE s f≠0) (k:s.k=6):inB s.a 0 ((f.length:Int)-1)=true/\inB s.b 0 ((f.length:Int)-1)=true/\f.getD s.a.toNat 0=f.getD s.b.toNat 0/\aE s f=f.getD s.a.toNat 0:=by
 rw[EK k] at h ⊢
 obtain ⟨g,j⟩:=dE h
 simp only[Bool.and_eq_true,decide_eq_true_eq] at g
 exact ⟨g.1.1.1.1.1.1,g.1.1.1.1.1.2,g.1.1.1.2,j⟩
theorem Ei {s:Stp} {f:List Int} (h:aE s f≠0) (k:s.k=7):inB s.a 0 ((f.length:Int)-1)=true/\aE s f=f.getD s.a.toNat 0:=by
 rw[EL k] at h ⊢
 obtain ⟨g,j⟩:=dE h
 simp only[Bool.and_eq_true] at g
 exact ⟨g.1.1.1.1.1,j⟩
theorem DA {s:Stp} {f:List Int} (h:aE s f≠0) (k:s.k=8):inB s.a 0 ((f.length:Int)-1)=true/\inB s.c 0 ((f.getD s.a.toNat 0)-1)=true/\aE s f=2:=by
 rw[EM k] at h ⊢
 obtain ⟨g,j⟩:=dE h
 simp only[Bool.and_eq_true] at g
 exact ⟨g.1.1.1.1.1,g.1.1.2,j⟩
theorem DB {s:Stp} {f:List Int} (h:aE s f≠0) (k:s.k=9):inB s.a 0 ((f.length:Int)-1)=true/\inB s.v 0 ((f.getD s.a.toNat 0)-1)=true/\inB s.c 0 ((f.getD s.a.toNat 0)-1)=true/\aE s f=2:=by
 rw[EN k] at h ⊢
 obtain ⟨g,j⟩:=dE h
 simp only[Bool.and_eq_true] at g
 exact ⟨g.1.1.1.1.1,g.1.1.2,g.1.2,j⟩

theorem oh {s:Stp} {C:List Int} {S:List (List Zit)} {a b:List Zit} (h:aE s C≠0) (r:Ahd S C) (R:d9 4 a) (hb:d9 4 b) (e:aT s a b S=0):aq (aU s a b S)=0/\d9 (aE s C) (aU s a b S):=by
 have f:s.k≠1->s.k≠4->s.k≠5->s.k≠6->(d9 (aE s C) (eE s (bJ S s.a)))->aq (aU s a b S)=0/\d9 (aE s C) (aU s a b S):=fun j g E L F=>by
  unfold aT at e
  unfold aU
  rw[if_neg j,if_neg g,if_neg E,if_neg L] at e ⊢
  exact ⟨k7 e,lD F⟩
 rcases kinds h with k|k|k|k|k|k|k|k|k
 ·obtain ⟨hp,F⟩:=Ef h k
  unfold aT at e
  unfold aU
  rw[if_pos k] at e ⊢
  rw[F]
  refine ⟨k7 e,lD ?_⟩
  unfold qZ
  split
  ·exact R
  ·exact hb
 ·obtain ⟨j,n,u,g⟩:=Dx h k
  refine f (by omega) (by omega) (by omega) (by omega) ?_
  unfold eE
  rw[if_pos k,g]
  exact uQ (r.at j).2.2.2 _ _ _
 ·obtain ⟨j,n,u,g⟩:=Dy h k
  refine f (by omega) (by omega) (by omega) (by omega) ?_
  unfold eE
  rw[if_neg (by omega),if_pos k,g]
  exact xM _ _
 ·obtain ⟨j,n,u,g,E⟩:=Dz h k
  unfold aT at e
  unfold aU
  rw[if_neg (by omega),if_pos k] at e ⊢
  unfold nU
  rw[if_pos e]
  unfold lF at e
  split at e
  ·rw[E]
   exact ⟨k7 e,lD ((xJ (r.at j).2.2.2 (r.at n).2.2.2 _ _).take _)⟩
  ·cases e
 ·obtain ⟨j,n,u,g⟩:=Eg h k
  unfold aT at e
  unfold aU
  rw[if_neg (by omega),if_neg (by omega),if_pos k] at e ⊢
  rw[g]
  exact ⟨(pj e).2.2,rn (r.at j).2.2.2 (u▸(r.at n).2.2.2)⟩
 ·obtain ⟨j,n,u,g⟩:=Eh h k
  unfold aT at e
  unfold aU
  rw[if_neg (by omega),if_neg (by omega),if_neg (by omega),if_pos k] at e ⊢
  unfold uh
  rw[if_pos e]
  unfold oK at e
  rw[if_pos (r.at n).2.2.1] at e
  rw[g]
  exact ⟨(pj e).2.2,rn (r.at j).2.2.2 (A7 (u▸(r.at n).2.2.2))⟩
 ·obtain ⟨j,g⟩:=Ei h k
  refine f (by omega) (by omega) (by omega) (by omega) ?_
  unfold eE
  rw[if_neg (by omega),if_neg (by omega),if_pos k,g]
  exact wJ (r.at j).2.2.2
 ·obtain ⟨j,n,g⟩:=DA h k
  refine f (by omega) (by omega) (by omega) (by omega) ?_
  unfold eE
  rw[if_neg (by omega),if_neg (by omega),if_neg (by omega),if_pos k,g]
  exact tE _ _
 ·obtain ⟨j,n,u,g⟩:=DB h k
  refine f (by omega) (by omega) (by omega) (by omega) ?_
  unfold eE
  rw[if_neg (by omega),if_neg (by omega),if_neg (by omega),if_neg (by omega),g]
  exact AK _ _ _
end Go.Proofs.YtjmmpnmgpgaagaaGreatDoor

namespace Go.Proofs.YtjmmpnmgpgaagaaGreatDoor
open Go.RowKit Go.Sort

theorem zI (n o v:Int) (w:H) (g:inB o 1 3=true):ia Z 286 #[.int V n,.int V o,.int V v] w fun e w'=>e= N (.bool (toB n o v))/\w'=w:=by
 have f:o=1\/o=2\/o=3:=by
  simp only[inB,Bool.and_eq_true,decide_eq_true_eq] at g
  omega
 clear g
 rcases f with rfl|rfl|rfl
 ·have e:toB n 1 v=decide (n<v):=rfl
  rw[e];clear e
  go_enter Tryz.func286,Tryz.ntmps286
  go_wp2
  go_ret
  exact ⟨rfl,rfl⟩
 ·have e:toB n 2 v=decide (n=v):=rfl
  rw[e];clear e
  go_enter Tryz.func286,Tryz.ntmps286
  go_wp2
  go_ret
  exact ⟨rfl,rfl⟩
 ·have e:toB n 3 v=decide (v<n):=rfl
  rw[e];clear e
  go_enter Tryz.func286,Tryz.ntmps286
  go_wp2
  go_ret
  exact ⟨rfl,rfl⟩
theorem oZ (a b:List Zit):bg (a++b)=bg a+bg b:=by
 induction a with
 | nil=>simp[bg]
 | cons x a ih=>simp only[List.cons_append,bg,ih];omega
theorem re {l:List Zit} (h:∀x∈l,okW x.2=true): -((l.length:Int)*1048576)<=bg l/\bg l<=(l.length:Int)*1048576:=by
 induction l with
 | nil=>simp[bg]
 | cons x l ih =>
  have j:=ih fun y g=>h y (mC _ g)
  have f:=h x (mS ..)
  simp only[okW,inB,Bool.and_eq_true,decide_eq_true_eq] at f
  simp only[bg,List.length_cons]
  omega
theorem t8 {l:List Itm} {k:Nat} (h:k<l.length):bg ((l.take (k+1)).map Itm.z)=bg ((l.take k).map Itm.z)+l[k].n:=by
 rw[List.take_succ_eq_append_getElem h,List.map_append,oZ]
 simp[bg,Itm.z]

theorem qk (l:List Itm) (A:Option U) (cap:Nat) (w:H) (hl:l.length<=400) (hw:∀x∈l,okW x.n=true) (hr:Items w A l) :
  ia Z 287 #[I A l.length cap] w fun e w'=>e= N (.int V (bg (l.map Itm.z)))/\Gr w w':=by
 have ah:=ja1 hr
 have F:=ja1 hw
 clear hr hw
 go_enter Tryz.func287,Tryz.ntmps287
 go_wp2
 go_loopw [3,8] (fun v i wr=>∃k:Nat,k<=l.length/\i= .int V k/\v= .int V (bg ((l.take k).map Itm.z))/\J (Gr w wr)) (fun _ i _=>l.length-(intOf i).toNat)
 case atStart=>exact ⟨0,nZ _,rfl,rfl,gR _⟩
 case round =>
  obtain ⟨k,hk,rfl,rfl,hg⟩:=hrel
  by_cases f:k<l.length
  ·have C:(k:Int)<(l.length:Int):=by omega
   have hI:=ja1 (ah.out.gr hg.out)
   obtain ⟨bb,ao,rfl,hb,h⟩:=hI.out.at f
   obtain ⟨x,R⟩:∃x,l[k]=x:=⟨_,rfl⟩
   obtain ⟨e0,e1⟩:=h k f
   rw[R] at e0 e1
   have E:J (bg ((l.take (k+1)).map Itm.z)=bg ((l.take k).map Itm.z)+x.n):=by show _=_;rw[t8 f,R]
   have L:=F.out x (by rw[<-R];exact gM f)
   have g:=re (l:=(l.take k).map Itm.z) (fun y hy=>by
    obtain ⟨z,hz,rfl⟩:=List.mem_map.1 hy
    exact F.out z (List.mem_of_mem_take hz))
   have u:((l.take k).map Itm.z).length<=400:=by simp;omega
   obtain ⟨ap,hT⟩:∃ap,bg ((l.take k).map Itm.z)=ap:=⟨_,rfl⟩
   rw[hT] at E g ⊢
   have an:IntKind.i64.wrap (ap+x.n)=ap+x.n:=by
    simp only[okW,inB,Bool.and_eq_true,decide_eq_true_eq] at L
    rw[IntKind.wrap_i64];omega
   clear h R L g u hT
   have ad:J (Gr w (wr.alloc (O #[I x.p x.r.length x.c,.int V x.n] 151))):=hg.out.alloc _
   go_wp2
   go_roundw
   case rel=>exact ⟨k+1,by omega,by go_num,by rw[E.out],ad.out⟩
   case measure=>simp[intOf];omega
  ·have C:¬(k:Int)<(l.length:Int):=by omega
   have j:l.take k=l:=List.take_of_length_le (by omega)
   rw[j]
   clear j
   go_wp2
   go_ret
   exact ⟨rfl,hg.out⟩


theorem uP {l:List Itm} {k:Nat} (h:k<l.length) (c o v:Int):dC ((l.take (k+1)).map Itm.z) c o v=dC ((l.take k).map Itm.z) c o v++(if toB (atI l[k].r c) o v=true then [l[k].z] else []):=by
 rw[List.take_succ_eq_append_getElem h,List.map_append]
 unfold dC
 rw[List.filter_append]
 congr 1
 by_cases e:toB (atI l[k].r c) o v=true
 ·rw[if_pos e];simp[Itm.z,e]
 ·rw[if_neg e];simp[Itm.z,e]
theorem iY {w:H} {p:Option U} {r:List Int} {c:Int} (h:al w p r) (u:inB c 0 ((r.length:Int)-1)=true):∃(b f:Nat) (n:Nat),p=some ⟨b,f,none⟩/\b<w.heap.size/\c=n/\n<r.length/\w.cell? ⟨b,f+n,none⟩=some (.int V (atI r c)):=by
 simp only[inB,Bool.and_eq_true,decide_eq_true_eq] at u
 have g:c.toNat<r.length:=by omega
 obtain ⟨b,f,C,k,j⟩:=h.at g
 refine ⟨b,f,c.toNat,C,k,by omega,g,?_⟩
 have:=j c.toNat g 0 (by omega)
 simp only[Nat.mul_one,Nat.add_zero] at this
 rw[this]
 unfold atI
 rw[List.getD_eq_getElem?_getD,List.getElem?_eq_getElem g]
 rfl

theorem yq (l:List Itm) (A:Option U) (cap:Nat) (c o v:Int) (w:H) (hl:l.length<=400) (hr:Items w A l) (hc:∀x∈l,inB c 0 ((x.r.length:Int)-1)=true) (ho:inB o 1 3=true) :
  ia Z 277 #[I A l.length cap,.int V c,.int V o,.int V v] w fun e w'=>∃(L:List Itm) (C:Option U) (k:Nat),e= N (I C L.length k)/\L.map Itm.z=dC (l.map Itm.z) c o v/\Lv w' C k L/\L.length<=400/\Y w.heap.size w w':=by
 have bh:=ja1 hr
 have bl:=ja1 hc
 have bs:=ja1 ho
 clear hr hc ho
 go_enter Tryz.func277,Tryz.ntmps277
 go_wp2
 go_loopw [9,14] (fun u i wr=>∃(k:Nat) (L:List Itm),k<=l.length/\i= .int V k/\J (L.length<=k/\L.map Itm.z=dC ((l.take k).map Itm.z) c o v/\(∀x∈L,x∈l)/\ae aD 2 151 wr w.heap.size u L/\Y w.heap.size w wr)) (fun _ i _=>l.length-(intOf i).toNat)
 case atStart=>exact ⟨0,[],nZ _,rfl,nR _,rfl,fun x hx=>(by cases hx),ae.nil _ _ _ _ _,bR _ _⟩
 case round =>
  obtain ⟨k,L,hk,rfl,g⟩:=hrel
  by_cases ap:k<l.length
  ·have ba:(k:Int)<(l.length:Int):=by omega
   have hI:=ja1 (bh.out.below g.out.2.2.2.2)
   obtain ⟨bb,b3,rfl,hb,a6⟩:=hI.out.at ap
   obtain ⟨x,hx⟩:∃x,l[k]=x:=⟨_,rfl⟩
   obtain ⟨e0,e1⟩:=a6 k ap
   rw[hx] at e0 e1
   have a0:x∈l:=by rw[<-hx];exact gM ap
   obtain ⟨F,R,cn,hp,bC,bo,bn,E⟩:=iY (hI.out.each x a0).1 (bl.out x a0)
   have a2:J (dC ((l.take (k+1)).map Itm.z) c o v=dC ((l.take k).map Itm.z) c o v++(if toB (atI x.r c) o v=true then [x.z] else [])):=by show _=_;rw[uP ap,hx]
   have b0:=ja1 a0
   obtain ⟨nn,be⟩:∃nn,atI x.r c=nn:=⟨_,rfl⟩
   have a3:J (∀w,ia Z 286 #[.int V nn,.int V o,.int V v] w fun e w'=>e= N (.bool (toB nn o v))/\w'=w):=fun w=>zI nn o v w bs.out
   rw[be] at E a2
   rw[hp] at e0
   have ah:J (Gr wr (wr.alloc (O #[I (some ⟨F,R,none⟩) x.r.length x.c,.int V x.n] 151))):=(gR _).alloc _
   have y0:(wr.alloc (O #[I (some ⟨F,R,none⟩) x.r.length x.c,.int V x.n] 151)).cell? ⟨F,R+cn,none⟩=some (.int V nn):=(ah.out.cell (p:=⟨F,R+cn,none⟩) bC).trans E
   have b2:(cn:Int)<(x.r.length:Int):=by omega
   have bt:=ja1 hp
   obtain rfl:=bo
   clear a6 hx a0 be hp E bn
   obtain ⟨tt,a4⟩:∃tt,toB nn o v=tt:=⟨_,rfl⟩
   have a1:=ja1 a4
   rw[a4] at a3
   clear a4
   cases tt
   ·have ao:J (dC ((l.take (k+1)).map Itm.z) cn o v=dC ((l.take k).map Itm.z) cn o v):=by
     show _=_;rw[a2.out,a1.out];simp
    have f:J (L.length<=k+1/\L.map Itm.z=dC ((l.take (k+1)).map Itm.z) cn o v/\(∀x∈L,x∈l)/\ae aD 2 151 (wr.alloc (O #[I (some ⟨F,R,none⟩) x.r.length x.c,.int V x.n] 151)) w.heap.size u9 L/\Y w.heap.size w (wr.alloc (O #[I (some ⟨F,R,none⟩) x.r.length x.c,.int V x.n] 151))) :=
     ⟨by have:=g.out.1;omega,by rw[ao.out];exact g.out.2.1,g.out.2.2.1,g.out.2.2.2.1.gr ah.out,g.out.2.2.2.2.trans (ah.out.below.mono g.out.2.2.2.2.size)⟩
    go_wp2_with (go_at_call 286;refine (a3.out _).mono ?_;rintro e w' ⟨rfl,bN⟩;subst w')
    go_roundw
    case rel=>exact ⟨k+1,L,by omega,by go_num,f.out⟩
    case measure=>simp[intOf];omega
   ·have ao:J (dC ((l.take (k+1)).map Itm.z) cn o v=dC ((l.take k).map Itm.z) cn o v++[x.z]):=by
     show _=_;rw[a2.out,a1.out];simp
    have j:J (ae aD 2 151 ((wr.alloc (O #[I (some ⟨F,R,none⟩) x.r.length x.c,.int V x.n] 151)).alloc (O #[I (some ⟨F,R,none⟩) x.r.length x.c,.int V x.n] 151)) w.heap.size u9 L/\az aD 2 ((wr.alloc (O #[I (some ⟨F,R,none⟩) x.r.length x.c,.int V x.n] 151)).alloc (O #[I (some ⟨F,R,none⟩) x.r.length x.c,.int V x.n] 151)) (some ⟨wr.heap.size+1,0,none⟩) [x]/\L.length+[x].length<=maxLen/\(L.length+[x].length)*32<=140737488355328/\Y w.heap.size w ((wr.alloc (O #[I (some ⟨F,R,none⟩) x.r.length x.c,.int V x.n] 151)).alloc (O #[I (some ⟨F,R,none⟩) x.r.length x.c,.int V x.n] 151))):=by
     have b1:=g.out.1
     refine ⟨g.out.2.2.2.1.gr (ah.out.alloc _),?_,by unfold maxLen;simp;omega,by simp;omega,g.out.2.2.2.2.trans ((ah.out.alloc _).below.mono g.out.2.2.2.2.size)⟩
     rw[<-bt.out]
     exact dj (by simp) x _
    go_wp2_with (first|(go_at_call 286;refine (a3.out _).mono ?_;rintro e w' ⟨rfl,bN⟩;subst w')|(at_builtin;refine dH _ rfl (d 26) (d 28) rfl w.heap.size u9 L [x] (some ⟨wr.heap.size+1,0,none⟩) 1 rfl rfl j.out.1 j.out.2.1 (fun h=>by cases h) j.out.2.2.1 j.out.2.2.2.1 j.out.2.2.2.2.size ?_;intro v3 w3 an a7))
    have f:J ((L++[x]).length<=k+1/\(L++[x]).map Itm.z=dC ((l.take (k+1)).map Itm.z) cn o v/\(∀y∈L++[x],y∈l)/\ae aD 2 151 w3 w.heap.size v3 (L++[x])/\Y w.heap.size w w3):=by
     refine ⟨by have:=g.out.1;simp;omega,by rw[ao.out,List.map_append,g.out.2.1];rfl,fun y hy=> ?_,an,j.out.2.2.2.2.trans (j.out.1.grown_below a7 j.out.2.2.2.2.size)⟩
     rcases List.mem_append.1 hy with h|h
     ·exact g.out.2.2.1 y h
     ·rw[List.mem_singleton.1 h];exact b0.out
    clear an a7
    go_roundw
    case rel=>exact ⟨k+1,L++[x],by omega,by go_num,f.out⟩
    case measure=>simp[intOf];omega
  ·have ba:¬(k:Int)<(l.length:Int):=by omega
   have a9:l.take k=l:=List.take_of_length_le (by omega)
   obtain ⟨A2,ad,bG,bc,a8,a5,_,_⟩:=ae.full bz g.out.2.2.2.1
   have bd:cV A2 L.length ad:=cV.mk bc a5
   clear bc a5
   have bp:L.length<=400:=by have:=g.out.1;omega
   have f:J (L.map Itm.z=dC (l.map Itm.z) c o v/\Lv wr A2 ad L/\Y w.heap.size w wr):=by
    refine ⟨by have:=g.out.2.1;rw[a9] at this;exact this,⟨⟨a8,fun x hx=> ?_⟩,bd,by unfold maxLen;omega⟩,g.out.2.2.2.2⟩
    have:=(bh.out.below g.out.2.2.2.2).each x (g.out.2.2.1 x hx)
    exact this
   subst bG
   clear a9 a8 bd
   go_wp2
   go_ret
   exact ⟨L,A2,ad,rfl,f.out.1,f.out.2.1,bp,f.out.2.2⟩
section
open Go.Maps

structure Grp where
 n:Int
 p:Option U
 c:Nat
 l:List Itm
def Grp.v (g:Grp):X:= I g.p g.l.length g.c
def Grp.z (g:Grp):Int×List Zit:=(g.n,g.l.map Itm.z)
def fB (g:Grp):List X:=[.int V g.n,g.v]
theorem dt (g:Grp):(fB g).length=2:=rfl
theorem zm (g:Grp):∀u∈fB g,u.oneCell'=true:=by
 intro u f
 simp[fB,Grp.v] at f
 rcases f with h|h<;>rw[h]<;>rfl
theorem Tryz.infoP:(Tryz.prog.info? 336).map (fun i=>(i.zero,i.size,i.bytes))=some (some (.agg #[.int V 0,I none 0 0]),2,32):=by kernel_rfl
theorem Tryz.infoT2:(Tryz.prog.info? 151).map (fun i=>(i.zero,i.size,i.bytes))=some (some (.agg #[I none 0 0,.int V 0]),2,32):=by kernel_rfl

def Two (g h:Grp):Prop:=∀b,g.v.ownBlock=some b->h.v.ownBlock≠some b
structure Gps (w:H) (B:Nat) (v:X) (gs:List Grp):Prop where
 own:ae fB 2 336 w B v gs
 each:∀g∈gs,ae aD 2 151 w B g.v g.l
 apart:gs.Pairwise Two
theorem Gps.nil (w:H) (B:Nat):Gps w B (I none 0 0) []:=⟨ae.nil _ _ _ _ _,fun g f=>(by cases f),List.Pairwise.nil⟩
theorem Gps.below {w w':H} {B:Nat} {v:X} {f:List Grp} (h:Gps w B v f) (q:Y w.heap.size w w'):Gps w' B v f:=⟨h.own.below q,fun g j=>(h.each g j).below q,h.apart⟩
theorem Gps.gr {w w':H} {B:Nat} {v:X} {f:List Grp} (h:Gps w B v f) (q:Gr w w'):Gps w' B v f:=h.below q.below
theorem ae.keep {α : Type} {enc: α -> List X} {k:Nat} {e:TypeId} {w w':H} {base:Nat} {v:X} {l:List α} {row:Option Nat} (h:ae enc k e w base v l) (g:w.grownBy w' row) (f:v.ownBlock=none\/v.ownBlock≠row):ae enc k e w' base v l:=World.ownsRow.kept h g f
theorem iV {α β : Type} {enc: α -> List X} {n: β -> List X} {k L:Nat} {e C:TypeId} {w:H} {base f:Nat} {v E:X} {l:List α} {R:List β} (h:ae enc k e w base v l) (F:ae n L C w f E R) (u:e≠C):v.ownBlock=none\/v.ownBlock≠E.ownBlock:=by
 rcases h.2 with ⟨r,_⟩|⟨g,cap,cur,r,_,hg,_⟩
 ·exact oL (by rw[r];rfl)
 ·rcases F.2 with ⟨j,_⟩|⟨g',cap',cur',j,_,hg',_⟩
  ·refine oR ?_
   rw[r,j];intro k;cases k
  ·refine oR ?_
   rw[r,j]
   intro k
   have:g=g':=by simpa[Value.ownBlock] using k
   subst this
   rw[hg] at hg'
   simp at hg'
   exact u hg'.2
theorem Gps.more {w w':H} {B:Nat} {v r:X} {f:List Grp} {n:Int} (h:Gps w B v f) (E:ae fB 2 336 w' B r (f++[⟨n,none,0,[]⟩])) (C:w.grownBy w' v.ownBlock):Gps w' B r (f++[⟨n,none,0,[]⟩]):=by
 refine ⟨E,fun g j=> ?_,?_⟩
 ·rcases List.mem_append.1 j with k|k
  ·exact (h.each g k).keep C (iV (h.each g k) h.own (by decide))
  ·rw[List.mem_singleton.1 k];exact ae.nil _ _ _ _ _
 ·refine List.pairwise_append.2 ⟨h.apart,List.pairwise_singleton _ _,fun a _ b u=> ?_⟩
  rw[List.mem_singleton.1 u]
  intro x _ k
  cases k
theorem pC:∀(j:List Grp) (i:Nat) (hi:i<j.length) (f:Grp),f.n=j[i].n->aL fB (j.set i f)=(aL fB j).set (i*2+1) f.v
 | g::t,0,_,f,h=>by
  have k:f.n=g.n:=h
  simp[aL,fB,k]
 | g::t,i+1,hi,f,h=>by
  have ih:=pC t i (by simpa using hi) f (by simpa using h)
  have e:(i+1)*2+1=(i*2+1)+2:=by omega
  simp only[aL,yS,List.flatMap_cons] at ih ⊢
  rw[ih,e]
  rfl
theorem xH {w:H} {B:Nat} {v:X} {f:List Grp} {i:Nat} (hi:i<f.length) {g':Grp} (C:g'.n=f[i].n) (h:ae fB 2 336 w B v f) {G:Nat} (k:v.ownBlock=some G):ae fB 2 336 (w.setCell ⟨G,i*2+1,none⟩ g'.v) B v (f.set i g'):=by
 refine ⟨aW dt _,?_⟩
 rcases h.2 with ⟨r,E⟩|⟨g,cap,cur,r,hb,hg,hle,hcm,hcs,htk⟩
 ·rw[r] at k;cases k
 ·rw[r] at k
  have:g=G:=by simpa[Value.ownBlock] using k
  subst this
  refine oR ⟨g,cap,cur.setIfInBounds (i*2+1) g'.v,by rw[r,List.length_set],hb,?_,by rw[List.length_set];exact hle,hcm,by simpa using hcs,?_⟩
  ·have j:=lt_of_block hg
   have u:w.heap[g]= O cur 336 (0,0):=by simpa[Array.getElem?_eq_getElem j] using hg
   show (w.heap.modify g _)[g]? = _
   rw[Array.getElem?_eq_getElem (by simpa using j),Array.getElem_modify_self,u]
   rfl
  ·rw[List.length_set,pC f i hi g' C,<-htk]
   simp[List.take_set]
theorem lu (W:H) (a:U) (u:X):W.grownBy (W.setCell a u) (some a.block) :=
 ⟨rfl,rfl,rfl,by simp[World.setCell],fun j _ f=>Below.heap_setCell _ _ _ _ (fun e=>f (by rw[e]))⟩
theorem Gps.item {w w':H} {B:Nat} {v:X} {f:List Grp} (h:Gps w B v f) {i:Nat} (hi:i<f.length) {g':Grp} (hn:g'.n=f[i].n) (ho:ae aD 2 151 w' B g'.v g'.l) (hg:w.grownBy w' f[i].v.ownBlock) (an:g'.v.ownBlock=f[i].v.ownBlock\/g'.v.ownBlock=some w.heap.size) {G:Nat} (hG:v.ownBlock=some G) :
  Gps (w'.setCell ⟨G,i*2+1,none⟩ g'.v) B v (f.set i g'):=by
 have a1:f[i]∈f:=gM hi
 have r:=h.own.keep hg (iV h.own (h.each _ a1) (by decide))
 have hap:=List.pairwise_iff_getElem.1 h.apart
 have L:∀(a b:Nat) (C:a<f.length) (hb:b<f.length),a≠b->Two f[a] f[b]:=fun a b C hb ao=>by
  rcases Nat.lt_or_ge a b with k|k
  ·exact hap a b C hb k
  ·intro x E u
   exact hap b a hb C (by omega) x u E
 have a2:∀(a:Nat) (C:a<f.length) x,f[a].v.ownBlock=some x->x<w.heap.size:=fun a C x e=>(World.ownsRow.lt (h.each _ (gM C)) x e).2
 have F:∀(a:Nat) (C:a<f.length),a≠i->Two f[a] g'/\Two g' f[a]:=fun a C ao=>by
  have k:∀x,f[a].v.ownBlock=some x->g'.v.ownBlock≠some x:=fun x E u=>by
   rcases an with e|e
   ·rw[e] at u;exact L a i C hi ao x E u
   ·rw[e] at u
    have:=a2 a C x E
    have:w.heap.size=x:=by simpa using u
    omega
  exact ⟨k,fun x E u=>k x u E⟩
 refine ⟨xH hi hn r hG,fun g a0=> ?_,?_⟩
 ·obtain ⟨j,hj,rfl⟩:=List.mem_iff_getElem.1 a0
  have ah:j<f.length:=by simpa using hj
  rw[List.getElem_set]
  by_cases e:i=j
  ·rw[if_pos e]
   have:=iV ho r (by decide)
   rw[hG] at this
   exact ho.keep (lu _ _ _) this
  ·rw[if_neg e]
   have k1:=(h.each _ (gM ah)).keep hg (by
    cases u:f[j].v.ownBlock with
    | none=>exact oL rfl
    | some x=>exact oR (fun e3=>L j i ah hi (fun k=>e k.symm) x u e3.symm))
   have:=iV k1 r (by decide)
   rw[hG] at this
   exact k1.keep (lu _ _ _) this
 ·refine List.pairwise_iff_getElem.2 fun a b C hb ap=> ?_
  have R:a<f.length:=by simpa using C
  have ad:b<f.length:=by simpa using hb
  rw[List.getElem_set,List.getElem_set]
  by_cases E:i=a
  ·rw[if_pos E,if_neg (by omega)]
   exact (F b ad (by omega)).2
  ·rw[if_neg E]
   by_cases u:i=b
   ·rw[if_pos u]
    exact (F a R (by omega)).1
   ·rw[if_neg u]
    exact hap a b R ad ap
end
section
open Go.Maps

theorem ms (w:H) {ops:Array Oper} {f:List Oper} {o:Oper} {a:Act} {Q:Exit->Act->H->Prop} (n:o.guard=none) (s x:Operand)
  (R:o.op= .call { callee:= .builtin .append,args:= #[s,x],argTypes:= #[331,331] })
  (base:Nat) (v:X) (l m:List Grp) (A:Option U) (cap:Nat) (hs:a.eval s=v) (hx:a.eval x= I A m.length cap) (j:ae fB 2 336 w base v l) (hr:az fB 2 w A m) (E:A=none->cap=0)
  (r:l.length+m.length<=maxLen) (L:(l.length+m.length)*32<=140737488355328) (g:base<=w.heap.size)
  (h:∀k w',ae fB 2 336 w' base k (l++m)->w.grownBy w' v.ownBlock->wpList Z ops Q f (a.put o.dst k) w'):wpList Z ops Q (o::f) a w :=
 wpList_plain n fun _ F=>cU dt zm (by omega) 331 Tryz.underlying331 (.agg #[.int V 0,I none 0 0]) 32 Tryz.infoP rfl w s x R base v l m A cap hs hx j hr E r L g fun k w' u C=>F _ _ (h k w' u C)
theorem eZ (w:H) {ops:Array Oper} {o:Oper} {a:Act} {K:Act->H->Prop} {Q:Exit->Act->H->Prop} {E:Prop} (k:o.guard=none) (s z:Operand)
  (ho:o.op= .call { callee:= .builtin .append,args:= #[s,z],argTypes:= #[59,59] })
  (base:Nat) (v:X) (l:List Itm) (x:Itm) (A:U) (cap:Nat) (hs:a.eval s=v) (hz:a.eval z= I (some A) 1 cap) (j:ae aD 2 151 w base v l) (hr:az aD 2 w (some A) [x])
  (n:l.length+1<=maxLen) (hb:(l.length+1)*32<=140737488355328) (g:base<=w.heap.size)
  (h:∀f w',ae aD 2 151 w' base f (l++[x])->w.grownBy w' v.ownBlock->(f.ownBlock=v.ownBlock\/f.ownBlock=some w.heap.size)->K (a.put o.dst f) w') :
  if Region.wanted o (yielded ops a.tmps)=true then Oper.wp Z o a w K Q else E:=by
 have hw:Region.wanted o (yielded ops a.tmps)=true:=by simp[Region.wanted,k]
 rw[if_pos hw]
 obtain ⟨i0,hi,r,C,F⟩:=info_parts Tryz.infoT2
 obtain ⟨f,w',L,R,g3,_,g5⟩:=run_append_own_at (P:=Z) w base 59 o.type 151 i0 (.agg #[I none 0 0,.int V 0]) 2 32 Tryz.underlying59 hi r C F rfl (by omega) v l.length (aL aD l) j A 1 cap (aL aD [x]) (aW bz [x]) (hr.cells bz (by omega)) (fun u hu=>ec fC u [x] hu) n hb g
 have h2:ae aD 2 151 w' base f (l++[x]):=by
  show w'.ownsRow base _ 2 f (l++[x]).length (aL aD (l++[x]))
  rw[List.length_append,cH]
  exact R
 unfold Oper.wp execOp
 simp only[ho,resolve,invoke,builtin,Sem.run_bind,Sem.run_pure,Result.andThen_ok,List.map_toArray,List.map_cons,List.map_nil,hs,hz,L]
 exact h f w' h2 g3 g5

theorem sL:∀ {G:List (Int×List Zit)} {n:Int} {x:Zit},(∀g∈G,g.1≠n)->fM G n x=G++[(n,[x])]
 | [],_,_,_=>rfl
 | g::t,n,x,h=>by
  have f:=h g (mS ..)
  have ih:=sL (x:=x) (fun y j=>h y (mC _ j))
  simp only[fM,if_neg f,ih,List.cons_append]
theorem vI:∀ {G:List (Int×List Zit)} {n:Int} {x:Zit} {i:Nat} (hi:i<G.length),G[i].1=n->G.Pairwise (fun a b=>a.1≠b.1)->fM G n x=G.set i (n,G[i].2++[x])
 | g::t,n,x,0,_,h,_=>by
  have k:g.1=n:=h
  simp[fM,k]
 | g::t,n,x,i+1,hi,h,hp=>by
  have j:=List.pairwise_cons.1 hp
  have f:i<t.length:=by simpa using hi
  have k:t[i].1=n:=by simpa using h
  have r:g.1≠n:=by rw[<-k];exact j.1 _ (gM f)
  have ih:=vI (x:=x) f k j.2
  simp only[fM,if_neg r,ih,yS,List.getElem_cons_succ]
theorem xg {l:List Itm} {k:Nat} (h:k<l.length) (c:Int):oI ((l.take (k+1)).map Itm.z) c=fM (oI ((l.take k).map Itm.z) c) (atI l[k].r c) l[k].z:=by
 rw[List.take_succ_eq_append_getElem h,List.map_append]
 unfold oI
 rw[List.foldl_append]
 rfl

structure Plc (D:DataW Unit) (gs:List Grp):Prop where
 has:∀n:Int,Maps.has D (.int V n)=gs.any (fun g=>decide (g.n=n))
 pos:∀i (hi:i<gs.length),D.atKey (.int V gs[i].n) (.lit (.int V 0))= .lit (.int V i)
 uniq:gs.Pairwise fun a b=>a.n≠b.n
 map:IsMap D
theorem Plc.nil:Plc (.map []) []:=⟨fun n=>rfl,fun i hi=>absurd hi (by simp),List.Pairwise.nil,⟨[],rfl⟩⟩
theorem Plc.set {D:DataW Unit} {f:List Grp} (h:Plc D f) {i:Nat} (hi:i<f.length) {g':Grp} (E:g'.n=f[i].n):Plc D (f.set i g'):=by
 have r:(f.set i g').map (·.n)=f.map (·.n):=by
  apply List.ext_getElem (by simp)
  intro j F R
  simp only[List.getElem_map,List.getElem_set]
  split
  ·rename_i e;subst e;exact E
  ·rfl
 refine ⟨fun n=> ?_,fun j u=> ?_,?_,h.map⟩
 ·rw[h.has n]
  have e:∀L:List Grp,L.any (fun g=>decide (g.n=n))=(L.map (·.n)).any (fun m=>decide (m=n)):=fun L=>by rw[List.any_map];rfl
  rw[e,e,r]
 ·have k:j<f.length:=by simpa using u
  have e:(f.set i g')[j].n=f[j].n:=by
   have:=congrArg (·[j]?) r
   simp only[List.getElem?_map,List.getElem?_eq_getElem u,List.getElem?_eq_getElem k,Option.map_some] at this
   exact sI this
  rw[e];exact h.pos j k
 ·have e:∀L:List Grp,(L.map (·.n)).Pairwise (· ≠ ·)->L.Pairwise fun a b=>a.n≠b.n:=fun L C=>List.pairwise_map.1 C
  apply e
  rw[r]
  exact List.pairwise_map.2 h.uniq
theorem Plc.more {D:DataW Unit} {r:List Grp} (h:Plc D r) {n:Int} (u:Maps.has D (.int V n)=false):Plc (D.put (.int V n) (.lit (.int V r.length))) (r++[⟨n,none,0,[]⟩]):=by
 have f:∀g∈r,g.n≠n:=fun g R e=>by
  rw[h.has n] at u
  have:=List.any_eq_false.1 u g R
  simp[e] at this
 refine ⟨fun m=> ?_,fun j hj=> ?_,?_,?_⟩
 ·rw[List.any_append]
  by_cases e:m=n
  ·subst e
   rw[has_put_same h.map (show WideAt.IsKeyLit (.int V m) from trivial)]
   simp
  ·rw[has_put_other (fun k=>e (by cases k;rfl)),h.has m]
   have:decide (n=m)=false:=by simpa using fun k=>e k.symm
   simp[this]
 ·by_cases e:j<r.length
  ·rw[List.getElem_append_left e]
   rw[atKey_put_other (fun k=>f _ (List.getElem_mem e) (by cases k;rfl))]
   exact h.pos j e
  ·have C:j=r.length:=by simp at hj;omega
   subst C
   rw[List.getElem_append_right (Nat.le_refl _)]
   simp only[Nat.sub_self,List.getElem_cons_zero]
   exact atKey_put_same h.map (show WideAt.IsKeyLit (.int V n) from trivial) _ _
 ·exact List.pairwise_append.2 ⟨h.uniq,List.pairwise_singleton _ _,fun a E b F=>by rw[List.mem_singleton.1 F];exact f a E⟩
 ·obtain ⟨es,L⟩:=h.map
  rw[L]
  exact ⟨_,rfl⟩
theorem Plc.find {D:DataW Unit} {f:List Grp} (h:Plc D f) {n:Int} (k:Maps.has D (.int V n)=true):∃i,∃hi:i<f.length,f[i].n=n/\D.atKey (.int V n) (.lit (.int V 0))= .lit (.int V i):=by
 rw[h.has n] at k
 obtain ⟨g,r,e⟩:=List.any_eq_true.1 k
 obtain ⟨i,hi,rfl⟩:=List.mem_iff_getElem.1 r
 have j:f[i].n=n:=by simpa using e
 exact ⟨i,hi,j,by rw[<-j];exact h.pos i hi⟩
theorem C7 {W:H} {n:Nat} (h:W.heap.size=n) (m:Int) (T:TypeId):az fB 2 (W.alloc (O #[.int V m,I none 0 0] T)) (some ⟨n,0,none⟩) [⟨m,none,0,[]⟩]:=by
 subst h
 refine oR ⟨W.heap.size,0,rfl,by simp,fun j g i hi=> ?_⟩
 obtain rfl:j=0:=by simp at g;omega
 have f:i=0\/i=1:=by omega
 rcases f with rfl|rfl
 ·exact aa (w:=W) (gR _) (j:=0) rfl
 ·exact aa (w:=W) (gR _) (j:=1) rfl
theorem zM:Keyed Z 3:=int_keyed Tryz.underlying3
theorem vV (w:H):(zeroValue 3).run Z w= .ok (.int V 0) w:=by kernel_rfl
theorem wfN {n:Int} (h:okN n=true):(Lit.int V n).wf=true:=by
 simp only[okN,inB,Bool.and_eq_true,decide_eq_true_eq] at h
 exact WalkArith.wf_i64 ⟨by omega,by omega⟩
theorem uu {r:List Int} (h:okR r=true) {c:Int}:okN (atI r c)=true:=by
 unfold okR at h
 simp only[Bool.and_eq_true,List.all_eq_true] at h
 unfold atI
 rw[List.getD_eq_getElem?_getD]
 cases e:r[c.toNat]? with
 | none=>rfl
 | some y=>exact h.2 y (List.mem_of_getElem? e)
end
section
open Go.Maps

theorem Gps.kept {w w':H} {B m:Nat} {v:X} {j:List Grp} (h:Gps w B v j) (E:w.grownBy w' (some m)) (F:m<B):Gps w' B v j:=by
 have k:∀ {α : Type} {enc: α -> List X} {n:Nat} {e:TypeId} {u:X} {l:List α},ae enc n e w B u l->ae enc n e w' B u l:=fun {α enc n e u l} r=>r.keep E (oR (fun C=>by have:=(World.ownsRow.lt r m C).1;omega))
 exact ⟨k h.own,fun g f=>k (h.each g f),h.apart⟩
theorem Below.kept {B m:Nat} {a w w':H} (h:Y B a w) (f:w.grownBy w' (some m)) (k:B<=m) (n:B<=w.heap.size):Y B a w':=h.grown f n (fun j g=>by cases g;exact k)
structure GInv (w wr:H) (l:List Itm) (c:Int) (k:Nat) (u:X) (gs:List Grp) (D:DataW Unit):Prop where
 z:List.map Grp.z gs=oI ((l.take k).map Itm.z) c
 gps:Gps wr (w.heap.size+1) u gs
 sub:∀g∈gs,g.l.length<=k/\∀x∈g.l,x∈l
 plc:Plc D gs
 map:wr.ownsMap Z 3 (plainElem Z 3) w.heap.size k D
 bel:Y w.heap.size w wr
 len:gs.length<=k
 size:w.heap.size+1<=wr.heap.size

structure MidG (w W:H) (l:List Itm) (c:Int) (k G gc:Nat) (gs:List Grp) (i:Nat) (g:Grp) (D:DataW Unit) (x:Itm) (xb:Nat):Prop where
 gps:Gps W (w.heap.size+1) (I (some ⟨G,0,none⟩) gs.length gc) gs
 at_:gs[i]? = some g
 z:∀g':Grp,g'.n=g.n->g'.l=g.l++[x]->(gs.set i g').map Grp.z=oI ((l.take (k+1)).map Itm.z) c
 sub:∀g∈gs,g.l.length<=k/\∀y∈g.l,y∈l
 xin:x∈l
 plc:Plc D gs
 map:W.ownsMap Z 3 (plainElem Z 3) w.heap.size (k+1) D
 bel:Y w.heap.size w W
 len:gs.length<=k+1
 size:w.heap.size+1<=W.heap.size
 blk:∀b,g.v.ownBlock=some b->b≠xb
 xlt:xb<W.heap.size
theorem MidG.hi {w W:H} {l:List Itm} {c:Int} {k G j:Nat} {f:List Grp} {i:Nat} {g:Grp} {D:DataW Unit} {x:Itm} {n:Nat} (h:MidG w W l c k G j f i g D x n):∃hi:i<f.length,f[i]=g:=by
 obtain ⟨hi,e⟩:=List.getElem?_eq_some_iff.1 h.at_
 exact ⟨hi,e⟩
theorem MidG.own {w W:H} {l:List Itm} {c:Int} {k G f:Nat} {j:List Grp} {i:Nat} {g:Grp} {D:DataW Unit} {x:Itm} {n:Nat} (h:MidG w W l c k G f j i g D x n):ae aD 2 151 W (w.heap.size+1) (I g.p g.l.length g.c) g.l:=by
 obtain ⟨hi,rfl⟩:=h.hi
 exact h.gps.each _ (gM hi)
theorem MidG.cell {w W:H} {l:List Itm} {c:Int} {k G n:Nat} {r:List Grp} {i:Nat} {g:Grp} {D:DataW Unit} {x:Itm} {R:Nat} (h:MidG w W l c k G n r i g D x R):W.cell? ⟨G,i*2+1,none⟩=some (I g.p g.l.length g.c)/\G<W.heap.size/\w.heap.size<G:=by
 obtain ⟨hi,rfl⟩:=h.hi
 obtain ⟨A,cp,j,_,F,C⟩:=h.gps.own.row dt
 simp only[Value.slice.injEq] at j
 obtain ⟨u,_,_⟩:=j
 subst u
 obtain ⟨b,L,e,_,E⟩:=F.at hi
 cases e
 have:=E i hi 1 (by omega)
 have f:=C _ rfl
 exact ⟨by simpa[fB,Grp.v] using this,f.2,f.1⟩
theorem MidG.done {w W:H} {l:List Itm} {c:Int} {k G gc:Nat} {gs:List Grp} {i:Nat} {g:Grp} {D:DataW Unit} {x:Itm} {xb:Nat} (h:MidG w W l c k G gc gs i g D x xb) {o:Obj} {w3:H} {C:Option U} {u:Nat}
  (ho:ae aD 2 151 w3 (w.heap.size+1) (I C (g.l++[x]).length u) (g.l++[x])) (hg:(W.alloc o).drew.grownBy w3 (Value.slice g.p g.l.length g.c).ownBlock) (L:(Value.slice C (g.l++[x]).length u).ownBlock=(Value.slice g.p g.l.length g.c).ownBlock\/(Value.slice C (g.l++[x]).length u).ownBlock=some (W.alloc o).drew.heap.size) :
  GInv w (w3.setCell ⟨G,i*2+1,none⟩ (I C (g.l++[x]).length u)) l c (k+1) (I (some ⟨G,0,none⟩) gs.length gc) (gs.set i ⟨g.n,C,u,g.l++[x]⟩) D:=by
 obtain ⟨_,ao,ah⟩:=h.cell
 obtain ⟨hi,f⟩:=h.hi
 have r:Gr W (W.alloc o).drew:=((gR _).alloc _).drew
 have ad:=h.gps.gr r
 have R:=h.own
 have F:∀b,(Value.slice g.p g.l.length g.c).ownBlock=some b->w.heap.size<b:=fun b e=>(World.ownsRow.lt R b e).1
 have E:Y w.heap.size w w3:=(h.bel.trans (r.below.mono h.bel.size)).grown hg (nT h.bel.size r.size) (fun j ej=>Nat.le_of_lt (F j ej))
 have an:=ad.item hi (g':=⟨g.n,C,u,g.l++[x]⟩) (by rw[f]) ho (by rw[f];exact hg) (by rw[f];exact L) (G:=G) rfl
 refine ⟨h.z _ rfl rfl,an,fun y hy=> ?_,h.plc.set hi (by rw[f]),?_,E.setCell (Nat.le_of_lt ah) _,by rw[List.length_set];exact h.len,?_⟩
 ·rcases List.mem_or_eq_of_mem_set hy with k1|k1
  ·have:=h.sub y k1
   exact ⟨by omega,this.2⟩
  ·subst k1
   have:=h.sub g (by rw[<-f];exact gM hi)
   refine ⟨by simp;omega,fun z hz=> ?_⟩
   rcases List.mem_append.1 hz with e|e
   ·exact this.2 z e
   ·rw[List.mem_singleton.1 e];exact h.xin
 ·have m1:=(h.map.alloc o).drew
  have m2:=m1.kept hg (fun e=>by have:=F _ e.symm;omega)
  exact m2.kept (lu _ _ _) (fun e=>by simp at e;omega)
 ·have h1:=h.size
  have h2:=r.size
  have h3:=hg.size
  simp[World.setCell]
  omega

theorem jY (l:List Itm) (A:Option U) (cap:Nat) (c:Int) (w:H) (hl:l.length<=400) (hr:Items w A l) (hc:∀x∈l,inB c 0 ((x.r.length:Int)-1)=true) (dG:∀x∈l,okR x.r=true) :
  ia Z 275 #[I A l.length cap,.int V c] w fun e w'=>∃(gs:List Grp) (v:X) (D:DataW Unit),e= N (.tuple #[v,.map (some w.heap.size)])/\GInv w w' l c l.length v gs D:=by
 have e3:=ja1 hr
 have er:=ja1 hc
 have ey:=ja1 dG
 clear hr hc dG
 have f3:= @run_makeMap Z
 go_enter Tryz.func275,Tryz.ntmps275
 go_wp2
 go_loopw [6,16] (fun u i wr=>∃(k:Nat) (gs:List Grp) (D:DataW Unit),k<=l.length/\i= .int V k/\J (GInv w wr l c k u gs D)) (fun _ i _=>l.length-(intOf i).toNat)
 case atStart=>exact ⟨0,[],.map [],nZ _,rfl,show GInv _ _ _ _ _ _ _ _ from ⟨rfl,Gps.nil _ _,fun g hg=>(by cases hg),Plc.nil,World.ownsMap_made _ _ _ _,(bR _ _).alloc (nR _) _,nR _,by simp⟩⟩
 case round =>
  obtain ⟨k,gs,D,hk,rfl,hR⟩:=hrel
  by_cases ce:k<l.length
  ·have ds:(k:Int)<(l.length:Int):=by omega
   have hI:=ja1 (e3.out.below hR.out.bel)
   obtain ⟨bb,f4,rfl,hb,dl⟩:=hI.out.at ce
   obtain ⟨x,hx⟩:∃x,l[k]=x:=⟨_,rfl⟩
   obtain ⟨e0,e1⟩:=dl k ce
   rw[hx] at e0 e1
   have cd:x∈l:=by rw[<-hx];exact gM ce
   obtain ⟨rb,ro,cn,hp,e4,es,a7,bo⟩:=iY (hI.out.each x cd).1 (er.out x cd)
   have c4:J (oI ((l.take (k+1)).map Itm.z) c=fM (oI ((l.take k).map Itm.z) c) (atI x.r c) x.z):=by show _=_;rw[xg ce,hx]
   have d5:=ja1 cd
   obtain ⟨nn,c2⟩:∃nn,atI x.r c=nn:=⟨_,rfl⟩
   have bl:keyOf Z 3 (.int V nn)=some (.int V nn):=keyOf_int_mk Tryz.underlying3 (by rw[<-c2];exact wfN (uu (ey.out x cd)))
   rw[c2] at bo c4
   rw[hp] at e0
   have a4:J (Gr wr (wr.alloc (O #[I (some ⟨rb,ro,none⟩) x.r.length x.c,.int V x.n] 151))):=(gR _).alloc _
   have y0:(wr.alloc (O #[I (some ⟨rb,ro,none⟩) x.r.length x.c,.int V x.n] 151)).cell? ⟨rb,ro+cn,none⟩=some (.int V nn):=(a4.out.cell (p:=⟨rb,ro+cn,none⟩) e4).trans bo
   have f1:(cn:Int)<(x.r.length:Int):=by omega
   have d0:=ja1 hp
   obtain rfl:=es
   clear dl hx cd c2 hp bo a7
   have bG:J ((wr.alloc (O #[I (some ⟨rb,ro,none⟩) x.r.length x.c,.int V x.n] 151)).ownsMap Z 3 (plainElem Z 3) w.heap.size k D):=hR.out.map.alloc _
   cases be:Maps.has D (.int V nn)
   ·have b6:=ja1 (hR.out.plc.more be)
    obtain ⟨GA,bt,hu,em,en,eg⟩:=hR.out.gps.own.row dt
    have f2:(gs.length:Int)<=400:=by have:=hR.out.len;omega
    have d4:=ja1 hu
    have dz:J (∀W,Y wr.heap.size wr W->Gps W (w.heap.size+1) (I GA gs.length bt) gs):=fun W hW=>by rw[<-d4.out];exact hR.out.gps.below hW
    subst hu
    clear em en eg
    have cf:J (some wr.heap.size≠some w.heap.size):=fun e=>by have:=hR.out.size;simp at e;omega
    have f0:(Lit.int V gs.length).wf=true:=WalkArith.wf_i64 ⟨by omega,by omega⟩
    go_wp2_with (first
     | (at_lookup;refine wpList_lookup_own_ok_int _ rfl _ _ 332 rfl 3 3 V zM Tryz.underlying332 Tryz.underlying3 (vV _) w.heap.size k _ rfl bG.out _ _ rfl bl ?_;intro c' ep c5)
     | (at_mapUpdate;refine wpList_mapUpdate_own _ rfl _ _ _ 332 rfl 3 3 zM Tryz.underlying332 _ w.heap.size k _ rfl bG.out (by unfold maxLen;omega) _ _ _ rfl rfl bl _ [] (plainElem_int Tryz.underlying3 f0) ?_;intro w1 b7 an;have b2:J (Gps (w1.alloc (O #[.int V nn,I none 0 0] 336)) (w.heap.size+1) (I GA gs.length bt) gs):=((dz.out _ a4.out.below).kept an (Nat.lt_succ_self _)).gr ((gR _).alloc _);have c7:J ((w1.alloc (O #[.int V nn,I none 0 0] 336)).ownsMap Z 3 (plainElem Z 3) w.heap.size (k+1) (D.put (.int V nn) (.lit (.int V gs.length)))):=b7.alloc _;have a2:J (Y w.heap.size w w1/\w.heap.size+1<=w1.heap.size/\wr.heap.size<w1.heap.size):=⟨Below.kept (hR.out.bel.trans (a4.out.below.mono hR.out.bel.size)) an (nR _) (nT hR.out.bel.size a4.out.size),nT hR.out.size (nT a4.out.size an.size),nL (by simp) an.size⟩;have cu:J (w1.cell? ⟨wr.heap.size,0,none⟩=some (I (some ⟨rb,ro,none⟩) x.r.length x.c)/\w1.cell? ⟨wr.heap.size,1,none⟩=some (.int V x.n)):=⟨(World.cell?_of_block (a:=⟨wr.heap.size,0,none⟩) (an.block _ (by simp) (cf.out))).trans (aa (gR _) rfl),(World.cell?_of_block (a:=⟨wr.heap.size,1,none⟩) (an.block _ (by simp) (cf.out))).trans (aa (gR _) rfl)⟩;have c9:J (w1.heap[wr.heap.size]? = some (O #[I (some ⟨rb,ro,none⟩) x.r.length x.c,.int V x.n] 151)):=(an.block _ (by simp) cf.out).trans (MapKept.heap_alloc _ _).1;clear b7 an)
     | (at_builtin;refine ms _ rfl (d 38) (d 41) rfl (w.heap.size+1) (I GA gs.length bt) gs [⟨nn,none,0,[]⟩] (some ⟨w1.heap.size,0,none⟩) 1 rfl rfl b2.out.own (C7 rfl nn _) (fun h=>by cases h) (by unfold maxLen;simp;omega) (by simp;omega) (nT a2.out.2.1 (by simp)) ?_;intro v2 w2 ba a8)
     | fail)
    obtain ⟨d6,gc,e5,_,b8,_,b3,_⟩:=ba.full dt
    obtain ⟨G,cm,cs,_,_⟩:=b8.at (m:=0) (by simp)
    subst cs
    have c3:cm=0:=(b3 _ rfl).2.2.1
    subst c3
    subst e5
    have bC:some wr.heap.size≠(Value.slice GA gs.length bt).ownBlock:=fun e=>by
     have:=(World.ownsRow.lt hR.out.gps.own wr.heap.size e.symm).2
     omega
    have bN:w2.cell? ⟨wr.heap.size,0,none⟩=some (I (some ⟨rb,ro,none⟩) x.r.length x.c):=(World.cell?_of_block (a:=⟨wr.heap.size,0,none⟩) (a8.block _ (nL a2.out.2.2 (by simp)) bC)).trans ((((gR _).alloc _).below.cell (p:=⟨wr.heap.size,0,none⟩) a2.out.2.2).trans cu.out.1)
    have b0:w2.cell? ⟨wr.heap.size,1,none⟩=some (.int V x.n):=(World.cell?_of_block (a:=⟨wr.heap.size,1,none⟩) (a8.block _ (nL a2.out.2.2 (by simp)) bC)).trans ((((gR _).alloc _).below.cell (p:=⟨wr.heap.size,1,none⟩) a2.out.2.2).trans cu.out.2)
    obtain ⟨g,a9⟩:∃g:Grp,g=⟨nn,none,0,[]⟩:=⟨_,rfl⟩
    obtain ⟨D2,cr⟩:∃D2,D.put (.int V nn) (.lit (.int V gs.length))=D2:=⟨_,rfl⟩
    have E:J (MidG w w2 l cn k G gc (gs++[⟨nn,none,0,[]⟩]) gs.length g D2 x wr.heap.size):=by
     refine ⟨b2.out.more ba a8,by rw[a9];simp,fun g' hn b5=> ?_,fun y hy=> ?_,d5.out,by rw[<-cr];exact b6.out,?_,?_,by have:=hR.out.len;simp;omega,?_,(fun b hb=>(by rw[a9] at hb;cases hb)),?_⟩
     ·rw[c4.out,<-hR.out.z,sL]
      ·rw[a9] at hn b5
       rw[List.set_append_right _ _ (Nat.le_refl _)]
       simp[Grp.z,hn,b5]
      ·intro y hy
       obtain ⟨g2,dp,rfl⟩:=List.mem_map.1 hy
       intro e
       have h1:=hR.out.plc.has nn
       rw[be] at h1
       have:=List.any_eq_false.1 h1.symm g2 dp
       simp at this
       exact this e
     ·rcases List.mem_append.1 hy with e|e
      ·exact hR.out.sub y e
      ·rw[List.mem_singleton.1 e];exact ⟨nZ _,fun z hz=>by cases hz⟩
     ·rw[<-cr]
      exact c7.out.kept a8 (fun e=>by have:=(World.ownsRow.lt b2.out.own _ e.symm).1;omega)
     ·exact (a2.out.1.alloc a2.out.1.size _).grown a8 (nT a2.out.1.size (by simp)) (fun j ej=>by have:=(World.ownsRow.lt b2.out.own _ ej).1;omega)
     ·exact nT a2.out.2.1 (nT (by simp) a8.size)
     ·exact nL a2.out.2.2 (nT (by simp) a8.size)
    have bn:J (G≠wr.heap.size):=fun e=>by
     have h1:=ba
     rcases h1.2 with ⟨hv,_⟩|⟨g2,cap2,cur2,hv,_,hgc,_⟩
     ·cases hv
     ·have e2:G=g2:=by have h3:=hv;simp at h3;exact h3.1
      subst e2
      subst e
      have h2:=((a8.block _ (nL a2.out.2.2 (by simp)) bC).trans (Below.heap_alloc _ _ _ a2.out.2.2)).trans c9.out
      rw[hgc] at h2
      simp at h2
    obtain ⟨a5,cl⟩:∃a5,gs++[(⟨nn,none,0,[]⟩:Grp)]=a5:=⟨_,rfl⟩
    rw[cl] at E ⊢
    obtain ⟨i,bh⟩:∃i,gs.length=i:=⟨_,rfl⟩
    obtain ⟨xb,b9⟩:∃xb,wr.heap.size=xb:=⟨_,rfl⟩
    rw[bh] at E ⊢
    rw[b9] at E bN b0 bn ⊢
    clear ba a8 b8 b3 bC a9 cr cl b2 c7 a2 cu c9 bG b6 be ep c5 bl y0 e0 e1 bh b9 d4 dz cf a4 hI
    have a7:=E.out.cell
    have e6:w2.cell? ⟨G,i*2+1,none⟩=some (I g.p g.l.length g.c):=a7.1
    have bd:=ja1 a7.2
    obtain ⟨c0,c6⟩:=E.out.hi
    have ex:(i:Int)<(a5.length:Int):=by omega
    have bp:J (g.l.length<=k):=(E.out.sub g (by obtain ⟨a,b⟩:=E.out.hi;rw[<-b];exact gM a)).1
    have F:J (Gr w2 (w2.alloc (O #[I (some ⟨rb,ro,none⟩) x.r.length x.c,.int V x.n] 151)).drew):=((gR _).alloc _).drew
    have f:J (∀W',Gr w2 W'->(fun w'=>w'.cell? ⟨G,i*2+1,none⟩=some (I g.p g.l.length g.c)/\w'.cell? ⟨xb,0,none⟩=some (I (some ⟨rb,ro,none⟩) x.r.length x.c)/\w'.cell? ⟨xb,1,none⟩=some (.int V x.n)) W'):=fun W' h=>⟨(h.below.cell (p:=⟨G,i*2+1,none⟩) bd.out.1).trans e6,(h.below.cell (p:=⟨xb,0,none⟩) E.out.xlt).trans bN,(h.below.cell (p:=⟨xb,1,none⟩) E.out.xlt).trans b0⟩
    have ao:J (Gr w2 w2.drew):=(gR _).drew
    have ap:J (ae aD 2 151 (w2.alloc (O #[I (some ⟨rb,ro,none⟩) x.r.length x.c,.int V x.n] 151)).drew (w.heap.size+1) (I g.p g.l.length g.c) g.l/\az aD 2 (w2.alloc (O #[I (some ⟨rb,ro,none⟩) x.r.length x.c,.int V x.n] 151)).drew (some ⟨w2.heap.size,0,none⟩) [x]/\g.l.length+1<=maxLen/\(g.l.length+1)*32<=140737488355328/\w.heap.size+1<=(w2.alloc (O #[I (some ⟨rb,ro,none⟩) x.r.length x.c,.int V x.n] 151)).drew.heap.size):=by
     have h1:=bp.out
     refine ⟨E.out.own.gr F.out,?_,by unfold maxLen;omega,by omega,nT E.out.size F.out.size⟩
     rw[<-d0.out]
     exact (dj rfl x _).gr (gR _).drew
    have cv:J (some G≠(Value.slice g.p g.l.length g.c).ownBlock):=fun e=>by
     rcases iV E.out.own E.out.gps.own (by decide) with k1|k1
     ·rw[k1] at e;cases e
     ·exact k1 (by rw[<-e];rfl)
    have bc:J ((⟨G,i*2+1,none⟩:U)≠⟨xb,0,none⟩/\(⟨G,i*2+1,none⟩:U)≠⟨xb,1,none⟩):=⟨fun e=>bn.out (by injection e),fun e=>bn.out (by injection e)⟩
    have a6:J (∀w3,(w2.alloc (O #[I (some ⟨rb,ro,none⟩) x.r.length x.c,.int V x.n] 151)).drew.grownBy w3 (Value.slice g.p g.l.length g.c).ownBlock->(fun w'=>w'.cell? ⟨G,i*2+1,none⟩=some (I g.p g.l.length g.c)/\w'.cell? ⟨xb,0,none⟩=some (I (some ⟨rb,ro,none⟩) x.r.length x.c)/\w'.cell? ⟨xb,1,none⟩=some (.int V x.n)) w3):=fun w3 L=>by
     have hk:=f.out _ F.out
     have b4:some xb≠(Value.slice g.p g.l.length g.c).ownBlock:=fun e=>E.out.blk xb e.symm rfl
     have l1:xb<(w2.alloc (O #[I (some ⟨rb,ro,none⟩) x.r.length x.c,.int V x.n] 151)).drew.heap.size:=nL E.out.xlt F.out.size
     have l2:G<(w2.alloc (O #[I (some ⟨rb,ro,none⟩) x.r.length x.c,.int V x.n] 151)).drew.heap.size:=nL bd.out.1 F.out.size
     exact ⟨(World.cell?_of_block (a:=⟨G,i*2+1,none⟩) (L.block _ l2 cv.out)).trans hk.1,(World.cell?_of_block (a:=⟨xb,0,none⟩) (L.block _ l1 b4)).trans hk.2.1,(World.cell?_of_block (a:=⟨xb,1,none⟩) (L.block _ l1 b4)).trans hk.2.2⟩
    have b1:J (∀w3,(w2.alloc (O #[I (some ⟨rb,ro,none⟩) x.r.length x.c,.int V x.n] 151)).drew.grownBy w3 (Value.slice g.p g.l.length g.c).ownBlock->w3.frozen? ⟨G,i*2+1,none⟩=false):=fun w3 L=>by
     have k1:=(E.out.gps.own.gr F.out).keep L (iV E.out.gps.own E.out.own (by decide))
     obtain ⟨A2,cp,hv,_,_,_,_,hz⟩:=k1.full dt
     simp only[Value.slice.injEq] at hv
     exact hz _ hv.1.symm _
    have ea:w2.drew.cell? ⟨G,i*2+1,none⟩=some (I g.p g.l.length g.c):=(f.out _ ao.out).1
    have eb:(w2.alloc (O #[I (some ⟨rb,ro,none⟩) x.r.length x.c,.int V x.n] 151)).drew.cell? ⟨G,i*2+1,none⟩=some (I g.p g.l.length g.c):=(f.out _ F.out).1
    clear a7 c6 c0
    refine wp_region_noPanic ?_
    refine wp_region_held_drew (S:=(fun w'=>w'.cell? ⟨xb,0,none⟩=some (I (some ⟨rb,ro,none⟩) x.r.length x.c)/\w'.cell? ⟨xb,1,none⟩=some (.int V x.n))) (by kernel_rfl) ((f.out _ ao.out).2) (fun hHeld=> ?_)
    refine tks [0,1,2,3,4,5,7] (by assumption) ?_
    iterate 7 (refine tk (v:= ?_) (by rfl) (by kernel_rfl) ?_ ?_;rotate_left;· (refine oL ⟨by rfl,?_⟩;intro w a3;(try dsimp only at a3);go_simp<;>with_reducible rfl);try simp only[Act.put,yA,aB,yS])
    refine tk0 ?_
    refine wpAnyH_ready (rs:=[6,8]) (by kernel_rfl) (by simp) ?_
    refine AllReadyH.cons (o:= ?oip8) ?hopp8 (fun f5 hK=> ?stepp8) ?morep8
    case hopp8=>(simp only[zA,z0',zS];rfl)
    case morep8 =>
     refine AllReadyH.cons (o:= ?oip9) ?hopp9 (fun f5 hK=> ?stepp9) ?morep9
     case hopp9=>(simp only[zA,z0',zS];rfl)
     case morep9=>exact AllReadyH.nil
     go_simp
     refine hK.out _ _ ?_ (fun hHeld=> ?_)
     ·(try dsimp only);first|with_reducible exact (f.out _ ao.out).2|with_reducible exact (f.out _ F.out).2|with_reducible exact ad.out|exact a1.out _|exact (f.out _ F.out).2
     clear hK f5
     try simp only[Act.put,yA,aB,yS]
     refine wpAnyH_ready (rs:=[6]) (by kernel_rfl) (by simp) ?_
     refine AllReadyH.cons (o:= ?oip10) ?hopp10 (fun f5 hK=> ?stepp10) ?morep10
     case hopp10=>(simp only[zA,z0',zS];rfl)
     case morep10=>exact AllReadyH.nil
     go_simp
     refine hK.out _ _ ?_ (fun hHeld=> ?_)
     ·(try dsimp only);first|with_reducible exact (f.out _ ao.out).2|with_reducible exact (f.out _ F.out).2|with_reducible exact ad.out|exact a1.out _|exact (f.out _ F.out).2
     clear hK f5
     try simp only[Act.put,yA,aB,yS]
     refine wpAnyH_ready (rs:=[9]) (by kernel_rfl) (by simp) ?_
     refine AllReadyH.cons (o:= ?oip11) ?hopp11 (fun f5 hK=> ?stepp11) ?morep11
     case hopp11=>(simp only[zA,z0',zS];rfl)
     case morep11=>exact AllReadyH.nil
     (refine eZ _ rfl (d 49) (d 51) rfl (w.heap.size+1) (I g.p g.l.length g.c) g.l x ⟨w2.heap.size,0,none⟩ 1 rfl rfl ap.out.1 ap.out.2.1 ap.out.2.2.1 ap.out.2.2.2.1 ap.out.2.2.2.2 ?_;intro v3 w3 R L ah;have ad:J (w3.cell? ⟨xb,0,none⟩=some (I (some ⟨rb,ro,none⟩) x.r.length x.c)/\w3.cell? ⟨xb,1,none⟩=some (.int V x.n)):=((a6.out w3 L).2);have cB:w3.frozen? ⟨G,i*2+1,none⟩=false:=b1.out w3 L;have cA:w3.cell? ⟨G,i*2+1,none⟩=some (I g.p g.l.length g.c):=(a6.out w3 L).1;obtain ⟨C,cc,bs,_,_,_⟩:=R.row bz;subst bs;have a0:J (GInv w (w3.setCell ⟨G,i*2+1,none⟩ (I C (g.l.length+1) cc)) l cn (k+1) (I (some ⟨G,0,none⟩) a5.length gc) (a5.set i ⟨g.n,C,cc,g.l++[x]⟩) D2):=(by have h:=E.out.done R L ah;rw[List.length_append] at h;exact h);have a1:J (∀u,(w3.setCell ⟨G,i*2+1,none⟩ u).cell? ⟨xb,0,none⟩=some (I (some ⟨rb,ro,none⟩) x.r.length x.c)/\(w3.setCell ⟨G,i*2+1,none⟩ u).cell? ⟨xb,1,none⟩=some (.int V x.n)):=(fun u=>⟨(World.cell?_setCell_other _ _ _ _ bc.out.1).trans ad.out.1,(World.cell?_setCell_other _ _ _ _ bc.out.2).trans ad.out.2⟩);clear R L ah)
     refine hK.out _ _ ?_ (fun hHeld=> ?_)
     ·(try dsimp only);first|with_reducible exact (f.out _ ao.out).2|with_reducible exact (f.out _ F.out).2|with_reducible exact ad.out|exact a1.out _|exact (f.out _ F.out).2
     clear hK f5
     try simp only[Act.put,yA,aB,yS]
     refine tks [10,11] (by assumption) ?_
     iterate 2 (refine tk (v:= ?_) (by rfl) (by kernel_rfl) ?_ ?_;rotate_left;· (refine oL ⟨by rfl,?_⟩;intro w a3;(try dsimp only at a3);go_simp<;>with_reducible rfl);try simp only[Act.put,yA,aB,yS])
     refine tk0 ?_
     refine wpAnyH_ready (rs:=[12]) (by kernel_rfl) (by simp) ?_
     refine AllReadyH.cons (o:= ?oip14) ?hopp14 (fun f5 hK=> ?stepp14) ?morep14
     case hopp14=>(simp only[zA,z0',zS];rfl)
     case morep14=>exact AllReadyH.nil
     go_simp
     refine hK.out _ _ ?_ (fun hHeld=> ?_)
     ·(try dsimp only);first|with_reducible exact (f.out _ ao.out).2|with_reducible exact (f.out _ F.out).2|with_reducible exact ad.out|exact a1.out _|exact (f.out _ F.out).2
     clear hK f5
     try simp only[Act.put,yA,aB,yS]
     refine wpAnyH_done (by kernel_rfl) ?_ _
     refine NoPanic.normal ?_
     go_wp2
     go_roundw
     case rel=>exact ⟨k+1,a5.set i ⟨g.n,C,cc,g.l++[x]⟩,D2,by omega,by go_num,a0⟩
     case measure=>simp[intOf];omega
    go_simp
    refine hK.out _ _ ?_ (fun hHeld=> ?_)
    ·(try dsimp only);first|with_reducible exact (f.out _ ao.out).2|with_reducible exact (f.out _ F.out).2|with_reducible exact ad.out|exact a1.out _|exact (f.out _ F.out).2
    clear hK f5
    try simp only[Act.put,yA,aB,yS]
    refine wpAnyH_ready (rs:=[8]) (by kernel_rfl) (by simp) ?_
    refine AllReadyH.cons (o:= ?oip15) ?hopp15 (fun f5 hK=> ?stepp15) ?morep15
    case hopp15=>(simp only[zA,z0',zS];rfl)
    case morep15=>exact AllReadyH.nil
    go_simp
    refine hK.out _ _ ?_ (fun hHeld=> ?_)
    ·(try dsimp only);first|with_reducible exact (f.out _ ao.out).2|with_reducible exact (f.out _ F.out).2|with_reducible exact ad.out|exact a1.out _|exact (f.out _ F.out).2
    clear hK f5
    try simp only[Act.put,yA,aB,yS]
    refine wpAnyH_ready (rs:=[9]) (by kernel_rfl) (by simp) ?_
    refine AllReadyH.cons (o:= ?oip16) ?hopp16 (fun f5 hK=> ?stepp16) ?morep16
    case hopp16=>(simp only[zA,z0',zS];rfl)
    case morep16=>exact AllReadyH.nil
    (refine eZ _ rfl (d 49) (d 51) rfl (w.heap.size+1) (I g.p g.l.length g.c) g.l x ⟨w2.heap.size,0,none⟩ 1 rfl rfl ap.out.1 ap.out.2.1 ap.out.2.2.1 ap.out.2.2.2.1 ap.out.2.2.2.2 ?_;intro v3 w3 R L ah;have ad:J (w3.cell? ⟨xb,0,none⟩=some (I (some ⟨rb,ro,none⟩) x.r.length x.c)/\w3.cell? ⟨xb,1,none⟩=some (.int V x.n)):=((a6.out w3 L).2);have cB:w3.frozen? ⟨G,i*2+1,none⟩=false:=b1.out w3 L;have cA:w3.cell? ⟨G,i*2+1,none⟩=some (I g.p g.l.length g.c):=(a6.out w3 L).1;obtain ⟨C,cc,bs,_,_,_⟩:=R.row bz;subst bs;have a0:J (GInv w (w3.setCell ⟨G,i*2+1,none⟩ (I C (g.l.length+1) cc)) l cn (k+1) (I (some ⟨G,0,none⟩) a5.length gc) (a5.set i ⟨g.n,C,cc,g.l++[x]⟩) D2):=(by have h:=E.out.done R L ah;rw[List.length_append] at h;exact h);have a1:J (∀u,(w3.setCell ⟨G,i*2+1,none⟩ u).cell? ⟨xb,0,none⟩=some (I (some ⟨rb,ro,none⟩) x.r.length x.c)/\(w3.setCell ⟨G,i*2+1,none⟩ u).cell? ⟨xb,1,none⟩=some (.int V x.n)):=(fun u=>⟨(World.cell?_setCell_other _ _ _ _ bc.out.1).trans ad.out.1,(World.cell?_setCell_other _ _ _ _ bc.out.2).trans ad.out.2⟩);clear R L ah)
    refine hK.out _ _ ?_ (fun hHeld=> ?_)
    ·(try dsimp only);first|with_reducible exact (f.out _ ao.out).2|with_reducible exact (f.out _ F.out).2|with_reducible exact ad.out|exact a1.out _|exact (f.out _ F.out).2
    clear hK f5
    try simp only[Act.put,yA,aB,yS]
    refine tks [10,11] (by assumption) ?_
    iterate 2 (refine tk (v:= ?_) (by rfl) (by kernel_rfl) ?_ ?_;rotate_left;· (refine oL ⟨by rfl,?_⟩;intro w a3;(try dsimp only at a3);go_simp<;>with_reducible rfl);try simp only[Act.put,yA,aB,yS])
    refine tk0 ?_
    refine wpAnyH_ready (rs:=[12]) (by kernel_rfl) (by simp) ?_
    refine AllReadyH.cons (o:= ?oip19) ?hopp19 (fun f5 hK=> ?stepp19) ?morep19
    case hopp19=>(simp only[zA,z0',zS];rfl)
    case morep19=>exact AllReadyH.nil
    go_simp
    refine hK.out _ _ ?_ (fun hHeld=> ?_)
    ·(try dsimp only);first|with_reducible exact (f.out _ ao.out).2|with_reducible exact (f.out _ F.out).2|with_reducible exact ad.out|exact a1.out _|exact (f.out _ F.out).2
    clear hK f5
    try simp only[Act.put,yA,aB,yS]
    refine wpAnyH_done (by kernel_rfl) ?_ _
    refine NoPanic.normal ?_
    go_wp2
    go_roundw
    case rel=>exact ⟨k+1,a5.set i ⟨g.n,C,cc,g.l++[x]⟩,D2,by omega,by go_num,a0⟩
    case measure=>simp[intOf];omega
   ·obtain ⟨i,bh,c1,ck⟩:=hR.out.plc.find be
    have dk:=ja1 ck
    obtain ⟨d6,gc,hu,_,b8,_,b3,_⟩:=hR.out.gps.own.full dt
    obtain ⟨G,cm,cs,_,_⟩:=b8.at bh
    subst cs
    have c3:cm=0:=(b3 _ rfl).2.2.1
    subst c3
    subst hu
    obtain ⟨g,a9⟩:∃g:Grp,gs[i]=g:=⟨_,rfl⟩
    have bN:(wr.alloc (O #[I (some ⟨rb,ro,none⟩) x.r.length x.c,.int V x.n] 151)).cell? ⟨wr.heap.size,0,none⟩=some (I (some ⟨rb,ro,none⟩) x.r.length x.c):=aa (gR _) rfl
    have b0:(wr.alloc (O #[I (some ⟨rb,ro,none⟩) x.r.length x.c,.int V x.n] 151)).cell? ⟨wr.heap.size,1,none⟩=some (.int V x.n):=aa (gR _) rfl
    have bn:J (G≠wr.heap.size):=fun e=>by have:=(World.ownsRow.lt hR.out.gps.own G rfl).2;omega
    have E:J (MidG w (wr.alloc (O #[I (some ⟨rb,ro,none⟩) x.r.length x.c,.int V x.n] 151)) l cn k G gc gs i g D x wr.heap.size):=by
     refine ⟨hR.out.gps.gr a4.out,by rw[List.getElem?_eq_getElem bh,a9],fun g' hn b5=> ?_,hR.out.sub,d5.out,hR.out.plc,bG.out.mono (Nat.le_succ _),hR.out.bel.trans (a4.out.below.mono hR.out.bel.size),by have:=hR.out.len;omega,nT hR.out.size a4.out.size,fun b hb=> ?_,by simp⟩
     ·have ev:i<(gs.map Grp.z).length:=by simpa using bh
      rw[c4.out,<-hR.out.z,vI ev (by simpa[Grp.z] using c1) (List.pairwise_map.2 hR.out.plc.uniq)]
      rw[List.map_set]
      congr 1
      simp only[List.getElem_map]
      rw[<-a9] at hn b5
      simp[Grp.z,hn,b5,c1]
     ·have:=(World.ownsRow.lt (hR.out.gps.each g (by rw[<-a9];exact gM bh)) b hb).2
      omega
    have fn:=ja1 a4
    clear a9 c1 ck b8 b3 bh
    go_wp2_with (first
     | (at_lookup;refine wpList_lookup_own_ok_int _ rfl _ _ 332 rfl 3 3 V zM Tryz.underlying332 Tryz.underlying3 (vV _) w.heap.size k _ rfl bG.out _ _ rfl bl ?_;intro c' cj c5;(obtain rfl:c'=(i:Int):=by (rw[dk.out] at cj;cases cj;rfl)))
     | fail)
    obtain ⟨xb,b9⟩:∃xb,wr.heap.size=xb:=⟨_,rfl⟩
    obtain ⟨WX,c8⟩:∃WX,(wr.alloc (O #[I (some ⟨rb,ro,none⟩) x.r.length x.c,.int V x.n] 151))=WX:=⟨_,rfl⟩
    rw[c8] at E bN b0 ⊢
    rw[b9] at E bN b0 bn ⊢
    clear bG be c5 bl y0 e0 e1 b9 a4 hI c8 fn
    have a7:=E.out.cell
    have e6:WX.cell? ⟨G,i*2+1,none⟩=some (I g.p g.l.length g.c):=a7.1
    have bd:=ja1 a7.2
    obtain ⟨c0,c6⟩:=E.out.hi
    have ex:(i:Int)<(gs.length:Int):=by omega
    have bp:J (g.l.length<=k):=(E.out.sub g (by obtain ⟨a,b⟩:=E.out.hi;rw[<-b];exact gM a)).1
    have F:J (Gr WX (WX.alloc (O #[I (some ⟨rb,ro,none⟩) x.r.length x.c,.int V x.n] 151)).drew):=((gR _).alloc _).drew
    have f:J (∀W',Gr WX W'->(fun w'=>w'.cell? ⟨G,i*2+1,none⟩=some (I g.p g.l.length g.c)/\w'.cell? ⟨xb,0,none⟩=some (I (some ⟨rb,ro,none⟩) x.r.length x.c)/\w'.cell? ⟨xb,1,none⟩=some (.int V x.n)) W'):=fun W' h=>⟨(h.below.cell (p:=⟨G,i*2+1,none⟩) bd.out.1).trans e6,(h.below.cell (p:=⟨xb,0,none⟩) E.out.xlt).trans bN,(h.below.cell (p:=⟨xb,1,none⟩) E.out.xlt).trans b0⟩
    have ao:J (Gr WX WX.drew):=(gR _).drew
    have ap:J (ae aD 2 151 (WX.alloc (O #[I (some ⟨rb,ro,none⟩) x.r.length x.c,.int V x.n] 151)).drew (w.heap.size+1) (I g.p g.l.length g.c) g.l/\az aD 2 (WX.alloc (O #[I (some ⟨rb,ro,none⟩) x.r.length x.c,.int V x.n] 151)).drew (some ⟨WX.heap.size,0,none⟩) [x]/\g.l.length+1<=maxLen/\(g.l.length+1)*32<=140737488355328/\w.heap.size+1<=(WX.alloc (O #[I (some ⟨rb,ro,none⟩) x.r.length x.c,.int V x.n] 151)).drew.heap.size):=by
     have h1:=bp.out
     refine ⟨E.out.own.gr F.out,?_,by unfold maxLen;omega,by omega,nT E.out.size F.out.size⟩
     rw[<-d0.out]
     exact (dj rfl x _).gr (gR _).drew
    have cv:J (some G≠(Value.slice g.p g.l.length g.c).ownBlock):=fun e=>by
     rcases iV E.out.own E.out.gps.own (by decide) with k1|k1
     ·rw[k1] at e;cases e
     ·exact k1 (by rw[<-e];rfl)
    have bc:J ((⟨G,i*2+1,none⟩:U)≠⟨xb,0,none⟩/\(⟨G,i*2+1,none⟩:U)≠⟨xb,1,none⟩):=⟨fun e=>bn.out (by injection e),fun e=>bn.out (by injection e)⟩
    have a6:J (∀w3,(WX.alloc (O #[I (some ⟨rb,ro,none⟩) x.r.length x.c,.int V x.n] 151)).drew.grownBy w3 (Value.slice g.p g.l.length g.c).ownBlock->(fun w'=>w'.cell? ⟨G,i*2+1,none⟩=some (I g.p g.l.length g.c)/\w'.cell? ⟨xb,0,none⟩=some (I (some ⟨rb,ro,none⟩) x.r.length x.c)/\w'.cell? ⟨xb,1,none⟩=some (.int V x.n)) w3):=fun w3 L=>by
     have hk:=f.out _ F.out
     have b4:some xb≠(Value.slice g.p g.l.length g.c).ownBlock:=fun e=>E.out.blk xb e.symm rfl
     have l1:xb<(WX.alloc (O #[I (some ⟨rb,ro,none⟩) x.r.length x.c,.int V x.n] 151)).drew.heap.size:=nL E.out.xlt F.out.size
     have l2:G<(WX.alloc (O #[I (some ⟨rb,ro,none⟩) x.r.length x.c,.int V x.n] 151)).drew.heap.size:=nL bd.out.1 F.out.size
     exact ⟨(World.cell?_of_block (a:=⟨G,i*2+1,none⟩) (L.block _ l2 cv.out)).trans hk.1,(World.cell?_of_block (a:=⟨xb,0,none⟩) (L.block _ l1 b4)).trans hk.2.1,(World.cell?_of_block (a:=⟨xb,1,none⟩) (L.block _ l1 b4)).trans hk.2.2⟩
    have b1:J (∀w3,(WX.alloc (O #[I (some ⟨rb,ro,none⟩) x.r.length x.c,.int V x.n] 151)).drew.grownBy w3 (Value.slice g.p g.l.length g.c).ownBlock->w3.frozen? ⟨G,i*2+1,none⟩=false):=fun w3 L=>by
     have k1:=(E.out.gps.own.gr F.out).keep L (iV E.out.gps.own E.out.own (by decide))
     obtain ⟨A2,cp,hv,_,_,_,_,hz⟩:=k1.full dt
     simp only[Value.slice.injEq] at hv
     exact hz _ hv.1.symm _
    have ea:WX.drew.cell? ⟨G,i*2+1,none⟩=some (I g.p g.l.length g.c):=(f.out _ ao.out).1
    have eb:(WX.alloc (O #[I (some ⟨rb,ro,none⟩) x.r.length x.c,.int V x.n] 151)).drew.cell? ⟨G,i*2+1,none⟩=some (I g.p g.l.length g.c):=(f.out _ F.out).1
    clear a7 c6 c0
    refine wp_region_noPanic ?_
    refine wp_region_held_drew (S:=(fun w'=>w'.cell? ⟨xb,0,none⟩=some (I (some ⟨rb,ro,none⟩) x.r.length x.c)/\w'.cell? ⟨xb,1,none⟩=some (.int V x.n))) (by kernel_rfl) ((f.out _ ao.out).2) (fun hHeld=> ?_)
    refine tks [0,1,2,3,4,5,7] (by assumption) ?_
    iterate 7 (refine tk (v:= ?_) (by rfl) (by kernel_rfl) ?_ ?_;rotate_left;· (refine oL ⟨by rfl,?_⟩;intro w a3;(try dsimp only at a3);go_simp<;>with_reducible rfl);try simp only[Act.put,yA,aB,yS])
    refine tk0 ?_
    refine wpAnyH_ready (rs:=[6,8]) (by kernel_rfl) (by simp) ?_
    refine AllReadyH.cons (o:= ?oiq8) ?hopq8 (fun f5 hK=> ?stepq8) ?moreq8
    case hopq8=>(simp only[zA,z0',zS];rfl)
    case moreq8 =>
     refine AllReadyH.cons (o:= ?oiq9) ?hopq9 (fun f5 hK=> ?stepq9) ?moreq9
     case hopq9=>(simp only[zA,z0',zS];rfl)
     case moreq9=>exact AllReadyH.nil
     go_simp
     refine hK.out _ _ ?_ (fun hHeld=> ?_)
     ·(try dsimp only);first|with_reducible exact (f.out _ ao.out).2|with_reducible exact (f.out _ F.out).2|with_reducible exact ad.out|exact a1.out _|exact (f.out _ F.out).2
     clear hK f5
     try simp only[Act.put,yA,aB,yS]
     refine wpAnyH_ready (rs:=[6]) (by kernel_rfl) (by simp) ?_
     refine AllReadyH.cons (o:= ?oiq10) ?hopq10 (fun f5 hK=> ?stepq10) ?moreq10
     case hopq10=>(simp only[zA,z0',zS];rfl)
     case moreq10=>exact AllReadyH.nil
     go_simp
     refine hK.out _ _ ?_ (fun hHeld=> ?_)
     ·(try dsimp only);first|with_reducible exact (f.out _ ao.out).2|with_reducible exact (f.out _ F.out).2|with_reducible exact ad.out|exact a1.out _|exact (f.out _ F.out).2
     clear hK f5
     try simp only[Act.put,yA,aB,yS]
     refine wpAnyH_ready (rs:=[9]) (by kernel_rfl) (by simp) ?_
     refine AllReadyH.cons (o:= ?oiq11) ?hopq11 (fun f5 hK=> ?stepq11) ?moreq11
     case hopq11=>(simp only[zA,z0',zS];rfl)
     case moreq11=>exact AllReadyH.nil
     (refine eZ _ rfl (d 49) (d 51) rfl (w.heap.size+1) (I g.p g.l.length g.c) g.l x ⟨WX.heap.size,0,none⟩ 1 rfl rfl ap.out.1 ap.out.2.1 ap.out.2.2.1 ap.out.2.2.2.1 ap.out.2.2.2.2 ?_;intro v3 w3 R L ah;have ad:J (w3.cell? ⟨xb,0,none⟩=some (I (some ⟨rb,ro,none⟩) x.r.length x.c)/\w3.cell? ⟨xb,1,none⟩=some (.int V x.n)):=((a6.out w3 L).2);have cB:w3.frozen? ⟨G,i*2+1,none⟩=false:=b1.out w3 L;have cA:w3.cell? ⟨G,i*2+1,none⟩=some (I g.p g.l.length g.c):=(a6.out w3 L).1;obtain ⟨C,cc,bs,_,_,_⟩:=R.row bz;subst bs;have a0:J (GInv w (w3.setCell ⟨G,i*2+1,none⟩ (I C (g.l.length+1) cc)) l cn (k+1) (I (some ⟨G,0,none⟩) gs.length gc) (gs.set i ⟨g.n,C,cc,g.l++[x]⟩) D):=(by have h:=E.out.done R L ah;rw[List.length_append] at h;exact h);have a1:J (∀u,(w3.setCell ⟨G,i*2+1,none⟩ u).cell? ⟨xb,0,none⟩=some (I (some ⟨rb,ro,none⟩) x.r.length x.c)/\(w3.setCell ⟨G,i*2+1,none⟩ u).cell? ⟨xb,1,none⟩=some (.int V x.n)):=(fun u=>⟨(World.cell?_setCell_other _ _ _ _ bc.out.1).trans ad.out.1,(World.cell?_setCell_other _ _ _ _ bc.out.2).trans ad.out.2⟩);clear R L ah)
     refine hK.out _ _ ?_ (fun hHeld=> ?_)
     ·(try dsimp only);first|with_reducible exact (f.out _ ao.out).2|with_reducible exact (f.out _ F.out).2|with_reducible exact ad.out|exact a1.out _|exact (f.out _ F.out).2
     clear hK f5
     try simp only[Act.put,yA,aB,yS]
     refine tks [10,11] (by assumption) ?_
     iterate 2 (refine tk (v:= ?_) (by rfl) (by kernel_rfl) ?_ ?_;rotate_left;· (refine oL ⟨by rfl,?_⟩;intro w a3;(try dsimp only at a3);go_simp<;>with_reducible rfl);try simp only[Act.put,yA,aB,yS])
     refine tk0 ?_
     refine wpAnyH_ready (rs:=[12]) (by kernel_rfl) (by simp) ?_
     refine AllReadyH.cons (o:= ?oiq14) ?hopq14 (fun f5 hK=> ?stepq14) ?moreq14
     case hopq14=>(simp only[zA,z0',zS];rfl)
     case moreq14=>exact AllReadyH.nil
     go_simp
     refine hK.out _ _ ?_ (fun hHeld=> ?_)
     ·(try dsimp only);first|with_reducible exact (f.out _ ao.out).2|with_reducible exact (f.out _ F.out).2|with_reducible exact ad.out|exact a1.out _|exact (f.out _ F.out).2
     clear hK f5
     try simp only[Act.put,yA,aB,yS]
     refine wpAnyH_done (by kernel_rfl) ?_ _
     refine NoPanic.normal ?_
     go_wp2
     go_roundw
     case rel=>exact ⟨k+1,gs.set i ⟨g.n,C,cc,g.l++[x]⟩,D,by omega,by go_num,a0⟩
     case measure=>simp[intOf];omega
    go_simp
    refine hK.out _ _ ?_ (fun hHeld=> ?_)
    ·(try dsimp only);first|with_reducible exact (f.out _ ao.out).2|with_reducible exact (f.out _ F.out).2|with_reducible exact ad.out|exact a1.out _|exact (f.out _ F.out).2
    clear hK f5
    try simp only[Act.put,yA,aB,yS]
    refine wpAnyH_ready (rs:=[8]) (by kernel_rfl) (by simp) ?_
    refine AllReadyH.cons (o:= ?oiq15) ?hopq15 (fun f5 hK=> ?stepq15) ?moreq15
    case hopq15=>(simp only[zA,z0',zS];rfl)
    case moreq15=>exact AllReadyH.nil
    go_simp
    refine hK.out _ _ ?_ (fun hHeld=> ?_)
    ·(try dsimp only);first|with_reducible exact (f.out _ ao.out).2|with_reducible exact (f.out _ F.out).2|with_reducible exact ad.out|exact a1.out _|exact (f.out _ F.out).2
    clear hK f5
    try simp only[Act.put,yA,aB,yS]
    refine wpAnyH_ready (rs:=[9]) (by kernel_rfl) (by simp) ?_
    refine AllReadyH.cons (o:= ?oiq16) ?hopq16 (fun f5 hK=> ?stepq16) ?moreq16
    case hopq16=>(simp only[zA,z0',zS];rfl)
    case moreq16=>exact AllReadyH.nil
    (refine eZ _ rfl (d 49) (d 51) rfl (w.heap.size+1) (I g.p g.l.length g.c) g.l x ⟨WX.heap.size,0,none⟩ 1 rfl rfl ap.out.1 ap.out.2.1 ap.out.2.2.1 ap.out.2.2.2.1 ap.out.2.2.2.2 ?_;intro v3 w3 R L ah;have ad:J (w3.cell? ⟨xb,0,none⟩=some (I (some ⟨rb,ro,none⟩) x.r.length x.c)/\w3.cell? ⟨xb,1,none⟩=some (.int V x.n)):=((a6.out w3 L).2);have cB:w3.frozen? ⟨G,i*2+1,none⟩=false:=b1.out w3 L;have cA:w3.cell? ⟨G,i*2+1,none⟩=some (I g.p g.l.length g.c):=(a6.out w3 L).1;obtain ⟨C,cc,bs,_,_,_⟩:=R.row bz;subst bs;have a0:J (GInv w (w3.setCell ⟨G,i*2+1,none⟩ (I C (g.l.length+1) cc)) l cn (k+1) (I (some ⟨G,0,none⟩) gs.length gc) (gs.set i ⟨g.n,C,cc,g.l++[x]⟩) D):=(by have h:=E.out.done R L ah;rw[List.length_append] at h;exact h);have a1:J (∀u,(w3.setCell ⟨G,i*2+1,none⟩ u).cell? ⟨xb,0,none⟩=some (I (some ⟨rb,ro,none⟩) x.r.length x.c)/\(w3.setCell ⟨G,i*2+1,none⟩ u).cell? ⟨xb,1,none⟩=some (.int V x.n)):=(fun u=>⟨(World.cell?_setCell_other _ _ _ _ bc.out.1).trans ad.out.1,(World.cell?_setCell_other _ _ _ _ bc.out.2).trans ad.out.2⟩);clear R L ah)
    refine hK.out _ _ ?_ (fun hHeld=> ?_)
    ·(try dsimp only);first|with_reducible exact (f.out _ ao.out).2|with_reducible exact (f.out _ F.out).2|with_reducible exact ad.out|exact a1.out _|exact (f.out _ F.out).2
    clear hK f5
    try simp only[Act.put,yA,aB,yS]
    refine tks [10,11] (by assumption) ?_
    iterate 2 (refine tk (v:= ?_) (by rfl) (by kernel_rfl) ?_ ?_;rotate_left;· (refine oL ⟨by rfl,?_⟩;intro w a3;(try dsimp only at a3);go_simp<;>with_reducible rfl);try simp only[Act.put,yA,aB,yS])
    refine tk0 ?_
    refine wpAnyH_ready (rs:=[12]) (by kernel_rfl) (by simp) ?_
    refine AllReadyH.cons (o:= ?oiq19) ?hopq19 (fun f5 hK=> ?stepq19) ?moreq19
    case hopq19=>(simp only[zA,z0',zS];rfl)
    case moreq19=>exact AllReadyH.nil
    go_simp
    refine hK.out _ _ ?_ (fun hHeld=> ?_)
    ·(try dsimp only);first|with_reducible exact (f.out _ ao.out).2|with_reducible exact (f.out _ F.out).2|with_reducible exact ad.out|exact a1.out _|exact (f.out _ F.out).2
    clear hK f5
    try simp only[Act.put,yA,aB,yS]
    refine wpAnyH_done (by kernel_rfl) ?_ _
    refine NoPanic.normal ?_
    go_wp2
    go_roundw
    case rel=>exact ⟨k+1,gs.set i ⟨g.n,C,cc,g.l++[x]⟩,D,by omega,by go_num,a0⟩
    case measure=>simp[intOf];omega
  ·have ds:¬(k:Int)<(l.length:Int):=by omega
   have ez:k=l.length:=by omega
   subst ez
   go_wp2
   go_ret2
   exact ⟨gs,u6,rfl,D,hR.out⟩
end
section
open Go.Maps

theorem yW {f:List Grp} {k:Nat} (h:k<f.length):((f.take (k+1)).map Grp.z).filterMap mM=((f.take k).map Grp.z).filterMap mM++(if bg (f[k].l.map Itm.z)=0 then [] else [([f[k].n,bg (f[k].l.map Itm.z)],1)]):=by
 rw[List.take_succ_eq_append_getElem h,List.map_append,List.filterMap_append]
 congr 1
 by_cases e:bg (f[k].l.map Itm.z)=0
 ·rw[if_pos e];simp[mM,Grp.z,e]
 ·rw[if_neg e];simp[mM,Grp.z,e]
theorem vK {W:H} {n:Nat} (h:W.heap.size=n) (a b:Int) (T:TypeId):al (W.alloc (O #[.int V a,.int V b] T)) (some ⟨n,0,none⟩) [a,b]:=by
 subst h
 refine oR ⟨W.heap.size,0,rfl,by simp,fun j g i hi=> ?_⟩
 obtain rfl:i=0:=by omega
 have f:j=0\/j=1:=by simp at g;omega
 rcases f with rfl|rfl
 ·exact aa (w:=W) (gR _) (j:=0) rfl
 ·exact aa (w:=W) (gR _) (j:=1) rfl
theorem GInv.items {w wr W:H} {l:List Itm} {c:Int} {k:Nat} {u:X} {n:List Grp} {D:DataW Unit} {A:Option U} (h:GInv w wr l c k u n D) (F:Items w A l) (r:Y wr.heap.size wr W) {g:Grp} (C:g∈n):Items W g.p g.l:=by
 obtain ⟨E,cp,L,_,f,_⟩:=((h.gps.each g C).below r).row bz
 have e:g.p=E:=by
  have j:=L
  unfold Grp.v at j
  simp at j
  exact j.1
 rw[e]
 exact ⟨f,fun x R=>((F.below h.bel).below r).each x ((h.sub g C).2 x R)⟩

theorem wG (l:List Itm) (A:Option U) (cap:Nat) (c:Int) (w:H) (hl:l.length<=400) (hr:Items w A l) (hc:∀x∈l,inB c 0 ((x.r.length:Int)-1)=true) (a8:∀x∈l,okR x.r=true/\okW x.n=true) :
  ia Z 280 #[I A l.length cap,.int V c] w fun e w'=>∃(L:List Itm) (C:Option U) (k:Nat),e= N (I C L.length k)/\L.map Itm.z=mO (l.map Itm.z) c/\Lv w' C k L/\L.length<=400/\Y w.heap.size w w':=by
 have bs:J (Items w A l/\(∀x∈l,okW x.n=true)):=⟨hr,fun x hx=>(a8 x hx).2⟩
 have hG:J _:=jY l A cap c w hl hr hc (fun x hx=>(a8 x hx).1)
 clear hr hc a8
 go_enter Tryz.func280,Tryz.ntmps280
 go_wp2_with fail
 refine ja0 hG ?_
 rintro e w1 ⟨F,v,D,rfl,ba⟩
 clear hG
 have hR:=ja1 ba
 obtain ⟨GA,b2,hv,_,a3,_⟩:=hR.out.gps.own.row dt
 have bN:=ja1 a3
 subst hv
 clear ba a3
 have b4:F.length<=400:=nT hR.out.len hl
 go_wp2
 go_loopw [5,19] (fun u i wr=>∃(k:Nat) (L:List Itm),k<=F.length/\i= .int V k/\J (L.length<=k/\L.map Itm.z=((F.take k).map Grp.z).filterMap mM/\OwnT wr w1.heap.size u L/\Y w1.heap.size w1 wr)) (fun _ i _=>F.length-(intOf i).toNat)
 case atStart=>exact ⟨0,[],nZ _,rfl,nR _,rfl,OwnT.nil _ _,bR _ _⟩
 case round =>
  obtain ⟨k,L,hk,rfl,R⟩:=hrel
  by_cases ap:k<F.length
  ·have bn:(k:Int)<(F.length:Int):=by omega
   obtain ⟨bb,bt,rfl,hb,a6⟩:=(bN.out.below R.out.2.2.2).at ap
   obtain ⟨g,hg⟩:∃g,F[k]=g:=⟨_,rfl⟩
   have e0:wr.cell? ⟨bb,bt+k*2,none⟩=some (.int V g.n):=by have:=a6 k ap 0 (by omega);rw[hg] at this;simpa[fB] using this
   have e1:wr.cell? ⟨bb,bt+k*2+1,none⟩=some (I g.p g.l.length g.c):=by have:=a6 k ap 1 (by omega);rw[hg] at this;simpa[fB,Grp.v] using this
   have be:J (g∈F):=by show _∈_;rw[<-hg];exact gM ap
   have a9:J (((F.take (k+1)).map Grp.z).filterMap mM=((F.take k).map Grp.z).filterMap mM++(if bg (g.l.map Itm.z)=0 then [] else [([g.n,bg (g.l.map Itm.z)],1)])):=by show _=_;rw[yW ap,hg]
   clear a6 hg
   obtain ⟨WX,a1⟩:∃WX,(wr.alloc (O #[.int V g.n,I g.p g.l.length g.c] 336))=WX:=⟨_,rfl⟩
   have a7:J (Gr wr WX):=by show Gr _ _;rw[<-a1];exact (gR _).alloc _
   have y0:WX.cell? ⟨wr.heap.size,0,none⟩=some (.int V g.n):=by rw[<-a1];exact aa (gR _) rfl
   have y1:WX.cell? ⟨wr.heap.size,1,none⟩=some (I g.p g.l.length g.c):=by rw[<-a1];exact aa (gR _) rfl
   have b0:wr.heap.size<WX.heap.size:=by rw[<-a1];simp
   have an:=ja1 (R.out.2.2.2.trans (a7.out.below.mono R.out.2.2.2.size))
   obtain ⟨b6,hT⟩:∃b6,bg (g.l.map Itm.z)=b6:=⟨_,rfl⟩
   have ah:ia Z 287 #[I g.p g.l.length g.c] WX fun e w'=>e= N (.int V b6)/\Gr WX w':=by
    rw[<-hT]
    have h1:=hR.out.sub g be.out
    exact qk g.l g.p g.c WX (by omega) (fun x hx=>bs.out.2 x (h1.2 x hx)) (hR.out.items bs.out.1 an.out be.out)
   have ao:J _:=ah
   clear ah
   rw[hT] at a9
   clear hT
   cases hq:(b6 != 0)
   ·have a4:b6=0:=by simpa using hq
    go_wp2_with (go_at_call 287;(refine ja0 ao ?_);rintro e f ⟨rfl,E⟩)
    have j:J (L.length<=k+1/\L.map Itm.z=((F.take (k+1)).map Grp.z).filterMap mM/\OwnT f w1.heap.size u5 L/\Y w1.heap.size w1 f) :=
     ⟨by have:=R.out.1;omega,by rw[a9.out,if_pos a4,List.append_nil];exact R.out.2.1,(R.out.2.2.1.gr a7.out).gr E,an.out.trans (E.below.mono an.out.size)⟩
    go_roundw
    case rel=>exact ⟨k+1,L,by omega,by go_num,j⟩
    case measure=>simp[intOf];omega
   ·have a4:¬b6=0:=by simpa using hq
    have bG:J (∀f,Gr wr f->Y w1.heap.size w1 f->OwnT ((f.alloc (O #[.int V g.n,.int V b6] 3)).alloc (O #[I (some ⟨f.heap.size,0,none⟩) 2 2,.int V 1] 151)) w1.heap.size u5 L/\az aD 2 ((f.alloc (O #[.int V g.n,.int V b6] 3)).alloc (O #[I (some ⟨f.heap.size,0,none⟩) 2 2,.int V 1] 151)) (some ⟨f.heap.size+1,0,none⟩) [(⟨some ⟨f.heap.size,0,none⟩,2,[g.n,b6],1⟩:Itm)]/\Apart ((f.alloc (O #[.int V g.n,.int V b6] 3)).alloc (O #[I (some ⟨f.heap.size,0,none⟩) 2 2,.int V 1] 151)) w1.heap.size u5.ownBlock (⟨some ⟨f.heap.size,0,none⟩,2,[g.n,b6],1⟩:Itm)/\L.length+1<=maxLen/\(L.length+1)*32<=140737488355328/\Y w1.heap.size w1 ((f.alloc (O #[.int V g.n,.int V b6] 3)).alloc (O #[I (some ⟨f.heap.size,0,none⟩) 2 2,.int V 1] 151))):=fun f E a5=>by
     have b3:=R.out.1
     have h2:Gr f ((f.alloc (O #[.int V g.n,.int V b6] 3)).alloc (O #[I (some ⟨f.heap.size,0,none⟩) 2 2,.int V 1] 151)):=((gR _).alloc _).alloc _
     refine ⟨(R.out.2.2.1.gr E).gr h2,dj (by simp) (⟨some ⟨f.heap.size,0,none⟩,2,[g.n,b6],1⟩:Itm) _,⟨(vK rfl g.n b6 _).gr ((gR _).alloc _),by simp[maxLen],fun h=>(by cases h),fun a ha=>⟨?_,?_,?_⟩⟩,by unfold maxLen;omega,by omega,a5.trans (h2.below.mono a5.size)⟩
     ·cases ha;exact a5.size
     ·cases ha;simp;omega
     ·cases ha
      intro e
      have h3:=(World.ownsRow.lt R.out.2.2.1.own f.heap.size e).2
      have h4:=E.size
      omega
    go_wp2_with (first|(go_at_call 287;(refine ja0 ao ?_);rintro e f ⟨rfl,E⟩;have b5:f.cell? ⟨wr.heap.size,0,none⟩=some (.int V g.n):=(E.below.cell (p:=⟨wr.heap.size,0,none⟩) b0).trans y0;have bc:J (Y w1.heap.size w1 f/\Gr wr f):=⟨an.out.trans (E.below.mono an.out.size),a7.out.trans E⟩;clear E;have bp:=bG.out f bc.out.2 bc.out.1;have ad:J _:=bp;clear bp)|(at_builtin;refine fi _ rfl (d 28) (d 34) rfl w1.heap.size u5 L (⟨some ⟨f.heap.size,0,none⟩,2,[g.n,b6],1⟩:Itm) ⟨f.heap.size+1,0,none⟩ 1 rfl rfl ad.out.1 ad.out.2.1 ad.out.2.2.1 ad.out.2.2.2.1 ad.out.2.2.2.2.1 ad.out.2.2.2.2.2.size ?_;intro v3 w3 a0 bd)|fail)
    have j:J ((L++[(⟨some ⟨f.heap.size,0,none⟩,2,[g.n,b6],1⟩:Itm)]).length<=k+1/\(L++[(⟨some ⟨f.heap.size,0,none⟩,2,[g.n,b6],1⟩:Itm)]).map Itm.z=((F.take (k+1)).map Grp.z).filterMap mM/\OwnT w3 w1.heap.size v3 (L++[(⟨some ⟨f.heap.size,0,none⟩,2,[g.n,b6],1⟩:Itm)])/\Y w1.heap.size w1 w3) :=
     ⟨by have:=R.out.1;simp;omega,by rw[a9.out,if_neg a4,List.map_append,R.out.2.1];rfl,a0,ad.out.2.2.2.2.2.trans bd⟩
    clear a0 bd
    go_roundw
    case rel=>exact ⟨k+1,L++[(⟨some ⟨f.heap.size,0,none⟩,2,[g.n,b6],1⟩:Itm)],by omega,by go_num,j⟩
    case measure=>simp[intOf];omega
  ·have bn:¬(k:Int)<(F.length:Int):=by omega
   have bl:F.take k=F:=List.take_of_length_le (by omega)
   obtain ⟨A2,a2,b1,bo,bh,_⟩:=R.out.2.2.1.items
   have bC:L.length<=400:=by have:=R.out.1;omega
   have j:J (L.map Itm.z=mO (l.map Itm.z) c/\Lv wr A2 a2 L/\Y w.heap.size w wr):=by
    refine ⟨?_,⟨bh,bo,by unfold maxLen;omega⟩,hR.out.bel.trans (R.out.2.2.2.mono hR.out.bel.size)⟩
    have:=R.out.2.1
    rw[bl,hR.out.z,List.take_length] at this
    exact this
   subst b1
   clear bl bh bo
   go_wp2
   go_ret
   exact ⟨L,A2,a2,rfl,j.out.1,j.out.2.1,bC,j.out.2.2⟩
end

theorem zx (w:H) (n:Nat):Gr w (w.drewN n):=⟨n,#[],by rw[grow_empty]⟩
theorem oY (v:Int) (a b:List Zit):co v (a++b)=co v a+co v b:=by
 induction a with
 | nil=>simp[co]
 | cons x a ih=>simp only[List.cons_append,co,ih];omega
theorem pQ {x y:Int} (j: -1073741824<=x/\x<=1073741824) (k: -1048576<=y/\y<=1048576): -1125899906842624<=x*y/\x*y<=1125899906842624:=by
 have f:x.natAbs<=1073741824:=by omega
 have g:y.natAbs<=1048576:=by omega
 have h:(x*y).natAbs<=1073741824*1048576:=by rw[Int.natAbs_mul];exact Nat.mul_le_mul f g
 omega
theorem yE {x:Itm} {v:Int} (h:okR x.r=true/\okW x.n=true): -1125899906842624<=atI x.r v*x.n/\atI x.r v*x.n<=1125899906842624:=by
 have f:=uu h.1 (c:=v)
 have g:=h.2
 simp only[okN,okW,inB,Bool.and_eq_true,decide_eq_true_eq] at f g
 exact pQ f g
theorem qY {l:List Itm} {v:Int} (h:∀x∈l,okR x.r=true/\okW x.n=true): -((l.length:Int)*1125899906842624)<=co v (l.map Itm.z)/\co v (l.map Itm.z)<=(l.length:Int)*1125899906842624:=by
 induction l with
 | nil=>simp[co]
 | cons x l ih =>
  have j:=ih fun y g=>h y (mC _ g)
  have f:=yE (v:=v) (h x (mS ..))
  have e:co v ((x::l).map Itm.z)=atI x.r v*x.n+co v (l.map Itm.z):=rfl
  rw[e]
  generalize atI x.r v*x.n=t at f ⊢
  simp only[List.length_cons]
  omega
theorem sY {l:List Itm} {k:Nat} (h:k<l.length) (v:Int):co v ((l.take (k+1)).map Itm.z)=co v ((l.take k).map Itm.z)+atI l[k].r v*l[k].n:=by
 rw[List.take_succ_eq_append_getElem h,List.map_append,oY]
 simp[co,Itm.z]

theorem yd (l:List Itm) (A:Option U) (cap:Nat) (v:Int) (w:H) (hl:l.length<=400) (hw:∀x∈l,okR x.r=true/\okW x.n=true) (hc:∀x∈l,inB v 0 ((x.r.length:Int)-1)=true) (hr:Items w A l) :
  ia Z 288 #[I A l.length cap,.int V v] w fun e w'=>e= N (.int V (co v (l.map Itm.z)))/\Gr w w':=by
 have a5:=ja1 hr
 have F:=ja2 hw hc
 clear hr hw hc
 go_enter Tryz.func288,Tryz.ntmps288
 go_wp2
 go_loopw [5,10] (fun u i wr=>∃k:Nat,k<=l.length/\i= .int V k/\u= .int V (co v ((l.take k).map Itm.z))/\J (Gr w wr)) (fun _ i _=>l.length-(intOf i).toNat)
 case atStart=>exact ⟨0,nZ _,rfl,rfl,gR _⟩
 case round =>
  obtain ⟨k,hk,rfl,rfl,hg⟩:=hrel
  by_cases h:k<l.length
  ·have a0:(k:Int)<(l.length:Int):=by omega
   have hI:=ja1 (a5.out.gr hg.out)
   obtain ⟨bb,bc,rfl,hb,ah⟩:=hI.out.at h
   obtain ⟨x,hx⟩:∃x,l[k]=x:=⟨_,rfl⟩
   obtain ⟨e0,e1⟩:=ah k h
   rw[hx] at e0 e1
   have C:x∈l:=by rw[<-hx];exact gM h
   obtain ⟨L,R,cn,hp,a6,a4,a3,f⟩:=iY (hI.out.each x C).1 (F.out.2 x C)
   have j:J (co v ((l.take (k+1)).map Itm.z)=co v ((l.take k).map Itm.z)+atI x.r v*x.n):=by show _=_;rw[sY h,hx]
   have ad:=qY (l:=l.take k) (v:=v) (fun y hy=>F.out.1 y (List.mem_of_mem_take hy))
   have a1:=yE (v:=v) (F.out.1 x C)
   have ap:(l.take k).length<=400:=by simp;omega
   obtain ⟨bd,hT⟩:∃bd,co v ((l.take k).map Itm.z)=bd:=⟨_,rfl⟩
   obtain ⟨E,a2⟩:∃E,atI x.r v=E:=⟨_,rfl⟩
   rw[hT] at j ad ⊢
   rw[a2] at f j a1
   rw[hp] at e0
   have a7:IntKind.i64.wrap (E*x.n)=E*x.n:=by rw[IntKind.wrap_i64];omega
   have a8:IntKind.i64.wrap (bd+E*x.n)=bd+E*x.n:=by rw[IntKind.wrap_i64];omega
   have an:J (Gr w (wr.alloc (O #[I (some ⟨L,R,none⟩) x.r.length x.c,.int V x.n] 151))):=hg.out.alloc _
   have y0:(wr.alloc (O #[I (some ⟨L,R,none⟩) x.r.length x.c,.int V x.n] 151)).cell? ⟨L,R+cn,none⟩=some (.int V E):=(((gR _).alloc _).cell (p:=⟨L,R+cn,none⟩) a6).trans f
   have ba:(cn:Int)<(x.r.length:Int):=by omega
   obtain rfl:=a4
   clear ah hx C a2 hp f a3 ad a1 ap hT
   obtain ⟨M,hM⟩:∃M,E*x.n=M:=⟨_,rfl⟩
   rw[hM] at a7 a8 j
   have a9:=ja1 hM
   obtain ⟨WX,g⟩:∃WX,(wr.alloc (O #[I (some ⟨L,R,none⟩) x.r.length x.c,.int V x.n] 151))=WX:=⟨_,rfl⟩
   have x0:WX.cell? ⟨wr.heap.size,0,none⟩=some (I (some ⟨L,R,none⟩) x.r.length x.c):=by rw[<-g];exact aa (gR _) rfl
   have x1:WX.cell? ⟨wr.heap.size,1,none⟩=some (.int V x.n):=by rw[<-g];exact aa (gR _) rfl
   rw[g] at y0 an
   go_wp2
   clear g
   go_quiet (fail)
   go_wp2
   go_roundw
   case rel=>exact ⟨k+1,by omega,by go_num,by rw[j.out],an.out.trans (zx _ _)⟩
   case measure=>simp[intOf];omega
  ·have a0:¬(k:Int)<(l.length:Int):=by omega
   have ao:l.take k=l:=List.take_of_length_le (by omega)
   rw[ao]
   clear ao
   go_wp2
   go_ret
   exact ⟨rfl,hg.out⟩
end Go.Proofs.YtjmmpnmgpgaagaaGreatDoor
