import Derived.Test.YtbkjgjjpnfhkhaaGreatDoorM08
set_option maxRecDepth 100000
set_option maxHeartbeats 8000000
open Go renaming Calls → Y, World → X, Addr → K
open Go.Ending renaming returned → J
open Go.IntKind renaming i64 → I
open Go.Obj renaming cells → H
open Go.Proofs.Tryz renaming prog → O
open Go.RowKit renaming Hid → S
open Go.Value renaming int → V, slice → Z, bool → U, agg → L
namespace Go.Proofs.YtbkjgjjpnfhkhaaGreatDoor
open Go.RowKit Go.Sort

def dd (s:Stp) (a:Int):Int:=if s.k=2 then (if belowB s.c a && opB s.o && mg s.v then a else 0) else if s.k=3 then (if decide (s.l.length<=8) && s.l.all (fun n=>belowB n a) then s.l.length else 0) else if s.k=7 then a else if s.k=8 then (if belowB s.c a then 2 else 0) else if s.k=9 then (if belowB s.c a && belowB s.v a then 2 else 0) else 0
def dT (s:Stp) (a b:Int):Int:=if s.k=4 then (if belowB s.c a && belowB s.v b && decide (a+b<=8) then a+b else 0) else if s.k=5 then (if a=b then a else 0) else if s.k=6 then (if a=b then a else 0) else 0
theorem bZ {n k:Int} {r:Bool} (h:belowB n k=r) (w:X):Y O 150 #[V I n,V I k] w fun e w'=>e= J (U r)/\w'=w:=by rw[<-h];exact il n k w
theorem AU {n:Int} {r:Bool} (h:opB n=r) (w:X):Y O 175 #[V I n] w fun e w'=>e= J (U r)/\w'=w:=by rw[<-h];exact vI n w
theorem zt {n:Int} {r:Bool} (h:mg n=r) (w:X):Y O 176 #[V I n] w fun e w'=>e= J (U r)/\w'=w:=by rw[<-h];exact oB n w

theorem wK (s:Stp) (a:Int) (w:X) (hl:s.l.length<=maxLen) (hr:aq w s.p s.l) :
  Y O 152 #[L (ja8 s),V I a] w fun e w'=>e= J (V I (dd s a))/\Gr w w':=by
 obtain ⟨W,R⟩:=jb0 (w.alloc (H (ja8 s) 132));have h:Gr w W:=by rw[<-R];exact (gR w).alloc _
 have F:jb1 W w.heap.size 0 (V I s.k):=by rw[<-R];exact ab (gR _) rfl
 have c1:jb1 W w.heap.size 1 (V I s.a):=by rw[<-R];exact ab (gR _) rfl
 have c2:jb1 W w.heap.size 2 (V I s.b):=by rw[<-R];exact ab (gR _) rfl
 have c3:jb1 W w.heap.size 3 (V I s.c):=by rw[<-R];exact ab (gR _) rfl
 have c4:jb1 W w.heap.size 4 (V I s.o):=by rw[<-R];exact ab (gR _) rfl
 have c5:jb1 W w.heap.size 5 (V I s.v):=by rw[<-R];exact ab (gR _) rfl
 have c6:jb1 W w.heap.size 6 (Z s.p s.l.length s.n):=by rw[<-R];exact ab (gR _) rfl
 have ad:=ja2 (hr.gr h) hl;by_cases g:s.k=2
 ·skip;have e0:jb1 W w.heap.size 0 (V I 2):=by rw[<-g];exact F
  clear F;cases u:belowB s.c a
  ·have d:S (dd s a=0):=(by show _=_;unfold dd;rw[if_pos g];simp[*]);have f:=ja1 (bZ u W);clear g;go_enter Tryz.func152,Tryz.ntmps152;go_wp2_with (go_at_call 150;(with_reducible refine cM f.out ?_);rintro e w' ⟨rfl,j⟩;subst w');go_ret;exact ⟨by rw[d.out];rfl,h⟩
  ·have f:=ja1 (bZ u W);cases h2:opB s.o
   ·have d:S (dd s a=0):=(by show _=_;unfold dd;rw[if_pos g];simp[*]);have m:=ja1 (AU h2 W);clear g;go_enter Tryz.func152,Tryz.ntmps152;go_wp2_with (first|(go_at_call 150;(with_reducible refine cM f.out ?_);rintro e w' ⟨rfl,j⟩;subst w')|(go_at_call 175;(with_reducible refine cM m.out ?_);rintro e w' ⟨rfl,j⟩;subst w'));go_ret;exact ⟨by rw[d.out];rfl,h⟩
   ·have m:=ja1 (AU h2 W);cases h3:mg s.v
    ·have d:S (dd s a=0):=(by show _=_;unfold dd;rw[if_pos g];simp[*]);have E:=ja1 (zt h3 W);clear g;go_enter Tryz.func152,Tryz.ntmps152;go_wp2_with (first|(go_at_call 150;(with_reducible refine cM f.out ?_);rintro e w' ⟨rfl,j⟩;subst w')|(go_at_call 175;(with_reducible refine cM m.out ?_);rintro e w' ⟨rfl,j⟩;subst w')|(go_at_call 176;(with_reducible refine cM E.out ?_);rintro e w' ⟨rfl,j⟩;subst w'));go_ret;exact ⟨by rw[d.out];rfl,h⟩
    ·have E:=ja1 (zt h3 W);have d:S (dd s a=a):=by show _=_;unfold dd;rw[if_pos g];simp[u,h2,h3]
     clear g;go_enter Tryz.func152,Tryz.ntmps152;go_wp2_with (first|(go_at_call 150;(with_reducible refine cM f.out ?_);rintro e w' ⟨rfl,j⟩;subst w')|(go_at_call 175;(with_reducible refine cM m.out ?_);rintro e w' ⟨rfl,j⟩;subst w')|(go_at_call 176;(with_reducible refine cM E.out ?_);rintro e w' ⟨rfl,j⟩;subst w'));go_ret;exact ⟨by rw[d.out];rfl,h⟩
 by_cases g:s.k=3
 ·skip;have e0:jb1 W w.heap.size 0 (V I 3):=by rw[<-g];exact F
  clear F;have C:=oj s.l a s.p s.n W ad.out.2 ad.out.1;by_cases h8:s.l.length<=8
  ·have ah:(s.l.length:Int)<=8:=(by omega);cases u:s.l.all (fun n=>belowB n a)
   ·have d:S (dd s a=0):=(by show _=_;unfold dd;rw[if_neg (by omega:¬s.k=2),if_pos g];simp[u]);rw[u] at C;have r:S _:=C;clear C g;go_enter Tryz.func152,Tryz.ntmps152;go_wp2_with fail;refine ja0 r ?_;rintro e w2 ⟨rfl,D⟩;have d6:jb1 w2 w.heap.size 6 (Z s.p s.l.length s.n):=(D.cell (p:=(jb5 w.heap.size 6)) (by rw[<-R];simp)).trans c6;clear r c1 c2 c3 c4 c5 c6 e0;go_wp2;go_ret;exact ⟨by rw[d.out];rfl,h.trans D⟩
   ·have d:S (dd s a=s.l.length):=(by show _=_;unfold dd;rw[if_neg (by omega:¬s.k=2),if_pos g];simp[u,h8]);rw[u] at C;have r:S _:=C;clear C g;go_enter Tryz.func152,Tryz.ntmps152;go_wp2_with fail;refine ja0 r ?_;rintro e w2 ⟨rfl,D⟩;have d6:jb1 w2 w.heap.size 6 (Z s.p s.l.length s.n):=(D.cell (p:=(jb5 w.heap.size 6)) (by rw[<-R];simp)).trans c6;clear r c1 c2 c3 c4 c5 c6 e0;go_wp2;go_ret;exact ⟨by rw[d.out];rfl,h.trans D⟩
  ·have ah:¬(s.l.length:Int)<=8:=(by omega);have d:S (dd s a=0):=by show _=_;unfold dd;rw[if_neg (by omega:¬s.k=2),if_pos g];simp[h8]
   clear C g;go_enter Tryz.func152,Tryz.ntmps152;go_wp2;go_ret;exact ⟨by rw[d.out];rfl,h⟩
 by_cases g:s.k=7
 ·skip;have e0:jb1 W w.heap.size 0 (V I 7):=by rw[<-g];exact F
  clear F;have d:S (dd s a=a):=by show _=_;unfold dd;rw[if_neg (by omega:¬s.k=2),if_neg (by omega:¬s.k=3),if_pos g]
  clear g;go_enter Tryz.func152,Tryz.ntmps152;go_wp2;go_ret;exact ⟨by rw[d.out];rfl,h⟩
 by_cases g:s.k=8
 ·skip;have e0:jb1 W w.heap.size 0 (V I 8):=by rw[<-g];exact F
  clear F;cases u:belowB s.c a
  ·have d:S (dd s a=0):=(by show _=_;unfold dd;rw[if_neg (by omega:¬s.k=2),if_neg (by omega:¬s.k=3),if_neg (by omega:¬s.k=7),if_pos g];simp[*]);have f:=ja1 (bZ u W);clear g;go_enter Tryz.func152,Tryz.ntmps152;go_wp2_with (go_at_call 150;(with_reducible refine cM f.out ?_);rintro e w' ⟨rfl,j⟩;subst w');go_ret;exact ⟨by rw[d.out];rfl,h⟩
  ·have f:=ja1 (bZ u W);have d:S (dd s a=2):=by show _=_;unfold dd;rw[if_neg (by omega:¬s.k=2),if_neg (by omega:¬s.k=3),if_neg (by omega:¬s.k=7),if_pos g];simp[u]
   clear g;go_enter Tryz.func152,Tryz.ntmps152;go_wp2_with (go_at_call 150;(with_reducible refine cM f.out ?_);rintro e w' ⟨rfl,j⟩;subst w');go_ret;exact ⟨by rw[d.out];rfl,h⟩
 by_cases g:s.k=9
 ·skip;have e0:jb1 W w.heap.size 0 (V I 9):=by rw[<-g];exact F
  clear F;cases u:belowB s.c a
  ·have d:S (dd s a=0):=(by show _=_;unfold dd;rw[if_neg (by omega:¬s.k=2),if_neg (by omega:¬s.k=3),if_neg (by omega:¬s.k=7),if_neg (by omega:¬s.k=8),if_pos g];simp[*]);have f:=ja1 (bZ u W);clear g;go_enter Tryz.func152,Tryz.ntmps152;go_wp2_with (go_at_call 150;(with_reducible refine cM f.out ?_);rintro e w' ⟨rfl,j⟩;subst w');go_ret;exact ⟨by rw[d.out];rfl,h⟩
  ·have f:=ja1 (bZ u W);cases h2:belowB s.v a
   ·have d:S (dd s a=0):=(by show _=_;unfold dd;rw[if_neg (by omega:¬s.k=2),if_neg (by omega:¬s.k=3),if_neg (by omega:¬s.k=7),if_neg (by omega:¬s.k=8),if_pos g];simp[*]);have m:=ja1 (bZ h2 W);clear g;go_enter Tryz.func152,Tryz.ntmps152;go_wp2_with (first|(go_at_call 150;(with_reducible refine cM f.out ?_);rintro e w' ⟨rfl,j⟩;subst w')|(go_at_call 150;(with_reducible refine cM m.out ?_);rintro e w' ⟨rfl,j⟩;subst w'));go_ret;exact ⟨by rw[d.out];rfl,h⟩
   ·have m:=ja1 (bZ h2 W);have d:S (dd s a=2):=by show _=_;unfold dd;rw[if_neg (by omega:¬s.k=2),if_neg (by omega:¬s.k=3),if_neg (by omega:¬s.k=7),if_neg (by omega:¬s.k=8),if_pos g];simp[u,h2]
    clear g;go_enter Tryz.func152,Tryz.ntmps152;go_wp2_with (first|(go_at_call 150;(with_reducible refine cM f.out ?_);rintro e w' ⟨rfl,j⟩;subst w')|(go_at_call 150;(with_reducible refine cM m.out ?_);rintro e w' ⟨rfl,j⟩;subst w'));go_ret;exact ⟨by rw[d.out];rfl,h⟩
 have d:S (dd s a=0):=by show _=_;unfold dd;rw[if_neg (by assumption:¬s.k=2),if_neg (by assumption:¬s.k=3),if_neg (by assumption:¬s.k=7),if_neg (by assumption:¬s.k=8),if_neg (by assumption:¬s.k=9)]
 have q2:(s.k==2)=false:=by simp;omega
 have q3:(s.k==3)=false:=by simp;omega
 have q7:(s.k==7)=false:=by simp;omega
 have q8:(s.k==8)=false:=by simp;omega
 have q9:(s.k==9)=false:=by simp;omega
 go_enter Tryz.func152,Tryz.ntmps152;go_wp2;go_ret;exact ⟨by rw[d.out];rfl,h⟩

theorem xJ (s:Stp) (a b:Int) (w:X) (ha:0<=a/\a<=8) (hb:0<=b/\b<=8) :
  Y O 151 #[L (ja8 s),V I a,V I b] w fun e w'=>e= J (V I (dT s a b))/\Gr w w':=by
 obtain ⟨W,C⟩:=jb0 (w.alloc (H (ja8 s) 132));have j:Gr w W:=by rw[<-C];exact (gR w).alloc _
 have n:jb1 W w.heap.size 0 (V I s.k):=by rw[<-C];exact ab (gR _) rfl
 have R:jb1 W w.heap.size 3 (V I s.c):=by rw[<-C];exact ab (gR _) rfl
 have c5:jb1 W w.heap.size 5 (V I s.v):=by rw[<-C];exact ab (gR _) rfl
 by_cases h:s.k=4
 ·skip;have E:jb1 W w.heap.size 0 (V I 4):=by rw[<-h];exact n
  clear n;by_cases F:a+b<=8
  ·skip;cases r:belowB s.c a
   ·have d:S (dT s a b=0):=(by show _=_;unfold dT;rw[if_pos h];simp[*]);have g:=ja1 (bZ r W);clear h;go_enter Tryz.func151,Tryz.ntmps151;go_wp2_with (go_at_call 150;(with_reducible refine cM g.out ?_);rintro e w' ⟨rfl,m⟩;subst w');go_ret;exact ⟨by rw[d.out];rfl,j⟩
   ·have g:=ja1 (bZ r W);cases u:belowB s.v b
    ·have d:S (dT s a b=0):=(by show _=_;unfold dT;rw[if_pos h];simp[*]);have l:=ja1 (bZ u W);clear h;go_enter Tryz.func151,Tryz.ntmps151;go_wp2_with (first|(go_at_call 150;(with_reducible refine cM g.out ?_);rintro e w' ⟨rfl,m⟩;subst w')|(go_at_call 150;(with_reducible refine cM l.out ?_);rintro e w' ⟨rfl,m⟩;subst w'));go_ret;exact ⟨by rw[d.out];rfl,j⟩
    ·have l:=ja1 (bZ u W);have d:S (dT s a b=a+b):=by show _=_;unfold dT;rw[if_pos h];simp[r,u,F]
     clear h;go_enter Tryz.func151,Tryz.ntmps151;go_wp2_with (first|(go_at_call 150;(with_reducible refine cM g.out ?_);rintro e w' ⟨rfl,m⟩;subst w')|(go_at_call 150;(with_reducible refine cM l.out ?_);rintro e w' ⟨rfl,m⟩;subst w'));go_ret;exact ⟨by rw[d.out];rfl,j⟩
  ·skip;cases r:belowB s.c a
   ·have d:S (dT s a b=0):=(by show _=_;unfold dT;rw[if_pos h];simp[*]);have g:=ja1 (bZ r W);clear h;go_enter Tryz.func151,Tryz.ntmps151;go_wp2_with (go_at_call 150;(with_reducible refine cM g.out ?_);rintro e w' ⟨rfl,m⟩;subst w');go_ret;exact ⟨by rw[d.out];rfl,j⟩
   ·have g:=ja1 (bZ r W);cases u:belowB s.v b
    ·have d:S (dT s a b=0):=(by show _=_;unfold dT;rw[if_pos h];simp[*]);have l:=ja1 (bZ u W);clear h;go_enter Tryz.func151,Tryz.ntmps151;go_wp2_with (first|(go_at_call 150;(with_reducible refine cM g.out ?_);rintro e w' ⟨rfl,m⟩;subst w')|(go_at_call 150;(with_reducible refine cM l.out ?_);rintro e w' ⟨rfl,m⟩;subst w'));go_ret;exact ⟨by rw[d.out];rfl,j⟩
    ·have l:=ja1 (bZ u W);have d:S (dT s a b=0):=by show _=_;unfold dT;rw[if_pos h];simp[F]
     clear h;go_enter Tryz.func151,Tryz.ntmps151;go_wp2_with (first|(go_at_call 150;(with_reducible refine cM g.out ?_);rintro e w' ⟨rfl,m⟩;subst w')|(go_at_call 150;(with_reducible refine cM l.out ?_);rintro e w' ⟨rfl,m⟩;subst w'));go_ret;exact ⟨by rw[d.out];rfl,j⟩
 by_cases h:s.k=5
 ·skip;have E:jb1 W w.heap.size 0 (V I 5):=by rw[<-h];exact n
  clear n;by_cases f:a=b
  ·subst f;have d:S (dT s a a=a):=by show _=_;unfold dT;rw[if_neg (by omega:¬s.k=4),if_pos h];simp
   clear h;go_enter Tryz.func151,Tryz.ntmps151;go_wp2;go_ret;exact ⟨by rw[d.out];rfl,j⟩
  ·have d:S (dT s a b=0):=(by show _=_;unfold dT;rw[if_neg (by omega:¬s.k=4),if_pos h];simp[f]);have D:(a==b)=false:=by simpa using f
   clear h f;go_enter Tryz.func151,Tryz.ntmps151;go_wp2;go_ret;exact ⟨by rw[d.out];rfl,j⟩
 by_cases h:s.k=6
 ·skip;have E:jb1 W w.heap.size 0 (V I 6):=by rw[<-h];exact n
  clear n;by_cases f:a=b
  ·subst f;have d:S (dT s a a=a):=by show _=_;unfold dT;rw[if_neg (by omega:¬s.k=4),if_neg (by omega:¬s.k=5),if_pos h];simp
   clear h;go_enter Tryz.func151,Tryz.ntmps151;go_wp2;go_ret;exact ⟨by rw[d.out];rfl,j⟩
  ·have d:S (dT s a b=0):=(by show _=_;unfold dT;rw[if_neg (by omega:¬s.k=4),if_neg (by omega:¬s.k=5),if_pos h];simp[f]);have D:(a==b)=false:=by simpa using f
   clear h f;go_enter Tryz.func151,Tryz.ntmps151;go_wp2;go_ret;exact ⟨by rw[d.out];rfl,j⟩
 have d:S (dT s a b=0):=by show _=_;unfold dT;rw[if_neg (by assumption:¬s.k=4),if_neg (by assumption:¬s.k=5),if_neg (by assumption:¬s.k=6)]
 have q4:(s.k==4)=false:=by simp;omega
 have q5:(s.k==5)=false:=by simp;omega
 have q6:(s.k==6)=false:=by simp;omega
 go_enter Tryz.func151,Tryz.ntmps151;go_wp2;go_ret;exact ⟨by rw[d.out];rfl,j⟩


def aB (s:Stp) (ah:List Int):Int:=if bP s=true then (if s.k=1 then (if belowB s.a 2=true then 4 else 0) else if belowB s.a ah.length=true then (if s.k=4\/s.k=5\/s.k=6 then (if belowB s.b ah.length=true then dT s (ah.getD s.a.toNat 0) (ah.getD s.b.toNat 0) else 0) else dd s (ah.getD s.a.toNat 0)) else 0) else 0
theorem grD {w w':X} (h:Gr w w'):∃q c,w'=grow (w.drewN q) c:=h
theorem iB {n:Int} {m:Nat} (h:belowB n m=true):∃k:Nat,n=k/\k<m:=by simp only[belowB,Bool.and_eq_true,decide_eq_true_eq] at h;exact ⟨n.toNat,by omega,by omega⟩
theorem kK {l:List Int} {k:Nat} (h:k<l.length):l.getD k 0=l[k]:=by rw[List.getD_eq_getElem?_getD,List.getElem?_eq_getElem h];rfl

theorem uz (s:Stp) (g:List Int) (A:Option K) (ca:Nat) (w:X) (hl:s.l.length<=maxLen) (hr:aq w s.p s.l) (bN:aq w A g) (bv:∀x∈g,0<=x/\x<=8) :
  Y O 128 #[L #[V I s.k,V I s.a,V I s.b,V I s.c,V I s.o,V I s.v,Z s.p s.l.length s.n],Z A g.length ca] w fun e w'=>e= J (V I (aB s g))/\Gr w w':=by
 have aL:Tryz.prog.follows .mixedOrders=true:=by kernel_rfl
 have bC:Gr w (w.alloc (H #[V I s.k,V I s.a,V I s.b,V I s.c,V I s.o,V I s.v,Z s.p s.l.length s.n] 132)):=(gR w).alloc _;have bG:=sJ s (w.alloc (H #[V I s.k,V I s.a,V I s.b,V I s.c,V I s.o,V I s.v,Z s.p s.l.length s.n] 132));have bl:S _:=bG;have c0:jb1 (w.alloc (H #[V I s.k,V I s.a,V I s.b,V I s.c,V I s.o,V I s.v,Z s.p s.l.length s.n] 132)) w.heap.size 0 (V I s.k):=ab (gR _) rfl;have c1:jb1 (w.alloc (H #[V I s.k,V I s.a,V I s.b,V I s.c,V I s.o,V I s.v,Z s.p s.l.length s.n] 132)) w.heap.size 1 (V I s.a):=ab (gR _) rfl;have c2:jb1 (w.alloc (H #[V I s.k,V I s.a,V I s.b,V I s.c,V I s.o,V I s.v,Z s.p s.l.length s.n] 132)) w.heap.size 2 (V I s.b):=ab (gR _) rfl;have c3:jb1 (w.alloc (H #[V I s.k,V I s.a,V I s.b,V I s.c,V I s.o,V I s.v,Z s.p s.l.length s.n] 132)) w.heap.size 3 (V I s.c):=ab (gR _) rfl;have c4:jb1 (w.alloc (H #[V I s.k,V I s.a,V I s.b,V I s.c,V I s.o,V I s.v,Z s.p s.l.length s.n] 132)) w.heap.size 4 (V I s.o):=ab (gR _) rfl;have c5:jb1 (w.alloc (H #[V I s.k,V I s.a,V I s.b,V I s.c,V I s.o,V I s.v,Z s.p s.l.length s.n] 132)) w.heap.size 5 (V I s.v):=ab (gR _) rfl;have c6:jb1 (w.alloc (H #[V I s.k,V I s.a,V I s.b,V I s.c,V I s.o,V I s.v,Z s.p s.l.length s.n] 132)) w.heap.size 6 (Z s.p s.l.length s.n):=ab (gR _) rfl;have ap:S (aq w s.p s.l/\s.l.length<=maxLen/\aq w A g/\∀x∈g,0<=x/\x<=8):=⟨hr,hl,bN,bv⟩;go_enter Tryz.func128,Tryz.ntmps128;go_wp2_with fail;refine ja0 bl ?_;rintro e d ⟨rfl,u⟩;have c0:jb1 d w.heap.size 0 (V I s.k):=ab u rfl;have c1:jb1 d w.heap.size 1 (V I s.a):=ab u rfl;have c2:jb1 d w.heap.size 2 (V I s.b):=ab u rfl;have c3:jb1 d w.heap.size 3 (V I s.c):=ab u rfl;have c4:jb1 d w.heap.size 4 (V I s.o):=ab u rfl;have c5:jb1 d w.heap.size 5 (V I s.v):=ab u rfl;have c6:jb1 d w.heap.size 6 (Z s.p s.l.length s.n):=ab u rfl;have r:Gr w d:=bC.trans u;cases a1:bP s
 ·have f:S (aB s g=0):=by show _=_;unfold aB;rw[if_neg (by rw[a1];simp)]
  go_wp2;go_ret;exact ⟨by rw[f.out];rfl,r⟩
 have F:S (aB s g=if s.k=1 then (if belowB s.a 2=true then 4 else 0) else if belowB s.a g.length=true then (if s.k=4\/s.k=5\/s.k=6 then (if belowB s.b g.length=true then dT s (g.getD s.a.toNat 0) (g.getD s.b.toNat 0) else 0) else dd s (g.getD s.a.toNat 0)) else 0):=by show _=_;unfold aB;rw[if_pos a1]
 by_cases hk:s.k=1
 ·have e0:jb1 d w.heap.size 0 (V I 1):=by rw[<-hk];exact c0
  cases hb:belowB s.a 2
  ·have f:S (aB s g=0):=(by show _=_;rw[F.out,if_pos hk,if_neg (by rw[hb];simp)]);have m:S (Y O 150 #[V I s.a,V I 2] d fun e w'=>e= J (U false)/\w'=d):=bZ hb d;go_wp2_with (go_at_call 150;(with_reducible refine cM m.out ?_);rintro e w' ⟨rfl,C⟩;subst w');go_ret;exact ⟨by rw[f.out];rfl,r⟩
  ·have f:S (aB s g=4):=(by show _=_;rw[F.out,if_pos hk,if_pos hb]);have m:S (Y O 150 #[V I s.a,V I 2] d fun e w'=>e= J (U true)/\w'=d):=bZ hb d;go_wp2_with (go_at_call 150;(with_reducible refine cM m.out ?_);rintro e w' ⟨rfl,C⟩;subst w');go_ret;exact ⟨by rw[f.out];rfl,r⟩
 have b0:(s.k==1)=false:=by simpa using hk
 cases hb:belowB s.a g.length
 ·have f:S (aB s g=0):=by show _=_;rw[F.out,if_neg hk,if_neg (by rw[hb];simp)]
  have m:S (Y O 150 #[V I s.a,V I g.length] d fun e w'=>e= J (U false)/\w'=d):=bZ hb d;go_wp2_with (go_at_call 150;(with_reducible refine cM m.out ?_);rintro e w' ⟨rfl,C⟩;subst w');go_ret;exact ⟨by rw[f.out];rfl,r⟩
 have m:S (Y O 150 #[V I s.a,V I g.length] d fun e w'=>e= J (U true)/\w'=d):=bZ hb d;obtain ⟨ka,an,D⟩:=iB hb;have bs:aq d A g:=ap.out.2.2.1.gr r;obtain ⟨ba,oa,rfl,a3,be⟩:=bs.at D;obtain ⟨R,a6⟩:=jb0 (g[ka]);have bc:=be ka D 0 (by omega);rw[a6] at bc;have ea:jb1 d ba (oa+ka) (V I R):=by simpa[dU] using bc
 have a4:S (g.getD s.a.toNat 0=R/\0<=R/\R<=8):=by refine ⟨?_,ap.out.2.2.2 R (by rw[<-a6];exact gM D)⟩;rw[an,Int.toNat_natCast,kK D,a6]
 have d1:jb1 d w.heap.size 1 (V I (ka:Int)):=by rw[<-an];exact c1
 rw[an] at m;by_cases ak:s.k=4\/s.k=5\/s.k=6
 ·cases ad:belowB s.b g.length
  ·have f:S (aB s g=0):=(by show _=_;rw[F.out,if_neg hk,if_pos hb,if_pos ak,if_neg (by rw[ad];simp)]);have a8:S (Y O 150 #[V I s.b,V I g.length] d fun e w'=>e= J (U false)/\w'=d):=bZ ad d;rcases ak with k4|k4|k4;all_goals rw[k4] at c0;go_wp2_with (first|(go_at_call 150;(with_reducible refine cM m.out ?_);rintro e w' ⟨rfl,C⟩;subst w')|(go_at_call 150;(with_reducible refine cM a8.out ?_);rintro e w' ⟨rfl,C⟩;subst w'));go_ret;exact ⟨by rw[f.out];rfl,r⟩
  ·have a2:Y O 150 #[V I s.b,V I g.length] d fun e w'=>e= J (U true)/\w'=d:=bZ ad d;obtain ⟨kb,E,ao⟩:=iB ad;obtain ⟨xb,a7⟩:=jb0 (g[kb]);have bd:=be kb ao 0 (by omega);rw[a7] at bd;have eb:jb1 d ba (oa+kb) (V I xb):=by simpa[dU] using bd
   have bh:S (g.getD s.b.toNat 0=xb/\0<=xb/\xb<=8):=(by refine ⟨?_,ap.out.2.2.2 xb (by rw[<-a7];exact gM ao)⟩;rw[E,Int.toNat_natCast,kK ao,a7]);have d2:jb1 d w.heap.size 2 (V I (kb:Int)):=by rw[<-E];exact c2
   rw[E] at a2;have a8:S (Y O 150 #[V I (kb:Int),V I g.length] d fun e w'=>e= J (U true)/\w'=d):=a2;have f:S (aB s g=dT s R xb):=by show _=_;rw[F.out,if_neg hk,if_pos hb,if_pos ak,if_pos ad,a4.out.1,bh.out.1]
   have a5:∀n os,Y O 151 #[L #[V I s.k,V I s.a,V I s.b,V I s.c,V I s.o,V I s.v,Z s.p s.l.length s.n],V I R,V I xb] (grow (d.drewN n) os) fun e w'=>e= J (V I (dT s R xb))/\∃q bb,w'=grow ((grow (d.drewN n) os).drewN q) bb:=fun n os=>(xJ s R xb _ a4.out.2 bh.out.2).mono fun e w' h=>⟨h.1,grD h.2⟩;rw[an,E] at a5;have gb:=(gR d).cellG (a:=(jb5 ba (oa+kb))) a3 eb;have j:w.heap.size<d.heap.size:=World.block_lt_of_cell? d (jb5 w.heap.size 0) c0;have g0:=(gR d).cellG (a:=(jb5 w.heap.size 0)) j c0;have g1:=(gR d).cellG (a:=(jb5 w.heap.size 1)) j d1;have g2:=(gR d).cellG (a:=(jb5 w.heap.size 2)) j d2;have g3:=(gR d).cellG (a:=(jb5 w.heap.size 3)) j c3;have g4:=(gR d).cellG (a:=(jb5 w.heap.size 4)) j c4;have g5:=(gR d).cellG (a:=(jb5 w.heap.size 5)) j c5;have g6:=(gR d).cellG (a:=(jb5 w.heap.size 6)) j c6;have ga:=(gR d).cellG (a:=(jb5 ba (oa+ka))) a3 ea;rcases ak with k4|k4|k4;all_goals
    rw[k4] at c0 a5 g0;have bt:S (∀n os,Y O 151 _ (grow (d.drewN n) os) _):=a5;go_wp2_with (first|(go_at_call 150;(with_reducible refine cM m.out ?_);rintro e w' ⟨rfl,C⟩;subst w')|(go_at_call 150;(with_reducible refine cM a8.out ?_);rintro e w' ⟨rfl,C⟩;subst w'));refine wp_region_quiet_grown aL (by kernel_rfl) ?_;repeat (go_big_quiet_step ((go_at_call 151;refine Calls.grown_of (bt.out _ _))))
    refine wpQuiet_nil ?_;rintro _ ⟨⟨a9,a0⟩,rfl⟩;go_wp2;go_ret;exact ⟨by rw[f.out];rfl,r.trans ⟨a9,a0,rfl⟩⟩
 ·have f:S (aB s g=dd s R):=by show _=_;rw[F.out,if_neg hk,if_pos hb,if_neg ak,a4.out.1]
  have bo:∀n os,Y O 152 #[L #[V I s.k,V I s.a,V I s.b,V I s.c,V I s.o,V I s.v,Z s.p s.l.length s.n],V I R] (grow (d.drewN n) os) fun e w'=>e= J (V I (dd s R))/\∃q bb,w'=grow ((grow (d.drewN n) os).drewN q) bb:=fun n os=>(wK s R _ ap.out.2.1 (ap.out.1.gr (r.trans ⟨n,os,rfl⟩))).mono fun e w' h=>⟨h.1,grD h.2⟩;rw[an] at bo;have bp:S (∀n os,Y O 152 _ (grow (d.drewN n) os) _):=bo;have j:w.heap.size<d.heap.size:=World.block_lt_of_cell? d (jb5 w.heap.size 0) c0;have g0:=(gR d).cellG (a:=(jb5 w.heap.size 0)) j c0;have g1:=(gR d).cellG (a:=(jb5 w.heap.size 1)) j d1;have g2:=(gR d).cellG (a:=(jb5 w.heap.size 2)) j c2;have g3:=(gR d).cellG (a:=(jb5 w.heap.size 3)) j c3;have g4:=(gR d).cellG (a:=(jb5 w.heap.size 4)) j c4;have g5:=(gR d).cellG (a:=(jb5 w.heap.size 5)) j c5;have g6:=(gR d).cellG (a:=(jb5 w.heap.size 6)) j c6;have ga:=(gR d).cellG (a:=(jb5 ba (oa+ka))) a3 ea;go_wp2_with (go_at_call 150;(with_reducible refine cM m.out ?_);rintro e w' ⟨rfl,C⟩;subst w');refine wp_region_quiet_grown aL (by kernel_rfl) ?_;repeat (go_big_quiet_step ((go_at_call 152;refine Calls.grown_of (bp.out _ _))))
  refine wpQuiet_nil ?_;rintro _ ⟨⟨a9,a0⟩,rfl⟩;go_wp2;go_ret;exact ⟨by rw[f.out];rfl,r.trans ⟨a9,a0,rfl⟩⟩


structure Stps (w:X) (A:Option K) (q:List Stp):Prop where
 row:aC iW 7 w A q
 each:∀s∈q,aq w s.p s.l/\s.l.length<=maxLen/\(s.p=none->s.n=0)
theorem Stps.below {w w':X} {A:Option K} {q:List Stp} (h:Stps w A q) (k:jb2 w w'):Stps w' A q:=⟨h.row.below k,fun s c=>⟨(h.each s c).1.below k,(h.each s c).2⟩⟩
theorem Stps.gr {w w':X} {A:Option K} {q:List Stp} (h:Stps w A q) (k:Gr w w'):Stps w' A q:=h.below k.below
theorem Stps.at {w:X} {A:Option K} {q:List Stp} (h:Stps w A q) {j:Nat} (d:j<q.length):∃b c,A=some (jb5 b c)/\b<w.heap.size/\∀i,i<7->w.cell? (jb5 b (c+j*7+i))=(iW q[j])[i]? := by obtain ⟨b,c,f,g,k⟩:=h.row.at d;exact ⟨b,c,f,g,fun i hi=>k j d i hi⟩
def bT:List Stp->List Int->Option (List Int)
 | [],ah=>some ah
 | s::t,ah=>if aB s ah=0 then none else bT t (ah++[aB s ah])
def bX (q:List Stp):Int:=if q.length=0 then 1 else if 8<q.length then 2 else if (bT q []).isSome=true then 0 else 1
def iV (q:List Stp):List Int:=if bX q=0 then (bT q []).getD [] else []
theorem lK {l:List Int} (h:∀x∈l,0<=x/\x<=8) (k:Nat):0<=l.getD k 0/\l.getD k 0<=8:=by
 rw[List.getD_eq_getElem?_getD];cases e:l[k]? with
 | none=>simp
 | some x=>exact h x (List.mem_of_getElem? e)
theorem Ad (s:Stp) {a:Int} (h:0<=a/\a<=8):0<=dd s a/\dd s a<=8:=by
 unfold dd;repeat' split
 all_goals first|omega|skip
 rename_i h1;simp at h1;omega
theorem Aj (s:Stp) {a b:Int} (h:0<=a/\a<=8) (k:0<=b/\b<=8):0<=dT s a b/\dT s a b<=8:=by
 unfold dT;repeat' split
 all_goals first|omega|skip
 rename_i h1;simp at h1;omega
theorem rQ (s:Stp) {c:List Int} (h:∀x∈c,0<=x/\x<=8):0<=aB s c/\aB s c<=8:=by
 have d:=Ad s (lK h s.a.toNat);have f:=Aj s (lK h s.a.toNat) (lK h s.b.toNat);unfold aB;repeat' split
 all_goals omega

theorem rR (q:List Stp) (A:Option K) (ca:Nat) (w:X) (hl:q.length<=maxLen) (hq:Stps w A q) :
  Y O 96 #[Z A q.length ca] w fun e w'=>∃(C:Option K) (c:Nat),e= J (.tuple #[Z C (iV q).length c,V I (bX q)])/\aq w' C (iV q)/\(C=none->c=0)/\jb2 w w':=by
 unfold maxLen at hl;by_cases h0:q.length=0
 ·have F:S (bX q=1/\iV q=[]):=by have e:bX q=1:=(by unfold bX;rw[if_pos h0]);exact ⟨e,by unfold iV;rw[e,if_neg (by decide)]⟩
  have ba:((q.length:Int)==0)=true:=by rw[h0];rfl
  go_enter Tryz.func96,Tryz.ntmps96;go_wp2;go_ret2;exact ⟨none,0,by rw[F.out.1,F.out.2];rfl,by rw[F.out.2];exact oL rfl,fun _=>rfl,bR _ _⟩
 have ba:((q.length:Int)==0)=false:=beq_eq_false_iff_ne.2 (by omega);by_cases h8:8<q.length
 ·have F:S (bX q=2/\iV q=[]):=by have e:bX q=2:=(by unfold bX;rw[if_neg h0,if_pos h8]);exact ⟨e,by unfold iV;rw[e,if_neg (by decide)]⟩
  have bc:(8:Int)<(q.length:Int):=by omega
  go_enter Tryz.func96,Tryz.ntmps96;go_wp2;go_ret2;exact ⟨none,0,by rw[F.out.1,F.out.2];rfl,by rw[F.out.2];exact oL rfl,fun _=>rfl,bR _ _⟩
 have bc:¬(8:Int)<(q.length:Int):=by omega
 have an:S (bX q=if (bT q []).isSome=true then 0 else 1):=by show _=_;unfold bX;rw[if_neg h0,if_neg h8]
 have bl:=ja1 hq;go_enter Tryz.func96,Tryz.ntmps96;go_wp2;go_loopw [4,16] (fun v i wr=>∃(j:Nat) (d:List Int),j<=q.length/\i= V I j/\S (d.length=j/\(∀x∈d,0<=x/\x<=8)/\bT q []=bT (q.drop j) d)/\S (dD wr w.heap.size v d/\jb2 w wr)) (fun _ i _=>q.length-(intOf i).toNat);exact ⟨0,[],by omega,rfl,⟨rfl,(fun x hx=>by cases hx),by simp⟩,ae.nil _ _ _ _ _,bR _ _⟩;obtain ⟨j,d,hj,rfl,u,g⟩:=hrel;by_cases aL:j<q.length
 ·have a7:(j:Int)<(q.length:Int):=by omega
  have hI:=ja1 (bl.out.below g.out.2);obtain ⟨bb,E,rfl,hb,f⟩:=hI.out.at aL;obtain ⟨s,hs⟩:=jb0 (q[j]);have a2:=hI.out.each s (by rw[<-hs];exact gM aL);rw[hs] at f;have m0:jb1 wr bb (E+j*7) (V I s.k):=f 0 (by omega);have m1:jb1 wr bb (E+j*7+1) (V I s.a):=f 1 (by omega);have m2:jb1 wr bb (E+j*7+2) (V I s.b):=f 2 (by omega);have m3:jb1 wr bb (E+j*7+3) (V I s.c):=f 3 (by omega);have m4:jb1 wr bb (E+j*7+4) (V I s.o):=f 4 (by omega);have m5:jb1 wr bb (E+j*7+5) (V I s.v):=f 5 (by omega);have m6:jb1 wr bb (E+j*7+6) (Z s.p s.l.length s.n):=f 6 (by omega);have D:S (bT q []=if aB s d=0 then none else bT (q.drop (j+1)) (d++[aB s d])):=by show _=_;rw[u.out.2.2,List.drop_eq_getElem_cons aL,hs];rfl
  have a8:=rQ s u.out.2.1;obtain ⟨G,gc,rfl,hG,ad,a6⟩:=ae.row bI g.out.1;have ap:Gr wr (wr.alloc (H (ja8 s) 132)):=(gR wr).alloc _;have c0:jb1 (wr.alloc (H (ja8 s) 132)) wr.heap.size 0 (V I s.k):=ab (gR _) rfl;have c1:jb1 (wr.alloc (H (ja8 s) 132)) wr.heap.size 1 (V I s.a):=ab (gR _) rfl;have c2:jb1 (wr.alloc (H (ja8 s) 132)) wr.heap.size 2 (V I s.b):=ab (gR _) rfl;have c3:jb1 (wr.alloc (H (ja8 s) 132)) wr.heap.size 3 (V I s.c):=ab (gR _) rfl;have c4:jb1 (wr.alloc (H (ja8 s) 132)) wr.heap.size 4 (V I s.o):=ab (gR _) rfl;have c5:jb1 (wr.alloc (H (ja8 s) 132)) wr.heap.size 5 (V I s.v):=ab (gR _) rfl;have c6:jb1 (wr.alloc (H (ja8 s) 132)) wr.heap.size 6 (Z s.p s.l.length s.n):=ab (gR _) rfl;have a3:=uz s d G gc (wr.alloc (H (ja8 s) 132)) a2.2.1 (a2.1.gr ap) (ad.gr ap) u.out.2.1;obtain ⟨n,hn⟩:=jb0 (aB s d);rw[hn] at a3 D a8;have a9:S _:=a3;clear f hs a3 a2;go_wp2_with fail;refine ja0 a9 ?_;rintro e w1 ⟨rfl,be⟩;have a5:=ja1 (ap.trans be);by_cases ak:n=0
  ·have F:S (bX q=1/\iV q=[]):=(by have e:bX q=1:=(by rw[an.out,D.out,if_pos ak];rfl);exact ⟨e,by unfold iV;rw[e,if_neg (by decide)]⟩);have bd:=ja1 (g.out.2.trans (a5.out.below.mono g.out.2.size));subst ak;go_wp2;go_ret2;exact ⟨none,0,by rw[F.out.1,F.out.2];rfl,by rw[F.out.2];exact oL rfl,fun _=>rfl,bd.out⟩
  ·have bo:(n==0)=false:=beq_eq_false_iff_ne.2 ak;have m:S (dD (w1.alloc (H #[V I n] 3)) w.heap.size (Z G d.length gc) d/\aq (w1.alloc (H #[V I n] 3)) (jb4 w1.heap.size 0) [n]/\d.length+1<=maxLen/\(d.length+1)*8<=140737488355328/\jb2 w (w1.alloc (H #[V I n] 3))):=by have h1:=u.out.1;have a4:Gr wr (w1.alloc (H #[V I n] 3)):=a5.out.alloc _;exact ⟨g.out.1.gr a4,eQ rfl n 3,by unfold maxLen;omega,by omega,g.out.2.trans (a4.below.mono g.out.2.size)⟩
   have a0:S ((d++[n]).length=j+1/\(∀x∈d++[n],0<=x/\x<=8)/\bT q []=bT (q.drop (j+1)) (d++[n])):=by
    refine ⟨by simp[u.out.1],fun x hx=> ?_,by rw[D.out,if_neg ak]⟩;rcases List.mem_append.1 hx with k|k
    ·exact u.out.2.1 x k
    ·rw[List.mem_singleton.1 k];exact a8
   go_wp2_with (at_builtin;refine aH _ rfl (.tmp 25) (.tmp 27) rfl w.heap.size (Z G d.length gc) d [n] (jb4 w1.heap.size 0) 1 rfl rfl m.out.1 m.out.2.1 (fun h=>by cases h) m.out.2.2.1 m.out.2.2.2.1 m.out.2.2.2.2.size ?_;intro v7 w7 a1 bh);have ao:=ja2 a1 (m.out.2.2.2.2.trans (ae.grown_below m.out.1 bh m.out.2.2.2.2.size));go_roundw;exact ⟨j+1,d++[n],by omega,by go_num,a0,ao⟩;simp[intOf];omega
 ·have a7:¬(j:Int)<(q.length:Int):=by omega
  have R:S (bX q=0/\iV q=d):=by
   have h1:=u.out.2.2;rw[List.drop_eq_nil_of_le (by omega)] at h1;have e:bX q=0:=by rw[an.out,h1];rfl
   exact ⟨e,by unfold iV;rw[if_pos e,h1];rfl⟩
  obtain ⟨G,gc,rfl,hG,ad,a6⟩:=ae.row bI g.out.1;have r:=ja3 ad hG g.out.2;go_wp2;go_ret2;exact ⟨G,gc,by rw[R.out.1,R.out.2];rfl,by rw[R.out.2];exact r.out.1,r.out.2.1,r.out.2.2⟩

end Go.Proofs.YtbkjgjjpnfhkhaaGreatDoor

namespace Go.Proofs.YtbkjgjjpnfhkhaaGreatDoor

def toB (n op v:Int):Bool:=if op=1 then decide (n<v) else if op=2 then decide (n=v) else decide (v<n)
def atI (r:List Int) (c:Int):Int:=r.getD c.toNat 0
def bM (l:List Zit) (c o v:Int):List Zit:=l.filter fun x=>toB (atI x.1 c) o v
def cK (cols:List Int) (r:List Int):List Int:=cols.map fun c=>atI r c
def dj (l:List Zit) (cols:List Int):List Zit:=l.map fun x=>(cK cols x.1,x.2)
def de (l:List Zit):List Zit:=(l.filter fun x=>decide (0<x.2)).map fun x=>(x.1,1)
theorem mU {a b:List Zit} (h:bi a b=0):am a=0/\am b=0/\am (aZ a b)=0:=by
 unfold bi at h;by_cases c:am a=0
 ·rw[if_pos c] at h;by_cases d:am b=0
  ·rw[if_pos d] at h;by_cases f:da (a++b)=0
   ·rw[if_pos f] at h;by_cases g:400<(bQ (a++b)).length
    ·rw[if_pos g] at h;cases h
    ·refine ⟨c,d,?_⟩;have e:aZ a b=bQ (a++b):=by unfold aZ bi;rw[if_pos c,if_pos d,if_pos f,if_neg g,if_pos rfl]
     rw[e];have l:=bk (a++b);refine (aQ _).2 ⟨by omega,l.okZ (oc f) (fun x j=> ?_),l.rise⟩;rcases List.mem_append.1 j with k|k
     ·exact (bg (((aQ a).1 c).2.1 x k)).1
     ·exact (bg (((aQ b).1 d).2.1 x k)).1
   ·rw[if_neg f] at h;exact absurd h f
  ·rw[if_neg d] at h;exact absurd h d
 ·rw[if_neg c] at h;exact absurd h c
end Go.Proofs.YtbkjgjjpnfhkhaaGreatDoor

namespace Go.Proofs.YtbkjgjjpnfhkhaaGreatDoor
open Go.RowKit Go.Sort

theorem qI (q:List Stp) (A:Option K) (ca:Nat) (w:X) (g:q.length<=maxLen) (h:Stps w A q) :
  Y O 60 #[Z A q.length ca] w fun e w'=>e= J (V I (bX q))/\jb2 w w':=by have d:S _:=rR q A ca w g h;go_enter Tryz.func60,Tryz.ntmps60;go_wp2_with fail;refine ja0 d ?_;rintro e j ⟨C,c,rfl,-,-,f⟩;go_wp2;go_ret;exact ⟨rfl,f⟩

theorem s9 (n lo hi:Int) (w:X):Y O 5 #[V I n,V I lo,V I hi] w fun e w'=>e= J (U (inB n lo hi))/\w'=w:=by
 by_cases c:lo<=n
 ·by_cases d:n<=hi
  ·have e:inB n lo hi=true:=(by simp[inB];omega);rw[e];clear e;go_enter Tryz.func5,Tryz.ntmps5;go_wp2;go_ret;exact ⟨rfl,rfl⟩
  ·have e:inB n lo hi=false:=(by simp[inB];omega);rw[e];clear e;go_enter Tryz.func5,Tryz.ntmps5;go_wp2;go_ret;exact ⟨rfl,rfl⟩
 ·have e:inB n lo hi=false:=by simp[inB];omega
  rw[e];clear e;go_enter Tryz.func5,Tryz.ntmps5;go_wp2;go_ret;exact ⟨rfl,rfl⟩

end Go.Proofs.YtbkjgjjpnfhkhaaGreatDoor

namespace Go.Proofs.YtbkjgjjpnfhkhaaGreatDoor

theorem bH (n k:Int):belowB n k=inB n 0 (k-1):=by unfold belowB inB;rw[Bool.eq_iff_iff];simp only[Bool.and_eq_true,decide_eq_true_eq];omega
theorem AV (n:Int):opB n=inB n 1 3:=by unfold opB inB;rw[Bool.eq_iff_iff];simp only[Bool.and_eq_true,decide_eq_true_eq];omega
theorem zG {s:Stp} (h:s.k=1):bP s=(decide (s.b=0) && decide (s.c=0) && decide (s.o=0) && decide (s.v=0) && s.l.isEmpty):=by
 have t:az 1 65=true/\az 1 66=false/\az 1 67=false/\az 1 79=false/\az 1 86=false/\az 1 76=false:=by decide
 obtain ⟨d,f,g,j,m,n⟩:=t;simp[bP,fF,h,List.range_succ,jU,Stp.at,d,f,g,j,m,n,Bool.and_assoc]
theorem zH {s:Stp} (h:s.k=2):bP s=(decide (s.b=0) && s.l.isEmpty):=by
 have t:az 2 65=true/\az 2 66=false/\az 2 67=true/\az 2 79=true/\az 2 86=true/\az 2 76=false:=by decide
 obtain ⟨c,d,f,g,j,m⟩:=t;simp[bP,fF,h,List.range_succ,jU,Stp.at,c,d,f,g,j,m]
theorem zI {s:Stp} (h:s.k=3):bP s=(decide (s.b=0) && decide (s.c=0) && decide (s.o=0) && decide (s.v=0)):=by
 have t:az 3 65=true/\az 3 66=false/\az 3 67=false/\az 3 79=false/\az 3 86=false/\az 3 76=true:=by decide
 obtain ⟨d,f,g,j,l,m⟩:=t;simp[bP,fF,h,List.range_succ,jU,Stp.at,d,f,g,j,l,m,Bool.and_assoc]
theorem zJ {s:Stp} (h:s.k=4):bP s=(decide (s.o=0) && s.l.isEmpty):=by
 have t:az 4 65=true/\az 4 66=true/\az 4 67=true/\az 4 79=false/\az 4 86=true/\az 4 76=false:=by decide
 obtain ⟨c,d,f,g,j,m⟩:=t;simp[bP,fF,h,List.range_succ,jU,Stp.at,c,d,f,g,j,m]
theorem zK {s:Stp} (h:s.k=5):bP s=(decide (s.c=0) && decide (s.o=0) && decide (s.v=0) && s.l.isEmpty):=by
 have t:az 5 65=true/\az 5 66=true/\az 5 67=false/\az 5 79=false/\az 5 86=false/\az 5 76=false:=by decide
 obtain ⟨d,f,g,j,m,n⟩:=t;simp[bP,fF,h,List.range_succ,jU,Stp.at,d,f,g,j,m,n,Bool.and_assoc]
theorem zL {s:Stp} (h:s.k=6):bP s=(decide (s.c=0) && decide (s.o=0) && decide (s.v=0) && s.l.isEmpty):=by
 have t:az 6 65=true/\az 6 66=true/\az 6 67=false/\az 6 79=false/\az 6 86=false/\az 6 76=false:=by decide
 obtain ⟨d,f,g,j,m,n⟩:=t;simp[bP,fF,h,List.range_succ,jU,Stp.at,d,f,g,j,m,n,Bool.and_assoc]
theorem zM {s:Stp} (h:s.k=7):bP s=(decide (s.b=0) && decide (s.c=0) && decide (s.o=0) && decide (s.v=0) && s.l.isEmpty):=by
 have t:az 7 65=true/\az 7 66=false/\az 7 67=false/\az 7 79=false/\az 7 86=false/\az 7 76=false:=by decide
 obtain ⟨d,f,g,j,m,n⟩:=t;simp[bP,fF,h,List.range_succ,jU,Stp.at,d,f,g,j,m,n,Bool.and_assoc]
theorem zN {s:Stp} (h:s.k=8):bP s=(decide (s.b=0) && decide (s.o=0) && decide (s.v=0) && s.l.isEmpty):=by
 have t:az 8 65=true/\az 8 66=false/\az 8 67=true/\az 8 79=false/\az 8 86=false/\az 8 76=false:=by decide
 obtain ⟨c,d,f,g,j,m⟩:=t;simp[bP,fF,h,List.range_succ,jU,Stp.at,c,d,f,g,j,m,Bool.and_assoc]
theorem zO {s:Stp} (h:s.k=9):bP s=(decide (s.b=0) && decide (s.o=0) && s.l.isEmpty):=by
 have t:az 9 65=true/\az 9 66=false/\az 9 67=true/\az 9 79=false/\az 9 86=true/\az 9 76=false:=by decide
 obtain ⟨c,d,f,g,j,m⟩:=t;simp[bP,fF,h,List.range_succ,jU,Stp.at,c,d,f,g,j,m,Bool.and_assoc]
theorem AF (x y:Bool) (r:Int):(if x=true then (if y=true then r else 0) else 0)=if (x && y)=true then r else 0:=by cases x<;>cases y<;>simp
theorem yv (x y z:Bool) (r:Int):(if x=true then (if y=true then (if z=true then r else 0) else 0) else 0)=if (x && y && z)=true then r else 0:=by cases x<;>cases y<;>cases z<;>simp
theorem A5 (x y z u:Bool) (r:Int):(if x=true then (if y=true then (if z=true then (if u=true then r else 0) else 0) else 0) else 0)=if (x && y && z && u)=true then r else 0:=by cases x<;>cases y<;>cases z<;>cases u<;>simp
theorem uE {s:Stp} (h:¬(1<=s.k/\s.k<=9)) {c:List Int}:aB s c=0:=by
 have d:¬s.k=1:=by omega
 unfold aB;rw[if_neg d,if_neg (by omega:¬(s.k=4\/s.k=5\/s.k=6))];unfold dd;rw[if_neg (by omega:¬s.k=2),if_neg (by omega:¬s.k=3),if_neg (by omega:¬s.k=7),if_neg (by omega:¬s.k=8),if_neg (by omega:¬s.k=9)];simp
theorem Ak {s:Stp} (h:s.k=1) (d:List Int):aB s d=if (inB s.a 0 1 && decide (s.b=0) && decide (s.c=0) && decide (s.o=0) && decide (s.v=0) && s.l.isEmpty)=true then 4 else 0:=by unfold aB;rw[zG h,if_pos h];rw[bH,show (2:Int)-1=1 from rfl,AF,show ((decide (s.b=0) && decide (s.c=0) && decide (s.o=0) && decide (s.v=0) && s.l.isEmpty) && inB s.a 0 1)=(inB s.a 0 1 && decide (s.b=0) && decide (s.c=0) && decide (s.o=0) && decide (s.v=0) && s.l.isEmpty) from by ac_rfl]
theorem zh {s:Stp} (h:s.k=2) (d:List Int):aB s d=if (inB s.a 0 ((d.length:Int)-1) && decide (s.b=0) && s.l.isEmpty && inB s.o 1 3 && inB s.v (-1073741824) 1073741824 && inB s.c 0 ((d.getD s.a.toNat 0)-1))=true then (d.getD s.a.toNat 0) else 0:=by unfold aB;rw[zH h,if_neg (by omega:¬s.k=1),if_neg (by omega:¬(s.k=4\/s.k=5\/s.k=6))];unfold dd;rw[if_pos h];rw[bH,bH,AV,show mg s.v=inB s.v (-1073741824) 1073741824 from rfl,yv,show ((decide (s.b=0) && s.l.isEmpty) && inB s.a 0 ((d.length:Int)-1) && (inB s.c 0 ((d.getD s.a.toNat 0)-1) && inB s.o 1 3 && inB s.v (-1073741824) 1073741824))=(inB s.a 0 ((d.length:Int)-1) && decide (s.b=0) && s.l.isEmpty && inB s.o 1 3 && inB s.v (-1073741824) 1073741824 && inB s.c 0 ((d.getD s.a.toNat 0)-1)) from by ac_rfl]
theorem zi {s:Stp} (h:s.k=3) (d:List Int):aB s d=if (inB s.a 0 ((d.length:Int)-1) && decide (s.b=0) && inB (s.l.length:Int) 1 8 && s.l.all (fun n=>inB n 0 ((d.getD s.a.toNat 0)-1)) && decide (s.c=0) && decide (s.o=0) && decide (s.v=0))=true then (s.l.length:Int) else 0:=by
 unfold aB;rw[zI h,if_neg (by omega:¬s.k=1),if_neg (by omega:¬(s.k=4\/s.k=5\/s.k=6))];unfold dd;rw[if_neg (by omega:¬s.k=2),if_pos h];rw[bH,show (fun n=>belowB n (d.getD s.a.toNat 0))=(fun n=>inB n 0 (d.getD s.a.toNat 0-1)) from funext fun n=>bH n _];rw[show (if (decide (s.l.length<=8) && s.l.all (fun n=>inB n 0 (d.getD s.a.toNat 0-1)))=true then (s.l.length:Int) else 0)=(if (inB (s.l.length:Int) 1 8 && s.l.all (fun n=>inB n 0 (d.getD s.a.toNat 0-1)))=true then (s.l.length:Int) else 0) from ?_]
 ·rw[yv,show ((decide (s.b=0) && decide (s.c=0) && decide (s.o=0) && decide (s.v=0)) && inB s.a 0 ((d.length:Int)-1) && (inB (s.l.length:Int) 1 8 && s.l.all (fun n=>inB n 0 ((d.getD s.a.toNat 0)-1))))=(inB s.a 0 ((d.length:Int)-1) && decide (s.b=0) && inB (s.l.length:Int) 1 8 && s.l.all (fun n=>inB n 0 ((d.getD s.a.toNat 0)-1)) && decide (s.c=0) && decide (s.o=0) && decide (s.v=0)) from by ac_rfl]
 ·by_cases f:s.l.length=0
  ·rw[f];simp
  ·rw[show decide (s.l.length<=8)=inB (s.l.length:Int) 1 8 from ?_];unfold inB;rw[Bool.eq_iff_iff];simp only[Bool.and_eq_true,decide_eq_true_eq];omega
theorem zj {s:Stp} (h:s.k=4) (d:List Int):aB s d=if (inB s.a 0 ((d.length:Int)-1) && inB s.b 0 ((d.length:Int)-1) && s.l.isEmpty && decide ((d.getD s.a.toNat 0)+(d.getD s.b.toNat 0)<=8) && inB s.v 0 ((d.getD s.b.toNat 0)-1) && inB s.c 0 ((d.getD s.a.toNat 0)-1) && decide (s.o=0))=true then (d.getD s.a.toNat 0)+(d.getD s.b.toNat 0) else 0:=by unfold aB;rw[zJ h,if_neg (by omega:¬s.k=1),if_pos (by omega:s.k=4\/s.k=5\/s.k=6)];unfold dT;rw[if_pos h];rw[bH,bH,bH,bH,A5,show ((decide (s.o=0) && s.l.isEmpty) && inB s.a 0 ((d.length:Int)-1) && inB s.b 0 ((d.length:Int)-1) && (inB s.c 0 ((d.getD s.a.toNat 0)-1) && inB s.v 0 ((d.getD s.b.toNat 0)-1) && decide ((d.getD s.a.toNat 0)+(d.getD s.b.toNat 0)<=8)))=(inB s.a 0 ((d.length:Int)-1) && inB s.b 0 ((d.length:Int)-1) && s.l.isEmpty && decide ((d.getD s.a.toNat 0)+(d.getD s.b.toNat 0)<=8) && inB s.v 0 ((d.getD s.b.toNat 0)-1) && inB s.c 0 ((d.getD s.a.toNat 0)-1) && decide (s.o=0)) from by ac_rfl]
theorem Am {s:Stp} (h:s.k=5) (d:List Int):aB s d=if (inB s.a 0 ((d.length:Int)-1) && inB s.b 0 ((d.length:Int)-1) && s.l.isEmpty && decide ((d.getD s.a.toNat 0)=(d.getD s.b.toNat 0)) && decide (s.c=0) && decide (s.o=0) && decide (s.v=0))=true then (d.getD s.a.toNat 0) else 0:=by unfold aB;rw[zK h,if_neg (by omega:¬s.k=1),if_pos (by omega:s.k=4\/s.k=5\/s.k=6)];unfold dT;rw[if_neg (by omega:¬s.k=4),if_pos h];rw[show (if (d.getD s.a.toNat 0)=(d.getD s.b.toNat 0) then (d.getD s.a.toNat 0) else 0)=(if decide ((d.getD s.a.toNat 0)=(d.getD s.b.toNat 0))=true then (d.getD s.a.toNat 0) else 0) from by simp only[decide_eq_true_eq],bH,bH,A5,show ((decide (s.c=0) && decide (s.o=0) && decide (s.v=0) && s.l.isEmpty) && inB s.a 0 ((d.length:Int)-1) && inB s.b 0 ((d.length:Int)-1) && decide ((d.getD s.a.toNat 0)=(d.getD s.b.toNat 0)))=(inB s.a 0 ((d.length:Int)-1) && inB s.b 0 ((d.length:Int)-1) && s.l.isEmpty && decide ((d.getD s.a.toNat 0)=(d.getD s.b.toNat 0)) && decide (s.c=0) && decide (s.o=0) && decide (s.v=0)) from by ac_rfl]
theorem An {s:Stp} (h:s.k=6) (d:List Int):aB s d=if (inB s.a 0 ((d.length:Int)-1) && inB s.b 0 ((d.length:Int)-1) && s.l.isEmpty && decide ((d.getD s.a.toNat 0)=(d.getD s.b.toNat 0)) && decide (s.c=0) && decide (s.o=0) && decide (s.v=0))=true then (d.getD s.a.toNat 0) else 0:=by unfold aB;rw[zL h,if_neg (by omega:¬s.k=1),if_pos (by omega:s.k=4\/s.k=5\/s.k=6)];unfold dT;rw[if_neg (by omega:¬s.k=4),if_neg (by omega:¬s.k=5),if_pos h];rw[show (if (d.getD s.a.toNat 0)=(d.getD s.b.toNat 0) then (d.getD s.a.toNat 0) else 0)=(if decide ((d.getD s.a.toNat 0)=(d.getD s.b.toNat 0))=true then (d.getD s.a.toNat 0) else 0) from by simp only[decide_eq_true_eq],bH,bH,A5,show ((decide (s.c=0) && decide (s.o=0) && decide (s.v=0) && s.l.isEmpty) && inB s.a 0 ((d.length:Int)-1) && inB s.b 0 ((d.length:Int)-1) && decide ((d.getD s.a.toNat 0)=(d.getD s.b.toNat 0)))=(inB s.a 0 ((d.length:Int)-1) && inB s.b 0 ((d.length:Int)-1) && s.l.isEmpty && decide ((d.getD s.a.toNat 0)=(d.getD s.b.toNat 0)) && decide (s.c=0) && decide (s.o=0) && decide (s.v=0)) from by ac_rfl]
theorem zk {s:Stp} (h:s.k=7) (d:List Int):aB s d=if (inB s.a 0 ((d.length:Int)-1) && decide (s.b=0) && s.l.isEmpty && decide (s.c=0) && decide (s.o=0) && decide (s.v=0))=true then (d.getD s.a.toNat 0) else 0:=by unfold aB;rw[zM h,if_neg (by omega:¬s.k=1),if_neg (by omega:¬(s.k=4\/s.k=5\/s.k=6))];unfold dd;rw[if_neg (by omega:¬s.k=2),if_neg (by omega:¬s.k=3),if_pos h];rw[bH,AF,show ((decide (s.b=0) && decide (s.c=0) && decide (s.o=0) && decide (s.v=0) && s.l.isEmpty) && inB s.a 0 ((d.length:Int)-1))=(inB s.a 0 ((d.length:Int)-1) && decide (s.b=0) && s.l.isEmpty && decide (s.c=0) && decide (s.o=0) && decide (s.v=0)) from by ac_rfl]
theorem xM {s:Stp} (h:s.k=8) (d:List Int):aB s d=if (inB s.a 0 ((d.length:Int)-1) && decide (s.b=0) && s.l.isEmpty && inB s.c 0 ((d.getD s.a.toNat 0)-1) && decide (s.o=0) && decide (s.v=0))=true then 2 else 0:=by unfold aB;rw[zN h,if_neg (by omega:¬s.k=1),if_neg (by omega:¬(s.k=4\/s.k=5\/s.k=6))];unfold dd;rw[if_neg (by omega:¬s.k=2),if_neg (by omega:¬s.k=3),if_neg (by omega:¬s.k=7),if_pos h];rw[bH,bH,yv,show ((decide (s.b=0) && decide (s.o=0) && decide (s.v=0) && s.l.isEmpty) && inB s.a 0 ((d.length:Int)-1) && inB s.c 0 ((d.getD s.a.toNat 0)-1))=(inB s.a 0 ((d.length:Int)-1) && decide (s.b=0) && s.l.isEmpty && inB s.c 0 ((d.getD s.a.toNat 0)-1) && decide (s.o=0) && decide (s.v=0)) from by ac_rfl]
theorem zm {s:Stp} (h:s.k=9) (d:List Int):aB s d=if (inB s.a 0 ((d.length:Int)-1) && decide (s.b=0) && s.l.isEmpty && inB s.v 0 ((d.getD s.a.toNat 0)-1) && inB s.c 0 ((d.getD s.a.toNat 0)-1) && decide (s.o=0))=true then 2 else 0:=by unfold aB;rw[zO h,if_neg (by omega:¬s.k=1),if_neg (by omega:¬(s.k=4\/s.k=5\/s.k=6))];unfold dd;rw[if_neg (by omega:¬s.k=2),if_neg (by omega:¬s.k=3),if_neg (by omega:¬s.k=7),if_neg (by omega:¬s.k=8),if_pos h];rw[bH,bH,bH,yv,show ((decide (s.b=0) && decide (s.o=0) && s.l.isEmpty) && inB s.a 0 ((d.length:Int)-1) && (inB s.c 0 ((d.getD s.a.toNat 0)-1) && inB s.v 0 ((d.getD s.a.toNat 0)-1)))=(inB s.a 0 ((d.length:Int)-1) && decide (s.b=0) && s.l.isEmpty && inB s.v 0 ((d.getD s.a.toNat 0)-1) && inB s.c 0 ((d.getD s.a.toNat 0)-1) && decide (s.o=0)) from by ac_rfl]

end Go.Proofs.YtbkjgjjpnfhkhaaGreatDoor
