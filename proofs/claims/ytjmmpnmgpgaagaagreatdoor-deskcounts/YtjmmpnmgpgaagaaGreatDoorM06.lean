import Derived.Test.YtjmmpnmgpgaagaaGreatDoorM05
set_option maxRecDepth 100000
set_option maxHeartbeats 8000000
open Go renaming Calls → Y, World → X, Addr → K
open Go.Ending renaming returned → J
open Go.IntKind renaming i64 → V
open Go.Obj renaming cells → H
open Go.Proofs.Tryz renaming prog → S
open Go.RowKit renaming Hid → O, Below → Q
open Go.Value renaming int → I, slice → Z, bool → U, pointer → P, string → T, agg → D
namespace Go.Proofs.YtjmmpnmgpgaagaaGreatDoor
open Go.RowKit Go.Sort

def belowB (n k:Int):Bool:=decide (0<=n) && decide (n<k)
theorem iP (n k:Int) (w:X):Y S 175 #[I V n,I V k] w fun e w'=>e= J (U (belowB n k))/\w'=w:=by
 by_cases f:0<=n
 ·by_cases g:n<k
  ·have e:belowB n k=true:=by simp[belowB];omega
   rw[e];clear e
   go_enter Tryz.func175,Tryz.ntmps175
   go_wp2
   go_ret
   exact ⟨rfl,rfl⟩
  ·have e:belowB n k=false:=by simp[belowB];omega
   rw[e];clear e
   go_enter Tryz.func175,Tryz.ntmps175
   go_wp2
   go_ret
   exact ⟨rfl,rfl⟩
 ·have e:belowB n k=false:=by simp[belowB];omega
  rw[e];clear e
  go_enter Tryz.func175,Tryz.ntmps175
  go_wp2
  go_ret
  exact ⟨rfl,rfl⟩
def opB (n:Int):Bool:=decide (n=1\/n=2\/n=3)
theorem zH (n:Int) (w:X):Y S 206 #[I V n] w fun e w'=>e= J (U (opB n))/\w'=w:=by
 by_cases f:n=1
 ·subst f
  go_enter Tryz.func206,Tryz.ntmps206
  go_wp2
  go_ret
  exact ⟨rfl,rfl⟩
 ·by_cases g:n=2
  ·subst g
   go_enter Tryz.func206,Tryz.ntmps206
   go_wp2
   go_ret
   exact ⟨rfl,rfl⟩
  ·by_cases h:n=3
   ·subst h
    go_enter Tryz.func206,Tryz.ntmps206
    go_wp2
    go_ret
    exact ⟨rfl,rfl⟩
   ·have e:opB n=false:=by simp[opB];omega
    have j:(n==1)=false:=by simpa using f
    have k:(n==2)=false:=by simpa using g
    have r:(n==3)=false:=by simpa using h
    rw[e];clear e f g h
    go_enter Tryz.func206,Tryz.ntmps206
    go_wp2
    go_ret
    exact ⟨rfl,rfl⟩
def nI (n:Int):Bool:=inB n (-1073741824) 1073741824
theorem qH (n:Int) (w:X):Y S 207 #[I V n] w fun e w'=>e= J (U (nI n))/\w'=w:=by
 by_cases f: -1073741824<=n
 ·by_cases g:n<=1073741824
  ·have e:nI n=true:=by simp[nI,inB];omega
   rw[e];clear e
   go_enter Tryz.func207,Tryz.ntmps207
   go_wp2
   go_ret
   exact ⟨rfl,rfl⟩
  ·have e:nI n=false:=by simp[nI,inB];omega
   rw[e];clear e
   go_enter Tryz.func207,Tryz.ntmps207
   go_wp2
   go_ret
   exact ⟨rfl,rfl⟩
 ·have e:nI n=false:=by simp[nI,inB];omega
  rw[e];clear e
  go_enter Tryz.func207,Tryz.ntmps207
  go_wp2
  go_ret
  exact ⟨rfl,rfl⟩

theorem qu (l:List Int) (k:Int) (A:Option K) (cap:Nat) (w:X) (hl:l.length<=maxLen) (hr:al w A l) :
  Y S 208 #[Z A l.length cap,I V k] w fun e w'=>e= J (U (l.all fun n=>belowB n k))/\Gr w w':=by
 unfold maxLen at hl
 go_enter Tryz.func208,Tryz.ntmps208
 go_wp2
 go_loopw [9] (fun i wr=>∃j:Nat,j<=l.length/\i= I V j/\O (∀m (h:m<l.length),m<j->belowB l[m] k=true)/\wr=w) (fun i _=>l.length-(intOf i).toNat)
 case atStart=>exact ⟨0,nZ _,rfl,fun m _ h=>by omega,rfl⟩
 case round =>
  obtain ⟨j,hj,rfl,u,rfl⟩:=hrel
  by_cases C:j<l.length
  ·have F:(j:Int)<(l.length:Int):=by omega
   obtain ⟨b,an,rfl,hb,E⟩:=hr.at C
   have e0:=E j C 0 (by omega)
   obtain ⟨x,R⟩:∃y,l[j]=y:=⟨_,rfl⟩
   rw[R] at e0
   have e1:wr.cell? ⟨b,an+j,none⟩=some (I V x):=by simpa[df] using e0
   have ad:=ja1 R
   clear E e0 R
   cases L:belowB x k
   ·have f:=iP x k wr
    rw[L] at f
    have r:O _:=f
    have g:O ((l.all fun n=>belowB n k)=false):=by
     show _=_
     rw[List.all_eq_false]
     exact ⟨l[j],gM C,by rw[ad.out,L];simp⟩
    clear f
    go_wp2_with (go_at_call 175;(refine ja0 r ?_);rintro e w' ⟨rfl,rfl⟩)
    go_ret
    exact ⟨by rw[g.out];rfl,gR _⟩
   ·have f:=iP x k wr
    rw[L] at f
    have r:O _:=f
    clear f
    have ah:O (belowB l[j] k=true):=by show _=_;rw[ad.out];exact L
    clear L
    go_wp2_with (go_at_call 175;(refine ja0 r ?_);rintro e w' ⟨rfl,rfl⟩)
    go_roundw
    case rel =>
     refine ⟨j+1,by omega,by go_num,?_,by trivial⟩
     intro m hm ao
     by_cases e:m=j
     ·subst e;exact ah.out
     ·exact u m hm (by omega)
    case measure=>simp[intOf];omega
  ·have F:¬(j:Int)<(l.length:Int):=by omega
   have g:O ((l.all fun n=>belowB n k)=true):=by
    show _=_
    rw[List.all_eq_true]
    intro x R
    obtain ⟨m,hm,rfl⟩:=List.mem_iff_getElem.1 R
    exact u m hm (by omega)
   go_wp2
   go_ret
   exact ⟨by rw[g.out];rfl,gR _⟩

structure Stp where
 k:Int
 a:Int
 b:Int
 c:Int
 o:Int
 v:Int
 p:Option K
 n:Nat
 l:List Int
def jT (s:Stp):List Value:=[I V s.k,I V s.a,I V s.b,I V s.c,I V s.o,I V s.v,Z s.p s.l.length s.n]
theorem kA (s:Stp):(jT s).length=7:=rfl
theorem zn (s:Stp):∀u∈jT s,u.oneCell'=true:=by
 intro u f
 simp[jT] at f
 rcases f with rfl|rfl|rfl|rfl|rfl|rfl|rfl<;>rfl

def ct (k:Int):List UInt8:=if k=1 then [116,97,98,108,101] else if k=2 then [119,104,101,114,101] else if k=3 then [112,105,99,107] else if k=4 then [106,111,105,110] else if k=5 then [117,110,105,111,110] else if k=6 then [109,105,110,117,115] else if k=7 then [100,105,115,116,105,110,99,116] else if k=8 then [99,111,117,110,116] else if k=9 then [115,117,109] else []
def aV (k:Int):List UInt8:=if k=1 then [65] else if k=2 then [65,67,79,86] else if k=3 then [65,76] else if k=4 then [65,66,67,86] else if k=5 then [65,66] else if k=6 then [65,66] else if k=7 then [65] else if k=8 then [65,67] else if k=9 then [65,67,86] else []

theorem gV (k:Int) (w:X):Y S 111 #[I V k] w fun e w'=>e= J (.tuple #[T ⟨(ct k).toArray⟩,T ⟨(aV k).toArray⟩])/\w'=w:=by
 by_cases f:k=1
 ·subst f
  go_enter Tryz.func111,Tryz.ntmps111
  go_wp2
  go_ret2
  exact ⟨rfl,rfl⟩
 by_cases g:k=2
 ·subst g
  go_enter Tryz.func111,Tryz.ntmps111
  go_wp2
  go_ret2
  exact ⟨rfl,rfl⟩
 by_cases h:k=3
 ·subst h
  go_enter Tryz.func111,Tryz.ntmps111
  go_wp2
  go_ret2
  exact ⟨rfl,rfl⟩
 by_cases j:k=4
 ·subst j
  go_enter Tryz.func111,Tryz.ntmps111
  go_wp2
  go_ret2
  exact ⟨rfl,rfl⟩
 by_cases n:k=5
 ·subst n
  go_enter Tryz.func111,Tryz.ntmps111
  go_wp2
  go_ret2
  exact ⟨rfl,rfl⟩
 by_cases r:k=6
 ·subst r
  go_enter Tryz.func111,Tryz.ntmps111
  go_wp2
  go_ret2
  exact ⟨rfl,rfl⟩
 by_cases u:k=7
 ·subst u
  go_enter Tryz.func111,Tryz.ntmps111
  go_wp2
  go_ret2
  exact ⟨rfl,rfl⟩
 by_cases C:k=8
 ·subst C
  go_enter Tryz.func111,Tryz.ntmps111
  go_wp2
  go_ret2
  exact ⟨rfl,rfl⟩
 by_cases E:k=9
 ·subst E
  go_enter Tryz.func111,Tryz.ntmps111
  go_wp2
  go_ret2
  exact ⟨rfl,rfl⟩
 have F:ct k=[]:=by unfold ct;rw[if_neg f,if_neg g,if_neg h,if_neg j,if_neg n,if_neg r,if_neg u,if_neg C,if_neg E]
 have L:aV k=[]:=by unfold aV;rw[if_neg f,if_neg g,if_neg h,if_neg j,if_neg n,if_neg r,if_neg u,if_neg C,if_neg E]
 have R:(k==1)=false:=by simpa using f
 have q2:(k==2)=false:=by simpa using g
 have q3:(k==3)=false:=by simpa using h
 have q4:(k==4)=false:=by simpa using j
 have q5:(k==5)=false:=by simpa using n
 have q6:(k==6)=false:=by simpa using r
 have q7:(k==7)=false:=by simpa using u
 have q8:(k==8)=false:=by simpa using C
 have q9:(k==9)=false:=by simpa using E
 rw[F,L]
 clear f g h j n r u C E F L
 go_enter Tryz.func111,Tryz.ntmps111
 go_wp2
 go_ret2
 exact ⟨rfl,rfl⟩

def xe (p:Int):Nat:=if p=65 then 1 else if p=66 then 2 else if p=67 then 3 else if p=79 then 4 else 5
theorem lr (b:Nat) (p:Int) (w:X):Y S 144 #[P (some ⟨b,0,none⟩),I .u8 p] w fun e w'=>e= J (P (some ⟨b,xe p,none⟩))/\w'=w:=by
 by_cases f:p=65
 ·subst f
  go_enter Tryz.func144,Tryz.ntmps144
  go_wp2
  go_ret
  exact ⟨rfl,rfl⟩
 by_cases g:p=66
 ·subst g
  go_enter Tryz.func144,Tryz.ntmps144
  go_wp2
  go_ret
  exact ⟨rfl,rfl⟩
 by_cases h:p=67
 ·subst h
  go_enter Tryz.func144,Tryz.ntmps144
  go_wp2
  go_ret
  exact ⟨rfl,rfl⟩
 by_cases j:p=79
 ·subst j
  go_enter Tryz.func144,Tryz.ntmps144
  go_wp2
  go_ret
  exact ⟨rfl,rfl⟩
 have k:xe p=5:=by unfold xe;rw[if_neg f,if_neg g,if_neg h,if_neg j]
 have n:(p==65)=false:=by simpa using f
 have r:(p==66)=false:=by simpa using g
 have u:(p==67)=false:=by simpa using h
 have C:(p==79)=false:=by simpa using j
 rw[k]
 clear f g h j k
 go_enter Tryz.func144,Tryz.ntmps144
 go_wp2
 go_ret
 exact ⟨rfl,rfl⟩

abbrev ja8 (s:Stp):Array Value:=#[I V s.k,I V s.a,I V s.b,I V s.c,I V s.o,I V s.v,Z s.p s.l.length s.n]

def ay (k:Int) (p:UInt8):Bool:=decide (0<=Lib.indexByte (aV k) p)
def lG:List UInt8:=[65,66,67,79,86]
def Stp.at (s:Stp) (j:Nat):Int:=[s.a,s.b,s.c,s.o,s.v].getD j 0
def fP (s:Stp) (j:Nat):Bool:=ay s.k (lG.getD j 0) || decide (s.at j=0)
def bD (s:Stp):Bool:=(List.range 5).all (fP s) && (ay s.k 76 || s.l.isEmpty)
theorem yy {s:Stp} {j:Nat} (f:j<5) (h:fP s j=false):bD s=false:=by
 unfold bD
 rw[Bool.and_eq_false_iff]
 left
 rw[List.all_eq_false]
 exact ⟨j,List.mem_range.2 f,by rw[h];simp⟩
theorem jJ (l:List UInt8) (p:UInt8) (w:X):Y S 205 #[T ⟨l.toArray⟩,I .u8 p.toNat] w fun e w'=>e= J (I V (Lib.indexByte l p))/\w'=w:=by
 have h:=Any.strings_IndexByte Tryz.laysIndexByte ⟨l.toArray⟩ (p.toNat:Int) w
 change Y S 205 _ _ _ at h
 simpa using h

theorem w9 (s:Stp) (w:X) :
  Y S 174 #[D #[I V s.k,I V s.a,I V s.b,I V s.c,I V s.o,I V s.v,Z s.p s.l.length s.n]] w fun e w'=>e= J (U (bD s))/\Gr w w':=by
 have ad:Gr w (w.alloc (H #[I V s.k,I V s.a,I V s.b,I V s.c,I V s.o,I V s.v,Z s.p s.l.length s.n] 136)):=(gR w).alloc _
 have a1:=gV s.k (w.alloc (H #[I V s.k,I V s.a,I V s.b,I V s.c,I V s.o,I V s.v,Z s.p s.l.length s.n] 136))
 have ao:O _:=a1
 clear a1
 have c0:(w.alloc (H #[I V s.k,I V s.a,I V s.b,I V s.c,I V s.o,I V s.v,Z s.p s.l.length s.n] 136)).cell? ⟨w.heap.size,0,none⟩=some (I V s.k):=aa (gR _) rfl
 go_enter Tryz.func174,Tryz.ntmps174
 go_wp2_with fail
 refine ja0 ao ?_
 rintro e w1 ⟨rfl,rfl⟩
 clear ao c0
 go_wp2
 go_loopw [13] (fun i wr=>∃j:Nat,j<=5/\i= I V j/\O (∀m,m<j->fP s m=true)/\wr=(w.alloc (H #[I V s.k,I V s.a,I V s.b,I V s.c,I V s.o,I V s.v,Z s.p s.l.length s.n] 136))) (fun i _=>5-(intOf i).toNat)
 case atStart=>exact ⟨0,by omega,rfl,fun m h=>by omega,by trivial⟩
 case round =>
  obtain ⟨j,hj,rfl,u,rfl⟩:=hrel
  by_cases h5:j=5
  ·subst h5
   have c6:(w.alloc (H #[I V s.k,I V s.a,I V s.b,I V s.c,I V s.o,I V s.v,Z s.p s.l.length s.n] 136)).cell? ⟨w.heap.size,6,none⟩=some (Z s.p s.l.length s.n):=aa (gR _) rfl
   obtain ⟨x,hx⟩:∃x,Lib.indexByte (aV s.k) 76=x:=⟨_,rfl⟩
   have r:=jJ (aV s.k) 76 (w.alloc (H #[I V s.k,I V s.a,I V s.b,I V s.c,I V s.o,I V s.v,Z s.p s.l.length s.n] 136))
   rw[hx] at r
   have g:O (Y S 205 #[T ⟨(aV s.k).toArray⟩,I .u8 76] _ _):=r
   have E:O (bD s=(decide (0<=x) || s.l.isEmpty)):=by
    show _=_
    unfold bD
    rw[List.all_eq_true.2 fun m hm=>u m (List.mem_range.1 hm)]
    show (true && (decide (0<=Lib.indexByte (aV s.k) 76) || s.l.isEmpty))=_
    rw[hx];simp
   clear hx r u
   by_cases an:0<=x
   ·have f:O (bD s=true):=by show _=_;rw[E.out];simp[an]
    go_wp2_with (go_at_call 205;(refine ja0 g ?_);rintro e w' ⟨rfl,rfl⟩)
    go_ret
    exact ⟨by rw[f.out];rfl,ad⟩
   ·by_cases C:s.l=[]
    ·have f:O (bD s=true):=by show _=_;rw[E.out,C];simp
     have a2:((s.l.length:Int)==0)=true:=by rw[C];rfl
     clear C
     go_wp2_with (go_at_call 205;(refine ja0 g ?_);rintro e w' ⟨rfl,rfl⟩)
     go_ret
     exact ⟨by rw[f.out];rfl,ad⟩
    ·have f:O (bD s=false):=by show _=_;rw[E.out];simp[C];omega
     have a2:((s.l.length:Int)==0)=false:=by
      have:=List.length_pos_iff.2 C
      simp;omega
     have a4:decide (0<=x)=false:=by simpa using an
     clear C
     go_wp2_with (go_at_call 205;(refine ja0 g ?_);rintro e w' ⟨rfl,rfl⟩)
     go_ret
     exact ⟨by rw[f.out,<-a4];rfl,ad⟩
  have L:j=0\/j=1\/j=2\/j=3\/j=4:=by omega
  obtain ⟨x,hx⟩:∃x,Lib.indexByte (aV s.k) (lG.getD j 0)=x:=⟨_,rfl⟩
  obtain ⟨v,hv⟩:∃v,s.at j=v:=⟨_,rfl⟩
  obtain ⟨o,ho⟩:∃o,j+1=o:=⟨_,rfl⟩
  have ap:fP s j=(decide (0<=x) || decide (v=0)):=by rw[<-hx,<-hv];rfl
  have R:O ((0<=x\/v=0)->∀m,m<j+1->fP s m=true):=fun h m hm=>by
   by_cases e:m=j
   ·rw[e,ap];simpa using h
   ·exact u m (by omega)
  have ah:O (x<0->v≠0->bD s=false):=fun h1 h2=>yy (j:=j) (by omega) (by rw[ap];simp[h2];omega)
  have r:=jJ (aV s.k) (lG.getD j 0) (w.alloc (H #[I V s.k,I V s.a,I V s.b,I V s.c,I V s.o,I V s.v,Z s.p s.l.length s.n] 136))
  rw[hx] at r
  have g:O _:=r
  have cj:(w.alloc (H #[I V s.k,I V s.a,I V s.b,I V s.c,I V s.o,I V s.v,Z s.p s.l.length s.n] 136)).cell? ⟨w.heap.size,o,none⟩=some (I V v):=by
   rw[<-ho,<-hv]
   rcases L with rfl|rfl|rfl|rfl|rfl<;>exact aa (gR _) rfl
  have F:O (Y S 144 #[P (some ⟨w.heap.size,0,none⟩),I .u8 ((lG.getD j 0).toNat:Int)] (w.alloc (H #[I V s.k,I V s.a,I V s.b,I V s.c,I V s.o,I V s.v,Z s.p s.l.length s.n] 136)) fun e w'=>e= J (P (some ⟨w.heap.size,o,none⟩))/\w'=(w.alloc (H #[I V s.k,I V s.a,I V s.b,I V s.c,I V s.o,I V s.v,Z s.p s.l.length s.n] 136))):=by
   rw[<-ho]
   rcases L with rfl|rfl|rfl|rfl|rfl<;>exact lr _ _ _
  clear hx hv ho ap r u h5
  by_cases an:x<0
  ·cases a3:(v != 0)
   ·have a0:O _:=R.out (oR (by simpa using a3))
    clear R ah
    rcases L with rfl|rfl|rfl|rfl|rfl<;>(go_wp2_with (first|(go_at_call 205;(refine ja0 g ?_);rintro e w' ⟨rfl,rfl⟩)|(go_at_call 144;(refine ja0 F ?_);rintro e w' ⟨rfl,rfl⟩));go_roundw;(case rel=>exact ⟨_,by omega,by go_num,a0,by trivial⟩);case measure=>simp[intOf])
   ·have f:O (bD s=false):=ah.out an (by simpa using a3)
    clear R ah
    rcases L with rfl|rfl|rfl|rfl|rfl<;>(go_wp2_with (first|(go_at_call 205;(refine ja0 g ?_);rintro e w' ⟨rfl,rfl⟩)|(go_at_call 144;(refine ja0 F ?_);rintro e w' ⟨rfl,rfl⟩));go_ret;exact ⟨by rw[f.out];rfl,ad⟩)
  ·have a0:O _:=R.out (oL (by omega))
   clear R ah
   rcases L with rfl|rfl|rfl|rfl|rfl<;>(go_wp2_with (first|(go_at_call 205;(refine ja0 g ?_);rintro e w' ⟨rfl,rfl⟩)|(go_at_call 144;(refine ja0 F ?_);rintro e w' ⟨rfl,rfl⟩));go_roundw;(case rel=>exact ⟨_,by omega,by go_num,a0,by trivial⟩);case measure=>simp[intOf])


def cN (s:Stp) (a:Int):Int:=if s.k=2 then (if belowB s.c a && opB s.o && nI s.v then a else 0) else if s.k=3 then (if decide (s.l.length<=8) && s.l.all (fun n=>belowB n a) then s.l.length else 0) else if s.k=7 then a else if s.k=8 then (if belowB s.c a then 2 else 0) else if s.k=9 then (if belowB s.c a && belowB s.v a then 2 else 0) else 0
def dM (s:Stp) (a b:Int):Int:=if s.k=4 then (if belowB s.c a && belowB s.v b && decide (a+b<=8) then a+b else 0) else if s.k=5 then (if a=b then a else 0) else if s.k=6 then (if a=b then a else 0) else 0
theorem bK {n k:Int} {r:Bool} (h:belowB n k=r) (w:X):Y S 175 #[I V n,I V k] w fun e w'=>e= J (U r)/\w'=w:=by rw[<-h];exact iP n k w
theorem Ec {n:Int} {r:Bool} (h:opB n=r) (w:X):Y S 206 #[I V n] w fun e w'=>e= J (U r)/\w'=w:=by rw[<-h];exact zH n w
theorem Cz {n:Int} {r:Bool} (h:nI n=r) (w:X):Y S 207 #[I V n] w fun e w'=>e= J (U r)/\w'=w:=by rw[<-h];exact qH n w

theorem Ad (s:Stp) (a:Int) (w:X) (hl:s.l.length<=maxLen) (hr:al w s.p s.l) :
  Y S 177 #[D (ja8 s),I V a] w fun e w'=>e= J (I V (cN s a))/\Gr w w':=by
 obtain ⟨W,hW⟩:∃W,w.alloc (H (ja8 s) 136)=W:=⟨_,rfl⟩
 have j:Gr w W:=by rw[<-hW];exact (gR w).alloc _
 have c0:W.cell? ⟨w.heap.size,0,none⟩=some (I V s.k):=by rw[<-hW];exact aa (gR _) rfl
 have c1:W.cell? ⟨w.heap.size,1,none⟩=some (I V s.a):=by rw[<-hW];exact aa (gR _) rfl
 have c2:W.cell? ⟨w.heap.size,2,none⟩=some (I V s.b):=by rw[<-hW];exact aa (gR _) rfl
 have c3:W.cell? ⟨w.heap.size,3,none⟩=some (I V s.c):=by rw[<-hW];exact aa (gR _) rfl
 have c4:W.cell? ⟨w.heap.size,4,none⟩=some (I V s.o):=by rw[<-hW];exact aa (gR _) rfl
 have c5:W.cell? ⟨w.heap.size,5,none⟩=some (I V s.v):=by rw[<-hW];exact aa (gR _) rfl
 have c6:W.cell? ⟨w.heap.size,6,none⟩=some (Z s.p s.l.length s.n):=by rw[<-hW];exact aa (gR _) rfl
 have ad:=ja2 (hr.gr j) hl
 clear hr hl
 by_cases h:s.k=2
 ·skip
  have e0:W.cell? ⟨w.heap.size,0,none⟩=some (I V 2):=by rw[<-h];exact c0
  clear c0
  cases E:belowB s.c a
  ·have f:O (cN s a=0):=by show _=_;unfold cN;rw[if_pos h];simp[*]
   have g:=ja1 (bK E W)
   clear h
   go_enter Tryz.func177,Tryz.ntmps177
   go_wp2_with (go_at_call 175;(with_reducible refine cM g.out ?_);rintro e w' ⟨rfl,r⟩;subst w')
   go_ret
   exact ⟨by rw[f.out];rfl,j⟩
  ·have g:=ja1 (bK E W)
   cases h2:opB s.o
   ·have f:O (cN s a=0):=by show _=_;unfold cN;rw[if_pos h];simp[*]
    have u:=ja1 (Ec h2 W)
    clear h
    go_enter Tryz.func177,Tryz.ntmps177
    go_wp2_with (first|(go_at_call 175;(with_reducible refine cM g.out ?_);rintro e w' ⟨rfl,r⟩;subst w')|(go_at_call 206;(with_reducible refine cM u.out ?_);rintro e w' ⟨rfl,r⟩;subst w'))
    go_ret
    exact ⟨by rw[f.out];rfl,j⟩
   ·have u:=ja1 (Ec h2 W)
    cases h3:nI s.v
    ·have f:O (cN s a=0):=by show _=_;unfold cN;rw[if_pos h];simp[*]
     have R:=ja1 (Cz h3 W)
     clear h
     go_enter Tryz.func177,Tryz.ntmps177
     go_wp2_with (first|(go_at_call 175;(with_reducible refine cM g.out ?_);rintro e w' ⟨rfl,r⟩;subst w')|(go_at_call 206;(with_reducible refine cM u.out ?_);rintro e w' ⟨rfl,r⟩;subst w')|(go_at_call 207;(with_reducible refine cM R.out ?_);rintro e w' ⟨rfl,r⟩;subst w'))
     go_ret
     exact ⟨by rw[f.out];rfl,j⟩
    ·have R:=ja1 (Cz h3 W)
     have f:O (cN s a=a):=by show _=_;unfold cN;rw[if_pos h];simp[E,h2,h3]
     clear h
     go_enter Tryz.func177,Tryz.ntmps177
     go_wp2_with (first|(go_at_call 175;(with_reducible refine cM g.out ?_);rintro e w' ⟨rfl,r⟩;subst w')|(go_at_call 206;(with_reducible refine cM u.out ?_);rintro e w' ⟨rfl,r⟩;subst w')|(go_at_call 207;(with_reducible refine cM R.out ?_);rintro e w' ⟨rfl,r⟩;subst w'))
     go_ret
     exact ⟨by rw[f.out];rfl,j⟩
 by_cases h:s.k=3
 ·skip
  have e0:W.cell? ⟨w.heap.size,0,none⟩=some (I V 3):=by rw[<-h];exact c0
  clear c0
  have F:=qu s.l a s.p s.n W ad.out.2 ad.out.1
  by_cases h8:s.l.length<=8
  ·have ah:(s.l.length:Int)<=8:=by omega
   cases E:s.l.all (fun n=>belowB n a)
   ·have f:O (cN s a=0):=by show _=_;unfold cN;rw[if_neg (by omega:¬s.k=2),if_pos h];simp[E]
    rw[E] at F
    have C:O _:=F
    clear F h
    go_enter Tryz.func177,Tryz.ntmps177
    go_wp2_with fail
    refine ja0 C ?_
    rintro e w2 ⟨rfl,L⟩
    have d6:w2.cell? ⟨w.heap.size,6,none⟩=some (Z s.p s.l.length s.n):=(L.cell (p:=⟨w.heap.size,6,none⟩) (by rw[<-hW];simp)).trans c6
    clear C c1 c2 c3 c4 c5 c6 e0
    go_wp2
    go_ret
    exact ⟨by rw[f.out];rfl,j.trans L⟩
   ·have f:O (cN s a=s.l.length):=by show _=_;unfold cN;rw[if_neg (by omega:¬s.k=2),if_pos h];simp[E,h8]
    rw[E] at F
    have C:O _:=F
    clear F h
    go_enter Tryz.func177,Tryz.ntmps177
    go_wp2_with fail
    refine ja0 C ?_
    rintro e w2 ⟨rfl,L⟩
    have d6:w2.cell? ⟨w.heap.size,6,none⟩=some (Z s.p s.l.length s.n):=(L.cell (p:=⟨w.heap.size,6,none⟩) (by rw[<-hW];simp)).trans c6
    clear C c1 c2 c3 c4 c5 c6 e0
    go_wp2
    go_ret
    exact ⟨by rw[f.out];rfl,j.trans L⟩
  ·have ah:¬(s.l.length:Int)<=8:=by omega
   have f:O (cN s a=0):=by show _=_;unfold cN;rw[if_neg (by omega:¬s.k=2),if_pos h];simp[h8]
   clear F h
   go_enter Tryz.func177,Tryz.ntmps177
   go_wp2
   go_ret
   exact ⟨by rw[f.out];rfl,j⟩
 by_cases h:s.k=7
 ·skip
  have e0:W.cell? ⟨w.heap.size,0,none⟩=some (I V 7):=by rw[<-h];exact c0
  clear c0
  have f:O (cN s a=a):=by show _=_;unfold cN;rw[if_neg (by omega:¬s.k=2),if_neg (by omega:¬s.k=3),if_pos h]
  clear h
  go_enter Tryz.func177,Tryz.ntmps177
  go_wp2
  go_ret
  exact ⟨by rw[f.out];rfl,j⟩
 by_cases h:s.k=8
 ·skip
  have e0:W.cell? ⟨w.heap.size,0,none⟩=some (I V 8):=by rw[<-h];exact c0
  clear c0
  cases E:belowB s.c a
  ·have f:O (cN s a=0):=by show _=_;unfold cN;rw[if_neg (by omega:¬s.k=2),if_neg (by omega:¬s.k=3),if_neg (by omega:¬s.k=7),if_pos h];simp[*]
   have g:=ja1 (bK E W)
   clear h
   go_enter Tryz.func177,Tryz.ntmps177
   go_wp2_with (go_at_call 175;(with_reducible refine cM g.out ?_);rintro e w' ⟨rfl,r⟩;subst w')
   go_ret
   exact ⟨by rw[f.out];rfl,j⟩
  ·have g:=ja1 (bK E W)
   have f:O (cN s a=2):=by show _=_;unfold cN;rw[if_neg (by omega:¬s.k=2),if_neg (by omega:¬s.k=3),if_neg (by omega:¬s.k=7),if_pos h];simp[E]
   clear h
   go_enter Tryz.func177,Tryz.ntmps177
   go_wp2_with (go_at_call 175;(with_reducible refine cM g.out ?_);rintro e w' ⟨rfl,r⟩;subst w')
   go_ret
   exact ⟨by rw[f.out];rfl,j⟩
 by_cases h:s.k=9
 ·skip
  have e0:W.cell? ⟨w.heap.size,0,none⟩=some (I V 9):=by rw[<-h];exact c0
  clear c0
  cases E:belowB s.c a
  ·have f:O (cN s a=0):=by show _=_;unfold cN;rw[if_neg (by omega:¬s.k=2),if_neg (by omega:¬s.k=3),if_neg (by omega:¬s.k=7),if_neg (by omega:¬s.k=8),if_pos h];simp[*]
   have g:=ja1 (bK E W)
   clear h
   go_enter Tryz.func177,Tryz.ntmps177
   go_wp2_with (go_at_call 175;(with_reducible refine cM g.out ?_);rintro e w' ⟨rfl,r⟩;subst w')
   go_ret
   exact ⟨by rw[f.out];rfl,j⟩
  ·have g:=ja1 (bK E W)
   cases h2:belowB s.v a
   ·have f:O (cN s a=0):=by show _=_;unfold cN;rw[if_neg (by omega:¬s.k=2),if_neg (by omega:¬s.k=3),if_neg (by omega:¬s.k=7),if_neg (by omega:¬s.k=8),if_pos h];simp[*]
    have u:=ja1 (bK h2 W)
    clear h
    go_enter Tryz.func177,Tryz.ntmps177
    go_wp2_with (first|(go_at_call 175;(with_reducible refine cM g.out ?_);rintro e w' ⟨rfl,r⟩;subst w')|(go_at_call 175;(with_reducible refine cM u.out ?_);rintro e w' ⟨rfl,r⟩;subst w'))
    go_ret
    exact ⟨by rw[f.out];rfl,j⟩
   ·have u:=ja1 (bK h2 W)
    have f:O (cN s a=2):=by show _=_;unfold cN;rw[if_neg (by omega:¬s.k=2),if_neg (by omega:¬s.k=3),if_neg (by omega:¬s.k=7),if_neg (by omega:¬s.k=8),if_pos h];simp[E,h2]
    clear h
    go_enter Tryz.func177,Tryz.ntmps177
    go_wp2_with (first|(go_at_call 175;(with_reducible refine cM g.out ?_);rintro e w' ⟨rfl,r⟩;subst w')|(go_at_call 175;(with_reducible refine cM u.out ?_);rintro e w' ⟨rfl,r⟩;subst w'))
    go_ret
    exact ⟨by rw[f.out];rfl,j⟩
 have f:O (cN s a=0):=by show _=_;unfold cN;rw[if_neg (by assumption:¬s.k=2),if_neg (by assumption:¬s.k=3),if_neg (by assumption:¬s.k=7),if_neg (by assumption:¬s.k=8),if_neg (by assumption:¬s.k=9)]
 have q2:(s.k==2)=false:=by simp;omega
 have q3:(s.k==3)=false:=by simp;omega
 have q7:(s.k==7)=false:=by simp;omega
 have q8:(s.k==8)=false:=by simp;omega
 have q9:(s.k==9)=false:=by simp;omega
 go_enter Tryz.func177,Tryz.ntmps177
 go_wp2
 go_ret
 exact ⟨by rw[f.out];rfl,j⟩

theorem AX (s:Stp) (a b:Int) (w:X) (ha:0<=a/\a<=8) (hb:0<=b/\b<=8) :
  Y S 176 #[D (ja8 s),I V a,I V b] w fun e w'=>e= J (I V (dM s a b))/\Gr w w':=by
 obtain ⟨W,C⟩:∃W,w.alloc (H (ja8 s) 136)=W:=⟨_,rfl⟩
 have n:Gr w W:=by rw[<-C];exact (gR w).alloc _
 have ad:IntKind.i64.wrap (a+b)=a+b:=by rw[IntKind.wrap_i64];omega
 have E:W.cell? ⟨w.heap.size,0,none⟩=some (I V s.k):=by rw[<-C];exact aa (gR _) rfl
 have c1:W.cell? ⟨w.heap.size,1,none⟩=some (I V s.a):=by rw[<-C];exact aa (gR _) rfl
 have c2:W.cell? ⟨w.heap.size,2,none⟩=some (I V s.b):=by rw[<-C];exact aa (gR _) rfl
 have c3:W.cell? ⟨w.heap.size,3,none⟩=some (I V s.c):=by rw[<-C];exact aa (gR _) rfl
 have c4:W.cell? ⟨w.heap.size,4,none⟩=some (I V s.o):=by rw[<-C];exact aa (gR _) rfl
 have c5:W.cell? ⟨w.heap.size,5,none⟩=some (I V s.v):=by rw[<-C];exact aa (gR _) rfl
 by_cases j:s.k=4
 ·skip
  have e0:W.cell? ⟨w.heap.size,0,none⟩=some (I V 4):=by rw[<-j];exact E
  clear E
  by_cases h8:a+b<=8
  ·skip
   cases F:belowB s.c a
   ·have f:O (dM s a b=0):=by show _=_;unfold dM;rw[if_pos j];simp[*]
    have h:=ja1 (bK F W)
    clear j
    go_enter Tryz.func176,Tryz.ntmps176
    go_wp2_with (go_at_call 175;(with_reducible refine cM h.out ?_);rintro e w' ⟨rfl,u⟩;subst w')
    go_ret
    exact ⟨by rw[f.out];rfl,n⟩
   ·have h:=ja1 (bK F W)
    cases L:belowB s.v b
    ·have f:O (dM s a b=0):=by show _=_;unfold dM;rw[if_pos j];simp[*]
     have r:=ja1 (bK L W)
     clear j
     go_enter Tryz.func176,Tryz.ntmps176
     go_wp2_with (first|(go_at_call 175;(with_reducible refine cM h.out ?_);rintro e w' ⟨rfl,u⟩;subst w')|(go_at_call 175;(with_reducible refine cM r.out ?_);rintro e w' ⟨rfl,u⟩;subst w'))
     go_ret
     exact ⟨by rw[f.out];rfl,n⟩
    ·have r:=ja1 (bK L W)
     have f:O (dM s a b=a+b):=by show _=_;unfold dM;rw[if_pos j];simp[F,L,h8]
     clear j
     go_enter Tryz.func176,Tryz.ntmps176
     go_wp2_with (first|(go_at_call 175;(with_reducible refine cM h.out ?_);rintro e w' ⟨rfl,u⟩;subst w')|(go_at_call 175;(with_reducible refine cM r.out ?_);rintro e w' ⟨rfl,u⟩;subst w'))
     go_ret
     exact ⟨by rw[f.out];rfl,n⟩
  ·skip
   cases F:belowB s.c a
   ·have f:O (dM s a b=0):=by show _=_;unfold dM;rw[if_pos j];simp[*]
    have h:=ja1 (bK F W)
    clear j
    go_enter Tryz.func176,Tryz.ntmps176
    go_wp2_with (go_at_call 175;(with_reducible refine cM h.out ?_);rintro e w' ⟨rfl,u⟩;subst w')
    go_ret
    exact ⟨by rw[f.out];rfl,n⟩
   ·have h:=ja1 (bK F W)
    cases L:belowB s.v b
    ·have f:O (dM s a b=0):=by show _=_;unfold dM;rw[if_pos j];simp[*]
     have r:=ja1 (bK L W)
     clear j
     go_enter Tryz.func176,Tryz.ntmps176
     go_wp2_with (first|(go_at_call 175;(with_reducible refine cM h.out ?_);rintro e w' ⟨rfl,u⟩;subst w')|(go_at_call 175;(with_reducible refine cM r.out ?_);rintro e w' ⟨rfl,u⟩;subst w'))
     go_ret
     exact ⟨by rw[f.out];rfl,n⟩
    ·have r:=ja1 (bK L W)
     have f:O (dM s a b=0):=by show _=_;unfold dM;rw[if_pos j];simp[h8]
     clear j
     go_enter Tryz.func176,Tryz.ntmps176
     go_wp2_with (first|(go_at_call 175;(with_reducible refine cM h.out ?_);rintro e w' ⟨rfl,u⟩;subst w')|(go_at_call 175;(with_reducible refine cM r.out ?_);rintro e w' ⟨rfl,u⟩;subst w'))
     go_ret
     exact ⟨by rw[f.out];rfl,n⟩
 by_cases j:s.k=5
 ·skip
  have e0:W.cell? ⟨w.heap.size,0,none⟩=some (I V 5):=by rw[<-j];exact E
  clear E
  by_cases g:a=b
  ·subst g
   have f:O (dM s a a=a):=by show _=_;unfold dM;rw[if_neg (by omega:¬s.k=4),if_pos j];simp
   clear j
   go_enter Tryz.func176,Tryz.ntmps176
   go_wp2
   go_ret
   exact ⟨by rw[f.out];rfl,n⟩
  ·have f:O (dM s a b=0):=by show _=_;unfold dM;rw[if_neg (by omega:¬s.k=4),if_pos j];simp[g]
   have R:(a==b)=false:=by simpa using g
   clear j g
   go_enter Tryz.func176,Tryz.ntmps176
   go_wp2
   go_ret
   exact ⟨by rw[f.out];rfl,n⟩
 by_cases j:s.k=6
 ·skip
  have e0:W.cell? ⟨w.heap.size,0,none⟩=some (I V 6):=by rw[<-j];exact E
  clear E
  by_cases g:a=b
  ·subst g
   have f:O (dM s a a=a):=by show _=_;unfold dM;rw[if_neg (by omega:¬s.k=4),if_neg (by omega:¬s.k=5),if_pos j];simp
   clear j
   go_enter Tryz.func176,Tryz.ntmps176
   go_wp2
   go_ret
   exact ⟨by rw[f.out];rfl,n⟩
  ·have f:O (dM s a b=0):=by show _=_;unfold dM;rw[if_neg (by omega:¬s.k=4),if_neg (by omega:¬s.k=5),if_pos j];simp[g]
   have R:(a==b)=false:=by simpa using g
   clear j g
   go_enter Tryz.func176,Tryz.ntmps176
   go_wp2
   go_ret
   exact ⟨by rw[f.out];rfl,n⟩
 have f:O (dM s a b=0):=by show _=_;unfold dM;rw[if_neg (by assumption:¬s.k=4),if_neg (by assumption:¬s.k=5),if_neg (by assumption:¬s.k=6)]
 have q4:(s.k==4)=false:=by simp;omega
 have q5:(s.k==5)=false:=by simp;omega
 have q6:(s.k==6)=false:=by simp;omega
 go_enter Tryz.func176,Tryz.ntmps176
 go_wp2
 go_ret
 exact ⟨by rw[f.out];rfl,n⟩


def aE (s:Stp) (ah:List Int):Int:=if bD s=true then (if s.k=1 then (if belowB s.a 2=true then 4 else 0) else if belowB s.a ah.length=true then (if s.k=4\/s.k=5\/s.k=6 then (if belowB s.b ah.length=true then dM s (ah.getD s.a.toNat 0) (ah.getD s.b.toNat 0) else 0) else cN s (ah.getD s.a.toNat 0)) else 0) else 0
theorem grD {w w':X} (h:Gr w w'):∃q f,w'=grow (w.drewN q) f:=h
theorem po {n:Int} {m:Nat} (h:belowB n m=true):∃k:Nat,n=k/\k<m:=by
 simp only[belowB,Bool.and_eq_true,decide_eq_true_eq] at h
 exact ⟨n.toNat,by omega,by omega⟩
theorem vq {l:List Int} {k:Nat} (h:k<l.length):l.getD k 0=l[k]:=by rw[List.getD_eq_getElem?_getD,List.getElem?_eq_getElem h];rfl

theorem yt (s:Stp) (g:List Int) (A:Option K) (ca:Nat) (w:X) (hl:s.l.length<=maxLen) (hr:al w s.p s.l) (b2:al w A g) (bC:∀x∈g,0<=x/\x<=8) :
  Y S 145 #[D #[I V s.k,I V s.a,I V s.b,I V s.c,I V s.o,I V s.v,Z s.p s.l.length s.n],Z A g.length ca] w fun e w'=>e= J (I V (aE s g))/\Gr w w':=by
 have a6:Tryz.prog.follows .mixedOrders=true:=by kernel_rfl
 have b4:Gr w (w.alloc (H #[I V s.k,I V s.a,I V s.b,I V s.c,I V s.o,I V s.v,Z s.p s.l.length s.n] 136)):=(gR w).alloc _
 have b0:=w9 s (w.alloc (H #[I V s.k,I V s.a,I V s.b,I V s.c,I V s.o,I V s.v,Z s.p s.l.length s.n] 136))
 have bd:O _:=b0
 have c0:(w.alloc (H #[I V s.k,I V s.a,I V s.b,I V s.c,I V s.o,I V s.v,Z s.p s.l.length s.n] 136)).cell? ⟨w.heap.size,0,none⟩=some (I V s.k):=aa (gR _) rfl
 have c1:(w.alloc (H #[I V s.k,I V s.a,I V s.b,I V s.c,I V s.o,I V s.v,Z s.p s.l.length s.n] 136)).cell? ⟨w.heap.size,1,none⟩=some (I V s.a):=aa (gR _) rfl
 have c2:(w.alloc (H #[I V s.k,I V s.a,I V s.b,I V s.c,I V s.o,I V s.v,Z s.p s.l.length s.n] 136)).cell? ⟨w.heap.size,2,none⟩=some (I V s.b):=aa (gR _) rfl
 have c3:(w.alloc (H #[I V s.k,I V s.a,I V s.b,I V s.c,I V s.o,I V s.v,Z s.p s.l.length s.n] 136)).cell? ⟨w.heap.size,3,none⟩=some (I V s.c):=aa (gR _) rfl
 have c4:(w.alloc (H #[I V s.k,I V s.a,I V s.b,I V s.c,I V s.o,I V s.v,Z s.p s.l.length s.n] 136)).cell? ⟨w.heap.size,4,none⟩=some (I V s.o):=aa (gR _) rfl
 have c5:(w.alloc (H #[I V s.k,I V s.a,I V s.b,I V s.c,I V s.o,I V s.v,Z s.p s.l.length s.n] 136)).cell? ⟨w.heap.size,5,none⟩=some (I V s.v):=aa (gR _) rfl
 have c6:(w.alloc (H #[I V s.k,I V s.a,I V s.b,I V s.c,I V s.o,I V s.v,Z s.p s.l.length s.n] 136)).cell? ⟨w.heap.size,6,none⟩=some (Z s.p s.l.length s.n):=aa (gR _) rfl
 have a4:O (al w s.p s.l/\s.l.length<=maxLen/\al w A g/\∀x∈g,0<=x/\x<=8):=⟨hr,hl,b2,bC⟩
 clear b0 hr hl b2 bC
 go_enter Tryz.func145,Tryz.ntmps145
 go_wp2_with fail
 refine ja0 bd ?_
 rintro e w1 ⟨rfl,C⟩
 clear bd c0 c1 c2 c3 c4 c5 c6
 have c0:w1.cell? ⟨w.heap.size,0,none⟩=some (I V s.k):=aa C rfl
 have c1:w1.cell? ⟨w.heap.size,1,none⟩=some (I V s.a):=aa C rfl
 have c2:w1.cell? ⟨w.heap.size,2,none⟩=some (I V s.b):=aa C rfl
 have c3:w1.cell? ⟨w.heap.size,3,none⟩=some (I V s.c):=aa C rfl
 have c4:w1.cell? ⟨w.heap.size,4,none⟩=some (I V s.o):=aa C rfl
 have c5:w1.cell? ⟨w.heap.size,5,none⟩=some (I V s.v):=aa C rfl
 have c6:w1.cell? ⟨w.heap.size,6,none⟩=some (Z s.p s.l.length s.n):=aa C rfl
 have u:Gr w w1:=b4.trans C
 cases bc:bD s
 ·have f:O (aE s g=0):=by show _=_;unfold aE;rw[if_neg (by rw[bc];simp)]
  go_wp2
  go_ret
  exact ⟨by rw[f.out];rfl,u⟩
 have a1:O (aE s g=if s.k=1 then (if belowB s.a 2=true then 4 else 0) else if belowB s.a g.length=true then (if s.k=4\/s.k=5\/s.k=6 then (if belowB s.b g.length=true then dM s (g.getD s.a.toNat 0) (g.getD s.b.toNat 0) else 0) else cN s (g.getD s.a.toNat 0)) else 0):=by show _=_;unfold aE;rw[if_pos bc]
 by_cases L:s.k=1
 ·have e0:w1.cell? ⟨w.heap.size,0,none⟩=some (I V 1):=by rw[<-L];exact c0
  clear c0
  cases E:belowB s.a 2
  ·have f:O (aE s g=0):=by show _=_;rw[a1.out,if_pos L,if_neg (by rw[E];simp)]
   have r:O (Y S 175 #[I V s.a,I V 2] w1 fun e w'=>e= J (U false)/\w'=w1):=bK E w1
   clear L
   go_wp2_with (go_at_call 175;(with_reducible refine cM r.out ?_);rintro e w' ⟨rfl,F⟩;subst w')
   go_ret
   exact ⟨by rw[f.out];rfl,u⟩
  ·have f:O (aE s g=4):=by show _=_;rw[a1.out,if_pos L,if_pos E]
   have r:O (Y S 175 #[I V s.a,I V 2] w1 fun e w'=>e= J (U true)/\w'=w1):=bK E w1
   clear L
   go_wp2_with (go_at_call 175;(with_reducible refine cM r.out ?_);rintro e w' ⟨rfl,F⟩;subst w')
   go_ret
   exact ⟨by rw[f.out];rfl,u⟩
 have bN:(s.k==1)=false:=by simpa using L
 cases E:belowB s.a g.length
 ·have f:O (aE s g=0):=by show _=_;rw[a1.out,if_neg L,if_neg (by rw[E];simp)]
  have r:O (Y S 175 #[I V s.a,I V g.length] w1 fun e w'=>e= J (U false)/\w'=w1):=bK E w1
  clear L
  go_wp2_with (go_at_call 175;(with_reducible refine cM r.out ?_);rintro e w' ⟨rfl,F⟩;subst w')
  go_ret
  exact ⟨by rw[f.out];rfl,u⟩
 have r:O (Y S 175 #[I V s.a,I V g.length] w1 fun e w'=>e= J (U true)/\w'=w1):=bK E w1
 obtain ⟨ka,a0,R⟩:=po E
 have an:al w1 A g:=a4.out.2.2.1.gr u
 obtain ⟨ba,oa,rfl,bl,a2⟩:=an.at R
 obtain ⟨xa,a9⟩:∃x,g[ka]=x:=⟨_,rfl⟩
 have be:=a2 ka R 0 (by omega)
 rw[a9] at be
 have ea:w1.cell? ⟨ba,oa+ka,none⟩=some (I V xa):=by simpa[df] using be
 have bn:O (g.getD s.a.toNat 0=xa/\0<=xa/\xa<=8):=by
  refine ⟨?_,a4.out.2.2.2 xa (by rw[<-a9];exact gM R)⟩
  rw[a0,Int.toNat_natCast,vq R,a9]
 have b5:(ka:Int)<(g.length:Int):=by omega
 have d1:w1.cell? ⟨w.heap.size,1,none⟩=some (I V (ka:Int)):=by rw[<-a0];exact c1
 rw[a0] at r
 clear be a9 c1
 by_cases ap:s.k=4\/s.k=5\/s.k=6
 ·cases ao:belowB s.b g.length
  ·have f:O (aE s g=0):=by show _=_;rw[a1.out,if_neg L,if_pos E,if_pos ap,if_neg (by rw[ao];simp)]
   have bp:O (Y S 175 #[I V s.b,I V g.length] w1 fun e w'=>e= J (U false)/\w'=w1):=bK ao w1
   clear L a0 E a2 an
   rcases ap with k4|k4|k4
   all_goals
    rw[k4] at c0
    clear k4 bN
    go_wp2_with (first|(go_at_call 175;(with_reducible refine cM r.out ?_);rintro e w' ⟨rfl,F⟩;subst w')|(go_at_call 175;(with_reducible refine cM bp.out ?_);rintro e w' ⟨rfl,F⟩;subst w'))
    go_ret
    exact ⟨by rw[f.out];rfl,u⟩
  ·have a5:Y S 175 #[I V s.b,I V g.length] w1 fun e w'=>e= J (U true)/\w'=w1:=bK ao w1
   obtain ⟨kb,ad,a3⟩:=po ao
   obtain ⟨xb,bb⟩:∃x,g[kb]=x:=⟨_,rfl⟩
   have bh:=a2 kb a3 0 (by omega)
   rw[bb] at bh
   have eb:w1.cell? ⟨ba,oa+kb,none⟩=some (I V xb):=by simpa[df] using bh
   have bG:O (g.getD s.b.toNat 0=xb/\0<=xb/\xb<=8):=by
    refine ⟨?_,a4.out.2.2.2 xb (by rw[<-bb];exact gM a3)⟩
    rw[ad,Int.toNat_natCast,vq a3,bb]
   have b6:(kb:Int)<(g.length:Int):=by omega
   have d2:w1.cell? ⟨w.heap.size,2,none⟩=some (I V (kb:Int)):=by rw[<-ad];exact c2
   rw[ad] at a5
   have bp:O (Y S 175 #[I V (kb:Int),I V g.length] w1 fun e w'=>e= J (U true)/\w'=w1):=a5
   have f:O (aE s g=dM s xa xb):=by show _=_;rw[a1.out,if_neg L,if_pos E,if_pos ap,if_pos ao,bn.out.1,bG.out.1]
   have a8:∀n os,Y S 176 #[D #[I V s.k,I V s.a,I V s.b,I V s.c,I V s.o,I V s.v,Z s.p s.l.length s.n],I V xa,I V xb] (grow (w1.drewN n) os) fun e w'=>e= J (I V (dM s xa xb))/\∃q bt,w'=grow ((grow (w1.drewN n) os).drewN q) bt:=fun n os=>(AX s xa xb _ bn.out.2 bG.out.2).mono fun e w' h=>⟨h.1,grD h.2⟩
   rw[a0,ad] at a8
   have gb:=(gR w1).cellG (a:=⟨ba,oa+kb,none⟩) bl eb
   have j:w.heap.size<w1.heap.size:=World.block_lt_of_cell? w1 ⟨w.heap.size,0,none⟩ c0
   have g0:=(gR w1).cellG (a:=⟨w.heap.size,0,none⟩) j c0
   have g1:=(gR w1).cellG (a:=⟨w.heap.size,1,none⟩) j d1
   have g2:=(gR w1).cellG (a:=⟨w.heap.size,2,none⟩) j d2
   have g3:=(gR w1).cellG (a:=⟨w.heap.size,3,none⟩) j c3
   have g4:=(gR w1).cellG (a:=⟨w.heap.size,4,none⟩) j c4
   have g5:=(gR w1).cellG (a:=⟨w.heap.size,5,none⟩) j c5
   have g6:=(gR w1).cellG (a:=⟨w.heap.size,6,none⟩) j c6
   have ga:=(gR w1).cellG (a:=⟨ba,oa+ka,none⟩) bl ea
   clear L E a2 an bh bb c2 a5 ao
   rcases ap with k4|k4|k4
   all_goals
    rw[k4] at c0 a8 g0
    have b3:O (∀n os,Y S 176 _ (grow (w1.drewN n) os) _):=a8
    clear k4 bN a8
    go_wp2_with (first|(go_at_call 175;(with_reducible refine cM r.out ?_);rintro e w' ⟨rfl,F⟩;subst w')|(go_at_call 175;(with_reducible refine cM bp.out ?_);rintro e w' ⟨rfl,F⟩;subst w'))
    refine wp_region_quiet_grown a6 (by kernel_rfl) ?_
    repeat (go_big_quiet_step ((go_at_call 176;refine Calls.grown_of (b3.out _ _))))
    refine wpQuiet_nil ?_
    rintro _ ⟨⟨bs,a7⟩,rfl⟩
    go_wp2
    go_ret
    exact ⟨by rw[f.out];rfl,u.trans ⟨bs,a7,rfl⟩⟩
 ·have f:O (aE s g=cN s xa):=by show _=_;rw[a1.out,if_neg L,if_pos E,if_neg ap,bn.out.1]
  have bo:∀n os,Y S 177 #[D #[I V s.k,I V s.a,I V s.b,I V s.c,I V s.o,I V s.v,Z s.p s.l.length s.n],I V xa] (grow (w1.drewN n) os) fun e w'=>e= J (I V (cN s xa))/\∃q bt,w'=grow ((grow (w1.drewN n) os).drewN q) bt:=fun n os=>(Ad s xa _ a4.out.2.1 (a4.out.1.gr (u.trans ⟨n,os,rfl⟩))).mono fun e w' h=>⟨h.1,grD h.2⟩
  rw[a0] at bo
  have b1:O (∀n os,Y S 177 _ (grow (w1.drewN n) os) _):=bo
  have q4:(s.k==4)=false:=by simp;omega
  have q5:(s.k==5)=false:=by simp;omega
  have q6:(s.k==6)=false:=by simp;omega
  have j:w.heap.size<w1.heap.size:=World.block_lt_of_cell? w1 ⟨w.heap.size,0,none⟩ c0
  have g0:=(gR w1).cellG (a:=⟨w.heap.size,0,none⟩) j c0
  have g1:=(gR w1).cellG (a:=⟨w.heap.size,1,none⟩) j d1
  have g2:=(gR w1).cellG (a:=⟨w.heap.size,2,none⟩) j c2
  have g3:=(gR w1).cellG (a:=⟨w.heap.size,3,none⟩) j c3
  have g4:=(gR w1).cellG (a:=⟨w.heap.size,4,none⟩) j c4
  have g5:=(gR w1).cellG (a:=⟨w.heap.size,5,none⟩) j c5
  have g6:=(gR w1).cellG (a:=⟨w.heap.size,6,none⟩) j c6
  have ga:=(gR w1).cellG (a:=⟨ba,oa+ka,none⟩) bl ea
  clear L E a2 an bo ap
  go_wp2_with (go_at_call 175;(with_reducible refine cM r.out ?_);rintro e w' ⟨rfl,F⟩;subst w')
  refine wp_region_quiet_grown a6 (by kernel_rfl) ?_
  repeat (go_big_quiet_step ((go_at_call 177;refine Calls.grown_of (b1.out _ _))))
  refine wpQuiet_nil ?_
  rintro _ ⟨⟨bs,a7⟩,rfl⟩
  go_wp2
  go_ret
  exact ⟨by rw[f.out];rfl,u.trans ⟨bs,a7,rfl⟩⟩


structure Stps (w:X) (A:Option K) (q:List Stp):Prop where
 row:az jT 7 w A q
 each:∀s∈q,al w s.p s.l/\s.l.length<=maxLen/\(s.p=none->s.n=0)
theorem Stps.below {w w':X} {A:Option K} {q:List Stp} (h:Stps w A q) (k:Q w.heap.size w w'):Stps w' A q:=⟨h.row.below k,fun s f=>⟨(h.each s f).1.below k,(h.each s f).2⟩⟩
theorem Stps.gr {w w':X} {A:Option K} {q:List Stp} (h:Stps w A q) (k:Gr w w'):Stps w' A q:=h.below k.below
theorem Stps.at {w:X} {A:Option K} {q:List Stp} (h:Stps w A q) {j:Nat} (g:j<q.length):∃b f,A=some ⟨b,f,none⟩/\b<w.heap.size/\∀i,i<7->w.cell? ⟨b,f+j*7+i,none⟩=(jT q[j])[i]? := by
 obtain ⟨b,f,k,n,r⟩:=h.row.at g
 exact ⟨b,f,k,n,fun i hi=>r j g i hi⟩
def cK:List Stp->List Int->Option (List Int)
 | [],ah=>some ah
 | s::t,ah=>if aE s ah=0 then none else cK t (ah++[aE s ah])
def bu (q:List Stp):Int:=if q.length=0 then 1 else if 8<q.length then 2 else if (cK q []).isSome=true then 0 else 1
def iD (q:List Stp):List Int:=if bu q=0 then (cK q []).getD [] else []
theorem ni {l:List Int} (h:∀x∈l,0<=x/\x<=8) (k:Nat):0<=l.getD k 0/\l.getD k 0<=8:=by
 rw[List.getD_eq_getElem?_getD]
 cases e:l[k]? with
 | none=>simp
 | some x=>exact h x (List.mem_of_getElem? e)
theorem Dw (s:Stp) {a:Int} (h:0<=a/\a<=8):0<=cN s a/\cN s a<=8:=by
 unfold cN
 repeat' split
 all_goals first|omega|skip
 rename_i h1
 simp at h1
 omega
theorem DG (s:Stp) {a b:Int} (h:0<=a/\a<=8) (k:0<=b/\b<=8):0<=dM s a b/\dM s a b<=8:=by
 unfold dM
 repeat' split
 all_goals first|omega|skip
 rename_i h1
 simp at h1
 omega
theorem uR (s:Stp) {f:List Int} (h:∀x∈f,0<=x/\x<=8):0<=aE s f/\aE s f<=8:=by
 have g:=Dw s (ni h s.a.toNat)
 have j:=DG s (ni h s.a.toNat) (ni h s.b.toNat)
 unfold aE
 repeat' split
 all_goals omega

theorem uS (q:List Stp) (A:Option K) (ca:Nat) (w:X) (hl:q.length<=maxLen) (hq:Stps w A q) :
  Y S 113 #[Z A q.length ca] w fun e w'=>∃(C:Option K) (c:Nat),e= J (.tuple #[Z C (iD q).length c,I V (bu q)])/\al w' C (iD q)/\(C=none->c=0)/\Q w.heap.size w w':=by
 unfold maxLen at hl
 by_cases h0:q.length=0
 ·have e1:O (bu q=1/\iD q=[]):=by
   have e:bu q=1:=by unfold bu;rw[if_pos h0]
   exact ⟨e,by unfold iD;rw[e,if_neg (by decide)]⟩
  have bl:((q.length:Int)==0)=true:=by rw[h0];rfl
  clear h0
  go_enter Tryz.func113,Tryz.ntmps113
  go_wp2
  go_ret2
  exact ⟨none,0,by rw[e1.out.1,e1.out.2];rfl,by rw[e1.out.2];exact oL rfl,fun _=>rfl,bR _ _⟩
 have bl:((q.length:Int)==0)=false:=beq_eq_false_iff_ne.2 (by omega)
 by_cases h8:8<q.length
 ·have e1:O (bu q=2/\iD q=[]):=by
   have e:bu q=2:=by unfold bu;rw[if_neg h0,if_pos h8]
   exact ⟨e,by unfold iD;rw[e,if_neg (by decide)]⟩
  have bn:(8:Int)<(q.length:Int):=by omega
  clear h0
  go_enter Tryz.func113,Tryz.ntmps113
  go_wp2
  go_ret2
  exact ⟨none,0,by rw[e1.out.1,e1.out.2];rfl,by rw[e1.out.2];exact oL rfl,fun _=>rfl,bR _ _⟩
 have bn:¬(8:Int)<(q.length:Int):=by omega
 have a2:O (bu q=if (cK q []).isSome=true then 0 else 1):=by show _=_;unfold bu;rw[if_neg h0,if_neg h8]
 have bp:=ja1 hq
 clear hq h0
 go_enter Tryz.func113,Tryz.ntmps113
 go_wp2
 go_loopw [4,16] (fun v i wr=>∃(j:Nat) (g:List Int),j<=q.length/\i= I V j/\O (g.length=j/\(∀x∈g,0<=x/\x<=8)/\cK q []=cK (q.drop j) g)/\O (dr wr w.heap.size v g/\Q w.heap.size w wr)) (fun _ i _=>q.length-(intOf i).toNat)
 case atStart=>exact ⟨0,[],by omega,rfl,⟨rfl,(fun x hx=>by cases hx),by simp⟩,ae.nil _ _ _ _ _,bR _ _⟩
 case round =>
  obtain ⟨j,g,hj,rfl,L,f⟩:=hrel
  by_cases a5:j<q.length
  ·have be:(j:Int)<(q.length:Int):=by omega
   have hI:=ja1 (bp.out.below f.out.2)
   obtain ⟨bb,ad,rfl,hb,r⟩:=hI.out.at a5
   obtain ⟨s,hs⟩:∃s,q[j]=s:=⟨_,rfl⟩
   have a7:=hI.out.each s (by rw[<-hs];exact gM a5)
   rw[hs] at r
   have m0:wr.cell? ⟨bb,ad+j*7,none⟩=some (I V s.k):=r 0 (by omega)
   have m1:wr.cell? ⟨bb,ad+j*7+1,none⟩=some (I V s.a):=r 1 (by omega)
   have m2:wr.cell? ⟨bb,ad+j*7+2,none⟩=some (I V s.b):=r 2 (by omega)
   have m3:wr.cell? ⟨bb,ad+j*7+3,none⟩=some (I V s.c):=r 3 (by omega)
   have m4:wr.cell? ⟨bb,ad+j*7+4,none⟩=some (I V s.o):=r 4 (by omega)
   have m5:wr.cell? ⟨bb,ad+j*7+5,none⟩=some (I V s.v):=r 5 (by omega)
   have m6:wr.cell? ⟨bb,ad+j*7+6,none⟩=some (Z s.p s.l.length s.n):=r 6 (by omega)
   have R:O (cK q []=if aE s g=0 then none else cK (q.drop (j+1)) (g++[aE s g])):=by
    show _=_
    rw[L.out.2.2,List.drop_eq_getElem_cons a5,hs]
    rfl
   have bh:=uR s L.out.2.1
   obtain ⟨G,gc,rfl,hG,E,ao⟩:=ae.row bS f.out.1
   have a1:Gr wr (wr.alloc (H (ja8 s) 136)):=(gR wr).alloc _
   have c0:(wr.alloc (H (ja8 s) 136)).cell? ⟨wr.heap.size,0,none⟩=some (I V s.k):=aa (gR _) rfl
   have c1:(wr.alloc (H (ja8 s) 136)).cell? ⟨wr.heap.size,1,none⟩=some (I V s.a):=aa (gR _) rfl
   have c2:(wr.alloc (H (ja8 s) 136)).cell? ⟨wr.heap.size,2,none⟩=some (I V s.b):=aa (gR _) rfl
   have c3:(wr.alloc (H (ja8 s) 136)).cell? ⟨wr.heap.size,3,none⟩=some (I V s.c):=aa (gR _) rfl
   have c4:(wr.alloc (H (ja8 s) 136)).cell? ⟨wr.heap.size,4,none⟩=some (I V s.o):=aa (gR _) rfl
   have c5:(wr.alloc (H (ja8 s) 136)).cell? ⟨wr.heap.size,5,none⟩=some (I V s.v):=aa (gR _) rfl
   have c6:(wr.alloc (H (ja8 s) 136)).cell? ⟨wr.heap.size,6,none⟩=some (Z s.p s.l.length s.n):=aa (gR _) rfl
   have a8:=yt s g G gc (wr.alloc (H (ja8 s) 136)) a7.2.1 (a7.1.gr a1) (E.gr a1) L.out.2.1
   obtain ⟨n,hn⟩:∃n,aE s g=n:=⟨_,rfl⟩
   rw[hn] at a8 R bh
   have a3:O _:=a8
   clear r hs a8 a7
   go_wp2_with fail
   refine ja0 a3 ?_
   rintro e w1 ⟨rfl,a9⟩
   clear a3 c0 c1 c2 c3 c4 c5 c6 m0 m1 m2 m3 m4 m5 m6
   have bd:=ja1 (a1.trans a9)
   clear a1 a9
   by_cases ap:n=0
   ·have e1:O (bu q=1/\iD q=[]):=by
     have e:bu q=1:=by rw[a2.out,R.out,if_pos ap];rfl
     exact ⟨e,by unfold iD;rw[e,if_neg (by decide)]⟩
    have bo:=ja1 (f.out.2.trans (bd.out.below.mono f.out.2.size))
    subst ap
    go_wp2
    go_ret2
    exact ⟨none,0,by rw[e1.out.1,e1.out.2];rfl,by rw[e1.out.2];exact oL rfl,fun _=>rfl,bo.out⟩
   ·have bs:(n==0)=false:=beq_eq_false_iff_ne.2 ap
    have u:O (dr (w1.alloc (H #[I V n] 3)) w.heap.size (Z G g.length gc) g/\al (w1.alloc (H #[I V n] 3)) (some ⟨w1.heap.size,0,none⟩) [n]/\g.length+1<=maxLen/\(g.length+1)*8<=140737488355328/\Q w.heap.size w (w1.alloc (H #[I V n] 3))):=by
     have h1:=L.out.1
     have ba:Gr wr (w1.alloc (H #[I V n] 3)):=bd.out.alloc _
     exact ⟨f.out.1.gr ba,ii rfl n 3,by unfold maxLen;omega,by omega,f.out.2.trans (ba.below.mono f.out.2.size)⟩
    have a6:O ((g++[n]).length=j+1/\(∀x∈g++[n],0<=x/\x<=8)/\cK q []=cK (q.drop (j+1)) (g++[n])):=by
     refine ⟨by simp[L.out.1],fun x hx=> ?_,by rw[R.out,if_neg ap]⟩
     rcases List.mem_append.1 hx with k|k
     ·exact L.out.2.1 x k
     ·rw[List.mem_singleton.1 k];exact bh
    clear ap f E hG ao
    go_wp2_with (at_builtin;refine aJ _ rfl (.tmp 25) (.tmp 27) rfl w.heap.size (Z G g.length gc) g [n] (some ⟨w1.heap.size,0,none⟩) 1 rfl rfl u.out.1 u.out.2.1 (fun h=>by cases h) u.out.2.2.1 u.out.2.2.2.1 u.out.2.2.2.2.size ?_;intro v7 w7 a0 bc)
    have a4:=ja2 a0 (u.out.2.2.2.2.trans (ae.grown_below u.out.1 bc u.out.2.2.2.2.size))
    clear a0 bc u
    go_roundw
    case rel=>exact ⟨j+1,g++[n],by omega,by go_num,a6,a4⟩
    case measure=>simp[intOf];omega
  ·have be:¬(j:Int)<(q.length:Int):=by omega
   have an:O (bu q=0/\iD q=g):=by
    have h1:=L.out.2.2
    rw[List.drop_eq_nil_of_le (by omega)] at h1
    have e:bu q=0:=by rw[a2.out,h1];rfl
    exact ⟨e,by unfold iD;rw[if_pos e,h1];rfl⟩
   obtain ⟨G,gc,rfl,hG,E,ao⟩:=ae.row bS f.out.1
   have F:=ja3 E hG f.out.2
   clear E hG ao f
   go_wp2
   go_ret2
   exact ⟨G,gc,by rw[an.out.1,an.out.2];rfl,by rw[an.out.2];exact F.out.1,F.out.2.1,F.out.2.2⟩

end Go.Proofs.YtjmmpnmgpgaagaaGreatDoor

namespace Go.Proofs.YtjmmpnmgpgaagaaGreatDoor

def toB (n op v:Int):Bool:=if op=1 then decide (n<v) else if op=2 then decide (n=v) else decide (v<n)
def atI (r:List Int) (c:Int):Int:=r.getD c.toNat 0
def dC (l:List Zit) (c o v:Int):List Zit:=l.filter fun x=>toB (atI x.1 c) o v
def eI (cols:List Int) (r:List Int):List Int:=cols.map fun c=>atI r c
def gG (l:List Zit) (cols:List Int):List Zit:=l.map fun x=>(eI cols x.1,x.2)
def gl (l:List Zit):List Zit:=(l.filter fun x=>decide (0<x.2)).map fun x=>(x.1,1)
theorem pj {a b:List Zit} (h:aY a b=0):aq a=0/\aq b=0/\aq (bw a b)=0:=by
 unfold aY at h
 by_cases f:aq a=0
 ·rw[if_pos f] at h
  by_cases g:aq b=0
  ·rw[if_pos g] at h
   by_cases j:dq (a++b)=0
   ·rw[if_pos j] at h
    by_cases n:400<(dh (a++b)).length
    ·rw[if_pos n] at h;cases h
    ·refine ⟨f,g,?_⟩
     have e:bw a b=dh (a++b):=by
      unfold bw aY
      rw[if_pos f,if_pos g,if_pos j,if_neg n,if_pos rfl]
     rw[e]
     have u:=bB (a++b)
     refine (aR _).2 ⟨by omega,u.okZ (ql j) (fun x r=> ?_),u.rise⟩
     rcases List.mem_append.1 r with k|k
     ·exact (bA (((aR a).1 f).2.1 x k)).1
     ·exact (bA (((aR b).1 g).2.1 x k)).1
   ·rw[if_neg j] at h;exact absurd h j
  ·rw[if_neg g] at h;exact absurd h g
 ·rw[if_neg f] at h;exact absurd h f
end Go.Proofs.YtjmmpnmgpgaagaaGreatDoor

namespace Go.Proofs.YtjmmpnmgpgaagaaGreatDoor
open Go.RowKit Go.Sort

theorem jS (q:List Stp) (A:Option K) (ca:Nat) (w:X) (g:q.length<=maxLen) (h:Stps w A q) :
  Y S 80 #[Z A q.length ca] w fun e w'=>e= J (I V (bu q))/\Q w.heap.size w w':=by
 have f:O _:=uS q A ca w g h
 clear g h
 go_enter Tryz.func80,Tryz.ntmps80
 go_wp2_with fail
 refine ja0 f ?_
 rintro e w1 ⟨C,c,rfl,-,-,j⟩
 clear f
 go_wp2
 go_ret
 exact ⟨rfl,j⟩

theorem qp:∀(q:List Stp) (f l:List Int),cK q f=some l->l.length=f.length+q.length
 | [],f,l,h=>by
  have g:some f=some l:=h
  injection g with g
  subst g;simp
 | s::t,f,l,h=>by
  have g:(if aE s f=0 then none else cK t (f++[aE s f]))=some l:=h
  by_cases e:aE s f=0
  ·rw[if_pos e] at g;cases g
  ·rw[if_neg e] at g
   have:=qp t _ l g
   simp at this ⊢
   omega
theorem jz {q:List Stp} (h:bu q=0):(iD q).length=q.length/\q.length<=8:=by
 have f:q.length<=8/\(cK q []).isSome=true:=by
  unfold bu at h
  by_cases g:q.length=0
  ·rw[if_pos g] at h;cases h
  ·rw[if_neg g] at h
   by_cases f:8<q.length
   ·rw[if_pos f] at h;cases h
   ·rw[if_neg f] at h
    by_cases k:(cK q []).isSome=true
    ·exact ⟨by omega,k⟩
    ·rw[if_neg k] at h;cases h
 refine ⟨?_,f.1⟩
 unfold iD
 rw[if_pos h]
 obtain ⟨l,j⟩:=Option.isSome_iff_exists.1 f.2
 rw[j]
 have:=qp q [] l j
 simpa using this

end Go.Proofs.YtjmmpnmgpgaagaaGreatDoor
