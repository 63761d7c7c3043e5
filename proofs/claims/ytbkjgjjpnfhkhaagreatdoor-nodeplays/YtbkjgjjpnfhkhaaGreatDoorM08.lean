import Derived.Test.YtbkjgjjpnfhkhaaGreatDoorM07
import Derived.Shelf.Small.Strs
set_option maxRecDepth 100000
set_option maxHeartbeats 8000000
open Go renaming Calls → Z, World → Y, Addr → K
open Go.Ending renaming returned → J
open Go.IntKind renaming i64 → V
open Go.Obj renaming cells → U
open Go.Proofs.Tryz renaming prog → S
open Go.RowKit renaming Hid → X
open Go.Value renaming int → I, slice → O, pointer → P, tuple → Q, string → T, bool → N
namespace Go.Proofs.YtbkjgjjpnfhkhaaGreatDoor
open Go.ChangeShapes Go.WideShapes Go.ChangeAt Go.RowKit Go.Deep

variable {H:Type} {enc:TypeId×Value->H} {W:Y}

end Go.Proofs.YtbkjgjjpnfhkhaaGreatDoor

namespace Go.Proofs.YtbkjgjjpnfhkhaaGreatDoor
open Go.RowKit Go.Sort

theorem kX {L:List Itm} {m:List Zit} (h:L.map Itm.z=m) (c:m.length<=400):L.length<=maxLen:=by
 have:L.length=m.length:=by rw[<-h,List.length_map]
 unfold maxLen;omega
theorem tC (l:List Zit):(cY l).length<=400:=by
 unfold cY;by_cases h:bS l=0
 ·rw[if_pos h];exact nT (gA l) (kr h).1
 ·rw[if_neg h];simp
theorem wl (l:List Zit):(i7 l).length<=400:=by
 unfold i7;by_cases h:am l=0
 ·rw[if_pos h,List.length_map];exact ((aQ _).1 h).1
 ·rw[if_neg h];simp
theorem oQ (a b:List Zit):(aZ a b).length<=400:=by
 unfold aZ;by_cases h:bi a b=0
 ·rw[if_pos h];by_cases k:400<(bQ (a++b)).length
  ·exfalso;unfold bi at h;by_cases c:am a=0
   ·rw[if_pos c] at h;by_cases d:am b=0
    ·rw[if_pos d] at h;by_cases f:da (a++b)=0
     ·rw[if_pos f,if_pos k] at h;cases h
     ·rw[if_neg f] at h;exact f h
    ·rw[if_neg d] at h;exact d h
   ·rw[if_neg c] at h;exact c h
  ·omega
 ·rw[if_neg h];simp
theorem oG {W:Y} {A:Option K} {c:Nat} {l:List Itm} (h:Lv W A c l) {m:List Zit} (r:l.map Itm.z=m) :
  Z S 180 #[O A l.length c] W fun e w'=>∃(L:List Itm) (C:Option K) (k:Nat),e= J (Q #[O C L.length k,I V (bS m)])/\L.map Itm.z=cY m/\Lv w' C k L/\jb2 W w'/\NwT w' k W.heap.size C L:=by subst r;refine (wF l A c W h.len h.nil h.items).mono ?_;rintro e w' ⟨L,C,k,f,d,g,j,n⟩;exact ⟨L,C,k,f,d,⟨g,j,kX d (tC _)⟩,n⟩
theorem AQ {W:Y} {A:Option K} {c:Nat} {l:List Itm} (h:Lv W A c l) {m:List Zit} (r:l.map Itm.z=m) :
  Z S 92 #[O A l.length c] W fun e w'=>∃(L:List Itm) (C:Option K) (k:Nat),e= J (Q #[O C L.length k,I V (am m)])/\L.map Itm.z=i7 m/\Lv w' C k L/\jb2 W w':=by subst r;refine (yG l A c W h.len h.items).mono ?_;rintro e w' ⟨L,C,k,f,d,g,j,n⟩;exact ⟨L,C,k,f,d,⟨g,j,kX d (wl _)⟩,n⟩
theorem As {W:Y} {A B:Option K} {c d:Nat} {l r:List Itm} (h:Lv W A c l) (f:Lv W B d r) {m n:List Zit} (F:l.map Itm.z=m) (R:r.map Itm.z=n) :
  Z S 97 #[O A l.length c,O B r.length d] W fun e w'=>∃(L:List Itm) (C:Option K) (k:Nat),e= J (Q #[O C L.length k,I V (bi m n)])/\L.map Itm.z=aZ m n/\Lv w' C k L/\jb2 W w':=by subst F;subst R;refine (xR l r A B c d W h.len f.len h.nil f.nil h.items f.items).mono ?_;rintro e w' ⟨L,C,k,j,g,u,D,E⟩;exact ⟨L,C,k,j,g,⟨u,D,kX g (oQ _ _)⟩,E⟩
theorem oS {W:Y} {A B:Option K} {c d:Nat} {l r:List Itm} (h:Lv W A c l) (f:Lv W B d r) {m n:List Zit} (F:l.map Itm.z=m) (R:r.map Itm.z=n) :
  Z S 97 #[O A l.length c,O B r.length d] W fun e w'=>∃(L:List Itm) (C:Option K) (k:Nat),e= J (Q #[O C L.length k,I V (bi m n)])/\L.map Itm.z=aZ m n/\Lv w' C k L/\jb2 W w'/\NwT w' k W.heap.size C L:=by subst F;subst R;refine (rT l r A B c d W h.len f.len h.nil f.nil h.items f.items).mono ?_;rintro e w' ⟨L,C,k,j,g,u,D,E⟩;exact ⟨L,C,k,j,g,⟨u,D,kX g (oQ _ _)⟩,E⟩
theorem uN {W:Y} {A:Option K} {c:Nat} {l:List Itm} (h:Lv W A c l) {m:List Zit} (d:l.map Itm.z=m) :
  Z S 116 #[O A l.length c] W fun e w'=>e= J (I V (am m))/\Gr W w':=by subst d;exact gD l A c W h.len h.items
end Go.Proofs.YtbkjgjjpnfhkhaaGreatDoor



namespace Go.Proofs
open Go.Shelf
def Tryz.laysIndexByte_ren:Go.Shelf.Ren:=⟨fun|137=>173|217=>205|266=>229|n=>n,fun|9=>9|5=>5|3=>3|n=>n,fun|n=>n⟩
theorem Tryz.laysIndexByte:Go.Proofs.Lays.n137 S Tryz.laysIndexByte_ren:={
 mixed:=by kernel_rfl
 f137:=Tryz.func173.trans (congrArg some (by kernel_rfl))
 f217:=Tryz.func205.trans (congrArg some (by kernel_rfl))
 f266:=Tryz.func229.trans (congrArg some (by kernel_rfl))
 t3:=Tryz.underlying3
 a3:=Tryz.isAgg3
 z3:=Tryz.sizeOf3
 v3:=Tryz.zeroValue3
 t5:=Tryz.underlying5
 a5:=Tryz.isAgg5
 z5:=Tryz.sizeOf5
 v5:=Tryz.zeroValue5
 t9:=Tryz.underlying9
 a9:=Tryz.isAgg9
 z9:=Tryz.sizeOf9
 v9:=Tryz.zeroValue9 }
end Go.Proofs

namespace Go.Proofs.YtbkjgjjpnfhkhaaGreatDoor
open Go.RowKit Go.Sort

def belowB (n k:Int):Bool:=decide (0<=n) && decide (n<k)
theorem il (n k:Int) (w:Y):Z S 150 #[I V n,I V k] w fun e w'=>e= J (N (belowB n k))/\w'=w:=by
 by_cases c:0<=n
 ·by_cases d:n<k
  ·have e:belowB n k=true:=(by simp[belowB];omega);rw[e];clear e;go_enter Tryz.func150,Tryz.ntmps150;go_wp2;go_ret;exact ⟨rfl,rfl⟩
  ·have e:belowB n k=false:=(by simp[belowB];omega);rw[e];clear e;go_enter Tryz.func150,Tryz.ntmps150;go_wp2;go_ret;exact ⟨rfl,rfl⟩
 ·have e:belowB n k=false:=by simp[belowB];omega
  rw[e];clear e;go_enter Tryz.func150,Tryz.ntmps150;go_wp2;go_ret;exact ⟨rfl,rfl⟩
def opB (n:Int):Bool:=decide (n=1\/n=2\/n=3)
theorem vI (n:Int) (w:Y):Z S 175 #[I V n] w fun e w'=>e= J (N (opB n))/\w'=w:=by
 by_cases c:n=1
 ·subst c;go_enter Tryz.func175,Tryz.ntmps175;go_wp2;go_ret;exact ⟨rfl,rfl⟩
 ·by_cases d:n=2
  ·subst d;go_enter Tryz.func175,Tryz.ntmps175;go_wp2;go_ret;exact ⟨rfl,rfl⟩
  ·by_cases f:n=3
   ·subst f;go_enter Tryz.func175,Tryz.ntmps175;go_wp2;go_ret;exact ⟨rfl,rfl⟩
   ·have e:opB n=false:=(by simp[opB];omega);have g:(n==1)=false:=by simpa using c
    have h:(n==2)=false:=(by simpa using d);have j:(n==3)=false:=by simpa using f
    rw[e];clear e c d f;go_enter Tryz.func175,Tryz.ntmps175;go_wp2;go_ret;exact ⟨rfl,rfl⟩
def mg (n:Int):Bool:=inB n (-1073741824) 1073741824
theorem oB (n:Int) (w:Y):Z S 176 #[I V n] w fun e w'=>e= J (N (mg n))/\w'=w:=by
 by_cases c: -1073741824<=n
 ·by_cases d:n<=1073741824
  ·have e:mg n=true:=(by simp[mg,inB];omega);rw[e];clear e;go_enter Tryz.func176,Tryz.ntmps176;go_wp2;go_ret;exact ⟨rfl,rfl⟩
  ·have e:mg n=false:=(by simp[mg,inB];omega);rw[e];clear e;go_enter Tryz.func176,Tryz.ntmps176;go_wp2;go_ret;exact ⟨rfl,rfl⟩
 ·have e:mg n=false:=by simp[mg,inB];omega
  rw[e];clear e;go_enter Tryz.func176,Tryz.ntmps176;go_wp2;go_ret;exact ⟨rfl,rfl⟩

theorem oj (l:List Int) (k:Int) (A:Option K) (cap:Nat) (w:Y) (hl:l.length<=maxLen) (hr:aq w A l) :
  Z S 177 #[O A l.length cap,I V k] w fun e w'=>e= J (N (l.all fun n=>belowB n k))/\Gr w w':=by
 unfold maxLen at hl;go_enter Tryz.func177,Tryz.ntmps177;go_wp2;go_loopw [9] (fun i wr=>∃j:Nat,j<=l.length/\i= I V j/\X (∀m (h:m<l.length),m<j->belowB l[m] k=true)/\wr=w) (fun i _=>l.length-(intOf i).toNat);exact ⟨0,nZ _,rfl,fun m _ h=>by omega,rfl⟩;obtain ⟨j,hj,rfl,g,rfl⟩:=hrel;by_cases r:j<l.length
 ·have u:(j:Int)<(l.length:Int):=by omega
  obtain ⟨b,ah,rfl,hb,F⟩:=hr.at r;have e0:=F j r 0 (by omega);obtain ⟨x,E⟩:=jb0 (l[j]);rw[E] at e0;have e1:jb1 wr b (ah+j) (I V x):=by simpa[dU] using e0
  have C:=ja1 E;cases D:belowB x k
  ·have d:=il x k wr;rw[D] at d;have f:X _:=d;have c:X ((l.all fun n=>belowB n k)=false):=by show _=_;rw[List.all_eq_false];exact ⟨l[j],gM r,by rw[C.out,D];simp⟩
   go_wp2_with (go_at_call 150;(refine ja0 f ?_);rintro e w' ⟨rfl,rfl⟩);go_ret;exact ⟨by rw[c.out];rfl,gR _⟩
  ·have d:=il x k wr;rw[D] at d;have f:X _:=d;have ad:X (belowB l[j] k=true):=by show _=_;rw[C.out];exact D
   go_wp2_with (go_at_call 150;(refine ja0 f ?_);rintro e w' ⟨rfl,rfl⟩);go_roundw;case rel =>
    refine ⟨j+1,by omega,by go_num,?_,by trivial⟩;intro m R ak;by_cases e:m=j
    ·subst e;exact ad.out
    ·exact g m R (by omega)
   case measure=>simp[intOf];omega
 ·have u:¬(j:Int)<(l.length:Int):=by omega
  have c:X ((l.all fun n=>belowB n k)=true):=by show _=_;rw[List.all_eq_true];intro x E;obtain ⟨m,R,rfl⟩:=List.mem_iff_getElem.1 E;exact g m R (by omega)
  go_wp2;go_ret;exact ⟨by rw[c.out];rfl,gR _⟩

structure Stp where
 k:Int
 a:Int
 b:Int
 c:Int
 o:Int
 v:Int
 p:Option K
 n:Nat
 l:List Int
def iW (s:Stp):List Value:=[I V s.k,I V s.a,I V s.b,I V s.c,I V s.o,I V s.v,O s.p s.l.length s.n]
theorem jj (s:Stp):(iW s).length=7:=rfl
theorem va (s:Stp):∀u∈iW s,u.oneCell'=true:=by intro u c;simp[iW] at c;rcases c with rfl|rfl|rfl|rfl|rfl|rfl|rfl<;>rfl

def xO (k:Int):List UInt8:=if k=1 then [116,97,98,108,101] else if k=2 then [119,104,101,114,101] else if k=3 then [112,105,99,107] else if k=4 then [106,111,105,110] else if k=5 then [117,110,105,111,110] else if k=6 then [109,105,110,117,115] else if k=7 then [100,105,115,116,105,110,99,116] else if k=8 then [99,111,117,110,116] else if k=9 then [115,117,109] else []
def iR (k:Int):List UInt8:=if k=1 then [65] else if k=2 then [65,67,79,86] else if k=3 then [65,76] else if k=4 then [65,66,67,86] else if k=5 then [65,66] else if k=6 then [65,66] else if k=7 then [65] else if k=8 then [65,67] else if k=9 then [65,67,86] else []

theorem rj (k:Int) (w:Y):Z S 172 #[I V k] w fun e w'=>e= J (Q #[T ⟨(xO k).toArray⟩,T ⟨(iR k).toArray⟩])/\w'=w:=by
 by_cases c:k=1
 ·subst c;go_enter Tryz.func172,Tryz.ntmps172;go_wp2;go_ret2;exact ⟨rfl,rfl⟩
 by_cases d:k=2
 ·subst d;go_enter Tryz.func172,Tryz.ntmps172;go_wp2;go_ret2;exact ⟨rfl,rfl⟩
 by_cases f:k=3
 ·subst f;go_enter Tryz.func172,Tryz.ntmps172;go_wp2;go_ret2;exact ⟨rfl,rfl⟩
 by_cases g:k=4
 ·subst g;go_enter Tryz.func172,Tryz.ntmps172;go_wp2;go_ret2;exact ⟨rfl,rfl⟩
 by_cases h:k=5
 ·subst h;go_enter Tryz.func172,Tryz.ntmps172;go_wp2;go_ret2;exact ⟨rfl,rfl⟩
 by_cases j:k=6
 ·subst j;go_enter Tryz.func172,Tryz.ntmps172;go_wp2;go_ret2;exact ⟨rfl,rfl⟩
 by_cases l:k=7
 ·subst l;go_enter Tryz.func172,Tryz.ntmps172;go_wp2;go_ret2;exact ⟨rfl,rfl⟩
 by_cases m:k=8
 ·subst m;go_enter Tryz.func172,Tryz.ntmps172;go_wp2;go_ret2;exact ⟨rfl,rfl⟩
 by_cases n:k=9
 ·subst n;go_enter Tryz.func172,Tryz.ntmps172;go_wp2;go_ret2;exact ⟨rfl,rfl⟩
 have r:xO k=[]:=by unfold xO;rw[if_neg c,if_neg d,if_neg f,if_neg g,if_neg h,if_neg j,if_neg l,if_neg m,if_neg n]
 have u:iR k=[]:=by unfold iR;rw[if_neg c,if_neg d,if_neg f,if_neg g,if_neg h,if_neg j,if_neg l,if_neg m,if_neg n]
 rw[r,u];go_enter Tryz.func172,Tryz.ntmps172;go_wp2;go_ret2;exact ⟨rfl,rfl⟩

def zY (p:Int):Nat:=if p=65 then 1 else if p=66 then 2 else if p=67 then 3 else if p=79 then 4 else 5
theorem sY (b:Nat) (p:Int) (w:Y):Z S 174 #[P (jb4 b 0),I .u8 p] w fun e w'=>e= J (P (jb4 b (zY p)))/\w'=w:=by
 by_cases c:p=65
 ·subst c;go_enter Tryz.func174,Tryz.ntmps174;go_wp2;go_ret;exact ⟨rfl,rfl⟩
 by_cases d:p=66
 ·subst d;go_enter Tryz.func174,Tryz.ntmps174;go_wp2;go_ret;exact ⟨rfl,rfl⟩
 by_cases f:p=67
 ·subst f;go_enter Tryz.func174,Tryz.ntmps174;go_wp2;go_ret;exact ⟨rfl,rfl⟩
 by_cases g:p=79
 ·subst g;go_enter Tryz.func174,Tryz.ntmps174;go_wp2;go_ret;exact ⟨rfl,rfl⟩
 have h:zY p=5:=by unfold zY;rw[if_neg c,if_neg d,if_neg f,if_neg g]
 rw[h];go_enter Tryz.func174,Tryz.ntmps174;go_wp2;go_ret;exact ⟨rfl,rfl⟩

abbrev ja8 (s:Stp):Array Value:=#[I V s.k,I V s.a,I V s.b,I V s.c,I V s.o,I V s.v,O s.p s.l.length s.n]

def az (k:Int) (p:UInt8):Bool:=decide (0<=Lib.indexByte (iR k) p)
def jU:List UInt8:=[65,66,67,79,86]
def Stp.at (s:Stp) (j:Nat):Int:=[s.a,s.b,s.c,s.o,s.v].getD j 0
def fF (s:Stp) (j:Nat):Bool:=az s.k (jU.getD j 0) || decide (s.at j=0)
def bP (s:Stp):Bool:=(List.range 5).all (fF s) && (az s.k 76 || s.l.isEmpty)
theorem uF {s:Stp} {j:Nat} (c:j<5) (h:fF s j=false):bP s=false:=by unfold bP;rw[Bool.and_eq_false_iff];left;rw[List.all_eq_false];exact ⟨j,List.mem_range.2 c,by rw[h];simp⟩
theorem iP (l:List UInt8) (p:UInt8) (w:Y):Z S 173 #[T ⟨l.toArray⟩,I .u8 p.toNat] w fun e w'=>e= J (I V (Lib.indexByte l p))/\w'=w:=by have h:=Any.strings_IndexByte Tryz.laysIndexByte ⟨l.toArray⟩ (p.toNat:Int) w;change Z S 173 _ _ _ at h;simpa using h

theorem sJ (s:Stp) (w:Y) :
  Z S 149 #[.agg #[I V s.k,I V s.a,I V s.b,I V s.c,I V s.o,I V s.v,O s.p s.l.length s.n]] w fun e w'=>e= J (N (bP s))/\Gr w w':=by
 have E:Gr w (w.alloc (U #[I V s.k,I V s.a,I V s.b,I V s.c,I V s.o,I V s.v,O s.p s.l.length s.n] 132)):=(gR w).alloc _;have aL:=rj s.k (w.alloc (U #[I V s.k,I V s.a,I V s.b,I V s.c,I V s.o,I V s.v,O s.p s.l.length s.n] 132));have ak:X _:=aL;have c0:jb1 (w.alloc (U #[I V s.k,I V s.a,I V s.b,I V s.c,I V s.o,I V s.v,O s.p s.l.length s.n] 132)) w.heap.size 0 (I V s.k):=ab (gR _) rfl;go_enter Tryz.func149,Tryz.ntmps149;go_wp2_with fail;refine ja0 ak ?_;rintro e w1 ⟨rfl,rfl⟩;go_wp2;go_loopw [13] (fun i wr=>∃j:Nat,j<=5/\i= I V j/\X (∀m,m<j->fF s m=true)/\wr=(w.alloc (U #[I V s.k,I V s.a,I V s.b,I V s.c,I V s.o,I V s.v,O s.p s.l.length s.n] 132))) (fun i _=>5-(intOf i).toNat);exact ⟨0,by omega,rfl,fun m h=>by omega,by trivial⟩;obtain ⟨j,hj,rfl,R,rfl⟩:=hrel;by_cases h5:j=5
 ·subst h5;obtain ⟨x,hx⟩:=jb0 (Lib.indexByte (iR s.k) 76);have u:=iP (iR s.k) 76 (w.alloc (U #[I V s.k,I V s.a,I V s.b,I V s.c,I V s.o,I V s.v,O s.p s.l.length s.n] 132));rw[hx] at u;have f:X (Z S 173 #[T ⟨(iR s.k).toArray⟩,I .u8 76] _ _):=u;have g:X (bP s=(decide (0<=x) || s.l.isEmpty)):=by show _=_;unfold bP;rw[List.all_eq_true.2 fun m hm=>R m (List.mem_range.1 hm)];show (true && (decide (0<=Lib.indexByte (iR s.k) 76) || s.l.isEmpty))=_;rw[hx];simp
  by_cases F:0<=x
  ·have d:X (bP s=true):=(by show _=_;rw[g.out];simp[F]);go_wp2_with (go_at_call 173;(refine ja0 f ?_);rintro e w' ⟨rfl,rfl⟩);go_ret;exact ⟨by rw[d.out];rfl,E⟩
  ·by_cases D:s.l=[]
   ·have d:X (bP s=true):=(by show _=_;rw[g.out,D];simp);have an:((s.l.length:Int)==0)=true:=by rw[D];rfl
    clear D;go_wp2_with (go_at_call 173;(refine ja0 f ?_);rintro e w' ⟨rfl,rfl⟩);go_ret;exact ⟨by rw[d.out];rfl,E⟩
   ·have d:X (bP s=false):=(by show _=_;rw[g.out];simp[D];omega);have an:((s.l.length:Int)==0)=false:=by have:=List.length_pos_iff.2 D;simp;omega
    have a1:decide (0<=x)=false:=(by simpa using F);go_wp2_with (go_at_call 173;(refine ja0 f ?_);rintro e w' ⟨rfl,rfl⟩);go_ret;exact ⟨by rw[d.out,<-a1];rfl,E⟩
 have C:j=0\/j=1\/j=2\/j=3\/j=4:=by omega
 obtain ⟨x,hx⟩:=jb0 (Lib.indexByte (iR s.k) (jU.getD j 0));obtain ⟨v,hv⟩:=jb0 (s.at j);obtain ⟨o,ho⟩:=jb0 (j+1);have ah:fF s j=(decide (0<=x) || decide (v=0)):=by rw[<-hx,<-hv];rfl
 have ao:X ((0<=x\/v=0)->∀m,m<j+1->fF s m=true):=fun h m hm=>by
  by_cases e:m=j
  ·rw[e,ah];simpa using h
  ·exact R m (by omega)
 have a0:X (x<0->v≠0->bP s=false):=fun h1 h2=>uF (j:=j) (by omega) (by rw[ah];simp[h2];omega);have u:=iP (iR s.k) (jU.getD j 0) (w.alloc (U #[I V s.k,I V s.a,I V s.b,I V s.c,I V s.o,I V s.v,O s.p s.l.length s.n] 132));rw[hx] at u;have f:X _:=u;have cj:jb1 (w.alloc (U #[I V s.k,I V s.a,I V s.b,I V s.c,I V s.o,I V s.v,O s.p s.l.length s.n] 132)) w.heap.size o (I V v):=by rw[<-ho,<-hv];rcases C with rfl|rfl|rfl|rfl|rfl<;>exact ab (gR _) rfl
 have r:X (Z S 174 #[P (jb4 w.heap.size 0),I .u8 ((jU.getD j 0).toNat:Int)] (w.alloc (U #[I V s.k,I V s.a,I V s.b,I V s.c,I V s.o,I V s.v,O s.p s.l.length s.n] 132)) fun e w'=>e= J (P (jb4 w.heap.size o))/\w'=(w.alloc (U #[I V s.k,I V s.a,I V s.b,I V s.c,I V s.o,I V s.v,O s.p s.l.length s.n] 132))):=by rw[<-ho];rcases C with rfl|rfl|rfl|rfl|rfl<;>exact sY _ _ _
 by_cases F:x<0
 ·cases ap:(v != 0)
  ·have ad:X _:=ao.out (oR (by simpa using ap));rcases C with rfl|rfl|rfl|rfl|rfl<;>(go_wp2_with (first|(go_at_call 173;(refine ja0 f ?_);rintro e w' ⟨rfl,rfl⟩)|(go_at_call 174;(refine ja0 r ?_);rintro e w' ⟨rfl,rfl⟩));go_roundw;(case rel=>exact ⟨_,by omega,by go_num,ad,by trivial⟩);case measure=>simp[intOf])
  ·have d:X (bP s=false):=a0.out F (by simpa using ap);rcases C with rfl|rfl|rfl|rfl|rfl<;>(go_wp2_with (first|(go_at_call 173;(refine ja0 f ?_);rintro e w' ⟨rfl,rfl⟩)|(go_at_call 174;(refine ja0 r ?_);rintro e w' ⟨rfl,rfl⟩));go_ret;exact ⟨by rw[d.out];rfl,E⟩)
 ·have ad:X _:=ao.out (oL (by omega));rcases C with rfl|rfl|rfl|rfl|rfl<;>(go_wp2_with (first|(go_at_call 173;(refine ja0 f ?_);rintro e w' ⟨rfl,rfl⟩)|(go_at_call 174;(refine ja0 r ?_);rintro e w' ⟨rfl,rfl⟩));go_roundw;(case rel=>exact ⟨_,by omega,by go_num,ad,by trivial⟩);case measure=>simp[intOf])

end Go.Proofs.YtbkjgjjpnfhkhaaGreatDoor
