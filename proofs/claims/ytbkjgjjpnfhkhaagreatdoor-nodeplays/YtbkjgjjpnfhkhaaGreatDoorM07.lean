import Derived.Test.YtbkjgjjpnfhkhaaGreatDoorM06
import Derived.ProofKit
import Derived.OpenShut
import Derived.ChangeOld
import Derived.Deep.SlicePairs
import Derived.Lib.SmallJoins
set_option maxRecDepth 100000
set_option maxHeartbeats 8000000
open Go renaming World → Z, Calls → Y, Addr → X, Value → U
open Go.Ending renaming returned → J
open Go.IntKind renaming i64 → O
open Go.Proofs.Tryz renaming prog → S
open Go.RowKit renaming Hid → V
open Go.Value renaming slice → I, tuple → K
namespace Go.Proofs.YtbkjgjjpnfhkhaaGreatDoor
open Go.RowKit Go.Sort

theorem rz {l:List Itm} {k:Nat} (c:¬ 400<l.length) (f:k<l.length) (h:(okR l[k].r && okW l[k].n)=false):bS (l.map Itm.z)=5:=by unfold bS;rw[if_neg (by simpa using c),if_neg];intro d;have:=List.all_eq_true.1 d l[k].z (List.mem_map.2 ⟨l[k],gM f,rfl⟩);unfold Itm.z at this;rw[h] at this;cases this
theorem tB {l:List Itm} (c:¬ 400<l.length) (h:∀j (h:j<l.length),okR l[j].r=true/\okW l[j].n=true):bS (l.map Itm.z)=da (l.map Itm.z):=by unfold bS;rw[if_neg (by simpa using c),if_pos];rw[List.all_eq_true];intro x f;obtain ⟨y,g,rfl⟩:=List.mem_map.1 f;obtain ⟨j,d,rfl⟩:=List.mem_iff_getElem.1 g;have:=h j d;simp[Itm.z,this.1,this.2]
theorem mf {l:List Zit} (h:bS l≠0):cY l=[]:=by unfold cY;rw[if_neg h]

theorem wF (l:List Itm) (A:Option X) (cap:Nat) (w:Z) (hl:l.length<=maxLen) (hA:A=none->cap=0) (hr:Items w A l) :
  Y S 180 #[I A l.length cap] w fun e w'=>∃(L:List Itm) (C:Option X) (c:Nat),e= J (K #[I C L.length c,.int O (bS (l.map Itm.z))])/\L.map Itm.z=cY (l.map Itm.z)/\Items w' C L/\dC C L.length c/\jb2 w w'/\NwT w' c w.heap.size C L:=by
 unfold maxLen at hl;have ap:=ja2 hr hA;by_cases h4:400<l.length
 ·have e:V (bS (l.map Itm.z)=2):=by show _=_;unfold bS;rw[if_pos (by simpa using h4)]
  have e2:V (cY (l.map Itm.z)=[]):=mf (by rw[e.out];decide);have a9:(400:Int)<(l.length:Int):=by omega
  go_enter Tryz.func180,Tryz.ntmps180;go_wp2;go_ret2;exact ⟨[],none,0,by rw[e.out];rfl,by rw[e2.out];rfl,⟨oL rfl,fun x D=>by cases D⟩,fun _=>rfl,bR _ _,NwT.none _ _⟩
 ·have a9:¬(400:Int)<(l.length:Int):=by omega
  go_enter Tryz.func180,Tryz.ntmps180;go_wp2;go_loopw [11] (fun i wr=>∃k:Nat,k<=l.length/\i= .int O k/\V (∀j (h:j<l.length),j<k->okR l[j].r=true/\okW l[j].n=true)/\Gr w wr) (fun i _=>l.length-(intOf i).toNat);exact ⟨0,by omega,rfl,fun j _ h=>by omega,gR _⟩;rename Z=>f;obtain ⟨k,hk,rfl,ak,m⟩:=hrel;by_cases u:k<l.length
  ·have a2:(k:Int)<(l.length:Int):=(by omega);have aL:=ja1 (ap.out.1.gr m);obtain ⟨b,be,rfl,hb,bb⟩:=aL.out.at u;obtain ⟨x,D⟩:=jb0 (l[k]);obtain ⟨e0,e1⟩:=bb k u;rw[D] at e0 e1;have a7:=ja1 D;have a8:V (aq f x.p x.r/\x.r.length<=maxLen):=⟨(aL.out.each x (by rw[<-D];exact gM u)).1,(aL.out.each x (by rw[<-D];exact gM u)).2.1⟩;have a1:Gr f (f.alloc (.cells #[I x.p x.r.length x.c,.int O x.n] 101)):=(gR _).alloc _;have x0:jb1 (f.alloc (.cells #[I x.p x.r.length x.c,.int O x.n] 101)) f.heap.size 0 (I x.p x.r.length x.c):=ab (gR _) rfl;have x1:jb1 (f.alloc (.cells #[I x.p x.r.length x.c,.int O x.n] 101)) f.heap.size 1 (.int O x.n):=ab (gR _) rfl;have a5:=ny x.r x.p x.c (f.alloc (.cells #[I x.p x.r.length x.c,.int O x.n] 101)) a8.out.2 (a8.out.1.gr a1);have a0:V _:=a5;go_wp2_with fail;refine ja0 a0 ?_;rintro e w2 ⟨rfl,ao⟩;have F:Gr w w2:=(m.trans a1).trans ao;have x0:jb1 w2 f.heap.size 0 (I x.p x.r.length x.c):=ab ao rfl;have x1:jb1 w2 f.heap.size 1 (.int O x.n):=ab ao rfl;have E:V ((okR x.r && okW x.n)=false->bS (l.map Itm.z)=5/\cY (l.map Itm.z)=[]):=fun h=>by have h5:=rz h4 u (by rw[a7.out];exact h);exact ⟨h5,mf (by rw[h5];decide)⟩
   cases a4:okR x.r
   ·have d:V (bS (l.map Itm.z)=5/\cY (l.map Itm.z)=[]):=E.out (by simp[a4]);go_wp2;go_ret2;exact ⟨[],none,0,by rw[d.out.1];rfl,by rw[d.out.2];rfl,⟨oL rfl,fun x D=>by cases D⟩,fun _=>rfl,F.below,NwT.none _ _⟩
   ·have ah:=gL x.n w2;cases ad:okW x.n
    ·have d:V (bS (l.map Itm.z)=5/\cY (l.map Itm.z)=[]):=E.out (by simp[ad]);rw[ad] at ah;have R:V _:=ah;go_wp2_with (go_at_call 142;(refine ja0 R ?_);rintro e w' ⟨rfl,rfl⟩);go_ret2;exact ⟨[],none,0,by rw[d.out.1];rfl,by rw[d.out.2];rfl,⟨oL rfl,fun x D=>by cases D⟩,fun _=>rfl,F.below,NwT.none _ _⟩
    ·rw[ad] at ah;have R:V _:=ah;have a3:V (okR l[k].r=true/\okW l[k].n=true):=by show _/\_;rw[a7.out];exact ⟨a4,ad⟩
     go_wp2_with (go_at_call 142;(refine ja0 R ?_);rintro e w' ⟨rfl,rfl⟩);go_roundw;case rel =>
      refine ⟨k+1,u,by go_num,?_,F⟩;intro j hj bd;by_cases e:j=k
      ·subst e;exact a3.out
      ·exact ak j hj (by omega)
     case measure=>simp[intOf];omega
  ·have a2:¬(k:Int)<(l.length:Int):=(by omega);have an:V (∀j (h:j<l.length),okR l[j].r=true/\okW l[j].n=true):=fun j h=>ak j h (by omega);have d:V (bS (l.map Itm.z)=da (l.map Itm.z)/\cY (l.map Itm.z)=mD (l.map Itm.z)):=by have h1:=tB h4 an.out;refine ⟨h1,?_⟩;unfold cY mD;rw[h1]
   have bc:=mP l A cap f ap.out.2 (ap.out.1.gr m) (by omega) (fun x D=>by obtain ⟨j,hj,rfl⟩:=List.mem_iff_getElem.1 D;have:=an.out j hj;refine ⟨this.2,?_⟩;have h8:=this.1;simp only[okR,Bool.and_eq_true,decide_eq_true_eq] at h8;exact h8.1)
   have a6:V _:=bc;go_wp2_with fail;refine ja0 a6 ?_;rintro e w3 ⟨L,C,c,rfl,h1,h2,h3,h4,h5⟩;have ba:=ja1 (h5.mono m.size);have g:V (L.map Itm.z=cY (l.map Itm.z)/\Items w3 C L/\dC C L.length c/\jb2 w w3):=⟨by rw[h1,d.out.2],h2,h3,m.below.trans (h4.mono m.size)⟩;go_wp2;go_ret2;exact ⟨L,C,c,by rw[d.out.1];rfl,g.out.1,g.out.2.1,g.out.2.2.1,g.out.2.2.2,ba.out⟩

theorem zB {a b:List Zit} (h:am a≠0):bi a b=am a/\aZ a b=[]:=by
 have e:bi a b=am a:=by unfold bi;rw[if_neg h]
 exact ⟨e,by unfold aZ;rw[e,if_neg h]⟩
theorem zC {a b:List Zit} (c:am a=0) (h:am b≠0):bi a b=am b/\aZ a b=[]:=by
 have e:bi a b=am b:=by unfold bi;rw[if_pos c,if_neg h]
 exact ⟨e,by unfold aZ;rw[e,if_neg h]⟩
theorem zF {a b:List Zit} (c:am a=0) (d:am b=0) (h:da (a++b)≠0):bi a b=da (a++b)/\aZ a b=[]:=by
 have e:bi a b=da (a++b):=by unfold bi;rw[if_pos c,if_pos d,if_neg h]
 exact ⟨e,by unfold aZ;rw[e,if_neg h]⟩
theorem zD {a b:List Zit} (c:am a=0) (d:am b=0) (h:da (a++b)=0) (f:400<(bQ (a++b)).length):bi a b=2/\aZ a b=[]:=by
 have e:bi a b=2:=by unfold bi;rw[if_pos c,if_pos d,if_pos h,if_pos f]
 exact ⟨e,by unfold aZ;rw[e,if_neg (by decide)]⟩
theorem zE {a b:List Zit} (c:am a=0) (d:am b=0) (h:da (a++b)=0) (f:¬ 400<(bQ (a++b)).length):bi a b=0/\aZ a b=bQ (a++b):=by
 have e:bi a b=0:=by unfold bi;rw[if_pos c,if_pos d,if_pos h,if_neg f]
 exact ⟨e,by unfold aZ;rw[if_pos e]⟩
theorem gj {l:List Itm} (h:am (l.map Itm.z)=0):l.length<=400/\∀x∈l,okW x.n=true/\x.r.length<=8:=by have c:=(aQ _).1 h;refine ⟨by simpa using c.1,fun x g=> ?_⟩;have d:=bg (c.2.1 x.z (List.mem_map.2 ⟨x,g,rfl⟩));have f:=d.1;simp only[okR,Bool.and_eq_true,decide_eq_true_eq] at f;exact ⟨d.2.1,f.1⟩

theorem rT (a b:List Itm) (A B:Option X) (ca cb:Nat) (w:Z) (a7:a.length<=maxLen) (a8:b.length<=maxLen) (hA:A=none->ca=0) (hB:B=none->cb=0) (a3:Items w A a) (a9:Items w B b) :
  Y S 97 #[I A a.length ca,I B b.length cb] w fun e w'=>∃(L:List Itm) (C:Option X) (c:Nat),e= J (K #[I C L.length c,.int O (bi (a.map Itm.z) (b.map Itm.z))])/\L.map Itm.z=aZ (a.map Itm.z) (b.map Itm.z)/\Items w' C L/\dC C L.length c/\jb2 w w'/\NwT w' c w.heap.size C L:=by
 have ao:=gD a A ca w a7 a3;have k:V _:=ao;have j:=ja5 a3 a9 hA hB a8;go_enter Tryz.func97,Tryz.ntmps97;go_wp2_with fail;refine ja0 k ?_;rintro e w1 ⟨rfl,D⟩;obtain ⟨E,hE⟩:=jb0 (am (a.map Itm.z));have ad:=ja1 hE;rw[hE];cases hq:(E != 0)
 ·have n:E=0:=by simpa using hq
  have h:V (am (a.map Itm.z)=0):=by show _=_;rw[ad.out,n]
  subst n;have ao:=gD b B cb w1 j.out.2.2.2.2 (j.out.2.1.gr D);have k:V _:=ao;go_wp2_with fail;refine ja0 k ?_;rintro e w2 ⟨rfl,a0⟩;obtain ⟨F,hF⟩:=jb0 (am (b.map Itm.z));have ah:=ja1 hF;rw[hF];cases a1:(F != 0)
  ·have r:F=0:=(by simpa using a1);have m:V (am (b.map Itm.z)=0):=by show _=_;rw[ah.out,r]
   subst r;have l:Gr w w2:=D.trans a0;have ba:=mQ a b A B ca cb w2 j.out.2.2.1 j.out.2.2.2.1 (j.out.1.gr l) (j.out.2.1.gr l) (gj h.out).1 (gj m.out).1 (gj h.out).2 (gj m.out).2;have a4:V _:=ba;go_wp2_with fail;refine ja0 a4 ?_;rintro e w3 ⟨L,C,c,rfl,h1,h2,h3,h4,h5⟩;have a6:=ja1 (h5.mono l.size);have g:=ja4 h1 h2 h3 (l.below.trans (h4.mono l.size));obtain ⟨G,hG⟩:=jb0 (da (a.map Itm.z++b.map Itm.z));have ak:=ja1 hG;rw[hG];cases a2:(G != 0)
   ·have u:G=0:=(by simpa using a2);have R:V (da (a.map Itm.z++b.map Itm.z)=0):=by show _=_;rw[ak.out,u]
    subst u;have aL:V (L.map Itm.z=bQ (a.map Itm.z++b.map Itm.z)):=by show _=_;rw[g.out.1,sC R.out]
    have ap:V ((bQ (a.map Itm.z++b.map Itm.z)).length=L.length):=(by show _=_;rw[<-aL.out,List.length_map]);by_cases h4:400<L.length
    ·have a5:(400:Int)<(L.length:Int):=(by omega);have f:=zD h.out m.out R.out (by rw[ap.out];exact h4);have d:=ja1 f;go_wp2;go_ret2;exact ⟨[],none,0,by rw[d.out.1];rfl,by rw[d.out.2];rfl,⟨oL rfl,fun x hx=>by cases hx⟩,fun _=>rfl,g.out.2.2.2,NwT.none _ _⟩
    ·have a5:¬(400:Int)<(L.length:Int):=(by omega);have f:=zE h.out m.out R.out (by rw[ap.out];exact h4);have d:=ja1 f;go_wp2;go_ret2;exact ⟨L,C,c,by rw[d.out.1];rfl,by rw[d.out.2];exact aL.out,g.out.2.1,g.out.2.2.1,g.out.2.2.2,a6.out⟩
   ·have u:G≠0:=(by simpa using a2);have d:V (bi (a.map Itm.z) (b.map Itm.z)=G/\aZ (a.map Itm.z) (b.map Itm.z)=[]):=by have:=zF h.out m.out (by rw[ak.out];exact u);rw[ak.out] at this;exact this
    go_wp2;go_ret2;exact ⟨[],none,0,by rw[d.out.1];rfl,by rw[d.out.2];rfl,⟨oL rfl,fun x hx=>by cases hx⟩,fun _=>rfl,g.out.2.2.2,NwT.none _ _⟩
  ·have r:F≠0:=(by simpa using a1);have f:V (bi (a.map Itm.z) (b.map Itm.z)=F/\aZ (a.map Itm.z) (b.map Itm.z)=[]):=by have:=zC (b:=b.map Itm.z) h.out (by rw[ah.out];exact r);rw[ah.out] at this;exact this
   have an:=ja1 ((D.trans a0).below);go_wp2;go_ret2;exact ⟨[],none,0,by rw[f.out.1];rfl,by rw[f.out.2];rfl,⟨oL rfl,fun x hx=>by cases hx⟩,fun _=>rfl,an.out,NwT.none _ _⟩
 ·have n:E≠0:=by simpa using hq
  have f:V (bi (a.map Itm.z) (b.map Itm.z)=E/\aZ (a.map Itm.z) (b.map Itm.z)=[]):=by have:=zB (b:=b.map Itm.z) (show am (a.map Itm.z)≠0 by rw[ad.out];exact n);rw[ad.out] at this;exact this
  have an:=ja1 D.below;go_wp2;go_ret2;exact ⟨[],none,0,by rw[f.out.1];rfl,by rw[f.out.2];rfl,⟨oL rfl,fun x hx=>by cases hx⟩,fun _=>rfl,an.out,NwT.none _ _⟩
theorem xR (a b:List Itm) (A B:Option X) (ca cb:Nat) (w:Z) (d:a.length<=maxLen) (f:b.length<=maxLen) (r:A=none->ca=0) (u:B=none->cb=0) (g:Items w A a) (h:Items w B b) :
  Y S 97 #[I A a.length ca,I B b.length cb] w fun e w'=>∃(L:List Itm) (C:Option X) (c:Nat),e= J (K #[I C L.length c,.int O (bi (a.map Itm.z) (b.map Itm.z))])/\L.map Itm.z=aZ (a.map Itm.z) (b.map Itm.z)/\Items w' C L/\dC C L.length c/\jb2 w w':=by refine (rT a b A B ca cb w d f r u g h).mono ?_;rintro e w' ⟨L,C,c,j,k,l,m,n,_⟩;exact ⟨L,C,c,j,k,l,m,n⟩

section
open Go.Shelf Go.Lib

theorem mp {w:Z} {b c:Nat} {l:List Int} (h:aq w (jb4 b c) l):∀j,j<l.length->jb1 w b (c+j) (.int O (l.getD j 0)):=by
 intro j g;obtain ⟨k,d,f,_,m⟩:=h.at g;obtain ⟨rfl,rfl⟩:b=k/\c=d:=by injection f with f;injection f with h1 h2;exact ⟨h1,h2⟩
 have:=m j g 0 (by omega);have e:l.getD j 0=l[j]:=by simp[g]
 rw[e];simpa[dU] using this
theorem px (l m:List Int) (A B:Option X) (c d:Nat) (w:Z) (hl:l.length<=9223372036854775807) (D:m.length<=9223372036854775807) (E:aq w A l) (F:aq w B m) :
  Y S 43 #[I A l.length c,I B m.length d] w fun e w'=>e= J (.bool (decide (l=m)))/\Gr w w':=by
 by_cases k:l=[]
 ·subst k;have h:=Any.slices_Equal_int_empty Tryz.equalInt A B c m.length d w D;change Y S 43 _ _ _ at h;refine h.mono ?_;rintro e w' ⟨rfl,rfl⟩;refine ⟨?_,gR _⟩;have:decide (m.length=0)=decide ([]=m):=by cases m<;>simp
  rw[this]
 ·by_cases C:m=[]
  ·subst C;have f:0<l.length:=List.length_pos_iff.2 k;have n:decide (l=[])=false:=by simp[k]
   rw[n];go_enter Tryz.func43,Tryz.ntmps43;go_wp2;go_ret;exact ⟨rfl,gR _⟩
  ·have f:0<l.length:=List.length_pos_iff.2 k;have g:0<m.length:=List.length_pos_iff.2 C;obtain ⟨b,u,rfl,_,_⟩:=E.at f;obtain ⟨R,j,rfl,_,_⟩:=F.at g;have h:=Any.slices_Equal_int Tryz.equalInt b u l.length c R j m.length d l m w (nR _) (nR _) hl D (mp E) (mp F);change Y S 43 _ _ _ at h;refine h.mono ?_;rintro e w' ⟨rfl,q,rfl⟩;refine ⟨?_,⟨q,#[],by rw[grow_empty]⟩⟩;simp only[List.take_length];by_cases r:l=m<;>simp[r]

end

def jv (x y:Itm):Bool:=decide (x.n=y.n) && decide (x.r=y.r)
theorem nQ {x y:Itm}:jv x y=true↔x.z=y.z:=by unfold jv Itm.z;simp only[Bool.and_eq_true,decide_eq_true_eq,Prod.mk.injEq];exact ⟨fun h=>⟨h.2,h.1⟩,fun h=>⟨h.2,h.1⟩⟩
theorem ud (x y:Itm) (w:Z) (h:x.r.length<=maxLen) (j:y.r.length<=maxLen) (u:aq w x.p x.r) (C:aq w y.p y.r) :
  Y S 42 #[.agg #[I x.p x.r.length x.c,.int O x.n],.agg #[I y.p y.r.length y.c,.int O y.n]] w fun e w'=>e= J (.bool (jv x y))/\Gr w w':=by
 have f:V (x.r.length<=9223372036854775807/\y.r.length<=9223372036854775807):=by show _/\_;unfold maxLen at h j;exact ⟨h,j⟩
 have g:=ja2 u C;cases l:(x.n==y.n)
 ·have d:V (jv x y=false):=by have:x.n≠y.n:=(by simpa using l);simp[jv,this,V]
  go_enter Tryz.func42,Tryz.ntmps42;go_wp2;go_ret;exact ⟨by rw[d.out];rfl,((gR _).alloc _).alloc _⟩
 ·have d:V (jv x y=decide (x.r=y.r)):=by have:x.n=y.n:=(by simpa using l);simp[jv,this,V]
  go_enter Tryz.func42,Tryz.ntmps42;go_wp2_with fail;refine (px x.r y.r x.p y.p x.c y.c _ f.out.1 f.out.2 (g.out.1.gr (((gR _).alloc _).alloc _)) (g.out.2.gr (((gR _).alloc _).alloc _))).mono ?_;rintro e w' ⟨rfl,m⟩;have k:V (Gr w w'):=(((gR w).alloc _).alloc _).trans m;go_wp2;go_ret;exact ⟨by rw[d.out];rfl,k.out⟩
theorem qW (a b:List Itm) (A B:Option X) (ca cb:Nat) (w:Z) (a1:a.length<=maxLen) (ha:Items w A a) (hb:Items w B b) :
  Y S 41 #[I A a.length ca,I B b.length cb,.func (.func 42) #[] #[]] w fun e w'=>e= J (.bool (decide (a.map Itm.z=b.map Itm.z)))/\Gr w w':=by
 unfold maxLen at a1;have R:=ja2 ha hb;by_cases g:a.length=b.length
 ·have a5:((a.length:Int) != (b.length:Int))=false:=by simp[g]
  have m:=ja1 g;clear g;go_enter Tryz.func41,Tryz.ntmps41;go_wp2;go_loopw [17] (fun i wr=>∃k:Nat,k<=a.length/\i= .int O k/\V (∀j (h1:j<a.length) (F:j<b.length),j<k->jv a[j] b[j]=true)/\Gr w wr) (fun i _=>a.length-(intOf i).toNat);exact ⟨0,nZ _,rfl,fun j _ _ hj=>absurd hj (Nat.not_lt_zero _),gR _⟩;obtain ⟨k,hk,rfl,an,u⟩:=hrel;by_cases l:k<a.length
  ·have ak:(k:Int)<(a.length:Int):=(by omega);have f:k<b.length:=by rw[<-m.out];exact l
   have E:=ja2 (R.out.1.gr u) (R.out.2.gr u);obtain ⟨bb,a9,rfl,hb,a2⟩:=E.out.1.at l;obtain ⟨bc,a8,rfl,a6,ad⟩:=E.out.2.at f;obtain ⟨x,hx⟩:=jb0 (a[k]);obtain ⟨y,hy⟩:=jb0 (b[k]);obtain ⟨e0,e1⟩:=a2 k l;obtain ⟨f0,f1⟩:=ad k f;rw[hx] at e0 e1;rw[hy] at f0 f1;have C:=ja2 hx hy;have ao:V (aq wr x.p x.r/\x.r.length<=maxLen):=⟨(E.out.1.each x (by rw[<-hx];exact gM l)).1,(E.out.1.each x (by rw[<-hx];exact gM l)).2.1⟩;have ap:V (aq wr y.p y.r/\y.r.length<=maxLen):=⟨(E.out.2.each y (by rw[<-hy];exact gM f)).1,(E.out.2.each y (by rw[<-hy];exact gM f)).2.1⟩;go_wp2_with fail;have D:V (Gr wr ((wr.alloc (.cells #[I x.p x.r.length x.c,.int O x.n] 101)).alloc (.cells #[I y.p y.r.length y.c,.int O y.n] 101))):=((gR _).alloc _).alloc _;refine (ud x y _ ao.out.2 ap.out.2 (ao.out.1.gr D.out) (ap.out.1.gr D.out)).mono ?_;rintro e w2 ⟨rfl,a3⟩;have ah:=ja1 ((u.trans D.out).trans a3);cases hq:jv x y
   ·have d:V (decide (a.map Itm.z=b.map Itm.z)=false):=by
     refine decide_eq_false fun h=> ?_;have F:(a.map Itm.z)[k]? = (b.map Itm.z)[k]? := by rw[h]
     rw[List.getElem?_map,List.getElem?_map,List.getElem?_eq_getElem l,List.getElem?_eq_getElem f,C.out.1,C.out.2] at F;have h3:x.z=y.z:=by simpa using F
     rw[nQ.2 h3] at hq;cases hq
    go_wp2;go_ret;exact ⟨by rw[d.out];rfl,ah.out⟩
   ·go_wp2;go_roundw;case rel =>
     refine ⟨k+1,by omega,by go_num,?_,ah.out⟩;intro j hj a4 a7;by_cases e:j=k
     ·subst e;rw[C.out.1,C.out.2];exact hq
     ·exact an j hj a4 (by omega)
    case measure=>simp[intOf];omega
  ·have ak:¬(k:Int)<(a.length:Int):=(by omega);have d:V (decide (a.map Itm.z=b.map Itm.z)=true):=by
    refine decide_eq_true ?_;refine List.ext_getElem (by simpa using m.out) fun j h1 F=> ?_;have aL:j<a.length:=by simpa using h1
    have a0:j<b.length:=(by simpa using F);rw[List.getElem_map,List.getElem_map];exact nQ.1 (an j aL a0 (by omega))
   go_wp2;go_ret;exact ⟨by rw[d.out];rfl,u⟩
 ·have a5:((a.length:Int) != (b.length:Int))=true:=by simp;omega
  have d:V (decide (a.map Itm.z=b.map Itm.z)=false):=by refine decide_eq_false fun h=>g ?_;have:=congrArg List.length h;simpa using this
  go_enter Tryz.func41,Tryz.ntmps41;go_wp2;go_ret;exact ⟨by rw[d.out];rfl,gR _⟩
theorem ue (a b:List Itm) (A B:Option X) (ca cb:Nat) (w:Z) (c:a.length<=maxLen) (f:Items w A a) (g:Items w B b) :
  Y S 21 #[I A a.length ca,I B b.length cb] w fun e w'=>e= J (.bool (decide (a.map Itm.z=b.map Itm.z)))/\Gr w w':=by have d:V _:=qW a b A B ca cb w c f g;obtain ⟨r,j⟩:=jb0 (decide (a.map Itm.z=b.map Itm.z));rw[j] at d ⊢;go_enter Tryz.func21,Tryz.ntmps21;go_wp2_with fail;refine ja0 d ?_;rintro e w' ⟨rfl,h⟩;go_wp2;go_ret;exact ⟨rfl,h⟩

section
open Go.ChangeShapes Go.WideShapes Go.ChangeAt Go.Deep

theorem Bo:ownKnob Tryz.prog.godebug=none:=by kernel_rfl
theorem laidAll:laidOutB S=true:=by kernel_rfl

variable {H:Type} {enc:TypeId×U->H} {W:Z}

theorem tH {f:Nat} {C:List U} {x:DataW H×List MemPlace} (h:DataW.trod enc S W 0 (fun _=>true) true f 30 C=some x) :
  ∃A cap l,C=[I A l.length cap]/\(A=none->cap=0)/\Row W A l/\l.length<=maxLen:=by
 rcases open_slice_pairs Tryz.underlying30 Tryz.underlying89 (by kernel_rfl) rfl rfl (by kernel_rfl) (by kernel_rfl) h with ⟨c,_⟩|⟨a,len,cap,m,n,V0,V1,D0,D1,P0,P1,c,_,hl,hm,hmm,_,hx⟩
 ·exact ⟨none,0,[],c,fun _=>rfl,oL rfl,by simp⟩
 ·have ad:len<=m:=by rw[hmm];simp;exact hl
  obtain ⟨ah,F⟩:=choose_lt (α := Int×Int) (n:=len) (p:=fun i z=>W.cell? (a.add (i*2))=some (.int O z.1)/\W.cell? (a.add (i*2+1))=some (.int O z.2)) (fun i hi=>by obtain ⟨R,c1,t0,t1⟩:=hx i (by omega);obtain ⟨z0,D,_⟩:=DataW.trod_int Tryz.underlying3 t0;obtain ⟨z1,E,_⟩:=DataW.trod_int Tryz.underlying3 t1;simp only[List.cons.injEq,and_true] at D E;exact ⟨(z0,z1),by rw[R,D],by rw[c1,E]⟩)
  refine ⟨some a,cap,(List.range len).map ah,by rw[c];simp,(fun h=>by cases h),?_,by simp;omega⟩;by_cases h0:len=0
  ·exact oL (by rw[h0];rfl)
  ·have g:=(F 0 (by omega)).1;obtain ⟨b,u,k⟩:=a;have d:k=none:=by simpa[Addr.add] using World.cell?_spot g
   subst d;refine oR ⟨b,u,rfl,?_,fun j hj=> ?_⟩
   ·have:=World.block_lt_of_cell? W _ g;simpa[Addr.add_lit] using this
   ·have r:j<len:=(by simpa using hj);have:=F j r;simp only[Addr.add_lit,<-Nat.add_assoc] at this;simpa using this

end
section
open Go.ChangeShapes Go.WideShapes Go.ChangeAt Go.Deep

variable {H:Type} {enc:TypeId×U->H} {W:Z}

theorem wN {g:Nat} {E:List U} {x:DataW H×List MemPlace} (h:DataW.trod enc S W 0 (fun _=>true) true g 99 E=some x) :
  ∃A cap l,E=[I A (l:List Int).length cap]/\(A=none->cap=0)/\aq W A l/\l.length<=maxLen:=by
 rcases open_slice Tryz.underlying99 h with ⟨d,_⟩|⟨a,len,cap,m,n,D,Pl,d,_,hl,hm,hmm,hx,hi⟩
 ·exact ⟨none,0,[],d,fun _=>rfl,oL rfl,by simp⟩
 ·have c1:Tryz.prog.cellsOf 3=1:=by kernel_rfl
  have ao:len<=m:=by rw[hmm];simp;exact hl
  obtain ⟨ap,R⟩:=choose_lt (α := Int) (n:=len) (p:=fun i z=>W.cell? (a.add i)=some (.int O z)) (fun i ak=>by obtain ⟨ah,F,h2⟩:=hi i (by omega);rw[c1] at F;obtain ⟨_,ad,c⟩:=World.cells?_some F;obtain ⟨z,e,_⟩:=DataW.trod_int Tryz.underlying3 h2;refine ⟨z,?_⟩;have:=c 0 (by omega);rw[add_add] at this;simp only[Nat.mul_one,Nat.add_zero] at this;rw[this];simp[e])
  refine ⟨some a,cap,(List.range len).map ap,by rw[d];simp,(fun h=>by cases h),?_,by simp;omega⟩;by_cases h0:len=0
  ·exact oL (by rw[h0];rfl)
  ·have k:=R 0 (by omega);obtain ⟨b,C,r⟩:=a;have f:r=none:=by simpa[Addr.add] using World.cell?_spot k
   subst f;refine oR ⟨b,C,rfl,?_,fun j hj i an=> ?_⟩
   ·have:=World.block_lt_of_cell? W _ k;simpa[Addr.add_lit] using this
   ·have u:j<len:=(by simpa using hj);have:=R j u;obtain rfl:i=0:=by omega
    simp only[Addr.add_lit] at this;simpa[dU] using this

end
end Go.Proofs.YtbkjgjjpnfhkhaaGreatDoor
