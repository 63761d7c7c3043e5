import Derived.Test.YtbkjgjjpnfhkhaaGreatDoorM34
set_option maxRecDepth 100000
set_option maxHeartbeats 8000000
open Go renaming Calls → Q, World → T, Addr → N
open Go.Ending renaming returned → U
open Go.IntKind renaming i64 → V
open Go.Obj renaming cells → Z
open Go.Proofs.Tryz renaming prog → Y
open Go.RowKit renaming Hid → H, Below → P
open Go.Value renaming slice → I, int → J, bool → M
namespace Go.Proofs.YtbkjgjjpnfhkhaaGreatDoor
open Go.RowKit Go.Sort

theorem oA {n lo hi:Int} {r:Bool} (h:inB n lo hi=r) (w:T):Q Y 5 #[J V n,J V lo,J V hi] w fun e w'=>e= U (M r)/\w'=w:=by
 subst h;by_cases c:lo<=n
 ·by_cases d:n<=hi
  ·have e:inB n lo hi=true:=(by simp[inB,c,d]);rw[e];go_enter Tryz.func5,Tryz.ntmps5;go_wp2;go_ret;exact ⟨rfl,rfl⟩
  ·have e:inB n lo hi=false:=(by simp[inB,d]);rw[e];go_enter Tryz.func5,Tryz.ntmps5;go_wp2;go_ret;exact ⟨by simp<;>omega,rfl⟩
 ·have e:inB n lo hi=false:=by simp[inB,c]
  rw[e];go_enter Tryz.func5,Tryz.ntmps5;go_wp2;go_ret;exact ⟨by simp<;>omega,rfl⟩
def mN (l:List Int) (k:Nat):Bool:=decide (l.length<=8) && (l.take k).all okN
theorem ua {l:List Int} {k:Nat} (h:k<l.length) {x:Int} (c:l[k]=x):mN l (k+1)=(mN l k && okN x):=by unfold mN;rw[List.take_succ_eq_append_getElem h,List.all_append,c];simp[Bool.and_assoc]
theorem xg {l:List Int} {k:Nat} (h:l.length<=k):mN l k=okR l:=by unfold mN okR;rw[List.take_of_length_le h]
theorem qn (l:List Int) (A:Option N) (c:Nat) (w:T) (hl:l.length<=maxLen) (hr:aq w A l) :
  Q Y 113 #[I A l.length c] w fun e w'=>e= U (M (okR l))/\Gr w w':=by
 unfold maxLen at hl;have F:=ja1 hr;obtain ⟨B0,j⟩:=jb0 (decide ((l.length:Int)<=8));have m:H (mN l 0=B0):=by show _=_;rw[<-j];unfold mN;rw[List.take_zero,List.all_nil,Bool.and_true,decide_eq_decide];constructor<;>intro h<;>omega
 go_enter Tryz.func113,Tryz.ntmps113;go_wp2;go_loopw [3,4] (fun v i wr=>∃(k:Nat) (B:Bool),k<=l.length/\i= J V k/\v= M B/\H (mN l k=B/\Gr w wr)) (fun _ i _=>l.length-(intOf i).toNat);exact ⟨0,B0,nZ _,rfl,by simp[<-j],m.out,gR _⟩;obtain ⟨k,B,hk,rfl,rfl,g⟩:=hrel;by_cases f:k<l.length
 ·have u:(k:Int)<(l.length:Int):=by omega
  obtain ⟨bb,ad,rfl,hb,E⟩:=(F.out.gr g.out.2).at f;obtain ⟨x,hx⟩:=jb0 (l[k]);have e0:jb1 wr bb (ad+k) (J V x):=by have:=E k f 0 (by omega);rw[hx] at this;simpa[dU] using this
  have R:=ua f hx;rw[g.out.1] at R;cases B
  ·have d:H (mN l (k+1)=false/\Gr w wr):=⟨by rw[R];rfl,g.out.2⟩;go_wp2;go_roundw;exact ⟨k+1,false,by omega,by go_num,rfl,d⟩;simp[intOf];omega
  ·obtain ⟨C,r⟩:=jb0 (okN x);have d:H (mN l (k+1)=C/\Gr w wr):=⟨by rw[R,r];rfl,g.out.2⟩;have D:=oA (n:=x) (lo:= -1073741824) (hi:=1073741824) r wr;have hI:H _:=D;go_wp2_with fail;refine ja0 hI ?_;rintro e w' ⟨rfl,ah⟩;subst w';go_wp2;go_roundw;exact ⟨k+1,C,by omega,by go_num,rfl,d⟩;simp[intOf];omega
 ·have u:¬(k:Int)<(l.length:Int):=by omega
  have d:H (okR l=B):=by show _=_;rw[<-xg (show l.length<=k by omega)];exact g.out.1
  go_wp2;go_ret;exact ⟨by rw[d.out];rfl,g.out.2⟩
theorem qL {a b:List Int}:(aw a b= -1)↔aw a b<0:=by
 have:∀a b:List Int,aw a b= -1\/aw a b=0\/aw a b=1:=by
  intro a;induction a with
  | nil=>intro b;cases b<;>simp[aw]
  | cons x a ih =>
   intro b;cases b with
   | nil=>simp[aw]
   | cons y b =>
    have d:=db x y;show (if bf x y=0 then aw a b else bf x y)= -1\/_;have c:aw (x::a) (y::b)=if bf x y=0 then aw a b else bf x y:=rfl;rw[c];by_cases e:bf x y=0
    ·rw[if_pos e];exact ih b
    ·rw[if_neg e];omega
 have:=this a b;omega
theorem qp (l:List Itm) (A:Option N) (c:Nat) (w:T) (hl:l.length<=maxLen) (hr:Items w A l) :
  Q Y 109 #[I A l.length c] w fun e w'=>e= U (J V (am (l.map Itm.z)))/\Gr w w':=by
 have f:Tryz.prog.follows .mixedOrders=true:=by kernel_rfl
 unfold maxLen at hl;have bp:=ja1 hr;clear hr;by_cases h4:400<l.length
 ·have e:am (l.map Itm.z)=2:=by unfold am;rw[if_pos (by simpa using h4)]
  rw[e];clear e;have bl:(400:Int)<(l.length:Int):=by omega
  go_enter Tryz.func109,Tryz.ntmps109;go_wp2;go_ret;exact ⟨rfl,gR _⟩
 ·have bl:¬(400:Int)<(l.length:Int):=by omega
  go_enter Tryz.func109,Tryz.ntmps109;go_wp2;go_loopw [3] (fun i wr=>∃k:Nat,k<=l.length/\i= J V k/\H (∀j,j<k->okI l j=true)/\H (Gr w wr)) (fun i _=>l.length-(intOf i).toNat);exact ⟨0,by omega,rfl,fun j h=>by omega,gR _⟩;obtain ⟨k,hk,rfl,a0,C⟩:=hrel;by_cases ak:k<l.length
  ·have bc:(k:Int)<(l.length:Int):=(by omega);have hI:=ja1 (bp.out.gr C.out);obtain ⟨b,bh,rfl,hb,E⟩:=hI.out.at ak;obtain ⟨x,hx⟩:=jb0 (l[k]);obtain ⟨e0,e1⟩:=E k ak;rw[hx] at e0 e1;have an:=hI.out.each x (by rw[<-hx];exact gM ak);have g0:=(gR wr).cellG hb e0;have g1:=(gR wr).cellG hb e1;obtain ⟨B1,a2⟩:=jb0 (okR x.r);obtain ⟨B2,a3⟩:=jb0 (okW x.n);have ah:H (∀n os,Q Y 113 #[I x.p x.r.length x.c] (grow (wr.drewN n) os) fun e w'=>e= U (M B1)/\∃q ap,w'=grow ((grow (wr.drewN n) os).drewN q) ap):=fun n os=>by rw[<-a2];exact qn x.r x.p x.c _ an.2.1 (an.1.gr ⟨n,os,rfl⟩)
   have ad:H (∀n os,Q Y 5 #[J V x.n,J V (-1048576),J V 1048576] (grow (wr.drewN n) os) fun e w'=>e= U (M B2)/\∃q ap,w'=grow ((grow (wr.drewN n) os).drewN q) ap):=fun n os=>(oA a3 _).mono fun e w' h=>⟨h.1,by rw[h.2];exact gR _⟩;have u:H (okI l k=false->am (l.map Itm.z)=5):=fun h=>jF h4 ak h;have hz:H (okZ x.z=(B1 && B2 && decide (x.n≠0))):=by show _=_;unfold okZ Itm.z;rw[a2,a3]
   have R:H (okI l k=true->∀j,j<k+1->okI l j=true):=fun h j hj=>by
    by_cases e:j=k
    ·rw[e];exact h
    ·exact a0.out j (by omega)
   have bb:H (k=0->okI l k=okZ x.z):=(fun e=>by subst e;exact mh ak hx);have F:H (∀(m:Nat) (hm:k=m+1) (y:Itm),l[m]'(by omega)=y->okI l k=(okZ x.z && decide (aw y.r x.r<0))):=fun m hm y hy=>by subst hm;exact jr ak hx hy
   have ao:H (okZ x.z=false->okI l k=false):=fun h=>by
    cases k with
    | zero=>rw[bb.out rfl];exact h
    | succ m=>rw[F.out m rfl (l[m]'(by omega)) rfl,h];rfl
   have be:=ja2 an.1 an.2.1;clear an a2 a3;cases B1
   ·have d:H (am (l.map Itm.z)=5):=u.out (ao.out (by rw[hz.out];rfl));clear E hx F;go_wp2;refine wp_region_quiet_grown f (by kernel_rfl) ?_;repeat (go_big_quiet_step (first|(go_at_call 113;refine Calls.grown_of (ah.out _ _))|(go_at_call 5;refine Calls.grown_of (ad.out _ _))))
    refine wpQuiet_nil ?_;rintro _ ⟨⟨nq,g⟩,rfl⟩;go_wp2;go_ret;exact ⟨by rw[d.out];rfl,C.out.trans ⟨nq,g,rfl⟩⟩
   ·by_cases D:x.n=0
    ·have d:H (am (l.map Itm.z)=5):=u.out (ao.out (by rw[hz.out];simp[D]));have bo:(x.n==0)=true:=by simpa using D
     clear E hx F D;go_wp2;refine wp_region_quiet_grown f (by kernel_rfl) ?_;repeat (go_big_quiet_step (first|(go_at_call 113;refine Calls.grown_of (ah.out _ _))|(go_at_call 5;refine Calls.grown_of (ad.out _ _))))
     refine wpQuiet_nil ?_;rintro _ ⟨⟨nq,g⟩,rfl⟩;go_wp2;go_ret;exact ⟨by rw[d.out];rfl,C.out.trans ⟨nq,g,rfl⟩⟩
    ·have bo:(x.n==0)=false:=(by simpa using D);cases B2
     ·have d:H (am (l.map Itm.z)=5):=u.out (ao.out (by rw[hz.out];rfl));clear E hx F D;go_wp2;refine wp_region_quiet_grown f (by kernel_rfl) ?_;repeat (go_big_quiet_step (first|(go_at_call 113;refine Calls.grown_of (ah.out _ _))|(go_at_call 5;refine Calls.grown_of (ad.out _ _))))
      refine wpQuiet_nil ?_;rintro _ ⟨⟨nq,g⟩,rfl⟩;go_wp2;go_ret;exact ⟨by rw[d.out];rfl,C.out.trans ⟨nq,g,rfl⟩⟩
     ·have aL:okZ x.z=true:=(by rw[hz.out];simp[D]);by_cases a6:k=0
      ·have d:H (∀j,j<k+1->okI l j=true):=R.out (by rw[bb.out a6];exact aL);clear E hx F D aL;subst a6;have e0:jb1 wr b bh (I x.p x.r.length x.c):=by simpa using e0
       have e1:jb1 wr b (bh+1) (J V x.n):=(by simpa using e1);have g0:=(gR wr).cellG hb e0;have g1:=(gR wr).cellG hb e1;go_wp2;refine wp_region_quiet_grown f (by kernel_rfl) ?_;repeat (go_big_quiet_step (first|(go_at_call 113;refine Calls.grown_of (ah.out _ _))|(go_at_call 5;refine Calls.grown_of (ad.out _ _))))
       refine wpQuiet_nil ?_;rintro _ ⟨⟨nq,g⟩,rfl⟩;have a5:H (Gr w (grow (wr.drewN nq) g)):=C.out.trans ⟨nq,g,rfl⟩;go_wp2;go_roundw;exact ⟨0+1,by omega,by go_num,d,a5⟩;simp[intOf];omega
      ·obtain ⟨m,hm⟩:∃m:Nat,k=m+1:=⟨k-1,by omega⟩;have bd:m<l.length:=by omega
       obtain ⟨y,hy⟩:=jb0 (l[m]);obtain ⟨f0,_⟩:=E m bd;rw[hy] at f0;have g2:=(gR wr).cellG hb f0;have a7:=hI.out.each y (by rw[<-hy];exact gM bd);obtain ⟨cc,a4⟩:=jb0 (aw y.r x.r);have a8:H (∀n os,Q Y 136 #[I y.p y.r.length y.c,I x.p x.r.length x.c] (grow (wr.drewN n) os) fun e w'=>e= U (J V cc)/\∃q ap,w'=grow ((grow (wr.drewN n) os).drewN q) ap):=fun n os=>by rw[<-a4];exact j2 y.r x.r y.p x.p y.c x.c _ a7.2.1 (a7.1.gr ⟨n,os,rfl⟩) (be.out.1.gr ⟨n,os,rfl⟩)
       have a1:H (okI l k=decide (cc= -1)):=(by show _=_;rw[F.out m hm y hy,aL,Bool.true_and,<-a4,decide_eq_decide];exact qL.symm);have ba:(0:Int)<(k:Int):=by omega
       have bt:decide ((0:Int)<(k:Int))=true:=decide_eq_true ba;have bv:decide (0<k)=true:=decide_eq_true (by omega);have bs:0<k:=by omega
       have bG:IntKind.i64.wrap ((k:Int)-1)=(m:Int):=(by rw[IntKind.wrap_i64];omega);have bC:wrap64 ((k:Int)-1)=(m:Int):=by unfold wrap64;omega
       have b0:(m:Int)<(l.length:Int):=(by omega);have bN:(0:Int)<=(m:Int):=by omega
       clear E hx F D aL hm a6 hy a7 a4;cases a9:(cc != -1)
       ·have d:H (∀j,j<k+1->okI l j=true):=R.out (by rw[a1.out];simpa using a9);go_wp2;refine wp_region_quiet_grown f (by kernel_rfl) ?_;repeat (go_big_quiet_step (first|(go_at_call 113;refine Calls.grown_of (ah.out _ _))|(go_at_call 5;refine Calls.grown_of (ad.out _ _))|(go_at_call 136;refine Calls.grown_of (a8.out _ _))))
        refine wpQuiet_nil ?_;rintro _ ⟨⟨nq,g⟩,rfl⟩;have a5:H (Gr w (grow (wr.drewN nq) g)):=C.out.trans ⟨nq,g,rfl⟩;go_wp2;go_roundw;exact ⟨k+1,by omega,by go_num,d,a5⟩;simp[intOf];omega
       ·have d:H (am (l.map Itm.z)=5):=u.out (by rw[a1.out];simpa using a9);go_wp2;refine wp_region_quiet_grown f (by kernel_rfl) ?_;repeat (go_big_quiet_step (first|(go_at_call 113;refine Calls.grown_of (ah.out _ _))|(go_at_call 5;refine Calls.grown_of (ad.out _ _))|(go_at_call 136;refine Calls.grown_of (a8.out _ _))))
        refine wpQuiet_nil ?_;rintro _ ⟨⟨nq,g⟩,rfl⟩;go_wp2;go_ret;exact ⟨by rw[d.out];rfl,C.out.trans ⟨nq,g,rfl⟩⟩
  ·have bc:¬(k:Int)<(l.length:Int):=(by omega);have d:H (am (l.map Itm.z)=0):=rY h4 (fun j hj=>a0.out j (by omega));go_wp2;go_ret;exact ⟨by rw[d.out];rfl,C.out⟩

def dz (m:List Zit):Int:=if (bQ m).all (fun x=>okR x.1 && okW x.2)=true then (if 400<(bQ m).length then 2 else 0) else 5
def eo (m:List Zit):List Zit:=if dz m=0 then bQ m else []
theorem xG {m:List Zit} (h:∀x∈m,okR x.1=true):∀x∈bQ m,okR x.1=true:=fun x c=>by
 obtain ⟨y,d,e⟩:=(bk m).row c
 rw[<-e];exact h y d
theorem pT {m:List Zit} (h:∀x∈m,okR x.1=true):dz m=if da m=0 then (if 400<(bQ m).length then 2 else 0) else 5:=by
 have d:=xG h;unfold dz da;by_cases e:(bQ m).all (fun x=>okW x.2)=true
 ·rw[if_pos (show (if (bQ m).all (fun x=>okW x.2)=true then (0:Int) else 5)=0 by rw[if_pos e]),if_pos];rw[List.all_eq_true] at e ⊢;intro x c;rw[d x c,e x c];rfl
 ·rw[if_neg (show ¬(if (bQ m).all (fun x=>okW x.2)=true then (0:Int) else 5)=0 by rw[if_neg e];decide),if_neg];intro k;apply e;rw[List.all_eq_true] at k ⊢;intro x c;have:=k x c;simp only[Bool.and_eq_true] at this;exact this.2
theorem sB (m:List Zit):da m=0\/da m=5:=by
 unfold da;split
 ·exact oL rfl
 ·exact oR rfl
theorem iI {m:List Zit} (g:¬ 400<m.length) (h:∀x∈m,okR x.1=true/\okW x.2=true):bS m=dz m/\cY m=eo m:=by
 have d:bS m=da m:=by unfold bS;rw[if_neg g,if_pos];rw[List.all_eq_true];intro x c;rw[(h x c).1,(h x c).2];rfl
 have f:dz m=da m:=by
  rw[pT fun x c=>(h x c).1];rcases sB m with k|k
  ·rw[if_pos k,if_neg (by have:=gA m;omega),k]
  ·rw[if_neg (by rw[k];decide),k]
 refine ⟨by rw[d,f],?_⟩;unfold cY eo;rw[d,f]
theorem oT {a b:List Zit} (c:am a=0) (d:am b=0):bi a b=dz (a++b)/\aZ a b=eo (a++b):=by
 have f:=(aQ a).1 c;have g:=(aQ b).1 d;have e:bi a b=dz (a++b):=by
  rw[pT fun x h=>by
   rcases List.mem_append.1 h with k|k
   ·exact (bg (f.2.1 x k)).1
   ·exact (bg (g.2.1 x k)).1]
  unfold bi;rw[if_pos c,if_pos d];rcases sB (a++b) with k|k
  ·rw[if_pos k,if_pos k]
  ·rw[if_neg (by rw[k];decide),if_neg (by rw[k];decide),k]
 refine ⟨e,?_⟩;unfold aZ eo;rw[e]

def Dis (l:List Zit):Prop:=l.Pairwise fun x y=>x.1≠y.1
theorem Dis.wt:∀ {l:List Zit},Dis l->∀ {x:Zit},x∈l->wt l x.1=x.2
 | [],_,_,hx=>by cases hx
 | y::l,h,x,hx=>by
  have c:=List.pairwise_cons.1 h;rcases List.mem_cons.1 hx with k|k
  ·subst k;have:=fT (l:=l) (r:=x.1) fun z d e=>c.1 z d e.symm;simp only[Go.Proofs.YtbkjgjjpnfhkhaaGreatDoor.wt,this];simp
  ·have:=Dis.wt (l:=l) c.2 k;simp only[Go.Proofs.YtbkjgjjpnfhkhaaGreatDoor.wt,this,if_neg (c.1 x k)];simp
theorem Dis.mem {l:List Zit} (h:Dis l) (j:NoZ l) (x:Zit):x∈bQ l↔x∈l:=by
 have k:=bk l;constructor
 ·intro d;obtain ⟨y,f,e⟩:=k.row d;have g:=h.wt f;have c:=k.rise.wt d;rw[k.same,<-e,g] at c;rw[show x=y from Prod.ext e.symm c.symm];exact f
 ·intro d;have g:=h.wt d;obtain ⟨y,f,e⟩:=kZ (l:=bQ l) (r:=x.1) (by rw[k.same,g];exact j x d);have c:=k.rise.wt f;rw[k.same,e,g] at c;rw[show x=y from Prod.ext e.symm c];exact f
theorem Dis.perm {l:List Zit} (h:Dis l) (d:NoZ l):(bQ l).Perm l:=by have f:(bQ l).Nodup:=List.Pairwise.imp (R:=fun x y:Zit=>aw x.1 y.1<0) (S:=fun x y=>x≠y) (fun c e=>dY c (by rw[e])) (bk l).rise;have g:l.Nodup:=List.Pairwise.imp (R:=fun x y:Zit=>x.1≠y.1) (S:=fun x y=>x≠y) (fun c e=>c (by rw[e])) h;exact (List.perm_ext_iff_of_nodup f g).2 (h.mem d)
theorem Dis.all {l:List Zit} (h:Dis l) (d:NoZ l) (p:Zit->Bool):(bQ l).all p=l.all p:=by rw[Bool.eq_iff_iff,List.all_eq_true,List.all_eq_true];exact ⟨fun k x c=>k x ((h.mem d x).2 c),fun k x c=>k x ((h.mem d x).1 c)⟩
theorem qa {l:List Zit} (h:Dis l) (c:NoZ l) (d:¬ 400<l.length):bS l=dz l/\cY l=eo l:=by
 have e:bS l=dz l:=by
  unfold bS dz;rw[if_neg d,h.all c,(h.perm c).length_eq,if_neg d];by_cases k:l.all (fun x=>okR x.1 && okW x.2)=true
  ·rw[if_pos k,if_pos k];unfold da;rw[h.all c,if_pos];rw[List.all_eq_true] at k ⊢;intro x f;have:=k x f;simp only[Bool.and_eq_true] at this;exact this.2
  ·rw[if_neg k,if_neg k]
 exact ⟨e,by unfold cY eo;rw[e]⟩
theorem tr {l m:List Zit} (h:l.Perm m):dz l=dz m/\eo l=eo m:=by
 have e:bQ l=bQ m:=fl fun r=>oO h r;have c:dz l=dz m:=by unfold dz;rw[e]
 exact ⟨c,by unfold eo;rw[c,e]⟩

theorem wQ {a b:List Zit} {n:Int} (C:am a=0) (D:am b=0) (k:cQ n a) (c v:Int):Dis (aP a b c v)/\NoZ (aP a b c v):=by
 obtain ⟨_,l,m⟩:=(aQ a).1 C;obtain ⟨_,r,u⟩:=(aQ b).1 D;refine ⟨?_,fun x d=> ?_⟩
 ·unfold Dis aP;refine List.pairwise_flatMap.2 ⟨fun x d=> ?_,?_⟩
  ·refine List.pairwise_map.2 (List.Pairwise.imp (R:=fun x y:Zit=>aw x.1 y.1<0) (fun h e=> ?_) (List.Pairwise.filter _ u));exact dY h (List.append_cancel_left e)
  ·refine List.Pairwise.imp_of_mem (fun {x y} d g (f:aw x.1 y.1<0) p F q hq e=> ?_) m;obtain ⟨p1,_,rfl⟩:=List.mem_map.1 F;obtain ⟨q1,_,rfl⟩:=List.mem_map.1 hq;have E:x.1.length=y.1.length:=by have h1:=k x d;have j:=k y g;omega
   exact dY f (List.append_inj_left e E)
 ·unfold aP at d;obtain ⟨y,g,j⟩:=List.mem_flatMap.1 d;obtain ⟨z,hz,rfl⟩:=List.mem_map.1 j;exact Int.mul_ne_zero (kS l y g) (kS r z (List.mem_filter.1 hz).1)
theorem tj {a b:List Zit} {n:Int} (u:am a=0) (C:am b=0) (E:cQ n a) (c v:Int) (D:∀x∈aP a b c v,okR x.1=true):gP a b c v=dz (aP a b c v)/\j4 a b c v=eo (aP a b c v):=by
 obtain ⟨g,j⟩:=wQ u C E c v;by_cases k:(aP a b c v).all (fun x=>okW x.2)=true
 ·have l:(aP a b c v).all (fun x=>okR x.1 && okW x.2)=true:=by rw[List.all_eq_true] at k ⊢;intro x h;rw[D x h,k x h];rfl
  by_cases r:400<(aP a b c v).length
  ·have d:gP a b c v=2:=(by unfold gP bS;rw[if_pos k,if_pos];rw[List.length_take];omega);have f:dz (aP a b c v)=2:=by unfold dz;rw[g.all j,if_pos l,(g.perm j).length_eq,if_pos r]
   refine ⟨by rw[d,f],?_⟩;unfold j4 eo;rw[d,f];rfl
  ·have m:(aP a b c v).take 401=aP a b c v:=List.take_of_length_le (by omega);have d:gP a b c v=bS (aP a b c v):=by unfold gP;rw[if_pos k,m]
   have f:=qa g j r;refine ⟨by rw[d,f.1],?_⟩;unfold j4;rw[d,m];unfold eo cY;rw[f.1];by_cases e:dz (aP a b c v)=0
   ·simp only[if_pos e]
   ·simp only[if_neg e]
 ·have d:gP a b c v=5:=by unfold gP;rw[if_neg k]
  have f:dz (aP a b c v)=5:=by unfold dz;rw[g.all j,if_neg];intro l;apply k;rw[List.all_eq_true] at l ⊢;intro x h;have:=l x h;simp only[Bool.and_eq_true] at this;exact this.2
  refine ⟨by rw[d,f],?_⟩;unfold j4 eo;rw[d,f];rfl

def gp (a:List Zit) (c:Int):List Int:=aX (a.map fun x=>atI x.1 c)
def ofK (a:List Zit) (c key:Int):List Zit:=a.filter fun y=>decide (atI y.1 c=key)
theorem pJ (c:Int):∀(m:List Zit) (G:List (Int×List Zit)),∀g∈m.foldl (fun g x=>eN g (atI x.1 c) x) G,(∃z∈G,z.1=g.1)\/∃x∈m,atI x.1 c=g.1
 | [],G,g,hg=>oL ⟨g,hg,rfl⟩
 | y::m,G,g,hg=>by
  rcases pJ c m (eN G (atI y.1 c) y) g hg with ⟨z,d,e⟩|⟨x,hx,e⟩
  ·rcases qj _ _ _ _ d with k|⟨z2,h2,k⟩
   ·exact oR ⟨y,mS ..,by rw[<-e,k]⟩
   ·exact oL ⟨z2,h2,by rw[k,e]⟩
  ·exact oR ⟨x,mC _ hx,e⟩
theorem pL (a:List Zit) (c:Int):(fW a c).Perm ((gp a c).map fun d=>(d,ofK a c d)):=by
 have u:=lM a c;have e:fW a c=((fW a c).map (·.1)).map fun d=>(d,ofK a c d):=by
  rw[List.map_map];conv=>lhs;rw[<-List.map_id (fW a c)]
  refine List.map_congr_left fun g f=> ?_;exact Prod.ext rfl (u.pick g f)
 rw[e];refine List.Perm.map _ ?_;obtain ⟨m,n⟩:=eL (a.map fun x=>atI x.1 c);refine (List.perm_ext_iff_of_nodup (List.pairwise_map.2 u.uniq) (List.Pairwise.imp (fun {x y} (h:x<y) (e:x=y)=>by omega) m)).2 fun k=> ?_;rw[n];constructor
 ·intro j;obtain ⟨g,f,rfl⟩:=List.mem_map.1 j;rcases pJ c a [] g f with ⟨z,r,_⟩|⟨x,l,e⟩
  ·cases r
  ·exact List.mem_map.2 ⟨x,l,e⟩
 ·intro j;obtain ⟨x,l,rfl⟩:=List.mem_map.1 j;obtain ⟨g,f,e⟩:=u.all x l;exact List.mem_map.2 ⟨g,f,e⟩
theorem pK {f:Int×List Zit->Option Zit} (l:∀g z,f g=some z->z.2=1/\∃n,z.1=[g.1,n]) {a:List Zit} (h4:a.length<=400) (c:Int) :
  bS ((fW a c).filterMap f)=dz ((gp a c).filterMap fun d=>f (d,ofK a c d))/\cY ((fW a c).filterMap f)=eo ((gp a c).filterMap fun d=>f (d,ofK a c d)):=by
 have hp:((fW a c).filterMap f).Perm ((gp a c).filterMap fun d=>f (d,ofK a c d)):=by have:=(pL a c).filterMap f;rwa [List.filterMap_map] at this
 have F:Dis ((fW a c).filterMap f):=by refine List.pairwise_filterMap.2 (List.Pairwise.imp (fun {g h} (r:g.1≠h.1) x u y hy e=>r ?_) (lM a c).uniq);obtain ⟨_,n,j⟩:=l g x u;obtain ⟨_,m,k⟩:=l h y hy;rw[j,k] at e;injection e
 have hz:NoZ ((fW a c).filterMap f):=fun x u=>by obtain ⟨g,_,e⟩:=List.mem_filterMap.1 u;rw[(l g x e).1];decide
 have R:¬ 400<((fW a c).filterMap f).length:=by
  have h1:=List.length_filterMap_le f (fW a c);have E:=(pL a c).length_eq;rw[List.length_map] at E;have h3:(gp a c).length<=a.length:=by unfold gp;have:=di (a.map fun x=>atI x.1 c);rwa [List.length_map] at this
  omega
 obtain ⟨j,k⟩:=qa F hz R;obtain ⟨C,D⟩:=tr hp;exact ⟨j.trans C,k.trans D⟩
theorem uR:∀g z,gE g=some z->z.2=1/\∃n,z.1=[g.1,n]:=fun g z h=>by
 unfold gE at h
 split at h
 ·cases h
 ·injection h with h;subst h;exact ⟨rfl,_,rfl⟩
theorem xy (v:Int):∀g z,gT v g=some z->z.2=1/\∃n,z.1=[g.1,n]:=fun g z h=>by
 unfold gT at h
 split at h
 ·cases h
 ·injection h with h;subst h;exact ⟨rfl,_,rfl⟩

def cI (s:Stp) (a b:List Zit):List Zit:=if s.k=2 then bM a s.c s.o s.v else if s.k=3 then dj a s.l else if s.k=4 then aP a b s.c s.v else if s.k=5 then a++b else if s.k=6 then a++cW b else if s.k=7 then de a else if s.k=8 then (gp a s.c).filterMap (fun key=>gE (key,ofK a s.c key)) else (gp a s.c).filterMap fun key=>gT s.v (key,ofK a s.c key)
def gx (s:Stp) (a b:List Zit) (S:List (List Zit)):List Zit:=if s.k=1 then jy s a b else cI s (bm S s.a) (bm S s.b)
theorem AW {s:Stp} {c:List Int} (h:aB s c≠0) (k:s.k=4):c.getD s.a.toNat 0+c.getD s.b.toNat 0<=8:=by rw[zj k] at h;obtain ⟨d,_⟩:=bW h;simp only[Bool.and_eq_true,decide_eq_true_eq] at d;omega
theorem qc {d r:List Int} (h:d.length<=8) (f:okR r=true):okR (cK d r)=true:=by unfold okR cK;simp only[Bool.and_eq_true,decide_eq_true_eq,List.all_eq_true,List.length_map];refine ⟨h,fun x g=> ?_⟩;obtain ⟨c,_,rfl⟩:=List.mem_map.1 g;exact mi f
theorem wI {x y:List Int} (f:x.length+y.length<=8) (c:okR x=true) (d:okR y=true):okR (x++y)=true:=by unfold okR at c d ⊢;simp only[Bool.and_eq_true,decide_eq_true_eq] at c d ⊢;exact ⟨by rw[List.length_append];exact f,by rw[List.all_append,c.2,d.2];rfl⟩
theorem un {s:Stp} {E:List Int} {S:List (List Zit)} {a b:List Zit} (h:aB s E≠0) (g:Ahd S E) (ha:am a=0) (hb:am b=0):aK s a b S=dz (gx s a b S)/\aJ s a b S=eo (gx s a b S):=by
 have d:∀ {l:List Zit},am l=0->¬ 400<l.length/\∀x∈l,okR x.1=true/\okW x.2=true:=fun {l} e=>by obtain ⟨h1,D,_⟩:=(aQ l).1 e;exact ⟨by omega,fun x j=>⟨(bg (D x j)).1,(bg (D x j)).2.1⟩⟩
 rcases kinds h with k|k|k|k|k|k|k|k|k
 ·have e:am (jy s a b)=0:=by unfold jy;split<;>assumption
  have:=iI (d e).1 (d e).2;simpa[aK,aJ,gx,k] using this
 ·obtain ⟨_,_,e,_⟩:=g.at (tM h k).1;have hl:=List.length_filter_le (fun x=>toB (atI x.1 s.c) s.o s.v) (bm S s.a);have:=iI (m:=bM (bm S s.a) s.c s.o s.v) (by have:=(d e).1;unfold bM;omega) fun x j=>(d e).2 x (List.mem_filter.1 j).1;simpa[aK,aJ,gx,cI,dS,k] using this
 ·obtain ⟨r,u,_⟩:=rC h k;obtain ⟨_,_,e,_⟩:=g.at r;have:=iI (m:=dj (bm S s.a) s.l) (by have:=(d e).1;unfold dj;rw[List.length_map];exact this) fun x j=>by obtain ⟨y,n,rfl⟩:=List.mem_map.1 j;exact ⟨qc u ((d e).2 y n).1,((d e).2 y n).2⟩
  simpa[aK,aJ,gx,cI,dS,k] using this
 ·obtain ⟨r,u,_,_,p5⟩:=rD h k;obtain ⟨_,_,e,R⟩:=g.at r;obtain ⟨_,_,f,w2⟩:=g.at u;have hw:=AW h k;have:=tj e f R s.c s.v fun x j=>by unfold aP at j;obtain ⟨y,n,D⟩:=List.mem_flatMap.1 j;obtain ⟨z,hz,rfl⟩:=List.mem_map.1 D;have C:=(List.mem_filter.1 hz).1;exact wI (by have h3:=R y n;have h4:=w2 z C;omega) ((d e).2 y n).1 ((d f).2 z C).1
  simpa[aK,aJ,gx,cI,k] using this
 ·obtain ⟨r,u,_⟩:=wT h k;obtain ⟨_,_,e,_⟩:=g.at r;obtain ⟨_,_,f,_⟩:=g.at u;have:=oT e f;simpa[aK,aJ,gx,cI,k] using this
 ·obtain ⟨r,u,_⟩:=wU h k;obtain ⟨_,_,e,_⟩:=g.at r;obtain ⟨_,_,f,_⟩:=g.at u;have f2:am (cW (bm S s.b))=0:=sj f;have:=oT e f2;have F:lY (bm S s.a) (bm S s.b)=dz (bm S s.a++cW (bm S s.b)):=by unfold lY;rw[if_pos f];exact this.1
  have e2:oE (bm S s.a) (bm S s.b)=eo (bm S s.a++cW (bm S s.b)):=by
   unfold oE;rw[F,this.2];unfold eo;by_cases z:dz (bm S s.a++cW (bm S s.b))=0
   ·simp only[if_pos z]
   ·simp only[if_neg z]
  simpa[aK,aJ,gx,cI,k] using And.intro F e2
 ·obtain ⟨_,_,e,_⟩:=g.at (yN h k).1;have hl:=List.length_filter_le (fun x:Zit=>decide (0<x.2)) (bm S s.a);have:=iI (m:=de (bm S s.a)) (by have:=(d e).1;unfold de;rw[List.length_map];omega) fun x j=>by obtain ⟨y,n,rfl⟩:=List.mem_map.1 j;exact ⟨((d e).2 y (List.mem_filter.1 n).1).1,rfl⟩
  simpa[aK,aJ,gx,cI,dS,k] using this
 ·obtain ⟨_,_,e,_⟩:=g.at (tN h k).1;have:=pK uR (a:=bm S s.a) (by have:=(d e).1;omega) s.c;simpa[aK,aJ,gx,cI,dS,jD,k] using this
 ·obtain ⟨_,_,e,_⟩:=g.at (tO h k).1;have:=pK (xy s.v) (a:=bm S s.a) (by have:=(d e).1;omega) s.c;simpa[aK,aJ,gx,cI,dS,um,k] using this
section
open Go.Maps

theorem wo {l:List Itm} {k:Nat} (h:k<l.length):cW ((l.take (k+1)).map Itm.z)=cW ((l.take k).map Itm.z)++[(l[k].r,-l[k].n)]:=by unfold cW;rw[List.take_succ_eq_append_getElem h,List.map_append,List.map_append];rfl
theorem yQ (l:List Itm) (A:Option N) (c:Nat) (w:T) (hl:l.length<=400) (hw:∀x∈l,okW x.n=true) (hr:Items w A l) :
  Q Y 110 #[I A l.length c] w fun e w'=>∃(L:List Itm) (C:Option N) (k:Nat),e= U (I C L.length k)/\L.map Itm.z=cW (l.map Itm.z)/\Lv w' C k L/\jb2 w w'/\∀y∈L,∃x∈l,y=⟨x.p,x.c,x.r,-x.n⟩:=by
 have an:=ja2 hr hw;go_enter Tryz.func110,Tryz.ntmps110;go_wp2;go_loopw [3,4] (fun u i wr=>∃(k:Nat) (L:List Itm),k<=l.length/\i= J V k/\H (L.length=k/\L.map Itm.z=cW ((l.take k).map Itm.z)/\(∀y∈L,∃x∈l,y=⟨x.p,x.c,x.r,-x.n⟩)/\ae aE 2 101 wr w.heap.size u L/\jb2 w wr)) (fun _ i _=>l.length-(intOf i).toNat);exact ⟨0,[],nZ _,rfl,rfl,rfl,fun x hx=>(by cases hx),ae.nil _ _ _ _ _,bR _ _⟩;obtain ⟨k,L,hk,rfl,j⟩:=hrel;by_cases ad:k<l.length
 ·have a1:(k:Int)<(l.length:Int):=by omega
  have hI:=ja1 (an.out.1.below j.out.2.2.2.2);obtain ⟨D,f,rfl,hb,a5⟩:=hI.out.at ad;obtain ⟨x,hx⟩:=jb0 (l[k]);obtain ⟨e0,e1⟩:=a5 k ad;rw[hx] at e0 e1;have a9:H (cW ((l.take (k+1)).map Itm.z)=cW ((l.take k).map Itm.z)++[(x.r,-x.n)]):=by show _=_;rw[wo ad,hx]
  have a2:x∈l:=by rw[<-hx];exact gM ad
  have bc:=ja1 a2;have a3:=an.out.2 x a2;have bl:wrap64 (-x.n)= -x.n:=by simp only[okW,inB,Bool.and_eq_true,decide_eq_true_eq] at a3;unfold wrap64;omega
  have bd:IntKind.i64.wrap (-x.n)= -x.n:=by simp only[okW,inB,Bool.and_eq_true,decide_eq_true_eq] at a3;rw[IntKind.wrap_i64];omega
  have m:H (Gr wr wr.drew):=(gR _).drew;have d:H (∀W',Gr wr W'->(fun w'=>jb1 w' D (f+k*2) (I x.p x.r.length x.c)/\jb1 w' D (f+k*2+1) (J V x.n)) W'):=fun W' h=>⟨(h.cell (p:=(jb5 D (f+k*2))) hb).trans e0,(h.cell (p:=(jb5 D (f+k*2+1))) hb).trans e1⟩;have g:H (ae aE 2 101 (wr.drew.alloc (Z #[I x.p x.r.length x.c,J V (-x.n)] 101)) w.heap.size u3 L/\aC aE 2 (wr.drew.alloc (Z #[I x.p x.r.length x.c,J V (-x.n)] 101)) (jb4 wr.drew.heap.size 0) [(⟨x.p,x.c,x.r,-x.n⟩:Itm)]/\L.length+1<=maxLen/\(L.length+1)*32<=140737488355328/\jb2 w (wr.drew.alloc (Z #[I x.p x.r.length x.c,J V (-x.n)] 101))):=by have be:=j.out.1;have hg:Gr wr (wr.drew.alloc (Z #[I x.p x.r.length x.c,J V (-x.n)] 101)):=m.out.alloc _;exact ⟨j.out.2.2.2.1.gr hg,bV rfl (⟨x.p,x.c,x.r,-x.n⟩:Itm) _,by unfold maxLen;omega,by omega,j.out.2.2.2.2.trans (hg.below.mono j.out.2.2.2.2.size)⟩
  have ak:H (∀W',(wr.drew.alloc (Z #[I x.p x.r.length x.c,J V (-x.n)] 101)).grownBy W' u3.ownBlock->(fun w'=>jb1 w' D (f+k*2) (I x.p x.r.length x.c)/\jb1 w' D (f+k*2+1) (J V x.n)) W'):=fun W' h=>by have aL:jb2 w W':=g.out.2.2.2.2.trans (g.out.1.grown_below h g.out.2.2.2.2.size);obtain ⟨b0,o0,h0,E,bh⟩:=an.out.1.at ad;cases h0;have h1:=aL.cell (p:=(jb5 D (f+k*2))) E;have h2:=j.out.2.2.2.2.cell (p:=(jb5 D (f+k*2))) E;have h3:=aL.cell (p:=(jb5 D (f+k*2+1))) E;have h4:=j.out.2.2.2.2.cell (p:=(jb5 D (f+k*2+1))) E;exact ⟨(h1.trans h2.symm).trans e0,(h3.trans h4.symm).trans e1⟩
  go_wp2;refine wp_region_noPanic ?_;refine wp_region_held_drew (S:=(fun w'=>jb1 w' D (f+k*2) (I x.p x.r.length x.c)/\jb1 w' D (f+k*2+1) (J V x.n))) (by kernel_rfl) (d.out _ m.out) (fun hHeld=> ?_);refine tks [0,1,2,3,4,5,6,7,8,9,10,11,12] (by assumption) ?_;iterate 13 (refine tk (v:= ?_) (by rfl) (by kernel_rfl) ?_ ?_;rotate_left;· (refine oL ⟨by rfl,?_⟩;intro w ap;(try dsimp only at ap);go_simp<;>with_reducible rfl);try simp only[Act.put,yA,kh,yS])
  refine tk0 ?_;refine wpAnyH_ready (rs:=[13]) (by kernel_rfl) (by simp) ?_;refine AllReadyH.cons (o:= ?ois14) ?hops14 (fun K hK=> ?steps14) ?mores14;case hops14=>(simp only[zA,z0',zS];rfl)
  case mores14=>exact AllReadyH.nil
  go_simp;refine hK.out _ _ ?_ (fun hHeld=> ?_)
  ·(try dsimp only);first|with_reducible exact d.out _ m.out|exact d.out _ (m.out.alloc _)|with_reducible exact d.out _ (m.out.alloc _)|exact a0.out
  refine wpAnyH_ready (rs:=[14]) (by kernel_rfl) (by simp) ?_;refine AllReadyH.cons (o:= ?ois15) ?hops15 (fun K hK=> ?steps15) ?mores15;case hops15=>(simp only[zA,z0',zS];rfl)
  case mores15=>exact AllReadyH.nil
  (refine fY _ rfl (.tmp 11) (.tmp 24) rfl w.heap.size u3 L (⟨x.p,x.c,x.r,-x.n⟩:Itm) (jb5 wr.drew.heap.size 0) 1 rfl rfl g.out.1 g.out.2.1 g.out.2.2.1 g.out.2.2.2.1 g.out.2.2.2.2.size ?_;intro v4 w4 ah R _;have a0:H ((fun w'=>jb1 w' D (f+k*2) (I x.p x.r.length x.c)/\jb1 w' D (f+k*2+1) (J V x.n)) w4):=ak.out w4 R;have F:H ((L++[(⟨x.p,x.c,x.r,-x.n⟩:Itm)]).length=k+1/\(L++[(⟨x.p,x.c,x.r,-x.n⟩:Itm)]).map Itm.z=cW ((l.take (k+1)).map Itm.z)/\(∀y∈L++[(⟨x.p,x.c,x.r,-x.n⟩:Itm)],∃x∈l,y=⟨x.p,x.c,x.r,-x.n⟩)/\ae aE 2 101 w4 w.heap.size v4 (L++[(⟨x.p,x.c,x.r,-x.n⟩:Itm)])/\jb2 w w4):=⟨by have:=j.out.1;simp;omega,by rw[a9.out,List.map_append,j.out.2.1];rfl,fun y hy=>(by rcases List.mem_append.1 hy with h|h;exact j.out.2.2.1 y h;exact ⟨x,bc.out,List.mem_singleton.1 h⟩),ah,g.out.2.2.2.2.trans (g.out.1.grown_below R g.out.2.2.2.2.size)⟩;clear ah R);refine hK.out _ _ ?_ (fun hHeld=> ?_)
  ·(try dsimp only);first|with_reducible exact d.out _ m.out|exact d.out _ (m.out.alloc _)|with_reducible exact d.out _ (m.out.alloc _)|exact a0.out
  refine tks [15] (by assumption) ?_;iterate 1 (refine tk (v:= ?_) (by rfl) (by kernel_rfl) ?_ ?_;rotate_left;· (refine oL ⟨by rfl,?_⟩;intro w ap;(try dsimp only at ap);go_simp<;>with_reducible rfl);try simp only[Act.put,yA,kh,yS])
  refine tk0 ?_;refine wpAnyH_done (by kernel_rfl) ?_ _;refine NoPanic.normal ?_;go_wp2;go_roundw;exact ⟨k+1,L++[(⟨x.p,x.c,x.r,-x.n⟩:Itm)],by omega,by go_num,F⟩;simp[intOf];omega
 ·have a1:¬(k:Int)<(l.length:Int):=by omega
  have a7:l.take k=l:=List.take_of_length_le (by omega);obtain ⟨A2,ao,ba,a8,a6,a4,_,_⟩:=ae.full bO j.out.2.2.2.1;have F:H (L.map Itm.z=cW (l.map Itm.z)/\Lv wr A2 ao L/\jb2 w wr/\∀y∈L,∃x∈l,y=⟨x.p,x.c,x.r,-x.n⟩):=by refine ⟨by have:=j.out.2.1;rw[a7] at this;exact this,⟨⟨a6,fun y hy=> ?_⟩,dC.mk a8 a4,by have:=j.out.1;unfold maxLen;omega⟩,j.out.2.2.2.2,j.out.2.2.1⟩;obtain ⟨x,hx,rfl⟩:=j.out.2.2.1 y hy;exact (an.out.1.below j.out.2.2.2.2).each x hx
  subst ba;go_wp2;go_ret;exact ⟨L,A2,ao,rfl,F.out⟩
end

structure StAt (w:T) (X:Nat) (s:Stp):Prop where
 lt:X<w.heap.size
 c0:w.cell? ⟨X,0,none⟩=some (J V s.k)
 c3:w.cell? ⟨X,3,none⟩=some (J V s.c)
 c4:w.cell? ⟨X,4,none⟩=some (J V s.o)
 c5:w.cell? ⟨X,5,none⟩=some (J V s.v)
 c6:w.cell? ⟨X,6,none⟩=some (I s.p s.l.length s.n)
theorem StAt.below {w w':T} {X:Nat} {s:Stp} (h:StAt w X s) (k:jb2 w w'):StAt w' X s :=
 ⟨nL h.lt k.size,(k.cell (p:=(jb5 X 0)) h.lt).trans h.c0,(k.cell (p:=(jb5 X 3)) h.lt).trans h.c3,(k.cell (p:=(jb5 X 4)) h.lt).trans h.c4,(k.cell (p:=(jb5 X 5)) h.lt).trans h.c5,(k.cell (p:=(jb5 X 6)) h.lt).trans h.c6⟩
theorem StAt.new (w:T) (s:Stp):StAt (w.alloc (Z (ja8 s) 132)) w.heap.size s :=
 ⟨by simp,ab (w:=w) (gR _) rfl,ab (w:=w) (gR _) rfl,ab (w:=w) (gR _) rfl,ab (w:=w) (gR _) rfl,ab (w:=w) (gR _) rfl⟩
theorem wJ:aX []=[]:=List.eq_nil_of_length_eq_zero (by have:=di [];simpa using this)
theorem nD (w:T):Q Y 111 #[I none 0 0] w fun e w'=>∃C c,e= U (I C 0 c)/\jb2 w w':=by refine (js [] none 0 w (oL rfl) (fun _=>rfl) (by simp)).mono ?_;rintro e w' ⟨C,c,rfl,_,h⟩;exact ⟨C,c,by rw[wJ];rfl,h⟩

theorem AP (s:Stp) (a b:List Itm) (A B:Option N) (ca cb:Nat) (w:T) (hk:s.k=7) (hl:a.length<=400) (ha:Items w A a) :
  Q Y 74 #[.agg (ja8 s),I A a.length ca,I B b.length cb] w fun e w'=>∃(L:List Itm) (C:Option N) (k:Nat),e= U (I C L.length k)/\L.map Itm.z=de (a.map Itm.z)/\Items w' C L/\P w.heap.size w w':=by
 have ah:=StAt.new w s;have R:Gr w (w.alloc (Z (ja8 s) 132)):=(gR w).alloc _;obtain ⟨g,a8⟩:=jb0 (w.alloc (Z (ja8 s) 132));rw[a8] at ah R;obtain ⟨X,hX⟩:=jb0 w.heap.size;have hH:H (StAt g X s/\Gr w g/\Items g A a/\s.k=7/\w.heap.size=X):=⟨hX▸ah,R,ha.gr R,hk,hX⟩;clear ah R ha hk;go_enter Tryz.func74,Tryz.ntmps74;go_wp2;go_loopw [7,8,9] (fun u v i wr=>∃(k:Nat) (L:List Itm),k<=a.length/\i= J V k/\v= I none 0 0/\H (L.length<=k/\L.map Itm.z=de ((a.take k).map Itm.z)/\(∀y∈L,∃x∈a,y=⟨x.p,x.c,x.r,1⟩)/\ae aE 2 101 wr g.heap.size u L/\P g.heap.size g wr)) (fun _ _ i _=>a.length-(intOf i).toNat);exact ⟨0,[],nZ _,rfl,rfl,nR _,rfl,fun x hx=>(by cases hx),ae.nil _ _ _ _ _,bR _ _⟩;obtain ⟨k,L,hk,rfl,rfl,f⟩:=hrel;have ak:=ja1 (hH.out.1.below f.out.2.2.2.2);by_cases ad:k<a.length
 ·have ap:(k:Int)<(a.length:Int):=by omega
  have hI:=ja1 (hH.out.2.2.1.below f.out.2.2.2.2);obtain ⟨bb,bc,rfl,hb,a1⟩:=hI.out.at ad;obtain ⟨x,hx⟩:=jb0 (a[k]);obtain ⟨e0,e1⟩:=a1 k ad;rw[hx] at e0 e1;have aL:H (de ((a.take (k+1)).map Itm.z)=de ((a.take k).map Itm.z)++(if 0<x.n then [(x.r,1)] else [])):=by show _=_;rw[nj ad,hx]
  have a9:H (x∈a):=by show _∈_;rw[<-hx];exact gM ad
  have F:H (Gr wr (wr.alloc (Z #[I x.p x.r.length x.c,J V x.n] 101))):=(gR _).alloc _;have k0:(wr.alloc (Z #[I x.p x.r.length x.c,J V x.n] 101)).cell? ⟨X,0,none⟩=some (J V 7):=by rw[F.out.cell (p:=⟨X,0,none⟩) ak.out.lt,ak.out.c0,hH.out.2.2.2.1]
  by_cases hn:0<x.n
  ·have l:H (ae aE 2 101 ((wr.alloc (Z #[I x.p x.r.length x.c,J V x.n] 101)).alloc (Z #[I x.p x.r.length x.c,J V 1] 101)) g.heap.size u7 L/\aC aE 2 ((wr.alloc (Z #[I x.p x.r.length x.c,J V x.n] 101)).alloc (Z #[I x.p x.r.length x.c,J V 1] 101)) (jb4 (wr.heap.size+1) 0) [(⟨x.p,x.c,x.r,1⟩:Itm)]/\L.length+[(⟨x.p,x.c,x.r,1⟩:Itm)].length<=maxLen/\(L.length+[(⟨x.p,x.c,x.r,1⟩:Itm)].length)*32<=140737488355328/\P g.heap.size g ((wr.alloc (Z #[I x.p x.r.length x.c,J V x.n] 101)).alloc (Z #[I x.p x.r.length x.c,J V 1] 101))):=(by have ba:=f.out.1;exact ⟨f.out.2.2.2.1.gr (F.out.alloc _),bV (by simp) ⟨x.p,x.c,x.r,1⟩ _,by unfold maxLen;simp;omega,by simp;omega,f.out.2.2.2.2.trans ((F.out.alloc _).below.mono f.out.2.2.2.2.size)⟩);go_wp2_with (at_builtin;refine bA _ rfl _ _ rfl g.heap.size u7 L [(⟨x.p,x.c,x.r,1⟩:Itm)] (jb4 (wr.heap.size+1) 0) 1 rfl rfl l.out.1 l.out.2.1 (fun h=>by cases h) l.out.2.2.1 l.out.2.2.2.1 l.out.2.2.2.2.size ?_;intro v3 w3 an a2);have j:H ((L++[(⟨x.p,x.c,x.r,1⟩:Itm)]).length<=k+1/\(L++[(⟨x.p,x.c,x.r,1⟩:Itm)]).map Itm.z=de ((a.take (k+1)).map Itm.z)/\(∀y∈L++[(⟨x.p,x.c,x.r,1⟩:Itm)],∃x∈a,y=⟨x.p,x.c,x.r,1⟩)/\ae aE 2 101 w3 g.heap.size v3 (L++[(⟨x.p,x.c,x.r,1⟩:Itm)])/\P g.heap.size g w3):=by
    refine ⟨by have:=f.out.1;simp;omega,by rw[aL.out,if_pos hn,List.map_append,f.out.2.1];rfl,fun y hy=> ?_,an,l.out.2.2.2.2.trans (l.out.1.grown_below a2 l.out.2.2.2.2.size)⟩;rcases List.mem_append.1 hy with h|h
    ·exact f.out.2.2.1 y h
    ·exact ⟨x,a9.out,List.mem_singleton.1 h⟩
   go_wp2;go_roundw;exact ⟨k+1,L++[(⟨x.p,x.c,x.r,1⟩:Itm)],by omega,by go_num,rfl,j⟩;simp[intOf];omega
  ·have j:H (L.length<=k+1/\L.map Itm.z=de ((a.take (k+1)).map Itm.z)/\(∀y∈L,∃x∈a,y=⟨x.p,x.c,x.r,1⟩)/\ae aE 2 101 (wr.alloc (Z #[I x.p x.r.length x.c,J V x.n] 101)) g.heap.size u7 L/\P g.heap.size g (wr.alloc (Z #[I x.p x.r.length x.c,J V x.n] 101))) :=
    ⟨by have:=f.out.1;omega,by rw[aL.out,if_neg hn,List.append_nil];exact f.out.2.1,f.out.2.2.1,f.out.2.2.2.1.gr F.out,f.out.2.2.2.2.trans (F.out.below.mono f.out.2.2.2.2.size)⟩
   go_wp2;go_roundw;exact ⟨k+1,L,by omega,by go_num,rfl,j⟩;simp[intOf];omega
 ·have ap:¬(k:Int)<(a.length:Int):=by omega
  have a4:a.take k=a:=List.take_of_length_le (by omega);have k0:wr.cell? ⟨X,0,none⟩=some (J V 7):=by rw[ak.out.c0,hH.out.2.2.2.1]
  have j:H (L.map Itm.z=de (a.map Itm.z)/\∃D d,u7= I D L.length d/\Items wr D L/\P w.heap.size w wr):=by obtain ⟨D,d,a7,_,a3,_,_,_⟩:=ae.full bO f.out.2.2.2.1;refine ⟨by have:=f.out.2.1;rw[a4] at this;exact this,D,d,a7,⟨a3,fun y hy=> ?_⟩,hH.out.2.1.below.trans (f.out.2.2.2.2.mono hH.out.2.1.below.size)⟩;obtain ⟨x,hx,rfl⟩:=f.out.2.2.1 y hy;exact (hH.out.2.2.1.below f.out.2.2.2.2).each x hx
  have a5:=nD wr;have a6:H _:=a5;go_wp2_with fail;refine ja0 a6 ?_;rintro e w4 ⟨C,cp,rfl,ao⟩;have E:H (L.map Itm.z=de (a.map Itm.z)/\∃D d,u7= I D L.length d/\Items w4 D L/\P w.heap.size w w4):=by obtain ⟨h1,D,d,h2,h3,h4⟩:=j.out;exact ⟨h1,D,d,h2,h3.below ao,h4.trans (ao.mono h4.size)⟩
  go_wp2;obtain ⟨uu,a0⟩:=jb0 u7;rw[a0] at E;go_loopw [7,15] (fun u i wq=>u=uu/\i= J V 0/\wq=w4) (fun _ _ _=>0);exact ⟨a0,rfl,rfl⟩;obtain ⟨rfl,rfl,rfl⟩:=hrel;obtain ⟨h1,D,d,rfl,h3,h4⟩:=E.out;have m:=ja3 h1 h3 h4;go_wp2;go_ret;exact ⟨L,D,d,rfl,m.out.1,m.out.2.1,m.out.2.2⟩

theorem rt (O:Int) (hO:O=1\/O=2\/O=3) (s:Stp) (a b:List Itm) (A B:Option N) (ca cb:Nat) (w:T) (hk:s.k=2) (hl:a.length<=400) (ha:Items w A a) (ho:s.o=O) (hc:∀x∈a,inB s.c 0 ((x.r.length:Int)-1)=true) :
  Q Y 74 #[.agg (ja8 s),I A a.length ca,I B b.length cb] w fun e w'=>∃(L:List Itm) (C:Option N) (k:Nat),e= U (I C L.length k)/\L.map Itm.z=bM (a.map Itm.z) s.c O s.v/\Items w' C L/\P w.heap.size w w':=by
 have a1:=StAt.new w s;have ap:Gr w (w.alloc (Z (ja8 s) 132)):=(gR w).alloc _;obtain ⟨l,bh⟩:=jb0 (w.alloc (Z (ja8 s) 132));rw[bh] at a1 ap;obtain ⟨X,hX⟩:=jb0 w.heap.size;have hH:H (StAt l X s/\Gr w l/\Items l A a/\s.k=2/\w.heap.size=X/\s.o=O/\∀x∈a,inB s.c 0 ((x.r.length:Int)-1)=true):=⟨hX▸a1,ap,ha.gr ap,hk,hX,ho,hc⟩;clear a1 ap ha hk ho hc;have a5:=ja1 hO;go_enter Tryz.func74,Tryz.ntmps74;go_wp2;clear bh hX;go_loopw [7,8,9] (fun u v i wr=>∃(k:Nat) (L:List Itm),k<=a.length/\i= J V k/\v= I none 0 0/\H (L.length<=k/\L.map Itm.z=bM ((a.take k).map Itm.z) s.c O s.v/\(∀y∈L,y∈a)/\ae aE 2 101 wr l.heap.size u L/\P l.heap.size l wr)) (fun _ _ i _=>a.length-(intOf i).toNat);exact ⟨0,[],nZ _,rfl,rfl,nR _,rfl,fun x hx=>(by cases hx),ae.nil _ _ _ _ _,bR _ _⟩;obtain ⟨k,L,hk,rfl,rfl,f⟩:=hrel;have g:=ja1 (hH.out.1.below f.out.2.2.2.2);by_cases aL:k<a.length
 ·have ba:(k:Int)<(a.length:Int):=by omega
  have hI:=ja1 (hH.out.2.2.1.below f.out.2.2.2.2);obtain ⟨bb,b2,rfl,hb,a7⟩:=hI.out.at aL;obtain ⟨x,hx⟩:=jb0 (a[k]);obtain ⟨e0,e1⟩:=a7 k aL;rw[hx] at e0 e1;have a0:x∈a:=by rw[<-hx];exact gM aL
  obtain ⟨E,F,cn,hp,bs,a6,bl,R⟩:=dA (hI.out.each x a0).1 (hH.out.2.2.2.2.2.2 x a0);have a4:H (bM ((a.take (k+1)).map Itm.z) s.c O s.v=bM ((a.take k).map Itm.z) s.c O s.v++(if toB (atI x.r s.c) O s.v=true then [x.z] else [])):=by show _=_;rw[mF aL,hx]
  have bv:=ja1 a0;obtain ⟨nn,bc⟩:=jb0 (atI x.r s.c);rw[bc] at R a4;rw[hp] at e0;have j:H (Gr wr (wr.alloc (Z #[I (some ⟨E,F,none⟩) x.r.length x.c,J V x.n] 101))):=(gR _).alloc _;have y0:(wr.alloc (Z #[I (some ⟨E,F,none⟩) x.r.length x.c,J V x.n] 101)).cell? ⟨E,F+cn,none⟩=some (J V nn):=(j.out.cell (p:=⟨E,F+cn,none⟩) bs).trans R;have k0:(wr.alloc (Z #[I (some ⟨E,F,none⟩) x.r.length x.c,J V x.n] 101)).cell? ⟨X,0,none⟩=some (J V 2):=by rw[j.out.cell (p:=⟨X,0,none⟩) g.out.lt,g.out.c0,hH.out.2.2.2.1]
  have k3:(wr.alloc (Z #[I (some ⟨E,F,none⟩) x.r.length x.c,J V x.n] 101)).cell? ⟨X,3,none⟩=some (J V (cn:Int)):=by rw[j.out.cell (p:=⟨X,3,none⟩) g.out.lt,g.out.c3,a6]
  have k4:(wr.alloc (Z #[I (some ⟨E,F,none⟩) x.r.length x.c,J V x.n] 101)).cell? ⟨X,4,none⟩=some (J V O):=by rw[j.out.cell (p:=⟨X,4,none⟩) g.out.lt,g.out.c4,hH.out.2.2.2.2.2.1]
  have k5:(wr.alloc (Z #[I (some ⟨E,F,none⟩) x.r.length x.c,J V x.n] 101)).cell? ⟨X,5,none⟩=some (J V s.v):=by rw[j.out.cell (p:=⟨X,5,none⟩) g.out.lt,g.out.c5]
  have bN:(cn:Int)<(x.r.length:Int):=by omega
  have bp:=ja1 hp;clear a7 hx a0 bc hp R bl a6;obtain ⟨tt,bd⟩:=jb0 (toB nn O s.v);have ah:=ja1 bd;clear bd;cases tt
  ·have a3:=ah.out
   have m:H (L.length<=k+1/\L.map Itm.z=bM ((a.take (k+1)).map Itm.z) s.c O s.v/\(∀y∈L,y∈a)/\ae aE 2 101 (wr.alloc (Z #[I (some ⟨E,F,none⟩) x.r.length x.c,J V x.n] 101)) l.heap.size u7 L/\P l.heap.size l (wr.alloc (Z #[I (some ⟨E,F,none⟩) x.r.length x.c,J V x.n] 101))) :=
    ⟨by have:=f.out.1;omega,by rw[a4.out,ah.out];simpa using f.out.2.1,f.out.2.2.1,f.out.2.2.2.1.gr j.out,f.out.2.2.2.2.trans (j.out.below.mono f.out.2.2.2.2.size)⟩
   rcases a5.out with h|h|h;all_goals
    rw[h] at k4 a3;simp[toB] at a3;try have b0:=beq_eq_false_iff_ne.2 a3
    go_wp2;go_roundw;exact ⟨k+1,L,by omega,by go_num,rfl,m⟩;simp[intOf];omega
  ·have ao:=ah.out;have D:H (ae aE 2 101 ((wr.alloc (Z #[I (some ⟨E,F,none⟩) x.r.length x.c,J V x.n] 101)).alloc (Z #[I (some ⟨E,F,none⟩) x.r.length x.c,J V x.n] 101)) l.heap.size u7 L/\aC aE 2 ((wr.alloc (Z #[I (some ⟨E,F,none⟩) x.r.length x.c,J V x.n] 101)).alloc (Z #[I (some ⟨E,F,none⟩) x.r.length x.c,J V x.n] 101)) (some ⟨wr.heap.size+1,0,none⟩) [x]/\L.length+[x].length<=maxLen/\(L.length+[x].length)*32<=140737488355328/\P l.heap.size l ((wr.alloc (Z #[I (some ⟨E,F,none⟩) x.r.length x.c,J V x.n] 101)).alloc (Z #[I (some ⟨E,F,none⟩) x.r.length x.c,J V x.n] 101))):=by have bG:=f.out.1;have h1:[x].length=1:=rfl;refine ⟨f.out.2.2.2.1.gr (j.out.alloc _),?_,by unfold maxLen;omega,by omega,f.out.2.2.2.2.trans ((j.out.alloc _).below.mono f.out.2.2.2.2.size)⟩;rw[<-bp.out];exact bV (by simp) x _
   rcases a5.out with h|h|h;all_goals
    rw[h] at k4 ao;simp[toB] at ao;try have b1:=beq_iff_eq.2 ao
    go_wp2_with (at_builtin;refine bA _ rfl _ _ rfl l.heap.size u7 L [x] (some ⟨wr.heap.size+1,0,none⟩) 1 rfl rfl D.out.1 D.out.2.1 (fun h=>by cases h) D.out.2.2.1 D.out.2.2.2.1 D.out.2.2.2.2.size ?_;intro v3 w3 an a8);have m:H ((L++[x]).length<=k+1/\(L++[x]).map Itm.z=bM ((a.take (k+1)).map Itm.z) s.c O s.v/\(∀y∈L++[x],y∈a)/\ae aE 2 101 w3 l.heap.size v3 (L++[x])/\P l.heap.size l w3):=by
     refine ⟨by have:=f.out.1;simp;omega,by rw[a4.out,ah.out,List.map_append,f.out.2.1];rfl,fun y hy=> ?_,an,D.out.2.2.2.2.trans (D.out.1.grown_below a8 D.out.2.2.2.2.size)⟩;rcases List.mem_append.1 hy with h|h
     ·exact f.out.2.2.1 y h
     ·rw[List.mem_singleton.1 h];exact bv.out
    clear an a8;go_wp2;go_roundw;exact ⟨k+1,L++[x],by omega,by go_num,rfl,m⟩;simp[intOf];omega
 ·have ba:¬(k:Int)<(a.length:Int):=by omega
  have a9:a.take k=a:=List.take_of_length_le (by omega);have k0:wr.cell? ⟨X,0,none⟩=some (J V 2):=by rw[g.out.c0,hH.out.2.2.2.1]
  have m:H (L.map Itm.z=bM (a.map Itm.z) s.c O s.v/\∃A2 d,u7= I A2 L.length d/\Items wr A2 L/\P w.heap.size w wr):=by obtain ⟨A2,d,bt,_,bo,_,_,_⟩:=ae.full bO f.out.2.2.2.1;refine ⟨by have:=f.out.2.1;rw[a9] at this;exact this,A2,d,bt,⟨bo,fun y hy=> ?_⟩,hH.out.2.1.below.trans (f.out.2.2.2.2.mono hH.out.2.1.below.size)⟩;exact (hH.out.2.2.1.below f.out.2.2.2.2).each y (f.out.2.2.1 y hy)
  clear a9;go_wp2_with fail;refine cM (show Q _ _ _ _ _ from nD wr) ?_;rintro e w4 ⟨C4,bC,rfl,a2⟩;have ak:H (L.map Itm.z=bM (a.map Itm.z) s.c O s.v/\∃A2 d,u7= I A2 L.length d/\Items w4 A2 L/\P w.heap.size w w4):=by obtain ⟨h1,A2,d,h2,h3,h4⟩:=m.out;exact ⟨h1,A2,d,h2,h3.below a2,h4.trans (a2.mono h4.size)⟩
  clear a2;go_wp2;obtain ⟨uu,be⟩:=jb0 u7;rw[be] at ak;go_loopw [7,15] (fun u i wq=>u=uu/\i= J V 0/\wq=w4) (fun _ _ _=>0);exact ⟨be,rfl,rfl⟩;obtain ⟨rfl,rfl,rfl⟩:=hrel;obtain ⟨h1,A2,d,rfl,h3,h4⟩:=ak.out;have ad:=ja3 h1 h3 h4;clear h1 h3 h4;go_wp2;go_ret;exact ⟨L,A2,d,rfl,ad.out.1,ad.out.2.1,ad.out.2.2⟩
end Go.Proofs.YtbkjgjjpnfhkhaaGreatDoor
