import Derived.ChangeKeysEq
import Derived.Test.YtbkjgjjpnfhkhaaGreatDoorM04
set_option maxRecDepth 100000
set_option maxHeartbeats 8000000
open Go renaming World → J, Calls → Y, Addr → K, Value → L
open Go.Ending renaming returned → H
open Go.IntKind renaming i64 → I
open Go.Obj renaming cells → Z
open Go.Proofs.Tryz renaming prog → S
open Go.Value renaming int → V, slice → O, agg → X, bool → U, pointer → P, tuple → N
namespace Go.Proofs.YtbkjgjjpnfhkhaaGreatDoor
open Go.RowKit Go.Sort

theorem pa (x y:Int×Int):bj x y=true↔x.1<y.1\/(x.1=y.1/\x.2<y.2):=by simp[bj]
theorem gC {x y z:Int×Int} (h:bj x y=true) (k:bj y z=true):bj x z=true:=by rw[pa] at *;omega
theorem pb (x:Int×Int):bj x x=false:=by simp[bj]
theorem iA {x y:Int×Int} (h:bj x y=true):x≠y:=by rintro rfl;rw[pb] at h;cases h
theorem nF (x y:Int×Int):eM x y=0↔x=y:=by
 obtain ⟨a,b⟩:=x;obtain ⟨c,d⟩:=y;unfold eM bf;simp only[Prod.mk.injEq];constructor
 ·intro h;by_cases f:a<c
  ·simp[f] at h
  ·by_cases g:c<a
   ·simp[f,g] at h
   ·by_cases j:b<d
    ·simp[f,g,j] at h
    ·by_cases k:d<b
     ·simp[f,g,j,k] at h
     ·omega
 ·rintro ⟨rfl,rfl⟩;simp
theorem CelAt.G {w:J} {B:Nat} {x:Cel} (h:CelAt w B x):(∀n c,jb1 (grow (w.drewN n) c) B 0 (V I x.1.1))/\(∀n c,jb1 (grow (w.drewN n) c) B 1 (V I x.1.2))/\(∀n c,jb1 (grow (w.drewN n) c) B 2 (V I x.2.1))/\(∀n c,jb1 (grow (w.drewN n) c) B 3 (V I x.2.2.1))/\(∀n c,jb1 (grow (w.drewN n) c) B 4 (V I x.2.2.2)) :=
 ⟨cell_grown (a:=(jb5 B 0)) h.lt h.k0,cell_grown (a:=(jb5 B 1)) h.lt h.k1,cell_grown (a:=(jb5 B 2)) h.lt h.k2,cell_grown (a:=(jb5 B 3)) h.lt h.k3,cell_grown (a:=(jb5 B 4)) h.lt h.k4⟩

def Asc (l:List Cel):Prop:=l.Pairwise fun x y=>bj x.1 y.1=true
def bY (l:List Cel) (d:Int×Int):Bool:=l.any fun y=>decide (y.1=d)

theorem vX {l:List Cel} {d:Int×Int} {a:Nat} (C:Asc l) (n:∀k (h:k<l.length),k<a->bj l[k].1 d=true) (r:∀k (h:k<l.length),a<=k->bj l[k].1 d=false) :
  bY l d=decide (∃h:a<l.length,l[a].1=d):=by
 by_cases f:∃h:a<l.length,l[a].1=d
 ·rw[decide_eq_true f];obtain ⟨h,e⟩:=f;unfold bY;rw[List.any_eq_true];exact ⟨l[a],gM h,by simpa using e⟩
 ·rw[decide_eq_false f];unfold bY;rw[List.any_eq_false];intro y D u;have c:y.1=d:=by simpa using u
  obtain ⟨k,g,rfl⟩:=List.getElem_of_mem D;by_cases j:k<a
  ·exact iA (n k g j) c
  ·by_cases e:k=a
   ·subst e;exact f ⟨g,c⟩
   ·have m:=(List.pairwise_iff_getElem.1 C) a k (by omega) g (by omega);rw[c,r a (by omega) (Nat.le_refl _)] at m;cases m

theorem ki (l:List Cel) (A:Option K) (cap:Nat) (x:Cel) (w:J) (hl:l.length<=400) (hr:av w A l) (hs:Asc l) :
  Y S 88 #[O A l.length cap,X #[V I x.1.1,V I x.1.2,V I x.2.1,V I x.2.2.1,V I x.2.2.2],.func (.func 86) #[] #[]] w fun e w'=>∃i:Nat,e= H (N #[V I i,U (bY l x.1)])/\(bY l x.1=true->∃h:i<l.length,l[i].1=x.1)/\Gr w w':=by
 have d:Tryz.prog.follows .mixedOrders=true:=by kernel_rfl
 have a3:CelAt (w.alloc (Z #[V I x.1.1,V I x.1.2,V I x.2.1,V I x.2.2.1,V I x.2.2.2] 91)) w.heap.size x:=CelAt.new x 91 rfl;have an:Gr w (w.alloc (Z #[V I x.1.1,V I x.1.2,V I x.2.1,V I x.2.2.1,V I x.2.2.2] 91)):=(gR w).alloc _;have ao:=ja1 hs;go_enter Tryz.func88,Tryz.ntmps88;go_wp2;generalize w.alloc (Z #[V I x.1.1,V I x.1.2,V I x.2.1,V I x.2.2.1,V I x.2.2.2] 91)=w0 at a3 an ⊢;go_loopw [9,10] (fun i j wr=>∃a b:Nat,a<=b/\b<=l.length/\i= V I a/\j= V I b/\Hid ((∀k (h:k<l.length),k<a->bj l[k].1 x.1=true)/\(∀k (h:k<l.length),b<=k->bj l[k].1 x.1=false))/\Gr w0 wr) (fun i j _=>(intOf j).toNat-(intOf i).toNat);exact ⟨0,l.length,by omega,by omega,rfl,rfl,⟨fun k _ h=>absurd h (Nat.not_lt_zero _),fun k h1 h2=>by omega⟩,gR _⟩;obtain ⟨a,b,a8,a4,rfl,rfl,r,E⟩:=hrel;have a7:=a3.gr E;obtain ⟨x0,x1,x2,x3,x4⟩:=a7.G;by_cases bc:a<b
 ·have a1:(a:Int)<(b:Int):=by omega
  obtain ⟨h,hh⟩:=jb0 ((a+b) / 2);have a5:a<=h:=by omega
  have ad:h<l.length:=by omega
  obtain ⟨C,f,rfl,D,ak⟩:=av.get (hr.gr (an.trans E)) ad;obtain ⟨y,hy⟩:=jb0 (l[h]);obtain ⟨e0,e1,e2,e3,e4⟩:=ak h ad;rw[hy] at e0 e1 e2 e3 e4;have q0:=cell_grown (a:=(jb5 C (f+h*5))) D e0;have q1:=cell_grown (a:=(jb5 C (f+h*5+1))) D e1;have q2:=cell_grown (a:=(jb5 C (f+h*5+2))) D e2;have q3:=cell_grown (a:=(jb5 C (f+h*5+3))) D e3;have q4:=cell_grown (a:=(jb5 C (f+h*5+4))) D e4;have F:=ja1 hy;have hz:((a:Int)+(b:Int)) / 2=(h:Int):=by omega
  cases n:bj y.1 x.1
  ·have a0:=iq n;go_wp2;refine wp_region_quiet_grown d (by kernel_rfl) ?_;repeat (go_big_quiet_step ((go_at_call 86;refine Calls.grown_of (gw rfl _))))
   refine wpQuiet_nil ?_;rintro _ ⟨⟨m,c⟩,rfl⟩;go_wp2;go_roundw;case rel =>
    refine ⟨a,h,a5,by omega,rfl,rfl,⟨r.out.1,fun k hk a9=> ?_⟩,E.trans ⟨m,c,rfl⟩⟩;by_cases e:k=h
    ·subst e;rw[F.out];exact n
    ·have:=(List.pairwise_iff_getElem.1 ao.out) h k ad hk (by omega);rw[F.out] at this;cases a6:bj l[k].1 x.1
     ·rfl
     ·rw[gC this a6] at n;cases n
   case measure=>simp[intOf];omega
  ·have a0:=ip n;go_wp2;refine wp_region_quiet_grown d (by kernel_rfl) ?_;repeat (go_big_quiet_step ((go_at_call 86;refine Calls.grown_of (gw a0 _))))
   refine wpQuiet_nil ?_;rintro _ ⟨⟨m,c⟩,rfl⟩;go_wp2;go_roundw;case rel =>
    refine ⟨h+1,b,by omega,a4,by go_num,rfl,⟨fun k hk ba=> ?_,r.out.2⟩,E.trans ⟨m,c,rfl⟩⟩;by_cases e:k=h
    ·subst e;rw[F.out];exact n
    ·have:=(List.pairwise_iff_getElem.1 ao.out) k h hk ad (by omega);rw[F.out] at this;exact gC this n
   case measure=>simp[intOf];omega
 ·have a1:¬(a:Int)<(b:Int):=by omega
  obtain rfl:a=b:=by omega
  have u:=vX ao.out r.out.1 r.out.2;have ah:Gr w wr:=an.trans E;by_cases R:a<l.length
  ·have ap:(a:Int)<(l.length:Int):=(by omega);obtain ⟨C,f,rfl,D,ak⟩:=av.get (hr.gr ah) R;obtain ⟨y,hy⟩:=jb0 (l[a]);obtain ⟨e0,e1,e2,e3,e4⟩:=ak a R;rw[hy] at e0 e1 e2 e3 e4;have q0:=cell_grown (a:=(jb5 C (f+a*5))) D e0;have q1:=cell_grown (a:=(jb5 C (f+a*5+1))) D e1;have q2:=cell_grown (a:=(jb5 C (f+a*5+2))) D e2;have q3:=cell_grown (a:=(jb5 C (f+a*5+3))) D e3;have q4:=cell_grown (a:=(jb5 C (f+a*5+4))) D e4;have F:=ja1 hy;by_cases hq:y.1=x.1
   ·have a2:=(nF y.1 x.1).2 hq;have g:Hid (bY l x.1=true/\∃h:a<l.length,l[a].1=x.1):=by have aL:∃h:a<l.length,l[a].1=x.1:=⟨R,by rw[hy];exact hq⟩;exact ⟨by rw[u];exact decide_eq_true aL,aL⟩
    clear u hq hy;go_wp2;refine wp_region_quiet_grown d (by kernel_rfl) ?_;repeat (go_big_quiet_step ((go_at_call 86;refine Calls.grown_of (gw a2 _))))
    refine wpQuiet_nil ?_;rintro _ ⟨⟨m,c⟩,rfl⟩;go_wp2;go_ret2;rw[g.out.1];exact ⟨a,rfl,fun _=>g.out.2,ah.trans ⟨m,c,rfl⟩⟩
   ·have a2:(eM y.1 x.1==0)=false:=beq_eq_false_iff_ne.2 (fun h=>hq ((nF y.1 x.1).1 h));have g:Hid (bY l x.1=false):=by show bY l x.1=false;rw[u];refine decide_eq_false ?_;rintro ⟨_,h⟩;rw[hy] at h;exact hq h
    clear u hq hy;go_wp2;refine wp_region_quiet_grown d (by kernel_rfl) ?_;repeat (go_big_quiet_step ((go_at_call 86;refine Calls.grown_of (gw rfl _))))
    refine wpQuiet_nil ?_;rintro _ ⟨⟨m,c⟩,rfl⟩;go_wp2;go_ret2;rw[g.out];exact ⟨a,rfl,(fun h=>by cases h),ah.trans ⟨m,c,rfl⟩⟩
  ·have ap:¬(a:Int)<(l.length:Int):=(by omega);have g:Hid (bY l x.1=false):=by show bY l x.1=false;rw[u];refine decide_eq_false ?_;rintro ⟨h,_⟩;exact R h
   clear u;go_wp2;refine wp_region_quiet_grown d (by kernel_rfl) ?_;repeat (go_big_quiet_step (fail))
   refine wpQuiet_nil ?_;rintro _ ⟨⟨m,c⟩,rfl⟩;go_wp2;go_ret2;rw[g.out];exact ⟨a,rfl,(fun h=>by cases h),ah.trans ⟨m,c,rfl⟩⟩


theorem Tryz.info3:(Tryz.prog.info? 3).map (fun i=>(i.zero,i.size,i.bytes))=some (some (V I 0),1,8):=by kernel_rfl

def mY (a b c d a' b' c' d':Int):Bool:=decide ((a,b,c,d)=(a',b',c',d'))

theorem Ay (a b c d f g h j:Int) (w:J):(binOp .eql 29 (X #[V I a,V I b,V I c,V I d]) (X #[V I f,V I g,V I h,V I j])).run S w= .ok (U (mY a b c d f g h j)) w:=by
 unfold mY;obtain ⟨E,hi,u,C,D⟩:=info_parts Tryz.info3;have k:Tryz.prog.cellsOf 3=1:=by kernel_rfl
 rw[run_eql_struct,show (10000:Nat)=9998+1+1 from rfl,run_equalIn_array w (9998+1) _ _ Tryz.underlying29 hi,k];simp only[show List.range 4=[0,1,2,3] from rfl,Op.eqItems];go_simp;by_cases l:a=f<;>by_cases m:b=g<;>by_cases n:c=h<;>by_cases r:d=j<;>simp[l,m,n,r]

def i6 (c d:Ctx):Bool:=mY c.c0 c.c1 c.c2 c.c3 d.c0 d.c1 d.c2 d.c3 && eqL c.l d.l

theorem mv (c d:Ctx) (A B:Option K) (cap g:Nat) (w:J) (k:c.l.length<=maxLen) (m:d.l.length<=maxLen) (n:Row w A c.l) (r:Row w B d.l) :
  Y S 18 #[X (ja7 c A cap),X (ja7 d B g)] w fun e w'=>e= H (U (i6 c d))/\Gr w w':=by
 have u:=Ay;cases h:mY c.c0 c.c1 c.c2 c.c3 d.c0 d.c1 d.c2 d.c3
 ·have f:Hid (i6 c d=false):=by show i6 c d=false;unfold i6;rw[h];rfl
  go_enter Tryz.func18,Tryz.ntmps18;go_wp2;go_ret;rw[f.out];exact ⟨rfl,((gR _).alloc _).alloc _⟩
 ·have f:Hid (i6 c d=eqL c.l d.l):=by show i6 c d=_;unfold i6;rw[h];rfl
  go_enter Tryz.func18,Tryz.ntmps18;go_wp2_with fail;refine (sU c.l d.l A B cap g _ k m (n.gr (((gR _).alloc _).alloc _)) (r.gr (((gR _).alloc _).alloc _))).mono ?_;rintro e w' ⟨rfl,j⟩;go_wp2;go_ret;rw[f.out];exact ⟨rfl,br (br j)⟩


def ge (x y:Cel):Bool:=decide (x=y)
theorem fi {x y:Cel}:ge x y=true↔x=y:=by simp[ge]

theorem yl (x y:Cel) (w:J):(Op.equalIn 10000 91 (X #[V I x.1.1,V I x.1.2,V I x.2.1,V I x.2.2.1,V I x.2.2.2]) (X #[V I y.1.1,V I y.1.2,V I y.2.1,V I y.2.2.1,V I y.2.2.2])).run S w= .ok (ge x y) w:=by
 obtain ⟨⟨c,d⟩,f,g,h⟩:=x;obtain ⟨⟨j,k⟩,l,m,n⟩:=y;have F:Tryz.prog.underlying 91=some (.struct (Tryz.prog.fieldsOf 91)):=by kernel_rfl
 have R:Tryz.prog.stoodInHeld 91=false:=by kernel_rfl
 rw[show (10000:Nat)=9999+1 from rfl,run_equalIn_agg w 9999 91 _ _ F R];simp only[Program.fieldsOf,Tryz.underlying91];go_simp;by_cases r:c=j<;>by_cases u:d=k<;>by_cases C:f=l<;>by_cases D:g=m<;>by_cases E:h=n<;>simp[ge,r,u,C,D,E]

theorem ry (x y:Cel) (w:J):(binOp .neq 91 (X #[V I x.1.1,V I x.1.2,V I x.2.1,V I x.2.2.1,V I x.2.2.2]) (X #[V I y.1.1,V I y.1.2,V I y.2.1,V I y.2.2.1,V I y.2.2.2])).run S w= .ok (U (!ge x y)) w:=by rw[run_neq_struct,yl];rfl
theorem pM (c:BinOp) (p q:Operand) (x y:Cel) (w:J):(eqGuard c 91 p q (X #[V I x.1.1,V I x.1.2,V I x.2.1,V I x.2.2.1,V I x.2.2.2]) (X #[V I y.1.1,V I y.1.2,V I y.2.1,V I y.2.2.1,V I y.2.2.2])).run S w= .ok () w :=
 run_eqGuard_agg w c 91 p q _ _ (by kernel_rfl)

def jE (l m:List Cel):Bool:=decide (l=m)

theorem qV (l m:List Cel) (A B:Option K) (cap R:Nat) (w:J) (hl:l.length<=maxLen) (hm:m.length<=maxLen) (hr:av w A l) (hs:av w B m) :
  Y S 70 #[O A l.length cap,O B m.length R] w fun e w'=>e= H (U (jE l m))/\Gr w w':=by
 unfold maxLen at hl hm;have hE:=ry;by_cases f:l.length=m.length
 ·have ak:((l.length:Int) != (m.length:Int))=false:=by rw[f];simp
  have r:=ja1 f;go_enter Tryz.func70,Tryz.ntmps70;go_wp2;go_loopw [13] (fun i wr=>∃k:Nat,k<=l.length/\i= V I k/\Hid (∀j (h:j<l.length) (h':j<m.length),j<k->l[j]=m[j])/\Gr w wr) (fun i _=>l.length-(intOf i).toNat);exact ⟨0,nZ _,rfl,fun j _ _ hj=>absurd hj (Nat.not_lt_zero _),gR _⟩;obtain ⟨k,hk,rfl,D,d⟩:=hrel;by_cases u:k<l.length
  ·have C:(k:Int)<(l.length:Int):=(by omega);have g:k<m.length:=by have:=r.out;omega
   obtain ⟨bb,a1,rfl,hb,ad⟩:=av.get (hr.gr d) u;obtain ⟨ap,ao,rfl,aL,n⟩:=av.get (hs.gr d) g;obtain ⟨e0,e1,e2,e3,e4⟩:=ad k u;obtain ⟨f0,f1,f2,f3,f4⟩:=n k g;obtain ⟨x,hx⟩:=jb0 (l[k]);obtain ⟨y,hy⟩:=jb0 (m[k]);rw[hx] at e0 e1 e2 e3 e4;rw[hy] at f0 f1 f2 f3 f4;have E:=ja1 hx;have F:=ja1 hy;cases hq:ge x y
   ·have c:Hid (jE l m=false):=(by show jE l m=false;simp only[jE,decide_eq_false_iff_not];intro h;subst h;have:x=y:=E.out.symm.trans F.out;rw[fi.2 this] at hq;cases hq);go_wp2;go_quiet (fail);go_wp2;go_ret;rw[c.out];exact ⟨rfl,d.trans ⟨nq,#[],by rw[grow_empty]⟩⟩
   ·have an:=ja1 (E.out.trans ((fi.1 hq).trans F.out.symm));go_wp2;go_quiet (fail);go_wp2;go_roundw;case rel =>
     refine ⟨k+1,by omega,by go_num,?_,d.trans ⟨nq,#[],by rw[grow_empty]⟩⟩;intro j hj ah a0;by_cases e:j=k
     ·subst e;exact an
     ·exact D j hj ah (by omega)
    case measure=>simp[intOf];omega
  ·have C:¬(k:Int)<(l.length:Int):=(by omega);have c:Hid (jE l m=true):=by show jE l m=true;simp only[jE,decide_eq_true_eq];exact List.ext_getElem r.out fun j h1 h2=>D j h1 h2 (by omega)
   go_wp2;go_ret;rw[c.out];exact ⟨rfl,d⟩
 ·have ak:((l.length:Int) != (m.length:Int))=true:=by simp;omega
  have c:Hid (jE l m=false):=by show jE l m=false;simp only[jE,decide_eq_false_iff_not];intro h;exact f (by rw[h])
  go_enter Tryz.func70,Tryz.ntmps70;go_wp2;go_ret;rw[c.out];exact ⟨rfl,gR _⟩

def jw (s t:Tab):Bool:=i6 s.c t.c && jE s.e t.e

theorem nS (s t:Tab) (A B C D:Option K) (ca cb cc cd:Nat) (w:J) (ah:s.c.l.length<=maxLen) (an:t.c.l.length<=maxLen) (ad:s.e.length<=maxLen) (ak:t.e.length<=maxLen) (hr:Row w A s.c.l) (hs:Row w C t.c.l) (R:av w B s.e) (n:av w D t.e) :
  Y S 34 #[X (T6 s A ca B cb).toArray,X (T6 t C cc D cd).toArray] w fun e w'=>e= H (U (jw s t))/\Gr w w':=by
 have F:Gr w ((w.alloc (Z #[V I s.c.c0,V I s.c.c1,V I s.c.c2,V I s.c.c3,O A s.c.l.length ca,O B s.e.length cb] 35)).alloc (Z #[V I t.c.c0,V I t.c.c1,V I t.c.c2,V I t.c.c3,O C t.c.l.length cc,O D t.e.length cd] 35)):=((gR _).alloc _).alloc _;have g:TabAt ((w.alloc (Z #[V I s.c.c0,V I s.c.c1,V I s.c.c2,V I s.c.c3,O A s.c.l.length ca,O B s.e.length cb] 35)).alloc (Z #[V I t.c.c0,V I t.c.c1,V I t.c.c2,V I t.c.c3,O C t.c.l.length cc,O D t.e.length cd] 35)) w.heap.size s A ca B cb:=(TabAt.new 35 hr R rfl).gr ((gR _).alloc _);have j:TabAt ((w.alloc (Z #[V I s.c.c0,V I s.c.c1,V I s.c.c2,V I s.c.c3,O A s.c.l.length ca,O B s.e.length cb] 35)).alloc (Z #[V I t.c.c0,V I t.c.c1,V I t.c.c2,V I t.c.c3,O C t.c.l.length cc,O D t.e.length cd] 35)) (w.heap.size+1) t C cc D cd:=TabAt.new 35 (hs.gr ((gR _).alloc _)) (n.gr ((gR _).alloc _)) (by simp);have hc:=mv s.c t.c A C ca cc _ ah an g.row j.row;have r:Hid _:=hc;go_enter Tryz.func34,Tryz.ntmps34;go_wp2_with fail;refine ja0 r ?_;rintro e w1 ⟨rfl,f⟩;have h:=g.gr f;have k:=j.gr f;have m:Gr w w1:=F.trans f;cases hq:i6 s.c t.c
 ·have d:Hid (jw s t=false):=by show jw s t=false;unfold jw;rw[hq];rfl
  go_wp2;go_ret;rw[d.out];exact ⟨rfl,m⟩
 ·have d:Hid (jw s t=jE s.e t.e):=by show jw s t=_;unfold jw;rw[hq];rfl
  have s5:=h.k5;have t5:=k.k5;have he:=qV s.e t.e B D cb cd w1 ad ak h.rowC k.rowC;have u:Hid _:=he;go_wp2_with fail;refine ja0 u ?_;rintro e w2 ⟨rfl,E⟩;go_wp2;go_ret;rw[d.out];exact ⟨rfl,m.trans E⟩

theorem mu (t:Tab):jw t t=true:=by unfold jw i6 mY eqL jE;simp

def clP (l:List Cel) (x:Cel):Bool:=l.any fun y=>decide (y.1=x.1) && !ge y x

theorem uG {l:List Cel} (d:Asc l) {i j:Nat} (hi:i<l.length) (c:j<l.length) (h:l[i].1=l[j].1):i=j:=by
 rcases Nat.lt_trichotomy i j with h1|h1|h1
 ·have:=(List.pairwise_iff_getElem.1 d) i j hi c h1;exact absurd h (iA this)
 ·exact h1
 ·have:=(List.pairwise_iff_getElem.1 d) j i c hi h1;exact absurd h.symm (iA this)
theorem uO {l:List Cel} {x:Cel} (g:Asc l) {i:Nat} (hi:i<l.length) (h:l[i].1=x.1):clP l x= !ge l[i] x:=by
 cases d:ge l[i] x
 ·unfold clP;show _=true;rw[List.any_eq_true];exact ⟨l[i],gM hi,by rw[d];simpa using h⟩
 ·unfold clP;show _=false;rw[List.any_eq_false];intro y k;obtain ⟨j,f,rfl⟩:=List.getElem_of_mem k;by_cases c:l[j].1=x.1
  ·obtain rfl:=uG g hi f (h.trans c.symm);rw[d];simp
  ·simp[c]
theorem pi {l:List Cel} {x:Cel} (h:bY l x.1=false):clP l x=false:=by unfold bY at h;rw[List.any_eq_false] at h;unfold clP;rw[List.any_eq_false];intro y d;have:=h y d;simp at this ⊢;intro c;exact absurd c this

theorem qJ (l:List Cel) (B:Option K) (cb:Nat) (p:Nat) (x:Cel) (w:J) (hl:l.length<=400) (hp:p<w.heap.size) (kp:jb1 w p 0 (O B l.length cb)) (hr:av w B l) (hs:Asc l) :
  Y S 87 #[X #[V I x.1.1,V I x.1.2,V I x.2.1,V I x.2.2.1,V I x.2.2.2],P (jb4 p 0)] w fun e w'=>e= H (U (clP l x))/\Gr w w':=by
 have f:Tryz.prog.follows .mixedOrders=true:=by kernel_rfl
 have ak:CelAt (w.alloc (Z #[V I x.1.1,V I x.1.2,V I x.2.1,V I x.2.2.1,V I x.2.2.2] 91)) w.heap.size x:=CelAt.new x 91 rfl;have r:Gr w (w.alloc (Z #[V I x.1.1,V I x.1.2,V I x.2.1,V I x.2.2.1,V I x.2.2.2] 91)):=(gR w).alloc _;go_enter Tryz.func87,Tryz.ntmps87;go_wp2_with fail;refine (ki l B cb x _ hl (hr.gr r) hs).mono ?_;rintro e w1 ⟨i,rfl,hf,u⟩;have d:Gr w w1:=r.trans u;have ao:jb1 w1 p 0 (O B l.length cb):=(d.cell (p:=(jb5 p 0)) hp).trans kp;have ad:p<w1.heap.size:=nL hp d.size;have an:=ak.gr u;have ah:=hr.gr d;cases hm:bY l x.1
 ·have c:=ja1 (pi hm);go_wp2;refine wp_region_quiet_grown f (by kernel_rfl) ?_;repeat (go_big_quiet_step (fail))
  refine wpQuiet_nil ?_;rintro _ ⟨⟨j,h⟩,rfl⟩;go_wp2;go_ret;rw[c.out];exact ⟨rfl,d.trans ⟨j,h,rfl⟩⟩
 ·obtain ⟨hi,hd⟩:=hf hm;have c:=ja1 (uO hs hi hd);obtain ⟨k,g,rfl,m,n⟩:=av.get ah hi;obtain ⟨y,hy⟩:=jb0 (l[i]);obtain ⟨C,D,E,F,R⟩:=n i hi;rw[hy] at C D E F R c;have q0:=cell_grown (a:=(jb5 k (g+i*5))) m C;have q1:=cell_grown (a:=(jb5 k (g+i*5+1))) m D;have q2:=cell_grown (a:=(jb5 k (g+i*5+2))) m E;have q3:=cell_grown (a:=(jb5 k (g+i*5+3))) m F;have q4:=cell_grown (a:=(jb5 k (g+i*5+4))) m R;have kG:=cell_grown (a:=(jb5 p 0)) ad ao;obtain ⟨x0,x1,x2,x3,x4⟩:=an.G;have hE:=ry;have hG:=pM;clear C D E F R n hf hd hy hs;go_wp2;refine wp_region_quiet_grown f (by kernel_rfl) ?_;repeat (go_big_quiet_step (fail))
  refine wpQuiet_nil ?_;rintro _ ⟨⟨j,h⟩,rfl⟩;go_wp2;go_ret;rw[c.out];exact ⟨rfl,d.trans ⟨j,h,rfl⟩⟩

theorem sM (a b:List Cel) (A B:Option K) (ca cb:Nat) (w:J) (n:a.length<=400) (f:b.length<=400) (l:av w A a) (m:av w B b) (u:Asc b) :
  Y S 47 #[O A a.length ca,O B b.length cb] w fun e w'=>e= H (U (a.any (clP b)))/\Gr w w':=by
 have d:Gr w (w.alloc (Z #[O B b.length cb] 33)):=(gR w).alloc _;have C:jb1 (w.alloc (Z #[O B b.length cb] 33)) w.heap.size 0 (O B b.length cb):=ab (gR _) rfl;have c:w.heap.size<(w.alloc (Z #[O B b.length cb] 33)).heap.size:=by simp
 have k:rS 87 #[P (jb4 w.heap.size 0)] (clP b) (w.alloc (Z #[O B b.length cb] 33)):=fun W h x =>qJ b B cb w.heap.size x W f (nL c h.size) ((h.cell (p:=(jb5 w.heap.size 0)) c).trans C) (m.gr (d.trans h)) u
 have r:=fG (clP b) 87 #[P (jb4 w.heap.size 0)] (enters_of Tryz.func87 (by kernel_rfl) rfl) a A ca _ (by unfold maxLen;omega) (l.gr d) k;have g:Hid _:=r;go_enter Tryz.func47,Tryz.ntmps47;go_wp2_with fail;refine ja0 g ?_;rintro e D ⟨rfl,j⟩;go_wp2;go_ret;exact ⟨rfl,d.trans j⟩


abbrev cL (w:J) (base:Nat) (v:L) (l:List Cel):Prop:=ae ex 5 91 w base v l
theorem Tryz.infoC:(Tryz.prog.info? 91).map (fun i=>(i.zero,i.size,i.bytes))=some (some (X #[V I 0,V I 0,V I 0,V I 0,V I 0]),5,40):=by kernel_rfl

theorem fx {W:J} {n:Nat} (d:W.heap.size=n) (x:Cel) (T:TypeId):av (W.alloc (Z #[V I x.1.1,V I x.1.2,V I x.2.1,V I x.2.2.1,V I x.2.2.2] T)) (jb4 n 0) [x]:=by
 subst d;refine oR ⟨W.heap.size,0,rfl,by simp,fun j c i hi=> ?_⟩;obtain rfl:j=0:=by simp at c;omega
 match i,hi with
 | 0,_=>exact ab (w:=W) (gR _) (j:=0) rfl
 | 1,_=>exact ab (w:=W) (gR _) (j:=1) rfl
 | 2,_=>exact ab (w:=W) (gR _) (j:=2) rfl
 | 3,_=>exact ab (w:=W) (gR _) (j:=3) rfl
 | 4,_=>exact ab (w:=W) (gR _) (j:=4) rfl

theorem cD (w:J) {ops:Array Oper} {d:List Oper} {o:Oper} {a:Act} {Q:Exit->Act->J->Prop} (k:o.guard=none) (s x:Operand)
  (F:o.op= .call { callee:= .builtin .append,args:= #[s,x],argTypes:= #[33,33] })
  (c:Nat) (v:L) (l m:List Cel) (A:Option K) (cap:Nat) (hs:a.eval s=v) (hx:a.eval x= O A m.length cap) (g:cL w c v l) (R:av w A m) (C:A=none->cap=0)
  (n:l.length+m.length<=maxLen) (E:(l.length+m.length)*40<=140737488355328) (f:c<=w.heap.size)
  (h:∀j w',cL w' c j (l++m)->w.grownBy w' v.ownBlock->wpList S ops Q d (a.put o.dst j) w'):wpList S ops Q (o::d) a w :=
 wpList_plain k fun _ D=>dL cO ji (by omega) 33 Tryz.underlying33 (X #[V I 0,V I 0,V I 0,V I 0,V I 0]) 40 Tryz.infoC rfl w s x F c v l m A cap hs hx g R C n E f fun j w' r u=>D _ _ (h j w' r u)

theorem eV {p:Cel->Bool} {l:List Cel} {k:Nat} (h:k<l.length) {x:Cel} (d:l[k]=x):(l.take (k+1)).filter p=(l.take k).filter p++(if p x then [x] else []):=by rw[List.take_succ_eq_append_getElem h,List.filter_append,d];cases c:p x<;>simp[c]
theorem iE (p:Cel->Bool) (l:List Cel) (k:Nat):((l.take k).filter p).length<=l.length:=nT (List.length_filter_le _ _) (by rw[List.length_take];omega)

section
open Go.Shelf Go.Lib

def mR (l:List Cel):Prop:=∀x∈l,∀y∈l,x.1=y.1->x=y
def fg (x y:Cel):Bool:=bj x.1 y.1
def f9 (l:List Cel):List Cel:=l.mergeSort fun x y=> !fg y x

theorem oZ (x y:Cel):fg x y=true↔x.1.1<y.1.1\/(x.1.1=y.1.1/\x.1.2<y.1.2):=pa _ _
theorem je (x y:Cel):fg x y=false↔y.1.1<x.1.1\/(x.1.1=y.1.1/\y.1.2<=x.1.2):=by simp[fg,bj];omega
theorem B8 {d:Cel->Cel->Int} (c:∀x y,ltOf d x y=fg x y):SWO (ltOf d) where
 irrefl x:=by rw[c];simp[fg,bj]
 trans x y z h1 h2:=by rw[c,oZ] at *;omega
 ntrans x y z h1 h2:=by rw[c,je] at *;omega
theorem eY (l:List Cel):(f9 l).length=l.length:=by simp[f9]
theorem fk (l:List Cel):(f9 l).Perm l:=List.mergeSort_perm _ _
theorem nW (l:List Cel):(f9 l).Pairwise fun x y=>(!fg y x)=true:=by
 refine List.pairwise_mergeSort ?_ ?_ _
 ·intro a b c d f;simp only[Bool.not_eq_true',je] at d f ⊢;omega
 ·intro a b;cases h:fg b a
  ·simp
  ·have:fg a b=false:=(by rw[je];rw[oZ] at h;omega);simp[this]
theorem rW {x y:Cel} (c:(!fg y x)=true) (d:(!fg x y)=true):x.1=y.1:=by simp only[Bool.not_eq_true',je] at c d;exact Prod.ext (by omega) (by omega)
theorem sy {l m:List Cel} (k:mR l) (c:m.Perm l) (j:m.Pairwise fun x y=>(!fg y x)=true):m=f9 l:=by refine List.Perm.eq_of_pairwise (le:=fun x y=>(!fg y x)=true) ?_ j (nW l) (c.trans (fk l).symm);intro a b g h d f;exact k a (c.mem_iff.1 g) b ((fk l).mem_iff.1 h) (rW d f)
theorem qu {l:List Cel} (k:(l.map (·.1)).Nodup):Asc (f9 l):=by
 have c:=nW l;have d:((f9 l).map (·.1)).Nodup:=((fk l).map (·.1)).nodup_iff.2 k;have f:(f9 l).Pairwise fun x y=>x.1≠y.1:=List.pairwise_map.1 d;unfold Asc;refine (c.and f).imp ?_;intro x y ⟨g,h⟩;cases j:bj x.1 y.1
 ·exfalso;refine h (rW g ?_);show (!bj x.1 y.1)=true;rw[j];rfl
 ·rfl

theorem vE {w:J} {g:Nat} {l:List Cel} (h:av w (jb4 g 0) l) (n:∀j,w.frozen? (jb5 g j)=false):HoldsK ex 5 w g 0 l.toArray:=by
 intro t f;rw[size_flatK] at f;rw[get_flatK _ _ _ t f];simp only[List.size_toArray] at f;have d:t / 5<l.length:=by omega
 refine ⟨?_,n _⟩;obtain ⟨b,k,c,u,m⟩:=h.at d;obtain ⟨rfl,rfl⟩:g=b/\0=k:=by injection c with c;injection c with h1 h2;exact ⟨h1,h2⟩
 have e:l.toArray[t / 5]! = l[t / 5]:=by simp[d]
 rw[e];have:=m (t / 5) d (t % 5) (Nat.mod_lt _ (by omega));rw[show 0+t / 5*5+t % 5=0+t from by omega] at this;rw[this];have r:t % 5<5:=Nat.mod_lt _ (by omega);match t % 5,r with
 | 0,_=>rfl
 | 1,_=>rfl
 | 2,_=>rfl
 | 3,_=>rfl
 | 4,_=>rfl

theorem zu {w:J} {g:Nat} {l:List Cel} (h:HoldsK ex 5 w g 0 l.toArray) (d:g<w.heap.size):av w (jb4 g 0) l:=by
 refine oR ⟨g,0,rfl,d,fun j f i hi=> ?_⟩;have c:=(h (j*5+i) (by rw[size_flatK];simp;omega)).1;rw[get_flatK _ _ _ _ (by simp;omega)] at c;rw[show (j*5+i) / 5=j from by omega,show (j*5+i) % 5=i from by omega] at c;have e:l.toArray[j]! = l[j]:=by simp[f]
 rw[e] at c;rw[show 0+j*5+i=0+(j*5+i) from by omega,c];match i,hi with
 | 0,_=>rfl
 | 1,_=>rfl
 | 2,_=>rfl
 | 3,_=>rfl
 | 4,_=>rfl

theorem pd {w:J} {g n c:Nat} {os:Array Obj} {d:Array Cel} (f:c<=g) (j:c<=w.heap.size):Go.RowKit.Below c w (sortWorldK ex 5 w g 0 n d os):=by refine ⟨rfl,rfl,rfl,by simp[sortWorldK,grow,putRowK],fun k h=> ?_⟩;show ((putRowK ex 5 (Sort.ahead w n) g 0 d).heap++os)[k]? = _;rw[Array.getElem?_append_left (by simp[putRowK];omega)];show ((Sort.ahead w n).heap.modify g _)[k]? = _;rw[Array.getElem?_modify,if_neg (by omega)];rfl

theorem Ah {D:Cel->Cel->Int} (u:∀x y,ltOf D x y=fg x y) (d:Nat) (cb:Array L) (eg:∀k w,(callFunc d k).run S w= .ok (.enter d k) w) (g cap:Nat) (l:List Cel) (w:J) (C:CmpLays S d cb ex 5 D g 0 l.length w) (hu:mR l) (hH:HoldsK ex 5 w g 0 l.toArray) (hg:g<w.heap.size) (ak:l.length<4611686018427387904) :
  Y S 56 #[O (jb4 g 0) l.length cap,.func (.func d) #[] cb] w fun e w'=>e= H (N #[])/\av w' (jb4 g 0) (f9 l)/\∀c,c<=g->c<=w.heap.size->Go.RowKit.Below c w w':=by
 have f:=AnyQ.slices_SortFunc Tryz.sortCell 5 Tryz.isAgg91 Tryz.sizeOf91 ex (fun _=>rfl) ji D (B8 u) d cb g 0 cap l.toArray w eg (by simpa using C) hH hg (by simpa using ak);change Y S 56 _ _ _ at f;simp only[List.size_toArray] at f;refine f.mono ?_;rintro e w' ⟨he,m,n,os,hp,hs,hw⟩;obtain ⟨r,_,h⟩:=hp;simp only[List.size_toArray] at r;have e1:m.extract 0 l.length=m:=by rw[<-r];exact Array.extract_size
 have e2:(l.toArray.extract 0 l.length).toList=l:=by simp
 rw[e1,e2] at h;have ah:m.toList.Pairwise fun x y=>(!fg y x)=true:=by
  rw[List.pairwise_iff_getElem];intro i j hi hj R;have F:i<m.size:=by simpa using hi
  have ad:j<m.size:=by simpa using hj
  have:=hs i j (nZ _) R (by omega);rw[getElem!_pos m j ad,getElem!_pos m i F,u] at this;simpa using this
 have hd:m=(f9 l).toArray:=by have:=sy hu h ah;rw[<-this]
 subst hd;refine ⟨he,?_,fun c h1 h2=>by rw[hw];exact pd h1 h2⟩;have E:HoldsK ex 5 w' g 0 (f9 l).toArray:=by rw[hw];refine holdsK_grow _ _ _ _ _ _ _ (by simp[putRowK];exact hg) ?_;exact holdsK_putRowK _ _ _ _ _ l.toArray _ (holdsK_ahead _ _ _ _ _ _ _ hH) (by simp[eY])
 refine zu E ?_;rw[hw];simp[sortWorldK,grow,putRowK];omega

theorem xq {cf:Cel->Cel->Int} (R:∀x y,ltOf cf x y=fg x y) (d:Nat) (cb:Array L) (eg:∀f w,(callFunc d f).run S w= .ok (.enter d f) w) (c:Nat) (v:L) (l:List Cel) (w:J) (n:∀g,CmpLays S d cb ex 5 cf g 0 l.length w) (hu:mR l) (r:cL w c v l) (hb:c<=w.heap.size) (ak:l.length<4611686018427387904) :
  Y S 56 #[v,.func (.func d) #[] cb] w fun e w'=>e= H (N #[])/\(∃C cap,v= O C (f9 l).length cap/\av w' C (f9 l)/\(C=none->cap=0)/\∀a,C=some a->c<=a.block)/\Go.RowKit.Below c w w':=by
 obtain ⟨A,cap,rfl,hA,j,ao,k,ad⟩:=ae.full cO r;by_cases h0:l=[]
 ·subst h0;have h:=AnyF.slices_SortFunc_none Tryz.sortCell A cap (.func (.func d) #[] cb) w;change Y S 56 _ _ _ at h;refine h.mono ?_;rintro e w' ⟨he,rfl⟩;exact ⟨he,⟨A,cap,by simp[f9],oL (by simp[f9]),hA,fun a E=>(k a E).1⟩,bR _ _⟩
 ·have u:0<l.length:=List.length_pos_iff.2 h0;obtain ⟨b,an,D,F,_⟩:=j.at u;subst D;have h5:=k _ rfl;obtain rfl:an=0:=h5.2.2.1;refine (Ah R d cb eg b cap l w (n b) hu (vE j (ad _ rfl)) F ak).mono ?_;rintro e w' ⟨he,ah,m⟩;refine ⟨he,⟨_,cap,by rw[eY],ah,hA,fun a E=>(k a E).1⟩,m c h5.1 hb⟩

theorem AJ (x y:Cel):ltOf (fun x y:Cel=>eM x.1 y.1) x y=fg x y:=by
 unfold ltOf fg;cases h:bj x.1 y.1
 ·have:=iq h;simp;omega
 ·simp[ip h]
theorem zR (c d size:Nat) (w:J):CmpLays S 86 #[] ex 5 (fun x y:Cel=>eM x.1 y.1) c d size w :=
 fun _ _ _ _ x y=>mj x y _

end
end Go.Proofs.YtbkjgjjpnfhkhaaGreatDoor
