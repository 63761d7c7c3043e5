import Derived.Test.YtbkjgjjpnfhkhaaGreatDoorM15
set_option maxRecDepth 100000
set_option maxHeartbeats 8000000
open Go renaming World → Z, Addr → H, Value → T, Calls → M
open Go.Ending renaming returned → K
open Go.IntKind renaming i64 → V
open Go.Obj renaming cells → U
open Go.Proofs.Tryz renaming prog → Y
open Go.Value renaming slice → I, int → J
namespace Go.Proofs.YtbkjgjjpnfhkhaaGreatDoor
open Go.RowKit Go.Sort Go.Maps

theorem qi {q:List Stp} {a b:List Zit} (h:ct q a b=0):(eu q a b).length=q.length/\0<q.length:=by obtain ⟨d,f,g⟩:=gQ h;obtain ⟨j,_,_,k,l⟩:=aT d;obtain ⟨n,_,r⟩:=dO j;obtain ⟨c,u,m⟩:=jA k l q [] [] r Ahd.nil f;rw[g,m];exact ⟨by simp,List.length_pos_iff.2 n⟩
theorem oy {q:List Stp} {a b:List Zit} (h:¬ct q a b=0):el q a b=[]:=by unfold el eu;rw[if_neg h];rfl
theorem Sts.atm {w:Z} {A:Option H} {f:List Sl} {S:List (List Zit)} (h:Sts w A f S) {i:Int} (m:0<=i) (hi:i.toNat<S.length):∃(b c n:Nat) (x:Sl),A=some (jb5 b c)/\b<w.heap.size/\i=n/\n<f.length/\jb1 w b (c+n) (I x.A x.l.length x.cap)/\Lv w x.A x.cap x.l/\x.l.map Itm.z=bm S i/\f[n]? = some x:=by
 have d:i.toNat<f.length:=by have:=congrArg List.length h.z;simp at this;omega
 obtain ⟨b,c,g,j,k⟩:=h.row.at d;refine ⟨b,c,i.toNat,f[i.toNat],g,j,by omega,d,?_,h.each _ (gM d),?_,List.getElem?_eq_getElem d⟩
 ·have:=k i.toNat d 0 (by omega);simpa[dW] using this
 ·unfold bm;rw[<-h.z,List.getD_eq_getElem?_getD,List.getElem?_map,List.getElem?_eq_getElem d];rfl
theorem lI (q:List Stp) (QA:Option H) (cq:Nat) (a b:List Itm) (A B:Option H) (ca cb:Nat) (w:Z) (hl:q.length<=maxLen) (hq:Stps w QA q) (ha:Lv w A ca a) (hb:Lv w B cb b) :
  M Y 99 #[I QA q.length cq,I A a.length ca,I B b.length cb] w fun e w'=>∃(L:List Itm) (C:Option H) (k:Nat),e= K (.tuple #[I C L.length k,J V (ct q (a.map Itm.z) (b.map Itm.z))])/\L.map Itm.z=el q (a.map Itm.z) (b.map Itm.z)/\Lv w' C k L/\jb2 w w'/\NwT w' k w.heap.size C L:=by
 have f:=xT q QA cq a b A B ca cb w hl hq ha hb;obtain ⟨P,R⟩:=jb0 (ct q (a.map Itm.z) (b.map Itm.z));have h:=ja1 R;rw[R] at f ⊢;have hC:Hid _:=f;clear f R hl hq ha hb;go_enter Tryz.func99,Tryz.ntmps99;go_wp2_with fail;refine ja0 hC ?_;rintro e w1 ⟨ss,C,k,rfl,ad,ah,an⟩;have u:=ja2 ad ah;have E:=ja1 an;cases h1:(P != 0)
 ·have g:P=0:=by simpa using h1
  have D:ct q (a.map Itm.z) (b.map Itm.z)=0:=by rw[h.out,g]
  have d:=qi D;have ap:ss.length=q.length:=by have:=congrArg List.length u.out.1.z;simp at this;omega
  obtain ⟨bb,a4,n,x,rfl,aL,hn,a1,a3,j,r,m⟩:=u.out.1.atm (i:=((q.length-1:Nat):Int)) (by omega) (by rw[d.1];omega);have ak:n=q.length-1:=by omega
  have c:=ja2 r j;have F:Hid (NwT w1 x.cap w.heap.size x.A x.l):=E.out.each x (List.mem_of_getElem? m);have ao:=(dO (aT (gQ D).1).1).2.1;have a2:wrap64 (n:Int)=(n:Int):=by unfold wrap64;omega
  have a0:(ss.length:Int)-1=(n:Int):=by omega
  clear j r m hn ak ap d D ao;go_wp2;go_ret2;exact ⟨x.l,x.A,x.cap,by rw[g];rfl,c.out.1,c.out.2,u.out.2,F.out⟩
 ·have c:Hid (el q (a.map Itm.z) (b.map Itm.z)=[]):=oy (by rw[h.out];simpa using h1);go_wp2;go_ret2;exact ⟨[],none,0,rfl,by rw[c.out];rfl,⟨⟨oL rfl,fun x hx=>(by cases hx)⟩,fun _=>rfl,nZ _⟩,u.out.2,NwT.none _ _⟩
theorem vi (q:List Stp) (QA:Option H) (cq:Nat) (a b:List Itm) (A B:Option H) (ca cb:Nat) (w:Z) (l:q.length<=maxLen) (m:Stps w QA q) (h:Lv w A ca a) (j:Lv w B cb b) :
  M Y 99 #[I QA q.length cq,I A a.length ca,I B b.length cb] w fun e w'=>∃(L:List Itm) (C:Option H) (k:Nat),e= K (.tuple #[I C L.length k,J V (ct q (a.map Itm.z) (b.map Itm.z))])/\L.map Itm.z=el q (a.map Itm.z) (b.map Itm.z)/\Lv w' C k L/\jb2 w w' :=
 (lI q QA cq a b A B ca cb w l m h j).mono fun _ _ ⟨L,C,k,c,d,f,g,_⟩=>⟨L,C,k,c,d,f,g⟩

def kC:List Itm->List Itm->Int
 | _,[]=> -1
 | [],_::_=>1
 | x::_,y::_=>aw x.r y.r
theorem wO {a b:List Int} {A B:Option H} {ca cb:Nat} {w:Z} {c:Int} (k:aw a b=c) (d:a.length<=maxLen) (f:aq w A a) (g:aq w B b) (n:Nat) (os:Array Obj) :
  M Y 143 #[I A a.length ca,I B b.length cb] (grow (w.drewN n) os) fun e w'=>e= K (J V c)/\∃q h,w'=grow ((grow (w.drewN n) os).drewN q) h:=by subst k;have j:Gr w (grow (w.drewN n) os):=⟨n,os,rfl⟩;exact fw a b A B ca cb _ d (f.gr j) (g.gr j)

theorem sZ (a b:List Itm) (A B:Option H) (ca cb:Nat) (w:Z) (F:Items w A a) (R:Items w B b) :
  M Y 131 #[I A a.length ca,I B b.length cb] w fun e w'=>e= K (J V (kC a b))/\Gr w w':=by
 have f:Tryz.prog.follows .mixedOrders=true:=by kernel_rfl
 cases b with
 | nil =>
  have e:kC a []= -1:=by cases a<;>rfl
  rw[e];go_enter Tryz.func131,Tryz.ntmps131;go_wp2;go_ret;exact ⟨rfl,gR _⟩
 | cons y u =>
  cases a with
  | nil =>go_enter Tryz.func131,Tryz.ntmps131;go_wp2;go_ret;exact ⟨rfl,gR _⟩
  | cons x t =>
   obtain ⟨D,oa,rfl,g,j⟩:=F.at (k:=0) (by simp);obtain ⟨E,ob,rfl,h,l⟩:=R.at (k:=0) (by simp);have e0:jb1 w D oa (I x.p x.r.length x.c):=by have:=(j 0 (by simp)).1;simpa using this
   have f0:jb1 w E ob (I y.p y.r.length y.c):=(by have:=(l 0 (by simp)).1;simpa using this);have hx:=F.each x (by simp);have hy:=R.each y (by simp);obtain ⟨c,hc⟩:=jb0 (aw x.r y.r);have e:kC (x::t) (y::u)=c:=hc;rw[e];have hO:Hid (∀n d,M Y 143 #[I x.p x.r.length x.c,I y.p y.r.length y.c] (grow (w.drewN n) d) fun e w'=>e= K (J V c)/\∃q m,w'=grow ((grow (w.drewN n) d).drewN q) m):=fun n d=>wO hc hx.2.1 hx.1 hy.1 n d;have g0:∀n d,jb1 (grow (w.drewN n) d) D oa (I x.p x.r.length x.c):=(gR w).cellG g e0;have g1:∀n d,jb1 (grow (w.drewN n) d) E ob (I y.p y.r.length y.c):=(gR w).cellG h f0;go_enter Tryz.func131,Tryz.ntmps131;go_wp2;refine wp_region_quiet_grown f (by kernel_rfl) ?_;repeat (go_big_quiet_step ((go_at_call 143;refine Calls.grown_of (hO.out _ _))))
   refine wpQuiet_nil ?_;rintro _ ⟨⟨nq,C⟩,rfl⟩;go_wp2;go_ret;exact ⟨rfl,⟨nq,C,rfl⟩⟩

def tn:T->Nat
 | I _ n _=>n
 | _=>0
theorem eP (w:Z) {ops:Array Oper} {d:List Oper} {o:Oper} {a:Act} {Q:Exit->Act->Z->Prop} (k:o.guard=none) (s x:Operand)
  (F:o.op= .call { callee:= .builtin .append,args:= #[s,x],argTypes:= #[59,59] })
  (c:Nat) (v:T) (l m:List Itm) (A:Option H) (cap:Nat) (hs:a.eval s=v) (hx:a.eval x= I A m.length cap) (g:ae aE 2 101 w c v l) (R:aC aE 2 w A m) (C:A=none->cap=0)
  (n:l.length+m.length<=maxLen) (E:(l.length+m.length)*32<=140737488355328) (f:c<=w.heap.size)
  (h:∀j w',ae aE 2 101 w' c j (l++m)->w.grownBy w' v.ownBlock->wpList Y ops Q d (a.put o.dst j) w'):wpList Y ops Q (o::d) a w :=
 wpList_plain k fun _ D=>dL bO gh (by omega) 59 Tryz.underlying59 (.agg #[I none 0 0,J V 0]) 32 Tryz.infoT rfl w s x F c v l m A cap hs hx g R C n E f fun j w' r u=>D _ _ (h j w' r u)
theorem Items.tail {w:Z} {b d:Nat} {x:Itm} {t:List Itm} {c:Nat} (h:Items w (jb4 b d) (x::t)) (r:(x::t).length<=c):Items w (if c=1 then some (jb5 b d) else some (jb5 b (d+2))) t:=by
 refine ⟨?_,fun y u=>h.each y (mC _ u)⟩;by_cases g:t=[]
 ·exact oL g
 ·have E:0<t.length:=List.length_pos_iff.2 g;rw[if_neg (by simp at r;omega)];obtain ⟨C,k,l,n,f⟩:=h.row.at (m:=0) (by simp);cases l;refine oR ⟨b,d+2,rfl,n,fun j D i hi=> ?_⟩;have:=f (j+1) (by simp;omega) i hi;rw[show d+(j+1)*2+i=d+2+j*2+i by omega] at this;simpa using this
theorem kW {w:Z} {X n:Nat} {u0 u1 v0 v1:T} (c:n<=X) (g:w.cell? ⟨X,0,none⟩=some u0) (j:w.cell? ⟨X,1,none⟩=some u1) (d:w.frozen? ⟨X,0,none⟩=false) (f:w.frozen? ⟨X,1,none⟩=false) :
  (((w.setCell ⟨X,0,none⟩ v0).setCell ⟨X,1,none⟩ v1).drew).cell? ⟨X,0,none⟩=some v0/\(((w.setCell ⟨X,0,none⟩ v0).setCell ⟨X,1,none⟩ v1).drew).cell? ⟨X,1,none⟩=some v1/\(((w.setCell ⟨X,0,none⟩ v0).setCell ⟨X,1,none⟩ v1).drew).frozen? ⟨X,0,none⟩=false/\(((w.setCell ⟨X,0,none⟩ v0).setCell ⟨X,1,none⟩ v1).drew).frozen? ⟨X,1,none⟩=false/\Below n w (((w.setCell ⟨X,0,none⟩ v0).setCell ⟨X,1,none⟩ v1).drew):=by
 refine ⟨?_,?_,?_,?_,?_⟩
 ·rw[World.cell?_drew,World.cell?_setCell_other _ _ _ _ (by simp)];exact World.cell?_setCell_same _ _ _ g
 ·rw[World.cell?_drew];exact World.cell?_setCell_same _ _ _ (u:=u1) (by rw[World.cell?_setCell_other _ _ _ _ (by simp)];exact j)
 ·simpa using d
 ·simpa using f
 ·have h:=((bR n w).setCell (p:=⟨X,0,none⟩) c v0).setCell (p:=⟨X,1,none⟩) c v1;exact ⟨h.os,h.tape,h.output,h.size,h.block⟩
structure DInv (w wr:Z) (a b a' b':List Itm) (P Q:Option H) (c d:Nat) (u:T) (L:List Itm):Prop where
 ia:Items w P a'
 ib:Items w Q b'
 ca:a'.length<=c
 cb:b'.length<=d
 ra:ew (a'.map Itm.z)
 rb:ew (b'.map Itm.z)
 oa:∀x∈a',okW x.n=true/\x.n≠0
 ob:∀x∈b',okW x.n=true/\x.n≠0
 z:L.map Itm.z++bD (a'.map Itm.z) (b'.map Itm.z)=bD (a.map Itm.z) (b.map Itm.z)
 rows:∀y∈L,∃x∈a++b,y.p=x.p/\y.c=x.c/\y.r=x.r
 suba:∀x∈a',x∈a
 subb:∀x∈b',x∈b
 len:L.length+a'.length+b'.length<=a.length+b.length
 own:ae aE 2 101 wr w.heap.size u L
 bel:jb2 w wr

theorem ew.after {x:Zit} {l:List Zit} {y:Zit} {u:List Zit} (d:l=y::u) (h:ew l) (c:aw x.1 y.1<0):∀z∈l,aw x.1 z.1<0:=by
 subst d;intro z f;rcases List.mem_cons.1 f with e|e
 ·rw[e];exact c
 ·exact cH c ((List.pairwise_cons.1 h).1 z e)
theorem ew.tail {x:Zit} {l:List Zit} (h:ew (x::l)):ew l:=(List.pairwise_cons.1 h).2
theorem DInv.stepA {w wr E:Z} {a b t f:List Itm} {x:Itm} {l D:Nat} {Q:Option H} {c d:Nat} {u v5:T} {L:List Itm} (h:DInv w wr a b (x::t) f (jb4 l D) Q c d u L) (F:kC (x::t) f<0)
  (k:ae aE 2 101 E w.heap.size v5 (L++[(⟨x.p,x.c,x.r,x.n⟩:Itm)])) (R:jb2 w E):DInv w E a b t f (if c=1 then some (jb5 l D) else some (jb5 l (D+2))) Q (c-1) d v5 (L++[(⟨x.p,x.c,x.r,x.n⟩:Itm)]):=by
 have j:=h.ca;have C:=h.suba x (by simp);have m:∀y∈f.map Itm.z,aw x.z.1 y.1<0:=by
  cases f with
  | nil=>intro y g;cases g
  | cons y u=>exact ew.after (x:=x.z) rfl h.rb F
 have hd:=zW (x:=x.z) (t:=t.map Itm.z) (b:=f.map Itm.z) h.ra (h.oa x (by simp)).2 m;refine ⟨h.ia.tail j,h.ib,by simp at j;omega,h.cb,h.ra.tail,h.rb,fun y g=>h.oa y (by simp[g]),h.ob,?_,fun y g=> ?_,fun y g=>h.suba y (by simp[g]),h.subb,?_,k,R⟩
 ·rw[<-h.z];show _=_++bD (x.z::t.map Itm.z) (f.map Itm.z);rw[hd,List.map_append,List.append_assoc];rfl
 ·rcases List.mem_append.1 g with e|e
  ·exact h.rows y e
  ·rw[List.mem_singleton.1 e];exact ⟨x,by simp[C],rfl,rfl,rfl⟩
 ·have:=h.len;simp at this ⊢;omega
theorem DInv.stepB {w wr D:Z} {a b f s:List Itm} {y:Itm} {l ob:Nat} {P:Option H} {c d:Nat} {u v5:T} {L:List Itm} (h:DInv w wr a b f (y::s) P (jb4 l ob) c d u L) (E:0<kC f (y::s))
  (j:ae aE 2 101 D w.heap.size v5 (L++[(⟨y.p,y.c,y.r,-y.n⟩:Itm)])) (F:jb2 w D):DInv w D a b f s P (if d=1 then some (jb5 l ob) else some (jb5 l (ob+2))) c (d-1) v5 (L++[(⟨y.p,y.c,y.r,-y.n⟩:Itm)]):=by
 have g:=h.cb;have C:=h.subb y (by simp);have m:∀x∈f.map Itm.z,aw y.z.1 x.1<0:=by
  cases f with
  | nil=>intro x hx;cases hx
  | cons x t =>refine ew.after (x:=y.z) rfl h.ra ?_;have h1:0<aw x.r y.r:=E;have h2:=cR x.r y.r;show aw y.r x.r<0;omega
 have R:=zV (y:=y.z) (a:=f.map Itm.z) (u:=s.map Itm.z) h.rb (h.ob y (by simp)).2 m;refine ⟨h.ia,h.ib.tail g,h.ca,by simp at g;omega,h.ra,h.rb.tail,h.oa,fun z k=>h.ob z (by simp[k]),?_,fun z k=> ?_,h.suba,fun z k=>h.subb z (by simp[k]),?_,j,F⟩
 ·rw[<-h.z];show _=_++bD (f.map Itm.z) (y.z::s.map Itm.z);rw[R,List.map_append,List.append_assoc];rfl
 ·rcases List.mem_append.1 k with e|e
  ·exact h.rows z e
  ·rw[List.mem_singleton.1 e];exact ⟨y,by simp[C],rfl,rfl,rfl⟩
 ·have:=h.len;simp at this ⊢;omega
theorem DInv.stepC {w wr w5:Z} {a b t s:List Itm} {x y:Itm} {m oa C ob:Nat} {c d:Nat} {u v5:T} {L l:List Itm} (h:DInv w wr a b (x::t) (y::s) (jb4 m oa) (jb4 C ob) c d u L) (hO:kC (x::t) (y::s)=0)
  (E:l=if x.n-y.n=0 then L else L++[(⟨y.p,y.c,y.r,x.n-y.n⟩:Itm)]) (k:ae aE 2 101 w5 w.heap.size v5 l) (hb:jb2 w w5):DInv w w5 a b t s (if c=1 then some (jb5 m oa) else some (jb5 m (oa+2))) (if d=1 then some (jb5 C ob) else some (jb5 C (ob+2))) (c-1) (d-1) v5 l:=by
 have g:=h.ca;have j:=h.cb;have R:=h.subb y (by simp);have F:x.r=y.r:=iC _ _ hO;have hd:=zU (x:=x.z) (y:=y.z) (t:=t.map Itm.z) (u:=s.map Itm.z) h.ra h.rb F;refine ⟨h.ia.tail g,h.ib.tail j,by simp at g;omega,by simp at j;omega,h.ra.tail,h.rb.tail,fun z f=>h.oa z (by simp[f]),fun z f=>h.ob z (by simp[f]),?_,fun z f=> ?_,fun z f=>h.suba z (by simp[f]),fun z f=>h.subb z (by simp[f]),?_,k,hb⟩
 ·rw[<-h.z];show _=_++bD (x.z::t.map Itm.z) (y.z::s.map Itm.z);rw[hd,E];by_cases e:x.n-y.n=0
  ·have D:x.z.2-y.z.2=0:=e;rw[if_pos e,if_pos D]
  ·have D:¬x.z.2-y.z.2=0:=e;rw[if_neg e,if_neg D,List.map_append,List.append_assoc];rfl
 ·rw[E] at f;by_cases e:x.n-y.n=0
  ·rw[if_pos e] at f;exact h.rows z f
  ·rw[if_neg e] at f;rcases List.mem_append.1 f with e|e
   ·exact h.rows z e
   ·rw[List.mem_singleton.1 e];exact ⟨y,by simp[R],rfl,rfl,rfl⟩
 ·have:=h.len;rw[E];by_cases e:x.n-y.n=0
  ·rw[if_pos e];simp at this ⊢;omega
  ·rw[if_neg e];simp at this ⊢;omega

theorem uU (a b:List Itm) (A B:Option H) (ca cb:Nat) (w:Z) (ha:Items w A a) (hb:Items w B b) (cc:a.length<=ca) (cd:b.length<=cb) (bN:am (a.map Itm.z)=0) (b0:am (b.map Itm.z)=0) :
  M Y 100 #[I A a.length ca,I B b.length cb] w fun e w'=>∃(L:List Itm) (C:Option H) (k:Nat),e= K (I C L.length k)/\L.map Itm.z=bD (a.map Itm.z) (b.map Itm.z)/\Items w' C L/\dC C L.length k/\L.length<=800/\jb2 w w':=by
 have cn:a.length+b.length<=800:=by have h1:=((aQ _).1 bN).1;have h2:=((aQ _).1 b0).1;simp at h1 h2;omega
 have bl:Hid (DInv w w a b a b A B ca cb (I none 0 0) []):=by have h1:=(aQ _).1 bN;have h2:=(aQ _).1 b0;exact ⟨ha,hb,cc,cd,h1.2.2,h2.2.2,fun x hx=>⟨(bg (h1.2.1 x.z (List.mem_map.2 ⟨x,hx,rfl⟩))).2.1,(bg (h1.2.1 x.z (List.mem_map.2 ⟨x,hx,rfl⟩))).2.2⟩,fun x hx=>⟨(bg (h2.2.1 x.z (List.mem_map.2 ⟨x,hx,rfl⟩))).2.1,(bg (h2.2.1 x.z (List.mem_map.2 ⟨x,hx,rfl⟩))).2.2⟩,rfl,fun y hy=>(by cases hy),fun x hx=>hx,fun x hx=>hx,by simp,ae.nil _ _ _ _ _,bR _ _⟩
 go_enter Tryz.func100,Tryz.ntmps100;go_wp2;go_loopw [0,1,5] (fun s t u wr=>∃(a' b':List Itm) (P Q:Option H) (c d:Nat) (L:List Itm),s= I P a'.length c/\t= I Q b'.length d/\Hid (DInv w wr a b a' b' P Q c d u L)) (fun s t _ _=>tn s+tn t);exact ⟨a,b,A,B,ca,cb,[],rfl,rfl,bl⟩;obtain ⟨a',b',P,Q,c,d,L,rfl,rfl,l⟩:=hrel;obtain ⟨WX,a0⟩:=jb0 (wr.alloc (U #[I none 0 0,J V 0] 101));have an:Hid (Gr wr WX):=by show Gr _ _;rw[<-a0];exact (gR _).alloc _
 have R:Hid (wr.heap.size<WX.heap.size):=by show _<_;rw[<-a0];simp
 have m:=ja1 (l.out.bel.trans (an.out.below.mono l.out.bel.size));have x0:jb1 WX wr.heap.size 0 (I none 0 0):=by rw[<-a0];exact ab (w:=wr) (gR _) rfl
 have x1:jb1 WX wr.heap.size 1 (J V 0):=by rw[<-a0];exact ab (w:=wr) (gR _) rfl
 have f0:∀j,WX.frozen? (jb5 wr.heap.size j)=false:=fun j=>by rw[<-a0];exact ee (w:=wr) (gR _) j
 obtain ⟨O,hO⟩:=jb0 (kC a' b');have bt:=sZ a' b' P Q c d WX (l.out.ia.below m.out) (l.out.ib.below m.out);rw[hO] at bt;have hC:Hid _:=bt;have ak:=ja1 hO;by_cases h0:a'.length=0/\b'.length=0
 ·have cp:¬(0:Int)<(a'.length:Int):=by omega
  have be:a'=[]/\b'=[]:=⟨List.eq_nil_of_length_eq_zero h0.1,List.eq_nil_of_length_eq_zero h0.2⟩;obtain ⟨A2,bc,cm,ck,cf,ce,_,_⟩:=ae.full bO l.out.own;have E:Hid (L.map Itm.z=bD (a.map Itm.z) (b.map Itm.z)/\Items wr A2 L/\dC A2 L.length bc/\L.length<=800/\jb2 w wr):=by
   have hz:=l.out.z;rw[be.1,be.2] at hz;refine ⟨by rw[<-hz];show _=_++bD [] [];rw[yh,List.append_nil],⟨cf,fun y hy=> ?_⟩,dC.mk ck ce,by have:=l.out.len;omega,l.out.bel⟩;obtain ⟨x,hx,e1,e2,e3⟩:=l.out.rows y hy;rw[e1,e2,e3];rcases List.mem_append.1 hx with k|k
   ·exact ((bl.out.ia.below l.out.bel).each x k)
   ·exact ((bl.out.ib.below l.out.bel).each x k)
  subst cm;go_wp2;go_ret;exact ⟨L,A2,bc,rfl,E.out⟩
 ·by_cases b5:O<0
  ·-- the first of now is ahead
   obtain ⟨x,t,rfl⟩:∃x t,a'=x::t:=by
    cases a' with
    | cons x t=>exact ⟨x,t,rfl⟩
    | nil =>
     cases b' with
     | nil=>exact absurd ⟨rfl,rfl⟩ h0
     | cons y u=>have:=ak.out;simp[kC] at this;omega
   have b8:(0:Int)<((x::t).length:Int):=(by simp);obtain ⟨ba,oa,rfl,a6,a2⟩:=l.out.ia.at (k:=0) (by simp);obtain ⟨e0,e1⟩:=a2 0 (by simp);have ao:jb1 w ba oa (I x.p x.r.length x.c):=by simpa using e0
   have ap:jb1 w ba (oa+1) (J V x.n):=(by simpa using e1);go_wp2_with fail;refine ja0 hC ?_;rintro e w2 ⟨rfl,g⟩;have cj:O<=0:=by omega
   have e0:jb1 w2 ba oa (I x.p x.r.length x.c):=(((m.out.trans (g.below.mono m.out.size))).cell (p:=(jb5 ba oa)) a6).trans ao;have e1:jb1 w2 ba (oa+1) (J V x.n):=(((m.out.trans (g.below.mono m.out.size))).cell (p:=(jb5 ba (oa+1))) a6).trans ap;have y0:jb1 w2 wr.heap.size 0 (I none 0 0):=(g.cell (p:=(jb5 wr.heap.size 0)) R.out).trans x0;have y1:jb1 w2 wr.heap.size 1 (J V 0):=(g.cell (p:=(jb5 wr.heap.size 1)) R.out).trans x1;have g0:w2.frozen? (jb5 wr.heap.size 0)=false:=(g.below.frozen (p:=(jb5 wr.heap.size 0)) R.out).trans (f0 0);have g1:w2.frozen? (jb5 wr.heap.size 1)=false:=(g.below.frozen (p:=(jb5 wr.heap.size 1)) R.out).trans (f0 1);go_wp2;go_region;have ad:=kW (v0:= I x.p x.r.length x.c) (v1:= J V x.n) (nR _) y0 y1 g0 g1;obtain ⟨w3,a4⟩:=jb0 ((w2.jb3 wr.heap.size 0 (I x.p x.r.length x.c)).jb3 wr.heap.size 1 (J V x.n)).drew;rw[a4] at ad ⊢;obtain ⟨z0,z1,k0,k1,a1⟩:=ad;have ah:=ja1 (an.out.below.trans ((g.below.mono an.out.size).trans a1));have a9:(x.n != 0)=true:=by have:=(l.out.oa x (by simp)).2;simpa using this
   have cl:(1:Int)<=(t.length:Int)+1:=(by omega);have f:Hid (ae aE 2 101 (w3.alloc (U #[I x.p x.r.length x.c,J V x.n] 101)) w.heap.size u5 L/\aC aE 2 (w3.alloc (U #[I x.p x.r.length x.c,J V x.n] 101)) (jb4 w3.heap.size 0) [(⟨x.p,x.c,x.r,x.n⟩:Itm)]/\L.length+[(⟨x.p,x.c,x.r,x.n⟩:Itm)].length<=maxLen/\(L.length+[(⟨x.p,x.c,x.r,x.n⟩:Itm)].length)*32<=140737488355328/\jb2 w (w3.alloc (U #[I x.p x.r.length x.c,J V x.n] 101))):=by have bv:=l.out.len;have D:=l.out.bel.trans (ah.out.mono l.out.bel.size);exact ⟨(l.out.own.below ah.out).gr ((gR _).alloc _),bV rfl ⟨x.p,x.c,x.r,x.n⟩ _,by unfold maxLen;simp;omega,by simp;omega,D.alloc D.size _⟩
   go_wp2_with (at_builtin;refine eP _ rfl _ _ rfl w.heap.size u5 L [(⟨x.p,x.c,x.r,x.n⟩:Itm)] (jb4 w3.heap.size 0) 1 rfl rfl f.out.1 f.out.2.1 (fun h=>by cases h) f.out.2.2.1 f.out.2.2.2.1 f.out.2.2.2.2.size ?_;intro v5 w5 F a3);have E:Hid (DInv w w5 a b t b' (if c=1 then some (jb5 ba oa) else some (jb5 ba (oa+2))) Q (c-1) d v5 (L++[(⟨x.p,x.c,x.r,x.n⟩:Itm)])):=l.out.stepA (ak.out▸b5) F (f.out.2.2.2.2.trans (f.out.1.grown_below a3 f.out.2.2.2.2.size));go_roundw;case rel=>exact ⟨t,b',_,_,_,_,L++[(⟨x.p,x.c,x.r,x.n⟩:Itm)],rfl,rfl,E⟩
   case measure=>simp[tn]
  ·by_cases b6:0<O
   ·-- the first of before is ahead
    obtain ⟨y,s,rfl⟩:∃y s,b'=y::s:=by
     cases b' with
     | cons y s=>exact ⟨y,s,rfl⟩
     | nil=>have:=ak.out;cases a'<;>simp[kC] at this<;>omega
    have b9:(0:Int)<((y::s).length:Int):=(by simp);obtain ⟨bb,ob,rfl,D,a2⟩:=l.out.ib.at (k:=0) (by simp);obtain ⟨e0,e1⟩:=a2 0 (by simp);have ao:jb1 w bb ob (I y.p y.r.length y.c):=by simpa using e0
    have ap:jb1 w bb (ob+1) (J V y.n):=(by simpa using e1);have cj:¬O<=0:=by omega
    have a5:=l.out.ob y (by simp);obtain ⟨N,hN⟩:=jb0 (-y.n);have aL:=ja1 hN;have b3:wrap64 (-y.n)=N:=by have:=a5.1;simp only[okW,inB,Bool.and_eq_true,decide_eq_true_eq] at this;unfold wrap64;omega
    have a9:(N != 0)=true:=(by have:=a5.2;simp;omega);clear a5 hN;have b1:(1:Int)<=(s.length:Int)+1:=by omega
    rcases a' with _|⟨x,t⟩;all_goals
     go_wp2_with fail;refine ja0 hC ?_;rintro e w2 ⟨rfl,g⟩;have e0:jb1 w2 bb ob (I y.p y.r.length y.c):=(((m.out.trans (g.below.mono m.out.size))).cell (p:=(jb5 bb ob)) D).trans ao;have e1:jb1 w2 bb (ob+1) (J V y.n):=(((m.out.trans (g.below.mono m.out.size))).cell (p:=(jb5 bb (ob+1))) D).trans ap;have y0:jb1 w2 wr.heap.size 0 (I none 0 0):=(g.cell (p:=(jb5 wr.heap.size 0)) R.out).trans x0;have y1:jb1 w2 wr.heap.size 1 (J V 0):=(g.cell (p:=(jb5 wr.heap.size 1)) R.out).trans x1;have g0:w2.frozen? (jb5 wr.heap.size 0)=false:=(g.below.frozen (p:=(jb5 wr.heap.size 0)) R.out).trans (f0 0);have g1:w2.frozen? (jb5 wr.heap.size 1)=false:=(g.below.frozen (p:=(jb5 wr.heap.size 1)) R.out).trans (f0 1);go_wp2;go_region;have ad:=kW (v0:= I y.p y.r.length y.c) (v1:= J V N) (nR _) y0 y1 g0 g1;obtain ⟨w3,a4⟩:=jb0 ((w2.jb3 wr.heap.size 0 (I y.p y.r.length y.c)).jb3 wr.heap.size 1 (J V N)).drew;rw[a4] at ad ⊢;obtain ⟨z0,z1,k0,k1,a1⟩:=ad;have ah:=ja1 (an.out.below.trans ((g.below.mono an.out.size).trans a1));have f:Hid (ae aE 2 101 (w3.alloc (U #[I y.p y.r.length y.c,J V N] 101)) w.heap.size u5 L/\aC aE 2 (w3.alloc (U #[I y.p y.r.length y.c,J V N] 101)) (jb4 w3.heap.size 0) [(⟨y.p,y.c,y.r,N⟩:Itm)]/\L.length+[(⟨y.p,y.c,y.r,N⟩:Itm)].length<=maxLen/\(L.length+[(⟨y.p,y.c,y.r,N⟩:Itm)].length)*32<=140737488355328/\jb2 w (w3.alloc (U #[I y.p y.r.length y.c,J V N] 101))):=by have bv:=l.out.len;have D:=l.out.bel.trans (ah.out.mono l.out.bel.size);exact ⟨(l.out.own.below ah.out).gr ((gR _).alloc _),bV rfl (⟨y.p,y.c,y.r,N⟩:Itm) _,by unfold maxLen;simp;omega,by simp;omega,D.alloc D.size _⟩
     go_wp2_with (at_builtin;refine eP _ rfl _ _ rfl w.heap.size u5 L [(⟨y.p,y.c,y.r,N⟩:Itm)] (jb4 w3.heap.size 0) 1 rfl rfl f.out.1 f.out.2.1 (fun h=>by cases h) f.out.2.2.1 f.out.2.2.2.1 f.out.2.2.2.2.size ?_;intro v5 w5 F a3);have h1:=F;rw[<-aL.out] at h1;have a7:=l.out.stepB (ak.out▸b6) h1 (f.out.2.2.2.2.trans (f.out.1.grown_below a3 f.out.2.2.2.2.size));rw[aL.out] at a7;have E:Hid _:=a7;go_roundw;case rel=>exact ⟨_,s,_,_,_,_,L++[(⟨y.p,y.c,y.r,N⟩:Itm)],rfl,rfl,E⟩
     case measure=>simp[tn]
   ·-- gd begin with one row
    have b7:O=0:=(by omega);obtain ⟨x,t,y,s,rfl,rfl⟩:∃x t y s,a'=x::t/\b'=y::s:=by
     have:=ak.out;cases b' with
     | nil=>cases a'<;>simp[kC] at this<;>omega
     | cons y s =>
      cases a' with
      | nil=>simp[kC] at this;omega
      | cons x t=>exact ⟨x,t,y,s,rfl,rfl⟩
    have b8:(0:Int)<((x::t).length:Int):=(by simp);have b9:(0:Int)<((y::s).length:Int):=by simp
    obtain ⟨ba,oa,rfl,a6,a2⟩:=l.out.ia.at (k:=0) (by simp);obtain ⟨d0,d1⟩:=a2 0 (by simp);obtain ⟨bb,ob,rfl,D,bd⟩:=l.out.ib.at (k:=0) (by simp);obtain ⟨e0,e1⟩:=bd 0 (by simp);have bp:jb1 w ba oa (I x.p x.r.length x.c):=by simpa using d0
    have bs:jb1 w ba (oa+1) (J V x.n):=(by simpa using d1);have ao:jb1 w bb ob (I y.p y.r.length y.c):=by simpa using e0
    have ap:jb1 w bb (ob+1) (J V y.n):=(by simpa using e1);clear a2 bd e0 e1 d0 d1;have a5:=l.out.ob y (by simp);have b4:=l.out.oa x (by simp);obtain ⟨N,hN⟩:=jb0 (x.n-y.n);have aL:=ja1 hN;have b3:wrap64 (x.n-y.n)=N:=by have h1:=a5.1;have h2:=b4.1;simp only[okW,inB,Bool.and_eq_true,decide_eq_true_eq] at h1 h2;unfold wrap64;omega
    clear a5 b4 hN;have b1:(1:Int)<=(s.length:Int)+1:=by omega
    have cl:(1:Int)<=(t.length:Int)+1:=(by omega);subst b7;go_wp2_with fail;refine ja0 hC ?_;rintro e w2 ⟨rfl,g⟩;have d0:jb1 w2 ba oa (I x.p x.r.length x.c):=(((m.out.trans (g.below.mono m.out.size))).cell (p:=(jb5 ba oa)) a6).trans bp;have d1:jb1 w2 ba (oa+1) (J V x.n):=(((m.out.trans (g.below.mono m.out.size))).cell (p:=(jb5 ba (oa+1))) a6).trans bs;have y0:jb1 w2 wr.heap.size 0 (I none 0 0):=(g.cell (p:=(jb5 wr.heap.size 0)) R.out).trans x0;have y1:jb1 w2 wr.heap.size 1 (J V 0):=(g.cell (p:=(jb5 wr.heap.size 1)) R.out).trans x1;have g0:w2.frozen? (jb5 wr.heap.size 0)=false:=(g.below.frozen (p:=(jb5 wr.heap.size 0)) R.out).trans (f0 0);have g1:w2.frozen? (jb5 wr.heap.size 1)=false:=(g.below.frozen (p:=(jb5 wr.heap.size 1)) R.out).trans (f0 1);clear a0 x0 x1 f0 hC;go_wp2;go_region;have ad:=kW (v0:= I x.p x.r.length x.c) (v1:= J V x.n) (nR _) y0 y1 g0 g1;obtain ⟨w4,b2⟩:=jb0 ((w2.jb3 wr.heap.size 0 (I x.p x.r.length x.c)).jb3 wr.heap.size 1 (J V x.n)).drew;rw[b2] at ad ⊢;obtain ⟨z0,z1,k0,k1,bG⟩:=ad;have bh:=ja1 (an.out.below.trans ((g.below.mono an.out.size).trans bG));have e0:jb1 w4 bb ob (I y.p y.r.length y.c):=((l.out.bel.trans (bh.out.mono l.out.bel.size)).cell (p:=(jb5 bb ob)) D).trans ao;have e1:jb1 w4 bb (ob+1) (J V y.n):=((l.out.bel.trans (bh.out.mono l.out.bel.size)).cell (p:=(jb5 bb (ob+1))) D).trans ap;clear b2 bG d0 d1 y0 y1 g0 g1 g bp bs ao ap;obtain ⟨PP,bo⟩:=jb0 (if c=1 then some ((jb5 ba oa):H) else some (jb5 ba (oa+2)));have bC:=ja1 bo;go_wp2;try rw[bo]
    clear bo;go_region;have ad:=kW (v0:= I y.p y.r.length y.c) (v1:= J V N) (nR _) z0 z1 k0 k1;obtain ⟨w3,a4⟩:=jb0 ((w4.jb3 wr.heap.size 0 (I y.p y.r.length y.c)).jb3 wr.heap.size 1 (J V N)).drew;rw[a4] at ad ⊢;clear z0 z1 k0 k1;obtain ⟨z0,z1,k0,k1,a1⟩:=ad;have ah:=ja1 (bh.out.trans a1);clear a4 a1 e0 e1 b3;cases a9:(N != 0)
    ·have a8:x.n-y.n=0:=(by rw[aL.out];simpa using a9);have E:Hid (DInv w w3 a b t s PP (if d=1 then some (jb5 bb ob) else some (jb5 bb (ob+2))) (c-1) (d-1) u5 L):=by show DInv _ _ _ _ _ _ _ _ _ _ _ _;rw[<-bC.out];exact l.out.stepC ak.out (by rw[if_pos a8]) (l.out.own.below ah.out) (l.out.bel.trans (ah.out.mono l.out.bel.size))
     clear a8;go_wp2;go_roundw;case rel=>exact ⟨t,s,_,_,_,_,L,rfl,rfl,E⟩
     case measure=>simp[tn];omega
    ·have a8:¬x.n-y.n=0:=(by rw[aL.out];simpa using a9);have f:Hid (ae aE 2 101 (w3.alloc (U #[I y.p y.r.length y.c,J V N] 101)) w.heap.size u5 L/\aC aE 2 (w3.alloc (U #[I y.p y.r.length y.c,J V N] 101)) (jb4 w3.heap.size 0) [(⟨y.p,y.c,y.r,N⟩:Itm)]/\L.length+[(⟨y.p,y.c,y.r,N⟩:Itm)].length<=maxLen/\(L.length+[(⟨y.p,y.c,y.r,N⟩:Itm)].length)*32<=140737488355328/\jb2 w (w3.alloc (U #[I y.p y.r.length y.c,J V N] 101))):=by have bv:=l.out.len;have D:=l.out.bel.trans (ah.out.mono l.out.bel.size);exact ⟨(l.out.own.below ah.out).gr ((gR _).alloc _),bV rfl (⟨y.p,y.c,y.r,N⟩:Itm) _,by unfold maxLen;simp;omega,by simp;omega,D.alloc D.size _⟩
     go_wp2_with (at_builtin;refine eP _ rfl _ _ rfl w.heap.size u5 L [(⟨y.p,y.c,y.r,N⟩:Itm)] (jb4 w3.heap.size 0) 1 rfl rfl f.out.1 f.out.2.1 (fun h=>by cases h) f.out.2.2.1 f.out.2.2.2.1 f.out.2.2.2.2.size ?_;intro v5 w5 F a3);have E:Hid (DInv w w5 a b t s PP (if d=1 then some (jb5 bb ob) else some (jb5 bb (ob+2))) (c-1) (d-1) v5 (L++[(⟨y.p,y.c,y.r,N⟩:Itm)])):=by show DInv _ _ _ _ _ _ _ _ _ _ _ _;rw[<-bC.out];exact l.out.stepC ak.out (by rw[if_neg a8,aL.out]) F (f.out.2.2.2.2.trans (f.out.1.grown_below a3 f.out.2.2.2.2.size))
     clear F a3;go_roundw;case rel=>exact ⟨t,s,_,_,_,_,L++[(⟨y.p,y.c,y.r,N⟩:Itm)],rfl,rfl,E⟩
     case measure=>simp[tn];omega
end Go.Proofs.YtbkjgjjpnfhkhaaGreatDoor

namespace Go.Proofs.YtbkjgjjpnfhkhaaGreatDoor

end Go.Proofs.YtbkjgjjpnfhkhaaGreatDoor
