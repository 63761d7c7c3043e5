import Derived.Test.YtbkjgjjpnfhkhaaGreatDoorM24
import Derived.Test.YtbkjgjjpnfhkhaaGreatDoorM19
set_option maxRecDepth 100000
set_option maxHeartbeats 8000000
open Go renaming World → I, Value → Z, Addr → H
open Go.IntKind renaming i64 → V
open Go.Value renaming int → S, slice → J
namespace Go.Proofs.YtbkjgjjpnfhkhaaGreatDoor
open Go.RowKit Go.Sort

theorem grG (W:I) (n:Nat) (os:Array Obj):Gr W (grow (W.drewN n) os):=⟨n,os,rfl⟩

theorem toG {f:FuncId} {args:Array Z} {W:I} {v:Z} (n:Nat) (os:Array Obj) (h:Calls Tryz.prog f args (grow (W.drewN n) os) fun e w'=>e= .returned v/\Gr (grow (W.drewN n) os) w') :
  Calls Tryz.prog f args (grow (W.drewN n) os) fun e c=>e= .returned v/\∃p:GrownBy,c=grow (W.drewN p.n) p.os:=Calls.grown_of h

theorem ms (c:Ctx):i6 c c=true:=by simp[i6,mY,eqL]

theorem CtxAt.G {w:I} {B:Nat} {c:Ctx} {A:Option H} {cap:Nat} (h:CtxAt w B c A cap):(∀n d,jb1 (grow (w.drewN n) d) B 0 (S V c.c0))/\(∀n d,jb1 (grow (w.drewN n) d) B 1 (S V c.c1))/\(∀n d,jb1 (grow (w.drewN n) d) B 2 (S V c.c2))/\(∀n d,jb1 (grow (w.drewN n) d) B 3 (S V c.c3))/\(∀n d,jb1 (grow (w.drewN n) d) B 4 (J A c.l.length cap)) :=
 ⟨cell_grown (a:=(jb5 B 0)) h.lt h.k0,cell_grown (a:=(jb5 B 1)) h.lt h.k1,cell_grown (a:=(jb5 B 2)) h.lt h.k2,cell_grown (a:=(jb5 B 3)) h.lt h.k3,cell_grown (a:=(jb5 B 4)) h.lt h.k4⟩
theorem DotAt.G {w:I} {B:Nat} {x y:Int} (h:DotAt w B x y):(∀n c,jb1 (grow (w.drewN n) c) B 0 (S V x))/\(∀n c,jb1 (grow (w.drewN n) c) B 1 (S V y)) :=
 ⟨cell_grown (a:=(jb5 B 0)) h.lt h.k0,cell_grown (a:=(jb5 B 1)) h.lt h.k1⟩


theorem jI {c:Ctx} (h:Can c) {x:Int×Int} (d:ax c x=true):ai x=true:=by
 rcases (cg c x).1 d with hm|hm
 ·exact h.right x hm
 ·have:=bF h.ck x.1 hm.1 (by omega);simp[ai,inB];omega


theorem pR {a b:Ctx} (h:aI a b=0):Can (aO a b)/\aU (aO a b)=0/\(aO a b).l.length<=400/\∀x,ax (aO a b) x=true↔ax a x=true\/ax b x=true:=by obtain ⟨c,d,_,g,f⟩:=jo h;rw[g];exact ⟨jJ c d,lH (jJ c d) f,f,nA c d⟩
theorem vM {a b:Ctx} (h:aI a b=0) (x:Int×Int):ax (aO a b) x=(ax a x || ax b x):=by rw[Bool.eq_iff_iff,(pR h).2.2.2 x,Bool.or_eq_true]

theorem tu {l:List Cel} {d:Int×Int}:bY l d=true↔∃y∈l,y.1=d:=by
 unfold bY;rw[List.any_eq_true];constructor
 ·rintro ⟨y,c,h⟩;exact ⟨y,c,by simpa using h⟩
 ·rintro ⟨y,c,h⟩;exact ⟨y,c,by simpa using h⟩
theorem yK {a b:Tab}:dH a b=false↔∀x∈a.e,∀y∈b.e,y.1=x.1->y=x:=by
 unfold dH;rw[List.any_eq_false];constructor
 ·intro h x g y j e;cases d:ge y x
  ·refine absurd ?_ (h x g);unfold clP;rw[List.any_eq_true];exact ⟨y,j,by simp[e,d]⟩
  ·exact fi.1 d
 ·intro h x g c;unfold clP at c;rw[List.any_eq_true] at c;obtain ⟨y,j,f⟩:=c;simp only[Bool.and_eq_true,decide_eq_true_eq,Bool.not_eq_true'] at f;have k:=h x g y j f.1;have d:=f.2;rw[k,fi.2 rfl] at d;cases d
theorem yE {a b:Tab} (k:dH a b=false) {x:Cel}:x∈mrg a b↔(x∈a.e/\x∈b.e)\/(x∈a.e/\ax b.c x.1=false)\/(x∈b.e/\ax a.c x.1=false):=by
 unfold mrg;rw[(fk _).mem_iff];unfold gd;rw[List.mem_append,List.mem_filter,List.mem_filter];unfold fe eC;simp only[Bool.or_eq_true,Bool.not_eq_true'];have g:x∈a.e->(bY b.e x.1=true↔x∈b.e):=by
  intro l;rw[tu];constructor
  ·rintro ⟨y,j,e⟩;rw[<-yK.1 k x l y j e];exact j
  ·intro h;exact ⟨x,h,rfl⟩
 constructor
 ·rintro (⟨d,f|f⟩|d)
  ·exact oL ⟨d,(g d).1 f⟩
  ·exact oR (oL ⟨d,f⟩)
  ·exact oR (oR d)
 ·rintro (⟨d,f⟩|⟨d,f⟩|d)
  ·exact oL ⟨d,oL ((g d).2 f)⟩
  ·exact oL ⟨d,oR f⟩
  ·exact oR d
theorem tw {a b:Tab} (h:aD a b=0):aR a b=⟨aO a.c b.c,mrg a b⟩:=by unfold aR;rw[if_pos h]
theorem ym {c:Ctx} {e:List Cel} (l:aU c=0) (n:e.length<=400) (j:Asc e) (h:∀x∈e,ax c x.1=true/\aF x.2.1 x.2.2.1 x.2.2.2=true):ay ⟨c,e⟩=0:=by
 refine ox l n fun k f=> ?_;have d:k<e.length:=f;cases k with
 | zero =>rw[dc (t:=⟨c,e⟩) f rfl];have:=h e[0] (gM d);simp[this.1,this.2]
 | succ m =>rw[co (t:=⟨c,e⟩) f rfl rfl];have:=h e[m+1] (gM d);have g:=(List.pairwise_iff_getElem.1 j) m (m+1) (by omega) d (by omega);simp[this.1,this.2,g]
theorem tv {a b:Tab} (c:dH a b=false) {x:Cel} (h:x∈mrg a b):x∈a.e\/x∈b.e:=by
 rcases (yE c).1 h with h|h|h
 ·exact oL h.1
 ·exact oL h.1
 ·exact oR h.1
theorem eJ {a b:Tab} (h:aD a b=0):ay (aR a b)=0:=by
 obtain ⟨d,f,j,g,k⟩:=oD h;rw[tw h];refine ym (pR g).2.1 k (si d f) fun x c=> ?_;rw[vM g];rcases tv j c with c|c
 ·exact ⟨by rw[ig d c];rfl,gJ d c⟩
 ·exact ⟨by rw[ig f c];simp,gJ f c⟩

structure TbC (w:I) (N o:Nat) (t:Tab) (A:Option H) (ca:Nat) (D:Option H) (cd:Nat):Prop where
 k0:w.cell? ⟨N,o,none⟩=some (S V t.c.c0)
 k1:w.cell? ⟨N,o+1,none⟩=some (S V t.c.c1)
 k2:w.cell? ⟨N,o+2,none⟩=some (S V t.c.c2)
 k3:w.cell? ⟨N,o+3,none⟩=some (S V t.c.c3)
 k4:w.cell? ⟨N,o+4,none⟩=some (J A t.c.l.length ca)
 k5:w.cell? ⟨N,o+5,none⟩=some (J D t.e.length cd)
theorem TbC.keep {w w':I} {N o:Nat} {t:Tab} {A:Option H} {ca:Nat} {D:Option H} {cd:Nat} (h:TbC w N o t A ca D cd) (c:∀j,o<=j->j<o+6->w'.cell? (jb5 N j)=w.cell? (jb5 N j)):TbC w' N o t A ca D cd :=
 ⟨(c o (by omega) (by omega)).trans h.k0,(c (o+1) (by omega) (by omega)).trans h.k1,(c (o+2) (by omega) (by omega)).trans h.k2,(c (o+3) (by omega) (by omega)).trans h.k3,(c (o+4) (by omega) (by omega)).trans h.k4,(c (o+5) (by omega) (by omega)).trans h.k5⟩
def TbN (w:I) (N o:Nat) (P:Nat->Prop) (t:Tab):Prop:=∃A ca D cd,TbC w N o t A ca D cd/\TbP P w t A ca D cd
theorem TbN.mono {w:I} {N o:Nat} {P Q:Nat->Prop} {t:Tab} (h:TbN w N o P t) (k:∀b,P b->Q b):TbN w N o Q t:=by obtain ⟨A,ca,D,c,d,f⟩:=h;exact ⟨A,ca,D,c,d,f.mono k⟩
theorem TbN.keep {w w':I} {N o:Nat} {P:Nat->Prop} {t:Tab} (h:TbN w N o P t) (g:Agr P w w') (k:∀j,o<=j->j<o+6->w'.cell? (jb5 N j)=w.cell? (jb5 N j)):TbN w' N o P t:=by obtain ⟨A,ca,D,c,d,f⟩:=h;exact ⟨A,ca,D,c,d.keep k,f.agr g⟩
theorem TbN.ok {w:I} {N o:Nat} {P:Nat->Prop} {t:Tab} (h:TbN w N o P t):ay t=0:=by obtain ⟨A,ca,D,d,_,c⟩:=h;exact c.ok
def Blo (w:I) (N O:Nat):Prop:=∃T n,Blk w N T n/\O+38<=n
section
variable {w w':I} {N O:Nat}
theorem Blo.lt (h:Blo w N O):N<w.heap.size:=by obtain ⟨_,_,h,_⟩:=h;exact h.lt
theorem Blo.fz (h:Blo w N O) (j:Nat):w.frozen? (jb5 N j)=false:=by obtain ⟨_,_,h,_⟩:=h;exact h.fz j
theorem Blo.some (h:Blo w N O) {j:Nat} (c:j<O+38):∃v,jb1 w N j v:=by obtain ⟨_,_,h,k⟩:=h;exact h.some (by omega)
theorem Wr.blo {lo hi:Nat} (h:Wr N lo hi w w') (c:Blo w N O):Blo w' N O:=by obtain ⟨d,n,c,k⟩:=c;exact ⟨d,n,h.block c,k⟩
theorem Wr.celo {lo hi:Nat} (h:Wr N lo hi w w') (c:Blo w N O) {j:Nat} (d:j<lo\/hi<=j):w'.cell? (jb5 N j)=w.cell? (jb5 N j):=by obtain ⟨_,_,c,_⟩:=c;exact h.cell c d
end
structure Nm (w:I) (N O:Nat) (P:Nat->Prop) (id:Int) (s t:Tab) (qs:List (List Stp)) (i:Nat) (z y:List Zit):Prop where
 blk:Blo w N O
 out:¬P N
 up:∀b,P b->b<w.heap.size
 cid:w.cell? ⟨N,O,none⟩=some (S V id)
 ts:TbN w N (O+1) P s
 tt:TbN w N (O+7) P t
 cnt:w.cell? ⟨N,O+37,none⟩=some (S V (qs.length:Int))
 le:qs.length<=4
 vs:∀j (h:j<qs.length),VwN w N (O+13+j*6) P qs[j] (if j<i then ofR s else z) (if j<i then ofR t else y)
def Nd (w:I) (N O:Nat) (P:Nat->Prop) (id:Int) (s t:Tab) (qs:List (List Stp)):Prop:=Nm w N O P id s t qs 4 [] []
section
variable {w w':I} {N O:Nat} {P:Nat->Prop} {id:Int} {s t:Tab} {qs:List (List Stp)} {i:Nat} {z y:List Zit}
theorem Nm.keep (h:Nm w N O P id s t qs i z y) (l:w'.heap[N]? = w.heap[N]?) (d:Agr P w w'):Nm w' N O P id s t qs i z y:=by
 have g:Blo w' N O:=by obtain ⟨u,n,⟨f,c,r⟩,k⟩:=h.blk;exact ⟨u,n,⟨f,l.trans c,r⟩,k⟩
 have c:∀j,w'.cell? (jb5 N j)=w.cell? (jb5 N j):=fun j=>World.cell?_of_block (a:=(jb5 N j)) l;exact ⟨g,h.out,fun b k=>nL (h.up b k) d.size,(c O).trans h.cid,h.ts.keep d fun j _ _=>c j,h.tt.keep d fun j _ _=>c j,(c (O+37)).trans h.cnt,h.le,fun j m=>(h.vs j m).keep d g.lt g.fz fun j _ _=>c j⟩
theorem Nm.below (h:Nm w N O P id s t qs i z y) (k:jb2 w w'):Nm w' N O P id s t qs i z y:=h.keep (k.block N h.blk.lt) (Agr.of k)
theorem Nm.mono (h:Nm w N O P id s t qs i z y) {P':Nat->Prop} (k:∀b,P b->P' b) (c:¬P' N) (d:∀b,P' b->b<w.heap.size):Nm w N O P' id s t qs i z y :=
 ⟨h.blk,c,d,h.cid,h.ts.mono k,h.tt.mono k,h.cnt,h.le,fun j f=>(h.vs j f).mono k⟩
theorem Nd.keep (h:Nd w N O P id s t qs) (d:w'.heap[N]? = w.heap[N]?) (c:Agr P w w'):Nd w' N O P id s t qs:=Nm.keep h d c
theorem Nd.below (h:Nd w N O P id s t qs) (k:jb2 w w'):Nd w' N O P id s t qs:=Nm.below h k
theorem Nd.view (h:Nd w N O P id s t qs) {j:Nat} (c:j<qs.length):VwN w N (O+13+j*6) P qs[j] (ofR s) (ofR t):=by have:=h.vs j c;have d:=h.le;rwa [if_pos (by omega),if_pos (by omega)] at this
theorem cZ {m n:Nat} (h:¬P N) (c:N<m):¬aj P m n N:=fun k=>k.elim h fun k=>by omega
theorem fM {m n:Nat} (h:∀b,P b->b<n):∀b,aj P m n b->b<n:=fun b k=>k.elim (h b) fun k=>k.2
end

def fX (N:Nat):I->Nat->List Z->I
 | w,_,[]=>w
 | w,o,v::l=>fX N (w.setCell ⟨N,o,none⟩ v) (o+1) l
theorem iK (N:Nat):∀(l:List Z) (w:I) (o c hi:Nat),c<=o->o+l.length<=hi->Wr N c hi w (fX N w o l)
 | [],w,o,c,hi,_,_=>Wr.refl _ _ _ _
 | v::l,w,o,c,hi,h1,h2=>by simp only[List.length_cons] at h2;exact (Wr.set w v h1 (by omega)).trans (iK N l _ (o+1) c hi (by omega) (by omega))
theorem fO (N:Nat):∀(l:List Z) (w:I) (o:Nat),(fX N w o l).heap.size=w.heap.size
 | [],w,o=>rfl
 | v::l,w,o=>by rw[fX,fO N l];simp
theorem iw {N n:Nat} {T:TypeId}:∀(l:List Z) (w:I) (o:Nat),Blk w N T n->o+l.length<=n->∀j v,l[j]? = some v->(fX N w o l).cell? ⟨N,o+j,none⟩=some v
 | [],w,o,_,_,j,v,h=>by simp at h
 | u::l,w,o,hb,hn,0,v,h=>by
  simp only[List.length_cons] at hn;have c:Blk (w.setCell ⟨N,o,none⟩ u) N T n:=(Wr.set (lo:=o) (hi:=o+1) w u (nR _) (by omega)).block hb;have e:u=v:=by simpa using h
  subst e;obtain ⟨x,d⟩:=hb.some (j:=o) (by omega);rw[fX,Nat.add_zero,(iK N l (w.setCell ⟨N,o,none⟩ u) (o+1) (o+1) (o+1+l.length) (Nat.le_refl _) (Nat.le_refl _)).cell c (Or.inl (by omega))];exact World.cell?_setCell_same _ _ _ d
 | u::l,w,o,hb,hn,j+1,v,h=>by simp only[List.length_cons] at hn;have c:Blk (w.setCell ⟨N,o,none⟩ u) N T n:=(Wr.set (lo:=o) (hi:=o+1) w u (nR _) (by omega)).block hb;rw[fX,show o+(j+1)=o+1+j by omega];exact iw l (w.setCell ⟨N,o,none⟩ u) (o+1) c (by omega) j v (by simpa using h)
theorem Nd.laid {w w':I} {N O:Nat} {P P':Nat->Prop} {id:Int} {s t s' t':Tab} {qs:List (List Stp)} (h:Nd w N O P id s t qs) (m:∀b,P b->P' b) (hN:¬P' N) (F:∀b,P' b->b<w.heap.size) {A B C D:Option H} {ca cb cc cd:Nat} (hs:TbP P' w s' A ca C cc) (ht:TbP P' w t' B cb D cd) (R:fX N w (O+1) [S V s'.c.c0,S V s'.c.c1,S V s'.c.c2,S V s'.c.c3,J A s'.c.l.length ca,J C s'.e.length cc,S V t'.c.c0,S V t'.c.c1,S V t'.c.c2,S V t'.c.c3,J B t'.c.l.length cb,J D t'.e.length cd]=w') :
  Nm w' N O P' id s' t' qs 0 (ofR s) (ofR t)/\Wr N (O+1) (O+13) w w':=by
 have g:Wr N (O+1) (O+13) w w':=by rw[<-R];exact iK N _ w (O+1) (O+1) (O+13) (nR _) (nR _)
 have E:w'.heap.size=w.heap.size:=by rw[<-R];exact fO _ _ _ _
 have k:Agr P' w w':=g.agr hN;obtain ⟨T0,n0,n,ad⟩:=h.blk;have d:∀j v,[S V s'.c.c0,S V s'.c.c1,S V s'.c.c2,S V s'.c.c3,J A s'.c.l.length ca,J C s'.e.length cc,S V t'.c.c0,S V t'.c.c1,S V t'.c.c2,S V t'.c.c3,J B t'.c.l.length cb,J D t'.e.length cd][j]? = some v->jb1 w' N (O+1+j) v:=fun j v hv=>by rw[<-R];exact iw _ w (O+1) n (by show O+1+12<=n0;omega) j v hv
 have f:=g.blo h.blk;have u:∀j,(j<O+1\/O+13<=j)->w'.cell? (jb5 N j)=w.cell? (jb5 N j):=fun j r=>g.celo h.blk r;refine ⟨⟨f,hN,fun b f=>by rw[E];exact F b f,(u O (by omega)).trans h.cid,⟨A,ca,C,cc,⟨d 0 _ rfl,d 1 _ rfl,d 2 _ rfl,d 3 _ rfl,d 4 _ rfl,d 5 _ rfl⟩,hs.agr k⟩,⟨B,cb,D,cd,⟨d 6 _ rfl,d 7 _ rfl,d 8 _ rfl,d 9 _ rfl,d 10 _ rfl,d 11 _ rfl⟩,ht.agr k⟩,(u (O+37) (by omega)).trans h.cnt,h.le,fun j r=> ?_⟩,g⟩;rw[if_neg (Nat.not_lt_zero _),if_neg (Nat.not_lt_zero _)];exact ((h.view r).mono m).keep k f.lt f.fz fun i h1 _=>u i (by omega)
theorem Nm.turned {w w':I} {N O:Nat} {P P':Nat->Prop} {id:Int} {s t:Tab} {qs:List (List Stp)} {i:Nat} {z y:List Zit} (h:Nm w N O P id s t qs i z y) (hi:i<qs.length) (c:∀b,P b->P' b) (u:¬P' N) (r:∀b,P' b->b<w'.heap.size) (C:VwN w' N (O+13+i*6) P' qs[i] (ofR s) (ofR t)) (l:Wr N (O+13+i*6) (O+13+i*6+6) w w'):Nm w' N O P' id s t qs (i+1) z y:=by
 have m:=l.blo h.blk;have F:=h.le;have g:Agr P w w':=l.agr fun k=>u (c _ k);have f:∀j,(j<O+13+i*6\/O+13+i*6+6<=j)->w'.cell? (jb5 N j)=w.cell? (jb5 N j):=fun j n=>l.celo h.blk n;refine ⟨m,u,r,(f O (by omega)).trans h.cid,(h.ts.keep g fun j _ _=>f j (by omega)).mono c,(h.tt.keep g fun j _ _=>f j (by omega)).mono c,(f (O+37) (by omega)).trans h.cnt,h.le,fun j n=> ?_⟩;by_cases e:j=i
 ·subst e;rw[if_pos (by omega),if_pos (by omega)];exact C
 ·have:=((h.vs j n).keep g m.lt m.fz fun k D E=>f k (by omega)).mono c;by_cases d:j<i
  ·rw[if_pos d,if_pos d] at this;rw[if_pos (by omega),if_pos (by omega)];exact this
  ·rw[if_neg d,if_neg d] at this;rw[if_neg (by omega),if_neg (by omega)];exact this
theorem Nm.done {w:I} {N O:Nat} {P:Nat->Prop} {id:Int} {s t:Tab} {qs:List (List Stp)} {i:Nat} {z y:List Zit} (h:Nm w N O P id s t qs i z y) (hi:qs.length<=i):Nd w N O P id s t qs:=by have d:=h.le;refine ⟨h.blk,h.out,h.up,h.cid,h.ts,h.tt,h.cnt,h.le,fun j c=> ?_⟩;have:=h.vs j c;rw[if_pos (by omega),if_pos (by omega)] at this;rw[if_pos (by omega),if_pos (by omega)];exact this
end Go.Proofs.YtbkjgjjpnfhkhaaGreatDoor
