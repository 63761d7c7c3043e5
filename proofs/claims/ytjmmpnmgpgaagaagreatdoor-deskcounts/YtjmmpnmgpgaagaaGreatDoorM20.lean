import Derived.Test.YtjmmpnmgpgaagaaGreatDoorM19
set_option maxRecDepth 100000
set_option maxHeartbeats 8000000
open Go renaming World → X, Value → ic, Addr → ix
open Go.IntKind renaming i64 → I
open Go.Obj renaming cells → H
open Go.RowKit renaming Hid → Z, Below → Y
open Go.Value renaming int → S, slice → J, tuple → ia, agg → ik
namespace Go.Proofs.YtjmmpnmgpgaagaaGreatDoor
open Go.RowKit Go.Sort

def fE (N:Nat):X->Nat->List ic->X
 | w,_,[]=>w
 | w,o,v::l=>fE N (w.setCell ⟨N,o,none⟩ v) (o+1) l
theorem gI (N:Nat):∀(l:List ic) (w:X) (o f hi:Nat),f<=o->o+l.length<=hi->Wr N f hi w (fE N w o l)
 | [],w,o,f,hi,_,_=>Wr.refl _ _ _ _
 | v::l,w,o,f,hi,h1,h2=>by
  simp only[List.length_cons] at h2
  exact (Wr.set w v h1 (by omega)).trans (gI N l _ (o+1) f hi (by omega) (by omega))
theorem fY (N:Nat):∀(l:List ic) (w:X) (o:Nat),(fE N w o l).heap.size=w.heap.size
 | [],w,o=>rfl
 | v::l,w,o=>by
  rw[fE,fY N l]
  simp
theorem fX {N n:Nat} {T:TypeId}:∀(l:List ic) (w:X) (o:Nat),Blk w N T n->o+l.length<=n->∀j v,l[j]? = some v->(fE N w o l).cell? ⟨N,o+j,none⟩=some v
 | [],w,o,_,_,j,v,h=>by simp at h
 | u::l,w,o,hb,hn,0,v,h=>by
  simp only[List.length_cons] at hn
  have f:Blk (w.setCell ⟨N,o,none⟩ u) N T n:=(Wr.set (lo:=o) (hi:=o+1) w u (nR _) (by omega)).block hb
  have e:u=v:=by simpa using h
  subst e
  obtain ⟨x,g⟩:=hb.some (j:=o) (by omega)
  rw[fE,Nat.add_zero,(gI N l (w.setCell ⟨N,o,none⟩ u) (o+1) (o+1) (o+1+l.length) (Nat.le_refl _) (Nat.le_refl _)).cell f (Or.inl (by omega))]
  exact World.cell?_setCell_same _ _ _ g
 | u::l,w,o,hb,hn,j+1,v,h=>by
  simp only[List.length_cons] at hn
  have f:Blk (w.setCell ⟨N,o,none⟩ u) N T n:=(Wr.set (lo:=o) (hi:=o+1) w u (nR _) (by omega)).block hb
  rw[fE,show o+(j+1)=o+1+j by omega]
  exact fX l (w.setCell ⟨N,o,none⟩ u) (o+1) f (by omega) j v (by simpa using h)
theorem Nd.laid {w w':X} {N O:Nat} {P P':Nat->Prop} {id:Int} {s t f g:Tab} {qs:List (List Stp)} (h:Nd w N O P id s t qs) (L:∀b,P b->P' b) (hN:¬P' N) (ah:∀b,P' b->b<w.heap.size) {A B C D:Option ix} {ca cb r u:Nat} (hs:TbP P' w f A ca C r) (ht:TbP P' w g B cb D u) (hw:fE N w (O+1) [S I f.c.c0,S I f.c.c1,S I f.c.c2,S I f.c.c3,J A f.c.l.length ca,J C f.e.length r,S I g.c.c0,S I g.c.c1,S I g.c.c2,S I g.c.c3,J B g.c.l.length cb,J D g.e.length u]=w') :
  Nm w' N O P' id f g qs 0 (ofR s) (ofR t)/\Wr N (O+1) (O+13) w w':=by
 have E:Wr N (O+1) (O+13) w w':=by rw[<-hw];exact gI N _ w (O+1) (O+1) (O+13) (nR _) (nR _)
 have ad:w'.heap.size=w.heap.size:=by rw[<-hw];exact fY _ _ _ _
 have F:Agr P' w w':=E.agr hN
 obtain ⟨T0,n0,R,an⟩:=h.blk
 have k:∀j v,[S I f.c.c0,S I f.c.c1,S I f.c.c2,S I f.c.c3,J A f.c.l.length ca,J C f.e.length r,S I g.c.c0,S I g.c.c1,S I g.c.c2,S I g.c.c3,J B g.c.l.length cb,J D g.e.length u][j]? = some v->w'.cell? ⟨N,O+1+j,none⟩=some v:=fun j v hv=>by rw[<-hw];exact fX _ w (O+1) R (by show O+1+12<=n0;omega) j v hv
 have n:=E.blo h.blk
 have ho:∀j,(j<O+1\/O+13<=j)->w'.cell? ⟨N,j,none⟩=w.cell? ⟨N,j,none⟩:=fun j hj=>E.celo h.blk hj
 refine ⟨⟨n,hN,fun b n=>by rw[ad];exact ah b n,(ho O (by omega)).trans h.cid,⟨A,ca,C,r,⟨k 0 _ rfl,k 1 _ rfl,k 2 _ rfl,k 3 _ rfl,k 4 _ rfl,k 5 _ rfl⟩,hs.agr F⟩,⟨B,cb,D,u,⟨k 6 _ rfl,k 7 _ rfl,k 8 _ rfl,k 9 _ rfl,k 10 _ rfl,k 11 _ rfl⟩,ht.agr F⟩,(ho (O+37) (by omega)).trans h.cnt,h.le,fun j hj=> ?_⟩,E⟩
 rw[if_neg (Nat.not_lt_zero _),if_neg (Nat.not_lt_zero _)]
 exact ((h.view hj).mono L).keep F n.lt n.fz fun i h1 _=>ho i (by omega)
theorem Nm.turned {w w':X} {N O:Nat} {P P':Nat->Prop} {id:Int} {s t:Tab} {qs:List (List Stp)} {i:Nat} {z y:List Zit} (h:Nm w N O P id s t qs i z y) (hi:i<qs.length) (f:∀b,P b->P' b) (L:¬P' N) (F:∀b,P' b->b<w'.heap.size) (R:VwN w' N (O+13+i*6) P' qs[i] (ofR s) (ofR t)) (u:Wr N (O+13+i*6) (O+13+i*6+6) w w'):Nm w' N O P' id s t qs (i+1) z y:=by
 have C:=u.blo h.blk
 have hl:=h.le
 have r:Agr P w w':=u.agr fun k=>L (f _ k)
 have n:∀j,(j<O+13+i*6\/O+13+i*6+6<=j)->w'.cell? ⟨N,j,none⟩=w.cell? ⟨N,j,none⟩:=fun j E=>u.celo h.blk E
 refine ⟨C,L,F,(n O (by omega)).trans h.cid,(h.ts.keep r fun j _ _=>n j (by omega)).mono f,(h.tt.keep r fun j _ _=>n j (by omega)).mono f,(n (O+37) (by omega)).trans h.cnt,h.le,fun j E=> ?_⟩
 by_cases e:j=i
 ·subst e
  rw[if_pos (by omega),if_pos (by omega)]
  exact R
 ·have:=((h.vs j E).keep r C.lt C.fz fun k h1 h2=>n k (by omega)).mono f
  by_cases g:j<i
  ·rw[if_pos g,if_pos g] at this
   rw[if_pos (by omega),if_pos (by omega)]
   exact this
  ·rw[if_neg g,if_neg g] at this
   rw[if_neg (by omega),if_neg (by omega)]
   exact this
theorem Nm.done {w:X} {N O:Nat} {P:Nat->Prop} {id:Int} {s t:Tab} {qs:List (List Stp)} {i:Nat} {z y:List Zit} (h:Nm w N O P id s t qs i z y) (hi:qs.length<=i):Nd w N O P id s t qs:=by
 have g:=h.le
 refine ⟨h.blk,h.out,h.up,h.cid,h.ts,h.tt,h.cnt,h.le,fun j f=> ?_⟩
 have:=h.vs j f
 rw[if_pos (by omega),if_pos (by omega)] at this
 rw[if_pos (by omega),if_pos (by omega)]
 exact this
section
open Go.Shelf Go.Lib

theorem qJ {l:List (Int×Int)} (g:l.length<=400) (h:∀x∈l,am x=true):bL l=0:=by
 unfold bL
 rw[if_neg (by omega),if_neg]
 rw[ru fun j f=>h _ (List.getElem_mem f)]
 simp
theorem dP {t:Tab} (h:aw t=0) (p:Cel->Bool):(ar p t.e).length<=400/\∀x∈ar p t.e,am x=true:=by
 refine ⟨nT (dX _ _) (aj h).2.1,?_⟩
 intro x f
 obtain ⟨y,g,rfl⟩:=List.mem_map.1 f
 exact lw (cX (aj h).1) (bV h (List.mem_filter.1 g).1)
theorem kJ {l:List (Int×Int)} (j:l.length<=400) (h:∀x∈l,am x=true):aN (aH l)=0/\∀x,ai (aH l) x=true↔x∈l:=by
 have f:aH l=gp aI l:=by unfold aH;rw[if_pos (qJ j h)]
 have g:Can (gp aI l):=pE rfl (by decide) h
 refine ⟨?_,fun x=> ?_⟩
 ·rw[f]
  refine jV g ?_
  unfold gp
  have:=jX aI (srt l) (srt l).length
  rw[fI] at this ⊢
  have r:aI.l.length=0:=rfl
  omega
 ·rw[f,pF rfl h]
  constructor
  ·rintro (k|k)
   ·exfalso
    rcases (aG aI x).1 k with m|m
    ·cases m
    ·have n:clk aI x.1=0:=by unfold clk aI;simp
     have:=m.2.2.1
     have:=m.2.2.2
     omega
   ·exact k
  ·exact oR
theorem gz {t:Tab} (h:aw t=0) {p:Cel->Bool} {y:Cel} (f:y∈t.e):y.1∈ar p t.e↔p y=true:=by
 unfold ar
 rw[List.mem_map]
 constructor
 ·rintro ⟨z,g,e⟩
  have:=List.mem_filter.1 g
  rw[<-AY h y f z this.1 e];exact this.2
 ·intro k;exact ⟨y,List.mem_filter.2 ⟨f,k⟩,rfl⟩

theorem An {t:Tab} {n key col v:Int} (h:dL t n key col v=0):∃N:Int×Int,dc t n key col v=⟨(dc t n key col v).c,[(N,key,col,v)]⟩/\N.1=n/\ai t.c N=false/\aw t=0/\aw (dc t n key col v)=0/\aX key col v=true/\∀x,ai (dc t n key col v).c x=true↔x∈ar (dn key col) t.e\/x=N:=by
 have F:dc t n key col v=⟨aK (aH (ar (dn key col) t.e)) (aH [(bi t.c n).1]),[((bi t.c n).1,key,col,v)]⟩:=by unfold dc;rw[if_pos h]
 have hp:aw t=0/\aX key col v=true/\(bi t.c n).2=0/\bL [(bi t.c n).1]=0/\aM (aH (ar (dn key col) t.e)) (aH [(bi t.c n).1])=0:=by
  unfold dL at h
  by_cases g:aw t=0
  ·rw[if_neg (by simpa using g)] at h
   cases u:aX key col v
   ·rw[if_pos u] at h;cases h
   ·rw[if_neg (by simp[u])] at h
    by_cases k:(bi t.c n).2=0
    ·rw[if_neg (by simpa using k)] at h
     by_cases r:bL (ar (dn key col) t.e)=0
     ·rw[if_neg (by simpa using r)] at h
      by_cases j:bL [(bi t.c n).1]=0
      ·rw[if_neg (by simpa using j)] at h
       exact ⟨g,rfl,k,j,h⟩
      ·rw[if_pos j] at h;exact absurd h j
     ·rw[if_pos r] at h;exact absurd h r
    ·rw[if_pos k] at h;exact absurd h k
  ·rw[if_pos g] at h;exact absurd h g
 obtain ⟨g,u,k,r,j⟩:=hp
 have C:=Aa k
 have E:am (bi t.c n).1=true:=by
  unfold bL at r
  by_cases R:oB [(bi t.c n).1]=true
  ·simp[R] at r
  ·cases hr:am (bi t.c n).1
   ·exact absurd (by unfold oB;simp[hr]) R
   ·rfl
 have hd:=dP g (dn key col)
 have m1:=kJ hd.1 hd.2
 have m2:=kJ (l:=[(bi t.c n).1]) (by simp) (by simpa using E)
 have f:∀x,ai (aK (aH (ar (dn key col) t.e)) (aH [(bi t.c n).1])) x=true↔x∈ar (dn key col) t.e\/x=(bi t.c n).1:=by
  intro x
  rw[(dx j).2.2.2,m1.2,m2.2]
  simp
 refine ⟨(bi t.c n).1,by rw[F],C.1,C.2,g,?_,u,by rw[F];exact f⟩
 rw[F]
 refine kC (dx j).2.1 (by simp) (by simp[Asc]) fun x hx=> ?_
 have L:x=((bi t.c n).1,key,col,v):=by simpa using hx
 subst L
 exact ⟨(f _).2 (oR rfl),u⟩
theorem xQ {t:Tab} {n key col v:Int} (h:dL t n key col v=0) (E:au t (dc t n key col v)=0):∃N:Int×Int,ai t.c N=false/\N.1=n/\∀y,y∈(ag t (dc t n key col v)).e↔(y∈t.e/\dn key col y=false)\/y=(N,key,col,v):=by
 obtain ⟨N,L,F,j,C,hp,_,g⟩:=An h
 obtain ⟨_,_,r,_,_⟩:=bQ E
 refine ⟨N,j,F,fun y=> ?_⟩
 rw[aP E]
 show y∈mrg t _↔_
 rw[dF r]
 have u:y∈(dc t n key col v).e↔y=(N,key,col,v):=by rw[L];simp
 rw[u]
 constructor
 ·rintro (⟨f,k⟩|⟨f,k⟩|⟨f,k⟩)
  ·exact oR k
  ·refine oL ⟨f,?_⟩
   cases hf:dn key col y
   ·rfl
   ·have:=(g y.1).2 (oL ((gz C f).2 hf))
    rw[k] at this;cases this
  ·exact oR f
 ·rintro (⟨f,k⟩|f)
  ·refine oR (oL ⟨f,?_⟩)
   cases R:ai (dc t n key col v).c y.1
   ·rfl
   ·rcases (g y.1).1 R with m|m
    ·rw[(gz C f).1 m] at k;cases k
    ·have:=bV C f
     rw[m,j] at this;cases this
  ·refine oR (oR ⟨f,?_⟩)
   rw[f];exact j
theorem pw {t:Tab} {key:Int} (h:ff t key=0):aw t=0/\key∈cg t.e/\au t ⟨cO t key,[]⟩=0/\∀y,y∈(ag t ⟨cO t key,[]⟩).e↔y∈t.e/\y.2.1≠key:=by
 have hp:aw t=0/\t.e.any (eP key)=true:=by
  unfold ff at h
  by_cases h1:aw t=0
  ·rw[if_neg (by simpa using h1)] at h
   cases h2:inB key 0 49
   ·rw[if_pos h2] at h;cases h
   ·rw[if_neg (by simp[h2])] at h
    cases h3:t.e.any (eP key)
    ·rw[if_pos h3] at h;cases h
    ·exact ⟨h1,rfl⟩
  ·rw[if_pos h1] at h;exact absurd h h1
 obtain ⟨f,r⟩:=hp
 have hC:cO t key=aH (ar (eP key) t.e):=by unfold cO;rw[if_pos h]
 have hd:=dP f (eP key)
 have hm:=kJ hd.1 hd.2
 have C:key∈cg t.e:=by
  obtain ⟨y,R,hf⟩:=List.any_eq_true.1 r
  exact List.mem_map.2 ⟨y,R,by simpa[eP] using hf⟩
 have j:aw ⟨cO t key,[]⟩=0:=by rw[hC];exact kC hm.1 (by simp) (by simp[Asc]) (fun x L=>by cases L)
 have u:dU t ⟨cO t key,[]⟩=false:=noclash.2 fun x L y R=>by cases R
 have F:∀x,ai (cO t key) x=true->ai t.c x=true:=by
  intro x L
  rw[hC,hm.2] at L
  obtain ⟨y,R,rfl⟩:=List.mem_map.1 L
  exact bV f (List.mem_filter.1 R).1
 have hj:=vy (aj f).1 (aj j).1 F
 have g:∀y,y∈mrg t ⟨cO t key,[]⟩↔y∈t.e/\y.2.1≠key:=by
  intro y
  rw[dF u]
  constructor
  ·rintro (⟨_,k⟩|⟨k1,k2⟩|⟨k,_⟩)
   ·cases k
   ·refine ⟨k1,fun e=> ?_⟩
    have:ai (cO t key) y.1=true:=by rw[hC,hm.2];exact (gz f k1).2 (by simp[eP,e])
    rw[k2] at this;cases this
   ·cases k
  ·rintro ⟨k1,k2⟩
   refine oR (oL ⟨k1,?_⟩)
   show ai (cO t key) y.1=false
   cases hb:ai (cO t key) y.1
   ·rfl
   ·rw[hC,hm.2,gz f k1] at hb
    simp[eP] at hb
    exact absurd hb k2
 have E:(mrg t ⟨cO t key,[]⟩).length<=400:=by
  have n:(mrg t ⟨cO t key,[]⟩)=t.e.filter (fun y=>decide (y.2.1≠key)):=by
   refine ku (fU f j) (List.Pairwise.filter _ (eo f)) fun y=> ?_
   rw[g,List.mem_filter]
   simp
  rw[n]
  exact nT (List.length_filter_le _ _) (aj f).2.1
 have h0:au t ⟨cO t key,[]⟩=0:=jp f j u hj.1 E
 exact ⟨f,C,h0,by rw[aP h0];exact g⟩
end
end Go.Proofs.YtjmmpnmgpgaagaaGreatDoor

namespace Go.Proofs.YtjmmpnmgpgaagaaGreatDoor

theorem BT {t:Tab} {n key col v:Int} (h:dL t n key col v=0) (j:au t (dc t n key col v)=0):∃N:Int×Int,aw t=0/\N.1=n/\ai t.c N=false/\(∀y,y∈(ag t (dc t n key col v)).e↔(y∈t.e/\dn key col y=false)\/y=(N,key,col,v))/\∀x,ai (ag t (dc t n key col v)).c x=true↔ai t.c x=true\/x=N:=by
 obtain ⟨N,L,F,f,C,hp,_,g⟩:=An h
 obtain ⟨ad,_,_,E⟩:=xQ h j
 obtain ⟨_,_,r,R,_⟩:=bQ j
 have u:((N,key,col,v):Cel)∈(ag t (dc t n key col v)).e:=by
  rw[aP j]
  show _∈mrg t _
  rw[dF r]
  exact oR (oR ⟨by rw[L];simp,f⟩)
 obtain rfl:ad=N:=by
  rcases (E _).1 u with k|k
  ·have:=bV C k.1
   rw[show ((N,key,col,v):Cel).1=N from rfl,f] at this;cases this
  ·exact (congrArg (fun c:Cel=>c.1) k).symm
 refine ⟨ad,C,F,f,E,fun x=> ?_⟩
 rw[aP j]
 show ai (aK t.c _) x=true↔_
 rw[(dx R).2.2.2,g]
 constructor
 ·rintro (k|k|k)
  ·exact oL k
  ·obtain ⟨y,hy,rfl⟩:=List.mem_map.1 k
   exact oL (bV C (List.mem_filter.1 hy).1)
  ·exact oR k
 ·rintro (k|k)
  ·exact oL k
  ·exact oR (oR k)

variable {t a b:Tab} {key col v w:Int} {N M:Int×Int}
theorem Bj {t:Tab} {key:Int} (h:ff t key=0) (x:Int×Int) (j:ai (cO t key) x=true):ai t.c x=true:=by
 have g:=(pw h).1
 have k:cO t key=aH (ar (eP key) t.e):=by unfold cO;rw[if_pos h]
 have f:=dP g (eP key)
 have n:=kJ f.1 f.2
 rw[k,n.2] at j
 obtain ⟨y,r,rfl⟩:=List.mem_map.1 j
 exact bV g (List.mem_filter.1 r).1
end Go.Proofs.YtjmmpnmgpgaagaaGreatDoor

namespace Go.Proofs.YtjmmpnmgpgaagaaGreatDoor
open Go.RowKit Go.Sort

theorem vz {l:List (Int×Int)}:∀ {m:List (Int×Int)},l.Nodup->(∀x∈l,x∈m)->l.length<=m.length:=by
 induction l with
 | nil=>intro m _ _;exact nZ _
 | cons x r ih =>
  intro m h g
  have j:=g x (mS ..)
  have f:=List.nodup_cons.1 h
  have n:=ih (m:=m.erase x) f.2 fun y k=>(List.mem_erase_of_ne (fun e=>f.1 (by rw[<-e];exact k))).2 (g y (mC _ k))
  rw[List.length_erase_of_mem j] at n
  have:0<m.length:=List.length_pos_of_mem j
  simp only[List.length_cons]
  omega
structure Uni (U:List Cel):Prop where
 nd:(U.map (·.1)).Nodup
 len:U.length<=400
theorem Uni.uq {U:List Cel} (h:Uni U):∀x∈U,∀y∈U,x.1=y.1->x=y:=jZ h.nd
structure Sub (U:List Cel) (t:Tab):Prop where
 ok:aw t=0
 cel:∀x∈t.e,x∈U
 ctx:∀d,ai t.c d=true->∃x∈U,x.1=d
theorem Sub.mono {U V:List Cel} {t:Tab} (h:Sub U t) (k:∀x∈U,x∈V):Sub V t :=
 ⟨h.ok,fun x f=>k x (h.cel x f),fun d g=>by obtain ⟨x,f,e⟩:=h.ctx d g;exact ⟨x,k x f,e⟩⟩
theorem Sub.noclash {U:List Cel} {a b:Tab} (f:Uni U) (g:Sub U a) (h:Sub U b):dU a b=false :=
 Go.Proofs.YtjmmpnmgpgaagaaGreatDoor.noclash.2 fun x j y k e=>f.uq y (h.cel y k) x (g.cel x j) e
theorem xm {c:Ctx} {d:Int×Int} (h:d∈c.l):ai c d=true:=by
 unfold ai
 rw[List.contains_iff_mem.2 h]
 rfl
theorem CX {l:List (Int×Int)} (h:l.Pairwise fun x y=>br x y=true):l.Nodup:=by
 refine List.Pairwise.imp ?_ h
 intro a b f e
 rw[e,uY] at f
 cases f
theorem Sub.merge {U:List Cel} {a b:Tab} (hU:Uni U) (u:Sub U a) (C:Sub U b):au a b=0/\Sub U (ag a b)/\(∀d,ai (ag a b).c d=true↔ai a.c d=true\/ai b.c d=true)/\∀x,x∈(ag a b).e↔(x∈a.e/\x∈b.e)\/(x∈a.e/\ai b.c x.1=false)\/(x∈b.e/\ai a.c x.1=false):=by
 have j:=Sub.noclash hU u C
 have E:=(aj u.ok).1
 have F:=(aj C.ok).1
 have n:=cX E
 have r:=cX F
 have f:∀d,ai (eF a.c b.c) d=true->d∈U.map (·.1):=fun d k=>by
  rcases (eS n r d).1 k with h|h
  ·obtain ⟨x,g,e⟩:=u.ctx d h
   exact List.mem_map.2 ⟨x,g,e⟩
  ·obtain ⟨x,g,e⟩:=C.ctx d h
   exact List.mem_map.2 ⟨x,g,e⟩
 have R:(eF a.c b.c).l.length<=400:=by
  have:=vz (CX (fv n r).rise) fun d k=>f d (xm k)
  rw[List.length_map] at this
  have:=hU.len
  omega
 have hj:=nu E F R
 have ad:=fun x=>dF j (x:=x)
 have L:∀x∈mrg a b,x∈U:=fun x g=>by
  rcases lA j g with h|h
  ·exact u.cel x h
  ·exact C.cel x h
 have hm:(mrg a b).length<=400:=by
  have:=vz (jf (fU u.ok C.ok)) (m:=U.map (·.1)) fun d k=>by
   obtain ⟨x,g,e⟩:=List.mem_map.1 k
   exact List.mem_map.2 ⟨x,L x g,e⟩
  rw[List.length_map,List.length_map] at this
  have:=hU.len
  omega
 have h0:=jp u.ok C.ok j hj hm
 have hT:=aP h0
 have ah:=dv h0
 have hC:=(et hj).2.2.2.1
 rw[hT] at ah ⊢
 refine ⟨h0,⟨ah,L,fun d k=> ?_⟩,fun d=> ?_,ad⟩
 ·have:ai (eF a.c b.c) d=true:=by rw[<-hC];exact k
  obtain ⟨x,g,e⟩:=List.mem_map.1 (f d this)
  exact ⟨x,g,e⟩
 ·show ai (aK a.c b.c) d=true↔_
  rw[hC]
  exact eS n r d
section
variable {U:List Cel} {a b c m:Tab}
theorem Sub.comm (f:Uni U) (g:Sub U a) (h:Sub U b):ag a b=ag b a:=(xo (Sub.merge f g h).1).2.symm
theorem Sub.assoc (f:Uni U) (j:Sub U a) (k:Sub U b) (n:Sub U c):ag (ag a b) c=ag a (ag b c) :=
 have g:=Sub.merge f j k
 have h:=Sub.merge f k n
 sw g.1 (Sub.merge f g.2.1 n).1 h.1 (Sub.merge f j h.2.1).1
theorem Sub.idem (f:Sub U a):ag a a=a:=(ug f.ok).2
def Bel (a b:Tab):Prop:=ag b a=b
theorem Bel.refl (f:Sub U a):Bel a a:=Sub.idem f
theorem Bel.left (f:Uni U) (g:Sub U a) (h:Sub U b):Bel a (ag a b):=(sv (Sub.merge f g h).1).2
theorem Bel.right (f:Uni U) (g:Sub U a) (h:Sub U b):Bel b (ag a b):=by
 rw[Sub.comm f g h]
 exact Bel.left f h g
theorem Bel.trans (f:Uni U) (g:Sub U a) (j:Sub U b) (n:Sub U c) (h:Bel a b) (k:Bel b c):Bel a c:=by
 unfold Bel at *
 rw[<-k,Sub.assoc f n j g,h]
theorem Bel.anti (f:Uni U) (g:Sub U a) (j:Sub U b) (h:Bel a b) (k:Bel b a):a=b:=by
 exact k.symm.trans ((Sub.comm f g j).trans h)
theorem Bel.both (f:Uni U) (g:Sub U a) (j:Sub U b) (n:Sub U m) (h:Bel a m) (k:Bel b m):Bel (ag a b) m:=by
 unfold Bel at *
 rw[<-Sub.assoc f n g j,h,k]
end

theorem sz (a b:Ctx) (A B:Option ix) (ca cb:Nat) (w:X) (L:bv a=true) (R:bv b=true) (a8:a.l.length<=400) (ba:b.l.length<=400) (bn:Row w A a.l) (bo:Row w B b.l) :
  Calls Tryz.prog 233 #[ik #[S I a.c0,S I a.c1,S I a.c2,S I a.c3,J A a.l.length ca],ik #[S I b.c0,S I b.c1,S I b.c2,S I b.c3,J B b.l.length cb]] w fun e w'=>∃C cp,e= .returned (ia #[J C (iz a b).length cp,S I (gB a b)])/\Row w' C (iz a b)/\(C=none->cp=0)/\(∀x,C=some x->w.heap.size<=x.block)/\Y w.heap.size w w':=by
 have bb:Gr w ((w.alloc (H #[S I a.c0,S I a.c1,S I a.c2,S I a.c3,J A a.l.length ca] 53)).alloc (H #[S I b.c0,S I b.c1,S I b.c2,S I b.c3,J B b.l.length cb] 53)):=((gR w).alloc _).alloc _
 have bs:CtxAt ((w.alloc (H #[S I a.c0,S I a.c1,S I a.c2,S I a.c3,J A a.l.length ca] 53)).alloc (H #[S I b.c0,S I b.c1,S I b.c2,S I b.c3,J B b.l.length cb] 53)) w.heap.size a A ca:=(CtxAt.new 53 bn rfl).gr ((gR _).alloc _)
 have bC:CtxAt ((w.alloc (H #[S I a.c0,S I a.c1,S I a.c2,S I a.c3,J A a.l.length ca] 53)).alloc (H #[S I b.c0,S I b.c1,S I b.c2,S I b.c3,J B b.l.length cb] 53)) (w.heap.size+1) b B cb:=CtxAt.new 53 (bo.gr ((gR _).alloc _)) (by simp)
 have bh:=ja2 L R
 clear L R
 have a6:∀x,A=some x->a.l≠[]->x.block<w.heap.size+1+1:=fun x hx hl=>by have:=bn.lt x hx hl;omega
 have a7:∀x,B=some x->b.l≠[]->x.block<w.heap.size+1+1:=fun x hx hl=>by have:=bo.lt x hx hl;omega
 have F:=ja1 bb.below
 clear bb
 go_enter Tryz.func233,Tryz.ntmps233
 go_wp2
 go_loopw [6,8] (fun v i wr=>∃k:Nat,k<=4/\i= S I k/\(bm a b k).length<=400/\Own wr (w.heap.size+1+1) v (bm a b k)/\Y (w.heap.size+1+1) ((w.alloc (H #[S I a.c0,S I a.c1,S I a.c2,S I a.c3,J A a.l.length ca] 53)).alloc (H #[S I b.c0,S I b.c1,S I b.c2,S I b.c3,J B b.l.length cb] 53)) wr) (fun _ i _=>4-(intOf i).toNat)
 case atStart=>exact ⟨0,by omega,rfl,by simp[bm],Own.nil _ _,bR _ _⟩
 case round =>
  obtain ⟨k,hk,rfl,ce,ah,f⟩:=hrel
  obtain ⟨A1,E,rfl,bp,u,bc⟩:=ah.row
  have bt:=CtxAt.belowB bs f (by omega) a6
  have bG:=CtxAt.belowB bC f (by omega) a7
  obtain ⟨a0,a1,a2,a3,a4,b7,ao⟩:=(show CtxAt _ _ _ _ _ from bt)
  obtain ⟨b0,b1,b2,b3,b4,b8,ap⟩:=(show CtxAt _ _ _ _ _ from bG)
  have b5:w.heap.size+1+1<=wr.heap.size:=by have h1:=f.size;simp at h1;omega
  by_cases cd:k<4
  ·have bd:(k:Int)<4:=by omega
   have cc:=xt a b k
   have r:=rt a b A B ca cb (J A1 (bm a b k).length E) (bm a b k) k (w.heap.size+1+1) wr (by omega) bd bh.out.1 bh.out.2 a8 ba (by omega) ao ap a6 a7 ah b5
   have h:Z _:=r
   clear r ah u
   go_wp2_with fail
   refine ja0 h ?_
   rintro e w2 ⟨v2,rfl,j,a9⟩
   change Own w2 _ v2 (bm a b (k+1)) at j
   clear h a0 a1 a2 a3 a4 b0 b1 b2 b3 b4
   obtain ⟨A2,b6,rfl,b9,bN,_⟩:=j.row
   have an:=ja1 j
   have n:=ja1 (f.trans a9)
   clear j f a9
   by_cases a5:400<(bm a b (k+1)).length
   ·have ad:(400:Int)<((bm a b (k+1)).length:Int):=by omega
    have g:Z (gB a b=2/\iz a b=[]):=un (by omega) a5
    go_wp2
    go_ret2
    rw[g.out.1,g.out.2]
    exact ⟨none,0,rfl,oL rfl,fun _=>rfl,(fun x hx=>by cases hx),F.out.trans (n.out.mono (by omega))⟩
   ·have ad:¬(400:Int)<((bm a b (k+1)).length:Int):=by omega
    go_wp2
    go_roundw
    case rel=>exact ⟨k+1,by omega,by go_num,by omega,an.out,n.out⟩
    case measure=>simp[intOf];omega
  ·obtain rfl:k=4:=by omega
   have g:Z (gB a b=0/\iz a b=bm a b 4):=by
    exact ⟨by unfold gB;rw[if_neg (by omega)],by unfold iz;rw[if_neg (by omega)]⟩
   have bl:=ja1 u
   have be:Z (∀x,A1=some x->w.heap.size<=x.block):=fun x hx=>by have:=(bc x hx).1;omega
   clear a0 a1 a2 a3 a4 b0 b1 b2 b3 b4
   go_wp2
   go_ret2
   rw[g.out.1,g.out.2]
   exact ⟨A1,E,rfl,bl.out,bp,be.out,F.out.trans (f.mono (by omega))⟩

theorem ClkAt.belowB {w w':X} {B N:Nat} {g n r u:Int} (h:ClkAt w B g n r u) (k:Y N w w') (f:B<N):ClkAt w' B g n r u :=
 ⟨(k.cell (p:=⟨B,0,none⟩) f).trans h.k0,(k.cell (p:=⟨B,1,none⟩) f).trans h.k1,(k.cell (p:=⟨B,2,none⟩) f).trans h.k2,(k.cell (p:=⟨B,3,none⟩) f).trans h.k3,fun j=>(k.frozen (p:=⟨B,j,none⟩) f).trans (h.fz j),nL h.lt k.size⟩
theorem ClkAt.below {w w':X} {B:Nat} {f g j n:Int} (h:ClkAt w B f g j n) (k:Y w.heap.size w w'):ClkAt w' B f g j n:=h.belowB k h.lt

def iw (b:Ctx) (d:Int×Int):Ctx:=if inB d.1 0 3 && decide (1<=d.2) then setClk b d.1 (min (clk b d.1) (d.2-1)) else b
theorem iQ {b:Ctx} {d:Int×Int} (h:am d=true):iw b d=setClk b d.1 (min (clk b d.1) (d.2-1)):=by
 have:(inB d.1 0 3 && decide (1<=d.2))=true:=by
  unfold am inB at h
  simp only[Bool.and_eq_true,decide_eq_true_eq] at h
  simp[inB];omega
 unfold iw
 rw[if_pos this]
def bk (c:Ctx) (l:List (Int×Int)) (k:Nat):Ctx:=(l.take k).foldl iw ⟨c.c0,c.c1,c.c2,c.c3,l⟩
theorem ue {c:Ctx} {l:List (Int×Int)} {k:Nat} (h:k<l.length) {x:Int×Int} (f:l[k]=x):bk c l (k+1)=iw (bk c l k) x:=by
 unfold bk
 rw[List.take_succ_eq_append_getElem h,List.foldl_append,f]
 rfl
def bX (c:Ctx) (l:List (Int×Int)):Ctx:=l.foldl iw ⟨c.c0,c.c1,c.c2,c.c3,l⟩
theorem BG (b:Ctx) (d:Int×Int):(iw b d).l=b.l:=by
 unfold iw
 by_cases h:(inB d.1 0 3 && decide (1<=d.2))=true
 ·rw[if_pos h,eB]
 ·rw[if_neg h]
theorem xf (m:List (Int×Int)):∀b:Ctx,(m.foldl iw b).l=b.l:=by
 induction m with
 | nil=>intro b;rfl
 | cons d m ih=>intro b;rw[List.foldl_cons,ih,BG]
theorem ud (c:Ctx) (l:List (Int×Int)):(bX c l).l=l:=by unfold bX;rw[xf]
theorem zU {b:Ctx} {d:Int×Int} (g:bv b=true) (f:am d=true):bv (iw b d)=true:=by
 rw[iQ f]
 unfold am inB at f
 simp only[Bool.and_eq_true,decide_eq_true_eq] at f
 obtain ⟨⟨j,r⟩,k,n⟩:=f
 have h:d.1=0\/d.1=1\/d.1=2\/d.1=3:=by omega
 obtain ⟨x,y⟩:=d
 simp only at h j r k n
 unfold bv inB at g ⊢
 simp only[Bool.and_eq_true,decide_eq_true_eq] at g ⊢
 rcases h with rfl|rfl|rfl|rfl<;>simp[setClk,clk]<;>omega
theorem vD {c:Ctx} {l:List (Int×Int)} (h:bv c=true) (j:∀x∈l,am x=true):bv (bX c l)=true:=by
 unfold bX
 have:∀(m:List (Int×Int)) (b:Ctx),bv b=true->(∀x∈m,am x=true)->bv (m.foldl iw b)=true:=by
  intro m
  induction m with
  | nil=>intro b f _;exact f
  | cons d m ih=>intro b f g;rw[List.foldl_cons];exact ih _ (zU f (g d (by simp))) (fun x k=>g x (by simp[k]))
 exact this l _ h j
def woE (c:Ctx) (l:List (Int×Int)):Int:=if aN c≠0 then aN c else gB c (bX c l)
def woC (c:Ctx) (l:List (Int×Int)):Ctx:=if woE c l=0 then ⟨(bX c l).c0,(bX c l).c1,(bX c l).c2,(bX c l).c3,iz c (bX c l)⟩ else aI

theorem tm (c:Ctx) (l:List (Int×Int)) (A L:Option ix) (ca cl:Nat) (w:X) (hl:c.l.length<=maxLen) (hll:l.length<=400) (hri:∀x∈l,am x=true) (hr:Row w A c.l) (hrl:Row w L l) :
  Calls Tryz.prog 201 #[ik #[S I c.c0,S I c.c1,S I c.c2,S I c.c3,J A c.l.length ca],J L l.length cl] w fun e w'=>∃C cp,e= .returned (ia #[ik #[S I (woC c l).c0,S I (woC c l).c1,S I (woC c l).c2,S I (woC c l).c3,J C (woC c l).l.length cp],S I (woE c l)])/\Row w' C (woC c l).l/\(C=none->cp=0)/\(∀x,C=some x->w.heap.size<=x.block)/\Y w.heap.size w w':=by
 have mixed:Tryz.prog.follows .mixedOrders=true:=by kernel_rfl
 have hg0:Gr w ((w.alloc (H #[S I c.c0,S I c.c1,S I c.c2,S I c.c3,J A c.l.length ca] 53)).alloc (H #[S I 0,S I 0,S I 0,S I 0,J none 0 0] 53)):=((gR w).alloc _).alloc _
 have hc0:CtxAt ((w.alloc (H #[S I c.c0,S I c.c1,S I c.c2,S I c.c3,J A c.l.length ca] 53)).alloc (H #[S I 0,S I 0,S I 0,S I 0,J none 0 0] 53)) w.heap.size c A ca:=(CtxAt.new 53 hr rfl).gr ((gR _).alloc _)
 have hz0:ZAt ((w.alloc (H #[S I c.c0,S I c.c1,S I c.c2,S I c.c3,J A c.l.length ca] 53)).alloc (H #[S I 0,S I 0,S I 0,S I 0,J none 0 0] 53)) (w.heap.size+1):=ZAt.new _ 53 (by simp)
 have hck:=fs c A ca _ hl hc0.row
 have hckH:Z _:=hck
 clear hck
 go_enter Tryz.func201,Tryz.ntmps201
 go_wp2_with fail
 refine ja0 hckH ?_
 rintro e w1 ⟨rfl,hg1⟩
 clear hckH
 have hc1:=hc0.gr hg1
 have hz1:=hz0.below hg1.below
 have hbw1:Y w.heap.size w w1:=(hg0.trans hg1).below
 have hrl1:=hrl.gr (hg0.trans hg1)
 clear hg0 hc0 hz0 hg1 hr hrl
 obtain ⟨E1,hE1⟩:∃E,aN c=E:=⟨_,rfl⟩
 rw[hE1]
 by_cases h1:E1=0
 ·subst h1
  have heH:Z (aN c=0):=hE1
  clear hE1
  obtain ⟨c0,c1,c2,c3,c4,clt,crow⟩:=(show CtxAt _ _ _ _ _ from hc1)
  have hk1:ClkAt (w1.alloc (H #[S I c.c0,S I c.c1,S I c.c2,S I c.c3] 50)) w1.heap.size c.c0 c.c1 c.c2 c.c3:=⟨aa (gR _) rfl,aa (gR _) rfl,aa (gR _) rfl,aa (gR _) rfl,fun j=>f9 (gR _) j,by simp⟩
  have hb1:Y w1.heap.size w1 (w1.alloc (H #[S I c.c0,S I c.c1,S I c.c2,S I c.c3] 50)):=((gR _).alloc _).below
  go_wp2
  generalize w1.alloc (H #[S I c.c0,S I c.c1,S I c.c2,S I c.c3] 50)=w2 at hk1 hb1 ⊢
  have hcH:Z (CtxAt w1 w.heap.size c A ca):=hc1
  clear c0 c1 c2 c3 c4 clt crow hc1
  go_loopw [22] (fun i wr=>∃k:Nat,k<=l.length/\i= S I k/\ClkAt wr w1.heap.size (bk c l k).c0 (bk c l k).c1 (bk c l k).c2 (bk c l k).c3/\Y w1.heap.size w1 wr) (fun i _=>l.length-(intOf i).toNat)
  case atStart=>exact ⟨0,by omega,rfl,hk1,hb1⟩
  case round =>
   obtain ⟨k,hk,rfl,hat,hbel⟩:=hrel
   have hsR:=hbel.size
   have hltR:=hat.lt
   by_cases hlt:k<l.length
   ·have hltz:(k:Int)<(l.length:Int):=by omega
    obtain ⟨bb,off,rfl,hbb,hcs⟩:=(hrl1.below hbel).at hlt
    obtain ⟨⟨x,y⟩,hx⟩:∃x,l[k]=x:=⟨_,rfl⟩
    obtain ⟨e0,e1⟩:=hcs k hlt
    rw[hx] at e0 e1
    have hst:=ue (c:=c) hlt hx
    have hrx:=hri _ (gM hlt)
    rw[hx] at hrx
    rw[iQ hrx] at hst
    have hrb:(0<=x/\x<=3)/\1<=y/\y<=1099511627776:=by
     unfold am inB at hrx
     simpa only[Bool.and_eq_true,decide_eq_true_eq] using hrx
    obtain ⟨⟨hx0,hx3⟩,hy1,hy2⟩:=hrb
    obtain ⟨B,HB⟩:∃B,bk c l k=B:=⟨_,rfl⟩
    rw[HB] at hat hst
    have hstH:Z (bk c l (k+1)=setClk B x (min (clk B x) (y-1))):=hst
    have hgD:Gr wr (wr.alloc (H #[S I x,S I y] 185)):=(gR _).alloc _
    have hd0:=(DotAt.new (w:=wr) (x:=x) (y:=y) 185 rfl)
    have hatD:ClkAt (wr.alloc (H #[S I x,S I y] 185)) w1.heap.size B.c0 B.c1 B.c2 B.c3:=hat.below hgD.below
    have hbD:Y w1.heap.size w1 (wr.alloc (H #[S I x,S I y] 185)):=hbel.trans (hgD.below.mono hsR)
    have hatH:Z (ClkAt wr w1.heap.size B.c0 B.c1 B.c2 B.c3):=hat
    clear hcs hx hrx HB hat hst
    obtain ⟨d0,d1,dlt⟩:=(show DotAt _ _ _ _ from hd0)
    obtain ⟨q0,q1,q2,q3,qf,qlt⟩:=(show ClkAt _ _ _ _ _ _ from hatD)
    have h4:x=0\/x=1\/x=2\/x=3:=by omega
    rcases h4 with rfl|rfl|rfl|rfl
    ·go_wp2_with (first|(go_at_call 151;refine (cZ _ _).mono ?_;rintro e w' ⟨rfl,rfl⟩)|fail)
     generalize wr.alloc (H #[S I 0,S I y] 185)=wD at hatD hbD hd0 d0 d1 dlt q0 q1 q2 q3 qf qlt ⊢
     by_cases hgt:B.c0<=y-1
     ·have hmx:min B.c0 (y-1)=B.c0:=by omega
      have h5H:Z (ClkAt ((wD.setCell ⟨w1.heap.size,0,none⟩ (S I B.c0)).drew) w1.heap.size (bk c l (k+1)).c0 (bk c l (k+1)).c1 (bk c l (k+1)).c2 (bk c l (k+1)).c3):=by
       show ClkAt _ _ _ _ _ _
       have h5:=(hatD.set 0 B.c0).below (bR _ _).drew
       rw[hstH.out]
       simpa[setClk,clk,hmx] using h5
      have hb5:Z (Y w1.heap.size w1 ((wD.setCell ⟨w1.heap.size,0,none⟩ (S I B.c0)).drew)):=(hbD.setCell (nR _) _).drew
      clear hatD hbD
      go_region
      go_wp2
      go_roundw
      case rel=>exact ⟨k+1,by omega,by go_num,h5H.out,hb5.out⟩
      case measure=>simp[intOf];omega
     ·have hmx:min B.c0 (y-1)=(y-1):=by omega
      have h5H:Z (ClkAt ((wD.setCell ⟨w1.heap.size,0,none⟩ (S I (y-1))).drew) w1.heap.size (bk c l (k+1)).c0 (bk c l (k+1)).c1 (bk c l (k+1)).c2 (bk c l (k+1)).c3):=by
       show ClkAt _ _ _ _ _ _
       have h5:=(hatD.set 0 (y-1)).below (bR _ _).drew
       rw[hstH.out]
       simpa[setClk,clk,hmx] using h5
      have hb5:Z (Y w1.heap.size w1 ((wD.setCell ⟨w1.heap.size,0,none⟩ (S I (y-1))).drew)):=(hbD.setCell (nR _) _).drew
      clear hatD hbD
      go_region
      go_wp2
      go_roundw
      case rel=>exact ⟨k+1,by omega,by go_num,h5H.out,hb5.out⟩
      case measure=>simp[intOf];omega
    ·go_wp2_with (first|(go_at_call 151;refine (cZ _ _).mono ?_;rintro e w' ⟨rfl,rfl⟩)|fail)
     generalize wr.alloc (H #[S I 1,S I y] 185)=wD at hatD hbD hd0 d0 d1 dlt q0 q1 q2 q3 qf qlt ⊢
     by_cases hgt:B.c1<=y-1
     ·have hmx:min B.c1 (y-1)=B.c1:=by omega
      have h5H:Z (ClkAt ((wD.setCell ⟨w1.heap.size,1,none⟩ (S I B.c1)).drew) w1.heap.size (bk c l (k+1)).c0 (bk c l (k+1)).c1 (bk c l (k+1)).c2 (bk c l (k+1)).c3):=by
       show ClkAt _ _ _ _ _ _
       have h5:=(hatD.set 1 B.c1).below (bR _ _).drew
       rw[hstH.out]
       simpa[setClk,clk,hmx] using h5
      have hb5:Z (Y w1.heap.size w1 ((wD.setCell ⟨w1.heap.size,1,none⟩ (S I B.c1)).drew)):=(hbD.setCell (nR _) _).drew
      clear hatD hbD
      go_region
      go_wp2
      go_roundw
      case rel=>exact ⟨k+1,by omega,by go_num,h5H.out,hb5.out⟩
      case measure=>simp[intOf];omega
     ·have hmx:min B.c1 (y-1)=(y-1):=by omega
      have h5H:Z (ClkAt ((wD.setCell ⟨w1.heap.size,1,none⟩ (S I (y-1))).drew) w1.heap.size (bk c l (k+1)).c0 (bk c l (k+1)).c1 (bk c l (k+1)).c2 (bk c l (k+1)).c3):=by
       show ClkAt _ _ _ _ _ _
       have h5:=(hatD.set 1 (y-1)).below (bR _ _).drew
       rw[hstH.out]
       simpa[setClk,clk,hmx] using h5
      have hb5:Z (Y w1.heap.size w1 ((wD.setCell ⟨w1.heap.size,1,none⟩ (S I (y-1))).drew)):=(hbD.setCell (nR _) _).drew
      clear hatD hbD
      go_region
      go_wp2
      go_roundw
      case rel=>exact ⟨k+1,by omega,by go_num,h5H.out,hb5.out⟩
      case measure=>simp[intOf];omega
    ·go_wp2_with (first|(go_at_call 151;refine (cZ _ _).mono ?_;rintro e w' ⟨rfl,rfl⟩)|fail)
     generalize wr.alloc (H #[S I 2,S I y] 185)=wD at hatD hbD hd0 d0 d1 dlt q0 q1 q2 q3 qf qlt ⊢
     by_cases hgt:B.c2<=y-1
     ·have hmx:min B.c2 (y-1)=B.c2:=by omega
      have h5H:Z (ClkAt ((wD.setCell ⟨w1.heap.size,2,none⟩ (S I B.c2)).drew) w1.heap.size (bk c l (k+1)).c0 (bk c l (k+1)).c1 (bk c l (k+1)).c2 (bk c l (k+1)).c3):=by
       show ClkAt _ _ _ _ _ _
       have h5:=(hatD.set 2 B.c2).below (bR _ _).drew
       rw[hstH.out]
       simpa[setClk,clk,hmx] using h5
      have hb5:Z (Y w1.heap.size w1 ((wD.setCell ⟨w1.heap.size,2,none⟩ (S I B.c2)).drew)):=(hbD.setCell (nR _) _).drew
      clear hatD hbD
      go_region
      go_wp2
      go_roundw
      case rel=>exact ⟨k+1,by omega,by go_num,h5H.out,hb5.out⟩
      case measure=>simp[intOf];omega
     ·have hmx:min B.c2 (y-1)=(y-1):=by omega
      have h5H:Z (ClkAt ((wD.setCell ⟨w1.heap.size,2,none⟩ (S I (y-1))).drew) w1.heap.size (bk c l (k+1)).c0 (bk c l (k+1)).c1 (bk c l (k+1)).c2 (bk c l (k+1)).c3):=by
       show ClkAt _ _ _ _ _ _
       have h5:=(hatD.set 2 (y-1)).below (bR _ _).drew
       rw[hstH.out]
       simpa[setClk,clk,hmx] using h5
      have hb5:Z (Y w1.heap.size w1 ((wD.setCell ⟨w1.heap.size,2,none⟩ (S I (y-1))).drew)):=(hbD.setCell (nR _) _).drew
      clear hatD hbD
      go_region
      go_wp2
      go_roundw
      case rel=>exact ⟨k+1,by omega,by go_num,h5H.out,hb5.out⟩
      case measure=>simp[intOf];omega
    ·go_wp2_with (first|(go_at_call 151;refine (cZ _ _).mono ?_;rintro e w' ⟨rfl,rfl⟩)|fail)
     generalize wr.alloc (H #[S I 3,S I y] 185)=wD at hatD hbD hd0 d0 d1 dlt q0 q1 q2 q3 qf qlt ⊢
     by_cases hgt:B.c3<=y-1
     ·have hmx:min B.c3 (y-1)=B.c3:=by omega
      have h5H:Z (ClkAt ((wD.setCell ⟨w1.heap.size,3,none⟩ (S I B.c3)).drew) w1.heap.size (bk c l (k+1)).c0 (bk c l (k+1)).c1 (bk c l (k+1)).c2 (bk c l (k+1)).c3):=by
       show ClkAt _ _ _ _ _ _
       have h5:=(hatD.set 3 B.c3).below (bR _ _).drew
       rw[hstH.out]
       simpa[setClk,clk,hmx] using h5
      have hb5:Z (Y w1.heap.size w1 ((wD.setCell ⟨w1.heap.size,3,none⟩ (S I B.c3)).drew)):=(hbD.setCell (nR _) _).drew
      clear hatD hbD
      go_region
      go_wp2
      go_roundw
      case rel=>exact ⟨k+1,by omega,by go_num,h5H.out,hb5.out⟩
      case measure=>simp[intOf];omega
     ·have hmx:min B.c3 (y-1)=(y-1):=by omega
      have h5H:Z (ClkAt ((wD.setCell ⟨w1.heap.size,3,none⟩ (S I (y-1))).drew) w1.heap.size (bk c l (k+1)).c0 (bk c l (k+1)).c1 (bk c l (k+1)).c2 (bk c l (k+1)).c3):=by
       show ClkAt _ _ _ _ _ _
       have h5:=(hatD.set 3 (y-1)).below (bR _ _).drew
       rw[hstH.out]
       simpa[setClk,clk,hmx] using h5
      have hb5:Z (Y w1.heap.size w1 ((wD.setCell ⟨w1.heap.size,3,none⟩ (S I (y-1))).drew)):=(hbD.setCell (nR _) _).drew
      clear hatD hbD
      go_region
      go_wp2
      go_roundw
      case rel=>exact ⟨k+1,by omega,by go_num,h5H.out,hb5.out⟩
      case measure=>simp[intOf];omega
   ·have hltz:¬(k:Int)<(l.length:Int):=by omega
    have hkl:bk c l k=bX c l:=by unfold bk bX;rw[List.take_of_length_le (by omega)]
    rw[hkl] at hat
    have hcR:=hcH.out.below hbel
    have hzR:=hz1.below hbel
    have hrlR:=hrl1.below hbel
    have hbwR:Y w.heap.size w wr:=hbw1.trans (hbel.mono hbw1.size)
    have hls:(bX c l).l=l:=ud c l
    have hok:=bx heH.out
    have hokL:=vD hok.1 hri
    have hrL:Row wr L (bX c l).l:=by rw[hls];exact hrlR
    have hLl:(bX c l).l.length<=400:=by rw[hls];exact hll
    obtain ⟨c0,c1,c2,c3,c4,clt,crow⟩:=(show CtxAt _ _ _ _ _ from hcR)
    obtain ⟨q0,q1,q2,q3,qf,qlt⟩:=(show ClkAt _ _ _ _ _ _ from hat)
    have hwoH:Z (woE c l=gB c (bX c l)/\woC c l=if gB c (bX c l)=0 then ⟨(bX c l).c0,(bX c l).c1,(bX c l).c2,(bX c l).c3,iz c (bX c l)⟩ else aI):=by
     have h2:woE c l=gB c (bX c l):=by unfold woE;rw[heH.out];simp
     exact ⟨h2,by unfold woC;rw[h2]⟩
    clear hkl hcH
    obtain ⟨B,HB⟩:∃B,bX c l=B:=⟨_,rfl⟩
    rw[HB] at hat hls hokL hrL hLl q0 q1 q2 q3 hwoH
    have hms:=sz c B A L ca cl wr hok.1 hokL hok.2.1 hLl crow hrL
    rw[hls] at hms
    have hmsH:Z _:=hms
    have hatK:Z (ClkAt wr w1.heap.size B.c0 B.c1 B.c2 B.c3):=hat
    have HBH:Z (bX c l=B):=HB
    clear hms hat crow hrL HB hok hokL hls
    go_wp2_with fail
    refine ja0 hmsH ?_
    rintro e w3 ⟨C,cp,rfl,hrC,hC0,hCb,hb3⟩
    clear hmsH c0 c1 c2 c3 c4 q0 q1 q2 q3 qf
    have hat3:=hatK.out.below hb3
    have hz3:=hzR.below hb3
    have hbw3:Y w.heap.size w w3:=hbwR.trans (hb3.mono hbwR.size)
    have hz1lt:=hz1.lt
    have hCn:Z (∀x,C=some x->x.block≠w.heap.size+1):=fun x hx=>by have:=hCb x hx;have:=hbel.size;omega
    have hCb3:Z (∀x,C=some x->w.heap.size<=x.block):=fun x hx=>nT hbwR.size (hCb x hx)
    obtain ⟨M,HM⟩:∃M,iz c B=M:=⟨_,rfl⟩
    obtain ⟨E3,HE⟩:∃E,gB c B=E:=⟨_,rfl⟩
    rw[HM] at hrC hwoH ⊢
    rw[HE] at hwoH ⊢
    clear HM HE hatK hzR hCb
    by_cases h3:E3=0
    ·subst h3
     have hfin:Z (woE c l=0/\woC c l=⟨B.c0,B.c1,B.c2,B.c3,M⟩):=⟨hwoH.out.1,by rw[hwoH.out.2,if_pos rfl]⟩
     obtain ⟨q0,q1,q2,q3,qf,qlt3⟩:=(show ClkAt _ _ _ _ _ _ from hat3)
     obtain ⟨z0,z1,z2,z3,z4,zf,zlt⟩:=(show ZAt _ _ from hz3)
     have hrCH:Z (Row w3 C M):=hrC
     have hbw:Z (Y w.heap.size w w3):=hbw3
     clear hrC hbw3 hwoH
     go_wp2
     rw[hfin.out.1,hfin.out.2]
     have h1:=hCn.out
     exact bodyPost_ret (v:= ia #[ik #[S I B.c0,S I B.c1,S I B.c2,S I B.c3,J C M.length cp],S I 0]) (by simp[results,Tryz.results201,go_sem,z0,z1,z2,z3,z4]) rfl ⟨C,cp,rfl,((((hrCH.out.setCell _ h1).setCell _ h1).setCell _ h1).setCell _ h1).setCell _ h1,hC0,hCb3.out,aZ hbw.out (by omega) _ _ _ _ _⟩
    ·have hfin:Z (woE c l=E3/\woC c l=aI):=⟨hwoH.out.1,by rw[hwoH.out.2,if_neg h3]⟩
     have heb:(E3 != 0)=true:=by simpa using h3
     obtain ⟨z0,z1,z2,z3,z4,zf,zlt⟩:=(show ZAt _ _ from hz3)
     have hbw:Z (Y w.heap.size w w3):=hbw3
     clear hrC hbw3 hwoH h3
     go_wp2
     rw[hfin.out.1,hfin.out.2]
     exact bodyPost_ret (v:= ia #[ik #[S I 0,S I 0,S I 0,S I 0,J none 0 0],S I E3]) (by simp[results,Tryz.results201,go_sem,z0,z1,z2,z3,z4]) rfl ⟨none,0,rfl,oL rfl,fun _=>rfl,(fun x hx=>by cases hx),aZ hbw.out (by omega) _ _ _ _ _⟩
 ·have hfin:Z (woE c l=E1/\woC c l=aI):=by
   have h2:woE c l=E1:=by unfold woE;rw[hE1,if_pos h1]
   exact ⟨h2,by unfold woC;rw[h2,if_neg h1]⟩
  have heb:(E1 != 0)=true:=by simpa using h1
  clear h1 hE1
  obtain ⟨z0,z1,z2,z3,z4,zf,zlt⟩:=(show ZAt _ _ from hz1)
  have hbw:Z (Y w.heap.size w w1):=hbw1
  go_wp2
  rw[hfin.out.1,hfin.out.2]
  exact bodyPost_ret (v:= ia #[ik #[S I 0,S I 0,S I 0,S I 0,J none 0 0],S I E1]) (by simp[results,Tryz.results201,go_sem,z0,z1,z2,z3,z4]) rfl ⟨none,0,rfl,oL rfl,fun _=>rfl,(fun x hx=>by cases hx),aZ hbw.out (by omega) _ _ _ _ _⟩


def cD (c:Ctx) (x:Cel):Bool:=ai c x.1
def gC (c:Ctx) (l:List Cel):List Cel:=l.filter fun x=> !cD c x
def bE (t:Tab) (c:Ctx):Int:=if aw t≠0 then aw t else if aN c≠0 then aN c else woE t.c (ar (cD c) t.e)
def bU (t:Tab) (c:Ctx):Tab:=if bE t c=0 then ⟨woC t.c (ar (cD c) t.e),gC c t.e⟩ else ⟨aI,[]⟩
theorem qe {t:Tab} {c:Ctx} {E:Int} (h:bE t c=E) (f:E≠0):bE t c=E/\bU t c=⟨aI,[]⟩:=⟨h,by unfold bU;rw[h,if_neg f]⟩

theorem ur {c:Ctx} {l:List Cel} {k:Nat} (h:k<l.length) {x:Cel} (f:l[k]=x):gC c (l.take (k+1))=gC c (l.take k)++(if cD c x then [] else [x]):=by
 unfold gC
 rw[iN h f]
 cases cD c x<;>simp
theorem xx (c:Ctx) (l:List Cel):(gC c l).length<=l.length:=List.length_filter_le _ _

theorem oE {t:Tab} (h:aw t=0) (p:Cel->Bool):∀x∈ar p t.e,am x=true:=by
 intro x f
 obtain ⟨y,g,rfl⟩:=List.mem_map.1 f
 exact lw (cX (aj h).1) (bV h (List.mem_filter.1 g).1)

def fd (v u:ic):Prop:=∀g,v.ownBlock=some g->u.ownBlock=some g->False
theorem fd.symm {v u:ic} (h:fd v u):fd u v:=fun g f j=>h g j f
theorem fd.ne {v u:ic} (h:fd v u):v.ownBlock=none\/v.ownBlock≠u.ownBlock:=by
 cases f:v.ownBlock with
 | none=>exact oL rfl
 | some g=>exact oR fun e=>h g f e.symm
theorem fd.grown {v j u:ic} {N:Nat} (h:fd v u) (r:j.ownBlock=v.ownBlock\/j.ownBlock=some N) (n:∀g,u.ownBlock=some g->g<N):fd j u:=by
 intro g f k
 rcases r with e|e
 ·exact h g (e▸f) k
 ·rw[e] at f
  have:=n g k
  have:=sI f
  omega

theorem kZ (w:X) {ops:Array Oper} {f:List Oper} {o:Oper} {a:Act} {Q:Exit->Act->X->Prop} (r:o.guard=none) (s x:Operand)
  (ho:o.op= .call { callee:= .builtin .append,args:= #[s,x],argTypes:= #[54,54] })
  (base:Nat) (v:ic) (l m:List Cel) (n:ix) (cap:Nat) (hs:a.eval s=v) (hx:a.eval x= J (some n) m.length cap) (k:dN w base v l) (hr:bF w (some n) m)
  (C:l.length+m.length<=maxLen) (hb:(l.length+m.length)*40<=140737488355328) (j:base<=w.heap.size)
  (h:∀g w',dN w' base g (l++m)->w.grownBy w' v.ownBlock->(g.ownBlock=v.ownBlock\/g.ownBlock=some w.heap.size)->wpList Tryz.prog ops Q f (a.put o.dst g) w'):wpList Tryz.prog ops Q (o::f) a w :=
 wpList_plain r fun ah hK=>by
  obtain ⟨i0,hi,E,F,L⟩:=info_parts Tryz.infoC
  obtain ⟨g,w',R,g2,g3,_,g5⟩:=run_append_own_at (P:=Tryz.prog) w base 54 o.type 187 i0 (ik #[S I 0,S I 0,S I 0,S I 0,S I 0]) 5 40 Tryz.underlying54 hi E F L rfl (by omega) v l.length (aL iE l) k n m.length cap (aL iE m) (aW dQ m) (hr.cells dQ (by omega)) (fun u hu=>ec mV u m hu) C hb j
  have h2:dN w' base g (l++m):=by
   show w'.ownsRow base _ 5 g (l++m).length (aL iE (l++m))
   rw[List.length_append,cH]
   exact g2
  unfold Oper.wp execOp
  simp only[ho,resolve,invoke,builtin,Sem.run_bind,Sem.run_pure,Result.andThen_ok,List.map_toArray,List.map_cons,List.map_nil,hs,hx,R]
  exact hK _ _ (h g w' h2 g3 g5)

structure SinceAt (w W:X) (t:Tab) (c:Ctx) (A:Option ix) (ca:Nat) (D:Option ix) (cd:Nat) (B:Option ix) (cb:Nat):Prop where
 ta:TabAt W w.heap.size t A ca D cd
 tc:CtxAt W (w.heap.size+1) c B cb
 res:B5 W (w.heap.size+1+1)
 hw:Y w.heap.size w W
theorem SinceAt.below {w W f:X} {t:Tab} {c:Ctx} {A B D:Option ix} {ca cb g:Nat} (h:SinceAt w W t c A ca D g B cb) (k:Y W.heap.size W f):SinceAt w f t c A ca D g B cb :=
 ⟨h.ta.below k,h.tc.below k,h.res.below k,h.hw.trans (k.mono h.hw.size)⟩
theorem SinceAt.gr {w W f:X} {t:Tab} {c:Ctx} {A B D:Option ix} {ca cb g:Nat} (h:SinceAt w W t c A ca D g B cb) (k:Gr W f):SinceAt w f t c A ca D g B cb:=h.below k.below

theorem qg (t:Tab) (c:Ctx) (A B D:Option ix) (ca cb cd:Nat) (w:X) (d5:t.c.l.length<=maxLen) (er:c.l.length<=maxLen) (ck:t.e.length<=maxLen) (f3:Row w A t.c.l) (f4:Row w B c.l) (f5:bF w D t.e) :
  Calls Tryz.prog 168 #[ik (T6 t A ca D cd).toArray,ik (ja7 c B cb)] w fun e w'=>∃E ce F cf,e= .returned (ia #[ik (T6 (bU t c) E ce F cf).toArray,S I (bE t c)])/\Row w' E (bU t c).c.l/\bF w' F (bU t c).e/\(E=none->ce=0)/\(F=none->cf=0)/\Y w.heap.size w w'/\(∀x,E=some x->w.heap.size<=x.block)/\(∀x,F=some x->w.heap.size<=x.block):=by
 have cm:SinceAt w (((w.alloc (H #[S I t.c.c0,S I t.c.c1,S I t.c.c2,S I t.c.c3,J A t.c.l.length ca,J D t.e.length cd] 56)).alloc (H (ja7 c B cb) 53)).alloc (H #[S I 0,S I 0,S I 0,S I 0,J none 0 0,J none 0 0] 56)) t c A ca D cd B cb :=
  ⟨(TabAt.new 56 f3 f5 rfl).gr (((gR _).alloc _).alloc _),(CtxAt.new 53 (f4.gr ((gR _).alloc _)) (by simp)).gr ((gR _).alloc _),Six.new _ _ _ _ _ _ _ 56 (by simp),((((gR w).alloc _).alloc _).alloc _).below⟩
 have d0:=ja3 d5 er ck
 have bt:=eM t A ca D cd _ d5 ck cm.ta.row cm.ta.rowC
 have ap:Z _:=bt
 clear bt d5 er ck f3 f4 f5
 go_enter Tryz.func168,Tryz.ntmps168
 go_wp2_with fail
 refine ja0 ap ?_
 rintro e w1 ⟨rfl,ey⟩
 clear ap
 have bn:=cm.gr ey
 clear cm ey
 obtain ⟨E1,bh⟩:∃E,aw t=E:=⟨_,rfl⟩
 rw[bh]
 by_cases h1:E1=0
 ·subst h1
  have cr:=ja1 bh
  clear bh
  obtain ⟨b0,b1,b2,b3,b4,ea,ad⟩:=(show CtxAt _ _ _ _ _ from bn.tc)
  have bt:=fs c B cb w1 d0.out.2.1 ad
  have ap:Z _:=bt
  clear bt ad
  go_wp2_with fail
  refine ja0 ap ?_
  rintro e w2 ⟨rfl,ez⟩
  clear ap b0 b1 b2 b3 b4 ea
  have bo:=bn.gr ez
  clear bn ez
  obtain ⟨E2,bl⟩:∃E,aN c=E:=⟨_,rfl⟩
  rw[bl]
  by_cases h2:E2=0
  ·subst h2
   have gs:=ja1 bl
   clear bl
   have a5:=bo.ta.k5
   have ex:t.e.length<=400:=(aj cr.out).2.1
   go_wp2
   clear a5
   go_loopw [8,9,29] (fun v u i wr=>∃k:Nat,k<=t.e.length/\i= S I k/\dN wr w2.heap.size v (gC c (t.e.take k))/\Own wr w2.heap.size u (ar (cD c) (t.e.take k))/\fd v u/\Y w2.heap.size w2 wr) (fun _ _ i _=>t.e.length-(intOf i).toNat)
   case atStart=>exact ⟨0,by omega,rfl,ae.nil _ _ _ _ _,Own.nil _ _,(fun g h=>by cases h),bR _ _⟩
   case round =>
    obtain ⟨k,hk,rfl,a9,a8,hap,be⟩:=hrel
    have a7:=bo.below be
    have f6:w2.heap.size<=wr.heap.size:=be.size
    by_cases cs:k<t.e.length
    ·have fn:(k:Int)<(t.e.length:Int):=by omega
     obtain ⟨bb,g5,rfl,g3,es⟩:=bF.get a7.ta.rowC cs
     obtain ⟨x,hx⟩:∃x,t.e[k]=x:=⟨_,rfl⟩
     obtain ⟨e0,e1,e2,e3,e4⟩:=es k cs
     rw[hx] at e0 e1 e2 e3 e4
     have b9:=ur (c:=c) cs hx
     have a6:=lT (p:=cD c) cs hx
     clear es hx
     obtain ⟨M,HM⟩:∃M,gC c (t.e.take k)=M:=⟨_,rfl⟩
     have g2:M.length<=400:=by rw[<-HM];exact nT (xx _ _) (by rw[List.length_take];omega)
     obtain ⟨N,HN⟩:∃N,ar (cD c) (t.e.take k)=N:=⟨_,rfl⟩
     have en:N.length<=400:=by rw[<-HN];exact nT (dX _ _) (by rw[List.length_take];omega)
     rw[HM] at a9 b9
     rw[HN] at a8 a6
     clear HM HN
     obtain ⟨A1,ah,rfl,eb,C,bG⟩:=ae.row dQ a9
     obtain ⟨A2,bc,rfl,gb,L,c7⟩:=a8.row
     have b6:=ja1 a9
     have bN:=ja1 a8
     have bd:=ja1 hap
     have bs:=ja1 be
     have dG:Gr wr (wr.alloc (H #[S I x.1.1,S I x.1.2,S I x.2.1,S I x.2.2.1,S I x.2.2.2] 187)):=(gR _).alloc _
     have d6:=CelAt.new (w:=wr) x 187 rfl
     have em:=a7.gr dG
     obtain ⟨b0,b1,b2,b3,b4,ea,ad⟩:=(show CtxAt _ _ _ _ _ from em.tc)
     obtain ⟨x0,x1,x2,x3,x4,gv⟩:=(show CelAt _ _ _ from d6)
     have e5:=kE c B cb x.1 _ d0.out.2.1 ad
     have c6:Z _:=e5
     clear a9 a8 hap be C L e5 bG c7 a7
     go_wp2_with fail
     refine ja0 c6 ?_
     rintro e w3 ⟨rfl,ds⟩
     clear c6 x0 x1 x2 x3 x4 b0 b1 b2 b3 b4
     have j:Gr wr w3:=dG.trans ds
     obtain ⟨x0,x1,x2,x3,x4,g0⟩:=(show CelAt _ _ _ from d6.gr ds)
     clear em dG ds d6 gv ad
     cases hq:ai c x.1
     ·have cc:Z (gC c (t.e.take (k+1))=M++[x]):=by show _=_;rw[b9,if_neg (by simp[cD,hq])]
      have cj:Z (ar (cD c) (t.e.take (k+1))=N):=by show _=_;rw[a6,if_neg (by simp[cD,hq])];simp
      have cp:Z (M.length+[x].length<=maxLen/\(M.length+[x].length)*40<=140737488355328):=by show _/\_;unfold maxLen;simp only[List.length_cons,List.length_nil];omega
      clear b9 a6
      go_wp2_with (at_builtin;refine kZ _ rfl _ _ rfl w2.heap.size (J A1 M.length ah) M [x] ⟨w3.heap.size,0,none⟩ 1 rfl rfl ?ho ?hr cp.out.1 cp.out.2 ?hs ?_)
      case ho=>exact b6.out.gr (j.alloc _)
      case hr=>exact kN rfl _ _
      case hs=>have:=j.size;simp;omega
      intro v1 w4 r n ao
      have dl:Z (Y w2.heap.size w2 w4):=bs.out.trans (((j.alloc _).below.mono f6).trans (ae.grown_below (b6.out.gr (j.alloc _)) n (by have:=j.size;simp;omega)))
      have ba:=ja1 r
      have b5:=bN.out.gr (j.alloc (H #[S I x.1.1,S I x.1.2,S I x.2.1,S I x.2.2.1,S I x.2.2.2] 187))
      have f0:=ja1 (World.ownsRow.kept b5 n bd.out.symm.ne)
      have bp:Z (fd v1 (J A2 N.length bc)):=bd.out.grown ao fun g hg=>by have:=(World.ownsRow.lt b5 g hg).2;simpa using this
      clear r n ao b5
      go_wp2
      go_roundw
      case rel=>exact ⟨k+1,by omega,by go_num,by rw[cc.out];exact ba.out,by rw[cj.out];exact f0.out,bp.out,dl.out⟩
      case measure=>simp[intOf];omega
     ·have cc:Z (gC c (t.e.take (k+1))=M):=by show _=_;rw[b9,if_pos (by simp[cD,hq])];simp
      have cj:Z (ar (cD c) (t.e.take (k+1))=N++[x.1]):=by show _=_;rw[a6,if_pos (by simp[cD,hq])]
      have cp:Z ((N.length+[x.1].length)*16<=140737488355328):=by show _<=_;simp only[List.length_cons,List.length_nil];omega
      clear b9 a6
      go_wp2_with (at_builtin;refine aF _ rfl _ _ rfl w2.heap.size (J A2 N.length bc) N [x.1] (some ⟨w3.heap.size,0,none⟩) 1 rfl rfl ?ho ?hr (fun h=>by cases h) cp.out ?hs ?_)
      case ho=>exact bN.out.gr (j.alloc _)
      case hr=>exact iZ rfl x.1.1 x.1.2 _
      case hs=>have:=j.size;simp;omega
      intro v1 w4 r n ao
      have dl:Z (Y w2.heap.size w2 w4):=bs.out.trans (((j.alloc _).below.mono f6).trans (Own.grown_below (bN.out.gr (j.alloc _)) n (by have:=j.size;simp;omega)))
      have ba:=ja1 r
      have b7:=b6.out.gr (j.alloc (H #[S I x.1.1,S I x.1.2] 185))
      have f1:=ja1 (World.ownsRow.kept b7 n bd.out.ne)
      have bp:Z (fd (J A1 M.length ah) v1):=(bd.out.symm.grown ao fun g hg=>by have:=(World.ownsRow.lt b7 g hg).2;simpa using this).symm
      clear r n ao b7
      go_wp2
      go_roundw
      case rel=>exact ⟨k+1,by omega,by go_num,by rw[cc.out];exact f1.out,by rw[cj.out];exact ba.out,bp.out,dl.out⟩
      case measure=>simp[intOf];omega
    ·have fn:¬(k:Int)<(t.e.length:Int):=by omega
     have e6:t.e.take k=t.e:=List.take_of_length_le (by omega)
     rw[e6] at a9 a8
     obtain ⟨A1,ah,rfl,eb,C,bG⟩:=ae.row dQ a9
     obtain ⟨A2,bc,rfl,gb,L,c7⟩:=a8.row
     obtain ⟨N,HN⟩:∃N,ar (cD c) t.e=N:=⟨_,rfl⟩
     have en:N.length<=400:=by rw[<-HN];exact nT (dX _ _) ex
     have ep:∀x∈N,am x=true:=by rw[<-HN];exact oE cr.out _
     obtain ⟨M,HM⟩:∃M,gC c t.e=M:=⟨_,rfl⟩
     have an:Z (bE t c=woE t.c N/\bU t c=if woE t.c N=0 then ⟨woC t.c N,M⟩ else ⟨aI,[]⟩):=by
      have h1:bE t c=woE t.c N:=by unfold bE;rw[cr.out,gs.out,HN];simp
      exact ⟨h1,by unfold bU;rw[h1,HN,HM]⟩
     rw[HN] at L ⊢
     rw[HM] at C ⊢
     clear HN HM e6 a9 a8 hap
     obtain ⟨a0,a1,a2,a3,a4,a5,ga,cu,dk⟩:=(show TabAt _ _ _ _ _ _ _ from a7.ta)
     have f7:=tm t.c N A A2 ca bc wr d0.out.1 en ep cu L
     have c9:Z _:=f7
     have g4:=bo.res.lt
     have cA:Z (∀x,A1=some x->x.block≠w.heap.size+1+1/\w.heap.size<=x.block):=fun x hx=>by have:=(bG x hx).1;omega
     clear f7 cu dk ga L ep
     go_wp2_with fail
     refine ja0 c9 ?_
     rintro e w4 ⟨C4,p4,rfl,d4,gc,cB,dp⟩
     clear c9 a0 a1 a2 a3 a4 a5
     have ej:=a7.below dp
     have b8:=C.below dp
     have gD:=a7.res.lt
     have c5:Z (∀x,C4=some x->x.block≠w.heap.size+1+1/\w.heap.size<=x.block):=fun x hx=>by have:=cB x hx;omega
     clear C cB dp a7
     obtain ⟨g6,hJ⟩:∃g6,woC t.c N=g6:=⟨_,rfl⟩
     obtain ⟨E4,eg⟩:∃E,woE t.c N=E:=⟨_,rfl⟩
     rw[hJ] at d4 an ⊢
     rw[eg] at an ⊢
     clear hJ eg
     have dz:Gr w4 (w4.alloc (H (ja7 g6 C4 p4) 53)):=(gR _).alloc _
     have cn:=ej.gr dz
     have go:CtxAt (w4.alloc (H (ja7 g6 C4 p4) 53)) w4.heap.size g6 C4 p4:=CtxAt.new (c:=g6) 53 d4 rfl
     have f2:=b8.gr dz
     clear ej dz d4 b8
     by_cases h4:E4=0
     ·subst h4
      have f:Z (bE t c=0/\bU t c=⟨g6,M⟩):=⟨an.out.1,by rw[an.out.2,if_pos rfl]⟩
      obtain ⟨z0,z1,z2,z3,z4,z5,zf,cl⟩:=(show Six _ _ _ _ _ _ _ _ from cn.res)
      obtain ⟨c0,c1,c2,c3,c4,g1,cv⟩:=(show CtxAt _ _ _ _ _ from go)
      have R:=ja1 cn.hw
      have bC:=ja1 cv
      have c8:=ja1 f2
      clear cv f2 an
      go_upto_region 19 with fail
      generalize w4.alloc (H (ja7 g6 C4 p4) 53)=V at z0 z1 z2 z3 z4 z5 zf cl c0 c1 c2 c3 c4 R bC c8 ⊢
      go_wp2
      rw[f.out.1,f.out.2]
      have h1:∀x,C4=some x->x.block≠w.heap.size+1+1:=fun x hx=>(c5.out x hx).1
      have h2:∀x,A1=some x->x.block≠w.heap.size+1+1:=fun x hx=>(cA.out x hx).1
      exact bodyPost_ret (v:= ia #[ik #[S I g6.c0,S I g6.c1,S I g6.c2,S I g6.c3,J C4 g6.l.length p4,J A1 M.length ah],S I 0]) (by simp[results,Tryz.results168,go_sem,z0,z1,z2,z3,z4,z5]) rfl ⟨C4,p4,A1,ah,rfl,(((((bC.out.setCell _ h1).setCell _ h1).setCell _ h1).setCell _ h1).setCell _ h1).setCell _ h1,(((((c8.out.setCell _ h2).setCell _ h2).setCell _ h2).setCell _ h2).setCell _ h2).setCell _ h2,gc,eb,ak R.out (by omega) _ _ _ _ _ _,fun x hx=>(c5.out x hx).2,fun x hx=>(cA.out x hx).2⟩
     ·have f:Z (bE t c=E4/\bU t c=⟨aI,[]⟩):=⟨an.out.1,by rw[an.out.2,if_neg h4]⟩
      have ev:(E4 != 0)=true:=by simpa using h4
      clear h4 an
      obtain ⟨z0,z1,z2,z3,z4,z5,zf,cl⟩:=(show Six _ _ _ _ _ _ _ _ from cn.res)
      have R:=ja1 cn.hw
      go_upto_region 18 with fail
      generalize w4.alloc (H (ja7 g6 C4 p4) 53)=V at z0 z1 z2 z3 z4 z5 zf cl R ⊢
      go_wp2
      rw[f.out.1,f.out.2]
      exact bodyPost_ret (v:= ia #[ik #[S I 0,S I 0,S I 0,S I 0,J none 0 0,J none 0 0],S I E4]) (by simp[results,Tryz.results168,go_sem,z0,z1,z2,z3,z4,z5]) rfl ⟨none,0,none,0,rfl,oL rfl,oL rfl,fun _=>rfl,fun _=>rfl,ak R.out (by omega) _ _ _ _ _ _,(fun _ h=>by cases h),(fun _ h=>by cases h)⟩
  ·have f:Z (bE t c=E2/\bU t c=⟨aI,[]⟩):=qe (by unfold bE;rw[cr.out,bl];simp[h2]) h2
   have ev:(E2 != 0)=true:=by simpa using h2
   clear h2 bl
   obtain ⟨z0,z1,z2,z3,z4,z5,zf,cl⟩:=(show Six _ _ _ _ _ _ _ _ from bo.res)
   have R:=ja1 bo.hw
   go_wp2
   rw[f.out.1,f.out.2]
   exact bodyPost_ret (v:= ia #[ik #[S I 0,S I 0,S I 0,S I 0,J none 0 0,J none 0 0],S I E2]) (by simp[results,Tryz.results168,go_sem,z0,z1,z2,z3,z4,z5]) rfl ⟨none,0,none,0,rfl,oL rfl,oL rfl,fun _=>rfl,fun _=>rfl,ak R.out (by omega) _ _ _ _ _ _,(fun _ h=>by cases h),(fun _ h=>by cases h)⟩
 ·have f:Z (bE t c=E1/\bU t c=⟨aI,[]⟩):=qe (by unfold bE;rw[bh];simp[h1]) h1
  have ev:(E1 != 0)=true:=by simpa using h1
  clear h1 bh
  obtain ⟨z0,z1,z2,z3,z4,z5,zf,cl⟩:=(show Six _ _ _ _ _ _ _ _ from bn.res)
  have R:=ja1 bn.hw
  go_wp2
  rw[f.out.1,f.out.2]
  exact bodyPost_ret (v:= ia #[ik #[S I 0,S I 0,S I 0,S I 0,J none 0 0,J none 0 0],S I E1]) (by simp[results,Tryz.results168,go_sem,z0,z1,z2,z3,z4,z5]) rfl ⟨none,0,none,0,rfl,oL rfl,oL rfl,fun _=>rfl,fun _=>rfl,ak R.out (by omega) _ _ _ _ _ _,(fun _ h=>by cases h),(fun _ h=>by cases h)⟩


def g8 (q:Int) (k:Int) (d:Int×Int):Int:=if d.1=q/\d.2<=k then d.2-1 else k
def gU (q:Int) (K:List (Int×Int)) (n:Int):Int:=K.foldl (g8 q) n
theorem gT (q k:Int) (d:Int×Int):g8 q k d=if d.1=q then min k (d.2-1) else k:=by
 unfold g8
 by_cases f:d.1=q
 ·by_cases g:d.2<=k
  ·rw[if_pos ⟨f,g⟩,if_pos f];omega
  ·rw[if_neg (fun h=>g h.2),if_pos f];omega
 ·rw[if_neg (fun h=>f h.1),if_neg f]
theorem fS (q:Int) (d:Int×Int) (K:List (Int×Int)) (n:Int):gU q (d::K) n=gU q K (g8 q n d):=rfl
theorem px (q:Int) (K:List (Int×Int)):∀n,gU q K n<=n:=by
 induction K with
 | nil=>intro n;exact Int.le_refl _
 | cons d K ih =>
  intro n
  rw[fS]
  have f:=ih (g8 q n d)
  have g:g8 q n d<=n:=by rw[gT];split<;>omega
  omega
theorem wv {b:Ctx} {d:Int×Int} {q:Int} (f:am d=true) (g:0<=q) (j:q<4):clk (iw b d) q=g8 q (clk b q) d:=by
 rw[iQ f,gT]
 unfold am inB at f
 simp only[Bool.and_eq_true,decide_eq_true_eq] at f
 rw[dV b d.1 _ q f.1.1 (by omega) g j]
 by_cases h:q=d.1
 ·rw[if_pos h,if_pos h.symm,h]
 ·rw[if_neg h,if_neg (fun e=>h e.symm)]
theorem rB {q:Int} (g:0<=q) (h:q<4):∀(k:List (Int×Int)) (b:Ctx),(∀x∈k,am x=true)->clk (k.foldl iw b) q=gU q k (clk b q):=by
 intro k
 induction k with
 | nil=>intro b _;rfl
 | cons d k ih =>
  intro b f
  rw[List.foldl_cons,ih _ (fun x j=>f x (by simp[j])),fS,wv (f d (by simp)) g h]
theorem yR {c:Ctx} {K:List (Int×Int)} {q:Int} (h:∀x∈K,am x=true) (f:0<=q) (g:q<4):clk (bX c K) q=gU q K (clk c q):=by
 unfold bX
 rw[rB f g K _ h]
 rfl

def yG (K:List (Int×Int)):Ctx:=⟨0,0,0,0,K⟩
theorem s6 {K:List (Int×Int)} {x:Int×Int}:ai (yG K) x=K.contains x:=by
 unfold ai yG
 have:(inB x.1 0 3 && decide (1<=x.2) && decide (x.2<=clk ⟨0,0,0,0,K⟩ x.1))=false:=by
  have f:clk ⟨0,0,0,0,K⟩ x.1=0:=by unfold clk;simp
  rw[f]
  by_cases h:1<=x.2
  ·have:¬x.2<=0:=by omega
   simp[this]
  ·simp[h]
 rw[this];simp
theorem BD {c:Ctx} {K:List (Int×Int)} {x:Int×Int} (h:clk (bX c K) x.1<x.2):ai (bX c K) x=ai (yG K) x:=by
 rw[s6]
 unfold ai
 rw[ud]
 have:¬x.2<=clk (bX c K) x.1:=by omega
 simp[this]
end Go.Proofs.YtjmmpnmgpgaagaaGreatDoor
