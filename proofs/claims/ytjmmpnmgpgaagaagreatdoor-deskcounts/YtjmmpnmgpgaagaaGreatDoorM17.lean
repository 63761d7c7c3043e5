import Derived.Test.YtjmmpnmgpgaagaaGreatDoorM13
import Derived.Deep.RegionHeld
set_option maxRecDepth 100000
set_option maxHeartbeats 8000000
open Go renaming World → U, Calls → P
open Go.IntKind renaming i64 → I
open Go.Obj renaming cells → O
open Go.Proofs.Tryz renaming prog → Y
open Go.RowKit renaming Below → Z, Hid → H
open Go.Value renaming int → S, slice → J, agg → X, tuple → K
namespace Go.Proofs.YtjmmpnmgpgaagaaGreatDoor
open Go.RowKit Go.Sort

def lY (a b:Ctx):Ctx:=⟨max a.c0 b.c0,max a.c1 b.c1,max a.c2 b.c2,max a.c3 b.c3,[]⟩
def eF (a b:Ctx):Ctx:=gp (lY a b) (a.l++b.l)
def aM (a b:Ctx):Int:=if fD a b=0 then (if 400<(eF a b).l.length then 2 else 0) else fD a b
def aK (a b:Ctx):Ctx:=if aM a b=0 then eF a b else aI

theorem pt (a b:Ctx) (x:Int):clk (lY a b) x=max (clk a x) (clk b x):=by
 unfold clk lY
 by_cases f:x=0
 ·simp[f]
 ·by_cases g:x=1
  ·simp[g]
  ·by_cases h:x=2
   ·simp[h]
   ·simp[f,g,h]
theorem sl {a b:Ctx} (h:bv a=true) (j:bv b=true):bv (lY a b)=true:=by
 refine nN fun x f g=> ?_
 have k:=cE h x f g
 have n:=cE j x f g
 rw[pt]
 simp only[inB,Bool.and_eq_true,decide_eq_true_eq]
 omega

structure ClkAt (w:U) (B:Nat) (x0 x1 x2 x3:Int):Prop where
 k0:w.cell? ⟨B,0,none⟩=some (S I x0)
 k1:w.cell? ⟨B,1,none⟩=some (S I x1)
 k2:w.cell? ⟨B,2,none⟩=some (S I x2)
 k3:w.cell? ⟨B,3,none⟩=some (S I x3)
 fz:∀j,w.frozen? ⟨B,j,none⟩=false
 lt:B<w.heap.size

def lC (a b:Ctx) (k:Nat):Int×Int×Int×Int:=(if 0<k then max a.c0 b.c0 else a.c0,if 1<k then max a.c1 b.c1 else a.c1,if 2<k then max a.c2 b.c2 else a.c2,if 3<k then max a.c3 b.c3 else a.c3)

theorem ClkAt.set {w:U} {B:Nat} {f g k n:Int} (h:ClkAt w B f g k n) (j:Nat) (u:Int):ClkAt (w.setCell ⟨B,j,none⟩ (S I u)) B (if 0=j then u else f) (if 1=j then u else g) (if 2=j then u else k) (if 3=j then u else n):=by
 refine ⟨?_,?_,?_,?_,fun i=>by rw[World.frozen?_setCell];exact h.fz i,by simpa[World.setCell] using h.lt⟩
 ·rw[ab h.k0];split<;>rfl
 ·rw[ab h.k1];split<;>rfl
 ·rw[ab h.k2];split<;>rfl
 ·rw[ab h.k3];split<;>rfl

theorem sm (a b:Ctx) (A B:Option Addr) (ca cb:Nat) (w:U) (dG:a.l.length<=maxLen) (d5:b.l.length<=maxLen) (eg:Row w A a.l) (ej:Row w B b.l) (hA:A=none->ca=0) (hB:B=none->cb=0) :
  P Y 163 #[X (ja7 a A ca),X (ja7 b B cb)] w fun e w'=>∃C cp,e= .returned (K #[X (ja7 (aK a b) C cp),S I (aM a b)])/\Row w' C (aK a b).l/\(C=none->cp=0)/\(∀x,C=some x->w.heap.size<=x.block)/\Z w.heap.size w w':=by
 have b8:Gr w (((w.alloc (O (ja7 a A ca) 53)).alloc (O (ja7 b B cb) 53)).alloc (O #[S I 0,S I 0,S I 0,S I 0,J none 0 0] 53)):=(((gR w).alloc _).alloc _).alloc _
 have dz:CtxAt (((w.alloc (O (ja7 a A ca) 53)).alloc (O (ja7 b B cb) 53)).alloc (O #[S I 0,S I 0,S I 0,S I 0,J none 0 0] 53)) w.heap.size a A ca:=(CtxAt.new 53 eg rfl).gr (((gR _).alloc _).alloc _)
 have d4:CtxAt (((w.alloc (O (ja7 a A ca) 53)).alloc (O (ja7 b B cb) 53)).alloc (O #[S I 0,S I 0,S I 0,S I 0,J none 0 0] 53)) (w.heap.size+1) b B cb:=(CtxAt.new 53 (ej.gr ((gR _).alloc _)) (by simp)).gr ((gR _).alloc _)
 have c7:CtxAt (((w.alloc (O (ja7 a A ca) 53)).alloc (O (ja7 b B cb) 53)).alloc (O #[S I 0,S I 0,S I 0,S I 0,J none 0 0] 53)) (w.heap.size+1+1) aI none 0:=CtxAt.new (c:=aI) (A:=none) (cap:=0) 53 (oL rfl) (by simp)
 have ck:∀j,(((w.alloc (O (ja7 a A ca) 53)).alloc (O (ja7 b B cb) 53)).alloc (O #[S I 0,S I 0,S I 0,S I 0,J none 0 0] 53)).frozen? ⟨w.heap.size+1+1,j,none⟩=false:=fun j=>by
  have:=f9 (w:=(w.alloc (O (ja7 a A ca) 53)).alloc (O (ja7 b B cb) 53)) (gR (((w.alloc (O (ja7 a A ca) 53)).alloc (O (ja7 b B cb) 53)).alloc (O #[S I 0,S I 0,S I 0,S I 0,J none 0 0] 53))) j
  simpa using this
 have n:=oD a b A B ca cb (((w.alloc (O (ja7 a A ca) 53)).alloc (O (ja7 b B cb) 53)).alloc (O #[S I 0,S I 0,S I 0,S I 0,J none 0 0] 53)) dG d5 (eg.gr b8) (ej.gr b8)
 have ce:H _:=n
 clear n
 unfold maxLen at dG d5
 go_enter Tryz.func163,Tryz.ntmps163
 go_wp2_with fail
 refine ja0 ce ?_
 rintro e w1 ⟨rfl,bo⟩
 clear ce
 have cs:=dz.gr bo
 have cv:=d4.gr bo
 have c8:=c7.gr bo
 have cl:∀j,w1.frozen? ⟨w.heap.size+1+1,j,none⟩=false:=fun j=>(bo.below.frozen (p:=⟨w.heap.size+1+1,j,none⟩) c7.lt).trans (ck j)
 have bC:H (Z w.heap.size w w1):=(b8.trans bo).below
 clear dz d4 c7 ck bo b8
 obtain ⟨z0,z1,z2,z3,z4,e0,_⟩:=(show CtxAt _ _ _ _ _ from c8)
 by_cases he:fD a b=0
 ·have ep:(fD a b != 0)=false:=by simpa using he
  have be:H (fD a b=0):=he
  clear he
  have bt:=mw be.out
  have c4:=bx bt.1
  have c5:=bx bt.2
  have d0:a.l.length<=400:=c4.2.1
  have d6:b.l.length<=400:=c5.2.1
  have dp:H (bv (lY a b)=true/\(∀x∈srt (a.l++b.l),am x=true)):=⟨sl c4.1 c5.1,fun x L=>by
   rcases List.mem_append.1 (kT L) with h|h
   ·exact jU bt.1 x h
   ·exact jU bt.2 x h⟩
  clear c4 c5 bt
  obtain ⟨a0,a1,a2,a3,a4,e1,_⟩:=(show CtxAt _ _ _ _ _ from cs)
  obtain ⟨b0,b1,b2,b3,b4,e2,_⟩:=(show CtxAt _ _ _ _ _ from cv)
  have i0:∀w,(Instr.index 50 (X #[S I b.c0,S I b.c1,S I b.c2,S I b.c3]) (S I 0)).run Y w= .ok (S I b.c0) w:=fun _=>by kernel_rfl
  have i1:∀w,(Instr.index 50 (X #[S I b.c0,S I b.c1,S I b.c2,S I b.c3]) (S I 1)).run Y w= .ok (S I b.c1) w:=fun _=>by kernel_rfl
  have i2:∀w,(Instr.index 50 (X #[S I b.c0,S I b.c1,S I b.c2,S I b.c3]) (S I 2)).run Y w= .ok (S I b.c2) w:=fun _=>by kernel_rfl
  have i3:∀w,(Instr.index 50 (X #[S I b.c0,S I b.c1,S I b.c2,S I b.c3]) (S I 3)).run Y w= .ok (S I b.c3) w:=fun _=>by kernel_rfl
  have ea:ClkAt (w1.alloc (O #[S I a.c0,S I a.c1,S I a.c2,S I a.c3] 50)) w1.heap.size a.c0 a.c1 a.c2 a.c3:=⟨aa (gR _) rfl,aa (gR _) rfl,aa (gR _) rfl,aa (gR _) rfl,fun j=>f9 (gR _) j,by simp⟩
  go_wp2
  clear a0 a1 a2 a3 a4 b0 b1 b2 b3 b4
  go_loopw [22] (fun i wr=>∃k:Nat,k<=4/\i= S I k/\ClkAt wr w1.heap.size (lC a b k).1 (lC a b k).2.1 (lC a b k).2.2.1 (lC a b k).2.2.2/\Z w1.heap.size w1 wr) (fun i _=>4-(intOf i).toNat)
  case atStart=>exact ⟨0,by omega,rfl,ea,(bR _ _).alloc (nR _) _⟩
  case round =>
   obtain ⟨k,hk,rfl,n,ad⟩:=hrel
   have er:=n.fz 0
   have es:=n.fz 1
   have ev:=n.fz 2
   have ex:=n.fz 3
   by_cases e3:k<4
   ·have h4:k=0\/k=1\/k=2\/k=3:=by omega
    obtain ⟨c0,c1,c2,c3,cf,bp⟩:=(show ClkAt _ _ _ _ _ _ from n)
    rcases h4 with rfl|rfl|rfl|rfl
    ·simp only[lC] at c0 c1 c2 c3 n
     go_wp2
     go_roundw
     case rel=>exact ⟨1,by omega,by go_num,by have:=n.set 0 (max a.c0 b.c0);simpa[lC] using this,ad.setCell (nR _) _⟩
     case measure=>simp[intOf]
    ·simp only[lC] at c0 c1 c2 c3 n
     go_wp2
     go_roundw
     case rel=>exact ⟨2,by omega,by go_num,by have:=n.set 1 (max a.c1 b.c1);simpa[lC] using this,ad.setCell (nR _) _⟩
     case measure=>simp[intOf]
    ·simp only[lC] at c0 c1 c2 c3 n
     go_wp2
     go_roundw
     case rel=>exact ⟨3,by omega,by go_num,by have:=n.set 2 (max a.c2 b.c2);simpa[lC] using this,ad.setCell (nR _) _⟩
     case measure=>simp[intOf]
    ·simp only[lC] at c0 c1 c2 c3 n
     go_wp2
     go_roundw
     case rel=>exact ⟨4,by omega,by go_num,by have:=n.set 3 (max a.c3 b.c3);simpa[lC] using this,ad.setCell (nR _) _⟩
     case measure=>simp[intOf]
   ·obtain rfl:k=4:=by omega
    simp only[lC] at n
    simp only[show (0<4)=True from by simp,show (1<4)=True from by simp,show (2<4)=True from by simp,show (3<4)=True from by simp,if_true] at n
    have cu:=cs.below ad
    have cA:=cv.below ad
    have bh:=c8.below ad
    have cm:∀j,wr.frozen? ⟨w.heap.size+1+1,j,none⟩=false:=fun j=>(ad.frozen (p:=⟨w.heap.size+1+1,j,none⟩) e0).trans (cl j)
    have a7:H (Z w.heap.size w wr):=bC.out.trans (ad.mono bC.out.size)
    obtain ⟨F,hF⟩:∃F,ax (lY a b) (srt (a.l++b.l)) (srt (a.l++b.l)).length=F:=⟨_,rfl⟩
    have cj:∀(W:U),Z wr.heap.size wr W->P Y 193 #[J A a.l.length ca,J B b.l.length cb] W fun e w'=>∃C1 ao,e= .returned (J C1 (srt (a.l++b.l)).length ao)/\Row w' C1 (srt (a.l++b.l))/\Z wr.heap.size wr w'/\Z W.heap.size W w':=fun W hb =>
     (nW a.l b.l A B ca cb W (cu.row.below hb) (cA.row.below hb) hA hB d0 d6).mono fun e w' ⟨C1,ao,R,h2,h3⟩=>⟨C1,ao,R,h2,hb.trans (h3.mono hb.size),h3⟩
    have bG:∀(W:U) (C1:Option Addr) (ao:Nat),Row W C1 (srt (a.l++b.l))->Z wr.heap.size wr W->P Y 192 #[X #[S I (max a.c0 b.c0),S I (max a.c1 b.c1),S I (max a.c2 b.c2),S I (max a.c3 b.c3)],J C1 (srt (a.l++b.l)).length ao] W fun e w'=>∃r g,e= .returned (X (ja7 F r g))/\Row w' r F.l/\(r=none->g=0)/\(∀x,r=some x->W.heap.size<=x.block)/\Z wr.heap.size wr w'/\Z W.heap.size W w':=fun W C1 ao ey hb=>by
     have h:=rU (lY a b) (srt (a.l++b.l)) C1 ao W rfl dp.out.1 (by rw[fI,List.length_append];omega) dp.out.2 ey
     rw[hF] at h
     exact h.mono fun e w' ⟨r,g,R,h2,h3,h4,h5⟩=>⟨r,g,R,h2,h3,h4,hb.trans (h5.mono hb.size),h5⟩
    have a8:H (eF a b=F):=hF
    have bN:H (∀(W:U),Z wr.heap.size wr W->_):=cj
    have bl:H (∀(W:U) (C1:Option Addr) (ao:Nat),Row W C1 (srt (a.l++b.l))->Z wr.heap.size wr W->_):=bG
    clear cj bG i0 i1 i2 i3 hF
    obtain ⟨c0,c1,c2,c3,cf,bp⟩:=(show ClkAt _ _ _ _ _ _ from n)
    obtain ⟨a0,a1,a2,a3,a4,c9,_⟩:=(show CtxAt _ _ _ _ _ from cu)
    obtain ⟨b0,b1,b2,b3,b4,dk,_⟩:=(show CtxAt _ _ _ _ _ from cA)
    have E:H (∀w':U,Z wr.heap.size wr w'->(fun w'=>w'.cell? ⟨w1.heap.size,0,none⟩=some (S I (max a.c0 b.c0))/\w'.cell? ⟨w1.heap.size,1,none⟩=some (S I (max a.c1 b.c1))/\w'.cell? ⟨w1.heap.size,2,none⟩=some (S I (max a.c2 b.c2))/\w'.cell? ⟨w1.heap.size,3,none⟩=some (S I (max a.c3 b.c3))/\w'.cell? ⟨w.heap.size,4,none⟩=some (J A a.l.length ca)/\w'.cell? ⟨w.heap.size+1,4,none⟩=some (J B b.l.length cb)) w'):=fun w' hb=>⟨(hb.cell (p:=⟨w1.heap.size,0,none⟩) bp).trans c0,(hb.cell (p:=⟨w1.heap.size,1,none⟩) bp).trans c1,(hb.cell (p:=⟨w1.heap.size,2,none⟩) bp).trans c2,(hb.cell (p:=⟨w1.heap.size,3,none⟩) bp).trans c3,(hb.cell (p:=⟨w.heap.size,4,none⟩) c9).trans a4,(hb.cell (p:=⟨w.heap.size+1,4,none⟩) dk).trans b4⟩
    have bn:H (ZAt wr (w.heap.size+1+1)):=⟨bh.k0,bh.k1,bh.k2,bh.k3,bh.k4,cm,bh.lt⟩
    go_wp2
    have cB:Z wr.heap.size wr wr.drew:=(bR _ _).drew
    have cd:H (Z wr.heap.size wr (wr.drew.alloc (O #[S I 0,S I 0,S I 0,S I 0,J none 0 0] 53))):=cB.alloc (nR _) _
    clear a0 a1 a2 a3 a4 b0 b1 b2 b3 b4 c0 c1 c2 c3 cf n cu cA bh z0 z1 z2 z3 z4 er es ev ex ea cl cm cs cv c8
    go_region_held (fun w'=>w'.cell? ⟨w1.heap.size,0,none⟩=some (S I (max a.c0 b.c0))/\w'.cell? ⟨w1.heap.size,1,none⟩=some (S I (max a.c1 b.c1))/\w'.cell? ⟨w1.heap.size,2,none⟩=some (S I (max a.c2 b.c2))/\w'.cell? ⟨w1.heap.size,3,none⟩=some (S I (max a.c3 b.c3))/\w'.cell? ⟨w.heap.size,4,none⟩=some (J A a.l.length ca)/\w'.cell? ⟨w.heap.size+1,4,none⟩=some (J B b.l.length cb)) (first|exact E.out _ cB|exact E.out _ cd.out|exact E.out _ an.out|exact E.out _ (an.out.alloc an.out.size _)|exact E.out _ a6.out|exact E.out _ (a6.out.alloc a6.out.size _)|exact E.out _ (aZ a6.out (by first|exact nR _|exact an.out.size) _ _ _ _ _)) (first|(go_at_call 193;(first|refine cM (show P _ _ _ _ _ from bN.out _ cB) ?_|refine cM (show P _ _ _ _ _ from bN.out _ cd.out) ?_);rintro e wX ⟨C1,ao,rfl,b5,b9,cr⟩;have an:H (Z wr.heap.size wr wX):=b9;have eb:H (Row wX C1 (srt (a.l++b.l))):=b5;clear b9 b5;first|(have en:H (ZAt wX wr.heap.size):=(ZAt.new wr.drew 53 rfl).below cr;clear cr)|clear cr)|(go_at_call 192;(first|refine cM (show P _ _ _ _ _ from bl.out _ C1 ao eb.out an.out) ?_|refine cM (show P _ _ _ _ _ from bl.out _ C1 ao (eb.out.gr ((gR _).alloc _)) (an.out.alloc an.out.size _)) ?_);rintro e wY ⟨r,g,rfl,b6,cn,bs,cc,ds⟩;have a6:H (Z wr.heap.size wr wY):=cc;have c6:H (Row wY r F.l):=b6;have bb:H (∀x,r=some x->_):=bs;clear cc b6 bs;first|(have b7:H (ZAt wY wr.heap.size):=en.out.below ds;obtain ⟨y0,y1,y2,y3,y4,yf,ez⟩:=b7.out)|(have b7:H (ZAt wY wX.heap.size):=(ZAt.new wX 53 rfl).below ds;obtain ⟨y0,y1,y2,y3,y4,yf,ez⟩:=b7.out)|skip))
    ·have em:w.heap.size+1+1<wr.heap.size:=bn.out.lt
     have bc:CtxAt (wY.alloc (O (ja7 F r g) 53)) wY.heap.size F r g:=CtxAt.new 53 c6.out rfl
     have bd:ZAt (wY.alloc (O (ja7 F r g) 53)) (w.heap.size+1+1):=(bn.out.below a6.out).below ((bR _ _).alloc (nR _) _)
     have a5:H (Z w.heap.size w (wY.alloc (O (ja7 F r g) 53))):=(a7.out.trans (a6.out.mono a7.out.size)).alloc (nT a7.out.size a6.out.size) _
     have ba:H (∀x,r=some x->w.heap.size+1+1<x.block):=fun x L=>by have R:=bb.out x L;have h2:=an.out.size;first|omega|(simp at R;omega)
     generalize (wY.alloc (O (ja7 F r g) 53))=V at bc bd a5 ⊢
     obtain ⟨f0,f1,f2,f3,f4,dl,a9⟩:=(show CtxAt _ _ _ _ _ from bc)
     obtain ⟨z0,z1,z2,z3,z4,zf,zl⟩:=(show ZAt _ _ from bd)
     by_cases ah:400<F.l.length
     ·have ap:(400:Int)<(F.l.length:Int):=by omega
      have f:H (aM a b=2/\aK a b=aI):=by
       have R:aM a b=2:=by unfold aM;rw[if_pos be.out,a8.out,if_pos ah]
       exact ⟨R,by simp[aK,R]⟩
      go_wp2
      rw[f.out.1,f.out.2]
      exact bodyPost_ret (v:= K #[X #[S I 0,S I 0,S I 0,S I 0,J none 0 0],S I 2]) (by simp[results,Tryz.results163,go_sem,z0,z1,z2,z3,z4]) rfl ⟨none,0,rfl,oL rfl,fun _=>rfl,(fun x L=>by cases L),aZ a5.out (by omega) _ _ _ _ _⟩
     ·have ap:¬(400:Int)<(F.l.length:Int):=by omega
      have f:H (aM a b=0/\aK a b=F):=by
       have R:aM a b=0:=by unfold aM;rw[if_pos be.out,a8.out,if_neg ah]
       exact ⟨R,by simp[aK,R,a8.out]⟩
      have u:∀x,r=some x->x.block≠w.heap.size+1+1:=fun x L=>by have:=ba.out x L;omega
      go_wp2
      rw[f.out.1,f.out.2]
      refine bodyPost_ret (v:= K #[X (ja7 F r g),S I 0]) (by simp[results,Tryz.results163,go_sem,z0,z1,z2,z3,z4]) rfl ⟨r,g,rfl,?_,cn,fun x L=>by have:=ba.out x L;omega,aZ a5.out (by omega) _ _ _ _ _⟩
      exact ((((a9.setCell _ u).setCell _ u).setCell _ u).setCell _ u).setCell _ u
    ·have em:w.heap.size+1+1<wr.heap.size:=bn.out.lt
     have bc:CtxAt (((((wY.setCell ⟨wX.heap.size,0,none⟩ (S I F.c0)).setCell ⟨wX.heap.size,1,none⟩ (S I F.c1)).setCell ⟨wX.heap.size,2,none⟩ (S I F.c2)).setCell ⟨wX.heap.size,3,none⟩ (S I F.c3)).setCell ⟨wX.heap.size,4,none⟩ (J r F.l.length g)) wX.heap.size F r g:=(b7.out.ctx).set c6.out (fun x L=>by have:=bb.out x L;first|omega|(simp at this;omega))
     have bd:ZAt (((((wY.setCell ⟨wX.heap.size,0,none⟩ (S I F.c0)).setCell ⟨wX.heap.size,1,none⟩ (S I F.c1)).setCell ⟨wX.heap.size,2,none⟩ (S I F.c2)).setCell ⟨wX.heap.size,3,none⟩ (S I F.c3)).setCell ⟨wX.heap.size,4,none⟩ (J r F.l.length g)) (w.heap.size+1+1):=(bn.out.below a6.out).other5 _ _ _ _ _ (by have:=an.out.size;omega)
     have a5:H (Z w.heap.size w (((((wY.setCell ⟨wX.heap.size,0,none⟩ (S I F.c0)).setCell ⟨wX.heap.size,1,none⟩ (S I F.c1)).setCell ⟨wX.heap.size,2,none⟩ (S I F.c2)).setCell ⟨wX.heap.size,3,none⟩ (S I F.c3)).setCell ⟨wX.heap.size,4,none⟩ (J r F.l.length g))):=aZ (a7.out.trans (a6.out.mono a7.out.size)) (by have:=an.out.size;omega) _ _ _ _ _
     have ba:H (∀x,r=some x->w.heap.size+1+1<x.block):=fun x L=>by have R:=bb.out x L;have h2:=an.out.size;first|omega|(simp at R;omega)
     generalize (((((wY.setCell ⟨wX.heap.size,0,none⟩ (S I F.c0)).setCell ⟨wX.heap.size,1,none⟩ (S I F.c1)).setCell ⟨wX.heap.size,2,none⟩ (S I F.c2)).setCell ⟨wX.heap.size,3,none⟩ (S I F.c3)).setCell ⟨wX.heap.size,4,none⟩ (J r F.l.length g))=V at bc bd a5 ⊢
     obtain ⟨f0,f1,f2,f3,f4,dl,a9⟩:=(show CtxAt _ _ _ _ _ from bc)
     obtain ⟨z0,z1,z2,z3,z4,zf,zl⟩:=(show ZAt _ _ from bd)
     by_cases ah:400<F.l.length
     ·have ap:(400:Int)<(F.l.length:Int):=by omega
      have f:H (aM a b=2/\aK a b=aI):=by
       have R:aM a b=2:=by unfold aM;rw[if_pos be.out,a8.out,if_pos ah]
       exact ⟨R,by simp[aK,R]⟩
      go_wp2
      rw[f.out.1,f.out.2]
      exact bodyPost_ret (v:= K #[X #[S I 0,S I 0,S I 0,S I 0,J none 0 0],S I 2]) (by simp[results,Tryz.results163,go_sem,z0,z1,z2,z3,z4]) rfl ⟨none,0,rfl,oL rfl,fun _=>rfl,(fun x L=>by cases L),aZ a5.out (by omega) _ _ _ _ _⟩
     ·have ap:¬(400:Int)<(F.l.length:Int):=by omega
      have f:H (aM a b=0/\aK a b=F):=by
       have R:aM a b=0:=by unfold aM;rw[if_pos be.out,a8.out,if_neg ah]
       exact ⟨R,by simp[aK,R,a8.out]⟩
      have u:∀x,r=some x->x.block≠w.heap.size+1+1:=fun x L=>by have:=ba.out x L;omega
      go_wp2
      rw[f.out.1,f.out.2]
      refine bodyPost_ret (v:= K #[X (ja7 F r g),S I 0]) (by simp[results,Tryz.results163,go_sem,z0,z1,z2,z3,z4]) rfl ⟨r,g,rfl,?_,cn,fun x L=>by have:=ba.out x L;omega,aZ a5.out (by omega) _ _ _ _ _⟩
      exact ((((a9.setCell _ u).setCell _ u).setCell _ u).setCell _ u).setCell _ u
    ·have em:w.heap.size+1+1<wr.heap.size:=bn.out.lt
     have bc:CtxAt (((((wY.setCell ⟨wr.heap.size,0,none⟩ (S I F.c0)).setCell ⟨wr.heap.size,1,none⟩ (S I F.c1)).setCell ⟨wr.heap.size,2,none⟩ (S I F.c2)).setCell ⟨wr.heap.size,3,none⟩ (S I F.c3)).setCell ⟨wr.heap.size,4,none⟩ (J r F.l.length g)) wr.heap.size F r g:=(b7.out.ctx).set c6.out (fun x L=>by have:=bb.out x L;have:=en.out.lt;omega)
     have bd:ZAt (((((wY.setCell ⟨wr.heap.size,0,none⟩ (S I F.c0)).setCell ⟨wr.heap.size,1,none⟩ (S I F.c1)).setCell ⟨wr.heap.size,2,none⟩ (S I F.c2)).setCell ⟨wr.heap.size,3,none⟩ (S I F.c3)).setCell ⟨wr.heap.size,4,none⟩ (J r F.l.length g)) (w.heap.size+1+1):=(bn.out.below a6.out).other5 _ _ _ _ _ (by omega)
     have a5:H (Z w.heap.size w (((((wY.setCell ⟨wr.heap.size,0,none⟩ (S I F.c0)).setCell ⟨wr.heap.size,1,none⟩ (S I F.c1)).setCell ⟨wr.heap.size,2,none⟩ (S I F.c2)).setCell ⟨wr.heap.size,3,none⟩ (S I F.c3)).setCell ⟨wr.heap.size,4,none⟩ (J r F.l.length g))):=aZ (a7.out.trans (a6.out.mono a7.out.size)) (by omega) _ _ _ _ _
     have ba:H (∀x,r=some x->w.heap.size+1+1<x.block):=fun x L=>by have R:=bb.out x L;have h2:=an.out.size;first|omega|(simp at R;omega)
     generalize (((((wY.setCell ⟨wr.heap.size,0,none⟩ (S I F.c0)).setCell ⟨wr.heap.size,1,none⟩ (S I F.c1)).setCell ⟨wr.heap.size,2,none⟩ (S I F.c2)).setCell ⟨wr.heap.size,3,none⟩ (S I F.c3)).setCell ⟨wr.heap.size,4,none⟩ (J r F.l.length g))=V at bc bd a5 ⊢
     obtain ⟨f0,f1,f2,f3,f4,dl,a9⟩:=(show CtxAt _ _ _ _ _ from bc)
     obtain ⟨z0,z1,z2,z3,z4,zf,zl⟩:=(show ZAt _ _ from bd)
     by_cases ah:400<F.l.length
     ·have ap:(400:Int)<(F.l.length:Int):=by omega
      have f:H (aM a b=2/\aK a b=aI):=by
       have R:aM a b=2:=by unfold aM;rw[if_pos be.out,a8.out,if_pos ah]
       exact ⟨R,by simp[aK,R]⟩
      go_wp2
      rw[f.out.1,f.out.2]
      exact bodyPost_ret (v:= K #[X #[S I 0,S I 0,S I 0,S I 0,J none 0 0],S I 2]) (by simp[results,Tryz.results163,go_sem,z0,z1,z2,z3,z4]) rfl ⟨none,0,rfl,oL rfl,fun _=>rfl,(fun x L=>by cases L),aZ a5.out (by omega) _ _ _ _ _⟩
     ·have ap:¬(400:Int)<(F.l.length:Int):=by omega
      have f:H (aM a b=0/\aK a b=F):=by
       have R:aM a b=0:=by unfold aM;rw[if_pos be.out,a8.out,if_neg ah]
       exact ⟨R,by simp[aK,R,a8.out]⟩
      have u:∀x,r=some x->x.block≠w.heap.size+1+1:=fun x L=>by have:=ba.out x L;omega
      go_wp2
      rw[f.out.1,f.out.2]
      refine bodyPost_ret (v:= K #[X (ja7 F r g),S I 0]) (by simp[results,Tryz.results163,go_sem,z0,z1,z2,z3,z4]) rfl ⟨r,g,rfl,?_,cn,fun x L=>by have:=ba.out x L;omega,aZ a5.out (by omega) _ _ _ _ _⟩
      exact ((((a9.setCell _ u).setCell _ u).setCell _ u).setCell _ u).setCell _ u
 ·have f:H (aM a b=fD a b/\aK a b=aI):=by
   have R:aM a b=fD a b:=by simp[aM,he]
   exact ⟨R,by simp[aK,R,he]⟩
  have ep:(fD a b != 0)=true:=by simpa using he
  clear he
  go_wp2
  rw[f.out.1,f.out.2]
  exact bodyPost_ret (v:= K #[X #[S I 0,S I 0,S I 0,S I 0,J none 0 0],S I (fD a b)]) (by simp[results,Tryz.results163,go_sem,z0,z1,z2,z3,z4]) rfl ⟨none,0,rfl,oL rfl,fun _=>rfl,(fun x L=>by cases L),aZ bC.out (by omega) _ _ _ _ _⟩
end Go.Proofs.YtjmmpnmgpgaagaaGreatDoor
