import Derived.Test.YtbkjgjjpnfhkhaaGreatDoorM18
import Derived.Deep.RegionHeld
set_option maxRecDepth 100000
set_option maxHeartbeats 8000000
open Go renaming World → X, Calls → K
open Go.IntKind renaming i64 → I
open Go.Obj renaming cells → O
open Go.Proofs.Tryz renaming prog → H
open Go.RowKit renaming Hid → Z
open Go.Value renaming int → S, slice → J, agg → Y, tuple → U
namespace Go.Proofs.YtbkjgjjpnfhkhaaGreatDoor
open Go.RowKit Go.Sort

def iQ (a b:Ctx):Ctx:=⟨max a.c0 b.c0,max a.c1 b.c1,max a.c2 b.c2,max a.c3 b.c3,[]⟩
def gX (a b:Ctx):Ctx:=eh (iQ a b) (a.l++b.l)
def aI (a b:Ctx):Int:=if eH a b=0 then (if 400<(gX a b).l.length then 2 else 0) else eH a b
def aO (a b:Ctx):Ctx:=if aI a b=0 then gX a b else ar

theorem mZ (a b:Ctx) (x:Int):clk (iQ a b) x=max (clk a x) (clk b x):=by
 unfold clk iQ;by_cases c:x=0
 ·simp[c]
 ·by_cases d:x=1
  ·simp[d]
  ·by_cases f:x=2
   ·simp[f]
   ·simp[c,d,f]
theorem lT {a b:Ctx} (f:aW a=true) (g:aW b=true):aW (iQ a b)=true:=by refine io fun x c d=> ?_;have h:=bF f x c d;have j:=bF g x c d;rw[mZ];simp only[inB,Bool.and_eq_true,decide_eq_true_eq];omega

structure ClkAt (w:X) (B:Nat) (x0 x1 x2 x3:Int):Prop where
 k0:w.cell? ⟨B,0,none⟩=some (S I x0)
 k1:w.cell? ⟨B,1,none⟩=some (S I x1)
 k2:w.cell? ⟨B,2,none⟩=some (S I x2)
 k3:w.cell? ⟨B,3,none⟩=some (S I x3)
 fz:∀j,w.frozen? ⟨B,j,none⟩=false
 lt:B<w.heap.size

def ep (a b:Ctx) (k:Nat):Int×Int×Int×Int:=(if 0<k then max a.c0 b.c0 else a.c0,if 1<k then max a.c1 b.c1 else a.c1,if 2<k then max a.c2 b.c2 else a.c2,if 3<k then max a.c3 b.c3 else a.c3)

theorem ClkAt.set {w:X} {B:Nat} {c d x2 x3:Int} (h:ClkAt w B c d x2 x3) (j:Nat) (u:Int):ClkAt (w.jb3 B j (S I u)) B (if 0=j then u else c) (if 1=j then u else d) (if 2=j then u else x2) (if 3=j then u else x3):=by
 refine ⟨?_,?_,?_,?_,fun i=>by rw[World.frozen?_setCell];exact h.fz i,by simpa[World.setCell] using h.lt⟩
 ·rw[aa h.k0];split<;>rfl
 ·rw[aa h.k1];split<;>rfl
 ·rw[aa h.k2];split<;>rfl
 ·rw[aa h.k3];split<;>rfl

theorem pQ (a b:Ctx) (A B:Option Addr) (ca cb:Nat) (w:X) (cs:a.l.length<=maxLen) (cG:b.l.length<=maxLen) (c9:Row w A a.l) (dg:Row w B b.l) (hA:A=none->ca=0) (hB:B=none->cb=0) :
  K H 48 #[Y (ja7 a A ca),Y (ja7 b B cb)] w fun e w'=>∃C cp,e= .returned (U #[Y (ja7 (aO a b) C cp),S I (aI a b)])/\Row w' C (aO a b).l/\(C=none->cp=0)/\(∀x,C=some x->w.heap.size<=x.block)/\jb2 w w':=by
 have cc:Gr w (((w.alloc (O (ja7 a A ca) 32)).alloc (O (ja7 b B cb) 32)).alloc (O #[S I 0,S I 0,S I 0,S I 0,J none 0 0] 32)):=(((gR w).alloc _).alloc _).alloc _;have d0:CtxAt (((w.alloc (O (ja7 a A ca) 32)).alloc (O (ja7 b B cb) 32)).alloc (O #[S I 0,S I 0,S I 0,S I 0,J none 0 0] 32)) w.heap.size a A ca:=(CtxAt.new 32 c9 rfl).gr (((gR _).alloc _).alloc _);have d1:CtxAt (((w.alloc (O (ja7 a A ca) 32)).alloc (O (ja7 b B cb) 32)).alloc (O #[S I 0,S I 0,S I 0,S I 0,J none 0 0] 32)) (w.heap.size+1) b B cb:=(CtxAt.new 32 (dg.gr ((gR _).alloc _)) (by simp)).gr ((gR _).alloc _);have dp:CtxAt (((w.alloc (O (ja7 a A ca) 32)).alloc (O (ja7 b B cb) 32)).alloc (O #[S I 0,S I 0,S I 0,S I 0,J none 0 0] 32)) (w.heap.size+1+1) ar none 0:=CtxAt.new (c:=ar) (A:=none) (cap:=0) 32 (oL rfl) (by simp);have dx:∀j,(((w.alloc (O (ja7 a A ca) 32)).alloc (O (ja7 b B cb) 32)).alloc (O #[S I 0,S I 0,S I 0,S I 0,J none 0 0] 32)).frozen? ⟨w.heap.size+1+1,j,none⟩=false:=fun j=>by have:=ee (w:=(w.alloc (O (ja7 a A ca) 32)).alloc (O (ja7 b B cb) 32)) (gR (((w.alloc (O (ja7 a A ca) 32)).alloc (O (ja7 b B cb) 32)).alloc (O #[S I 0,S I 0,S I 0,S I 0,J none 0 0] 32))) j;simpa using this
 have g:=mG a b A B ca cb (((w.alloc (O (ja7 a A ca) 32)).alloc (O (ja7 b B cb) 32)).alloc (O #[S I 0,S I 0,S I 0,S I 0,J none 0 0] 32)) cs cG (c9.gr cc) (dg.gr cc);have c5:Z _:=g;unfold maxLen at cs cG;go_enter Tryz.func48,Tryz.ntmps48;go_wp2_with fail;refine ja0 c5 ?_;rintro e w1 ⟨rfl,bo⟩;have cn:=d0.gr bo;have cv:=d1.gr bo;have ds:=dp.gr bo;have dy:∀j,w1.frozen? ⟨w.heap.size+1+1,j,none⟩=false:=fun j=>(bo.below.frozen (p:=⟨w.heap.size+1+1,j,none⟩) dp.lt).trans (dx j);have bl:Z (jb2 w w1):=(cc.trans bo).below;obtain ⟨z0,z1,z2,z3,z4,d6,_⟩:=(show CtxAt _ _ _ _ _ from ds);by_cases he:eH a b=0
 ·have d2:(eH a b != 0)=false:=by simpa using he
  have ba:Z (eH a b=0):=he;have bC:=kJ ba.out;have c6:=aY bC.1;have c7:=aY bC.2;have cu:a.l.length<=400:=c6.2.1;have c4:b.l.length<=400:=c7.2.1
  have cl:Z (aW (iQ a b)=true/\(∀x∈srt (a.l++b.l),ai x=true)):=⟨lT c6.1 c7.1,fun x u=>by
   rcases List.mem_append.1 (jx u) with h|h
   ·exact fr bC.1 x h
   ·exact fr bC.2 x h⟩
  obtain ⟨a0,a1,a2,a3,a4,d7,_⟩:=(show CtxAt _ _ _ _ _ from cn);obtain ⟨b0,b1,b2,b3,b4,d8,_⟩:=(show CtxAt _ _ _ _ _ from cv);have i0:∀w,(Instr.index 29 (Y #[S I b.c0,S I b.c1,S I b.c2,S I b.c3]) (S I 0)).run H w= .ok (S I b.c0) w:=fun _=>by kernel_rfl
  have i1:∀w,(Instr.index 29 (Y #[S I b.c0,S I b.c1,S I b.c2,S I b.c3]) (S I 1)).run H w= .ok (S I b.c1) w:=fun _=>by kernel_rfl
  have i2:∀w,(Instr.index 29 (Y #[S I b.c0,S I b.c1,S I b.c2,S I b.c3]) (S I 2)).run H w= .ok (S I b.c2) w:=fun _=>by kernel_rfl
  have i3:∀w,(Instr.index 29 (Y #[S I b.c0,S I b.c1,S I b.c2,S I b.c3]) (S I 3)).run H w= .ok (S I b.c3) w:=fun _=>by kernel_rfl
  have d3:ClkAt (w1.alloc (O #[S I a.c0,S I a.c1,S I a.c2,S I a.c3] 29)) w1.heap.size a.c0 a.c1 a.c2 a.c3:=⟨ab (gR _) rfl,ab (gR _) rfl,ab (gR _) rfl,ab (gR _) rfl,fun j=>ee (gR _) j,by simp⟩;go_wp2;go_loopw [22] (fun i wr=>∃k:Nat,k<=4/\i= S I k/\ClkAt wr w1.heap.size (ep a b k).1 (ep a b k).2.1 (ep a b k).2.2.1 (ep a b k).2.2.2/\jb2 w1 wr) (fun i _=>4-(intOf i).toNat);exact ⟨0,by omega,rfl,d3,(bR _ _).alloc (nR _) _⟩;obtain ⟨k,hk,rfl,g,E⟩:=hrel;have d9:=g.fz 0;have ea:=g.fz 1;have eb:=g.fz 2;have ec:=g.fz 3;by_cases eg:k<4
  ·have h4:k=0\/k=1\/k=2\/k=3:=(by omega);obtain ⟨c0,c1,c2,c3,cf,be⟩:=(show ClkAt _ _ _ _ _ _ from g);rcases h4 with rfl|rfl|rfl|rfl
   ·simp only[ep] at c0 c1 c2 c3 g;go_wp2;go_roundw;case rel=>exact ⟨1,by omega,by go_num,by have:=g.set 0 (max a.c0 b.c0);simpa[ep] using this,E.setCell (nR _) _⟩
    case measure=>simp[intOf]
   ·simp only[ep] at c0 c1 c2 c3 g;go_wp2;go_roundw;case rel=>exact ⟨2,by omega,by go_num,by have:=g.set 1 (max a.c1 b.c1);simpa[ep] using this,E.setCell (nR _) _⟩
    case measure=>simp[intOf]
   ·simp only[ep] at c0 c1 c2 c3 g;go_wp2;go_roundw;case rel=>exact ⟨3,by omega,by go_num,by have:=g.set 2 (max a.c2 b.c2);simpa[ep] using this,E.setCell (nR _) _⟩
    case measure=>simp[intOf]
   ·simp only[ep] at c0 c1 c2 c3 g;go_wp2;go_roundw;case rel=>exact ⟨4,by omega,by go_num,by have:=g.set 3 (max a.c3 b.c3);simpa[ep] using this,E.setCell (nR _) _⟩
    case measure=>simp[intOf]
  ·obtain rfl:k=4:=(by omega);simp only[ep] at g;simp only[show (0<4)=True from by simp,show (1<4)=True from by simp,show (2<4)=True from by simp,show (3<4)=True from by simp,if_true] at g;have cr:=cn.below E;have cz:=cv.below E;have bd:=ds.below E;have dG:∀j,wr.frozen? ⟨w.heap.size+1+1,j,none⟩=false:=fun j=>(E.frozen (p:=⟨w.heap.size+1+1,j,none⟩) d6).trans (dy j);have ap:Z (jb2 w wr):=bl.out.trans (E.mono bl.out.size);obtain ⟨F,hF⟩:=jb0 (aA (iQ a b) (srt (a.l++b.l)) (srt (a.l++b.l)).length);have dk:∀(W:X),jb2 wr W->K H 91 #[J A a.l.length ca,J B b.l.length cb] W fun e w'=>∃C1 ah,e= .returned (J C1 (srt (a.l++b.l)).length ah)/\Row w' C1 (srt (a.l++b.l))/\jb2 wr w'/\jb2 W w':=fun W hb =>(mn a.l b.l A B ca cb W (cr.row.below hb) (cz.row.below hb) hA hB cu c4).mono fun e w' ⟨C1,ah,D,h2,h3⟩=>⟨C1,ah,D,h2,hb.trans (h3.mono hb.size),h3⟩
   have b9:∀(W:X) (C1:Option Addr) (ah:Nat),Row W C1 (srt (a.l++b.l))->jb2 wr W->K H 90 #[Y #[S I (max a.c0 b.c0),S I (max a.c1 b.c1),S I (max a.c2 b.c2),S I (max a.c3 b.c3)],J C1 (srt (a.l++b.l)).length ah] W fun e w'=>∃m f,e= .returned (Y (ja7 F m f))/\Row w' m F.l/\(m=none->f=0)/\(∀x,m=some x->W.heap.size<=x.block)/\jb2 wr w'/\jb2 W w':=fun W C1 ah d4 hb=>by have h:=pF (iQ a b) (srt (a.l++b.l)) C1 ah W rfl cl.out.1 (by rw[fA,List.length_append];omega) cl.out.2 d4;rw[hF] at h;exact h.mono fun e w' ⟨m,f,D,h2,h3,h4,h5⟩=>⟨m,f,D,h2,h3,h4,hb.trans (h5.mono hb.size),h5⟩
   have aL:Z (gX a b=F):=hF;have bp:Z (∀(W:X),jb2 wr W->_):=dk;have bb:Z (∀(W:X) (C1:Option Addr) (ah:Nat),Row W C1 (srt (a.l++b.l))->jb2 wr W->_):=b9;obtain ⟨c0,c1,c2,c3,cf,be⟩:=(show ClkAt _ _ _ _ _ _ from g);obtain ⟨a0,a1,a2,a3,a4,ce,_⟩:=(show CtxAt _ _ _ _ _ from cr);obtain ⟨b0,b1,b2,b3,b4,cj,_⟩:=(show CtxAt _ _ _ _ _ from cz);have r:Z (∀w':X,jb2 wr w'->(fun w'=>w'.cell? ⟨w1.heap.size,0,none⟩=some (S I (max a.c0 b.c0))/\w'.cell? ⟨w1.heap.size,1,none⟩=some (S I (max a.c1 b.c1))/\w'.cell? ⟨w1.heap.size,2,none⟩=some (S I (max a.c2 b.c2))/\w'.cell? ⟨w1.heap.size,3,none⟩=some (S I (max a.c3 b.c3))/\w'.cell? ⟨w.heap.size,4,none⟩=some (J A a.l.length ca)/\w'.cell? ⟨w.heap.size+1,4,none⟩=some (J B b.l.length cb)) w'):=fun w' hb=>⟨(hb.cell (p:=⟨w1.heap.size,0,none⟩) be).trans c0,(hb.cell (p:=⟨w1.heap.size,1,none⟩) be).trans c1,(hb.cell (p:=⟨w1.heap.size,2,none⟩) be).trans c2,(hb.cell (p:=⟨w1.heap.size,3,none⟩) be).trans c3,(hb.cell (p:=⟨w.heap.size,4,none⟩) ce).trans a4,(hb.cell (p:=⟨w.heap.size+1,4,none⟩) cj).trans b4⟩;have bc:Z (ZAt wr (w.heap.size+1+1)):=⟨bd.k0,bd.k1,bd.k2,bd.k3,bd.k4,dG,bd.lt⟩;go_wp2;have b8:jb2 wr wr.drew:=(bR _ _).drew;have b5:Z (jb2 wr (wr.drew.alloc (O #[S I 0,S I 0,S I 0,S I 0,J none 0 0] 32))):=b8.alloc (nR _) _;go_region_held (fun w'=>w'.cell? ⟨w1.heap.size,0,none⟩=some (S I (max a.c0 b.c0))/\w'.cell? ⟨w1.heap.size,1,none⟩=some (S I (max a.c1 b.c1))/\w'.cell? ⟨w1.heap.size,2,none⟩=some (S I (max a.c2 b.c2))/\w'.cell? ⟨w1.heap.size,3,none⟩=some (S I (max a.c3 b.c3))/\w'.cell? ⟨w.heap.size,4,none⟩=some (J A a.l.length ca)/\w'.cell? ⟨w.heap.size+1,4,none⟩=some (J B b.l.length cb)) (first|exact r.out _ b8|exact r.out _ b5.out|exact r.out _ ad.out|exact r.out _ (ad.out.alloc ad.out.size _)|exact r.out _ ao.out|exact r.out _ (ao.out.alloc ao.out.size _)|exact r.out _ (au ao.out (by first|exact nR _|exact ad.out.size) _ _ _ _ _)) (first|(go_at_call 91;(first|refine cM (show K _ _ _ _ _ from bp.out _ b8) ?_|refine cM (show K _ _ _ _ _ from bp.out _ b5.out) ?_);rintro e wX ⟨C1,ah,rfl,bs,bG,b7⟩;have ad:Z (jb2 wr wX):=bG;have c8:Z (Row wX C1 (srt (a.l++b.l))):=bs;clear bG bs;first|(have dv:Z (ZAt wX wr.heap.size):=(ZAt.new wr.drew 32 rfl).below b7;clear b7)|clear b7)|(go_at_call 90;(first|refine cM (show K _ _ _ _ _ from bb.out _ C1 ah c8.out ad.out) ?_|refine cM (show K _ _ _ _ _ from bb.out _ C1 ah (c8.out.gr ((gR _).alloc _)) (ad.out.alloc ad.out.size _)) ?_);rintro e wY ⟨m,f,rfl,bt,b6,bh,bN,cm⟩;have ao:Z (jb2 wr wY):=bN;have cd:Z (Row wY m F.l):=bt;have a7:Z (∀x,m=some x->_):=bh;clear bN bt bh;first|(have bv:Z (ZAt wY wr.heap.size):=dv.out.below cm;obtain ⟨y0,y1,y2,y3,y4,yf,d5⟩:=bv.out)|(have bv:Z (ZAt wY wX.heap.size):=(ZAt.new wX 32 rfl).below cm;obtain ⟨y0,y1,y2,y3,y4,yf,d5⟩:=bv.out)|skip))
   ·have dl:w.heap.size+1+1<wr.heap.size:=bc.out.lt;have a8:CtxAt (wY.alloc (O (ja7 F m f) 32)) wY.heap.size F m f:=CtxAt.new 32 cd.out rfl;have a9:ZAt (wY.alloc (O (ja7 F m f) 32)) (w.heap.size+1+1):=(bc.out.below ao.out).below ((bR _ _).alloc (nR _) _);have an:Z (jb2 w (wY.alloc (O (ja7 F m f) 32))):=(ap.out.trans (ao.out.mono ap.out.size)).alloc (nT ap.out.size ao.out.size) _;have a6:Z (∀x,m=some x->w.heap.size+1+1<x.block):=fun x u=>by have D:=a7.out x u;have h2:=ad.out.size;first|omega|(simp at D;omega)
    generalize (wY.alloc (O (ja7 F m f) 32))=V at a8 a9 an ⊢;obtain ⟨f0,f1,f2,f3,f4,ck,a5⟩:=(show CtxAt _ _ _ _ _ from a8);obtain ⟨z0,z1,z2,z3,z4,zf,zl⟩:=(show ZAt _ _ from a9);by_cases R:400<F.l.length
    ·have ak:(400:Int)<(F.l.length:Int):=(by omega);have d:Z (aI a b=2/\aO a b=ar):=by have D:aI a b=2:=(by unfold aI;rw[if_pos ba.out,aL.out,if_pos R]);exact ⟨D,by simp[aO,D]⟩
     go_wp2;rw[d.out.1,d.out.2];exact bodyPost_ret (v:= U #[Y #[S I 0,S I 0,S I 0,S I 0,J none 0 0],S I 2]) (by simp[results,Tryz.results48,go_sem,z0,z1,z2,z3,z4]) rfl ⟨none,0,rfl,oL rfl,fun _=>rfl,(fun x u=>by cases u),au an.out (by omega) _ _ _ _ _⟩
    ·have ak:¬(400:Int)<(F.l.length:Int):=(by omega);have d:Z (aI a b=0/\aO a b=F):=by have D:aI a b=0:=(by unfold aI;rw[if_pos ba.out,aL.out,if_neg R]);exact ⟨D,by simp[aO,D,aL.out]⟩
     have n:∀x,m=some x->x.block≠w.heap.size+1+1:=(fun x u=>by have:=a6.out x u;omega);go_wp2;rw[d.out.1,d.out.2];refine bodyPost_ret (v:= U #[Y (ja7 F m f),S I 0]) (by simp[results,Tryz.results48,go_sem,z0,z1,z2,z3,z4]) rfl ⟨m,f,rfl,?_,b6,fun x u=>by have:=a6.out x u;omega,au an.out (by omega) _ _ _ _ _⟩;exact ((((a5.setCell _ n).setCell _ n).setCell _ n).setCell _ n).setCell _ n
   ·have dl:w.heap.size+1+1<wr.heap.size:=bc.out.lt;have a8:CtxAt (((((wY.setCell ⟨wX.heap.size,0,none⟩ (S I F.c0)).setCell ⟨wX.heap.size,1,none⟩ (S I F.c1)).setCell ⟨wX.heap.size,2,none⟩ (S I F.c2)).setCell ⟨wX.heap.size,3,none⟩ (S I F.c3)).setCell ⟨wX.heap.size,4,none⟩ (J m F.l.length f)) wX.heap.size F m f:=(bv.out.ctx).set cd.out (fun x u=>by have:=a7.out x u;first|omega|(simp at this;omega));have a9:ZAt (((((wY.setCell ⟨wX.heap.size,0,none⟩ (S I F.c0)).setCell ⟨wX.heap.size,1,none⟩ (S I F.c1)).setCell ⟨wX.heap.size,2,none⟩ (S I F.c2)).setCell ⟨wX.heap.size,3,none⟩ (S I F.c3)).setCell ⟨wX.heap.size,4,none⟩ (J m F.l.length f)) (w.heap.size+1+1):=(bc.out.below ao.out).other5 _ _ _ _ _ (by have:=ad.out.size;omega);have an:Z (jb2 w (((((wY.setCell ⟨wX.heap.size,0,none⟩ (S I F.c0)).setCell ⟨wX.heap.size,1,none⟩ (S I F.c1)).setCell ⟨wX.heap.size,2,none⟩ (S I F.c2)).setCell ⟨wX.heap.size,3,none⟩ (S I F.c3)).setCell ⟨wX.heap.size,4,none⟩ (J m F.l.length f))):=au (ap.out.trans (ao.out.mono ap.out.size)) (by have:=ad.out.size;omega) _ _ _ _ _;have a6:Z (∀x,m=some x->w.heap.size+1+1<x.block):=fun x u=>by have D:=a7.out x u;have h2:=ad.out.size;first|omega|(simp at D;omega)
    generalize (((((wY.setCell ⟨wX.heap.size,0,none⟩ (S I F.c0)).setCell ⟨wX.heap.size,1,none⟩ (S I F.c1)).setCell ⟨wX.heap.size,2,none⟩ (S I F.c2)).setCell ⟨wX.heap.size,3,none⟩ (S I F.c3)).setCell ⟨wX.heap.size,4,none⟩ (J m F.l.length f))=V at a8 a9 an ⊢;obtain ⟨f0,f1,f2,f3,f4,ck,a5⟩:=(show CtxAt _ _ _ _ _ from a8);obtain ⟨z0,z1,z2,z3,z4,zf,zl⟩:=(show ZAt _ _ from a9);by_cases R:400<F.l.length
    ·have ak:(400:Int)<(F.l.length:Int):=(by omega);have d:Z (aI a b=2/\aO a b=ar):=by have D:aI a b=2:=(by unfold aI;rw[if_pos ba.out,aL.out,if_pos R]);exact ⟨D,by simp[aO,D]⟩
     go_wp2;rw[d.out.1,d.out.2];exact bodyPost_ret (v:= U #[Y #[S I 0,S I 0,S I 0,S I 0,J none 0 0],S I 2]) (by simp[results,Tryz.results48,go_sem,z0,z1,z2,z3,z4]) rfl ⟨none,0,rfl,oL rfl,fun _=>rfl,(fun x u=>by cases u),au an.out (by omega) _ _ _ _ _⟩
    ·have ak:¬(400:Int)<(F.l.length:Int):=(by omega);have d:Z (aI a b=0/\aO a b=F):=by have D:aI a b=0:=(by unfold aI;rw[if_pos ba.out,aL.out,if_neg R]);exact ⟨D,by simp[aO,D,aL.out]⟩
     have n:∀x,m=some x->x.block≠w.heap.size+1+1:=(fun x u=>by have:=a6.out x u;omega);go_wp2;rw[d.out.1,d.out.2];refine bodyPost_ret (v:= U #[Y (ja7 F m f),S I 0]) (by simp[results,Tryz.results48,go_sem,z0,z1,z2,z3,z4]) rfl ⟨m,f,rfl,?_,b6,fun x u=>by have:=a6.out x u;omega,au an.out (by omega) _ _ _ _ _⟩;exact ((((a5.setCell _ n).setCell _ n).setCell _ n).setCell _ n).setCell _ n
   ·have dl:w.heap.size+1+1<wr.heap.size:=bc.out.lt;have a8:CtxAt (((((wY.setCell ⟨wr.heap.size,0,none⟩ (S I F.c0)).setCell ⟨wr.heap.size,1,none⟩ (S I F.c1)).setCell ⟨wr.heap.size,2,none⟩ (S I F.c2)).setCell ⟨wr.heap.size,3,none⟩ (S I F.c3)).setCell ⟨wr.heap.size,4,none⟩ (J m F.l.length f)) wr.heap.size F m f:=(bv.out.ctx).set cd.out (fun x u=>by have:=a7.out x u;have:=dv.out.lt;omega);have a9:ZAt (((((wY.setCell ⟨wr.heap.size,0,none⟩ (S I F.c0)).setCell ⟨wr.heap.size,1,none⟩ (S I F.c1)).setCell ⟨wr.heap.size,2,none⟩ (S I F.c2)).setCell ⟨wr.heap.size,3,none⟩ (S I F.c3)).setCell ⟨wr.heap.size,4,none⟩ (J m F.l.length f)) (w.heap.size+1+1):=(bc.out.below ao.out).other5 _ _ _ _ _ (by omega);have an:Z (jb2 w (((((wY.setCell ⟨wr.heap.size,0,none⟩ (S I F.c0)).setCell ⟨wr.heap.size,1,none⟩ (S I F.c1)).setCell ⟨wr.heap.size,2,none⟩ (S I F.c2)).setCell ⟨wr.heap.size,3,none⟩ (S I F.c3)).setCell ⟨wr.heap.size,4,none⟩ (J m F.l.length f))):=au (ap.out.trans (ao.out.mono ap.out.size)) (by omega) _ _ _ _ _;have a6:Z (∀x,m=some x->w.heap.size+1+1<x.block):=fun x u=>by have D:=a7.out x u;have h2:=ad.out.size;first|omega|(simp at D;omega)
    generalize (((((wY.setCell ⟨wr.heap.size,0,none⟩ (S I F.c0)).setCell ⟨wr.heap.size,1,none⟩ (S I F.c1)).setCell ⟨wr.heap.size,2,none⟩ (S I F.c2)).setCell ⟨wr.heap.size,3,none⟩ (S I F.c3)).setCell ⟨wr.heap.size,4,none⟩ (J m F.l.length f))=V at a8 a9 an ⊢;obtain ⟨f0,f1,f2,f3,f4,ck,a5⟩:=(show CtxAt _ _ _ _ _ from a8);obtain ⟨z0,z1,z2,z3,z4,zf,zl⟩:=(show ZAt _ _ from a9);by_cases R:400<F.l.length
    ·have ak:(400:Int)<(F.l.length:Int):=(by omega);have d:Z (aI a b=2/\aO a b=ar):=by have D:aI a b=2:=(by unfold aI;rw[if_pos ba.out,aL.out,if_pos R]);exact ⟨D,by simp[aO,D]⟩
     go_wp2;rw[d.out.1,d.out.2];exact bodyPost_ret (v:= U #[Y #[S I 0,S I 0,S I 0,S I 0,J none 0 0],S I 2]) (by simp[results,Tryz.results48,go_sem,z0,z1,z2,z3,z4]) rfl ⟨none,0,rfl,oL rfl,fun _=>rfl,(fun x u=>by cases u),au an.out (by omega) _ _ _ _ _⟩
    ·have ak:¬(400:Int)<(F.l.length:Int):=(by omega);have d:Z (aI a b=0/\aO a b=F):=by have D:aI a b=0:=(by unfold aI;rw[if_pos ba.out,aL.out,if_neg R]);exact ⟨D,by simp[aO,D,aL.out]⟩
     have n:∀x,m=some x->x.block≠w.heap.size+1+1:=(fun x u=>by have:=a6.out x u;omega);go_wp2;rw[d.out.1,d.out.2];refine bodyPost_ret (v:= U #[Y (ja7 F m f),S I 0]) (by simp[results,Tryz.results48,go_sem,z0,z1,z2,z3,z4]) rfl ⟨m,f,rfl,?_,b6,fun x u=>by have:=a6.out x u;omega,au an.out (by omega) _ _ _ _ _⟩;exact ((((a5.setCell _ n).setCell _ n).setCell _ n).setCell _ n).setCell _ n
 ·have d:Z (aI a b=eH a b/\aO a b=ar):=by have D:aI a b=eH a b:=(by simp[aI,he]);exact ⟨D,by simp[aO,D,he]⟩
  have d2:(eH a b != 0)=true:=by simpa using he
  go_wp2;rw[d.out.1,d.out.2];exact bodyPost_ret (v:= U #[Y #[S I 0,S I 0,S I 0,S I 0,J none 0 0],S I (eH a b)]) (by simp[results,Tryz.results48,go_sem,z0,z1,z2,z3,z4]) rfl ⟨none,0,rfl,oL rfl,fun _=>rfl,(fun x u=>by cases u),au bl.out (by omega) _ _ _ _ _⟩
end Go.Proofs.YtbkjgjjpnfhkhaaGreatDoor
