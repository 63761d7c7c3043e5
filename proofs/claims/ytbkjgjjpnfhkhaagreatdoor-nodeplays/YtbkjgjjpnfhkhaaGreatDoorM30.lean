import Derived.Test.YtbkjgjjpnfhkhaaGreatDoorM25
set_option maxRecDepth 100000
set_option maxHeartbeats 8000000
open Go renaming World → H, Addr → T, Value → ia
open Go.IntKind renaming i64 → I
open Go.Obj renaming cells → J
open Go.Proofs.Tryz renaming prog → X
open Go.RowKit renaming Hid → Z
open Go.Value renaming int → S, slice → O, tuple → Y, agg → U
namespace Go.Proofs.YtbkjgjjpnfhkhaaGreatDoor
open Go.RowKit Go.Sort

theorem pX (a b:Ctx) (A B:Option T) (ca cb:Nat) (w:H) (a7:aW a=true) (a8:aW b=true) (an:a.l.length<=400) (ao:b.l.length<=400) (bb:Row w A a.l) (bc:Row w B b.l) :
  Calls X 108 #[U #[S I a.c0,S I a.c1,S I a.c2,S I a.c3,O A a.l.length ca],U #[S I b.c0,S I b.c1,S I b.c2,S I b.c3,O B b.l.length cb]] w fun e w'=>∃C cp,e= .returned (Y #[O C (fv a b).length cp,S I (eB a b)])/\Row w' C (fv a b)/\(C=none->cp=0)/\(∀x,C=some x->w.heap.size<=x.block)/\jb2 w w':=by
 have bs:Gr w ((w.alloc (J #[S I a.c0,S I a.c1,S I a.c2,S I a.c3,O A a.l.length ca] 32)).alloc (J #[S I b.c0,S I b.c1,S I b.c2,S I b.c3,O B b.l.length cb] 32)):=((gR w).alloc _).alloc _;have be:CtxAt ((w.alloc (J #[S I a.c0,S I a.c1,S I a.c2,S I a.c3,O A a.l.length ca] 32)).alloc (J #[S I b.c0,S I b.c1,S I b.c2,S I b.c3,O B b.l.length cb] 32)) w.heap.size a A ca:=(CtxAt.new 32 bb rfl).gr ((gR _).alloc _);have bl:CtxAt ((w.alloc (J #[S I a.c0,S I a.c1,S I a.c2,S I a.c3,O A a.l.length ca] 32)).alloc (J #[S I b.c0,S I b.c1,S I b.c2,S I b.c3,O B b.l.length cb] 32)) (w.heap.size+1) b B cb:=CtxAt.new 32 (bc.gr ((gR _).alloc _)) (by simp);have a6:=ja2 a7 a8;have ah:∀x,A=some x->a.l≠[]->x.block<w.heap.size+1+1:=fun x E hl=>by have:=bb.lt x E hl;omega
 have ak:∀x,B=some x->b.l≠[]->x.block<w.heap.size+1+1:=fun x E hl=>by have:=bc.lt x E hl;omega
 have m:=ja1 bs.below;go_enter Tryz.func108,Tryz.ntmps108;go_wp2;go_loopw [6,8] (fun v i wr=>∃k:Nat,k<=4/\i= S I k/\(bw a b k).length<=400/\Own wr (w.heap.size+1+1) v (bw a b k)/\Below (w.heap.size+1+1) ((w.alloc (J #[S I a.c0,S I a.c1,S I a.c2,S I a.c3,O A a.l.length ca] 32)).alloc (J #[S I b.c0,S I b.c1,S I b.c2,S I b.c3,O B b.l.length cb] 32)) wr) (fun _ i _=>4-(intOf i).toNat);exact ⟨0,by omega,rfl,by simp[bw],Own.nil _ _,bR _ _⟩;obtain ⟨k,hk,rfl,b7,a9,c⟩:=hrel;obtain ⟨A1,j,rfl,bd,D,ap⟩:=a9.row;have bh:=CtxAt.belowB be c (by omega) ah;have bp:=CtxAt.belowB bl c (by omega) ak;obtain ⟨a0,a1,a2,a3,a4,bG,F⟩:=(show CtxAt _ _ _ _ _ from bh);obtain ⟨b0,b1,b2,b3,b4,bN,R⟩:=(show CtxAt _ _ _ _ _ from bp);have bv:w.heap.size+1+1<=wr.heap.size:=by have h1:=c.size;simp at h1;omega
 by_cases b6:k<4
 ·have aL:(k:Int)<4:=by omega
  have r:=oW a b A B ca cb (O A1 (bw a b k).length j) (bw a b k) k (w.heap.size+1+1) wr (by omega) aL a6.out.1 a6.out.2 an ao (by omega) F R ah ak a9 bv;have h:Z _:=r;go_wp2_with fail;refine ja0 h ?_;rintro e w2 ⟨v2,rfl,g,bo⟩;change Own w2 _ v2 (bw a b (k+1)) at g;obtain ⟨A2,bC,rfl,b5,bt,_⟩:=g.row;have u:=ja1 g;have f:=ja1 (c.trans bo);by_cases ad:400<(bw a b (k+1)).length
  ·have n:(400:Int)<((bw a b (k+1)).length:Int):=(by omega);have d:Z (eB a b=2/\fv a b=[]):=rv (by omega) ad;go_wp2;go_ret2;rw[d.out.1,d.out.2];exact ⟨none,0,rfl,oL rfl,fun _=>rfl,(fun x E=>by cases E),m.out.trans (f.out.mono (by omega))⟩
  ·have n:¬(400:Int)<((bw a b (k+1)).length:Int):=(by omega);go_wp2;go_roundw;exact ⟨k+1,by omega,by go_num,by omega,u.out,f.out⟩;simp[intOf];omega
 ·obtain rfl:k=4:=by omega
  have d:Z (eB a b=0/\fv a b=bw a b 4):=by exact ⟨by unfold eB;rw[if_neg (by omega)],by unfold fv;rw[if_neg (by omega)]⟩
  have ba:=ja1 D;have a5:Z (∀x,A1=some x->w.heap.size<=x.block):=fun x E=>by have:=(ap x E).1;omega
  go_wp2;go_ret2;rw[d.out.1,d.out.2];exact ⟨A1,j,rfl,ba.out,bd,a5.out,m.out.trans (c.mono (by omega))⟩

theorem ClkAt.belowB {w w':H} {B N:Nat} {d f x2 x3:Int} (h:ClkAt w B d f x2 x3) (k:Below N w w') (c:B<N):ClkAt w' B d f x2 x3 :=
 ⟨(k.cell (p:=(jb5 B 0)) c).trans h.k0,(k.cell (p:=(jb5 B 1)) c).trans h.k1,(k.cell (p:=(jb5 B 2)) c).trans h.k2,(k.cell (p:=(jb5 B 3)) c).trans h.k3,fun j=>(k.frozen (p:=(jb5 B j)) c).trans (h.fz j),nL h.lt k.size⟩
theorem ClkAt.below {w w':H} {B:Nat} {c d x2 x3:Int} (h:ClkAt w B c d x2 x3) (k:jb2 w w'):ClkAt w' B c d x2 x3:=h.belowB k h.lt

def gY (b:Ctx) (d:Int×Int):Ctx:=if inB d.1 0 3 && decide (1<=d.2) then setClk b d.1 (min (clk b d.1) (d.2-1)) else b
theorem im {b:Ctx} {d:Int×Int} (h:ai d=true):gY b d=setClk b d.1 (min (clk b d.1) (d.2-1)):=by
 have:(inB d.1 0 3 && decide (1<=d.2))=true:=by unfold ai inB at h;simp only[Bool.and_eq_true,decide_eq_true_eq] at h;simp[inB];omega
 unfold gY;rw[if_pos this]
def bK (c:Ctx) (l:List (Int×Int)) (k:Nat):Ctx:=(l.take k).foldl gY ⟨c.c0,c.c1,c.c2,c.c3,l⟩
theorem rr {c:Ctx} {l:List (Int×Int)} {k:Nat} (h:k<l.length) {x:Int×Int} (d:l[k]=x):bK c l (k+1)=gY (bK c l k) x:=by unfold bK;rw[List.take_succ_eq_append_getElem h,List.foldl_append,d];rfl
def e9 (c:Ctx) (l:List (Int×Int)):Ctx:=l.foldl gY ⟨c.c0,c.c1,c.c2,c.c3,l⟩
theorem yz (b:Ctx) (d:Int×Int):(gY b d).l=b.l:=by
 unfold gY;by_cases h:(inB d.1 0 3 && decide (1<=d.2))=true
 ·rw[if_pos h,dX]
 ·rw[if_neg h]
theorem tf (m:List (Int×Int)):∀b:Ctx,(m.foldl gY b).l=b.l:=by
 induction m with
 | nil=>intro b;rfl
 | cons d m ih=>intro b;rw[List.foldl_cons,ih,yz]
theorem vT (c:Ctx) (l:List (Int×Int)):(e9 c l).l=l:=by unfold e9;rw[tf]
theorem vS {b:Ctx} {d:Int×Int} (f:aW b=true) (c:ai d=true):aW (gY b d)=true:=by
 rw[im c];unfold ai inB at c;simp only[Bool.and_eq_true,decide_eq_true_eq] at c;obtain ⟨⟨h,l⟩,j,k⟩:=c;have g:d.1=0\/d.1=1\/d.1=2\/d.1=3:=by omega
 obtain ⟨x,y⟩:=d;simp only at g h l j k;unfold aW inB at f ⊢;simp only[Bool.and_eq_true,decide_eq_true_eq] at f ⊢;rcases g with rfl|rfl|rfl|rfl<;>simp[setClk,clk]<;>omega
theorem sg {c:Ctx} {l:List (Int×Int)} (h:aW c=true) (j:∀x∈l,ai x=true):aW (e9 c l)=true:=by
 unfold e9;have:∀(m:List (Int×Int)) (b:Ctx),aW b=true->(∀x∈m,ai x=true)->aW (m.foldl gY b)=true:=by
  intro m;induction m with
  | nil=>intro b f _;exact f
  | cons d m ih=>intro b f g;rw[List.foldl_cons];exact ih _ (vS f (g d (by simp))) (fun x k=>g x (by simp[k]))
 exact this l _ h j
def woE (c:Ctx) (l:List (Int×Int)):Int:=if aU c≠0 then aU c else eB c (e9 c l)
def woC (c:Ctx) (l:List (Int×Int)):Ctx:=if woE c l=0 then ⟨(e9 c l).c0,(e9 c l).c1,(e9 c l).c2,(e9 c l).c3,fv c (e9 c l)⟩ else ar

theorem qC (c:Ctx) (l:List (Int×Int)) (A L:Option T) (ca cl:Nat) (w:H) (hl:c.l.length<=maxLen) (hll:l.length<=400) (hri:∀x∈l,ai x=true) (hr:Row w A c.l) (hrl:Row w L l) :
  Calls X 68 #[U #[S I c.c0,S I c.c1,S I c.c2,S I c.c3,O A c.l.length ca],O L l.length cl] w fun e w'=>∃C cp,e= .returned (Y #[U #[S I (woC c l).c0,S I (woC c l).c1,S I (woC c l).c2,S I (woC c l).c3,O C (woC c l).l.length cp],S I (woE c l)])/\Row w' C (woC c l).l/\(C=none->cp=0)/\(∀x,C=some x->w.heap.size<=x.block)/\jb2 w w':=by
 have hg0:Gr w ((w.alloc (J #[S I c.c0,S I c.c1,S I c.c2,S I c.c3,O A c.l.length ca] 32)).alloc (J #[S I 0,S I 0,S I 0,S I 0,O none 0 0] 32)):=((gR w).alloc _).alloc _;have hc0:CtxAt ((w.alloc (J #[S I c.c0,S I c.c1,S I c.c2,S I c.c3,O A c.l.length ca] 32)).alloc (J #[S I 0,S I 0,S I 0,S I 0,O none 0 0] 32)) w.heap.size c A ca:=(CtxAt.new 32 hr rfl).gr ((gR _).alloc _);have hz0:ZAt ((w.alloc (J #[S I c.c0,S I c.c1,S I c.c2,S I c.c3,O A c.l.length ca] 32)).alloc (J #[S I 0,S I 0,S I 0,S I 0,O none 0 0] 32)) (w.heap.size+1):=ZAt.new _ 32 (by simp);have hck:=fj c A ca _ hl hc0.row;have hckH:Z _:=hck;go_enter Tryz.func68,Tryz.ntmps68;go_wp2_with fail;refine ja0 hckH ?_;rintro e w1 ⟨rfl,hg1⟩;have hc1:=hc0.gr hg1;have hz1:=hz0.below hg1.below;have hbw1:jb2 w w1:=(hg0.trans hg1).below;have hrl1:=hrl.gr (hg0.trans hg1);obtain ⟨E1,hE1⟩:=jb0 (aU c);rw[hE1];by_cases h1:E1=0
 ·subst h1;have heH:Z (aU c=0):=hE1;obtain ⟨c0,c1,c2,c3,c4,clt,crow⟩:=(show CtxAt _ _ _ _ _ from hc1);have hk1:ClkAt (w1.alloc (J #[S I c.c0,S I c.c1,S I c.c2,S I c.c3] 29)) w1.heap.size c.c0 c.c1 c.c2 c.c3:=⟨ab (gR _) rfl,ab (gR _) rfl,ab (gR _) rfl,ab (gR _) rfl,fun j=>ee (gR _) j,by simp⟩;have hb1:jb2 w1 (w1.alloc (J #[S I c.c0,S I c.c1,S I c.c2,S I c.c3] 29)):=((gR _).alloc _).below;go_wp2;generalize w1.alloc (J #[S I c.c0,S I c.c1,S I c.c2,S I c.c3] 29)=w2 at hk1 hb1 ⊢;have hcH:Z (CtxAt w1 w.heap.size c A ca):=hc1;go_loopw [22] (fun i wr=>∃k:Nat,k<=l.length/\i= S I k/\ClkAt wr w1.heap.size (bK c l k).c0 (bK c l k).c1 (bK c l k).c2 (bK c l k).c3/\jb2 w1 wr) (fun i _=>l.length-(intOf i).toNat);exact ⟨0,by omega,rfl,hk1,hb1⟩;obtain ⟨k,hk,rfl,hat,hbel⟩:=hrel;have hsR:=hbel.size;by_cases hlt:k<l.length
  ·have hltz:(k:Int)<(l.length:Int):=(by omega);obtain ⟨bb,off,rfl,hbb,hcs⟩:=(hrl1.below hbel).at hlt;obtain ⟨⟨x,y⟩,hx⟩:∃x,l[k]=x:=⟨_,rfl⟩;obtain ⟨e0,e1⟩:=hcs k hlt;rw[hx] at e0 e1;have hst:=rr (c:=c) hlt hx;have hrx:=hri _ (gM hlt);rw[hx] at hrx;rw[im hrx] at hst;have hrb:(0<=x/\x<=3)/\1<=y/\y<=1099511627776:=by unfold ai inB at hrx;simpa only[Bool.and_eq_true,decide_eq_true_eq] using hrx
   obtain ⟨⟨hx0,hx3⟩,hy1,hy2⟩:=hrb;obtain ⟨B,HB⟩:=jb0 (bK c l k);rw[HB] at hat hst;have hstH:Z (bK c l (k+1)=setClk B x (min (clk B x) (y-1))):=hst;have hgD:Gr wr (wr.alloc (J #[S I x,S I y] 89)):=(gR _).alloc _;have hd0:=(DotAt.new (w:=wr) (x:=x) (y:=y) 89 rfl);have hatD:ClkAt (wr.alloc (J #[S I x,S I y] 89)) w1.heap.size B.c0 B.c1 B.c2 B.c3:=hat.below hgD.below;have hbD:jb2 w1 (wr.alloc (J #[S I x,S I y] 89)):=hbel.trans (hgD.below.mono hsR);obtain ⟨d0,d1,dlt⟩:=(show DotAt _ _ _ _ from hd0);obtain ⟨q0,q1,q2,q3,qf,qlt⟩:=(show ClkAt _ _ _ _ _ _ from hatD);have h4:x=0\/x=1\/x=2\/x=3:=by omega
   rcases h4 with rfl|rfl|rfl|rfl
   ·go_wp2_with (first|(go_at_call 106;refine (dw _ _).mono ?_;rintro e w' ⟨rfl,rfl⟩)|fail);generalize wr.alloc (J #[S I 0,S I y] 89)=wD at hatD hbD hd0 d0 d1 dlt q0 q1 q2 q3 qf qlt ⊢;by_cases hgt:B.c0<=y-1
    ·have hmx:min B.c0 (y-1)=B.c0:=(by omega);have h5H:Z (ClkAt ((wD.jb3 w1.heap.size 0 (S I B.c0)).drew) w1.heap.size (bK c l (k+1)).c0 (bK c l (k+1)).c1 (bK c l (k+1)).c2 (bK c l (k+1)).c3):=by show ClkAt _ _ _ _ _ _;have h5:=(hatD.set 0 B.c0).below (bR _ _).drew;rw[hstH.out];simpa[setClk,clk,hmx] using h5
     have hb5:Z (jb2 w1 ((wD.jb3 w1.heap.size 0 (S I B.c0)).drew)):=(hbD.setCell (nR _) _).drew;go_region;go_wp2;go_roundw;exact ⟨k+1,by omega,by go_num,h5H.out,hb5.out⟩;simp[intOf];omega
    ·have hmx:min B.c0 (y-1)=(y-1):=(by omega);have h5H:Z (ClkAt ((wD.jb3 w1.heap.size 0 (S I (y-1))).drew) w1.heap.size (bK c l (k+1)).c0 (bK c l (k+1)).c1 (bK c l (k+1)).c2 (bK c l (k+1)).c3):=by show ClkAt _ _ _ _ _ _;have h5:=(hatD.set 0 (y-1)).below (bR _ _).drew;rw[hstH.out];simpa[setClk,clk,hmx] using h5
     have hb5:Z (jb2 w1 ((wD.jb3 w1.heap.size 0 (S I (y-1))).drew)):=(hbD.setCell (nR _) _).drew;go_region;go_wp2;go_roundw;exact ⟨k+1,by omega,by go_num,h5H.out,hb5.out⟩;simp[intOf];omega
   ·go_wp2_with (first|(go_at_call 106;refine (dw _ _).mono ?_;rintro e w' ⟨rfl,rfl⟩)|fail);generalize wr.alloc (J #[S I 1,S I y] 89)=wD at hatD hbD hd0 d0 d1 dlt q0 q1 q2 q3 qf qlt ⊢;by_cases hgt:B.c1<=y-1
    ·have hmx:min B.c1 (y-1)=B.c1:=(by omega);have h5H:Z (ClkAt ((wD.jb3 w1.heap.size 1 (S I B.c1)).drew) w1.heap.size (bK c l (k+1)).c0 (bK c l (k+1)).c1 (bK c l (k+1)).c2 (bK c l (k+1)).c3):=by show ClkAt _ _ _ _ _ _;have h5:=(hatD.set 1 B.c1).below (bR _ _).drew;rw[hstH.out];simpa[setClk,clk,hmx] using h5
     have hb5:Z (jb2 w1 ((wD.jb3 w1.heap.size 1 (S I B.c1)).drew)):=(hbD.setCell (nR _) _).drew;go_region;go_wp2;go_roundw;exact ⟨k+1,by omega,by go_num,h5H.out,hb5.out⟩;simp[intOf];omega
    ·have hmx:min B.c1 (y-1)=(y-1):=(by omega);have h5H:Z (ClkAt ((wD.jb3 w1.heap.size 1 (S I (y-1))).drew) w1.heap.size (bK c l (k+1)).c0 (bK c l (k+1)).c1 (bK c l (k+1)).c2 (bK c l (k+1)).c3):=by show ClkAt _ _ _ _ _ _;have h5:=(hatD.set 1 (y-1)).below (bR _ _).drew;rw[hstH.out];simpa[setClk,clk,hmx] using h5
     have hb5:Z (jb2 w1 ((wD.jb3 w1.heap.size 1 (S I (y-1))).drew)):=(hbD.setCell (nR _) _).drew;go_region;go_wp2;go_roundw;exact ⟨k+1,by omega,by go_num,h5H.out,hb5.out⟩;simp[intOf];omega
   ·go_wp2_with (first|(go_at_call 106;refine (dw _ _).mono ?_;rintro e w' ⟨rfl,rfl⟩)|fail);generalize wr.alloc (J #[S I 2,S I y] 89)=wD at hatD hbD hd0 d0 d1 dlt q0 q1 q2 q3 qf qlt ⊢;by_cases hgt:B.c2<=y-1
    ·have hmx:min B.c2 (y-1)=B.c2:=(by omega);have h5H:Z (ClkAt ((wD.jb3 w1.heap.size 2 (S I B.c2)).drew) w1.heap.size (bK c l (k+1)).c0 (bK c l (k+1)).c1 (bK c l (k+1)).c2 (bK c l (k+1)).c3):=by show ClkAt _ _ _ _ _ _;have h5:=(hatD.set 2 B.c2).below (bR _ _).drew;rw[hstH.out];simpa[setClk,clk,hmx] using h5
     have hb5:Z (jb2 w1 ((wD.jb3 w1.heap.size 2 (S I B.c2)).drew)):=(hbD.setCell (nR _) _).drew;go_region;go_wp2;go_roundw;exact ⟨k+1,by omega,by go_num,h5H.out,hb5.out⟩;simp[intOf];omega
    ·have hmx:min B.c2 (y-1)=(y-1):=(by omega);have h5H:Z (ClkAt ((wD.jb3 w1.heap.size 2 (S I (y-1))).drew) w1.heap.size (bK c l (k+1)).c0 (bK c l (k+1)).c1 (bK c l (k+1)).c2 (bK c l (k+1)).c3):=by show ClkAt _ _ _ _ _ _;have h5:=(hatD.set 2 (y-1)).below (bR _ _).drew;rw[hstH.out];simpa[setClk,clk,hmx] using h5
     have hb5:Z (jb2 w1 ((wD.jb3 w1.heap.size 2 (S I (y-1))).drew)):=(hbD.setCell (nR _) _).drew;go_region;go_wp2;go_roundw;exact ⟨k+1,by omega,by go_num,h5H.out,hb5.out⟩;simp[intOf];omega
   ·go_wp2_with (first|(go_at_call 106;refine (dw _ _).mono ?_;rintro e w' ⟨rfl,rfl⟩)|fail);generalize wr.alloc (J #[S I 3,S I y] 89)=wD at hatD hbD hd0 d0 d1 dlt q0 q1 q2 q3 qf qlt ⊢;by_cases hgt:B.c3<=y-1
    ·have hmx:min B.c3 (y-1)=B.c3:=(by omega);have h5H:Z (ClkAt ((wD.jb3 w1.heap.size 3 (S I B.c3)).drew) w1.heap.size (bK c l (k+1)).c0 (bK c l (k+1)).c1 (bK c l (k+1)).c2 (bK c l (k+1)).c3):=by show ClkAt _ _ _ _ _ _;have h5:=(hatD.set 3 B.c3).below (bR _ _).drew;rw[hstH.out];simpa[setClk,clk,hmx] using h5
     have hb5:Z (jb2 w1 ((wD.jb3 w1.heap.size 3 (S I B.c3)).drew)):=(hbD.setCell (nR _) _).drew;go_region;go_wp2;go_roundw;exact ⟨k+1,by omega,by go_num,h5H.out,hb5.out⟩;simp[intOf];omega
    ·have hmx:min B.c3 (y-1)=(y-1):=(by omega);have h5H:Z (ClkAt ((wD.jb3 w1.heap.size 3 (S I (y-1))).drew) w1.heap.size (bK c l (k+1)).c0 (bK c l (k+1)).c1 (bK c l (k+1)).c2 (bK c l (k+1)).c3):=by show ClkAt _ _ _ _ _ _;have h5:=(hatD.set 3 (y-1)).below (bR _ _).drew;rw[hstH.out];simpa[setClk,clk,hmx] using h5
     have hb5:Z (jb2 w1 ((wD.jb3 w1.heap.size 3 (S I (y-1))).drew)):=(hbD.setCell (nR _) _).drew;go_region;go_wp2;go_roundw;exact ⟨k+1,by omega,by go_num,h5H.out,hb5.out⟩;simp[intOf];omega
  ·have hltz:¬(k:Int)<(l.length:Int):=(by omega);have hkl:bK c l k=e9 c l:=by unfold bK e9;rw[List.take_of_length_le (by omega)]
   rw[hkl] at hat;have hcR:=hcH.out.below hbel;have hzR:=hz1.below hbel;have hrlR:=hrl1.below hbel;have hbwR:jb2 w wr:=hbw1.trans (hbel.mono hbw1.size);have hls:(e9 c l).l=l:=vT c l;have hok:=aY heH.out;have hokL:=sg hok.1 hri;have hrL:Row wr L (e9 c l).l:=by rw[hls];exact hrlR
   have hLl:(e9 c l).l.length<=400:=(by rw[hls];exact hll);obtain ⟨c0,c1,c2,c3,c4,clt,crow⟩:=(show CtxAt _ _ _ _ _ from hcR);obtain ⟨q0,q1,q2,q3,qf,qlt⟩:=(show ClkAt _ _ _ _ _ _ from hat);have hwoH:Z (woE c l=eB c (e9 c l)/\woC c l=if eB c (e9 c l)=0 then ⟨(e9 c l).c0,(e9 c l).c1,(e9 c l).c2,(e9 c l).c3,fv c (e9 c l)⟩ else ar):=by have h2:woE c l=eB c (e9 c l):=(by unfold woE;rw[heH.out];simp);exact ⟨h2,by unfold woC;rw[h2]⟩
   obtain ⟨B,HB⟩:=jb0 (e9 c l);rw[HB] at hat hls hokL hrL hLl q0 q1 q2 q3 hwoH;have hms:=pX c B A L ca cl wr hok.1 hokL hok.2.1 hLl crow hrL;rw[hls] at hms;have hmsH:Z _:=hms;have hatK:Z (ClkAt wr w1.heap.size B.c0 B.c1 B.c2 B.c3):=hat;go_wp2_with fail;refine ja0 hmsH ?_;rintro e w3 ⟨C,cp,rfl,hrC,hC0,hCb,hb3⟩;have hat3:=hatK.out.below hb3;have hz3:=hzR.below hb3;have hbw3:jb2 w w3:=hbwR.trans (hb3.mono hbwR.size);have hCn:Z (∀x,C=some x->x.block≠w.heap.size+1):=fun x hx=>by have:=hCb x hx;have:=hbel.size;omega
   have hCb3:Z (∀x,C=some x->w.heap.size<=x.block):=fun x hx=>nT hbwR.size (hCb x hx);obtain ⟨M,HM⟩:=jb0 (fv c B);obtain ⟨E3,HE⟩:=jb0 (eB c B);rw[HM] at hrC hwoH ⊢;rw[HE] at hwoH ⊢;by_cases h3:E3=0
   ·subst h3;have hfin:Z (woE c l=0/\woC c l=⟨B.c0,B.c1,B.c2,B.c3,M⟩):=⟨hwoH.out.1,by rw[hwoH.out.2,if_pos rfl]⟩;obtain ⟨q0,q1,q2,q3,qf,qlt3⟩:=(show ClkAt _ _ _ _ _ _ from hat3);obtain ⟨z0,z1,z2,z3,z4,zf,zlt⟩:=(show ZAt _ _ from hz3);have hrCH:Z (Row w3 C M):=hrC;have hbw:Z (jb2 w w3):=hbw3;go_wp2;rw[hfin.out.1,hfin.out.2];have h1:=hCn.out;exact bodyPost_ret (v:= Y #[U #[S I B.c0,S I B.c1,S I B.c2,S I B.c3,O C M.length cp],S I 0]) (by simp[results,Tryz.results68,go_sem,z0,z1,z2,z3,z4]) rfl ⟨C,cp,rfl,((((hrCH.out.setCell _ h1).setCell _ h1).setCell _ h1).setCell _ h1).setCell _ h1,hC0,hCb3.out,au hbw.out (by omega) _ _ _ _ _⟩
   ·have hfin:Z (woE c l=E3/\woC c l=ar):=⟨hwoH.out.1,by rw[hwoH.out.2,if_neg h3]⟩;have heb:(E3 != 0)=true:=by simpa using h3
    obtain ⟨z0,z1,z2,z3,z4,zf,zlt⟩:=(show ZAt _ _ from hz3);have hbw:Z (jb2 w w3):=hbw3;go_wp2;rw[hfin.out.1,hfin.out.2];exact bodyPost_ret (v:= Y #[U #[S I 0,S I 0,S I 0,S I 0,O none 0 0],S I E3]) (by simp[results,Tryz.results68,go_sem,z0,z1,z2,z3,z4]) rfl ⟨none,0,rfl,oL rfl,fun _=>rfl,(fun x hx=>by cases hx),au hbw.out (by omega) _ _ _ _ _⟩
 ·have hfin:Z (woE c l=E1/\woC c l=ar):=by have h2:woE c l=E1:=(by unfold woE;rw[hE1,if_pos h1]);exact ⟨h2,by unfold woC;rw[h2,if_neg h1]⟩
  have heb:(E1 != 0)=true:=by simpa using h1
  obtain ⟨z0,z1,z2,z3,z4,zf,zlt⟩:=(show ZAt _ _ from hz1);have hbw:Z (jb2 w w1):=hbw1;go_wp2;rw[hfin.out.1,hfin.out.2];exact bodyPost_ret (v:= Y #[U #[S I 0,S I 0,S I 0,S I 0,O none 0 0],S I E1]) (by simp[results,Tryz.results68,go_sem,z0,z1,z2,z3,z4]) rfl ⟨none,0,rfl,oL rfl,fun _=>rfl,(fun x hx=>by cases hx),au hbw.out (by omega) _ _ _ _ _⟩


def bE (c:Ctx) (x:Cel):Bool:=ax c x.1
def fd (c:Ctx) (l:List Cel):List Cel:=l.filter fun x=> !bE c x
def bn (t:Tab) (c:Ctx):Int:=if ay t≠0 then ay t else if aU c≠0 then aU c else woE t.c (ag (bE c) t.e)
def bz (t:Tab) (c:Ctx):Tab:=if bn t c=0 then ⟨woC t.c (ag (bE c) t.e),fd c t.e⟩ else ⟨ar,[]⟩
theorem iL {t:Tab} {c:Ctx} {E:Int} (h:bn t c=E) (d:E≠0):bn t c=E/\bz t c=⟨ar,[]⟩:=⟨h,by unfold bz;rw[h,if_neg d]⟩

theorem m7 {c:Ctx} {l:List Cel} {k:Nat} (h:k<l.length) {x:Cel} (d:l[k]=x):fd c (l.take (k+1))=fd c (l.take k)++(if bE c x then [] else [x]):=by unfold fd;rw[eV h d];cases bE c x<;>simp
theorem jN (c:Ctx) (l:List Cel):(fd c l).length<=l.length:=List.length_filter_le _ _

theorem iO {t:Tab} (h:ay t=0) (p:Cel->Bool):∀x∈ag p t.e,ai x=true:=by intro x c;obtain ⟨y,d,rfl⟩:=List.mem_map.1 c;exact jI (fo (af h).1) (ig h (List.mem_filter.1 d).1)

def eD (v u:ia):Prop:=∀g,v.ownBlock=some g->u.ownBlock=some g->False
theorem eD.symm {v u:ia} (h:eD v u):eD u v:=fun g c d=>h g d c
theorem eD.ne {v u:ia} (h:eD v u):v.ownBlock=none\/v.ownBlock≠u.ownBlock:=by
 cases c:v.ownBlock with
 | none=>exact oL rfl
 | some g=>exact oR fun e=>h g c e.symm
theorem eD.grown {v d u:ia} {N:Nat} (h:eD v u) (k:d.ownBlock=v.ownBlock\/d.ownBlock=some N) (j:∀g,u.ownBlock=some g->g<N):eD d u:=by
 intro g c f;rcases k with e|e
 ·exact h g (e▸c) f
 ·rw[e] at c;have:=j g f;have:=sI c;omega

theorem fR (w:H) {ops:Array Oper} {d:List Oper} {o:Oper} {a:Act} {Q:Exit->Act->H->Prop} (n:o.guard=none) (s x:Operand)
  (ho:o.op= .call { callee:= .builtin .append,args:= #[s,x],argTypes:= #[33,33] })
  (c:Nat) (v:ia) (l m:List Cel) (k:T) (cap:Nat) (hs:a.eval s=v) (hx:a.eval x= O (some k) m.length cap) (j:cL w c v l) (hr:av w (some k) m)
  (r:l.length+m.length<=maxLen) (hb:(l.length+m.length)*40<=140737488355328) (g:c<=w.heap.size)
  (h:∀f w',cL w' c f (l++m)->w.grownBy w' v.ownBlock->(f.ownBlock=v.ownBlock\/f.ownBlock=some w.heap.size)->wpList X ops Q d (a.put o.dst f) w'):wpList X ops Q (o::d) a w :=
 wpList_plain n fun K hK=>by
  obtain ⟨i0,hi,C,D,E⟩:=info_parts Tryz.infoC
  obtain ⟨f,w',F,R,g3,_,g5⟩:=run_append_own_at (P:=X) w c 33 o.type 91 i0 (U #[S I 0,S I 0,S I 0,S I 0,S I 0]) 5 40 Tryz.underlying33 hi C D E rfl (by omega) v l.length (bu ex l) j k m.length cap (bu ex m) (cA cO m) (hr.cells cO (by omega)) (fun u hu=>ef ji u m hu) r hb g
  have h2:cL w' c f (l++m):=by
   show w'.ownsRow c _ 5 f (l++m).length (bu ex (l++m))
   rw[List.length_append,cV]
   exact R
  unfold Oper.wp execOp
  simp only[ho,resolve,invoke,builtin,Sem.run_bind,Sem.run_pure,Result.andThen_ok,List.map_toArray,List.map_cons,List.map_nil,hs,hx,F]
  exact hK _ _ (h f w' h2 g3 g5)

structure SinceAt (w W:H) (t:Tab) (c:Ctx) (A:Option T) (ca:Nat) (D:Option T) (cd:Nat) (B:Option T) (cb:Nat):Prop where
 ta:TabAt W w.heap.size t A ca D cd
 tc:CtxAt W (w.heap.size+1) c B cb
 res:qD W (w.heap.size+1+1)
 hw:jb2 w W
theorem SinceAt.below {w W d:H} {t:Tab} {c:Ctx} {A B D:Option T} {ca cb cd:Nat} (h:SinceAt w W t c A ca D cd B cb) (k:jb2 W d):SinceAt w d t c A ca D cd B cb :=
 ⟨h.ta.below k,h.tc.below k,h.res.below k,h.hw.trans (k.mono h.hw.size)⟩
theorem SinceAt.gr {w W d:H} {t:Tab} {c:Ctx} {A B D:Option T} {ca cb cd:Nat} (h:SinceAt w W t c A ca D cd B cb) (k:Gr W d):SinceAt w d t c A ca D cd B cb:=h.below k.below

theorem nU (t:Tab) (c:Ctx) (A B D:Option T) (ca cb cd:Nat) (w:H) (dx:t.c.l.length<=maxLen) (d6:c.l.length<=maxLen) (b9:t.e.length<=maxLen) (es:Row w A t.c.l) (ey:Row w B c.l) (ez:av w D t.e) :
  Calls X 32 #[U (T6 t A ca D cd).toArray,U (ja7 c B cb)] w fun e w'=>∃E ce F cf,e= .returned (Y #[U (T6 (bz t c) E ce F cf).toArray,S I (bn t c)])/\Row w' E (bz t c).c.l/\av w' F (bz t c).e/\(E=none->ce=0)/\(F=none->cf=0)/\jb2 w w'/\(∀x,E=some x->w.heap.size<=x.block)/\(∀x,F=some x->w.heap.size<=x.block):=by
 have cj:SinceAt w (((w.alloc (J #[S I t.c.c0,S I t.c.c1,S I t.c.c2,S I t.c.c3,O A t.c.l.length ca,O D t.e.length cd] 35)).alloc (J (ja7 c B cb) 32)).alloc (J #[S I 0,S I 0,S I 0,S I 0,O none 0 0,O none 0 0] 35)) t c A ca D cd B cb :=
  ⟨(TabAt.new 35 es ez rfl).gr (((gR _).alloc _).alloc _),(CtxAt.new 32 (ey.gr ((gR _).alloc _)) (by simp)).gr ((gR _).alloc _),Six.new _ _ _ _ _ _ _ 35 (by simp),((((gR w).alloc _).alloc _).alloc _).below⟩
 have ds:=ja3 dx d6 b9;have an:=ja9 (eE t A ca D cd _ dx b9 cj.ta.row cj.ta.rowC);clear dx d6 b9 es ey ez;go_enter Tryz.func32,Tryz.ntmps32;go_wp2_with fail;refine ja0 an ?_;rintro e w1 ⟨rfl,ea⟩;clear an;have be:=cj.gr ea;clear cj ea;obtain ⟨E1,bc⟩:=jb0 (ay t);rw[bc];by_cases h1:E1=0
 ·subst h1;have cm:=ja1 bc;clear bc;obtain ⟨b0,b1,b2,b3,b4,dG,R⟩:=(show CtxAt _ _ _ _ _ from be.tc);have an:=ja9 (fj c B cb w1 ds.out.2.1 R);clear R;go_wp2_with fail;refine ja0 an ?_;rintro e w2 ⟨rfl,eb⟩;clear an b0 b1 b2 b3 b4 dG;have bh:=be.gr eb;clear be eb;obtain ⟨E2,bd⟩:=jb0 (aU c);rw[bd];by_cases h2:E2=0
  ·subst h2;have f2:=ja1 bd;clear bd;have a5:=bh.ta.k5;have d9:t.e.length<=400:=(af cm.out).2.1;go_wp2;clear a5;go_loopw [8,9,29] (fun v u i wr=>∃k:Nat,k<=t.e.length/\i= S I k/\cL wr w2.heap.size v (fd c (t.e.take k))/\Own wr w2.heap.size u (ag (bE c) (t.e.take k))/\eD v u/\jb2 w2 wr) (fun _ _ i _=>t.e.length-(intOf i).toNat);exact ⟨0,by omega,rfl,ae.nil _ _ _ _ _,Own.nil _ _,(fun g h=>by cases h),bR _ _⟩;obtain ⟨k,hk,rfl,a6,aL,c8,ba⟩:=hrel;have ap:=bh.below ba;have e5:w2.heap.size<=wr.heap.size:=ba.size;by_cases cn:k<t.e.length
   ·have ej:(k:Int)<(t.e.length:Int):=(by omega);obtain ⟨bb,gc,rfl,ga,d7⟩:=av.get ap.ta.rowC cn;obtain ⟨x,hx⟩:=jb0 (t.e[k]);obtain ⟨e0,e1,e2,e3,e4⟩:=d7 k cn;rw[hx] at e0 e1 e2 e3 e4;have b6:=m7 (c:=c) cn hx;have ao:=eT (p:=bE c) cn hx;clear d7 hx;obtain ⟨M,HM⟩:=jb0 (fd c (t.e.take k));have f7:M.length<=400:=by rw[<-HM];exact nT (jN _ _) (by rw[List.length_take];omega)
    obtain ⟨N,HN⟩:=jb0 (ag (bE c) (t.e.take k));have d4:N.length<=400:=by rw[<-HN];exact nT (ci _ _) (by rw[List.length_take];omega)
    rw[HM] at a6 b6;rw[HN] at aL ao;clear HM HN;obtain ⟨A1,ad,rfl,d0,n,bt⟩:=ae.row cO a6;obtain ⟨A2,a8,rfl,fn,r,cG⟩:=aL.row;have bG:=ja1 a6;have bv:=ja1 aL;have a9:=ja1 c8;have bo:=ja1 ba;have dp:Gr wr (wr.alloc (J #[S I x.1.1,S I x.1.2,S I x.2.1,S I x.2.2.1,S I x.2.2.2] 91)):=(gR _).alloc _;have dy:=CelAt.new (w:=wr) x 91 rfl;have d3:=ap.gr dp;obtain ⟨b0,b1,b2,b3,b4,dG,R⟩:=(show CtxAt _ _ _ _ _ from d3.tc);obtain ⟨x0,x1,x2,x3,x4,f3⟩:=(show CelAt _ _ _ from dy);have cz:=ja9 (jm c B cb x.1 _ ds.out.2.1 R);clear a6 aL c8 ba n r bt cG ap;go_wp2_with fail;refine ja0 cz ?_;rintro e w3 ⟨rfl,dk⟩;clear cz x0 x1 x2 x3 x4 b0 b1 b2 b3 b4;have f:Gr wr w3:=dp.trans dk;obtain ⟨x0,x1,x2,x3,x4,f5⟩:=(show CelAt _ _ _ from dy.gr dk);clear d3 dp dk dy f3 R;cases hq:ax c x.1
    ·have b7:Z (fd c (t.e.take (k+1))=M++[x]):=(by show _=_;rw[b6,if_neg (by simp[bE,hq])]);have b8:Z (ag (bE c) (t.e.take (k+1))=N):=by show _=_;rw[ao,if_neg (by simp[bE,hq])];simp
     have cl:Z (M.length+[x].length<=maxLen/\(M.length+[x].length)*40<=140737488355328):=(by show _/\_;unfold maxLen;simp only[List.length_cons,List.length_nil];omega);clear b6 ao;go_wp2_with (at_builtin;refine fR _ rfl _ _ rfl w2.heap.size (O A1 M.length ad) M [x] (jb5 w3.heap.size 0) 1 rfl rfl ?ho ?hr cl.out.1 cl.out.2 ?hs ?_);case ho=>exact bG.out.gr (f.alloc _)
     case hr=>exact fx rfl _ _
     case hs=>have:=f.size;simp;omega
     intro v1 w4 m j ak;have c9:Z (jb2 w2 w4):=bo.out.trans (((f.alloc _).below.mono e5).trans (ae.grown_below (bG.out.gr (f.alloc _)) j (by have:=f.size;simp;omega)));have a7:=ja1 m;have bC:=bv.out.gr (f.alloc (J #[S I x.1.1,S I x.1.2,S I x.2.1,S I x.2.2.1,S I x.2.2.2] 91));have ek:=ja1 (World.ownsRow.kept bC j a9.out.symm.ne);have bl:Z (eD v1 (O A2 N.length a8)):=a9.out.grown ak fun g hg=>by have:=(World.ownsRow.lt bC g hg).2;simpa using this
     clear m j ak bC;go_wp2;go_roundw;exact ⟨k+1,by omega,by go_num,by rw[b7.out];exact a7.out,by rw[b8.out];exact ek.out,bl.out,c9.out⟩;simp[intOf];omega
    ·have b7:Z (fd c (t.e.take (k+1))=M):=(by show _=_;rw[b6,if_pos (by simp[bE,hq])];simp);have b8:Z (ag (bE c) (t.e.take (k+1))=N++[x.1]):=by show _=_;rw[ao,if_pos (by simp[bE,hq])]
     have cl:Z ((N.length+[x.1].length)*16<=140737488355328):=(by show _<=_;simp only[List.length_cons,List.length_nil];omega);clear b6 ao;go_wp2_with (at_builtin;refine al _ rfl _ _ rfl w2.heap.size (O A2 N.length a8) N [x.1] (jb4 w3.heap.size 0) 1 rfl rfl ?ho ?hr (fun h=>by cases h) cl.out ?hs ?_);case ho=>exact bv.out.gr (f.alloc _)
     case hr=>exact ed rfl x.1.1 x.1.2 _
     case hs=>have:=f.size;simp;omega
     intro v1 w4 m j ak;have c9:Z (jb2 w2 w4):=bo.out.trans (((f.alloc _).below.mono e5).trans (Own.grown_below (bv.out.gr (f.alloc _)) j (by have:=f.size;simp;omega)));have a7:=ja1 m;have bN:=bG.out.gr (f.alloc (J #[S I x.1.1,S I x.1.2] 89));have em:=ja1 (World.ownsRow.kept bN j a9.out.ne);have bl:Z (eD (O A1 M.length ad) v1):=(a9.out.symm.grown ak fun g hg=>by have:=(World.ownsRow.lt bN g hg).2;simpa using this).symm;clear m j ak bN;go_wp2;go_roundw;exact ⟨k+1,by omega,by go_num,by rw[b7.out];exact em.out,by rw[b8.out];exact a7.out,bl.out,c9.out⟩;simp[intOf];omega
   ·have ej:¬(k:Int)<(t.e.length:Int):=(by omega);have eg:t.e.take k=t.e:=List.take_of_length_le (by omega);rw[eg] at a6 aL;obtain ⟨A1,ad,rfl,d0,n,bt⟩:=ae.row cO a6;obtain ⟨A2,a8,rfl,fn,r,cG⟩:=aL.row;obtain ⟨N,HN⟩:=jb0 (ag (bE c) t.e);have d4:N.length<=400:=by rw[<-HN];exact nT (ci _ _) d9
    have d5:∀x∈N,ai x=true:=(by rw[<-HN];exact iO cm.out _);obtain ⟨M,HM⟩:=jb0 (fd c t.e);have ah:Z (bn t c=woE t.c N/\bz t c=if woE t.c N=0 then ⟨woC t.c N,M⟩ else ⟨ar,[]⟩):=by have h1:bn t c=woE t.c N:=(by unfold bn;rw[cm.out,f2.out,HN];simp);exact ⟨h1,by unfold bz;rw[h1,HN,HM]⟩
    rw[HN] at r ⊢;rw[HM] at n ⊢;clear HN HM eg a6 aL c8;obtain ⟨a0,a1,a2,a3,a4,a5,e8,cp,c7⟩:=(show TabAt _ _ _ _ _ _ _ from ap.ta);have e6:=qC t.c N A A2 ca a8 wr ds.out.1 d4 d5 cp r;have c6:Z _:=e6;have gb:=bh.res.lt;have cs:Z (∀x,A1=some x->x.block≠w.heap.size+1+1/\w.heap.size<=x.block):=fun x hx=>by have:=(bt x hx).1;omega
    clear e6 cp c7 e8 r d5;go_wp2_with fail;refine ja0 c6 ?_;rintro e w4 ⟨C4,p4,rfl,dv,f0,cu,dg⟩;clear c6 a0 a1 a2 a3 a4 a5;have d2:=ap.below dg;have b5:=n.below dg;have f4:=ap.res.lt;have cv:Z (∀x,C4=some x->x.block≠w.heap.size+1+1/\w.heap.size<=x.block):=fun x hx=>by have:=cu x hx;omega
    clear n cu dg ap;obtain ⟨gf,hJ⟩:=jb0 (woC t.c N);obtain ⟨E4,d1⟩:=jb0 (woE t.c N);rw[hJ] at dv ah ⊢;rw[d1] at ah ⊢;clear hJ d1;have dl:Gr w4 (w4.alloc (J (ja7 gf C4 p4) 32)):=(gR _).alloc _;have ck:=d2.gr dl;have f1:CtxAt (w4.alloc (J (ja7 gf C4 p4) 32)) w4.heap.size gf C4 p4:=CtxAt.new (c:=gf) 32 dv rfl;have en:=b5.gr dl;clear d2 dl dv b5;by_cases h4:E4=0
    ·subst h4;have d:Z (bn t c=0/\bz t c=⟨gf,M⟩):=⟨ah.out.1,by rw[ah.out.2,if_pos rfl]⟩;obtain ⟨z0,z1,z2,z3,z4,z5,zf,cc⟩:=(show Six _ _ _ _ _ _ _ _ from ck.res);obtain ⟨c0,c1,c2,c3,c4,f6,cr⟩:=(show CtxAt _ _ _ _ _ from f1);have C:=ja1 ck.hw;have bs:=ja1 cr;have c5:=ja1 en;clear cr en ah;go_upto_region 19 with fail;generalize w4.alloc (J (ja7 gf C4 p4) 32)=V at z0 z1 z2 z3 z4 z5 zf cc c0 c1 c2 c3 c4 C bs c5 ⊢;go_wp2;rw[d.out.1,d.out.2];have h1:∀x,C4=some x->x.block≠w.heap.size+1+1:=fun x hx=>(cv.out x hx).1;have h2:∀x,A1=some x->x.block≠w.heap.size+1+1:=fun x hx=>(cs.out x hx).1;exact bodyPost_ret (v:= Y #[U #[S I gf.c0,S I gf.c1,S I gf.c2,S I gf.c3,O C4 gf.l.length p4,O A1 M.length ad],S I 0]) (by simp[results,Tryz.results32,go_sem,z0,z1,z2,z3,z4,z5]) rfl ⟨C4,p4,A1,ad,rfl,(((((bs.out.setCell _ h1).setCell _ h1).setCell _ h1).setCell _ h1).setCell _ h1).setCell _ h1,(((((c5.out.setCell _ h2).setCell _ h2).setCell _ h2).setCell _ h2).setCell _ h2).setCell _ h2,f0,d0,ac C.out (by omega) _ _ _ _ _ _,fun x hx=>(cv.out x hx).2,fun x hx=>(cs.out x hx).2⟩
    ·have d:Z (bn t c=E4/\bz t c=⟨ar,[]⟩):=⟨ah.out.1,by rw[ah.out.2,if_neg h4]⟩;have d8:(E4 != 0)=true:=by simpa using h4
     clear h4 ah;obtain ⟨z0,z1,z2,z3,z4,z5,zf,cc⟩:=(show Six _ _ _ _ _ _ _ _ from ck.res);have C:=ja1 ck.hw;go_upto_region 18 with fail;generalize w4.alloc (J (ja7 gf C4 p4) 32)=V at z0 z1 z2 z3 z4 z5 zf cc C ⊢;go_wp2;rw[d.out.1,d.out.2];exact bodyPost_ret (v:= Y #[U #[S I 0,S I 0,S I 0,S I 0,O none 0 0,O none 0 0],S I E4]) (by simp[results,Tryz.results32,go_sem,z0,z1,z2,z3,z4,z5]) rfl ⟨none,0,none,0,rfl,oL rfl,oL rfl,fun _=>rfl,fun _=>rfl,ac C.out (by omega) _ _ _ _ _ _,(fun _ h=>by cases h),(fun _ h=>by cases h)⟩
  ·have d:Z (bn t c=E2/\bz t c=⟨ar,[]⟩):=iL (by unfold bn;rw[cm.out,bd];simp[h2]) h2;have d8:(E2 != 0)=true:=by simpa using h2
   clear h2 bd;obtain ⟨z0,z1,z2,z3,z4,z5,zf,cc⟩:=(show Six _ _ _ _ _ _ _ _ from bh.res);have C:=ja1 bh.hw;go_wp2;rw[d.out.1,d.out.2];exact bodyPost_ret (v:= Y #[U #[S I 0,S I 0,S I 0,S I 0,O none 0 0,O none 0 0],S I E2]) (by simp[results,Tryz.results32,go_sem,z0,z1,z2,z3,z4,z5]) rfl ⟨none,0,none,0,rfl,oL rfl,oL rfl,fun _=>rfl,fun _=>rfl,ac C.out (by omega) _ _ _ _ _ _,(fun _ h=>by cases h),(fun _ h=>by cases h)⟩
 ·have d:Z (bn t c=E1/\bz t c=⟨ar,[]⟩):=iL (by unfold bn;rw[bc];simp[h1]) h1;have d8:(E1 != 0)=true:=by simpa using h1
  clear h1 bc;obtain ⟨z0,z1,z2,z3,z4,z5,zf,cc⟩:=(show Six _ _ _ _ _ _ _ _ from be.res);have C:=ja1 be.hw;go_wp2;rw[d.out.1,d.out.2];exact bodyPost_ret (v:= Y #[U #[S I 0,S I 0,S I 0,S I 0,O none 0 0,O none 0 0],S I E1]) (by simp[results,Tryz.results32,go_sem,z0,z1,z2,z3,z4,z5]) rfl ⟨none,0,none,0,rfl,oL rfl,oL rfl,fun _=>rfl,fun _=>rfl,ac C.out (by omega) _ _ _ _ _ _,(fun _ h=>by cases h),(fun _ h=>by cases h)⟩


def eG (q:Int) (k:Int) (d:Int×Int):Int:=if d.1=q/\d.2<=k then d.2-1 else k
def cE (q:Int) (K:List (Int×Int)) (n:Int):Int:=K.foldl (eG q) n
theorem fp (q k:Int) (d:Int×Int):eG q k d=if d.1=q then min k (d.2-1) else k:=by
 unfold eG;by_cases c:d.1=q
 ·by_cases f:d.2<=k
  ·rw[if_pos ⟨c,f⟩,if_pos c];omega
  ·rw[if_neg (fun h=>f h.2),if_pos c];omega
 ·rw[if_neg (fun h=>c h.1),if_neg c]
theorem eU (q:Int) (d:Int×Int) (K:List (Int×Int)) (n:Int):cE q (d::K) n=cE q K (eG q n d):=rfl
theorem iD (q:Int) (K:List (Int×Int)):∀n,cE q K n<=n:=by
 induction K with
 | nil=>intro n;exact Int.le_refl _
 | cons d K ih =>
  intro n
  rw[eU]
  have c:=ih (eG q n d)
  have f:eG q n d<=n:=by rw[fp];split<;>omega
  omega
theorem qR (q:Int) (K:List (Int×Int)):∀n m,cE q K (min n m)=min (cE q K n) m:=by
 induction K with
 | nil=>intro n m;rfl
 | cons d K ih =>
  intro n m
  rw[eU,eU]
  have h:eG q (min n m) d=min (eG q n d) m:=by
   rw[fp,fp];split<;>omega
  rw[h,ih]
theorem pt (q:Int) (K:List (Int×Int)) (n:Int):cE q K (cE q K n)=cE q K n:=by
 have c:=qR q K n (cE q K n);have d:=iD q K n;have e:min n (cE q K n)=cE q K n:=by omega
 rw[e] at c;rw[c];omega
theorem mH {q:Int} {K:List (Int×Int)} (c:∀x∈K,ai x=true):∀ {n:Int},0<=n->0<=cE q K n:=by
 induction K with
 | nil=>intro n h;exact h
 | cons d K ih =>
  intro n h
  rw[eU]
  refine ih (fun x g=>c x (by simp[g])) ?_
  have f:=c d (by simp)
  unfold ai inB at f
  simp only[Bool.and_eq_true,decide_eq_true_eq] at f
  rw[fp]
  split<;>omega
theorem pu {q:Int} {K:List (Int×Int)} {n:Int} {k:Nat} (h:k<K.length) {x:Int×Int} (c:K[k]=x):cE q (K.take (k+1)) n=eG q (cE q (K.take k) n) x:=by unfold cE;rw[List.take_succ_eq_append_getElem h,List.foldl_append,c];rfl
theorem sN {b:Ctx} {d:Int×Int} {q:Int} (c:ai d=true) (f:0<=q) (g:q<4):clk (gY b d) q=eG q (clk b q) d:=by
 rw[im c,fp];unfold ai inB at c;simp only[Bool.and_eq_true,decide_eq_true_eq] at c;rw[dI b d.1 _ q c.1.1 (by omega) f g];by_cases h:q=d.1
 ·rw[if_pos h,if_pos h.symm,h]
 ·rw[if_neg h,if_neg (fun e=>h e.symm)]
theorem pj {q:Int} (f:0<=q) (g:q<4):∀(K:List (Int×Int)) (b:Ctx),(∀x∈K,ai x=true)->clk (K.foldl gY b) q=cE q K (clk b q):=by
 intro K;induction K with
 | nil=>intro b _;rfl
 | cons d K ih =>intro b c;rw[List.foldl_cons,ih _ (fun x h=>c x (by simp[h])),eU,sN (c d (by simp)) f g]
theorem uP {c:Ctx} {K:List (Int×Int)} {q:Int} (g:∀x∈K,ai x=true) (d:0<=q) (f:q<4):clk (e9 c K) q=cE q K (clk c q):=by unfold e9;rw[pj d f K _ g];rfl

def fE (K:List (Int×Int)):Ctx:=⟨0,0,0,0,K⟩
theorem vC {K:List (Int×Int)} {x:Int×Int}:ax (fE K) x=K.contains x:=by
 unfold ax fE;have:(inB x.1 0 3 && decide (1<=x.2) && decide (x.2<=clk ⟨0,0,0,0,K⟩ x.1))=false:=by
  have c:clk ⟨0,0,0,0,K⟩ x.1=0:=by unfold clk;simp
  rw[c];by_cases h:1<=x.2
  ·have:¬x.2<=0:=(by omega);simp[this]
  ·simp[h]
 rw[this];simp
theorem yu {c:Ctx} {K:List (Int×Int)} {x:Int×Int} (h:clk (e9 c K) x.1<x.2):ax (e9 c K) x=ax (fE K) x:=by
 rw[vC];unfold ax;rw[vT];have:¬x.2<=clk (e9 c K) x.1:=by omega
 simp[this]
def ckv (b:Ctx) (q:Nat) (i:Nat):Int:=if i<q then clk b i else 0
theorem pk {c:Ctx} (h:aU c=0) {x:Int×Int} (g:x∈c.l):clk c x.1+2<=x.2:=by
 obtain ⟨j,d,rfl⟩:=List.getElem_of_mem g;have:=(aY h).2.2 j d;unfold fD at this;have f:c.l.getD j (0,0)=c.l[j]:=by simp[d]
 rw[f] at this;simp only[Bool.and_eq_true,decide_eq_true_eq] at this;exact this.2

end Go.Proofs.YtbkjgjjpnfhkhaaGreatDoor
