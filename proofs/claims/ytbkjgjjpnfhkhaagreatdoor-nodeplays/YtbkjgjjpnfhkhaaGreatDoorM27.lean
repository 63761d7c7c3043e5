import Derived.Test.YtbkjgjjpnfhkhaaGreatDoorM26
set_option maxRecDepth 100000
set_option maxHeartbeats 8000000
open Go renaming World → M, Calls → ia, Addr → ib
open Go.Ending renaming returned → Q
open Go.IntKind renaming i64 → I
open Go.Obj renaming cells → J
open Go.Proofs.Tryz renaming prog → L
open Go.RowKit renaming Hid → U, Below → ik
open Go.Value renaming int → V, slice → Z, agg → ih, bool → ix
namespace Go.Proofs.YtbkjgjjpnfhkhaaGreatDoor
open Go.RowKit Go.Sort
set_option linter.unusedSimpArgs false

theorem zq {s t r:Tab} {j:Nat} (d:j<2) (c:r=if j=0 then s else t) (id k x3 x4 x5:Int):ndE s t id k (j:Int) x3 x4 x5=doE r id k x3 x4 x5/\ndS s id k (j:Int) x3 x4 x5=(if j=0 then doT r id k x3 x4 x5 else s)/\ndT t id k (j:Int) x3 x4 x5=if j=0 then t else doT r id k x3 x4 x5:=by
 subst c;obtain rfl|rfl:j=0\/j=1:=by omega
 ·exact ⟨rfl,rfl,rfl⟩
 ·exact ⟨rfl,rfl,rfl⟩
theorem kN {s t r:Tab} {j:Nat} (n:j<2) (c:r=if j=0 then s else t) {id k x3 x4 x5 E:Int} (h:doE r id k x3 x4 x5=E) (d:(E != 0)=true):ndE s t id k (j:Int) x3 x4 x5=E/\ndS s id k (j:Int) x3 x4 x5=s/\ndT t id k (j:Int) x3 x4 x5=t:=by
 obtain ⟨f,g,l⟩:=zq n c id k x3 x4 x5;have m:doT r id k x3 x4 x5=r:=by unfold doT;rw[h,if_neg (by simpa using d)]
 rw[f,g,l,m,h,c];refine ⟨rfl,?_,?_⟩<;>split<;>simp_all
theorem zr {s t r u m:Tab} {j:Nat} (l:j<2) (n:r=if j=0 then s else t) {id k x3 x4 x5:Int} (f:edE r id k x3 x4 x5=0) (c:edT r id k x3 x4 x5=u) (g:aD r u=0) (h:aR r u=m):ndE s t id k (j:Int) x3 x4 x5=0/\ndS s id k (j:Int) x3 x4 x5=(if j=0 then m else s)/\ndT t id k (j:Int) x3 x4 x5=if j=0 then t else m:=by
 have d:doE r id k x3 x4 x5=0:=by unfold doE;rw[f,if_pos rfl,c,g]
 have:=zq l n id k x3 x4 x5;rwa [d,show doT r id k x3 x4 x5=m by unfold doT;rw[d,if_pos rfl,c,h]] at this
theorem qG {n B:Nat} {a w:M} (h:ik n a w) (c:n<=B) (o:Nat) (u0 u1 u2 u3 u4 u5:Value):ik n a ((((((w.jb3 B o u0).jb3 B (o+1) u1).jb3 B (o+2) u2).jb3 B (o+3) u3).jb3 B (o+4) u4).jb3 B (o+5) u5) :=
 (((((h.setCell (p:=(jb5 B o)) c _).setCell (p:=(jb5 B (o+1))) c _).setCell (p:=(jb5 B (o+2))) c _).setCell (p:=(jb5 B (o+3))) c _).setCell (p:=(jb5 B (o+4))) c _).setCell (p:=(jb5 B (o+5))) c _
def Ap (P:Nat->Prop) (w wz wx:M) (j:Nat) (s t MT:Tab) (A:Option ib) (a:Nat) (C:Option ib) (c:Nat) (B:Option ib) (b:Nat) (D:Option ib) (d:Nat):Prop:=∃S T,Cls wx wz.heap.size (T2 S A a C c T B b D d)/\S=(if j=0 then MT else s)/\T=(if j=0 then t else MT)/\(ay MT=0->TbP (aj P w.heap.size wx.heap.size) wx S A a C c/\TbP (aj P w.heap.size wx.heap.size) wx T B b D d)/\jb2 wz wx
theorem rV {w:M} {N O:Nat} {P:Nat->Prop} {id:Int} {s t:Tab} {qs:List (List Stp)} (h:Nd w N O P id s t qs) {j:Nat} (hj:j<2) (k x3 x4 x5:Int) :
  ia L 6 #[.pointer (jb4 N O),ih #[V I k,V I (j:Int),V I x3,V I x4,V I x5]] w fun e w'=>e= Q (V I (ndE s t id k (j:Int) x3 x4 x5))/\Nd w' N O (aj P w.heap.size w'.heap.size) id (ndS s id k (j:Int) x3 x4 x5) (ndT t id k (j:Int) x3 x4 x5) qs/\Wr N (O+1) (O+37) w w':=by
 obtain ⟨A,ca,C,cc,b7,ck⟩:=h.ts;obtain ⟨B,cb,D,cd,b8,cl⟩:=h.tt;obtain ⟨r,d9,cz,Y,cy,hr,dl,bb⟩:∃r d9 cz Y cy,r=(if j=0 then s else t)/\TbC w N (O+1+j*6) r d9 cz Y cy/\TbP P w r d9 cz Y cy:=by
  obtain rfl|rfl:j=0\/j=1:=by omega
  ·exact ⟨s,A,ca,C,cc,rfl,b7,ck⟩
  ·exact ⟨t,B,cb,D,cd,rfl,b8,cl⟩
 obtain ⟨R,cm⟩:=jb0 (w.alloc (J #[V I k,V I (j:Int),V I x3,V I x4,V I x5] 41));have aL:Gr w R:=by rw[<-cm];exact (gR w).alloc _
 have a7:U (Cls R w.heap.size [V I k,V I (j:Int),V I x3,V I x4,V I x5]):=by show Cls _ _ _;rw[<-cm];exact Cls.new w _ _
 have f:=h.blk.lt;have cv:=ja1 (nL f aL.size);have b0:U (jb1 R N O (V I id)/\TbC R N (O+1+j*6) r d9 cz Y cy):=⟨(aL.below.cell (p:=(jb5 N O)) f).trans h.cid,dl.keep fun i _ _=>aL.below.cell (p:=(jb5 N i)) f⟩;have bN:U (∀W,jb2 R W->ia L 22 #[ih (T6 r d9 cz Y cy).toArray,V I id,ih #[V I k,V I (j:Int),V I x3,V I x4,V I x5]] W fun e w'=>∃(u:Tab) (C:Option ib) (cp:Nat) (F:Option ib) (cf:Nat),e= Q (.tuple #[ih (T6 u C cp F cf).toArray,V I (edE r id k x3 x4 x5)])/\u=edT r id k x3 x4 x5/\TbW W.heap.size w' u C cp F cf/\jb2 W w'):=fun W hW=>qT r d9 cz Y cy id k (j:Int) x3 x4 x5 W bb.len.1 bb.len.2 ((bb.row.gr aL).below hW) ((bb.cel.gr aL).below hW);have m:U (Nd w N O P id s t qs/\TbP P w s A ca C cc/\TbP P w t B cb D cd/\TbC w N (O+1) s A ca C cc/\TbC w N (O+7) t B cb D cd/\Gr w R/\TbP P w r d9 cz Y cy/\r=(if j=0 then s else t)/\((j=0/\r=s/\d9=A/\cz=ca/\Y=C/\cy=cc)\/True)):=⟨h,ck,cl,b7,b8,aL,bb,hr,oR trivial⟩;clear h ck cl b7 b8 aL f hr dl bb;have b1:=a7.out.cell (j:=1) rfl;obtain ⟨EE,cu⟩:=jb0 (edE r id k x3 x4 x5);rw[cu] at bN;have bl:=ja1 cu;go_enter Tryz.func6,Tryz.ntmps6;go_upto_region 3 with fail;clear cm b1;go_cut [5,6] from 16 (fun v5 v6 wx=>∃Bm:Nat,v5= .pointer (jb4 Bm 0)/\v6= V I EE/\DoR R wx R.heap.size Bm r id k x3 x4 x5);case first =>
  have bs:=ja1 ((gR R).drew.below);have bt:U (jb2 R (R.alloc (J #[V I 0,V I 0,V I 0,V I 0,Z none 0 0,Z none 0 0] 35)).drew):=((gR R).alloc _).drew.below;have ds:U (R.heap.size<=R.drew.heap.size):=nR _;have dv:U (R.heap.size+1<=(R.alloc (J #[V I 0,V I 0,V I 0,V I 0,Z none 0 0,Z none 0 0] 35)).drew.heap.size):=by show _<=(R.alloc _).heap.size;simp
  have b2:U (∀W,jb2 R W->(fun w'=>jb1 w' w.heap.size 0 (V I k)/\jb1 w' w.heap.size 1 (V I (j:Int))/\jb1 w' w.heap.size 2 (V I x3)/\jb1 w' w.heap.size 3 (V I x4)/\jb1 w' w.heap.size 4 (V I x5)/\jb1 w' N O (V I id)/\jb1 w' N (O+1+j*6) (V I r.c.c0)/\jb1 w' N (O+1+j*6+1) (V I r.c.c1)/\jb1 w' N (O+1+j*6+2) (V I r.c.c2)/\jb1 w' N (O+1+j*6+3) (V I r.c.c3)/\jb1 w' N (O+1+j*6+4) (Z d9 r.c.l.length cz)/\jb1 w' N (O+1+j*6+5) (Z Y r.e.length cy)) W):=fun W hW=>by have a9:=b0.out.2.keep (w':=W) fun i _ _=>hW.cell (p:=(jb5 N i)) cv.out;exact ⟨(a7.out.below hW).cell (j:=0) rfl,(a7.out.below hW).cell (j:=1) rfl,(a7.out.below hW).cell (j:=2) rfl,(a7.out.below hW).cell (j:=3) rfl,(a7.out.below hW).cell (j:=4) rfl,(hW.cell (p:=(jb5 N O)) cv.out).trans b0.out.1,a9.k0,a9.k1,a9.k2,a9.k3,a9.k4,a9.k5⟩
  focus
   go_region_held3 (fun w'=>jb1 w' w.heap.size 0 (V I k)/\jb1 w' w.heap.size 1 (V I (j:Int))/\jb1 w' w.heap.size 2 (V I x3)/\jb1 w' w.heap.size 3 (V I x4)/\jb1 w' w.heap.size 4 (V I x5)/\jb1 w' N O (V I id)/\jb1 w' N (O+1+j*6) (V I r.c.c0)/\jb1 w' N (O+1+j*6+1) (V I r.c.c1)/\jb1 w' N (O+1+j*6+2) (V I r.c.c2)/\jb1 w' N (O+1+j*6+3) (V I r.c.c3)/\jb1 w' N (O+1+j*6+4) (Z d9 r.c.l.length cz)/\jb1 w' N (O+1+j*6+5) (Z Y r.e.length cy)) (exact b2.out _ (by first|with_reducible exact bs.out|with_reducible exact bt.out|with_reducible exact hF.out.2|with_reducible exact hF.out.2.alloc hF.out.2.size _|exact ac hF.out.2 (nR _) _ _ _ _ _ _)) (first
    | ((go_at_call 22;(with_reducible refine cM (bN.out _ (by first|with_reducible exact bs.out|with_reducible exact bt.out)) ?_);rintro e w2 ⟨u,E,ce,F,cf,rfl,f1,f2,f3⟩;have hF:U (u=edT r id k x3 x4 x5/\jb2 R w2):=⟨f1,(by first|exact bs.out.trans (f3.mono bs.out.size)|exact bt.out.trans (f3.mono bt.out.size))⟩;have c9:U _:=f2;(first|(have ad:U (Cls w2 R.heap.size Z6):=((Cls.new R #[V I 0,V I 0,V I 0,V I 0,Z none 0 0,Z none 0 0] 35).gr (gR _).drew).below f3;have p0:=ad.out.cell (j:=0) rfl;have z0:=ad.out.fz 0;have p1:=ad.out.cell (j:=1) rfl;have z1:=ad.out.fz 1;have p2:=ad.out.cell (j:=2) rfl;have z2:=ad.out.fz 2;have p3:=ad.out.cell (j:=3) rfl;have z3:=ad.out.fz 3;have p4:=ad.out.cell (j:=4) rfl;have z4:=ad.out.fz 4;have p5:=ad.out.cell (j:=5) rfl;have z5:=ad.out.fz 5)|skip);clear f1 f2 f3)))
   all_goals go_wp2_with fail;go_meet;case rel=>exact ⟨_,rfl,rfl,(by first|with_reducible exact yi hF.out.1 (c9.out.mono ds.out) hF.out.2|with_reducible exact uW hF.out.1 ad.out (c9.out.mono dv.out) hF.out.2)⟩
 case rest =>
  rename M=>g;obtain ⟨Bm,rfl,rfl,dy⟩:=hcut;obtain ⟨u,UA,bc,UC,bd,hu,cs,dg,b6,dp⟩:=dy;have aL:=m.out.2.2.2.2.2.1;have ah:jb2 w g:=aL.below.trans (b6.mono aL.size);have hR:U (u=edT r id k x3 x4 x5/\Cls g Bm (T6 u UA bc UC bd)/\TbW R.heap.size g u UA bc UC bd/\jb2 w g/\R.heap.size<=Bm/\Cls g w.heap.size [V I k,V I (j:Int),V I x3,V I x4,V I x5]/\Nd g N O P id s t qs):=⟨hu,cs,dg,ah,dp,a7.out.below b6,m.out.1.below ah⟩;clear hu cs dg b6 dp aL ah bN b0 a7;cases hn:(EE != 0);rotate_left;focus have n:U (ndE s t id k (j:Int) x3 x4 x5=EE/\ndS s id k (j:Int) x3 x4 x5=s/\ndT t id k (j:Int) x3 x4 x5=t):=kN hj m.out.2.2.2.2.2.2.2.1 (by unfold doE;rw[bl.out,if_neg (by simpa using hn)]) hn;go_wp2;go_ret;rw[n.out.1,n.out.2.1,n.out.2.2];exact ⟨rfl,hR.out.2.2.2.2.2.2.mono (fun b hb=>aj.old b hb) (cZ m.out.1.out m.out.1.blk.lt) (fM fun b hb=>hR.out.2.2.2.2.2.2.up b hb),Wr.of hR.out.2.2.2.1 m.out.1.blk.lt⟩
  have h0:EE=0:=by simpa using hn
  subst h0;clear hn;have f:=m.out.1.blk.lt;have n1:=(hR.out.2.2.2.1.cell (p:=(jb5 N (O+1))) f).trans m.out.2.2.2.1.k0;have n2:=(hR.out.2.2.2.1.cell (p:=(jb5 N (O+2))) f).trans m.out.2.2.2.1.k1;have n3:=(hR.out.2.2.2.1.cell (p:=(jb5 N (O+3))) f).trans m.out.2.2.2.1.k2;have n4:=(hR.out.2.2.2.1.cell (p:=(jb5 N (O+4))) f).trans m.out.2.2.2.1.k3;have n5:=(hR.out.2.2.2.1.cell (p:=(jb5 N (O+5))) f).trans m.out.2.2.2.1.k4;have n6:=(hR.out.2.2.2.1.cell (p:=(jb5 N (O+6))) f).trans m.out.2.2.2.1.k5;have n7:=(hR.out.2.2.2.1.cell (p:=(jb5 N (O+7))) f).trans m.out.2.2.2.2.1.k0;have n8:=(hR.out.2.2.2.1.cell (p:=(jb5 N (O+8))) f).trans m.out.2.2.2.2.1.k1;have n9:=(hR.out.2.2.2.1.cell (p:=(jb5 N (O+9))) f).trans m.out.2.2.2.2.1.k2;have d3:=(hR.out.2.2.2.1.cell (p:=(jb5 N (O+10))) f).trans m.out.2.2.2.2.1.k3;have d4:=(hR.out.2.2.2.1.cell (p:=(jb5 N (O+11))) f).trans m.out.2.2.2.2.1.k4;have d5:=(hR.out.2.2.2.1.cell (p:=(jb5 N (O+12))) f).trans m.out.2.2.2.2.1.k5;go_upto_region 7 with fail;obtain ⟨w5,bC⟩:=jb0 (g.alloc (J #[V I s.c.c0,V I s.c.c1,V I s.c.c2,V I s.c.c3,Z A s.c.l.length ca,Z C s.e.length cc,V I t.c.c0,V I t.c.c1,V I t.c.c2,V I t.c.c3,Z B t.c.l.length cb,Z D t.e.length cd] 36));rw[bC];have a6:Gr g w5:=by rw[<-bC];exact (gR _).alloc _
  have bv:=hR.out.2.2.2.1.trans (a6.below.mono hR.out.2.2.2.1.size);have h5:U (Cls w5 g.heap.size (T2 s A ca C cc t B cb D cd)/\Cls w5 Bm (T6 u UA bc UC bd)/\TbW R.heap.size w5 u UA bc UC bd/\jb2 w w5/\Cls w5 w.heap.size [V I k,V I (j:Int),V I x3,V I x4,V I x5]/\Gr g w5):=⟨by rw[<-bC];exact Cls.new g _ _,hR.out.2.1.gr a6,hR.out.2.2.1.below a6.below,bv,hR.out.2.2.2.2.2.1.gr a6,a6⟩;obtain ⟨r',Z',bh,Y',be,d2,d0,ba⟩:∃r' Z' bh Y' be,r'=r/\TbC w5 g.heap.size (j*6) r' Z' bh Y' be/\TbP P w5 r' Z' bh Y' be:=by
   have hr:=m.out.2.2.2.2.2.2.2.1;obtain rfl|rfl:j=0\/j=1:=by omega
   ·exact ⟨s,A,ca,C,cc,hr.symm,h5.out.1.six 0 rfl,m.out.2.1.below bv⟩
   ·exact ⟨t,B,cb,D,cd,hr.symm,h5.out.1.six 6 rfl,m.out.2.2.1.below bv⟩
  subst d2;clear bC a6 bv n1 n2 n3 n4 n5 n6 n7 n8 n9 d3 d4 d5 f;have b1:=h5.out.2.2.2.2.1.cell (j:=1) rfl;obtain ⟨a0,a1,a2,a3,a4,a5⟩:=d0;obtain ⟨c0,c1,c2,c3,c4,c5⟩:=ic h5.out.2.1;obtain ⟨ME,b3⟩:=jb0 (aD r' u);obtain ⟨d,b4⟩:=jb0 (aR r' u);have bo:=ja2 b3 b4;have hM:U (∀W,Gr w5 W->ia L 23 #[ih (T6 r' Z' bh Y' be).toArray,ih (T6 u UA bc UC bd).toArray] W fun e w'=>∃E ce F cf,e= Q (.tuple #[ih (T6 d E ce F cf).toArray,V I ME])/\TbW W.heap.size w' d E ce F cf/\jb2 W w'):=fun W hg=>by have hl:u.c.l.length<=maxLen/\u.e.length<=maxLen:=(by rw[hR.out.1];exact rX _ _ _ _ _ _);have hm:=jL r' u Z' UA Y' UC bh bc be bd W ba.len.1 hl.1 ba.len.2 hl.2 ba.nr h5.out.2.2.1.nr (ba.row.gr hg) (h5.out.2.2.1.row.gr hg) (ba.cel.gr hg) (h5.out.2.2.1.cel.gr hg);rw[b3,b4] at hm;refine hm.mono ?_;rintro e w' ⟨E,ce,F,cf,rfl,f1,f2,f3,f4,f5,f6,f7⟩;exact ⟨E,ce,F,cf,rfl,⟨f1,f2,f3,f4,f5,f6⟩,f7⟩
  clear b3 b4 ba;go_cut [6] from 16 (fun v6 wx=>v6= V I ME/\∃A1 a1 C1 c1 B1 b1 D1 d1,U (Ap P w g wx j s t d A1 a1 C1 c1 B1 b1 D1 d1));case first =>
   go_region_with (go_at_call 23;refine cM (hM.out _ (gR w5).drew) ?_;rintro e w6 ⟨ak,ao,an,ap,rfl,f1,f2⟩;have hF:U (TbW w5.heap.size w6 d ak ao an ap/\jb2 w5 w6):=⟨f1,(gR w5).drew.below.trans f2⟩;clear f1 f2;have e1:=(h5.out.2.2.2.2.1.below hF.out.2).cell (j:=1) rfl;obtain ⟨p0,p1,p2,p3,p4,p5⟩:=TbC.keep ⟨a0,a1,a2,a3,a4,a5⟩ (w':=w6) fun i _ _=>hF.out.2.cell (p:=(jb5 g.heap.size i)) h5.out.1.lt;have z0:=(h5.out.1.below hF.out.2).fz (j*6);have z1:=(h5.out.1.below hF.out.2).fz (j*6+1);have z2:=(h5.out.1.below hF.out.2).fz (j*6+2);have z3:=(h5.out.1.below hF.out.2).fz (j*6+3);have z4:=(h5.out.1.below hF.out.2).fz (j*6+4);have z5:=(h5.out.1.below hF.out.2).fz (j*6+5));all_goals
    have n:U (∃A1 a1 C1 c1 B1 b1 D1 d1,U (Ap P w g ((((((w6.jb3 g.heap.size (j*6) (V I d.c.c0)).jb3 g.heap.size (j*6+1) (V I d.c.c1)).jb3 g.heap.size (j*6+2) (V I d.c.c2)).jb3 g.heap.size (j*6+3) (V I d.c.c3)).jb3 g.heap.size (j*6+4) (Z ak d.c.l.length ao)).jb3 g.heap.size (j*6+5) (Z an d.e.length ap)) j s t d A1 a1 C1 c1 B1 b1 D1 d1)):=by
     have a6:=h5.out.2.2.2.2.2;have d6:=h5.out.1.lt;have dG:jb2 g w6:=a6.below.trans (hF.out.2.mono a6.size);have a8:=hR.out.2.2.2.1;have hC:=(h5.out.1.below hF.out.2).put6 (j*6) (V I d.c.c0) (V I d.c.c1) (V I d.c.c2) (V I d.c.c3) (Z ak d.c.l.length ao) (Z an d.e.length ap);have hB:=qG dG (nR _) (j*6) (V I d.c.c0) (V I d.c.c1) (V I d.c.c2) (V I d.c.c3) (Z ak d.c.l.length ao) (Z an d.e.length ap);have ah:=a8.trans (hB.mono a8.size);have hW:=hF.out.1.agr ((fS (B:=g.heap.size) (o:=j*6) (nR _) (nR _) (V I d.c.c0) (V I d.c.c1) (V I d.c.c2) (V I d.c.c3) (Z ak d.c.l.length ao) (Z an d.e.length ap)).agr (P:=fun b=>w5.heap.size<=b) (by omega));have bG:ay d=0->TbP (aj P w.heap.size (((((((w6.jb3 g.heap.size (j*6) (V I d.c.c0)).jb3 g.heap.size (j*6+1) (V I d.c.c1)).jb3 g.heap.size (j*6+2) (V I d.c.c2)).jb3 g.heap.size (j*6+3) (V I d.c.c3)).jb3 g.heap.size (j*6+4) (Z ak d.c.l.length ao)).jb3 g.heap.size (j*6+5) (Z an d.e.length ap))).heap.size) (((((((w6.jb3 g.heap.size (j*6) (V I d.c.c0)).jb3 g.heap.size (j*6+1) (V I d.c.c1)).jb3 g.heap.size (j*6+2) (V I d.c.c2)).jb3 g.heap.size (j*6+3) (V I d.c.c3)).jb3 g.heap.size (j*6+4) (Z ak d.c.l.length ao)).jb3 g.heap.size (j*6+5) (Z an d.e.length ap))) d ak ao an ap:=fun h0=>(hW.p h0).mono fun b hb=>aj.new (nT a8.size a6.size) (nR _) b hb;have bp:∀ {X XA xa XC xc},TbP P w X XA xa XC xc->TbP (aj P w.heap.size (((((((w6.jb3 g.heap.size (j*6) (V I d.c.c0)).jb3 g.heap.size (j*6+1) (V I d.c.c1)).jb3 g.heap.size (j*6+2) (V I d.c.c2)).jb3 g.heap.size (j*6+3) (V I d.c.c3)).jb3 g.heap.size (j*6+4) (Z ak d.c.l.length ao)).jb3 g.heap.size (j*6+5) (Z an d.e.length ap))).heap.size) (((((((w6.jb3 g.heap.size (j*6) (V I d.c.c0)).jb3 g.heap.size (j*6+1) (V I d.c.c1)).jb3 g.heap.size (j*6+2) (V I d.c.c2)).jb3 g.heap.size (j*6+3) (V I d.c.c3)).jb3 g.heap.size (j*6+4) (Z ak d.c.l.length ao)).jb3 g.heap.size (j*6+5) (Z an d.e.length ap))) X XA xa XC xc:=fun h=>(h.below ah).mono fun b hb=>aj.old b hb;have hs:=bp m.out.2.1;have ht:=bp m.out.2.2.1;clear bp hW ah;obtain rfl|rfl:j=0\/j=1:=by omega
     ·exact ⟨ak,ao,an,ap,B,cb,D,cd,d,t,hC,rfl,rfl,fun h0=>⟨bG h0,ht⟩,hB⟩
     ·exact ⟨A,ca,C,cc,ak,ao,an,ap,s,d,hC,rfl,rfl,fun h0=>⟨hs,bG h0⟩,hB⟩
    clear hF hM;go_wp2_with fail;go_meet;case rel=>exact ⟨rfl,n.out⟩
  case rest =>
   obtain ⟨rfl,XA,xa,XC,xc,XB,xb,XD,xd,hQ⟩:=hcut;obtain ⟨S1,T1,cr,c6,c8,cG,dk⟩:=hQ.out;clear hM b1 a0 a1 a2 a3 a4 a5 c0 c1 c2 c3 c4 c5;obtain ⟨q0,q1,q2,q3,q4,q5,q6,q7,q8,q9,d7,d8⟩:=eS cr;have a8:=hR.out.2.2.2.1;have ah:=ja2 (a8.trans (dk.mono a8.size)) cG;have c7:=ja2 c6 c8;clear cr c6 c8 cG dk a8 hQ;cases hn:(ME != 0);rotate_left;focus have n:U _:=kN hj m.out.2.2.2.2.2.2.2.1 (id:=id) (k:=k) (x3:=x3) (x4:=x4) (x5:=x5) (E:=ME) (by unfold doE;rw[if_pos bl.out,<-hR.out.1];exact bo.out.1) hn;go_wp2;go_ret;rw[n.out.1,n.out.2.1,n.out.2.2];have dx:=m.out.1.below ah.out.1;exact ⟨rfl,dx.mono (fun b hb=>aj.old b hb) (cZ m.out.1.out m.out.1.blk.lt) (fM fun b hb=>dx.up b hb),Wr.of ah.out.1 m.out.1.blk.lt⟩
   have h0:ME=0:=(by simpa using hn);subst h0;clear hn;have cj:U _:=zr hj m.out.2.2.2.2.2.2.2.1 (id:=id) (k:=k) (x3:=x3) (x4:=x4) (x5:=x5) bl.out hR.out.1.symm bo.out.1 bo.out.2;have b5:=ah.out.2 (by rw[<-bo.out.2];exact eJ bo.out.1);have cn:U _:=l9 (m.out.1.below ah.out.1) m.out.1.blk.lt ah.out.1.size b5.1 b5.2;clear b5;go_wp2_with fail;refine ja0 cn ?_;rintro e w8 ⟨rfl,f1,f2⟩;rw[c7.out.1,c7.out.2] at f1;have b9:=ja2 f1 ((Wr.of ah.out.1 m.out.1.blk.lt).trans f2);clear f1 f2 cn;go_wp2;go_ret;rw[cj.out.1,cj.out.2.1,cj.out.2.2];exact ⟨rfl,b9.out⟩

theorem lQ (n lo hi:Int) (w:M) :
  ia L 5 #[V I n,V I lo,V I hi] w fun e w'=>e= Q (ix (inB n lo hi))/\w'=w:=by
 by_cases c:lo<=n
 ·by_cases d:n<=hi
  ·have e:inB n lo hi=true:=(by simp[inB,c,d]);rw[e];clear e;go_enter Tryz.func5,Tryz.ntmps5;go_wp2;go_ret;exact ⟨rfl,rfl⟩
  ·have e:inB n lo hi=false:=(by simp[inB,c,d]);rw[e];clear e;go_enter Tryz.func5,Tryz.ntmps5;go_wp2;go_ret;exact ⟨rfl,rfl⟩
 ·have e:inB n lo hi=false:=by simp[inB,c]
  rw[e];clear e;go_enter Tryz.func5,Tryz.ntmps5;go_wp2;go_ret;exact ⟨rfl,rfl⟩

theorem rl {n lo hi:Int} (h:inB n lo hi=true) (w:M) :
  ia L 5 #[V I n,V I lo,V I hi] w fun e w'=>e= Q (ix true)/\w'=w:=by have:=lQ n lo hi w;rwa [h] at this
theorem zp {n lo hi:Int} (h:inB n lo hi=false) (w:M) :
  ia L 5 #[V I n,V I lo,V I hi] w fun e w'=>e= Q (ix false)/\w'=w:=by have:=lQ n lo hi w;rwa [h] at this

theorem tW (x:Int×Int) (w:M) :
  ia L 93 #[ih #[V I x.1,V I x.2]] w fun e w'=>e= Q (ix (ai x))/\Gr w w':=by
 obtain ⟨a,b⟩:=x;unfold ai;go_enter Tryz.func93,Tryz.ntmps93;cases c:inB a 0 3
 ·go_wp2_with (go_at_call 5;refine (lQ _ _ _ _).mono ?_;rintro e w' ⟨rfl,rfl⟩;rw[c]);go_ret;exact ⟨rfl,(gR _).alloc _⟩
 ·go_wp2_with (go_at_call 5;refine (lQ _ _ _ _).mono ?_;rintro e w' ⟨rfl,rfl⟩);go_ret;exact ⟨rfl,(gR _).alloc _⟩

theorem lg (x y:Int×Int) (w:M) :
  ia L 58 #[ih #[V I x.1,V I x.2],ih #[V I y.1,V I y.2]] w fun e w'=>e= Q (ix (bj x y))/\Gr w w':=by
 obtain ⟨a,b⟩:=x;obtain ⟨c,d⟩:=y;by_cases f:a<c
 ·have e:bj (a,b) (c,d)=true:=by simp[bj,f]
  rw[e];clear e;go_enter Tryz.func58,Tryz.ntmps58;go_wp2;go_ret;exact ⟨rfl,((gR _).alloc _).alloc _⟩
 ·by_cases g:a=c
  ·subst g;by_cases h:b<d
   ·have e:bj (a,b) (a,d)=true:=(by simp[bj,h]);rw[e];clear e;go_enter Tryz.func58,Tryz.ntmps58;go_wp2;go_ret;exact ⟨rfl,((gR _).alloc _).alloc _⟩
   ·have e:bj (a,b) (a,d)=false:=(by simp[bj,h]);rw[e];clear e;go_enter Tryz.func58,Tryz.ntmps58;go_wp2;go_ret;exact ⟨rfl,((gR _).alloc _).alloc _⟩
  ·have e:bj (a,b) (c,d)=false:=(by simp[bj,f,g]);rw[e];clear e;go_enter Tryz.func58,Tryz.ntmps58;go_wp2;go_ret;exact ⟨rfl,((gR _).alloc _).alloc _⟩

theorem fN {a b:Int} {r:Bool} (h:ai (a,b)=r) (w:M):ia L 93 #[ih #[V I a,V I b]] w fun e w'=>e= Q (ix r)/\∃q c,w'=grow (w.drewN q) c:=by rw[<-h];exact tW (a,b) w
theorem fm {a b c d:Int} {r:Bool} (h:bj (a,b) (c,d)=r) (w:M):ia L 58 #[ih #[V I a,V I b],ih #[V I c,V I d]] w fun e w'=>e= Q (ix r)/\∃q f,w'=grow (w.drewN q) f:=by rw[<-h];exact lg (a,b) (c,d) w


theorem jt (c:Ctx) (A:Option ib) (cap:Nat) (w:M) (hl:c.l.length<=maxLen) (hr:Row w A c.l) :
  ia L 69 #[ih (ja7 c A cap)] w fun e w'=>e= Q (V I (aU c))/\Gr w w':=by
 unfold maxLen at hl;go_enter Tryz.func69,Tryz.ntmps69;go_wp2;go_loopw [3] (fun i wr=>∃k:Nat,k<=4/\i= V I k/\U (∀a:Int,0<=a->a<k->inB (clk c a) 0 1099511627776=true)/\Gr (w.alloc (J (ja7 c A cap) 32)) wr) (fun i _=>4-(intOf i).toNat);exact ⟨0,by omega,rfl,fun a h0 h1=>by omega,gR _⟩;obtain ⟨k,hk,rfl,a2,u⟩:=hrel;by_cases r:k<4
 ·have R:(k:Int)<4:=by omega
  have kc:=ab u (dM (c:=c) (a:=(k:Int)) (by omega) R);rw[Int.toNat_natCast] at kc;cases hi:inB (clk c (k:Int)) 0 1099511627776
  ·have n:U (aU c=1):=lC (by omega) R hi;go_wp2_with (go_at_call 5;refine (zp hi _).mono ?_;rintro e w' ⟨rfl,rfl⟩);go_ret;rw[n.out];exact ⟨rfl,br u⟩
  ·go_wp2_with (go_at_call 5;refine (rl hi _).mono ?_;rintro e w' ⟨rfl,rfl⟩);go_roundw;case rel =>
    refine ⟨k+1,by omega,by go_num,?_,u⟩;intro a h0 h1;by_cases e:a=(k:Int)
    ·rw[e];exact hi
    ·exact a2 a h0 (by omega)
   case measure=>simp[intOf];omega
 ·obtain rfl:k=4:=by omega
  have k4:=ab u (j:=4) rfl;have a3:aW c=true:=io fun a h0 h4=>a2 a h0 (by omega);by_cases a1:400<c.l.length
  ·have aL:(400:Int)<(c.l.length:Int):=(by omega);have n:=ja1 (lD a3 a1);go_wp2;go_ret;rw[n.out];exact ⟨rfl,br u⟩
  ·have aL:¬(400:Int)<(c.l.length:Int):=(by omega);have E:=ja1 a3;go_wp2;go_loopw [4] (fun i wr=>∃k:Nat,k<=c.l.length/\i= V I k/\U (∀j,j<k->fD c j=true)/\Gr (w.alloc (J (ja7 c A cap) 32)) wr) (fun i _=>c.l.length-(intOf i).toNat);exact ⟨0,by omega,rfl,fun j h=>by omega,u⟩;rename M=>f;obtain ⟨k,hk,rfl,ak,u⟩:=hrel;have k4:=ab u (j:=4) rfl;by_cases r:k<c.l.length
   ·have R:(k:Int)<(c.l.length:Int):=(by omega);obtain ⟨b,ah,rfl,hb,a0⟩:=(hr.gr (br u)).at r;obtain ⟨x,y,hx⟩:∃x y,c.l[k]=(x,y):=⟨_,_,rfl⟩;have e0:=(a0 k r).1;have e1:=(a0 k r).2;rw[hx] at e0 e1;have ap:=ja1 a0;have F:=ja1 hx;cases C:ai (x,y)
    ·have n:U (aU c=5):=by
      refine eI E.out (by omega) r ?_;cases k with
      | zero=>rw[dR r F.out,C];rfl
      | succ m=>rw[cS r F.out rfl,C];rfl
     go_wp2;have d0:=cw (gR (f.alloc (J #[V I x,V I y] 89))) (j:=0) rfl;have d1:=cw (gR (f.alloc (J #[V I x,V I y] 89))) (j:=1) rfl;have d:=(u.alloc (J #[V I x,V I y] 89));generalize f.alloc (J #[V I x,V I y] 89)=W at d0 d1 d ⊢;have g:Tryz.prog.follows .mixedOrders=true:=by kernel_rfl
     refine wp_region_quiet_grown g (by kernel_rfl) ?_;repeat (go_big_quiet_step ((go_at_call 93;refine Calls.grown_of (fN C _))))
     refine wpQuiet_nil ?_;rintro _ ⟨⟨nq,D⟩,rfl⟩;go_wp2;go_ret;rw[n.out];exact ⟨rfl,(br d).trans ⟨nq,D,rfl⟩⟩
    ·have hn:=dr C;have a6:=bF E.out x hn.1 hn.2.1;cases k with
     | zero =>
      simp only[Nat.zero_mul,Nat.add_zero] at e0 e1;by_cases hs:y<clk c x+2
      ·have n:U (aU c=5):=eI E.out (by omega) r (by rw[dR r F.out,C];simp;omega);go_wp2;have d0:=cw (gR (f.alloc (J #[V I x,V I y] 89))) (j:=0) rfl;have d1:=cw (gR (f.alloc (J #[V I x,V I y] 89))) (j:=1) rfl;have d:=(u.alloc (J #[V I x,V I y] 89));have g4:=cw d (j:=4) rfl;have gc:=cw d (dM (c:=c) hn.1 hn.2.1);generalize f.alloc (J #[V I x,V I y] 89)=W at d0 d1 d g4 gc ⊢;have g:Tryz.prog.follows .mixedOrders=true:=by kernel_rfl
       refine wp_region_quiet_grown g (by kernel_rfl) ?_;repeat (go_big_quiet_step ((first|(go_at_call 93;refine Calls.grown_of (fN C _)))))
       refine wpQuiet_nil ?_;rintro _ ⟨⟨nq,D⟩,rfl⟩;go_wp2;go_ret;rw[n.out];exact ⟨rfl,(br d).trans ⟨nq,D,rfl⟩⟩
      ·have an:U (fD c 0=true):=(by show fD c 0=true;rw[dR r F.out,C];simp;omega);have a5:decide (y<clk c x+2)=false:=by simpa using hs
       go_wp2;have d0:=cw (gR (f.alloc (J #[V I x,V I y] 89))) (j:=0) rfl;have d1:=cw (gR (f.alloc (J #[V I x,V I y] 89))) (j:=1) rfl;have d:=(u.alloc (J #[V I x,V I y] 89));have g4:=cw d (j:=4) rfl;have gc:=cw d (dM (c:=c) hn.1 hn.2.1);generalize f.alloc (J #[V I x,V I y] 89)=W at d0 d1 d g4 gc ⊢;have g:Tryz.prog.follows .mixedOrders=true:=by kernel_rfl
       refine wp_region_quiet_grown g (by kernel_rfl) ?_;repeat (go_big_quiet_step ((first|(go_at_call 93;refine Calls.grown_of (fN C _)))))
       refine wpQuiet_nil ?_;rintro _ ⟨⟨nq,D⟩,rfl⟩;go_wp2;go_roundw;case rel =>
        refine ⟨_,r,by go_num,?_,d.trans ⟨nq,D,rfl⟩⟩;intro j hj;by_cases e:j=0
        ·rw[e];exact an.out
        ·exact ak j (by omega)
       case measure=>simp[intOf];omega
     | succ m =>
      obtain ⟨x',y',a4⟩:∃x' y',c.l[m]=(x',y'):=⟨_,_,rfl⟩;have f0:=(ap.out m (by omega)).1;have f1:=(ap.out m (by omega)).2;rw[a4] at f0 f1;have ao:=ja1 a4;cases ad:bj (x',y') (x,y)
      ·have n:U (aU c=5):=eI E.out (by omega) r (by rw[cS r F.out ao.out,C,ad];rfl);go_wp2;have d0:=cw (gR (f.alloc (J #[V I x,V I y] 89))) (j:=0) rfl;have d1:=cw (gR (f.alloc (J #[V I x,V I y] 89))) (j:=1) rfl;have d:=(u.alloc (J #[V I x,V I y] 89));have g4:=cw d (j:=4) rfl;have gc:=cw d (dM (c:=c) hn.1 hn.2.1);have g0:=((gR f).alloc (J #[V I x,V I y] 89)).cellG (a:=(jb5 b (ah+m*2))) hb f0;have g1:=((gR f).alloc (J #[V I x,V I y] 89)).cellG (a:=(jb5 b (ah+m*2+1))) hb f1;generalize f.alloc (J #[V I x,V I y] 89)=W at d0 d1 d g4 gc g0 g1 ⊢;have g:Tryz.prog.follows .mixedOrders=true:=by kernel_rfl
       refine wp_region_quiet_grown g (by kernel_rfl) ?_;repeat (go_big_quiet_step ((first|(go_at_call 93;refine Calls.grown_of (fN C _))|(go_at_call 58;refine Calls.grown_of (fm ad _)))))
       refine wpQuiet_nil ?_;rintro _ ⟨⟨nq,D⟩,rfl⟩;go_wp2;go_ret;rw[n.out];exact ⟨rfl,(br d).trans ⟨nq,D,rfl⟩⟩
      ·by_cases hs:y<clk c x+2
       ·have n:U (aU c=5):=eI E.out (by omega) r (by rw[cS r F.out ao.out,C,ad];simp;omega);go_wp2;have d0:=cw (gR (f.alloc (J #[V I x,V I y] 89))) (j:=0) rfl;have d1:=cw (gR (f.alloc (J #[V I x,V I y] 89))) (j:=1) rfl;have d:=(u.alloc (J #[V I x,V I y] 89));have g4:=cw d (j:=4) rfl;have gc:=cw d (dM (c:=c) hn.1 hn.2.1);have g0:=((gR f).alloc (J #[V I x,V I y] 89)).cellG (a:=(jb5 b (ah+m*2))) hb f0;have g1:=((gR f).alloc (J #[V I x,V I y] 89)).cellG (a:=(jb5 b (ah+m*2+1))) hb f1;generalize f.alloc (J #[V I x,V I y] 89)=W at d0 d1 d g4 gc g0 g1 ⊢;have g:Tryz.prog.follows .mixedOrders=true:=by kernel_rfl
        refine wp_region_quiet_grown g (by kernel_rfl) ?_;repeat (go_big_quiet_step ((first|(go_at_call 93;refine Calls.grown_of (fN C _))|(go_at_call 58;refine Calls.grown_of (fm ad _)))))
        refine wpQuiet_nil ?_;rintro _ ⟨⟨nq,D⟩,rfl⟩;go_wp2;go_ret;rw[n.out];exact ⟨rfl,(br d).trans ⟨nq,D,rfl⟩⟩
       ·have an:U (fD c (m+1)=true):=(by show fD c (m+1)=true;rw[cS r F.out ao.out,C,ad];simp;omega);have a5:decide (y<clk c x+2)=false:=by simpa using hs
        go_wp2;have d0:=cw (gR (f.alloc (J #[V I x,V I y] 89))) (j:=0) rfl;have d1:=cw (gR (f.alloc (J #[V I x,V I y] 89))) (j:=1) rfl;have d:=(u.alloc (J #[V I x,V I y] 89));have g4:=cw d (j:=4) rfl;have gc:=cw d (dM (c:=c) hn.1 hn.2.1);have g0:=((gR f).alloc (J #[V I x,V I y] 89)).cellG (a:=(jb5 b (ah+m*2))) hb f0;have g1:=((gR f).alloc (J #[V I x,V I y] 89)).cellG (a:=(jb5 b (ah+m*2+1))) hb f1;generalize f.alloc (J #[V I x,V I y] 89)=W at d0 d1 d g4 gc g0 g1 ⊢;have g:Tryz.prog.follows .mixedOrders=true:=by kernel_rfl
        refine wp_region_quiet_grown g (by kernel_rfl) ?_;repeat (go_big_quiet_step ((first|(go_at_call 93;refine Calls.grown_of (fN C _))|(go_at_call 58;refine Calls.grown_of (fm ad _)))))
        refine wpQuiet_nil ?_;rintro _ ⟨⟨nq,D⟩,rfl⟩;go_wp2;go_roundw;case rel =>
         refine ⟨_,r,by go_num,?_,d.trans ⟨nq,D,rfl⟩⟩;intro j hj;by_cases e:j=m+1
         ·rw[e];exact an.out
         ·exact ak j (by omega)
        case measure=>simp[intOf];omega
   ·have R:¬(k:Int)<(c.l.length:Int):=(by omega);have n:U (aU c=0):=ow E.out (by omega) fun j hj=>ak j (by omega);go_wp2;go_ret;rw[n.out];exact ⟨rfl,br u⟩


theorem ir (c:Ctx) (A:Option ib) (cap:Nat) (x:Int×Int) (w:M) (hl:c.l.length<=maxLen) (hr:Row w A c.l) :
  ia L 59 #[ih (ja7 c A cap),ih #[V I x.1,V I x.2]] w fun e w'=>e= Q (ix (ax c x))/\Gr w w':=by
 obtain ⟨a,b⟩:=x;obtain ⟨m,n,r,u,l⟩:=c;simp only at hl hr ⊢;unfold maxLen at hl;have hE:=vh;have hG:=vy;go_enter Tryz.func59,Tryz.ntmps59;go_wp2;go_loopw [5] (fun i wr=>∃k:Nat,k<=l.length/\i= V I k/\U (∀j (h:j<l.length),j<k->l[j]≠(a,b))/\Gr ((w.alloc (J #[V I m,V I n,V I r,V I u,Z A l.length cap] 32)).alloc (J #[V I a,V I b] 89)) wr) (fun i _=>l.length-(intOf i).toNat);exact ⟨0,nZ _,rfl,fun j _ hj=>absurd hj (Nat.not_lt_zero _),gR _⟩;obtain ⟨k,hk,rfl,F,f⟩:=hrel;have k4:=ab (dK f) (j:=4) rfl;have d0:=jf f (j:=0) rfl;have d1:=jf f (j:=1) rfl;have g:=br (br f);by_cases E:k<l.length
 ·have ah:(k:Int)<(l.length:Int):=by omega
  rcases hr.gr g with h0|⟨bb,off,rfl,hb,hcs⟩
  ·exact absurd E (by simp[h0])
  have e0:=(hcs k E).1;cases hq:((l[k]).1==a && (l[k]).2==b)
  ·have ad:U (l[k]≠(a,b)):=(by intro h;rw[h] at hq;simp at hq);go_wp2;go_quiet (fail);go_wp2;go_roundw;case rel =>
    refine ⟨k+1,by omega,by go_num,?_,f.trans ⟨nq,#[],by rw[grow_empty]⟩⟩;intro j hj an;by_cases e:j=k
    ·subst e;exact ad
    ·exact F j hj (by omega)
   case measure=>simp[intOf];omega
  ·have d:U (ax ⟨m,n,r,u,l⟩ (a,b)=true):=(by have:(a,b)∈l:=(by have h:l[k]=(a,b):=(by simp only[Bool.and_eq_true,beq_iff_eq] at hq;exact Prod.ext hq.1 hq.2);rw[<-h];exact gM E);show ax _ _=true;simp[ax,this]);go_wp2;go_quiet (fail);go_wp2;go_ret;rw[d.out];exact ⟨rfl,g.trans ⟨nq,#[],by rw[grow_empty]⟩⟩
 ·have C:l.contains (a,b)=false:=by rw[List.contains_eq_any_beq,List.any_eq_false];intro x hx;obtain ⟨j,hj,rfl⟩:=List.getElem_of_mem hx;have:=F j hj (by omega);simp only[Bool.not_eq_true,beq_eq_false_iff_ne,ne_eq];exact fun h=>this h.symm
  have k0:=ab (dK f) (j:=0) rfl;have k1:=ab (dK f) (j:=1) rfl;have k2:=ab (dK f) (j:=2) rfl;have k3:=ab (dK f) (j:=3) rfl;have R:U (ax ⟨m,n,r,u,l⟩ (a,b)=(inB a 0 3 && decide (1<=b) && decide (b<=clk ⟨m,n,r,u,l⟩ a))):=by show ax _ _=_;simp only[ax,C,Bool.false_or]
  clear C hE hG F;cases D:inB a 0 3
  ·have d:U (ax ⟨m,n,r,u,l⟩ (a,b)=false):=(by show ax _ _=_;rw[R.out,D];rfl);clear R;go_wp2;go_quiet ((go_at_call 5;exact Calls.quiet_of_same (zp D _)));go_wp2;go_ret;rw[d.out];exact ⟨rfl,g.trans ⟨nq,#[],by rw[grow_empty]⟩⟩
  ·by_cases h2:1<=b
   ·have h4:a=0\/a=1\/a=2\/a=3:=(by simp[inB] at D;omega);have d:U (ax ⟨m,n,r,u,l⟩ (a,b)=decide (b<=clk ⟨m,n,r,u,l⟩ a)):=by show ax _ _=_;rw[R.out,D];simp[h2]
    clear R;have hm:max (0:Int) (min a 3)=a:=by omega
    have ao:max (0:Int) 3=3:=(by omega);rcases h4 with rfl|rfl|rfl|rfl;all_goals go_wp2;go_quiet ((go_at_call 5;exact Calls.quiet_of_same (rl D _)));go_wp2;go_ret;rw[d.out];exact ⟨by simp[clk],g.trans ⟨nq,#[],by rw[grow_empty]⟩⟩
   ·have d:U (ax ⟨m,n,r,u,l⟩ (a,b)=false):=(by show ax _ _=_;rw[R.out,D];simp[h2]);have ak:decide (1<=b)=false:=by simpa using h2
    clear R h2;go_wp2;go_quiet ((go_at_call 5;exact Calls.quiet_of_same (rl D _)));go_wp2;go_ret;rw[d.out];exact ⟨rfl,g.trans ⟨nq,#[],by rw[grow_empty]⟩⟩


theorem dn {n lo hi:Int} {r:Bool} (h:inB n lo hi=r) (w:M) :
  ia L 5 #[V I n,V I lo,V I hi] w fun e w'=>e= Q (ix r)/\w'=w:=by rw[<-h];exact lQ n lo hi w
theorem tX {c:Ctx} (h:aU c=0) {x:Int×Int} (f:ai x=false):ax c x=false:=by
 cases d:ax c x
 ·rfl
 ·have:=jI (fo h) d;rw[f] at this;cases this

theorem fy (t:Tab) (A:Option ib) (ca:Nat) (D:Option ib) (cd:Nat) (w:M) (hl:t.c.l.length<=maxLen) (b5:t.e.length<=maxLen) (hr:Row w A t.c.l) (hd:av w D t.e) :
  ia L 51 #[ih (T6 t A ca D cd).toArray] w fun e w'=>e= Q (V I (ay t))/\Gr w w':=by
 have ap:Tryz.prog.follows .mixedOrders=true:=by kernel_rfl
 have b6:Gr w (w.alloc (J #[V I t.c.c0,V I t.c.c1,V I t.c.c2,V I t.c.c3,Z A t.c.l.length ca,Z D t.e.length cd] 35)):=(gR w).alloc _;have bC:TabAt (w.alloc (J #[V I t.c.c0,V I t.c.c1,V I t.c.c2,V I t.c.c3,Z A t.c.l.length ca,Z D t.e.length cd] 35)) w.heap.size t A ca D cd:=TabAt.new 35 hr hd rfl;have b3:=jt t.c A ca (w.alloc (J #[V I t.c.c0,V I t.c.c1,V I t.c.c2,V I t.c.c3,Z A t.c.l.length ca,Z D t.e.length cd] 35)) hl bC.row;have bl:U _:=b3;have b8:=ja1 hl;unfold maxLen at b5;go_enter Tryz.func51,Tryz.ntmps51;go_wp2_with fail;refine ja0 bl ?_;rintro e w1 ⟨rfl,bs⟩;have bG:=bC.gr bs;have n:Gr w w1:=b6.trans bs;by_cases he:aU t.c=0
 ·have b4:(aU t.c != 0)=false:=by simpa using he
  have F:=ja1 he;obtain ⟨k0,k1,k2,k3,k4,k5,cj,cf,cc⟩:=(show TabAt _ _ _ _ _ _ _ from bG);by_cases bh:400<t.e.length
  ·have a6:(400:Int)<(t.e.length:Int):=(by omega);have f:=ja1 (lF F.out bh);go_wp2;go_ret;rw[f.out];exact ⟨rfl,n⟩
  ·have a6:¬(400:Int)<(t.e.length:Int):=(by omega);go_wp2;go_loopw [4] (fun i wr=>∃k:Nat,k<=t.e.length/\i= V I k/\U (∀j,j<k->dE t j=true)/\Gr w1 wr) (fun i _=>t.e.length-(intOf i).toNat);exact ⟨0,by omega,rfl,fun j h=>by omega,gR _⟩;rename M=>C;obtain ⟨k,hk,rfl,a1,a5⟩:=hrel;have bd:=bG.gr a5;have r5:=bd.k5;by_cases g:k<t.e.length
   ·have bv:(k:Int)<(t.e.length:Int):=(by omega);obtain ⟨b,a4,rfl,hb,bo⟩:=av.get bd.rowC g;obtain ⟨x,hx⟩:=jb0 (t.e[k]);obtain ⟨e0,e1,e2,e3,e4⟩:=bo k g;rw[hx] at e0 e1 e2 e3 e4;have bp:=ja1 bo;have r:=ja1 hx;have a9:Gr C (C.alloc (J #[V I x.1.1,V I x.1.2,V I x.2.1,V I x.2.2.1,V I x.2.2.2] 91)):=(gR _).alloc _;have be:=CelAt.new (w:=C) x 91 rfl;have b0:=bd.gr a9;obtain ⟨x0,x1,x2,x3,x4,aL⟩:=(show CelAt _ _ _ from be);cases bc:ai x.1
    ·have ah:=tX F.out bc;have f:U (ay t=5):=by
      refine dP F.out (by omega) g ?_;cases k with
      | zero=>rw[dc g r.out];simp[ah]
      | succ m=>rw[co g r.out rfl];simp[ah]
     go_wp2_with (go_at_call 93;refine (fN (a:=x.1.1) (b:=x.1.2) bc _).mono ?_;rintro e w3 ⟨rfl,a8⟩);go_ret;rw[f.out];exact ⟨rfl,n.trans ((a5.trans a9).trans a8)⟩
    ·go_wp2_with fail;refine (fN (a:=x.1.1) (b:=x.1.2) bc _).mono ?_;rintro e w3 ⟨rfl,a8⟩;have ad:Gr (C.alloc (J #[V I x.1.1,V I x.1.2,V I x.2.1,V I x.2.2.1,V I x.2.2.2] 91)) w3:=a8;obtain ⟨t0,t1,t2,t3,t4,t5,ck,b2,ce⟩:=(show TabAt _ _ _ _ _ _ _ from b0.gr ad);obtain ⟨x0,x1,x2,x3,x4,aL⟩:=(show CelAt _ _ _ from be.gr ad);have bt:=ir t.c A ca x.1 w3 b8.out b2;have ba:U _:=bt;go_wp2_with fail;refine ja0 ba ?_;rintro e w2 ⟨rfl,a7⟩;have E:Gr C w2:=(a9.trans ad).trans a7;have u:Gr w1 w2:=a5.trans E;have b9:=(be.gr ad).gr a7;have bN:=(b0.gr ad).gr a7;obtain ⟨x0,x1,x2,x3,x4,aL⟩:=(show CelAt _ _ _ from b9);cases ah:ax t.c x.1
     ·have f:U (ay t=5):=by
       refine dP F.out (by omega) g ?_;cases k with
       | zero=>rw[dc g r.out];simp[ah]
       | succ m=>rw[co g r.out rfl];simp[ah]
      go_wp2;go_ret;rw[f.out];exact ⟨rfl,n.trans u⟩
     ·cases R:inB x.2.1 0 49
      ·have f:U (ay t=5):=by
        refine dP F.out (by omega) g ?_;cases k with
        | zero=>rw[dc g r.out];simp[aF,R]
        | succ m=>rw[co g r.out rfl];simp[aF,R]
       go_wp2_with (go_at_call 5;refine (dn R _).mono ?_;rintro e w2 ⟨rfl,rfl⟩);go_ret;rw[f.out];exact ⟨rfl,n.trans u⟩
      ·cases ak:inB x.2.2.1 0 2
       ·have f:U (ay t=5):=by
         refine dP F.out (by omega) g ?_;cases k with
         | zero=>rw[dc g r.out];simp[aF,ak]
         | succ m=>rw[co g r.out rfl];simp[aF,ak]
        go_wp2_with (go_at_call 5;(first|with_reducible refine (dn R _).mono ?_|with_reducible refine (dn ak _).mono ?_);rintro e w2 ⟨rfl,rfl⟩);go_ret;rw[f.out];exact ⟨rfl,n.trans u⟩
       ·cases ao:inB x.2.2.2 (-1000) 1000
        ·have f:U (ay t=5):=by
          refine dP F.out (by omega) g ?_;cases k with
          | zero=>rw[dc g r.out];simp[aF,ao]
          | succ m=>rw[co g r.out rfl];simp[aF,ao]
         go_wp2_with (go_at_call 5;(first|with_reducible refine (dn R _).mono ?_|with_reducible refine (dn ak _).mono ?_|with_reducible refine (dn ao _).mono ?_);rintro e w2 ⟨rfl,rfl⟩);go_ret;rw[f.out];exact ⟨rfl,n.trans u⟩
        ·have bb:aF x.2.1 x.2.2.1 x.2.2.2=true:=(by unfold aF;rw[R,ak,ao];rfl);cases k with
         | zero =>
          have a2:U (dE t 0=true):=(by show dE t 0=true;rw[dc g r.out,ah,bb];rfl);go_wp2_with (first|(go_at_call 5;(first|with_reducible refine (dn R _).mono ?_|with_reducible refine (dn ak _).mono ?_|with_reducible refine (dn ao _).mono ?_);rintro e w2 ⟨rfl,rfl⟩)|fail);refine wp_region_quiet_grown ap (by kernel_rfl) ?_;repeat (go_big_quiet_step (fail))
          refine wpQuiet_nil ?_;rintro _ ⟨⟨a3,an⟩,rfl⟩;go_wp2;go_roundw;case rel =>
           refine ⟨_,g,by go_num,?_,u.trans ⟨a3,an,rfl⟩⟩;intro j hj;by_cases e:j=0
           ·rw[e];exact a2.out
           ·exact a1 j (by omega)
          case measure=>simp[intOf];omega
         | succ m =>
          obtain ⟨y,hy⟩:=jb0 (t.e[m]);obtain ⟨f0,f1,f2,f3,f4⟩:=bp.out m (by omega);rw[hy] at f0 f1 f2 f3 f4;have b1:=ja1 hy;clear hy;have q0:=E.cellG (a:=(jb5 b (a4+m*5))) hb f0;have q1:=E.cellG (a:=(jb5 b (a4+m*5+1))) hb f1;have q2:=E.cellG (a:=(jb5 b (a4+m*5+2))) hb f2;have q3:=E.cellG (a:=(jb5 b (a4+m*5+3))) hb f3;have q4:=E.cellG (a:=(jb5 b (a4+m*5+4))) hb f4;have p5:=(gR w2).cellG (a:=(jb5 w.heap.size 5)) bN.lt bN.k5;have p0:=(gR w2).cellG (a:=(jb5 C.heap.size 0)) aL x0;have p1:=(gR w2).cellG (a:=(jb5 C.heap.size 1)) aL x1;have p2:=(gR w2).cellG (a:=(jb5 C.heap.size 2)) aL x2;have p3:=(gR w2).cellG (a:=(jb5 C.heap.size 3)) aL x3;have p4:=(gR w2).cellG (a:=(jb5 C.heap.size 4)) aL x4;clear f0 f1 f2 f3 f4;cases a0:bj y.1 x.1
          ·have f:U (ay t=5):=dP F.out (by omega) g (by rw[co g r.out b1.out,ah,bb,a0];rfl);have b7:=a0;go_wp2_with (first|(go_at_call 5;(first|with_reducible refine (dn R _).mono ?_|with_reducible refine (dn ak _).mono ?_|with_reducible refine (dn ao _).mono ?_);rintro e w2 ⟨rfl,rfl⟩)|fail);refine wp_region_quiet_grown ap (by kernel_rfl) ?_;repeat (go_big_quiet_step ((go_at_call 58;refine Calls.grown_of (fm (a:=y.1.1) (b:=y.1.2) (c:=x.1.1) (d:=x.1.2) a0 _))))
           refine wpQuiet_nil ?_;rintro _ ⟨⟨a3,an⟩,rfl⟩;go_wp2;go_ret;rw[f.out];exact ⟨rfl,n.trans (u.trans ⟨a3,an,rfl⟩)⟩
          ·have b7:=a0;have a2:U (dE t (m+1)=true):=by show dE t (m+1)=true;rw[co g r.out b1.out,ah,bb,a0];rfl
           go_wp2_with (first|(go_at_call 5;(first|with_reducible refine (dn R _).mono ?_|with_reducible refine (dn ak _).mono ?_|with_reducible refine (dn ao _).mono ?_);rintro e w2 ⟨rfl,rfl⟩)|fail);refine wp_region_quiet_grown ap (by kernel_rfl) ?_;repeat (go_big_quiet_step ((go_at_call 58;refine Calls.grown_of (fm (a:=y.1.1) (b:=y.1.2) (c:=x.1.1) (d:=x.1.2) a0 _))))
           refine wpQuiet_nil ?_;rintro _ ⟨⟨a3,an⟩,rfl⟩;go_wp2;go_roundw;case rel =>
            refine ⟨_,g,by go_num,?_,u.trans ⟨a3,an,rfl⟩⟩;intro j hj;by_cases e:j=m+1
            ·rw[e];exact a2.out
            ·exact a1 j (by omega)
           case measure=>simp[intOf];omega
   ·have bv:¬(k:Int)<(t.e.length:Int):=(by omega);have f:U (ay t=0):=ox F.out (by omega) fun j hj=>a1 j (by omega);go_wp2;go_ret;rw[f.out];exact ⟨rfl,n.trans a5⟩
 ·have b4:(aU t.c != 0)=true:=by simpa using he
  have f:=ja1 (py he);clear he;go_wp2;go_ret;rw[f.out];exact ⟨rfl,n⟩


def lix (l:List (Int×Int)):Nat->Nat
 | 0=>0
 | i+1=>if bj (l.getD (i+1) (0,0)) (l.getD (lix l i) (0,0))=true then i+1 else lix l i
theorem oC (l:List (Int×Int)):∀i,lix l i<=i
 | 0=>nR _
 | i+1=>by
  unfold lix;split
  ·exact nR _
  ·exact Nat.le_succ_of_le (oC l i)
theorem yy {l:List (Int×Int)} {i:Nat} (h:i+1<l.length) (c:lix l i<l.length) (d:bj l[i+1] l[lix l i]=true):lix l (i+1)=i+1:=by show (if _ then _ else _)=_;rw[if_pos (by simpa[h,c] using d)]
theorem A8 {l:List (Int×Int)} {i:Nat} (h:i+1<l.length) (c:lix l i<l.length) (d:bj l[i+1] l[lix l i]=false):lix l (i+1)=lix l i:=by show (if _ then _ else _)=_;rw[if_neg (by simp[h,c,d])]

def ei:Nat->Ctx->List (Int×Int)->Ctx
 | 0,c,_=>c
 | n+1,c,l=>ei n (bx c (l.getD (lix l n) (0,0))) (l.eraseIdx (lix l n))

def yx:Value->Nat | Z _ n _=>n|_=>0

structure PK (W wr:M) (B:Nat) (Al:Option ib) (capl:Nat) (l:List (Int×Int)) (c:Ctx):Prop where
 row:Row wr Al l
 cap:l.length<=capl
 nil:Al=none->capl=0
 cb:CB wr B (B+1) c
 apart:∀v a,wr.cell? ⟨B,4,none⟩=some v->Al=some a->v.ownBlock≠some a.block
 blk:∀a,Al=some a->B<a.block/\a.block<wr.heap.size
 bel:ik B W wr

theorem PK.gr {W wr w':M} {B:Nat} {f:Option ib} {d:Nat} {l:List (Int×Int)} {c:Ctx} (h:PK W wr B f d l c) (k:Gr wr w'):PK W w' B f d l c where
 row:=h.row.gr k
 cap:=h.cap
 nil:=h.nil
 cb:=h.cb.gr k
 apart v a hv ha:=h.apart v a (by rw[<-k.cell (p:=(jb5 B 4)) h.cb.lt];exact hv) ha
 blk a ha:=⟨(h.blk a ha).1,nL (h.blk a ha).2 k.size⟩
 bel:=h.bel.trans (k.below.mono (Nat.le_of_lt h.cb.lt))

theorem PK.setClk {W wr:M} {B:Nat} {g:Option ib} {d:Nat} {l:List (Int×Int)} {c:Ctx} (h:PK W wr B g d l c) {n:Int} (j:0<=n) (k:n<4) (s:Int):PK W (wr.jb3 B n.toNat (V I s)) B g d l (setClk c n s) where
 row:=h.row.setCell _ fun a f=>by have:=(h.blk a f).1;omega
 cap:=h.cap
 nil:=h.nil
 cb:=h.cb.setClk j k s
 apart v a hv f:=by
  refine h.apart v a ?_ f
  rw[<-hv,World.cell?_setCell_other _ _ _ _ (by intro e;injection e with e1 e2;omega)]
 blk a f:=⟨(h.blk a f).1,by simpa[World.setCell] using (h.blk a f).2⟩
 bel:=h.bel.setCell (nR _) _

theorem PK.setL {W wr F R:M} {B:Nat} {Al:Option ib} {g:Nat} {l:List (Int×Int)} {c:Ctx} (h:PK W wr B Al g l c) (hg:Gr wr F) {v v':Value} (hv:jb1 wr B 4 v) {m:List (Int×Int)} (ho:Own R (B+1) v' m)
  (C:F.grownBy R v.ownBlock) (hb:ik (B+1) F R) {H:Nat} (hH:F.heap.size=H) (d:v'.ownBlock=v.ownBlock\/v'.ownBlock=some H):PK W (R.jb3 B 4 v') B Al g l { c with l:=m }:=by
 subst hH;have k:=h.gr hg;have E:=(hg.cell (p:=(jb5 B 4)) h.cb.lt).trans hv;have e4:=(hb.cell (p:=(jb5 B 4)) (Nat.lt_succ_self B)).trans E;have ad:∀a,Al=some a->a.block≠B:=fun a n=>by have:=(h.blk a n).1;omega
 have D:Row R Al l:=by
  rcases k.row with hr|⟨b,off,hA,hbs,hc⟩
  ·exact oL hr
  ·have r:=k.apart v _ E hA;have f:∀p:ib,p.block=b->R.cell? p=F.cell? p:=fun p hp=>World.cell?_of_block (w:=F) (by rw[hp];exact C.block b hbs (fun e=>r e.symm));exact oR ⟨b,off,hA,nL hbs C.size,fun j hj=>⟨(f (jb5 b (off+j*2)) rfl).trans (hc j hj).1,(f (jb5 b (off+j*2+1)) rfl).trans (hc j hj).2⟩⟩
 refine ⟨D.setCell _ ad,h.cap,h.nil,k.cb.setL hb ho,?_,?_,?_⟩
 ·intro u a hu n;rw[World.cell?_setCell_same _ _ _ e4] at hu;obtain rfl:=sI hu;have r:=k.apart v a E n;rcases d with d|d
  ·rw[d];exact r
  ·rw[d];intro e;have:=(k.blk a n).2;injection e with e;omega
 ·intro a n;refine ⟨(h.blk a n).1,?_⟩;have:=(k.blk a n).2;have:=C.size;simp only[World.setCell,Array.size_modify];omega
 ·exact (k.bel.trans (hb.mono (by omega))).setCell (nR _) _

theorem rB {c:Ctx} {l:List (Int×Int)} {K:Nat} (k:0<l.length) (h:lix l (l.length-1)=K) (d:K<l.length) {x:Int×Int} (j:l[K]=x):ei l.length c l=ei (l.eraseIdx K).length (bx c x) (l.eraseIdx K):=by
 obtain ⟨n,g⟩:∃n,l.length=n+1:=⟨l.length-1,by omega⟩;have f:(l.eraseIdx K).length=n:=by rw[List.length_eraseIdx,if_pos d];omega
 rw[f,g];rw[g,Nat.add_sub_cancel] at h;show ei n (bx c (l.getD (lix l n) (0,0))) (l.eraseIdx (lix l n))=_;rw[h];have:l.getD K (0,0)=x:=by rw[<-j];simp[d]
 rw[this]
theorem tR {c:Ctx} {x:Int×Int} (d:aW c=true) (j:ai x=true):aW (bx c x)=true:=by
 have h:=dr j;unfold bx;split
 ·exact d
 ·split
  ·refine io fun a f g=> ?_;rw[dI c x.1 x.2 a h.1 h.2.1 f g];have:=bF d a f g;split<;>simp[inB]<;>omega
  ·exact d
theorem tS (c:Ctx) (x:Int×Int):(bx c x).l.length<=c.l.length+1:=by
 unfold bx;split
 ·omega
 ·split
  ·rw[dX];omega
  ·simp

theorem j3 (c:Ctx) (l:List (Int×Int)) (A:Option ib) (cap:Nat) (w:M) (c9:c.l=[]) (d2:aW c=true) (hl:l.length<=1600) (bN:∀x∈l,ai x=true) (hr:Row w A l) (hA:A=none->cap=0) :
  ia L 52 #[ih #[V I c.c0,V I c.c1,V I c.c2,V I c.c3],Z A l.length cap] w fun e w'=>∃C cp,e= Q (ih (ja7 (ei l.length c l) C cp))/\Row w' C (ei l.length c l).l/\(C=none->cp=0)/\(∀a,C=some a->w.heap.size<=a.block)/\ik w.heap.size w w':=by
 have hH:=ja3 c9 d2 bN;clear c9 d2 bN;have b6:Tryz.prog.follows .mixedOrders=true:=by kernel_rfl
 have ds:Gr w (((w.alloc (J #[V I c.c0,V I c.c1,V I c.c2,V I c.c3] 29)).alloc (J #[V I 0,V I 0,V I 0,V I 0,Z none 0 0] 32)).alloc (J #[V I c.c0,V I c.c1,V I c.c2,V I c.c3,Z none 0 0] 32)):=((((gR w).alloc _).alloc _).alloc _);go_enter Tryz.func52,Tryz.ntmps52;go_wp2_with (at_builtin;refine al _ rfl _ (.tmp 12) rfl (w.heap.size+1+1+1) (Z none 0 0) [] l A cap rfl rfl (Own.nil _ _) ?hr hA ?hb ?hs ?_);case hr=>exact hr.gr ds
 case hb=>simp;omega
 case hs=>simp
 intro vl w1 a7 cj _;change Own w1 _ vl l at a7;have dk:CB (((w.alloc (J #[V I c.c0,V I c.c1,V I c.c2,V I c.c3] 29)).alloc (J #[V I 0,V I 0,V I 0,V I 0,Z none 0 0] 32)).alloc (J #[V I c.c0,V I c.c1,V I c.c2,V I c.c3,Z none 0 0] 32)) (w.heap.size+1+1) (w.heap.size+1+1+1) c:=by have:=CB.start ((w.alloc (J #[V I c.c0,V I c.c1,V I c.c2,V I c.c3] 29)).alloc (J #[V I 0,V I 0,V I 0,V I 0,Z none 0 0] 32)) hH.out.1 32;simpa using this
 have F:ik (((w.alloc (J #[V I c.c0,V I c.c1,V I c.c2,V I c.c3] 29)).alloc (J #[V I 0,V I 0,V I 0,V I 0,Z none 0 0] 32)).alloc (J #[V I c.c0,V I c.c1,V I c.c2,V I c.c3,Z none 0 0] 32)).heap.size (((w.alloc (J #[V I c.c0,V I c.c1,V I c.c2,V I c.c3] 29)).alloc (J #[V I 0,V I 0,V I 0,V I 0,Z none 0 0] 32)).alloc (J #[V I c.c0,V I c.c1,V I c.c2,V I c.c3,Z none 0 0] 32)) w1:=(bR _ _).grown cj (nR _) (fun k e=>by cases e);have ce:=dk.below F;obtain ⟨Al,a8,rfl,cG,d5,be,bd⟩:=a7.full;go_wp2;go_loopw [6] (fun v wr=>∃Al a8 l' c',v= Z Al l'.length a8/\l'.length<=1600/\PK ((w.alloc (J #[V I c.c0,V I c.c1,V I c.c2,V I c.c3] 29)).alloc (J #[V I 0,V I 0,V I 0,V I 0,Z none 0 0] 32)) wr (w.heap.size+1+1) Al a8 l' c'/\U (ei l'.length c' l'=ei l.length c l/\aW c'=true/\(∀x∈l',ai x=true)/\c'.l.length+l'.length<=1600)) (fun v _=>yx v);case atStart =>
  refine ⟨Al,a8,l,c,rfl,hl,⟨d5,be,cG,ce,?_,?_,?_⟩,rfl,hH.out.2.1,hH.out.2.2,by rw[hH.out.1];simpa using hl⟩
  ·intro v a hv _;have h4:=(F.cell (p:=⟨w.heap.size+1+1,4,none⟩) (by simp)).symm.trans hv;have:v= Z none 0 0:=by have h5:((((w.alloc (J #[V I c.c0,V I c.c1,V I c.c2,V I c.c3] 29)).alloc (J #[V I 0,V I 0,V I 0,V I 0,Z none 0 0] 32)).alloc (J #[V I c.c0,V I c.c1,V I c.c2,V I c.c3,Z none 0 0] 32))).cell? ⟨w.heap.size+1+1,4,none⟩=some (Z none 0 0):=(by have:=ab (gR (((w.alloc (J #[V I c.c0,V I c.c1,V I c.c2,V I c.c3] 29)).alloc (J #[V I 0,V I 0,V I 0,V I 0,Z none 0 0] 32)).alloc (J #[V I c.c0,V I c.c1,V I c.c2,V I c.c3,Z none 0 0] 32))) (j:=4) rfl;simpa using this);rw[h5] at h4;exact (sI h4).symm
   rw[this];simp[Value.ownBlock]
  ·intro a ha;exact ⟨by have:=(bd a ha).1;omega,(bd a ha).2.1⟩
  ·exact ((bR _ _).alloc (by simp) _).trans (F.mono (by simp))
 case round =>
  obtain ⟨Ar,aL,d,n,rfl,ea,bv,an⟩:=hrel;clear d5 cG be bd ce dk cj F ds a7;rcases Nat.eq_zero_or_pos d.length with h0|hpos
  ·obtain rfl:d=[]:=List.eq_nil_of_length_eq_zero h0;have HF:=ja1 an.out.1.symm;obtain ⟨v,k0,k1,k2,k3,k4,ad,cm,c5,c6⟩:=bv.cb;obtain ⟨C,cp,rfl,hC,ao,dg,b8⟩:=ad.full;have E:=bv.bel;have r0:=(E.cell (p:=⟨w.heap.size+1,0,none⟩) (by simp)).trans (show _=some (V I 0) by go_simp);have r1:=(E.cell (p:=⟨w.heap.size+1,1,none⟩) (by simp)).trans (show _=some (V I 0) by go_simp);have r2:=(E.cell (p:=⟨w.heap.size+1,2,none⟩) (by simp)).trans (show _=some (V I 0) by go_simp);have r3:=(E.cell (p:=⟨w.heap.size+1,3,none⟩) (by simp)).trans (show _=some (V I 0) by go_simp);have r4:=(E.cell (p:=⟨w.heap.size+1,4,none⟩) (by simp)).trans (show _=some (Z none 0 0) by go_simp);have rf:∀j,wr.frozen? ⟨w.heap.size+1,j,none⟩=false:=fun j=>(E.frozen (p:=⟨w.heap.size+1,j,none⟩) (by simp)).trans (by simp);have ek:U (ik w.heap.size w wr):=(((bR _ w).alloc (nR _) _).alloc (by simp) _).trans (E.mono (by omega));have bb:∀a,C=some a->a.block≠w.heap.size+1:=fun a ha=>by have:=(b8 a ha).1;omega
   clear ad cm;go_wp2;rw[HF.out];refine bodyPost_ret (v:= ih (ja7 n C cp)) (by simp[results,Tryz.results52,go_sem,r0,r1,r2,r3,r4]) rfl ⟨C,cp,rfl,?_,hC,fun a ha=>by have:=(b8 a ha).1;omega,?_⟩
   ·exact ((((ao.setCell _ bb).setCell _ bb).setCell _ bb).setCell _ bb).setCell _ bb
   ·exact ((((ek.out.setCell (by simp) _).setCell (by simp) _).setCell (by simp) _).setCell (by simp) _).setCell (by simp) _
  ·have e4:(0:Int)<(d.length:Int):=(by omega);obtain ⟨bl,R,rfl,F,dl⟩:=bv.row.at hpos;have a0:=ja1 dl;clear dl;go_wp2;go_loopw [7,8] (fun kv iv wi=>∃i:Nat,i+1<=d.length/\iv= V I (i+1:Nat)/\kv= V I (lix d i:Nat)/\Gr wr wi) (fun _ iv _=>d.length-(intOf iv).toNat);exact ⟨0,hpos,rfl,rfl,gR _⟩;rename M=>wi;obtain ⟨i,hi,rfl,rfl,ak⟩:=hrel;have es:=oC d i;have bs:lix d i<d.length:=by omega
   obtain ⟨g,m,cv⟩:∃x y,d[lix d i]=(x,y):=⟨_,_,rfl⟩;have k0:=(a0.out (lix d i) bs).1;have k1:=(a0.out (lix d i) bs).2;rw[cv] at k0 k1;have g0:=ak.cellG (a:=⟨bl,R+lix d i*2,none⟩) F k0;have g1:=ak.cellG (a:=⟨bl,R+lix d i*2+1,none⟩) F k1;have m0:=(ak.cell (p:=⟨bl,R+lix d i*2,none⟩) F).trans k0;have m1:=(ak.cell (p:=⟨bl,R+lix d i*2+1,none⟩) F).trans k1;have a9:=ja1 cv;obtain ⟨K,hK⟩:∃K,lix d i=K:=⟨_,rfl⟩;have bc:=ja1 hK;rw[hK] at g0 g1 m0 m1 es bs ⊢;clear cv k0 k1 hK;by_cases ba:i+1<d.length
   ·have dG:(i:Int)+1<(d.length:Int):=(by omega);have dv:(K:Int)<(d.length:Int):=by omega
    obtain ⟨x,y,hx⟩:∃x y,d[i+1]=(x,y):=⟨_,_,rfl⟩;have j0:=(a0.out (i+1) ba).1;have j1:=(a0.out (i+1) ba).2;rw[hx] at j0 j1;have e0:=ak.cellG (a:=⟨bl,R+(i+1)*2,none⟩) F j0;have e1:=ak.cellG (a:=⟨bl,R+(i+1)*2+1,none⟩) F j1;have d8:=ja1 hx;clear hx j0 j1;cases b9:bj (x,y) (g,m)
    ·have cu:U (lix d (i+1)=K):=(by have:=A8 ba (by rw[bc.out];exact bs) (by rw[d8.out,a9.out];exact b9);exact this.trans bc.out);go_wp2;refine wp_region_quiet_grown b6 (by kernel_rfl) ?_;repeat (go_big_quiet_step ((go_at_call 58;refine Calls.grown_of (fm b9 _))))
     refine wpQuiet_nil ?_;rintro _ ⟨⟨nq,cz⟩,rfl⟩;go_wp2;go_roundw;exact ⟨i+1,ba,by go_num,by rw[cu.out],ak.trans ⟨nq,cz,rfl⟩⟩;simp[intOf];omega
    ·have cu:U (lix d (i+1)=i+1):=yy ba (by rw[bc.out];exact bs) (by rw[d8.out,a9.out];exact b9);go_wp2;refine wp_region_quiet_grown b6 (by kernel_rfl) ?_;repeat (go_big_quiet_step ((go_at_call 58;refine Calls.grown_of (fm b9 _))))
     refine wpQuiet_nil ?_;rintro _ ⟨⟨nq,cz⟩,rfl⟩;go_wp2;go_roundw;exact ⟨i+1,ba,by go_num,by rw[cu.out];go_num,ak.trans ⟨nq,cz,rfl⟩⟩;simp[intOf];omega
   ·have dG:¬(i:Int)+1<(d.length:Int):=(by omega);obtain rfl:i=d.length-1:=by omega
    have dv:(K:Int)<(d.length:Int):=(by omega);clear g0 g1;have cn:Gr wr (wi.alloc (J #[V I g,V I m] 89)):=ak.alloc _;have f:=bv.gr cn;have d0:=ab (gR (wi.alloc (J #[V I g,V I m] 89))) (j:=0) rfl;have d1:=ab (gR (wi.alloc (J #[V I g,V I m] 89))) (j:=1) rfl;have a1:wi.heap.size<(wi.alloc (J #[V I g,V I m] 89)).heap.size:=by simp
    go_wp2;generalize wi.alloc (J #[V I g,V I m] 89)=W at cn f d0 d1 a1 ⊢;have em:=f.cap;have f1:K<=aL:=by omega
    have e6:IntKind.i64.wrap ((K:Int)+1)=(K:Int)+1:=(by rw[IntKind.wrap_i64];omega);have ez:(0:Int)<=(K:Int)+1:=by omega
    have e2:(K:Int)+1<=(d.length:Int):=(by omega);have e3:((K:Int)+1).toNat=K+1:=by omega
    have b4:=ja1 (f.row.take K);obtain ⟨A2,eb,b3⟩:∃A2:ib,(if aL=K+1 then some (⟨bl,R,none⟩:ib) else some ⟨bl,R+(K+1)*2,none⟩)=some A2/\U (Row W (some A2) (d.drop (K+1))):=by
     by_cases h:aL=K+1
     ·exact ⟨⟨bl,R,none⟩,by simp[h],oL (List.eq_nil_of_length_eq_zero (by rw[List.length_drop];omega))⟩
     ·exact ⟨⟨bl,R+(K+1)*2,none⟩,by simp[h],f.row.drop (K+1)⟩
    have c8:U ((([]:List (Int×Int)).length+(d.take K).length)*16<=140737488355328):=(by show _<=_;simp only[List.length_nil,List.length_take];omega);have c7:U (((d.take K).length+(d.drop (K+1)).length)*16<=140737488355328):=by show _<=_;simp only[List.length_drop,List.length_take];omega
    have dy:U ((d.take K).length=K):=(by show _=_;simp only[List.length_take];omega);have dx:U ((d.drop (K+1)).length=d.length-(K+1)):=by show _=_;simp only[List.length_drop]
    go_region_law (first|(refine fP _ rfl _ (.tmp 39) rfl W.heap.size (Z none 0 0) [] (d.take K) K dy.out (some ⟨bl,R,none⟩) aL (by simp[Act.eval]) (by simp[Act.eval,Act.put]) (Own.nil _ _) b4.out.drew (fun h=>by cases h) c8.out (nR _) ?_;intro vA wA a5 a2)|(refine fP _ rfl (.tmp 40) (.tmp 44) rfl W.heap.size vA (d.take K) (d.drop (K+1)) (d.length-(K+1)) dx.out (some A2) (aL-(K+1)) (by simp[Act.eval]) (by simp[Act.eval]) a5 (b3.out.drew.below (bB a2)) (fun h=>by cases h) c7.out (bB a2).size ?_;intro vB wB a6 cf));have a3:ik W.heap.size W wB:=(((bR _ W).drew).trans (bB a2)).trans (a5.grown_below cf (bB a2).size);have ck:d.take K++d.drop (K+1)=d.eraseIdx K:=(List.eraseIdx_eq_take_drop_succ d K).symm;rw[ck] at a6;obtain ⟨A3,ap,rfl,ec,b2,cl,ah⟩:=a6.full;have bC:PK ((w.alloc (J #[V I c.c0,V I c.c1,V I c.c2,V I c.c3] 29)).alloc (J #[V I 0,V I 0,V I 0,V I 0,Z none 0 0] 32)) wB (w.heap.size+1+1) A3 ap (d.eraseIdx K) n:=by
     refine ⟨b2,cl,ec,f.cb.below a3,?_,?_,f.bel.trans (a3.mono (Nat.le_of_lt f.cb.lt))⟩
     ·intro v a hv ha e;have d7:=(a3.cell (p:=⟨w.heap.size+1+1,4,none⟩) f.cb.lt).symm.trans hv;obtain ⟨v0,e5,cs⟩:=f.cb.v;rw[e5] at d7;obtain rfl:=sI d7;have:=(cs.lt _ e).2;have:=(ah a ha).1;omega
     ·intro a ha;exact ⟨nL f.cb.lt (ah a ha).1,(ah a ha).2.1⟩
    have b0:=(a3.cell (p:=⟨wi.heap.size,0,none⟩) a1).trans d0;have b1:=(a3.cell (p:=⟨wi.heap.size,1,none⟩) a1).trans d1;have cc:wi.heap.size<wB.heap.size:=nL a1 a3.size;have ey:U (ei d.length n d=ei (d.eraseIdx K).length (bx n (g,m)) (d.eraseIdx K)):=rB hpos bc.out (by omega) (by have:=a9.out;simp only[bc.out] at this;exact this);clear a5 a2 a6 cf a3 b2 ah ck b4 b3 c8 c7 dy dx eb e6 ez e2 e3 f cn d0 d1 a1 m0 m1 a0;have bN:ai (g,m)=true:=an.out.2.2.1 (g,m) (by rw[<-a9.out];exact gM _);have hn:=dr bN;have f2:=bF an.out.2.1 g hn.1 hn.2.1;have u:U ((d.eraseIdx K).length+1=d.length):=by show _=_;rw[List.length_eraseIdx,if_pos (by omega)];omega
    have d6:U (∀x∈d.eraseIdx K,ai x=true):=fun x hx=>an.out.2.2.1 x (List.mem_of_mem_eraseIdx hx);simp only at hn;obtain ⟨v,k0,k1,k2,k3,k4,ad,cm,c5,c6⟩:=bC.cb;obtain ⟨C,cp,rfl,hC,ao,dg,b8⟩:=ad.full;have d3:=ja1 ad;clear ad b8 dg;have en:n.l.length<=maxLen:=by have:=an.out.2.2.2;unfold maxLen;omega
    go_wp2_with fail;refine (ir n C cp (g,m) wB en ao).mono ?_;rintro e wC ⟨rfl,bo⟩;clear k0 k1 k2 k3 k4 cm c5 c6 ao;have r:=bC.gr bo;have c0:=(bo.cell (p:=⟨wi.heap.size,0,none⟩) cc).trans b0;have c1:=(bo.cell (p:=⟨wi.heap.size,1,none⟩) cc).trans b1;have f3:wi.heap.size<wC.heap.size:=nL cc bo.size;clear b0 b1 cc bv bC;have b5:U (∀c2,bx n (g,m)=c2->ei (d.eraseIdx K).length c2 (d.eraseIdx K)=ei l.length c l/\aW c2=true/\(∀x∈d.eraseIdx K,ai x=true)/\c2.l.length+(d.eraseIdx K).length<=1600):=by intro c2 h2;subst h2;refine ⟨ey.out.symm.trans an.out.1,tR an.out.2.1 bN,d6.out,?_⟩;have h1:=tS n (g,m);have h2:=u.out;have h3:=an.out.2.2.2;omega
    cases hh:ax n (g,m)
    ·by_cases hy:m=clk n g+1
     ·have bG:U (bx n (g,m)=setClk n g m):=(by show bx n (g,m)=_;unfold bx;rw[if_neg (by rw[hh];simp),if_pos hy]);have fn:(m==clk n g+1)=true:=by simpa using hy
      have e8:=ja1 hy;clear hy;have kc:=r.cb.clk hn.1 hn.2.1;have kf:=r.cb.fz g.toNat;go_wp2;go_quiet (fail);go_wp2;go_roundw;case rel=>exact ⟨A3,ap,d.eraseIdx K,setClk n g m,rfl,by have:=u.out;omega,(r.gr ((gR _).drewN nq)).setClk hn.1 hn.2.1 m,b5.out _ bG.out⟩
      case measure=>simp only[yx];have:=u.out;simp;omega
     ·have bG:U (bx n (g,m)={ n with l:=n.l++[(g,m)] }):=(by show bx n (g,m)=_;unfold bx;rw[if_neg (by rw[hh];simp),if_neg hy]);have fn:(m==clk n g+1)=false:=by simpa using hy
      have e8:=ja1 hy;clear hy;have kc:=r.cb.clk hn.1 hn.2.1;obtain ⟨v,k4,ad⟩:=r.cb.v;obtain ⟨D,dp,rfl,hD,-,-,-⟩:=ad.full;have bt:=ja1 ad;clear ad d3;have ej:U ((n.l.length+[(g,m)].length)*16<=140737488355328):=by have:=an.out.2.2.2;show _<=_;simp only[List.length_cons,List.length_nil];omega
      go_wp2;go_quiet (fail);have eg:=r.cb.lt;go_wp2_with (at_builtin;refine al _ rfl (.tmp 65) (.tmp 67) rfl (w.heap.size+1+1+1) (Z D n.l.length dp) n.l [(g,m)] (some ⟨wC.heap.size,0,none⟩) 1 rfl rfl ?ho ?hr (fun h=>by cases h) ej.out ?hs ?_);case ho=>exact bt.out.gr (((gR wC).drewN nq).alloc _)
      case hr=>exact ed (by simp) g m _
      case hs=>simp;omega
      intro v1 w2 a4 bp cd;obtain ⟨C3,d9,rfl,f0,-,-⟩:=a4.row;have bh:Gr wC ((wC.drewN nq).alloc (J #[V I g,V I m] 89)):=((gR wC).drewN nq).alloc _;have b7:ik (w.heap.size+1+1+1) ((wC.drewN nq).alloc (J #[V I g,V I m] 89)) w2:=Own.grown_below (bt.out.gr bh) bp (by simp;omega);have d4:U (PK ((w.alloc (J #[V I c.c0,V I c.c1,V I c.c2,V I c.c3] 29)).alloc (J #[V I 0,V I 0,V I 0,V I 0,Z none 0 0] 32)) (w2.setCell ⟨w.heap.size+1+1,4,none⟩ (Z C3 (n.l++[(g,m)]).length d9)) (w.heap.size+1+1) A3 ap (d.eraseIdx K) { n with l:=n.l++[(g,m)] }):=r.setL bh k4 a4 bp b7 (by simp) cd;have c4:w2.cell? ⟨w.heap.size+1+1,4,none⟩=some (Z D n.l.length dp):=(b7.cell (p:=⟨w.heap.size+1+1,4,none⟩) (by simp)).trans ((bh.cell (p:=⟨w.heap.size+1+1,4,none⟩) eg).trans k4);have f4:w2.frozen? ⟨w.heap.size+1+1,4,none⟩=false:=(b7.frozen (p:=⟨w.heap.size+1+1,4,none⟩) (by simp)).trans ((r.gr bh).cb.fz 4);clear b7 bh bp a4 cd k4 kc c0 c1 r bo;go_wp2;go_roundw;case rel=>exact ⟨A3,ap,d.eraseIdx K,_,rfl,by have:=u.out;omega,by have:=d4.out;simp only[List.length_append,List.length_cons,List.length_nil,Nat.zero_add] at this;exact this,b5.out _ bG.out⟩
      case measure=>simp only[yx];have:=u.out;simp;omega
    ·have bG:U (bx n (g,m)=n):=(by show bx n (g,m)=n;simp[bx,hh]);go_wp2;go_roundw;case rel=>exact ⟨A3,ap,d.eraseIdx K,n,rfl,by have:=u.out;omega,r,b5.out _ bG.out⟩
     case measure=>simp only[yx];have:=u.out;simp;omega

end Go.Proofs.YtbkjgjjpnfhkhaaGreatDoor
