import Derived.Test.YtjmmpnmgpgaagaaGreatDoorM14
set_option maxRecDepth 100000
set_option maxHeartbeats 8000000
open Go renaming Addr → S, Calls → O
open Go.Value renaming slice → I, pointer → J, tuple → Z, int → H
namespace Go.Proofs.YtjmmpnmgpgaagaaGreatDoor
open Go.RowKit Go.Sort

theorem AW {w f g:World} {V o:Nat} {P:Nat->Prop} {q:List Stp} {QA:Option S} {cq:Nat} {a C:List Itm} {A A':Option S} {ca r:Nat} {b E:List Itm} {B B':Option S} {cb u:Nat} {x:List Itm} {X:Option S} {cx:Nat} {y:List Itm} {Y:Option S} {cy:Nat} {e:Int} {k l:List Zit} {T:TypeId} {n:Nat} (hB:Blk w V T n) (h:Vm f V o (af P w.heap.size f.heap.size) q QA cq a A ca b B cb x X cx y Y cy e) (hw:Wr V o (o+6) w f) (ad:V<w.heap.size) (hV:¬P V) (f1:C.map Itm.z=k) (f2:E.map Itm.z=l) (f3:Vo g V o (af (af P w.heap.size f.heap.size) f.drew.heap.size g.heap.size) q QA cq C A' r E B' u) (F:Wr V (o+1) (o+3) f.drew g) :
  C.map Itm.z=k/\E.map Itm.z=l/\Vm g V o (af P w.heap.size g.heap.size) q QA cq C A' r E B' u x X cx y Y cy e/\Wr V o (o+6) w g:=by
 have hs:f.heap.size<=g.heap.size:=F.size
 have L:¬af P w.heap.size f.heap.size V:=fun k=>k.elim hV fun k=>by omega
 have hA:Agr (af P w.heap.size f.heap.size) f g:=(Agr.of (gR f).drew.below).trans (F.agr L)
 have hm:=af.more (P:=P) (m:=w.heap.size) (n:=f.heap.size) (nR w.heap.size) hs
 have hc:∀j,o+3<=j->g.cell? ⟨V,j,none⟩=f.cell? ⟨V,j,none⟩:=fun j hj=>by
  have R:Blk f.drew V T n:=hw.block hB
  exact F.cell R (oR hj)
 exact ⟨f1,f2,⟨f3.mono (fun b hb=>af.two hw.size hs b hb),(hc _ (by omega)).trans h.c3,(hc _ (by omega)).trans h.c4,(hc _ (by omega)).trans h.c5,(h.lx.agr hA).mono hm,(h.ly.agr hA).mono hm⟩,hw.trans ((Wr.of (gR f).drew.below h.vo.lt).trans (F.mono (by omega) (by omega)))⟩
theorem tf {w:World} {V o:Nat} {P Q:Nat->Prop} {q:List Stp} {k l z y z' y':List Zit} {e0:Int} {T:TypeId} {nB:Nat} (ba:Blk w V T nB) (hV:¬P V) (hQ:¬Q V) (h:VwM w V o P q k l (bf z k) (bf y l) e0) (hk:TS k) (hl:TS l) (hz:TS z) (hy:TS y) (a9:TS z') (bd:TS y') {m n:List Itm} {M N:Option S} {cm cn:Nat} (hm:LvP Q w M cm m) (hn:LvP Q w N cn n) (em:m.map Itm.z=bf z' z) (en:n.map Itm.z=bf y' y) :
  O Tryz.prog 135 #[J (some ⟨V,o,none⟩),.agg #[I M m.length cm,I N n.length cn]] w fun e w'=>e= .returned (Z #[])/\VwN w' V o (af P w.heap.size w'.heap.size) q z' y'/\Wr V o (o+6) w w':=by
 obtain ⟨q',QA,cq,a,A,ca,b,B,cb,x,X,cx,u,U,cu,h1,hq,ha,hb,hx,hu⟩:=h
 have bh:=DW (I M m.length cm) (I N n.length cn)
 have bl:=DX (I M m.length cm) (I N n.length cn)
 have bp:Tryz.prog.follows .mixedOrders=true:=by kernel_rfl
 have hT:=ja6 hk hl hz hy a9 bd
 have hE:Hid (q'.map bare=q.map bare/\a.map Itm.z=k/\b.map Itm.z=l/\m.map Itm.z=bf z' z/\n.map Itm.z=bf y' y/\x.map Itm.z=bf z k/\u.map Itm.z=bf y l):=⟨hq,ha,hb,em,en,hx,hu⟩
 have hP:=ja2 hV hQ
 have be:=ja1 ba
 clear ba
 obtain ⟨w1,a6⟩:∃W,(w.alloc (.cells #[I M m.length cm,I N n.length cn] 63))=W:=⟨_,rfl⟩
 have s0:w1.cell? ⟨w.heap.size,0,none⟩=some (I M m.length cm):=by rw[<-a6];exact aa (w:=w) (gR _) rfl
 have s1:w1.cell? ⟨w.heap.size,1,none⟩=some (I N n.length cn):=by rw[<-a6];exact aa (w:=w) (gR _) rfl
 have a2:Below w.heap.size w w1:=by rw[<-a6];exact ((gR w).alloc _).below
 have hH:=ja5 (h1.below a2) (hm.below a2) (hn.below a2) a2 h1.vo.lt
 have c3:=hH.out.1.c3
 have a1:Hid (∀W,Gr w1 W->O Tryz.prog 170 #[I X x.length cx,I M m.length cm] W fun e w'=>∃(L:List Itm) (C:Option S) (r:Nat),e= .returned (I C L.length r)/\L.map Itm.z=bf z' k/\LvP (fun b=>W.heap.size<=b/\b<w'.heap.size) w' C r L/\Below W.heap.size W w'):=fun W hg=>kM (hH.out.1.lx.lv.gr hg) (hH.out.2.1.lv.gr hg) (by rw[hx,em];exact (mD hk hz a9).2)
 clear h1 hm hn a2 hk hl hz hy a9 bd hq ha hb em en hx hu hV hQ
 go_enter Tryz.func135,Tryz.ntmps135
 go_wp2
 clear a6 s0 s1
 refine wp_loop_rounds 3 ?_
 rw[rounds_succ]
 go_wp2
 go_region_with (go_at_call 170;refine cM (a1.out _ (gR w1).drew) ?_;rintro e w2 ⟨L,C,r,rfl,h1,h2,h3⟩;have F:Below w1.heap.size w1 w2:=(gR w1).drew.below.trans h3;have f:Hid (Below w1.heap.size w1 w2/\LvP (fun b=>w1.heap.size<=b/\b<w2.heap.size) w2 C r L/\L.map Itm.z=bf z' k):=⟨F,h2,h1⟩;clear h1 h2 h3;have p0:=(hH.out.1.below F).c3;have z0:=(hH.out.1.below F).vo.fz (o+3);clear F)
 clear p0 z0 c3 a1 bh
 obtain ⟨w3,an⟩:∃W,w2.setCell ⟨V,o+3,none⟩ (I C L.length r)=W:=⟨_,rfl⟩
 rw[an]
 have h3:Hid (Vm w3 V o (af P w.heap.size w3.heap.size) q' QA cq a A ca b B cb L C r u U cu e0/\L.map Itm.z=bf z' k/\Wr V o (o+6) w w3/\LvP Q w3 N cn n):=by
  have F:=f.out.1
  have bn:w3.heap.size=w2.heap.size:=by rw[<-an];simp
  have ah:=hH.out.2.2.2.2
  have a3:=hH.out.2.2.2.1.size
  have ad:¬af P w.heap.size w2.heap.size V:=fun k=>k.elim hP.out.1 fun k=>by omega
  refine ⟨?_,f.out.2.2,?_,?_⟩
  ·rw[bn,<-an]
   exact ((hH.out.1.below F).mono fun b hb=>af.old b hb).set3 ad (f.out.2.1.mono fun b hb=>af.new (m:=w.heap.size) (n:=w2.heap.size) a3 (nR _) b hb)
  ·rw[<-an]
   exact ((Wr.of (hH.out.2.2.2.1.trans (F.mono a3)) ah).trans (Wr.set _ _ (by omega) (by omega)))
  ·rw[<-an]
   exact (hH.out.2.2.1.below F).agr (aS _ hP.out.2)
 have bc:=ja1 hH.out.2.2.2.2
 clear an f hH
 go_wp2
 rw[rounds_succ]
 have c4:=h3.out.1.c4
 have a1:Hid (∀W,Gr w3 W->O Tryz.prog 170 #[I U u.length cu,I N n.length cn] W fun e w'=>∃(L:List Itm) (C:Option S) (r:Nat),e= .returned (I C L.length r)/\L.map Itm.z=bf y' l/\LvP (fun b=>W.heap.size<=b/\b<w'.heap.size) w' C r L/\Below W.heap.size W w'):=fun W hg=>kM (h3.out.1.ly.lv.gr hg) (h3.out.2.2.2.lv.gr hg) (by rw[hE.out.2.2.2.2.2.2,hE.out.2.2.2.2.1];exact (mD hT.out.2.1 hT.out.2.2.2.1 hT.out.2.2.2.2.2).2)
 go_wp2
 go_region_with (go_at_call 170;refine cM (a1.out _ (gR w3).drew) ?_;rintro e w4 ⟨L2,C2,k2,rfl,h1,h2,h4⟩;have R:Below w3.heap.size w3 w4:=(gR w3).drew.below.trans h4;have f:Hid (Below w3.heap.size w3 w4/\LvP (fun b=>w3.heap.size<=b/\b<w4.heap.size) w4 C2 k2 L2/\L2.map Itm.z=bf y' l):=⟨R,h2,h1⟩;clear h1 h2 h4;have p0:=(h3.out.1.below R).c4;have z0:=(h3.out.1.below R).vo.fz (o+4);clear R)
 clear p0 z0 c4 a1 bl
 obtain ⟨w5,a4⟩:∃W,w4.setCell ⟨V,o+3+1,none⟩ (I C2 L2.length k2)=W:=⟨_,rfl⟩
 rw[a4]
 have g:Hid (Vm w5 V o (af P w.heap.size w5.heap.size) q' QA cq a A ca b B cb L C r L2 C2 k2 e0/\L2.map Itm.z=bf y' l/\Wr V o (o+6) w w5/\V<w.heap.size):=by
  have R:=f.out.1
  have bo:w5.heap.size=w4.heap.size:=by rw[<-a4];simp
  have a3:=h3.out.2.2.1.size
  have ah:=bc.out
  have ad:¬af P w.heap.size w4.heap.size V:=fun k=>k.elim hP.out.1 fun k=>by omega
  refine ⟨?_,f.out.2.2,?_,ah⟩
  ·rw[bo,<-a4]
   exact ((h3.out.1.below R).mono (af.more (nR _) R.size)).set4 ad (f.out.2.1.mono fun b hb=>af.new (m:=w.heap.size) (n:=w4.heap.size) a3 (nR _) b hb)
  ·rw[<-a4]
   exact h3.out.2.2.1.trans ((Wr.of R (by omega)).trans (Wr.set _ _ (by omega) (by omega)))
 have a7:=ja1 h3.out.2.1
 clear a4 f h3
 go_wp2
 rw[rounds_succ]
 have c3:=g.out.1.c3
 have c4:=g.out.1.c4
 have hF:Hid (jC q' (a.map Itm.z) (b.map Itm.z) (L.map Itm.z) (L2.map Itm.z)=bM q z' y'):=by
  show _=_
  rw[a7.out,g.out.2.1,hE.out.2.1,hE.out.2.2.1,tR hT.out.1 hT.out.2.1 hT.out.2.2.2.2.1 hT.out.2.2.2.2.2]
  exact xU hE.out.1 _ _
 by_cases h0:bM q z' y'=0
 ·have a0:Hid (∀W,Gr w5 W->O Tryz.prog 171 #[J (some ⟨V,o,none⟩),I C L.length r,I C2 L2.length k2] W fun e w'=>∃(n:Nat) (C:Option S) (k:Nat) (a':List Itm) (A':Option S) (ao:Nat) (b':List Itm) (B':Option S) (ap:Nat),e= .returned (Z #[I C n k,H .i64 0])/\a'.map Itm.z=bw (a.map Itm.z) (L.map Itm.z)/\b'.map Itm.z=bw (b.map Itm.z) (L2.map Itm.z)/\Vo w' V o (af (af P w.heap.size w5.heap.size) W.heap.size w'.heap.size) q' QA cq a' A' ao b' B' ap/\Wr V (o+1) (o+3) W w'):=fun W hg=>Bw W V o (af P w.heap.size w5.heap.size) q' QA cq a A ca b B cb (g.out.1.vo.gr hg) (fun k=>k.elim hP.out.1 fun k=>by have:=g.out.2.2.2;omega) L L2 C C2 r k2 (g.out.1.lx.lv.gr hg) (g.out.1.ly.lv.gr hg) (by rw[hF.out];exact h0)
  have a5:=ja1 h0
  clear h0
  go_wp2
  go_region_with (go_at_call 171;refine cM (a0.out _ (gR w5).drew) ?_;rintro e w6 ⟨r1,r2,r3,a',A',ao,b',B',ap,rfl,f1,f2,f3,f4⟩;have f:Hid (a'.map Itm.z=bw (a.map Itm.z) (L.map Itm.z)/\b'.map Itm.z=bw (b.map Itm.z) (L2.map Itm.z)/\Vm w6 V o (af P w.heap.size w6.heap.size) q' QA cq a' A' ao b' B' ap L C r L2 C2 k2 e0/\Wr V o (o+6) w w6):=AW be.out g.out.1 g.out.2.2.1 g.out.2.2.2 hP.out.1 f1 f2 f3 f4;clear f1 f2 f3 f4;have p0:=f.out.2.2.1.c5;have z0:=f.out.2.2.1.vo.fz (o+5))
  all_goals
   clear p0 z0 a0 c3 c4
   obtain ⟨w7,j⟩:∃W,w6.setCell ⟨V,o+5,none⟩ (H .i64 0)=W:=⟨_,rfl⟩
   rw[j]
   have h7:Hid (Vm w7 V o (af P w.heap.size w7.heap.size) q' QA cq a' A' ao b' B' ap L C r L2 C2 k2 0/\Wr V o (o+6) w w7):=by
    have a8:w7.heap.size=w6.heap.size:=by rw[<-j];simp
    have ah:=g.out.2.2.2
    refine ⟨?_,?_⟩
    ·rw[a8,<-j]
     exact f.out.2.2.1.set5 (fun k=>k.elim hP.out.1 fun k=>by omega) 0
    ·rw[<-j]
     exact f.out.2.2.2.trans (Wr.set _ _ (by omega) (by omega))
   clear j
   have c5:=h7.out.1.c5
   have c3:=h7.out.1.c3
   have c4:=h7.out.1.c4
   have z3:=h7.out.1.vo.fz (o+3)
   have z4:=h7.out.1.vo.fz (o+4)
   go_wp2
   clear c5 c3 c4 z3 z4
   go_end0
   have ah:=g.out.2.2.2
   have ad:¬af P w.heap.size w7.heap.size V:=fun k=>k.elim hP.out.1 fun k=>by omega
   have h8:=(h7.out.1.set3 ad (LvP.none _ _)).set4 ad (LvP.none _ _)
   have ez:a'.map Itm.z=z':=by rw[f.out.1,hE.out.2.1,a7.out];exact (gh hT.out.1 hT.out.2.2.2.2.1).2
   have ey:b'.map Itm.z=y':=by rw[f.out.2.1,hE.out.2.2.1,g.out.2.1];exact (gh hT.out.2.1 hT.out.2.2.2.2.2).2
   refine ⟨rfl,⟨z',y',⟨q',QA,cq,a',A',ao,b',B',ap,[],none,0,[],none,0,?_,hE.out.1,ez,ey,by rw[rE];rfl,by rw[rE];rfl⟩,hT.out.2.2.2.2.1,hT.out.2.2.2.2.2,fun _=>⟨rfl,rfl⟩⟩,h7.out.2.trans ((Wr.set _ _ (by omega) (by omega)).trans (Wr.set _ _ (by omega) (by omega)))⟩
   rw[a5.out]
   simpa using h8
 ·have a0:Hid (∀W,Gr w5 W->O Tryz.prog 171 #[J (some ⟨V,o,none⟩),I C L.length r,I C2 L2.length k2] W fun e w'=>∃E,e= .returned (Z #[I none 0 0,H .i64 E])/\E=bM q z' y'/\Below W.heap.size W w'):=fun W hg=>by
   have:=zs W V o (af P w.heap.size w5.heap.size) q' QA cq a A ca b B cb (g.out.1.vo.gr hg) L L2 C C2 r k2 (g.out.1.lx.lv.gr hg) (g.out.1.ly.lv.gr hg) (by rw[hF.out];exact h0)
   rwa [hF.out] at this
  have a5:=ja1 h0
  clear h0
  go_wp2
  go_region_with (go_at_call 171;refine cM (a0.out _ (gR w5).drew) ?_;rintro e w6 ⟨E,rfl,bb,f3⟩;have f:Hid (E=bM q z' y'/\Below w5.heap.size w5 w6):=⟨bb,(gR w5).drew.below.trans f3⟩;clear bb f3;have p0:=(g.out.1.below f.out.2).c5;have z0:=(g.out.1.below f.out.2).vo.fz (o+5))
  all_goals
   clear p0 z0 a0 c3 c4
   have bs:(E==0)=false:=by
    have:=a5.out
    rw[<-f.out.1] at this
    simpa using this
   obtain ⟨w7,j⟩:∃W,w6.setCell ⟨V,o+5,none⟩ (H .i64 E)=W:=⟨_,rfl⟩
   rw[j]
   have h7:Hid (Vm w7 V o (af P w.heap.size w7.heap.size) q' QA cq a A ca b B cb L C r L2 C2 k2 E/\Wr V o (o+6) w w7):=by
    have a8:w7.heap.size=w6.heap.size:=by rw[<-j];simp
    have ah:=g.out.2.2.2
    have a3:=g.out.2.2.1.size
    refine ⟨?_,?_⟩
    ·rw[a8,<-j]
     exact ((g.out.1.below f.out.2).mono (af.more (nR _) f.out.2.size)).set5 (fun k=>k.elim hP.out.1 fun k=>by omega) E
    ·rw[<-j]
     exact g.out.2.2.1.trans ((Wr.of f.out.2 (by omega)).trans (Wr.set _ _ (by omega) (by omega)))
   clear j
   have c5:=h7.out.1.c5
   go_wp2
   clear c5
   go_end0
   refine ⟨rfl,⟨k,l,⟨q',QA,cq,a,A,ca,b,B,cb,L,C,r,L2,C2,k2,?_,hE.out.1,hE.out.2.1,hE.out.2.2.1,a7.out,g.out.2.1⟩,hT.out.1,hT.out.2.1,fun h=>absurd h a5.out⟩,h7.out.2⟩
   rw[<-f.out.1]
   exact h7.out.1
end Go.Proofs.YtjmmpnmgpgaagaaGreatDoor
