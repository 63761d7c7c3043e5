import Derived.Test.YtkefkplnamkicabGreatDoorM22
import Derived.Test.YtkefkplnamkicabGreatDoorM23
import Derived.Deep.MidRow
import Derived.Deep.CutRange
set_option maxRecDepth 100000
set_option maxHeartbeats 8000000
open Go.Ending renaming returned → R
open Go.IntKind renaming i64 → I
open Go.Obj renaming cells → f
open Go.Proofs.Tryz renaming prog → H
open Go.Value renaming int → J, slice → Z, pointer → r, agg → d, tuple → n
namespace Go.Proofs.YtkefkplnamkicabGreatDoor
open Go.RowKit Go.Sort

theorem yq {w:World} {N O:Nat} {P:Nat→Prop} {id:Int} {s t:Tab} {qs:List (List Stp)} (h:Nd w N O P id s t qs) (k x2 x3 x4 x5:Int) :
  Calls H 35 #[r (some ⟨N,O,none⟩),d #[J I k,J I x2,J I x3,J I x4,J I x5]] w fun e w'=>e= R (J I (ndE s t id k x2 x3 x4 x5))∧Nd w' N O (ag P w.heap.size w'.heap.size) id (ndS s id k x2 x3 x4 x5) (ndT t id k x2 x3 x4 x5) qs∧Wr N (O+1) (O+37) w w':=by
 by_cases h0:x2=0
 ·subst h0
  exact wP h k x3 x4 x5
 ·by_cases h1:x2=1
  ·subst h1
   exact wQ h k x3 x4 x5
  ·have e1:ndE s t id k x2 x3 x4 x5=1:=by unfold ndE;rw[if_neg h0,if_neg h1]
   have e2:ndS s id k x2 x3 x4 x5=s:=by unfold ndS;rw[if_neg h0]
   have e3:ndT t id k x2 x3 x4 x5=t:=by unfold ndT;rw[if_neg h1]
   rw[e1,e2,e3]
   have hH:Hid (Nd w N O P id s t qs):=h
   clear h e1 e2 e3
   have hg:Hid (Gr w (w.alloc (f #[J I k,J I x2,J I x3,J I x4,J I x5] 30))):=(gR w).alloc _
   have hfin:Hid (Nd (w.alloc (f #[J I k,J I x2,J I x3,J I x4,J I x5] 30)) N O (ag P w.heap.size (w.alloc (f #[J I k,J I x2,J I x3,J I x4,J I x5] 30)).heap.size) id s t qs∧Wr N (O+1) (O+37) w (w.alloc (f #[J I k,J I x2,J I x3,J I x4,J I x5] 30))):=by
    have hn:=hH.out.below hg.out.below
    exact ⟨hn.mono (fun b hb=>ag.old b hb) (cX hH.out.out hH.out.blk.lt) (eN fun b hb=>hn.up b hb),Wr.of hg.out.below hH.out.blk.lt⟩
   by_cases h2:x2<0
   ·go_enter Tryz.func35,Tryz.ntmps35
    go_wp2
    go_ret
    exact ⟨rfl,hfin.out⟩
   ·have h3:2≤x2:=by omega
    go_enter Tryz.func35,Tryz.ntmps35
    go_wp2
    go_ret
    exact ⟨rfl,hfin.out⟩

def bk (w:World) (B:Nat) (P:Nat→Prop) (w':World) (M:NetM) (Q:Nat→List (List Stp)):Prop:=(∃P',NetP w' B P' M Q∧∀b,P' b→P b∨w.heap.size≤b)∧Wr B 0 153 w w'
section
variable {w w1 w':World} {B:Nat} {P:Nat→Prop} {M M':NetM} {Q Q':Nat→List (List Stp)}
theorem bk.same (h:NetP w B P M Q) (k:Below w.heap.size w w'):bk w B P w' M Q:=⟨⟨P,h.below k,fun _ h=>oL h⟩,Wr.of k h.lt⟩
theorem bk.ahead (k:Below w.heap.size w w1) (hB:B<w.heap.size) (h:bk w1 B P w' M Q):bk w B P w' M Q:=by
 obtain ⟨⟨P',h1,h2⟩,h3⟩:=h
 exact ⟨⟨P',h1,fun b hb=>(h2 b hb).imp id fun h=>nT k.size h⟩,(Wr.of k hB).trans h3⟩
theorem bk.behind (h:bk w B P w1 M Q) (k:Below w1.heap.size w1 w'):bk w B P w' M Q:=by
 obtain ⟨⟨P',h1,h2⟩,h3⟩:=h
 exact ⟨⟨P',h1.below k,h2⟩,h3.trans (Wr.of k h1.lt)⟩
theorem bk.then (h:bk w B P w1 M Q) (k:∀P',NetP w1 B P' M Q→bk w1 B P' w' M' Q'):bk w B P w' M' Q':=by
 obtain ⟨⟨P',h1,h2⟩,h3⟩:=h
 obtain ⟨⟨P2,k1,k2⟩,k3⟩:=k P' h1
 exact ⟨⟨P2,k1,fun b hb=>(k2 b hb).elim (h2 b) fun h=>oR (nT h3.size h)⟩,h3.trans k3⟩
theorem NetP.call (h:NetP w B P M Q) {i lo hi:Nat} (hi4:i<4) {s t:Tab} {qs:List (List Stp)} (f1:Nd w' B (i*38) (ag P w.heap.size w'.heap.size) i s t qs) (f2:Wr B (i*38+lo) (i*38+hi) w w') (hh:hi≤38):bk w B P w' ⟨upd M.s i s,upd M.t i t,M.pk⟩ (mr Q i qs) :=
 have k:=h.wrote hi4 f1 f2 hh
 ⟨⟨_,k.1,fun _ hb=>hb.imp id fun h=>h.1⟩,k.2⟩
end
theorem df (i:Nat) (hi:i<4) (w:World):Calls H 25 #[J I i] w fun e w'=>e= R (.bool true)∧w'=w:=by
 have h0:(0:Int)≤(i:Int):=by omega
 have h4:(i:Int)<4:=by omega
 go_enter Tryz.func25,Tryz.ntmps25
 go_wp2
 go_ret
 exact ⟨rfl,rfl⟩
theorem i8 (a:Int) (h:¬isN a) (w:World):Calls H 25 #[J I a] w fun e w'=>e= R (.bool false)∧w'=w:=by
 by_cases h0:0≤a
 ·have h4:¬a<4:=fun k=>h ⟨h0,k⟩
  go_enter Tryz.func25,Tryz.ntmps25
  go_wp2
  go_ret
  exact ⟨rfl,rfl⟩
 ·go_enter Tryz.func25,Tryz.ntmps25
  go_wp2
  go_ret
  exact ⟨rfl,rfl⟩
theorem jj {a:Int} (h:isN a):∃i:Nat,a=i∧i<4:=⟨a.toNat,by have:=h.1;omega,by have:=h.1;have:=h.2;omega⟩
theorem wS {w:World} {B:Nat} {P:Nat→Prop} {M:NetM} {Q:Nat→List (List Stp)} (h:NetP w B P M Q) (a k x2 x3 x4 x5:Int) (ha:¬isN a) :
  Calls H 21 #[r (some ⟨B,0,none⟩),J I a,d #[J I k,J I x2,J I x3,J I x4,J I x5]] w fun e w'=>e= R (J I 4)∧bk w B P w' M Q:=by
 have hH:Hid (bk w B P (w.alloc (f #[J I k,J I x2,J I x3,J I x4,J I x5] 30)) M Q):=bk.same h ((gR w).alloc _).below
 have hN:Hid (∀W,Calls H 25 #[J I a] W fun e w'=>e= R (.bool false)∧w'=W):=i8 a ha
 clear h ha
 go_enter Tryz.func21,Tryz.ntmps21
 go_wp2_with fail
 refine cM (hN.out _) ?_
 rintro e w1 ⟨rfl,rfl⟩
 go_wp2
 go_ret
 exact ⟨rfl,hH.out⟩
theorem uv {w:World} {B:Nat} {P:Nat→Prop} {M:NetM} {Q:Nat→List (List Stp)} (h:NetP w B P M Q) (i:Nat) (hi:i<4) (k x2 x3 x4 x5:Int) :
  Calls H 21 #[r (some ⟨B,0,none⟩),J I i,d #[J I k,J I x2,J I x3,J I x4,J I x5]] w fun e w'=>e= R (J I (ndE (M.s i) (M.t i) i k x2 x3 x4 x5))∧bk w B P w' ⟨upd M.s i (ndS (M.s i) i k x2 x3 x4 x5),upd M.t i (ndT (M.t i) i k x2 x3 x4 x5),M.pk⟩ Q:=by
 have mixed:Tryz.prog.follows .mixedOrders=true:=by kernel_rfl
 obtain ⟨w1,hw1⟩:∃W,w.alloc (f #[J I k,J I x2,J I x3,J I x4,J I x5] 30)=W:=⟨_,rfl⟩
 have hg1:Gr w w1:=by rw[←hw1];exact (gR w).alloc _
 have hBx:Cls w1 w.heap.size [J I k,J I x2,J I x3,J I x4,J I x5]:=by rw[←hw1];exact Cls.new w _ _
 obtain ⟨b0,b1,b2,b3,b4⟩:=ud hBx
 have hi4:(i:Int)<4:=by omega
 have hH:Hid (NetP w B P M Q∧Gr w w1∧i<4):=⟨h,hg1,hi⟩
 obtain ⟨E,hE⟩:∃E,ndE (M.s i) (M.t i) i k x2 x3 x4 x5=E:=⟨_,rfl⟩
 have hN:Hid (∀W,Calls H 25 #[J I i] W fun e w'=>e= R (.bool true)∧w'=W):=df i hi
 have hD:Hid (∀W,Gr w1 W→Calls H 35 #[r (some ⟨B,i*38,none⟩),d #[J I k,J I x2,J I x3,J I x4,J I x5]] W fun e w'=>e= R (J I E)∧bk w B P w' ⟨upd M.s i (ndS (M.s i) i k x2 x3 x4 x5),upd M.t i (ndT (M.t i) i k x2 x3 x4 x5),M.pk⟩ Q):=fun W hW=>by
  have hgW:=hg1.trans hW
  have hn:=h.below hgW.below
  have hd:=yq (hn.nd i hi) k x2 x3 x4 x5
  rw[hE] at hd
  refine hd.mono ?_
  rintro e w' ⟨rfl,f1,f2⟩
  refine ⟨rfl,bk.ahead hgW.below h.lt ?_⟩
  have hc:=hn.call hi f1 f2 (by omega)
  rw[jV] at hc
  exact hc
 rw[hE]
 clear h hg1 hBx hE
 go_enter Tryz.func21,Tryz.ntmps21
 go_wp2_with fail
 try rw[hw1]
 clear hw1
 refine cM (hN.out _) ?_
 rintro e w2 ⟨rfl,rfl⟩
 go_wp2
 go_region_with (go_at_call 35;refine cM (hD.out _ (gR _).drew) ?_;rintro e w3 ⟨rfl,f1⟩;have hF:Hid _:=f1;clear f1)
 all_goals
  go_wp2
  go_ret
  exact ⟨rfl,hF.out⟩


def wtE (q:List Stp) (qs:List (List Stp)):Int:=if bX q=0 then (if qs.length=4 then 2 else 0) else bX q
def wtQ (q:List Stp) (qs:List (List Stp)):List (List Stp):=if wtE q qs=0 then qs++[q] else qs
theorem VwN.move {w w':World} {V o N o':Nat} {P:Nat→Prop} {q:List Stp} {z y:List Zit} (h:VwN w V o P q z y) (hA:Agr P w w') (hl:N<w'.heap.size) (hf:∀j,w'.frozen? ⟨N,j,none⟩=false) (hc:∀j,j<6→w'.cell? ⟨N,o'+j,none⟩=w.cell? ⟨V,o+j,none⟩):VwN w' N o' P q z y:=by
 obtain ⟨k,l,⟨q',QA,cq,a,A,ca,b,B,cb,x,X,cx,u,U,cu,h1,h2⟩,h3⟩:=h
 exact ⟨k,l,⟨q',QA,cq,a,A,ca,b,B,cb,x,X,cx,u,U,cu,⟨⟨hl,hf,(hc 0 (by omega)).trans h1.vo.c0,(hc 1 (by omega)).trans h1.vo.c1,(hc 2 (by omega)).trans h1.vo.c2,h1.vo.st.agr hA,h1.vo.len,h1.vo.la.agr hA,h1.vo.lb.agr hA⟩,(hc 3 (by omega)).trans h1.c3,(hc 4 (by omega)).trans h1.c4,(hc 5 (by omega)).trans h1.c5,h1.lx.agr hA,h1.ly.agr hA⟩,h2⟩,h3⟩
theorem Nd.more {w w':World} {N O:Nat} {P P':Nat→Prop} {id:Int} {s t:Tab} {qs:List (List Stp)} {q:List Stp} (h:Nd w N O P id s t qs) (h4:qs.length<4) (hPP:∀b,P b→P' b) (hN:¬P' N) (hup:∀b,P' b→b<w'.heap.size) (hW:Wr N (O+13+qs.length*6) (O+38) w w') (hv:VwN w' N (O+13+qs.length*6) P' q (ofR s) (ofR t)) (hn:w'.cell? ⟨N,O+37,none⟩=some (J I ((qs.length:Int)+1))):Nd w' N O P' id s t (qs++[q]):=by
 have hb:=hW.blo h.blk
 have hA:Agr P w w':=hW.agr fun k=>hN (hPP _ k)
 have hc:∀j,j<O+13+qs.length*6→w'.cell? ⟨N,j,none⟩=w.cell? ⟨N,j,none⟩:=fun j hj=>hW.celo h.blk (oL hj)
 refine ⟨hb,hN,hup,(hc O (by omega)).trans h.cid,(h.ts.keep hA fun j _ _=>hc j (by omega)).mono hPP,(h.tt.keep hA fun j _ _=>hc j (by omega)).mono hPP,by rw[hn];simp,by simp;omega,fun j hj=> ?_⟩
 rw[List.length_append,List.length_singleton] at hj
 rw[if_pos (by omega),if_pos (by omega)]
 by_cases e:j=qs.length
 ·subst e
  rw[List.getElem_append_right (Nat.le_refl _)]
  simpa using hv
 ·rw[List.getElem_append_left (by omega)]
  exact ((h.view (by omega)).keep hA hb.lt hb.fz fun i h1 h2=>hc i (by omega)).mono hPP
theorem tL {w:World} {N O:Nat} {P:Nat→Prop} {id:Int} {s t:Tab} {qs:List (List Stp)} (h:Nd w N O P id s t qs) (q:List Stp) (QA:Option Addr) (cq:Nat) (hl:q.length≤maxLen) (hq:Stps w QA q) :
  Calls H 39 #[r (some ⟨N,O,none⟩),Z QA q.length cq] w fun e w'=>e= R (J I (wtE q qs))∧Nd w' N O (ag P w.heap.size w'.heap.size) id s t (wtQ q qs)∧Wr N (O+13) (O+38) w w':=by
 have mixed:Tryz.prog.follows .mixedOrders=true:=by kernel_rfl
 obtain ⟨A,ca,C,cc,hcs,hts⟩:=h.ts
 obtain ⟨B,cb,D,cd,hct,htt⟩:=h.tt
 have hH:Hid (Nd w N O P id s t qs∧w.cell? ⟨N,O+37,none⟩=some (J I (qs.length:Int))∧TbC w N (O+1) s A ca C cc∧TbC w N (O+7) t B cb D cd∧TbP P w s A ca C cc∧TbP P w t B cb D cd∧N<w.heap.size∧qs.length≤4):=⟨h,h.cnt,hcs,hct,hts,htt,h.blk.lt,h.le⟩
 have hold:Hid (∀W,Below w.heap.size w W→Nd W N O (ag P w.heap.size W.heap.size) id s t qs∧Wr N (O+13) (O+38) w W):=fun W hW=>by
  have hn:=hH.out.1.below hW
  exact ⟨hn.mono (fun b hb=>ag.old b hb) (cX hH.out.1.out hH.out.1.blk.lt) (eN fun b hb=>hn.up b hb),Wr.of hW hH.out.1.blk.lt⟩
 clear h hcs hct hts htt
 by_cases he:bX q=0
 rotate_left
 ·have hC0:=xp q QA cq w hl hq he
  obtain ⟨E,hE⟩:∃E,bX q=E:=⟨_,rfl⟩
  have hfin:Hid (wtE q qs=E∧wtQ q qs=qs):=by
   have h1:wtE q qs=bX q:=by unfold wtE;rw[if_neg he]
   exact ⟨h1.trans hE,by unfold wtQ;rw[h1,if_neg he]⟩
  rw[hE] at hC0 he
  have hE0:(E != 0)=true:=by simpa using he
  have hC:Hid _:=hC0
  clear hC0 hq hl he hE
  go_enter Tryz.func39,Tryz.ntmps39
  go_wp2_with fail
  refine cM (show Calls _ _ _ _ _ from hC.out) ?_
  rintro e w1 ⟨rfl,hb1⟩
  have hbH:Hid (Below w.heap.size w w1):=hb1
  clear hb1 hC
  go_wp2
  go_ret
  refine ⟨by rw[hfin.out.1];rfl,?_⟩
  rw[hfin.out.2]
  exact hold.out w1 hbH.out
 have hC0:=yD q QA cq w hl hq he
 have hC:Hid _:=hC0
 have heH:Hid (bX q=0):=he
 clear hC0 hq hl he
 go_enter Tryz.func39,Tryz.ntmps39
 go_wp2_with fail
 refine cM (show Calls _ _ _ _ _ from hC.out) ?_
 rintro e w1 ⟨V,q',QB,cr,rfl,f1,f2,f3,f4⟩
 have hV:Hid (q'.map bare=q.map bare∧Vo w1 V 0 (fun b=>w.heap.size≤b∧b<V) q' QB cr [] none 0 [] none 0∧w.heap.size≤V∧Below w.heap.size w w1):=⟨f1,f2,f3,f4⟩
 clear f1 f2 f3 f4 hC
 have c37:=(hV.out.2.2.2.cell (p:=⟨N,O+37,none⟩) hH.out.2.2.2.2.2.2.1).trans hH.out.2.1
 by_cases h4:qs.length=4
 ·have h4z:((qs.length:Int)==4)=true:=by simp;omega
  have hfin:Hid (wtE q qs=2∧wtQ q qs=qs):=by
   have h1:wtE q qs=2:=by unfold wtE;rw[if_pos heH.out,if_pos h4]
   exact ⟨h1,by unfold wtQ;rw[h1,if_neg (by decide)]⟩
  clear h4
  go_wp2
  go_ret
  refine ⟨by rw[hfin.out.1];rfl,?_⟩
  rw[hfin.out.2]
  exact hold.out w1 hV.out.2.2.2
 have h4z:((qs.length:Int)==4)=false:=by simp;omega
 have h4H:Hid (qs.length<4):=by have:=hH.out.2.2.2.2.2.2.2;show _<_;omega
 have hfin:Hid (wtE q qs=0∧wtQ q qs=qs++[q]):=by
  have h1:wtE q qs=0:=by unfold wtE;rw[if_pos heH.out,if_neg h4]
  exact ⟨h1,by unfold wtQ;rw[h1,if_pos rfl]⟩
 clear h4
 have v0:=hV.out.2.1.c0
 have v1:=hV.out.2.1.c1
 have v2:=hV.out.2.1.c2
 go_upto_region 7 with fail
 obtain ⟨w2,hw2⟩:∃W,w1.alloc (f #[Z QB q'.length cr,Z none 0 0,Z none 0 0,Z none 0 0,Z none 0 0,J I 0] 73)=W:=⟨_,rfl⟩
 rw[hw2]
 have h2:Hid (Cls w2 w1.heap.size [Z QB q'.length cr,Z none 0 0,Z none 0 0,Z none 0 0,Z none 0 0,J I 0]∧Gr w1 w2∧Below w.heap.size w w2∧Blk w2 w1.heap.size 73 6):=by
  have hg:Gr w1 w2:=by rw[←hw2];exact (gR _).alloc _
  exact ⟨by rw[←hw2];exact Cls.new w1 _ _,hg,hV.out.2.2.2.trans (hg.below.mono hV.out.2.2.2.size),by rw[←hw2];exact ⟨_,(MapKept.heap_alloc _ _).1,rfl⟩⟩
 clear hw2 c37 v0 v1 v2
 have hlt:=hH.out.2.2.2.2.2.2.1
 have n1:=(h2.out.2.2.1.cell (p:=⟨N,O+1,none⟩) hlt).trans hH.out.2.2.1.k0
 have n2:=(h2.out.2.2.1.cell (p:=⟨N,O+2,none⟩) hlt).trans hH.out.2.2.1.k1
 have n3:=(h2.out.2.2.1.cell (p:=⟨N,O+3,none⟩) hlt).trans hH.out.2.2.1.k2
 have n4:=(h2.out.2.2.1.cell (p:=⟨N,O+4,none⟩) hlt).trans hH.out.2.2.1.k3
 have n5:=(h2.out.2.2.1.cell (p:=⟨N,O+5,none⟩) hlt).trans hH.out.2.2.1.k4
 have n6:=(h2.out.2.2.1.cell (p:=⟨N,O+6,none⟩) hlt).trans hH.out.2.2.1.k5
 have n7:=(h2.out.2.2.1.cell (p:=⟨N,O+7,none⟩) hlt).trans hH.out.2.2.2.1.k0
 have n8:=(h2.out.2.2.1.cell (p:=⟨N,O+8,none⟩) hlt).trans hH.out.2.2.2.1.k1
 have n9:=(h2.out.2.2.1.cell (p:=⟨N,O+9,none⟩) hlt).trans hH.out.2.2.2.1.k2
 have n10:=(h2.out.2.2.1.cell (p:=⟨N,O+10,none⟩) hlt).trans hH.out.2.2.2.1.k3
 have n11:=(h2.out.2.2.1.cell (p:=⟨N,O+11,none⟩) hlt).trans hH.out.2.2.2.1.k4
 have n12:=(h2.out.2.2.1.cell (p:=⟨N,O+12,none⟩) hlt).trans hH.out.2.2.2.1.k5
 have hS0:=iV s t A B C D ca cb cc cd w2 (hH.out.2.2.2.2.1.below h2.out.2.2.1) (hH.out.2.2.2.2.2.1.below h2.out.2.2.1)
 have hS:Hid _:=hS0
 clear hS0 hlt
 go_wp2_with fail
 clear n1 n2 n3 n4 n5 n6 n7 n8 n9 n10 n11 n12
 refine cM (show Calls _ _ _ _ _ from hS.out) ?_
 rintro e w3 ⟨L,M,X,Y,lk,mk,rfl,f1,f2,f3,f4,f5⟩
 have h3:Hid (L.map Itm.z=ofR s∧M.map Itm.z=ofR t∧LvP (fun b=>w2.heap.size≤b∧b<w3.heap.size) w3 X lk L∧LvP (fun b=>w2.heap.size≤b∧b<w3.heap.size) w3 Y mk M∧Below w2.heap.size w2 w3):=⟨f1,f2,f3,f4,f5⟩
 clear f1 f2 f3 f4 f5 hS
 have hVl:Hid (w.heap.size≤V∧V<w1.heap.size∧w1.heap.size<w2.heap.size):=⟨hV.out.2.2.1,hV.out.2.1.lt,h2.out.1.lt⟩
 have hT0:Calls H 57 #[r (some ⟨w1.heap.size,0,none⟩),d #[Z X L.length lk,Z Y M.length mk]] w3 fun e w'=>e= R (n #[])∧VwN w' w1.heap.size 0 (ag (fun b=>w.heap.size≤b∧b<V) w3.heap.size w'.heap.size) q (ofR s) (ofR t)∧Wr w1.heap.size 0 (0+6) w3 w':=by
  have hC3:=h2.out.1.below h3.out.2.2.2.2
  have hb13:=h2.out.2.1.below.trans (h3.out.2.2.2.2.mono h2.out.2.1.size)
  have ts:=TS.of hH.out.2.2.2.2.1.ok
  have tt:=TS.of hH.out.2.2.2.2.2.1.ok
  have hvl:=hVl.out
  refine pR (h2.out.2.2.2.below h3.out.2.2.2.2) (fun h=>by omega) (fun h=>by omega) (k:=[]) (l:=[]) (z:=[]) (y:=[]) (e0:=0) ⟨q',QB,cr,[],none,0,[],none,0,[],none,0,[],none,0,⟨⟨hC3.lt,hC3.fz,hC3.cell rfl,hC3.cell rfl,hC3.cell rfl,hV.out.2.1.st.below hb13,hV.out.2.1.len,LvP.none _ _,LvP.none _ _⟩,hC3.cell rfl,hC3.cell rfl,hC3.cell rfl,LvP.none _ _,LvP.none _ _⟩,hV.out.1,rfl,rfl,rfl,rfl⟩ TS.nil TS.nil TS.nil TS.nil ts tt h3.out.2.2.1 h3.out.2.2.2.1 (by rw[h3.out.1,oD ts.ok]) (by rw[h3.out.2.1,oD tt.ok])
 have hT:Hid _:=hT0
 clear hT0
 go_wp2_with fail
 refine cM (show Calls _ _ _ _ _ from hT.out) ?_
 rintro e w4 ⟨rfl,f1,f2⟩
 obtain ⟨kk,ll,⟨q2,QC,cq2,a,PA,pca,b,PB,pcb,x,PX,pcx,u,PU,pcu,g1,g2⟩,g3⟩:=f1
 have h4:Hid (VwN w4 w1.heap.size 0 (ag (fun b=>w.heap.size≤b∧b<V) w3.heap.size w4.heap.size) q (ofR s) (ofR t)∧Wr w1.heap.size 0 (0+6) w3 w4):=⟨⟨kk,ll,⟨q2,QC,cq2,a,PA,pca,b,PB,pcb,x,PX,pcx,u,PU,pcu,g1,g2⟩,g3⟩,f2⟩
 have c0:=g1.vo.c0
 have c1:=g1.vo.c1
 have c2:=g1.vo.c2
 have c3:=g1.c3
 have c4:=g1.c4
 have c5:=g1.c5
 have hbw:Hid (Below w.heap.size w w4∧Nd w4 N O P id s t qs∧N<w.heap.size):=by
  have hb:=h2.out.2.2.1.trans (h3.out.2.2.2.2.mono h2.out.2.2.1.size)
  have hvl:=hVl.out
  have hb4:Below w.heap.size w w4:=⟨f2.os.trans hb.os,f2.tape.trans hb.tape,f2.output.trans hb.output,nT hb.size f2.size,fun g hg=>(f2.oth g (nL hg hb.size) (by omega)).trans (hb.block g hg)⟩
  exact ⟨hb4,hH.out.1.below hb4,hH.out.2.2.2.2.2.2.1⟩
 clear f2 g1 g2 g3 hT
 have c37:=hbw.out.2.1.cnt
 have hb4:=hbw.out.2.1.blk
 obtain ⟨j,hj⟩:∃j,qs.length=j:=⟨_,rfl⟩
 have hjH:Hid (qs.length=j):=hj
 rw[hj] at c37
 have hj4:(j:Int)<4:=by have:=h4H.out;omega
 have hj4n:j<4:=by have:=h4H.out;omega
 obtain ⟨ov0,o0⟩:=hb4.some (j:=O+13+j*6) (by omega)
 have zz0:=hb4.fz (O+13+j*6)
 obtain ⟨ov1,o1⟩:=hb4.some (j:=O+13+j*6+1) (by omega)
 have zz1:=hb4.fz (O+13+j*6+1)
 obtain ⟨ov2,o2⟩:=hb4.some (j:=O+13+j*6+2) (by omega)
 have zz2:=hb4.fz (O+13+j*6+2)
 obtain ⟨ov3,o3⟩:=hb4.some (j:=O+13+j*6+3) (by omega)
 have zz3:=hb4.fz (O+13+j*6+3)
 obtain ⟨ov4,o4⟩:=hb4.some (j:=O+13+j*6+4) (by omega)
 have zz4:=hb4.fz (O+13+j*6+4)
 obtain ⟨ov5,o5⟩:=hb4.some (j:=O+13+j*6+5) (by omega)
 have zz5:=hb4.fz (O+13+j*6+5)
 have z37:=hb4.fz (O+37)
 have hbl:Hid (Blo w4 N O):=hb4
 clear hj hb4
 go_wp2
 go_region
 all_goals
  obtain ⟨w5,hw5⟩:∃W,((((((w4.setCell ⟨N,O+13+j*6,none⟩ (Z QC q2.length cq2)).setCell ⟨N,O+13+j*6+1,none⟩ (Z PA a.length pca)).setCell ⟨N,O+13+j*6+2,none⟩ (Z PB b.length pcb)).setCell ⟨N,O+13+j*6+3,none⟩ (Z PX x.length pcx)).setCell ⟨N,O+13+j*6+4,none⟩ (Z PU u.length pcu)).setCell ⟨N,O+13+j*6+5,none⟩ (J I (cL q (ofR s) (ofR t))))=W:=⟨_,rfl⟩
  rw[hw5]
  have h5:Hid (Wr N (O+13+j*6) (O+13+j*6+6) w4 w5∧(∀i v,[Z QC q2.length cq2,Z PA a.length pca,Z PB b.length pcb,Z PX x.length pcx,Z PU u.length pcu,J I (cL q (ofR s) (ofR t))][i]? = some v→w5.cell? ⟨N,O+13+j*6+i,none⟩=some v)∧w5.heap.size=w4.heap.size):=by
   have hw5':eW N w4 (O+13+j*6) [Z QC q2.length cq2,Z PA a.length pca,Z PB b.length pcb,Z PX x.length pcx,Z PU u.length pcu,J I (cL q (ofR s) (ofR t))]=w5:=hw5
   refine ⟨by rw[←hw5'];exact fJ N _ w4 _ _ _ (nR _) (nR _),fun i v hv=> ?_,by rw[←hw5'];exact fm _ _ _ _⟩
   rw[←hw5']
   obtain ⟨T0,n0,hb0,hn0⟩:=hbl.out
   exact fl _ w4 _ hb0 (by show O+13+j*6+6≤n0;omega) i v hv
  clear hw5 o0 zz0 o1 zz1 o2 zz2 o3 zz3 o4 zz4 o5 zz5
  have d37:=(h5.out.1.celo hbl.out (j:=O+37) (oR (by omega))).trans c37
  have y37:=(h5.out.1.blo hbl.out).fz (O+37)
  go_wp2
  go_ret
  have h6:Nd (w5.setCell ⟨N,O+37,none⟩ (J I ((j:Int)+1))) N O (ag P w.heap.size (w5.setCell ⟨N,O+37,none⟩ (J I ((j:Int)+1))).heap.size) id s t (qs++[q]):=by
   have hj:=hjH.out
   have hsz:=h5.out.2.2
   have hvl:=hVl.out
   have hNw:=hbw.out.2.2
   have hs4:=h4.out.2.size
   have hs3:=h3.out.2.2.2.2.size
   have hwN:Wr N (O+13+qs.length*6) (O+38) w4 (w5.setCell ⟨N,O+37,none⟩ (J I ((j:Int)+1))):=by
    rw[hj]
    exact (h5.out.1.mono (nR _) (by omega)).trans (Wr.set _ _ (by omega) (by omega))
   have hNP:¬ag P w.heap.size (w5.setCell ⟨N,O+37,none⟩ (J I ((j:Int)+1))).heap.size N:=cX hH.out.1.out hNw
   have hPv:∀b,ag (fun b=>w.heap.size≤b∧b<V) w3.heap.size w4.heap.size b→ag P w.heap.size (w5.setCell ⟨N,O+37,none⟩ (J I ((j:Int)+1))).heap.size b:=fun b hb=>by
    have hz:(w5.setCell ⟨N,O+37,none⟩ (J I ((j:Int)+1))).heap.size=w4.heap.size:=by simp[hsz]
    rw[hz]
    rcases hb with hb|hb
    ·exact oR ⟨hb.1,by omega⟩
    ·exact oR ⟨by omega,hb.2⟩
   refine Nd.more hbw.out.2.1 h4H.out (fun b hb=>ag.old b hb) hNP (eN fun b hb=> ?_) hwN ?_ ?_
   ·have:=hbw.out.2.1.up b hb
    simp[hsz];omega
   ·rw[hj]
    have hb5:=hwN.blo hbw.out.2.1.blk
    refine (h4.out.1.move (w':=w5.setCell ⟨N,O+37,none⟩ (J I ((j:Int)+1))) (N:=N) (o':=O+13+j*6) (hwN.agr fun h=>hNP (hPv _ h)) hb5.lt hb5.fz fun i hi=> ?_).mono hPv
    rw[cD (by omega)]
    match i,hi with
    | 0,_=>exact (h5.out.2.1 0 _ rfl).trans c0.symm
    | 1,_=>exact (h5.out.2.1 1 _ rfl).trans c1.symm
    | 2,_=>exact (h5.out.2.1 2 _ rfl).trans c2.symm
    | 3,_=>exact (h5.out.2.1 3 _ rfl).trans c3.symm
    | 4,_=>exact (h5.out.2.1 4 _ rfl).trans c4.symm
    | 5,_=>exact (h5.out.2.1 5 _ rfl).trans c5.symm
   ·rw[World.cell?_setCell_same _ _ _ d37,hj]
  have h7:Wr N (O+13) (O+38) w (w5.setCell ⟨N,O+37,none⟩ (J I ((j:Int)+1))):=(Wr.of hbw.out.1 hbw.out.2.2).trans ((h5.out.1.mono (by omega) (by omega)).trans (Wr.set _ _ (by omega) (by omega)))
  refine ⟨by rw[hfin.out.1];rfl,?_,h7.trans (Wr.of (gR _).drew.below h6.blk.lt)⟩
  rw[hfin.out.2]
  exact h6.below (gR _).drew.below

def fk (id:Int):List Value:=[J I id,J I 0,J I 0,J I 0,J I 0,Z none 0 0,Z none 0 0,J I 0,J I 0,J I 0,J I 0,Z none 0 0,Z none 0 0,Z none 0 0,Z none 0 0,Z none 0 0,Z none 0 0,Z none 0 0,J I 0,Z none 0 0,Z none 0 0,Z none 0 0,Z none 0 0,Z none 0 0,J I 0,Z none 0 0,Z none 0 0,Z none 0 0,Z none 0 0,Z none 0 0,J I 0,Z none 0 0,Z none 0 0,Z none 0 0,Z none 0 0,Z none 0 0,J I 0,J I 0]
theorem sW (id:Int):∀u∈fk id,u.oneCell'=true:=by
 intro u hu
 have h:(fk id).all (·.oneCell')=true:=rfl
 exact List.all_eq_true.1 h u hu
theorem jv (b:Nat):∀(l:List Value) (o:Nat) (w:World),w.setCells b o l=eW b w o l
 | [],_,_=>rfl
 | _::l,o,_=>jv b l (o+1) _
theorem Nd.zero {w:World} {N O:Nat} {id:Int} (hb:Blo w N O) (hc:∀j v,(fk id)[j]? = some v→w.cell? ⟨N,O+j,none⟩=some v):Nd w N O (fun _=>False) id dy dy []:=by
 have ht:TbP (fun _=>False) w dy none 0 none 0:=⟨oL rfl,oL rfl,fun _ h=>(by cases h),fun _ h=>(by cases h),fun _=>rfl,fun _=>rfl,pU⟩
 exact ⟨hb,fun h=>h,fun _ h=>h.elim,hc 0 _ rfl,⟨none,0,none,0,⟨hc 1 _ rfl,hc 2 _ rfl,hc 3 _ rfl,hc 4 _ rfl,hc 5 _ rfl,hc 6 _ rfl⟩,ht⟩,⟨none,0,none,0,⟨hc 7 _ rfl,hc 8 _ rfl,hc 9 _ rfl,hc 10 _ rfl,hc 11 _ rfl,hc 12 _ rfl⟩,ht⟩,hc 37 _ rfl,nZ _,fun j hj=>absurd hj (Nat.not_lt_zero _)⟩
theorem vn (w:World) (i:Nat) (hi:i<4):Calls H 29 #[J I i] w fun e w'=>e= R (n #[r (some ⟨w.heap.size,0,none⟩),J I 0])∧Cls w' w.heap.size (fk i)∧Below w.heap.size w w':=by
 have h4:¬(i:Int)<0:=by omega
 have h5:¬(4:Int)≤i:=by omega
 have hfin:Hid (Cls (w.alloc (f (fk i).toArray 76)) w.heap.size (fk i)∧Below w.heap.size w (w.alloc (f (fk i).toArray 76))):=⟨Cls.new w _ _,((gR w).alloc _).below⟩
 clear hi
 go_enter Tryz.func29,Tryz.ntmps29
 go_wp2
 go_ret2
 exact ⟨rfl,hfin.out⟩
theorem lz (w:World):Calls H 17 #[] w fun e w'=>e= R (r (some ⟨w.heap.size,0,none⟩))∧NetP w' w.heap.size (fun _=>False) cW (fun _=>[])∧Below w.heap.size w w':=by
 go_enter Tryz.func17,Tryz.ntmps17
 go_wp2
 go_loopw [5] (fun v5 wr=>∃i:Nat,i≤4∧v5= J I i∧Hid (Blk wr w.heap.size 80 153∧Below w.heap.size w wr∧wr.cell? ⟨w.heap.size,152,none⟩=some (Z none 0 0)∧∀j,j<i→Nd wr w.heap.size (j*38) (fun _=>False) j dy dy [])) (fun v5 _=>4-(intOf v5).toNat)
 case atStart=>exact ⟨0,by omega,rfl,⟨_,(MapKept.heap_alloc _ _).1,rfl⟩,((gR w).alloc _).below,(Cls.new w _ _).cell rfl,fun j hj=>absurd hj (Nat.not_lt_zero _)⟩
 case round =>
  obtain ⟨i,hi,rfl,hI⟩:=hrel
  by_cases hi4:i<4
  rotate_left
  ·have hz:¬(i:Int)<4:=by omega
   obtain rfl:i=4:=by omega
   go_wp2
   go_ret
   exact ⟨rfl,⟨hI.out.1,hI.out.2.2.2,[],none,0,hI.out.2.2.1,oL rfl,fun a h=>(by cases h),fun _=>rfl,nR _,rfl,nZ _,fun p hp=>(by cases hp)⟩,hI.out.2.1⟩
  have hiz:(i:Int)<4:=by omega
  have hC:Hid _:=vn wr i hi4
  go_wp2_with fail
  refine cM (show Calls _ _ _ _ _ from hC.out) ?_
  rintro e w2 ⟨rfl,f1,f2⟩
  have hlt:w.heap.size<wr.heap.size:=hI.out.1.lt
  have hF:Hid (Cls w2 wr.heap.size (fk i)∧Below wr.heap.size wr w2∧Blk w2 w.heap.size 80 153):=⟨f1,f2,hI.out.1.below f2⟩
  have hld:Hid (w2.rangeAt wr.heap.size 0 (fk i)):=fun j v hv=>by rw[Nat.zero_add];exact f1.cell hv
  have hth:Hid (w2.there w.heap.size (i*38) (fk i).toArray.size):=fun j hj=>by
   have hj38:j<38:=hj
   obtain ⟨v,hv⟩:=hF.out.2.2.some (j:=i*38+j) (by omega)
   exact ⟨by rw[hv];rfl,hF.out.2.2.fz _⟩
  have hone:Hid ((fk i).toArray.all (·.oneCell')=true):=all_oneCell_toArray (sW i)
  clear f1 f2 hC
  go_upto_region 7 with (first
   | (with_reducible refine wpList_load_mid rfl 76 (.tmp 15) rfl wr.heap.size 0 rfl (fk i) _ hld.out Tryz.underlying76 rfl (by kernel_rfl) ?_)
   | (with_reducible refine wpList_store_mid rfl 76 (.tmp 18) (.tmp 16) rfl w.heap.size (i*38) (fk i).toArray rfl rfl hth.out (by kernel_rfl) hone.out ?_))
  obtain ⟨w3,hw3⟩:∃W,w2.setCells w.heap.size (i*38) (fk i)=W:=⟨_,rfl⟩
  rw[hw3]
  have hG:Hid (Blk w3 w.heap.size 80 153∧Below w.heap.size w w3∧w3.cell? ⟨w.heap.size,152,none⟩=some (Z none 0 0)∧∀j,j<i+1→Nd w3 w.heap.size (j*38) (fun _=>False) j dy dy []):=by
   rw[jv] at hw3
   have hW:Wr w.heap.size (i*38) (i*38+38) w2 w3:=by rw[←hw3];exact fJ _ _ w2 _ _ _ (nR _) (nR _)
   have hb2:Below w.heap.size w w2:=hI.out.2.1.trans (hF.out.2.1.mono hI.out.2.1.size)
   have hb3:Blk w3 w.heap.size 80 153:=hW.block hF.out.2.2
   refine ⟨hb3,⟨hW.os.trans hb2.os,hW.tape.trans hb2.tape,hW.output.trans hb2.output,nT hb2.size hW.size,fun g hg=>(hW.oth g (nL hg hb2.size) (by omega)).trans (hb2.block g hg)⟩,?_,fun j hj=> ?_⟩
   ·rw[hW.cell hF.out.2.2 (Or.inr (by omega))]
    exact (hF.out.2.1.cell (p:=⟨w.heap.size,152,none⟩) hlt).trans hI.out.2.2.1
   ·by_cases e:j=i
    ·subst e
     refine Nd.zero ⟨_,_,hb3,by omega⟩ fun k v hv=> ?_
     rw[←hw3]
     exact fl _ w2 _ hF.out.2.2 (by show j*38+38≤153;omega) k v hv
    ·exact ((hI.out.2.2.2 j (by omega)).below hF.out.2.1).wr hW (by omega)
  clear hI hF hw3 hld hth hone
  go_wp2
  go_roundw
  case rel=>exact ⟨i+1,by omega,by go_num,hG⟩
  case measure=>simp[intOf];omega
set_option linter.unusedSimpArgs false

def tkE (s t a b:Tab):Int:=if ak s a=0 then ak t b else ak s a
def tkS (s t a b:Tab):Tab:=if tkE s t a b=0 then ac s a else s
def tkT (s t a b:Tab):Tab:=if tkE s t a b=0 then ac t b else t
def TbR (w1 wx:World) (Bm:Nat) (u:Tab):Prop:=∃(E:Option Addr) (ce:Nat) (F:Option Addr) (cf:Nat),Cls wx Bm (T6 u E ce F cf)∧TbW w1.heap.size wx u E ce F cf∧Below w1.heap.size w1 wx∧w1.heap.size≤Bm
theorem jy {w1 w2:World} {u:Tab} {E:Option Addr} {ce:Nat} {F:Option Addr} {cf:Nat} (hB:Cls w2 w1.heap.size Z6) (hT:TbW (w1.heap.size+1) w2 u E ce F cf) (hb:Below w1.heap.size w1 w2) :
  TbR w1 ((((((w2.setCell ⟨w1.heap.size,0,none⟩ (J I u.c.c0)).setCell ⟨w1.heap.size,1,none⟩ (J I u.c.c1)).setCell ⟨w1.heap.size,2,none⟩ (J I u.c.c2)).setCell ⟨w1.heap.size,3,none⟩ (J I u.c.c3)).setCell ⟨w1.heap.size,4,none⟩ (Z E u.c.l.length ce)).setCell ⟨w1.heap.size,5,none⟩ (Z F u.e.length cf)) w1.heap.size u :=
 ⟨E,ce,F,cf,(((((hB.put 0 _).put 1 _).put 2 _).put 3 _).put 4 _).put 5 _,(hT.agr (ju (fun h=>by omega) _ _ _ _ _ _)).mono (by omega),aj hb (nR _) _ _ _ _ _ _,nR _⟩
theorem kI {w1 w2:World} {u:Tab} {E:Option Addr} {ce:Nat} {F:Option Addr} {cf:Nat} {T:TypeId} (hT:TbW w1.heap.size w2 u E ce F cf) (hb:Below w1.heap.size w1 w2) :
  TbR w1 (w2.alloc (f #[J I u.c.c0,J I u.c.c1,J I u.c.c2,J I u.c.c3,Z E u.c.l.length ce,Z F u.e.length cf] T)) w2.heap.size u :=
 ⟨E,ce,F,cf,Cls.new w2 _ T,hT.below ((gR w2).alloc _).below,hb.alloc hb.size _,hb.size⟩

theorem pK {w:World} {N O:Nat} {P:Nat→Prop} {id:Int} {s t:Tab} {qs:List (List Stp)} (h:Nd w N O P id s t qs) (a b:Tab) (PA PB PC PD:Option Addr) (pca pcb pcc pcd:Nat) (ra:Row w PA a.c.l) (rc:bA w PC a.e) (rb:Row w PB b.c.l) (rd:bA w PD b.e) (la:a.c.l.length≤maxLen) (lc:a.e.length≤maxLen) (lb:b.c.l.length≤maxLen) (ld:b.e.length≤maxLen) (na:PA=none→pca=0) (nb:PB=none→pcb=0) :
  Calls H 34 #[r (some ⟨N,O,none⟩),d (T2 a PA pca PC pcc b PB pcb PD pcd).toArray] w fun e w'=>e= R (J I (tkE s t a b))∧Nd w' N O (ag P w.heap.size w'.heap.size) id (tkS s t a b) (tkT s t a b) qs∧Wr N (O+1) (O+37) w w':=by
 have mixed:Tryz.prog.follows .mixedOrders=true:=by kernel_rfl
 have hx0:=oU (J I a.c.c0) (J I a.c.c1) (J I a.c.c2) (J I a.c.c3) (Z PA a.c.l.length pca) (Z PC a.e.length pcc) (J I b.c.c0) (J I b.c.c1) (J I b.c.c2) (J I b.c.c3) (Z PB b.c.l.length pcb) (Z PD b.e.length pcd)
 have hx1:=rH (J I a.c.c0) (J I a.c.c1) (J I a.c.c2) (J I a.c.c3) (Z PA a.c.l.length pca) (Z PC a.e.length pcc) (J I b.c.c0) (J I b.c.c1) (J I b.c.c2) (J I b.c.c3) (Z PB b.c.l.length pcb) (Z PD b.e.length pcd)
 obtain ⟨A,ca,C,cc,hcs,hts⟩:=h.ts
 obtain ⟨B,cb,D,cd,hct,htt⟩:=h.tt
 have hPk:Hid (Row w PA a.c.l∧bA w PC a.e∧Row w PB b.c.l∧bA w PD b.e∧a.c.l.length≤maxLen∧a.e.length≤maxLen∧b.c.l.length≤maxLen∧b.e.length≤maxLen∧(PA=none→pca=0)∧(PB=none→pcb=0)):=⟨ra,rc,rb,rd,la,lc,lb,ld,na,nb⟩
 have hH:Hid (Nd w N O P id s t qs∧TbP P w s A ca C cc∧TbP P w t B cb D cd∧TbC w N (O+1) s A ca C cc∧TbC w N (O+7) t B cb D cd):=⟨h,hts,htt,hcs,hct⟩
 clear h hts htt hcs hct ra rc rb rd la lc lb ld na nb
 go_enter Tryz.func34,Tryz.ntmps34
 go_wp2
 obtain ⟨w1,hw1⟩:∃W,(w.alloc (f #[J I a.c.c0,J I a.c.c1,J I a.c.c2,J I a.c.c3,Z PA a.c.l.length pca,Z PC a.e.length pcc,J I b.c.c0,J I b.c.c1,J I b.c.c2,J I b.c.c3,Z PB b.c.l.length pcb,Z PD b.e.length pcd] 66)).alloc (f #[J I 0,J I 0,J I 0,J I 0,Z none 0 0,Z none 0 0,J I 0,J I 0,J I 0,J I 0,Z none 0 0,Z none 0 0] 64)=W:=⟨_,rfl⟩
 rw[hw1]
 have hI:Hid (Below w.heap.size w w1∧Cls w1 (w.heap.size+1) Z2):=by
  refine ⟨by rw[←hw1];exact (((gR w).alloc _).alloc _).below,?_⟩
  have:=Cls.new (w.alloc (f #[J I a.c.c0,J I a.c.c1,J I a.c.c2,J I a.c.c3,Z PA a.c.l.length pca,Z PC a.e.length pcc,J I b.c.c0,J I b.c.c1,J I b.c.c2,J I b.c.c3,Z PB b.c.l.length pcb,Z PD b.e.length pcd] 66)) #[J I 0,J I 0,J I 0,J I 0,Z none 0 0,Z none 0 0,J I 0,J I 0,J I 0,J I 0,Z none 0 0,Z none 0 0] 64
  rw[hw1,show (w.alloc (f #[J I a.c.c0,J I a.c.c1,J I a.c.c2,J I a.c.c3,Z PA a.c.l.length pca,Z PC a.e.length pcc,J I b.c.c0,J I b.c.c1,J I b.c.c2,J I b.c.c3,Z PB b.c.l.length pcb,Z PD b.e.length pcd] 66)).heap.size=w.heap.size+1 by simp] at this
  exact this
 clear hw1
 have hw1l:Hid (w.heap.size+1<w1.heap.size):=hI.out.2.lt
 refine wp_loop_rounds 3 ?_
 rw[rounds_succ]
 go_upto_region 5 with fail
 obtain ⟨wb0,hwb⟩:∃W,w1.alloc (f #[J I a.c.c0,J I a.c.c1,J I a.c.c2,J I a.c.c3,Z PA a.c.l.length pca,Z PC a.e.length pcc] 42)=W:=⟨_,rfl⟩
 rw[hwb]
 have hA:Hid (Gr w1 wb0∧Below w.heap.size w wb0∧Cls wb0 w1.heap.size (T6 a PA pca PC pcc)∧Cls wb0 (w.heap.size+1) Z2∧N<wb0.heap.size∧TbC wb0 N (O+1) s A ca C cc∧TbC wb0 N (O+7) t B cb D cd):=by
  have hg:Gr w1 wb0:=by rw[←hwb];exact (gR _).alloc _
  have hb:=hI.out.1.trans (hg.below.mono hI.out.1.size)
  have hlt:=hH.out.1.blk.lt
  exact ⟨hg,hb,by rw[←hwb];exact Cls.new w1 _ _,hI.out.2.gr hg,nL hlt hb.size,hH.out.2.2.2.1.keep fun j _ _=>hb.cell (p:=⟨N,j,none⟩) hlt,hH.out.2.2.2.2.keep fun j _ _=>hb.cell (p:=⟨N,j,none⟩) hlt⟩
 clear hwb
 obtain ⟨ME0,hME⟩:∃E,ak s a=E:=⟨_,rfl⟩
 obtain ⟨MT0,hMT⟩:∃E,ac s a=E:=⟨_,rfl⟩
 have hME0:Hid (ak s a=ME0∧ac s a=MT0):=⟨hME,hMT⟩
 have hM:Hid (∀W,Below wb0.heap.size wb0 W→Calls H 48 #[d (T6 s A ca C cc).toArray,d (T6 a PA pca PC pcc).toArray] W fun e w'=>∃E ce F cf,e= R (n #[d (T6 MT0 E ce F cf).toArray,J I ME0])∧TbW W.heap.size w' MT0 E ce F cf∧Below W.heap.size W w'):=fun W hW=>by
  have hb:=hA.out.2.1.trans (hW.mono hA.out.2.1.size)
  have hr5:=hH.out.2.1.below hb
  have hm:=ij s a A PA C PC ca pca cc pcc W hr5.len.1 hPk.out.2.2.2.2.1 hr5.len.2 hPk.out.2.2.2.2.2.1 hr5.nr hPk.out.2.2.2.2.2.2.2.2.1 (hr5.row) (hPk.out.1.below hb) (hr5.cel) (hPk.out.2.1.below hb)
  rw[hME,hMT] at hm
  refine hm.mono ?_
  rintro e w' ⟨E,ce,F,cf,rfl,f1,f2,f3,f4,f5,f6,f7⟩
  exact ⟨E,ce,F,cf,rfl,⟨f1,f2,f3,f4,f5,f6⟩,f7⟩
 clear hME hMT
 go_cut [8,9,12] from 12 to 33 (fun v8 v9 v12 wx=>v9= J I ME0∧v12= J I 0∧∃Bm:Nat,v8= r (some ⟨Bm,0,none⟩)∧TbR wb0 wx Bm MT0)
 case first =>
  have hD0:Hid (Below wb0.heap.size wb0 wb0.drew):=(gR wb0).drew.below
  have hD1:Hid (Below wb0.heap.size wb0 (wb0.alloc (f #[J I 0,J I 0,J I 0,J I 0,Z none 0 0,Z none 0 0] 42)).drew):=((gR wb0).alloc _).drew.below
  have hle0:Hid (wb0.heap.size≤wb0.drew.heap.size):=nR _
  have hle1:Hid (wb0.heap.size+1≤(wb0.alloc (f #[J I 0,J I 0,J I 0,J I 0,Z none 0 0,Z none 0 0] 42)).drew.heap.size):=by show _≤(wb0.alloc _).heap.size;simp
  have hKeep:Hid (∀W,Below wb0.heap.size wb0 W→(fun w'=>w'.cell? ⟨w1.heap.size,0,none⟩=some (J I a.c.c0)∧w'.cell? ⟨w1.heap.size,1,none⟩=some (J I a.c.c1)∧w'.cell? ⟨w1.heap.size,2,none⟩=some (J I a.c.c2)∧w'.cell? ⟨w1.heap.size,3,none⟩=some (J I a.c.c3)∧w'.cell? ⟨w1.heap.size,4,none⟩=some (Z PA a.c.l.length pca)∧w'.cell? ⟨w1.heap.size,5,none⟩=some (Z PC a.e.length pcc)∧w'.cell? ⟨N,O+1,none⟩=some (J I s.c.c0)∧w'.cell? ⟨N,O+2,none⟩=some (J I s.c.c1)∧w'.cell? ⟨N,O+3,none⟩=some (J I s.c.c2)∧w'.cell? ⟨N,O+4,none⟩=some (J I s.c.c3)∧w'.cell? ⟨N,O+5,none⟩=some (Z A s.c.l.length ca)∧w'.cell? ⟨N,O+6,none⟩=some (Z C s.e.length cc)) W):=fun W hW=>⟨(hA.out.2.2.1.below hW).cell (j:=0) rfl,(hA.out.2.2.1.below hW).cell (j:=1) rfl,(hA.out.2.2.1.below hW).cell (j:=2) rfl,(hA.out.2.2.1.below hW).cell (j:=3) rfl,(hA.out.2.2.1.below hW).cell (j:=4) rfl,(hA.out.2.2.1.below hW).cell (j:=5) rfl,(hW.cell (p:=⟨N,O+1,none⟩) hA.out.2.2.2.2.1).trans hA.out.2.2.2.2.2.1.k0,(hW.cell (p:=⟨N,O+2,none⟩) hA.out.2.2.2.2.1).trans hA.out.2.2.2.2.2.1.k1,(hW.cell (p:=⟨N,O+3,none⟩) hA.out.2.2.2.2.1).trans hA.out.2.2.2.2.2.1.k2,(hW.cell (p:=⟨N,O+4,none⟩) hA.out.2.2.2.2.1).trans hA.out.2.2.2.2.2.1.k3,(hW.cell (p:=⟨N,O+5,none⟩) hA.out.2.2.2.2.1).trans hA.out.2.2.2.2.2.1.k4,(hW.cell (p:=⟨N,O+6,none⟩) hA.out.2.2.2.2.1).trans hA.out.2.2.2.2.2.1.k5⟩
  refine wp_region_noPanic ?_
  refine wp_region_held_drew (S:=(fun w'=>w'.cell? ⟨w1.heap.size,0,none⟩=some (J I a.c.c0)∧w'.cell? ⟨w1.heap.size,1,none⟩=some (J I a.c.c1)∧w'.cell? ⟨w1.heap.size,2,none⟩=some (J I a.c.c2)∧w'.cell? ⟨w1.heap.size,3,none⟩=some (J I a.c.c3)∧w'.cell? ⟨w1.heap.size,4,none⟩=some (Z PA a.c.l.length pca)∧w'.cell? ⟨w1.heap.size,5,none⟩=some (Z PC a.e.length pcc)∧w'.cell? ⟨N,O+1,none⟩=some (J I s.c.c0)∧w'.cell? ⟨N,O+2,none⟩=some (J I s.c.c1)∧w'.cell? ⟨N,O+3,none⟩=some (J I s.c.c2)∧w'.cell? ⟨N,O+4,none⟩=some (J I s.c.c3)∧w'.cell? ⟨N,O+5,none⟩=some (Z A s.c.l.length ca)∧w'.cell? ⟨N,O+6,none⟩=some (Z C s.e.length cc))) (by kernel_rfl) (hKeep.out _ hD0.out) (fun hHeld=> ?_)
  show wpAnyH _ _ _ _ _ 14 _ _ _
  repeat' first
   | with_reducible exact AllReadyH.nil
   | (
    (with_reducible refine isW ?_);refine wpAnyH_done (by decide +kernel) ?_ _
    refine NoPanic.normal ?_
    go_wp2_with fail
    go_meet
    case rel=>exact ⟨rfl,rfl,_,rfl,(by first|with_reducible exact kI (hT2.out.mono hle0.out) hF.out|with_reducible exact jy hB2.out (hT2.out.mono hle1.out) hF.out)⟩)
   | (
    (with_reducible refine isW ?_);first
     | refine tkk 0 [1,2,3,4,5,6] (by assumption) (v:= ?_) (by simp only[zA,z0',zS];rfl) (by decide +kernel) ?_ ?_
     | refine tkk 8 [9,10] (by assumption) (v:= ?_) (by simp only[zA,z0',zS];rfl) (by decide +kernel) ?_ ?_
     | refine tkk 13 [] (by assumption) (v:= ?_) (by simp only[zA,z0',zS];rfl) (by decide +kernel) ?_ ?_
    rotate_left
    ·(refine oL ⟨by rfl,?_⟩;intro w hSw;(try dsimp only at hSw);go_simp<;>with_reducible rfl)
    try simp only[Act.put,yA,aE,yS]
    repeat (refine tk (v:= ?_) (by simp only[zA,z0',zS];rfl) (by kernel_rfl) ?_ ?_;rotate_left;· (refine oL ⟨by rfl,?_⟩;intro w hSw;(try dsimp only at hSw);go_simp<;>with_reducible rfl);try simp only[Act.put,yA,aE,yS])
    refine tk0 ?_)
   | ((with_reducible refine isW ?_);first
     | refine wpAnyH_ready (rs:=[7,11]) (by decide +kernel) (by simp) ?_
     | refine wpAnyH_ready (rs:=[11]) (by decide +kernel) (by simp) ?_
     | refine wpAnyH_ready (rs:=[12]) (by decide +kernel) (by simp) ?_
     | refine wpAnyH_ready (rs:=[7]) (by decide +kernel) (by simp) ?_)
   | ((with_reducible refine isR ?_);refine rdc (by simp only[zA,z0',zS];rfl) ?_ fun K hK=> ?_)
   | (
    go_simp
    first
     | ((go_at_call 48;(with_reducible refine cM (hM.out _ (by first|with_reducible exact hD0.out|with_reducible exact hD1.out)) ?_);rintro e w2 ⟨E,ce,F,cf,rfl,f2,f3⟩;have hF:Hid (Below wb0.heap.size wb0 w2):=(by first|exact hD0.out.trans (f3.mono hD0.out.size)|exact hD1.out.trans (f3.mono hD1.out.size));have hT2:Hid _:=f2;(first|(have hB2:Hid (Cls w2 wb0.heap.size Z6):=((Cls.new wb0 #[J I 0,J I 0,J I 0,J I 0,Z none 0 0,Z none 0 0] 42).gr (gR _).drew).below f3)|skip);clear f2 f3;(first|(have p0:=hB2.out.cell (j:=0) rfl;have z0:=hB2.out.fz 0;have p1:=hB2.out.cell (j:=1) rfl;have z1:=hB2.out.fz 1;have p2:=hB2.out.cell (j:=2) rfl;have z2:=hB2.out.fz 2;have p3:=hB2.out.cell (j:=3) rfl;have z3:=hB2.out.fz 3;have p4:=hB2.out.cell (j:=4) rfl;have z4:=hB2.out.fz 4;have p5:=hB2.out.cell (j:=5) rfl;have z5:=hB2.out.fz 5)|skip));first|(go_wp2_with fail)|skip)
     | skip
    refine hK.out _ _ ?_ (fun hHeld=> ?_)
    ·(try dsimp only);exact hKeep.out _ (by first|with_reducible exact hD0.out|with_reducible exact hD1.out|with_reducible exact hF.out|with_reducible exact hF.out.alloc hF.out.size _|exact aj hF.out (nR _) _ _ _ _ _ _)
    clear hK K
    try simp only[Act.put,yA,aE,yS])
 rename World=>wx0
 obtain ⟨rfl,rfl,Bm,rfl,hTR⟩:=hcut
 obtain ⟨MA,mca,MC,mcc,g1,g2,g3,g4⟩:=hTR
 have hN:Hid (Cls wx0 Bm (T6 MT0 MA mca MC mcc)∧TbW wb0.heap.size wx0 MT0 MA mca MC mcc∧Below w.heap.size w wx0∧Cls wx0 (w.heap.size+1) Z2∧wb0.heap.size≤Bm):=⟨g1,g2,hA.out.2.1.trans (g3.mono hA.out.2.1.size),hA.out.2.2.2.1.below g3,g4⟩
 have hsz0:Hid (w1.heap.size<wb0.heap.size):=hA.out.2.2.1.lt
 clear g1 g2 g3 g4 hM
 cases hn:(ME0 != 0)
 rotate_left
 focus
  have hfin:Hid (tkE s t a b=ME0∧¬tkE s t a b=0):=by
   have h0:¬ME0=0:=by simpa using hn
   have h1:tkE s t a b=ME0:=by unfold tkE;rw[if_neg (by rw[hME0.out.1];exact h0)];exact hME0.out.1
   exact ⟨h1,by rw[h1];exact h0⟩
  go_wp2
  go_ret
  refine ⟨by rw[hfin.out.1];rfl,?_,Wr.of hN.out.2.2.1 hH.out.1.blk.lt⟩
  unfold tkS tkT
  rw[if_neg hfin.out.2,if_neg hfin.out.2]
  have hn2:=hH.out.1.below hN.out.2.2.1
  exact hn2.mono (fun b hb=>ag.old b hb) (cX hH.out.1.out hH.out.1.blk.lt) (eN fun b hb=>hn2.up b hb)
 have h0:ME0=0:=by simpa using hn
 have h0I0:Hid (ME0=0):=h0
 clear hn h0
 have hB0:(ME0 != 0)=false:=by rw[h0I0.out];rfl
 obtain ⟨c0,c1,c2,c3,c4,c5⟩:=fQ hN.out.1
 obtain ⟨p0,p1,p2,p3,p4,p5⟩:=fQ hN.out.2.2.2.1
 obtain ⟨z0,z1,z2,z3,z4,z5⟩:=sB hN.out.2.2.2.1
 go_wp2
 obtain ⟨wd0,hwd⟩:∃W,((((((wx0.setCell ⟨w.heap.size+1,0,none⟩ (J I MT0.c.c0)).setCell ⟨w.heap.size+1,1,none⟩ (J I MT0.c.c1)).setCell ⟨w.heap.size+1,2,none⟩ (J I MT0.c.c2)).setCell ⟨w.heap.size+1,3,none⟩ (J I MT0.c.c3)).setCell ⟨w.heap.size+1,4,none⟩ (Z MA MT0.c.l.length mca)).setCell ⟨w.heap.size+1,5,none⟩ (Z MC MT0.e.length mcc))=W:=⟨_,rfl⟩
 rw[hwd]
 have hJ:Hid (TbW wb0.heap.size wd0 MT0 MA mca MC mcc∧Below w.heap.size w wd0∧Cls wd0 (w.heap.size+1) [J I MT0.c.c0,J I MT0.c.c1,J I MT0.c.c2,J I MT0.c.c3,Z MA MT0.c.l.length mca,Z MC MT0.e.length mcc,J I 0,J I 0,J I 0,J I 0,Z none 0 0,Z none 0 0]):=by
  have hsz:=hsz0.out
  have hlw:=hI.out.1.size
  have hl1:=hI.out.2.lt
  refine ⟨?_,?_,?_⟩
  ·rw[←hwd];exact hN.out.2.1.agr ((((((aS _ fun h=>by omega).trans (aS _ fun h=>by omega)).trans (aS _ fun h=>by omega)).trans (aS _ fun h=>by omega)).trans (aS _ fun h=>by omega)).trans (aS _ fun h=>by omega))
  ·have hge:w.heap.size≤w.heap.size+1:=by omega
   rw[←hwd];exact (((((hN.out.2.2.1.setCell hge _).setCell hge _).setCell hge _).setCell hge _).setCell hge _).setCell hge _
  ·rw[←hwd];exact (((((hN.out.2.2.2.1.put 0 _).put 1 _).put 2 _).put 3 _).put 4 _).put 5 _

 clear hwd hB0 c0 c1 c2 c3 c4 c5 p0 z0 p1 z1 p2 z2 p3 z3 p4 z4 p5 z5
 have hI0:Hid (TbW wb0.heap.size wd0 MT0 MA mca MC mcc):=hJ.out.1
 have hszw0:Hid (w.heap.size≤wb0.heap.size):=hA.out.2.1.size
 clear hA hN hI
 have hI:Hid (Below w.heap.size w wd0∧Cls wd0 (w.heap.size+1) [J I MT0.c.c0,J I MT0.c.c1,J I MT0.c.c2,J I MT0.c.c3,Z MA MT0.c.l.length mca,Z MC MT0.e.length mcc,J I 0,J I 0,J I 0,J I 0,Z none 0 0,Z none 0 0]):=⟨hJ.out.2.1,hJ.out.2.2⟩
 have hszw:Hid (w.heap.size≤wb0.heap.size∧True):=⟨hszw0.out,trivial⟩
 clear hJ
 rw[rounds_succ]
 go_upto_region 5 with fail
 obtain ⟨wb1,hwb⟩:∃W,wd0.alloc (f #[J I b.c.c0,J I b.c.c1,J I b.c.c2,J I b.c.c3,Z PB b.c.l.length pcb,Z PD b.e.length pcd] 42)=W:=⟨_,rfl⟩
 rw[hwb]
 have hA:Hid (Gr wd0 wb1∧Below w.heap.size w wb1∧Cls wb1 wd0.heap.size (T6 b PB pcb PD pcd)∧Cls wb1 (w.heap.size+1) [J I MT0.c.c0,J I MT0.c.c1,J I MT0.c.c2,J I MT0.c.c3,Z MA MT0.c.l.length mca,Z MC MT0.e.length mcc,J I 0,J I 0,J I 0,J I 0,Z none 0 0,Z none 0 0]∧N<wb1.heap.size∧TbC wb1 N (O+1) s A ca C cc∧TbC wb1 N (O+7) t B cb D cd):=by
  have hg:Gr wd0 wb1:=by rw[←hwb];exact (gR _).alloc _
  have hb:=hI.out.1.trans (hg.below.mono hI.out.1.size)
  have hlt:=hH.out.1.blk.lt
  exact ⟨hg,hb,by rw[←hwb];exact Cls.new wd0 _ _,hI.out.2.gr hg,nL hlt hb.size,hH.out.2.2.2.1.keep fun j _ _=>hb.cell (p:=⟨N,j,none⟩) hlt,hH.out.2.2.2.2.keep fun j _ _=>hb.cell (p:=⟨N,j,none⟩) hlt⟩
 clear hwb
 obtain ⟨ME1,hME⟩:∃E,ak t b=E:=⟨_,rfl⟩
 obtain ⟨MT1,hMT⟩:∃E,ac t b=E:=⟨_,rfl⟩
 have hME1:Hid (ak t b=ME1∧ac t b=MT1):=⟨hME,hMT⟩
 have hM:Hid (∀W,Below wb1.heap.size wb1 W→Calls H 48 #[d (T6 t B cb D cd).toArray,d (T6 b PB pcb PD pcd).toArray] W fun e w'=>∃E ce F cf,e= R (n #[d (T6 MT1 E ce F cf).toArray,J I ME1])∧TbW W.heap.size w' MT1 E ce F cf∧Below W.heap.size W w'):=fun W hW=>by
  have hb:=hA.out.2.1.trans (hW.mono hA.out.2.1.size)
  have hr5:=hH.out.2.2.1.below hb
  have hm:=ij t b B PB D PD cb pcb cd pcd W hr5.len.1 hPk.out.2.2.2.2.2.2.1 hr5.len.2 hPk.out.2.2.2.2.2.2.2.1 hr5.nr hPk.out.2.2.2.2.2.2.2.2.2 (hr5.row) (hPk.out.2.2.1.below hb) (hr5.cel) (hPk.out.2.2.2.1.below hb)
  rw[hME,hMT] at hm
  refine hm.mono ?_
  rintro e w' ⟨E,ce,F,cf,rfl,f1,f2,f3,f4,f5,f6,f7⟩
  exact ⟨E,ce,F,cf,rfl,⟨f1,f2,f3,f4,f5,f6⟩,f7⟩
 clear hME hMT
 go_cut [8,9,12] from 12 to 33 (fun v8 v9 v12 wx=>v9= J I ME1∧v12= J I 1∧∃Bm:Nat,v8= r (some ⟨Bm,0,none⟩)∧TbR wb1 wx Bm MT1)
 case first =>
  have hD0:Hid (Below wb1.heap.size wb1 wb1.drew):=(gR wb1).drew.below
  have hD1:Hid (Below wb1.heap.size wb1 (wb1.alloc (f #[J I 0,J I 0,J I 0,J I 0,Z none 0 0,Z none 0 0] 42)).drew):=((gR wb1).alloc _).drew.below
  have hle0:Hid (wb1.heap.size≤wb1.drew.heap.size):=nR _
  have hle1:Hid (wb1.heap.size+1≤(wb1.alloc (f #[J I 0,J I 0,J I 0,J I 0,Z none 0 0,Z none 0 0] 42)).drew.heap.size):=by show _≤(wb1.alloc _).heap.size;simp
  have hKeep:Hid (∀W,Below wb1.heap.size wb1 W→(fun w'=>w'.cell? ⟨wd0.heap.size,0,none⟩=some (J I b.c.c0)∧w'.cell? ⟨wd0.heap.size,1,none⟩=some (J I b.c.c1)∧w'.cell? ⟨wd0.heap.size,2,none⟩=some (J I b.c.c2)∧w'.cell? ⟨wd0.heap.size,3,none⟩=some (J I b.c.c3)∧w'.cell? ⟨wd0.heap.size,4,none⟩=some (Z PB b.c.l.length pcb)∧w'.cell? ⟨wd0.heap.size,5,none⟩=some (Z PD b.e.length pcd)∧w'.cell? ⟨N,O+7,none⟩=some (J I t.c.c0)∧w'.cell? ⟨N,O+8,none⟩=some (J I t.c.c1)∧w'.cell? ⟨N,O+9,none⟩=some (J I t.c.c2)∧w'.cell? ⟨N,O+10,none⟩=some (J I t.c.c3)∧w'.cell? ⟨N,O+11,none⟩=some (Z B t.c.l.length cb)∧w'.cell? ⟨N,O+12,none⟩=some (Z D t.e.length cd)) W):=fun W hW=>⟨(hA.out.2.2.1.below hW).cell (j:=0) rfl,(hA.out.2.2.1.below hW).cell (j:=1) rfl,(hA.out.2.2.1.below hW).cell (j:=2) rfl,(hA.out.2.2.1.below hW).cell (j:=3) rfl,(hA.out.2.2.1.below hW).cell (j:=4) rfl,(hA.out.2.2.1.below hW).cell (j:=5) rfl,(hW.cell (p:=⟨N,O+7,none⟩) hA.out.2.2.2.2.1).trans hA.out.2.2.2.2.2.2.k0,(hW.cell (p:=⟨N,O+8,none⟩) hA.out.2.2.2.2.1).trans hA.out.2.2.2.2.2.2.k1,(hW.cell (p:=⟨N,O+9,none⟩) hA.out.2.2.2.2.1).trans hA.out.2.2.2.2.2.2.k2,(hW.cell (p:=⟨N,O+10,none⟩) hA.out.2.2.2.2.1).trans hA.out.2.2.2.2.2.2.k3,(hW.cell (p:=⟨N,O+11,none⟩) hA.out.2.2.2.2.1).trans hA.out.2.2.2.2.2.2.k4,(hW.cell (p:=⟨N,O+12,none⟩) hA.out.2.2.2.2.1).trans hA.out.2.2.2.2.2.2.k5⟩
  refine wp_region_noPanic ?_
  refine wp_region_held_drew (S:=(fun w'=>w'.cell? ⟨wd0.heap.size,0,none⟩=some (J I b.c.c0)∧w'.cell? ⟨wd0.heap.size,1,none⟩=some (J I b.c.c1)∧w'.cell? ⟨wd0.heap.size,2,none⟩=some (J I b.c.c2)∧w'.cell? ⟨wd0.heap.size,3,none⟩=some (J I b.c.c3)∧w'.cell? ⟨wd0.heap.size,4,none⟩=some (Z PB b.c.l.length pcb)∧w'.cell? ⟨wd0.heap.size,5,none⟩=some (Z PD b.e.length pcd)∧w'.cell? ⟨N,O+7,none⟩=some (J I t.c.c0)∧w'.cell? ⟨N,O+8,none⟩=some (J I t.c.c1)∧w'.cell? ⟨N,O+9,none⟩=some (J I t.c.c2)∧w'.cell? ⟨N,O+10,none⟩=some (J I t.c.c3)∧w'.cell? ⟨N,O+11,none⟩=some (Z B t.c.l.length cb)∧w'.cell? ⟨N,O+12,none⟩=some (Z D t.e.length cd))) (by kernel_rfl) (hKeep.out _ hD0.out) (fun hHeld=> ?_)
  show wpAnyH _ _ _ _ _ 14 _ _ _
  repeat' first
   | with_reducible exact AllReadyH.nil
   | (
    (with_reducible refine isW ?_);refine wpAnyH_done (by decide +kernel) ?_ _
    refine NoPanic.normal ?_
    go_wp2_with fail
    go_meet
    case rel=>exact ⟨rfl,rfl,_,rfl,(by first|with_reducible exact kI (hT2.out.mono hle0.out) hF.out|with_reducible exact jy hB2.out (hT2.out.mono hle1.out) hF.out)⟩)
   | (
    (with_reducible refine isW ?_);first
     | refine tkk 0 [1,2,3,4,5,6] (by assumption) (v:= ?_) (by simp only[zA,z0',zS];rfl) (by decide +kernel) ?_ ?_
     | refine tkk 8 [9,10] (by assumption) (v:= ?_) (by simp only[zA,z0',zS];rfl) (by decide +kernel) ?_ ?_
     | refine tkk 13 [] (by assumption) (v:= ?_) (by simp only[zA,z0',zS];rfl) (by decide +kernel) ?_ ?_
    rotate_left
    ·(refine oL ⟨by rfl,?_⟩;intro w hSw;(try dsimp only at hSw);go_simp<;>with_reducible rfl)
    try simp only[Act.put,yA,aE,yS]
    repeat (refine tk (v:= ?_) (by simp only[zA,z0',zS];rfl) (by kernel_rfl) ?_ ?_;rotate_left;· (refine oL ⟨by rfl,?_⟩;intro w hSw;(try dsimp only at hSw);go_simp<;>with_reducible rfl);try simp only[Act.put,yA,aE,yS])
    refine tk0 ?_)
   | ((with_reducible refine isW ?_);first
     | refine wpAnyH_ready (rs:=[7,11]) (by decide +kernel) (by simp) ?_
     | refine wpAnyH_ready (rs:=[11]) (by decide +kernel) (by simp) ?_
     | refine wpAnyH_ready (rs:=[12]) (by decide +kernel) (by simp) ?_
     | refine wpAnyH_ready (rs:=[7]) (by decide +kernel) (by simp) ?_)
   | ((with_reducible refine isR ?_);refine rdc (by simp only[zA,z0',zS];rfl) ?_ fun K hK=> ?_)
   | (
    go_simp
    first
     | ((go_at_call 48;(with_reducible refine cM (hM.out _ (by first|with_reducible exact hD0.out|with_reducible exact hD1.out)) ?_);rintro e w2 ⟨E,ce,F,cf,rfl,f2,f3⟩;have hF:Hid (Below wb1.heap.size wb1 w2):=(by first|exact hD0.out.trans (f3.mono hD0.out.size)|exact hD1.out.trans (f3.mono hD1.out.size));have hT2:Hid _:=f2;(first|(have hB2:Hid (Cls w2 wb1.heap.size Z6):=((Cls.new wb1 #[J I 0,J I 0,J I 0,J I 0,Z none 0 0,Z none 0 0] 42).gr (gR _).drew).below f3)|skip);clear f2 f3;(first|(have p0:=hB2.out.cell (j:=0) rfl;have z0:=hB2.out.fz 0;have p1:=hB2.out.cell (j:=1) rfl;have z1:=hB2.out.fz 1;have p2:=hB2.out.cell (j:=2) rfl;have z2:=hB2.out.fz 2;have p3:=hB2.out.cell (j:=3) rfl;have z3:=hB2.out.fz 3;have p4:=hB2.out.cell (j:=4) rfl;have z4:=hB2.out.fz 4;have p5:=hB2.out.cell (j:=5) rfl;have z5:=hB2.out.fz 5)|skip));first|(go_wp2_with fail)|skip)
     | skip
    refine hK.out _ _ ?_ (fun hHeld=> ?_)
    ·(try dsimp only);exact hKeep.out _ (by first|with_reducible exact hD0.out|with_reducible exact hD1.out|with_reducible exact hF.out|with_reducible exact hF.out.alloc hF.out.size _|exact aj hF.out (nR _) _ _ _ _ _ _)
    clear hK K
    try simp only[Act.put,yA,aE,yS])
 rename World=>wx1
 obtain ⟨rfl,rfl,Bm,rfl,hTR⟩:=hcut
 obtain ⟨MB,mcb,MD,mcd,g1,g2,g3,g4⟩:=hTR
 have hN:Hid (Cls wx1 Bm (T6 MT1 MB mcb MD mcd)∧TbW wb1.heap.size wx1 MT1 MB mcb MD mcd∧Below w.heap.size w wx1∧Cls wx1 (w.heap.size+1) [J I MT0.c.c0,J I MT0.c.c1,J I MT0.c.c2,J I MT0.c.c3,Z MA MT0.c.l.length mca,Z MC MT0.e.length mcc,J I 0,J I 0,J I 0,J I 0,Z none 0 0,Z none 0 0]∧wb1.heap.size≤Bm):=⟨g1,g2,hA.out.2.1.trans (g3.mono hA.out.2.1.size),hA.out.2.2.2.1.below g3,g4⟩
 have hszB:Hid (wd0.heap.size<wb1.heap.size):=hA.out.2.2.1.lt
 have hg3H:Hid (Below wb1.heap.size wb1 wx1):=g3
 clear g1 g2 g3 g4 hM
 cases hn:(ME1 != 0)
 rotate_left
 focus
  have hfin:Hid (tkE s t a b=ME1∧¬tkE s t a b=0):=by
   have h0:¬ME1=0:=by simpa using hn
   have h1:tkE s t a b=ME1:=by unfold tkE;rw[if_pos (by rw[hME0.out.1];exact h0I0.out)];exact hME1.out.1
   exact ⟨h1,by rw[h1];exact h0⟩
  go_wp2
  go_ret
  refine ⟨by rw[hfin.out.1];rfl,?_,Wr.of hN.out.2.2.1 hH.out.1.blk.lt⟩
  unfold tkS tkT
  rw[if_neg hfin.out.2,if_neg hfin.out.2]
  have hn2:=hH.out.1.below hN.out.2.2.1
  exact hn2.mono (fun b hb=>ag.old b hb) (cX hH.out.1.out hH.out.1.blk.lt) (eN fun b hb=>hn2.up b hb)
 have h0:ME1=0:=by simpa using hn
 have h0I1:Hid (ME1=0):=h0
 clear hn h0
 have hB0:(ME1 != 0)=false:=by rw[h0I1.out];rfl
 obtain ⟨c0,c1,c2,c3,c4,c5⟩:=fQ hN.out.1
 obtain ⟨p6,p7,p8,p9,p10,p11⟩:=yj hN.out.2.2.2.1
 obtain ⟨z6,z7,z8,z9,z10,z11⟩:=yY hN.out.2.2.2.1
 go_wp2
 obtain ⟨wd1,hwd⟩:∃W,((((((wx1.setCell ⟨w.heap.size+1,6,none⟩ (J I MT1.c.c0)).setCell ⟨w.heap.size+1,7,none⟩ (J I MT1.c.c1)).setCell ⟨w.heap.size+1,8,none⟩ (J I MT1.c.c2)).setCell ⟨w.heap.size+1,9,none⟩ (J I MT1.c.c3)).setCell ⟨w.heap.size+1,10,none⟩ (Z MB MT1.c.l.length mcb)).setCell ⟨w.heap.size+1,11,none⟩ (Z MD MT1.e.length mcd))=W:=⟨_,rfl⟩
 rw[hwd]
 have hJ:Hid (TbW wb1.heap.size wd1 MT1 MB mcb MD mcd∧Below w.heap.size w wd1∧Cls wd1 (w.heap.size+1) (T2 MT0 MA mca MC mcc MT1 MB mcb MD mcd)∧TbW wb0.heap.size wd1 MT0 MA mca MC mcc):=by
  have hsz:=hszB.out
  have hlw:=hI.out.1.size
  have hl1:=hI.out.2.lt
  refine ⟨?_,?_,?_,?_⟩
  ·rw[←hwd];exact hN.out.2.1.agr ((((((aS _ fun h=>by omega).trans (aS _ fun h=>by omega)).trans (aS _ fun h=>by omega)).trans (aS _ fun h=>by omega)).trans (aS _ fun h=>by omega)).trans (aS _ fun h=>by omega))
  ·have hge:w.heap.size≤w.heap.size+1:=by omega
   rw[←hwd];exact (((((hN.out.2.2.1.setCell hge _).setCell hge _).setCell hge _).setCell hge _).setCell hge _).setCell hge _
  ·rw[←hwd];exact (((((hN.out.2.2.2.1.put 6 _).put 7 _).put 8 _).put 9 _).put 10 _).put 11 _
  ·have hbx:Below wd0.heap.size wd0 wx1:=hA.out.1.below.trans (hg3H.out.mono hA.out.1.size)
   have hs0:=hsz0.out
   have hs00:=hw1l.out
   rw[←hwd];exact (hI0.out.below hbx).agr ((((((aS _ fun h=>by omega).trans (aS _ fun h=>by omega)).trans (aS _ fun h=>by omega)).trans (aS _ fun h=>by omega)).trans (aS _ fun h=>by omega)).trans (aS _ fun h=>by omega))
 clear hwd hB0 c0 c1 c2 c3 c4 c5 p6 z6 p7 z7 p8 z8 p9 z9 p10 z10 p11 z11
 have hszw1:Hid (w.heap.size≤wb1.heap.size):=hA.out.2.1.size
 rw[rounds_succ]
 have hfin:Hid (tkE s t a b=0∧tkS s t a b=MT0∧tkT s t a b=MT1∧am MT0=0∧am MT1=0):=by
  have h1:tkE s t a b=0:=by unfold tkE;rw[if_pos (by rw[hME0.out.1];exact h0I0.out),hME1.out.1];exact h0I1.out
  exact ⟨h1,by unfold tkS;rw[if_pos h1];exact hME0.out.2,by unfold tkT;rw[if_pos h1];exact hME1.out.2,by rw[←hME0.out.2];exact cP (by rw[hME0.out.1];exact h0I0.out),by rw[←hME1.out.2];exact cP (by rw[hME1.out.1];exact h0I1.out)⟩
 have hbw:Hid (Below w.heap.size w wd1∧Nd wd1 N O P id s t qs):=⟨hJ.out.2.1,hH.out.1.below hJ.out.2.1⟩
 have hBc:Hid (Calls H 49 #[r (some ⟨N,O,none⟩),d (T2 MT0 MA mca MC mcc MT1 MB mcb MD mcd).toArray] wd1 fun e w'=>e= R (n #[])∧Nd w' N O (ag P w.heap.size w'.heap.size) id MT0 MT1 qs∧Wr N (O+1) (O+37) wd1 w') :=
  iG hbw.out.2 hH.out.1.blk.lt hbw.out.1.size ((hJ.out.2.2.2.p hfin.out.2.2.2.1).mono fun b hb=>ag.new hszw.out.1 (nR _) b hb) ((hJ.out.1.p hfin.out.2.2.2.2).mono fun b hb=>ag.new hszw1.out (nR _) b hb)
 obtain ⟨q0,q1,q2,q3,q4,q5,q6,q7,q8,q9,q10,q11⟩:=gl hJ.out.2.2.1
 go_wp2_with fail
 refine cM (show Calls _ _ _ _ _ from hBc.out) ?_
 rintro e w8 ⟨rfl,f1,f2⟩
 have hfin2:Hid (Nd w8 N O (ag P w.heap.size w8.heap.size) id MT0 MT1 qs∧Wr N (O+1) (O+37) w w8):=⟨f1,(Wr.of hbw.out.1 hH.out.1.blk.lt).trans f2⟩
 clear f1 f2 hBc
 go_wp2
 go_ret
 refine ⟨by rw[hfin.out.1];rfl,?_,hfin2.out.2⟩
 rw[hfin.out.2.1,hfin.out.2.2.1]
 exact hfin2.out.1
end Go.Proofs.YtkefkplnamkicabGreatDoor
