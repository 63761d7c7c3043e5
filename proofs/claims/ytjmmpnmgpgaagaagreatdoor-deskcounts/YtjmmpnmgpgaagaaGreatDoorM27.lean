import Derived.Test.YtjmmpnmgpgaagaaGreatDoorM26
import Derived.ArgAppend
set_option maxRecDepth 100000
set_option maxHeartbeats 8000000
open Go renaming Addr → N, World → ib, Calls → ih
open Go.Ending renaming returned → y
open Go.IntKind renaming i64 → I
open Go.Obj renaming cells → ic
open Go.Proofs.Tryz renaming prog → Z
open Go.RowKit renaming Below → H, Hid → d
open Go.Value renaming int → O, slice → J, pointer → ia, agg → ik, tuple → ix
namespace Go.Proofs.YtjmmpnmgpgaagaaGreatDoor
open Go.RowKit Go.Sort
set_option linter.unusedSimpArgs false

def PkW (n:Nat) (w:ib) (v:Value) (a b:Tab):Prop:=∃(A:Option N) (ca:Nat) (C:Option N) (cc:Nat) (B:Option N) (cb:Nat) (D:Option N) (cd:Nat),v= ik (T2 a A ca C cc b B cb D cd).toArray/\TbW n w a A ca C cc/\TbW n w b B cb D cd
theorem fW {n k k':Nat} {w:ib} {t:Tab} {A:Option N} {ca:Nat} {C:Option N} {f:Nat} (L:Own w n (J A k ca) t.c.l) (R:dN w n (J C k' f) t.e):TbW n w t A ca C f:=by
 obtain ⟨A',c',e,g,j,r⟩:=L.row
 injection e with e1 _ e3
 subst e1 e3
 obtain ⟨C',d',e,u,E,F⟩:=ae.row dQ R
 injection e with e1 _ e3
 subst e1 e3
 exact ⟨j,E,g,u,fun a h=>(r a h).1,fun a h=>(F a h).1⟩
theorem qR {w:ib} {B:Nat} {P:Nat->Prop} {M:NetM} {Q:Nat->List (List Stp)} (h:NetP w B P M Q) (i:Nat) (hi:i<4) (j:Int) :
  ih Z 94 #[ia (some ⟨B,0,none⟩),O I 2,O I i,O I j] w fun e w'=>∃v,e= y (ix #[v,O I 0])/\PkW w.heap.size w' v (M.s i) (M.t i)/\H w.heap.size w w':=by
 obtain ⟨w1,L⟩:∃W,w.alloc (ic #[O I 0,O I 0,O I 0,O I 0,J none 0 0,J none 0 0,O I 0,O I 0,O I 0,O I 0,J none 0 0,J none 0 0] 144)=W:=⟨_,rfl⟩
 have ah:Gr w w1:=by rw[<-L];exact (gR w).alloc _
 have ao:d (Cls w1 w.heap.size Z2):=by show Cls _ _ _;rw[<-L];exact Cls.new w _ _
 have a2:(i:Int)<4:=by omega
 have ad:d (ih Z 84 #[ia (some ⟨B,i*38,none⟩)] w1 fun e w'=>∃(r:Option N) (f:Nat) (C:Option N) (k:Nat) (u:Option N) (g:Nat) (E:Option N) (n:Nat),e= y (ik (T2 (M.s i) r f C k (M.t i) u g E n).toArray)/\TbW w1.heap.size w' (M.s i) r f C k/\TbW w1.heap.size w' (M.t i) u g E n/\H w1.heap.size w1 w'):=by
  refine (jy ((h.below ah.below).nd i hi)).mono ?_
  rintro e w' ⟨r,f,C,k,u,g,E,n,rfl,f1,f2,f3⟩
  exact ⟨r,f,C,k,u,g,E,n,rfl,fW f1.1 f1.2,fW f2.1 f2.2,f3⟩
 obtain ⟨S,hS⟩:∃S,M.s i=S:=⟨_,rfl⟩
 obtain ⟨a5,hT⟩:∃a5,M.t i=a5:=⟨_,rfl⟩
 rw[hS,hT] at ad
 rw[hS,hT]
 have an:=ja1 ah
 clear h hi ah hS hT
 go_enter Tryz.func94,Tryz.ntmps94
 go_wp2_with fail
 try rw[L]
 clear L
 refine ja0 ad ?_
 rintro e w2 ⟨r,f,C,k,u,g,E,n,rfl,f1,f2,f3⟩
 have hF:=ja4 f1 f2 f3 (ao.out.below f3)
 clear f1 f2 f3 ad
 obtain ⟨p0,p1,p2,p3,p4,p5,p6,p7,p8,p9,a0,a1⟩:=iv hF.out.2.2.2
 obtain ⟨z0,z1,z2,z3,z4,z5,z6,z7,z8,z9,a3,a4⟩:=rN hF.out.2.2.2
 go_wp2
 have ap:w.heap.size<w1.heap.size:=by have:=an.out.size;have:=ao.out.lt;omega
 have hb:H w.heap.size w w2:=an.out.below.trans (hF.out.2.2.1.mono an.out.size)
 have R:Agr (fun b=>w1.heap.size<=b) w2 ((((((((((((w2.setCell ⟨w.heap.size,0,none⟩ (O I S.c.c0)).setCell ⟨w.heap.size,1,none⟩ (O I S.c.c1)).setCell ⟨w.heap.size,2,none⟩ (O I S.c.c2)).setCell ⟨w.heap.size,3,none⟩ (O I S.c.c3)).setCell ⟨w.heap.size,4,none⟩ (J r S.c.l.length f)).setCell ⟨w.heap.size,5,none⟩ (J C S.e.length k)).setCell ⟨w.heap.size,6,none⟩ (O I a5.c.c0)).setCell ⟨w.heap.size,7,none⟩ (O I a5.c.c1)).setCell ⟨w.heap.size,8,none⟩ (O I a5.c.c2)).setCell ⟨w.heap.size,9,none⟩ (O I a5.c.c3)).setCell ⟨w.heap.size,10,none⟩ (J u a5.c.l.length g)).setCell ⟨w.heap.size,11,none⟩ (J E a5.e.length n)):=((((((((((((aS _ fun h=>by omega).trans (aS _ fun h=>by omega)).trans (aS _ fun h=>by omega)).trans (aS _ fun h=>by omega)).trans (aS _ fun h=>by omega)).trans (aS _ fun h=>by omega)).trans (aS _ fun h=>by omega)).trans (aS _ fun h=>by omega)).trans (aS _ fun h=>by omega)).trans (aS _ fun h=>by omega)).trans (aS _ fun h=>by omega)).trans (aS _ fun h=>by omega))
 have F:d (TbW w.heap.size ((((((((((((w2.setCell ⟨w.heap.size,0,none⟩ (O I S.c.c0)).setCell ⟨w.heap.size,1,none⟩ (O I S.c.c1)).setCell ⟨w.heap.size,2,none⟩ (O I S.c.c2)).setCell ⟨w.heap.size,3,none⟩ (O I S.c.c3)).setCell ⟨w.heap.size,4,none⟩ (J r S.c.l.length f)).setCell ⟨w.heap.size,5,none⟩ (J C S.e.length k)).setCell ⟨w.heap.size,6,none⟩ (O I a5.c.c0)).setCell ⟨w.heap.size,7,none⟩ (O I a5.c.c1)).setCell ⟨w.heap.size,8,none⟩ (O I a5.c.c2)).setCell ⟨w.heap.size,9,none⟩ (O I a5.c.c3)).setCell ⟨w.heap.size,10,none⟩ (J u a5.c.l.length g)).setCell ⟨w.heap.size,11,none⟩ (J E a5.e.length n)) S r f C k/\TbW w.heap.size ((((((((((((w2.setCell ⟨w.heap.size,0,none⟩ (O I S.c.c0)).setCell ⟨w.heap.size,1,none⟩ (O I S.c.c1)).setCell ⟨w.heap.size,2,none⟩ (O I S.c.c2)).setCell ⟨w.heap.size,3,none⟩ (O I S.c.c3)).setCell ⟨w.heap.size,4,none⟩ (J r S.c.l.length f)).setCell ⟨w.heap.size,5,none⟩ (J C S.e.length k)).setCell ⟨w.heap.size,6,none⟩ (O I a5.c.c0)).setCell ⟨w.heap.size,7,none⟩ (O I a5.c.c1)).setCell ⟨w.heap.size,8,none⟩ (O I a5.c.c2)).setCell ⟨w.heap.size,9,none⟩ (O I a5.c.c3)).setCell ⟨w.heap.size,10,none⟩ (J u a5.c.l.length g)).setCell ⟨w.heap.size,11,none⟩ (J E a5.e.length n)) a5 u g E n/\H w.heap.size w ((((((((((((w2.setCell ⟨w.heap.size,0,none⟩ (O I S.c.c0)).setCell ⟨w.heap.size,1,none⟩ (O I S.c.c1)).setCell ⟨w.heap.size,2,none⟩ (O I S.c.c2)).setCell ⟨w.heap.size,3,none⟩ (O I S.c.c3)).setCell ⟨w.heap.size,4,none⟩ (J r S.c.l.length f)).setCell ⟨w.heap.size,5,none⟩ (J C S.e.length k)).setCell ⟨w.heap.size,6,none⟩ (O I a5.c.c0)).setCell ⟨w.heap.size,7,none⟩ (O I a5.c.c1)).setCell ⟨w.heap.size,8,none⟩ (O I a5.c.c2)).setCell ⟨w.heap.size,9,none⟩ (O I a5.c.c3)).setCell ⟨w.heap.size,10,none⟩ (J u a5.c.l.length g)).setCell ⟨w.heap.size,11,none⟩ (J E a5.e.length n))):=⟨(hF.out.1.agr R).mono (by omega),(hF.out.2.1.agr R).mono (by omega),((((((((((((hb.setCell (nR _) _).setCell (nR _) _).setCell (nR _) _).setCell (nR _) _).setCell (nR _) _).setCell (nR _) _).setCell (nR _) _).setCell (nR _) _).setCell (nR _) _).setCell (nR _) _).setCell (nR _) _).setCell (nR _) _)⟩
 clear ap hb R
 exact bodyPost_ret (v:= ix #[ik (T2 S r f C k a5 u g E n).toArray,O I 0]) (by simp[results,Tryz.results94,go_sem,p0,p1,p2,p3,p4,p5,p6,p7,p8,p9,a0,a1]) rfl ⟨_,rfl,⟨r,f,C,k,u,g,E,n,rfl,F.out.1,F.out.2.1⟩,F.out.2.2⟩
theorem vb {t:Tab} (h:aw t=0):t.c.l.length<=maxLen:=by
 have f:=(bx (aj h).1).2.1
 unfold maxLen
 omega
theorem Own.rows {w:ib} {base n c:Nat} {A:Option N} {l:List (Int×Int)} (h:Own w base (J A n c) l):Row w A l/\(A=none->c=0):=by
 obtain ⟨j,k,e,f,g,_⟩:=h.row
 injection e with e1 _ e3
 subst e1 e3
 exact ⟨g,f⟩
theorem sJ {w:ib} {B:Nat} {P:Nat->Prop} {M:NetM} {Q:Nat->List (List Stp)} (h:NetP w B P M Q) (i j:Nat) (hi:i<4) (hj:j<4) :
  ih Z 94 #[ia (some ⟨B,0,none⟩),O I 3,O I i,O I j] w fun e w'=>∃v,e= y (ix #[v,O I (qX (M.s i) (M.t i) (M.s j).c (M.t j).c)])/\PkW w.heap.size w' v (snS (M.s i) (M.t i) (M.s j).c (M.t j).c) (snT (M.s i) (M.t i) (M.s j).c (M.t j).c)/\H w.heap.size w w':=by
 have a4:Tryz.prog.follows .mixedOrders=true:=by kernel_rfl
 obtain ⟨w1,an⟩:∃W,w.alloc (ic #[O I 0,O I 0,O I 0,O I 0,J none 0 0,J none 0 0,O I 0,O I 0,O I 0,O I 0,J none 0 0,J none 0 0] 144)=W:=⟨_,rfl⟩
 have ah:Gr w w1:=by rw[<-an];exact (gR w).alloc _
 have ap:d (Cls w1 w.heap.size Z2):=by show Cls _ _ _;rw[<-an];exact Cls.new w _ _
 have a7:(i:Int)<4:=by omega
 have a8:(j:Int)<4:=by omega
 obtain ⟨U,hU⟩:∃S,M.s j=S:=⟨_,rfl⟩
 obtain ⟨V,hV⟩:∃be,M.t j=be:=⟨_,rfl⟩
 obtain ⟨X,hX⟩:∃S,(snS (M.s i) (M.t i) (M.s j).c (M.t j).c)=S:=⟨_,rfl⟩
 obtain ⟨Y,hY⟩:∃S,(snT (M.s i) (M.t i) (M.s j).c (M.t j).c)=S:=⟨_,rfl⟩
 obtain ⟨E,hE⟩:∃E,qX (M.s i) (M.t i) (M.s j).c (M.t j).c=E:=⟨_,rfl⟩
 have a3:d (∀W,Gr w1 W->ih Z 133 #[ia (some ⟨B,j*38,none⟩)] W fun e w'=>∃(FA:Option N) (R:Nat) (FB:Option N) (ad:Nat),e= y (ik #[O I U.c.c0,O I U.c.c1,O I U.c.c2,O I U.c.c3,J FA U.c.l.length R,O I V.c.c0,O I V.c.c1,O I V.c.c2,O I V.c.c3,J FB V.c.l.length ad])/\Row w' FA U.c.l/\Row w' FB V.c.l/\H W.heap.size W w'):=fun W hW=>by
  have hs:=Az ((h.below (ah.trans hW).below).nd j hj)
  rw[hU,hV] at hs
  refine hs.mono ?_
  rintro e w' ⟨u,f,C,g,rfl,f1,f2,f3⟩
  exact ⟨u,f,C,g,rfl,f1.rows.1,f2.rows.1,f3⟩
 have a2:d (∀W,H w1.heap.size w1 W->∀FA R FB ad,Row W FA U.c.l->Row W FB V.c.l->ih Z 132 #[ia (some ⟨B,i*38,none⟩),ik #[O I U.c.c0,O I U.c.c1,O I U.c.c2,O I U.c.c3,J FA U.c.l.length R,O I V.c.c0,O I V.c.c1,O I V.c.c2,O I V.c.c3,J FB V.c.l.length ad]] W fun e w'=>∃(u:Option N) (f:Nat) (F:Option N) (k:Nat) (C:Option N) (g:Nat) (L:Option N) (n:Nat),e= y (ix #[ik (T2 X u f F k Y C g L n).toArray,O I E])/\TbW W.heap.size w' X u f F k/\TbW W.heap.size w' Y C g L n/\H W.heap.size W w'):=fun W hW FA R FB ad r1 r2=>by
  have hn:=h.below (ah.below.trans (hW.mono ah.size))
  have l1:=(hn.nd j hj).ts.ok
  have l2:=(hn.nd j hj).tt.ok
  rw[hU] at l1
  rw[hV] at l2
  have hs:=Ce (hn.nd i hi) U.c V.c FA FB R ad r1 r2 (vb l1) (vb l2)
  rw[<-hU,<-hV,show im (M.s i) (M.t i) (M.s j).c (M.t j).c=E from hE,hX,hY,hU,hV] at hs
  exact hs
 rw[hE,hX,hY]
 have a1:=ja1 ah
 clear h hi hj ah hE hX hY hU hV
 go_enter Tryz.func94,Tryz.ntmps94
 go_upto_region 3 with fail
 try rw[an]
 clear an
 go_cut [8,9] from 10 to 32 (fun v8 v9 wx=>v9= O I E/\v8= ia (some ⟨w.heap.size,0,none⟩)/\∃(u:Option N) (f:Nat) (F:Option N) (k:Nat) (C:Option N) (g:Nat) (L:Option N) (n:Nat),d (Cls wx w.heap.size (T2 X u f F k Y C g L n)/\TbW w.heap.size wx X u f F k/\TbW w.heap.size wx Y C g L n/\H w.heap.size w wx))
 case first =>
  go_region_with (first|(go_at_call 133;(with_reducible refine cM (a3.out _ (gR w1).drew) ?_);rintro e w2 ⟨FA,R,FB,ad,rfl,f1,f2,f3⟩;have hF:d (Row w2 FA U.c.l/\Row w2 FB V.c.l/\H w1.heap.size w1 w2):=⟨f1,f2,(gR w1).drew.below.trans f3⟩;clear f1 f2 f3)|(go_at_call 132;(with_reducible refine cM (a2.out _ hF.out.2.2 FA R FB ad hF.out.1 hF.out.2.1) ?_);rintro e w3 ⟨u,f,F,k,C,g,L,n,rfl,f1,f2,f3⟩;have hb:H w1.heap.size w1 w3:=hF.out.2.2.trans (f3.mono hF.out.2.2.size);have r:d (TbW w1.heap.size w3 X u f F k/\TbW w1.heap.size w3 Y C g L n/\H w1.heap.size w1 w3/\Cls w3 w.heap.size Z2):=⟨f1.mono hF.out.2.2.size,f2.mono hF.out.2.2.size,hb,ap.out.below hb⟩;clear f1 f2 f3 hb;have p0:=r.out.2.2.2.cell (j:=0) rfl;have z0:=r.out.2.2.2.fz 0;have p1:=r.out.2.2.2.cell (j:=1) rfl;have z1:=r.out.2.2.2.fz 1;have p2:=r.out.2.2.2.cell (j:=2) rfl;have z2:=r.out.2.2.2.fz 2;have p3:=r.out.2.2.2.cell (j:=3) rfl;have z3:=r.out.2.2.2.fz 3;have p4:=r.out.2.2.2.cell (j:=4) rfl;have z4:=r.out.2.2.2.fz 4;have p5:=r.out.2.2.2.cell (j:=5) rfl;have z5:=r.out.2.2.2.fz 5;have p6:=r.out.2.2.2.cell (j:=6) rfl;have z6:=r.out.2.2.2.fz 6;have p7:=r.out.2.2.2.cell (j:=7) rfl;have z7:=r.out.2.2.2.fz 7;have p8:=r.out.2.2.2.cell (j:=8) rfl;have z8:=r.out.2.2.2.fz 8;have p9:=r.out.2.2.2.cell (j:=9) rfl;have z9:=r.out.2.2.2.fz 9;have ba:=r.out.2.2.2.cell (j:=10) rfl;have bc:=r.out.2.2.2.fz 10;have bb:=r.out.2.2.2.cell (j:=11) rfl;have bd:=r.out.2.2.2.fz 11))
  all_goals
   have a0:d (Cls ((((((((((((w3.setCell ⟨w.heap.size,0,none⟩ (O I X.c.c0)).setCell ⟨w.heap.size,1,none⟩ (O I X.c.c1)).setCell ⟨w.heap.size,2,none⟩ (O I X.c.c2)).setCell ⟨w.heap.size,3,none⟩ (O I X.c.c3)).setCell ⟨w.heap.size,4,none⟩ (J u X.c.l.length f)).setCell ⟨w.heap.size,5,none⟩ (J F X.e.length k)).setCell ⟨w.heap.size,6,none⟩ (O I Y.c.c0)).setCell ⟨w.heap.size,7,none⟩ (O I Y.c.c1)).setCell ⟨w.heap.size,8,none⟩ (O I Y.c.c2)).setCell ⟨w.heap.size,9,none⟩ (O I Y.c.c3)).setCell ⟨w.heap.size,10,none⟩ (J C Y.c.l.length g)).setCell ⟨w.heap.size,11,none⟩ (J L Y.e.length n)) w.heap.size [O I X.c.c0,O I X.c.c1,O I X.c.c2,O I X.c.c3,J u X.c.l.length f,J F X.e.length k,O I Y.c.c0,O I Y.c.c1,O I Y.c.c2,O I Y.c.c3,J C Y.c.l.length g,J L Y.e.length n]/\TbW w.heap.size ((((((((((((w3.setCell ⟨w.heap.size,0,none⟩ (O I X.c.c0)).setCell ⟨w.heap.size,1,none⟩ (O I X.c.c1)).setCell ⟨w.heap.size,2,none⟩ (O I X.c.c2)).setCell ⟨w.heap.size,3,none⟩ (O I X.c.c3)).setCell ⟨w.heap.size,4,none⟩ (J u X.c.l.length f)).setCell ⟨w.heap.size,5,none⟩ (J F X.e.length k)).setCell ⟨w.heap.size,6,none⟩ (O I Y.c.c0)).setCell ⟨w.heap.size,7,none⟩ (O I Y.c.c1)).setCell ⟨w.heap.size,8,none⟩ (O I Y.c.c2)).setCell ⟨w.heap.size,9,none⟩ (O I Y.c.c3)).setCell ⟨w.heap.size,10,none⟩ (J C Y.c.l.length g)).setCell ⟨w.heap.size,11,none⟩ (J L Y.e.length n)) X u f F k/\TbW w.heap.size ((((((((((((w3.setCell ⟨w.heap.size,0,none⟩ (O I X.c.c0)).setCell ⟨w.heap.size,1,none⟩ (O I X.c.c1)).setCell ⟨w.heap.size,2,none⟩ (O I X.c.c2)).setCell ⟨w.heap.size,3,none⟩ (O I X.c.c3)).setCell ⟨w.heap.size,4,none⟩ (J u X.c.l.length f)).setCell ⟨w.heap.size,5,none⟩ (J F X.e.length k)).setCell ⟨w.heap.size,6,none⟩ (O I Y.c.c0)).setCell ⟨w.heap.size,7,none⟩ (O I Y.c.c1)).setCell ⟨w.heap.size,8,none⟩ (O I Y.c.c2)).setCell ⟨w.heap.size,9,none⟩ (O I Y.c.c3)).setCell ⟨w.heap.size,10,none⟩ (J C Y.c.l.length g)).setCell ⟨w.heap.size,11,none⟩ (J L Y.e.length n)) Y C g L n/\H w.heap.size w ((((((((((((w3.setCell ⟨w.heap.size,0,none⟩ (O I X.c.c0)).setCell ⟨w.heap.size,1,none⟩ (O I X.c.c1)).setCell ⟨w.heap.size,2,none⟩ (O I X.c.c2)).setCell ⟨w.heap.size,3,none⟩ (O I X.c.c3)).setCell ⟨w.heap.size,4,none⟩ (J u X.c.l.length f)).setCell ⟨w.heap.size,5,none⟩ (J F X.e.length k)).setCell ⟨w.heap.size,6,none⟩ (O I Y.c.c0)).setCell ⟨w.heap.size,7,none⟩ (O I Y.c.c1)).setCell ⟨w.heap.size,8,none⟩ (O I Y.c.c2)).setCell ⟨w.heap.size,9,none⟩ (O I Y.c.c3)).setCell ⟨w.heap.size,10,none⟩ (J C Y.c.l.length g)).setCell ⟨w.heap.size,11,none⟩ (J L Y.e.length n))):=by
    have a9:w.heap.size<w1.heap.size:=ap.out.lt
    have hb:H w.heap.size w w3:=a1.out.below.trans (r.out.2.2.1.mono a1.out.size)
    have ao:Agr (fun b=>w1.heap.size<=b) w3 ((((((((((((w3.setCell ⟨w.heap.size,0,none⟩ (O I X.c.c0)).setCell ⟨w.heap.size,1,none⟩ (O I X.c.c1)).setCell ⟨w.heap.size,2,none⟩ (O I X.c.c2)).setCell ⟨w.heap.size,3,none⟩ (O I X.c.c3)).setCell ⟨w.heap.size,4,none⟩ (J u X.c.l.length f)).setCell ⟨w.heap.size,5,none⟩ (J F X.e.length k)).setCell ⟨w.heap.size,6,none⟩ (O I Y.c.c0)).setCell ⟨w.heap.size,7,none⟩ (O I Y.c.c1)).setCell ⟨w.heap.size,8,none⟩ (O I Y.c.c2)).setCell ⟨w.heap.size,9,none⟩ (O I Y.c.c3)).setCell ⟨w.heap.size,10,none⟩ (J C Y.c.l.length g)).setCell ⟨w.heap.size,11,none⟩ (J L Y.e.length n)):=((((((((((((aS _ fun h=>by omega).trans (aS _ fun h=>by omega)).trans (aS _ fun h=>by omega)).trans (aS _ fun h=>by omega)).trans (aS _ fun h=>by omega)).trans (aS _ fun h=>by omega)).trans (aS _ fun h=>by omega)).trans (aS _ fun h=>by omega)).trans (aS _ fun h=>by omega)).trans (aS _ fun h=>by omega)).trans (aS _ fun h=>by omega)).trans (aS _ fun h=>by omega))
    exact ⟨((((((((((((r.out.2.2.2.put 0 _).put 1 _).put 2 _).put 3 _).put 4 _).put 5 _).put 6 _).put 7 _).put 8 _).put 9 _).put 10 _).put 11 _),(r.out.1.agr ao).mono (by omega),(r.out.2.1.agr ao).mono (by omega),((((((((((((hb.setCell (nR _) _).setCell (nR _) _).setCell (nR _) _).setCell (nR _) _).setCell (nR _) _).setCell (nR _) _).setCell (nR _) _).setCell (nR _) _).setCell (nR _) _).setCell (nR _) _).setCell (nR _) _).setCell (nR _) _)⟩
   clear r
   go_wp2_with fail
   go_meet
   case rel=>exact ⟨rfl,rfl,u,f,F,k,C,g,L,n,a0⟩
 case rest =>
  obtain ⟨rfl,rfl,u,f,F,k,C,g,L,n,hR⟩:=hcut
  obtain ⟨q0,q1,q2,q3,q4,q5,q6,q7,q8,q9,a5,a6⟩:=iv hR.out.1
  go_wp2
  exact bodyPost_ret (v:= ix #[ik (T2 X u f F k Y C g L n).toArray,O I E]) (by simp[results,Tryz.results94,go_sem,q0,q1,q2,q3,q4,q5,q6,q7,q8,q9,a5,a6]) rfl ⟨_,rfl,⟨u,f,F,k,C,g,L,n,rfl,hR.out.2.1,hR.out.2.2.1⟩,hR.out.2.2.2⟩
theorem infoS:(Tryz.prog.info? 163).map (fun i=>(i.zero,i.size,i.bytes))=some (some (ik #[O I 0,O I 0,O I 0,O I 0,O I 0,J none 0 0,J none 0 0,O I 0,O I 0,O I 0,O I 0,J none 0 0,J none 0 0]),13,168):=by kernel_rfl
theorem Ci (w:ib) {ops:Array Oper} {o:Oper} {a:Act} {K:Act->ib->Prop} {Q:Exit->Act->ib->Prop} {E:Prop} (ad:o.guard=none) (s z:Operand)
  (ho:o.op= .call { callee:= .builtin .append,args:= #[s,z],argTypes:= #[70,70] })
  (A:Option N) (L:List Pkm) (p:Pkm) (X:Nat) (cap:Nat) (hs:a.eval s= J A L.length L.length) (hz:a.eval z= J (some ⟨X,0,none⟩) 1 cap) (hr:az fK 13 w A L) (hx:az fK 13 w (some ⟨X,0,none⟩) [p]) (hn:A=none->L=[]) (hl:L.length+1<=200)
  (h:∀X cx w',ae fK 13 163 w' w.heap.size (J X (L.length+1) cx) (L++[p])->H w.heap.size w w'->K (a.put o.dst (J X (L.length+1) cx)) w') :
  if Region.wanted o (yielded ops a.tmps)=true then Oper.wp Z o a w K Q else E:=by
 have hw:Region.wanted o (yielded ops a.tmps)=true:=by simp[Region.wanted,ad]
 rw[if_pos hw]
 obtain ⟨i0,hi,k,n,r⟩:=info_parts infoS
 have f:L.length+1<=maxLen:=by unfold maxLen;omega
 have j:(L.length+1)*168<=140737488355328:=by omega
 obtain ⟨g,w',C,F,R⟩:∃g w',(Builtin.append_ #[70,70] o.type #[J A L.length L.length,J (some ⟨X,0,none⟩) 1 cap]).run Z w= .ok g w'/\w'.ownsRow w.heap.size 163 13 g (L.length+1) (aL fK L++aL fK [p])/\w.grownBy w' none:=by
  cases A with
  | none =>
   obtain rfl:=hn rfl
   obtain ⟨g,w',C,F,R,_⟩:=run_append_own (P:=Z) w w.heap.size 70 o.type 163 i0 (ik #[O I 0,O I 0,O I 0,O I 0,O I 0,J none 0 0,J none 0 0,O I 0,O I 0,O I 0,O I 0,J none 0 0,J none 0 0]) 13 168 Tryz.underlying70 hi k n r rfl (by omega) (J none 0 0) 0 [] (World.ownsRow_nil w _ _ 13) ⟨X,0,none⟩ 1 cap (aL fK [p]) (aW el [p]) (hx.cells el (by omega)) (fun u hu=>ec zk u [p] hu) f j (nR _)
   exact ⟨g,w',C,F,R⟩
  | some b=>exact run_append_arg_grows (P:=Z) w 70 o.type 163 i0 (ik #[O I 0,O I 0,O I 0,O I 0,O I 0,J none 0 0,J none 0 0,O I 0,O I 0,O I 0,O I 0,J none 0 0,J none 0 0]) 13 168 Tryz.underlying70 hi k n r rfl (by omega) b L.length L.length (aL fK L) (aW el L) (hr.cells el (by omega)) ⟨X,0,none⟩ 1 cap (aL fK [p]) (aW el [p]) (hx.cells el (by omega)) (by omega) f j
 have h2:ae fK 13 163 w' w.heap.size g (L++[p]):=by
  show w'.ownsRow _ _ 13 g (L++[p]).length (aL fK (L++[p]))
  rw[List.length_append,cH]
  exact F
 unfold Oper.wp execOp
 simp only[ho,resolve,invoke,builtin,Sem.run_bind,Sem.run_pure,Result.andThen_ok,List.map_toArray,List.map_cons,List.map_nil,hs,hz,C]
 obtain ⟨X,cx,e,_⟩:=ae.full el h2
 rw[show (L++[p]).length=L.length+1 from List.length_append] at e
 subst e
 exact h X cx w' h2 (cW R)
theorem yQ (A:Option N) (n c:Nat) (f:A=none->c=0) (g:n<=c) (w:ib):ih Z 95 #[J A n c] w fun e w'=>e= y (J A n n)/\w'=w:=by
 cases A with
 | none =>
  obtain rfl:=f rfl
  obtain rfl:n=0:=by omega
  go_enter Tryz.func95,Tryz.ntmps95
  go_wp2
  go_ret
  exact ⟨rfl,rfl⟩
 | some a =>
  go_enter Tryz.func95,Tryz.ntmps95
  go_wp2
  go_ret
  exact ⟨rfl,rfl⟩
theorem C5 {W:ib} {n:Nat} (k:W.heap.size=n) (p:Pkm) (T:TypeId):az fK 13 (W.alloc (ic #[O I (p.tg:Int),O I p.a.c.c0,O I p.a.c.c1,O I p.a.c.c2,O I p.a.c.c3,J p.A p.a.c.l.length p.ca,J p.C p.a.e.length p.cc,O I p.b.c.c0,O I p.b.c.c1,O I p.b.c.c2,O I p.b.c.c3,J p.B p.b.c.l.length p.cb,J p.D p.b.e.length p.cd] T)) (some ⟨n,0,none⟩) [p]:=by
 subst k
 refine oR ⟨W.heap.size,0,rfl,by simp,fun j h i hi=> ?_⟩
 obtain rfl:j=0:=by simp at h;omega
 have g:=Cls.new W #[O I (p.tg:Int),O I p.a.c.c0,O I p.a.c.c1,O I p.a.c.c2,O I p.a.c.c3,J p.A p.a.c.l.length p.ca,J p.C p.a.e.length p.cc,O I p.b.c.c0,O I p.b.c.c1,O I p.b.c.c2,O I p.b.c.c3,J p.B p.b.c.l.length p.cb,J p.D p.b.e.length p.cd] T
 obtain ⟨v,f⟩:∃v,(fK p)[i]? = some v:=⟨_,List.getElem?_eq_getElem (by rw[el];exact hi)⟩
 rw[show 0+0*13+i=i by omega]
 exact (g.cell f).trans f.symm
def uG (M:NetM) (E:Int) (j:Nat) (a b:Tab):NetM:=if E=0 then ⟨M.s,M.t,M.pk++[(j,a,b)]⟩ else M
theorem sS {w:ib} {B:Nat} {P:Nat->Prop} {M:NetM} {Q:Nat->List (List Stp)} (h:NetP w B P M Q) (k:Int) (i j:Nat) (hi:i<4) (hj:j<4) (hl:M.pk.length<200) {a b:Tab} {E:Int} (a3:E=0->aw a=0/\aw b=0)
  (hp:ih Z 94 #[ia (some ⟨B,0,none⟩),O I k,O I i,O I j] w fun e w'=>∃v,e= y (ix #[v,O I E])/\PkW w.heap.size w' v a b/\H w.heap.size w w') :
  ih Z 64 #[ia (some ⟨B,0,none⟩),O I k,O I i,O I j] w fun e w'=>e= y (O I E)/\bj w B P w' (uG M E j a b) Q:=by
 have b0:Tryz.prog.follows .mixedOrders=true:=by kernel_rfl
 obtain ⟨L,A,c,hk⟩:=h.pk
 have hL:L.length=M.pk.length:=by rw[<-hk.eq,List.length_map]
 have be:=hk.cel
 have b6:¬(200:Int)<=(L.length:Int):=by omega
 have bp:=ja1 (bZ i hi)
 have bs:=ja1 (bZ j hj)
 have hP:d _:=hp
 have hH:d (NetP w B P M Q/\Pks w B P M.pk L A c/\(E=0->aw a=0/\aw b=0)/\L.length<200/\j<4):=⟨h,hk,a3,by omega,hj⟩
 have bt:d (A=none->L=[]):=fun e=>by
  have h1:=hk.nil e
  have h2:=hk.cap
  exact List.eq_nil_of_length_eq_zero (by omega)
 have bl:=ja1 (yQ A L.length c hk.nil hk.cap)
 clear h hk hL hl hi hj hp a3
 go_enter Tryz.func64,Tryz.ntmps64
 go_wp2_with fail
 refine cM (bp.out _) ?_
 rintro e w1 ⟨rfl,rfl⟩
 go_wp2_with fail
 refine cM (bs.out _) ?_
 rintro e w0 ⟨rfl,rfl⟩
 go_wp2_with fail
 refine ja0 hP ?_
 rintro e C ⟨v,rfl,⟨PA,f,PC,n,PB,g,PD,r,rfl,f1,f2⟩,f3⟩
 have hF:=ja3 f1 f2 f3
 clear f1 f2 f3 hP be
 by_cases he:E=0
 rotate_left
 ·have b5:(E != 0)=true:=by simpa using he
  have ao:d (bj w0 B P (C.alloc (ic #[O I a.c.c0,O I a.c.c1,O I a.c.c2,O I a.c.c3,J PA a.c.l.length f,J PC a.e.length n,O I b.c.c0,O I b.c.c1,O I b.c.c2,O I b.c.c3,J PB b.c.l.length g,J PD b.e.length r] 144)) M Q/\E≠0):=⟨bj.same hH.out.1 (hF.out.2.2.alloc hF.out.2.2.size _),he⟩
  clear he
  go_wp2
  go_ret
  refine ⟨rfl,?_⟩
  unfold uG
  rw[if_neg ao.out.2]
  exact ao.out.1
 subst he
 obtain ⟨F,a6⟩:∃W,C.alloc (ic #[O I a.c.c0,O I a.c.c1,O I a.c.c2,O I a.c.c3,J PA a.c.l.length f,J PC a.e.length n,O I b.c.c0,O I b.c.c1,O I b.c.c2,O I b.c.c3,J PB b.c.l.length g,J PD b.e.length r] 144)=W:=⟨_,rfl⟩
 have bd:Gr C F:=by rw[<-a6];exact (gR C).alloc _
 have a0:H w0.heap.size w0 F:=hF.out.2.2.trans (bd.below.mono hF.out.2.2.size)
 have ad:d (Cls F C.heap.size (T2 a PA f PC n b PB g PD r)):=by show Cls _ _ _;rw[<-a6];exact Cls.new C _ _
 have ap:B<w0.heap.size:=hH.out.1.lt
 have a9:=ja1 (nL ap a0.size)
 have bc:d (F.cell? ⟨B,152,none⟩=some (J A L.length c)):=(a0.cell (p:=⟨B,152,none⟩) ap).trans hH.out.2.1.cel
 have bn:d (∀W,H F.heap.size F W->W.frozen? ⟨B,152,none⟩=false):=fun W hW=>((hH.out.1.blk.below a0).below hW).fz 152
 have ah:=ja2 bd a0
 have a2:d (H F.heap.size F (F.alloc (ic #[O I (j:Int),O I a.c.c0,O I a.c.c1,O I a.c.c2,O I a.c.c3,J PA a.c.l.length f,J PC a.e.length n,O I b.c.c0,O I b.c.c1,O I b.c.c2,O I b.c.c3,J PB b.c.l.length g,J PD b.e.length r] 163)).drew):=((gR F).alloc _).drew.below
 have bC:=ja1 ((hH.out.2.1.row.below a0).below a2.out)
 have bG:d (az fK 13 (F.alloc (ic #[O I (j:Int),O I a.c.c0,O I a.c.c1,O I a.c.c2,O I a.c.c3,J PA a.c.l.length f,J PC a.e.length n,O I b.c.c0,O I b.c.c1,O I b.c.c2,O I b.c.c3,J PB b.c.l.length g,J PD b.e.length r] 163)).drew (some ⟨F.heap.size,0,none⟩) [⟨j,a,PA,f,PC,n,b,PB,g,PD,r⟩]):=(C5 (W:=F) rfl ⟨j,a,PA,f,PC,n,b,PB,g,PD,r⟩ 163).gr (gR _).drew
 have bo:=ja1 hH.out.2.2.2.1
 clear bd a0 ap
 go_upto_region 8 with fail
 try rw[a6]
 clear a6
 go_cut [8] from 9 to 49 (fun v8 wx=>∃X cx R,wx=R.setCell ⟨B,152,none⟩ (J X (L.length+1) cx)/\d (ae fK 13 163 R (F.alloc (ic #[O I (j:Int),O I a.c.c0,O I a.c.c1,O I a.c.c2,O I a.c.c3,J PA a.c.l.length f,J PC a.e.length n,O I b.c.c0,O I b.c.c1,O I b.c.c2,O I b.c.c3,J PB b.c.l.length g,J PD b.e.length r] 163)).drew.heap.size (J X (L.length+1) cx) (L++[⟨j,a,PA,f,PC,n,b,PB,g,PD,r⟩])/\H F.heap.size F R))
 case first =>
  have a4:=ja1 ((gR F).drew.below)
  have ba:=ja1 a2.out
  have cA:F.drew.cell? ⟨B,152,none⟩=some (J A L.length c):=(a4.out.cell (p:=⟨B,152,none⟩) a9.out).trans bc.out
  have cB:(F.alloc (ic #[O I (j:Int),O I a.c.c0,O I a.c.c1,O I a.c.c2,O I a.c.c3,J PA a.c.l.length f,J PC a.e.length n,O I b.c.c0,O I b.c.c1,O I b.c.c2,O I b.c.c3,J PB b.c.l.length g,J PD b.e.length r] 163)).drew.cell? ⟨B,152,none⟩=some (J A L.length c):=(ba.out.cell (p:=⟨B,152,none⟩) a9.out).trans bc.out
  have a7:d (C.heap.size≠B):=fun e=>by have h1:=hH.out.1.lt;have h2:=hF.out.2.2.size;omega
  have an:d (∀W,Cls W C.heap.size (T2 a PA f PC n b PB g PD r)->(fun w'=>w'.cell? ⟨C.heap.size,0,none⟩=some (O I a.c.c0)/\w'.cell? ⟨C.heap.size,1,none⟩=some (O I a.c.c1)/\w'.cell? ⟨C.heap.size,2,none⟩=some (O I a.c.c2)/\w'.cell? ⟨C.heap.size,3,none⟩=some (O I a.c.c3)/\w'.cell? ⟨C.heap.size,4,none⟩=some (J PA a.c.l.length f)/\w'.cell? ⟨C.heap.size,5,none⟩=some (J PC a.e.length n)/\w'.cell? ⟨C.heap.size,6,none⟩=some (O I b.c.c0)/\w'.cell? ⟨C.heap.size,7,none⟩=some (O I b.c.c1)/\w'.cell? ⟨C.heap.size,8,none⟩=some (O I b.c.c2)/\w'.cell? ⟨C.heap.size,9,none⟩=some (O I b.c.c3)/\w'.cell? ⟨C.heap.size,10,none⟩=some (J PB b.c.l.length g)/\w'.cell? ⟨C.heap.size,11,none⟩=some (J PD b.e.length r)) W):=fun W hW=>⟨hW.cell (j:=0) rfl,hW.cell (j:=1) rfl,hW.cell (j:=2) rfl,hW.cell (j:=3) rfl,hW.cell (j:=4) rfl,hW.cell (j:=5) rfl,hW.cell (j:=6) rfl,hW.cell (j:=7) rfl,hW.cell (j:=8) rfl,hW.cell (j:=9) rfl,hW.cell (j:=10) rfl,hW.cell (j:=11) rfl⟩
  refine wp_region_noPanic ?_
  refine wp_region_held_drew (S:=(fun w'=>w'.cell? ⟨C.heap.size,0,none⟩=some (O I a.c.c0)/\w'.cell? ⟨C.heap.size,1,none⟩=some (O I a.c.c1)/\w'.cell? ⟨C.heap.size,2,none⟩=some (O I a.c.c2)/\w'.cell? ⟨C.heap.size,3,none⟩=some (O I a.c.c3)/\w'.cell? ⟨C.heap.size,4,none⟩=some (J PA a.c.l.length f)/\w'.cell? ⟨C.heap.size,5,none⟩=some (J PC a.e.length n)/\w'.cell? ⟨C.heap.size,6,none⟩=some (O I b.c.c0)/\w'.cell? ⟨C.heap.size,7,none⟩=some (O I b.c.c1)/\w'.cell? ⟨C.heap.size,8,none⟩=some (O I b.c.c2)/\w'.cell? ⟨C.heap.size,9,none⟩=some (O I b.c.c3)/\w'.cell? ⟨C.heap.size,10,none⟩=some (J PB b.c.l.length g)/\w'.cell? ⟨C.heap.size,11,none⟩=some (J PD b.e.length r))) (by kernel_rfl) (an.out _ (ad.out.below a4.out)) (fun hHeld=> ?_)
  show wpAnyH _ _ _ _ _ 14 _ _ _
  repeat' first
   | with_reducible exact AllReadyH.nil
   | (
    (with_reducible refine isW ?_);refine wpAnyH_done (by decide +kernel) ?_ _
    refine NoPanic.normal ?_
    go_wp2_with fail
    go_meet
    case rel=>exact ⟨X,cx,R,rfl,hG⟩)
   | (
    (with_reducible refine isW ?_);first
     | refine tkk 0 [1,2,3,6,7,8] (by assumption) (v:= ?_) (by simp only[zA,z0',zS];rfl) (by decide +kernel) ?_ ?_
     | refine tkk 11 [12] (by assumption) (v:= ?_) (by simp only[zA,z0',zS];rfl) (by decide +kernel) ?_ ?_
    rotate_left
    ·(refine oL ⟨by rfl,?_⟩;intro w bb;(try dsimp only at bb);go_simp<;>with_reducible rfl)
    try simp only[Act.put,yA,aB,yS]
    repeat (refine tk (v:= ?_) (by simp only[zA,z0',zS];rfl) (by kernel_rfl) ?_ ?_;rotate_left;· (refine oL ⟨by rfl,?_⟩;intro w bb;(try dsimp only at bb);go_simp<;>with_reducible rfl);try simp only[Act.put,yA,aB,yS])
    refine tk0 ?_)
   | ((with_reducible refine isW ?_);first
     | refine wpAnyH_ready (rs:=[4,9]) (by decide +kernel) (by simp) ?_
     | refine wpAnyH_ready (rs:=[5,9]) (by decide +kernel) (by simp) ?_
     | refine wpAnyH_ready (rs:=[9]) (by decide +kernel) (by simp) ?_
     | refine wpAnyH_ready (rs:=[10]) (by decide +kernel) (by simp) ?_
     | refine wpAnyH_ready (rs:=[13]) (by decide +kernel) (by simp) ?_
     | refine wpAnyH_ready (rs:=[5]) (by decide +kernel) (by simp) ?_
     | refine wpAnyH_ready (rs:=[4]) (by decide +kernel) (by simp) ?_)
   | (
    (with_reducible refine isR ?_);refine rdc (i:=10) (by simp only[zA,z0',zS];rfl) ?_ fun b9 hK=> ?_
    rotate_left
    (refine Ci _ rfl (.tmp 41) (.tmp 45) rfl A L ⟨j,a,PA,f,PC,n,b,PB,g,PD,r⟩ F.heap.size 1 rfl rfl bC.out bG.out bt.out bo.out ?_;intro X cx R g1 g2;have hG:d (ae fK 13 163 R (F.alloc (ic #[O I (j:Int),O I a.c.c0,O I a.c.c1,O I a.c.c2,O I a.c.c3,J PA a.c.l.length f,J PC a.e.length n,O I b.c.c0,O I b.c.c1,O I b.c.c2,O I b.c.c3,J PB b.c.l.length g,J PD b.e.length r] 163)).drew.heap.size (J X (L.length+1) cx) (L++[⟨j,a,PA,f,PC,n,b,PB,g,PD,r⟩])/\H F.heap.size F R):=⟨g1,a2.out.trans (g2.mono a2.out.size)⟩;clear g1 g2;have b1:=(hG.out.2.cell (p:=⟨B,152,none⟩) a9.out).trans bc.out;have b2:=bn.out R hG.out.2)
    refine hK.out _ _ ?_ (fun hHeld=> ?_)
    ·(try dsimp only);exact an.out _ (by first|with_reducible exact ad.out.below a4.out|with_reducible exact ad.out.below ba.out|with_reducible exact ad.out.below hG.out.2|exact (ad.out.below hG.out.2).oth a7.out _)
    clear hK b9
    try simp only[Act.put,yA,aB,yS])
   | ((with_reducible refine isR ?_);refine rdc (by simp only[zA,z0',zS];rfl) ?_ fun b9 hK=> ?_)
   | (
    go_simp
    first
     | ((go_at_call 95;(with_reducible refine cM (bl.out _) ?_);rintro e w4 ⟨rfl,rfl⟩);first|(go_wp2_with fail)|skip)
     | skip
    refine hK.out _ _ ?_ (fun hHeld=> ?_)
    ·(try dsimp only);exact an.out _ (by first|with_reducible exact ad.out.below a4.out|with_reducible exact ad.out.below ba.out|with_reducible exact ad.out.below hG.out.2|exact (ad.out.below hG.out.2).oth a7.out _)
    clear hK b9
    try simp only[Act.put,yA,aB,yS])
 case rest =>
  obtain ⟨X,cx,R,rfl,hG⟩:=hcut
  have ao:d (bj w0 B P (R.setCell ⟨B,152,none⟩ (J X (L.length+1) cx)) ⟨M.s,M.t,M.pk++[(j,a,b)]⟩ Q):=by
   obtain ⟨X',b3,e',g1,g2,g3,g4,_⟩:=ae.full el hG.out.1
   injection e' with e1 _ e3
   subst e1 e3
   have hn:=hH.out.1.below (ah.out.2.trans (hG.out.2.mono ah.out.2.size))
   have a5:H w0.heap.size w0 R:=ah.out.2.trans (hG.out.2.mono ah.out.2.size)
   have a8:H C.heap.size C R:=ah.out.1.below.trans (hG.out.2.mono ah.out.1.size)
   have hW:Wr B 152 153 R (R.setCell ⟨B,152,none⟩ (J X (L.length+1) cx)):=Wr.set _ _ (nR _) (by omega)
   obtain ⟨u,hu⟩:=hn.blk.some (j:=152) (by omega)
   have bN:(R.setCell ⟨B,152,none⟩ (J X (L.length+1) cx)).heap.size=R.heap.size:=by simp
   have ap:B<w0.heap.size:=hH.out.1.lt
   have b8:=ah.out.2.size
   have b7:=hF.out.2.2.size
   have bh:¬af P w0.heap.size R.heap.size B:=da hH.out.1.out ap
   have a1:Agr (af P w0.heap.size R.heap.size) R (R.setCell ⟨B,152,none⟩ (J X (L.length+1) cx)):=hW.agr bh
   have b4:F.heap.size<=(F.alloc (ic #[O I (j:Int),O I a.c.c0,O I a.c.c1,O I a.c.c2,O I a.c.c3,J PA a.c.l.length f,J PC a.e.length n,O I b.c.c0,O I b.c.c1,O I b.c.c2,O I b.c.c3,J PB b.c.l.length g,J PD b.e.length r] 163)).drew.heap.size:=a2.out.size
   have h6:∀x,X=some x->w0.heap.size<=x.block:=fun x hx=>by have:=(g4 x hx).1;omega
   have a3:=hH.out.2.2.1 (by first|rfl|trivial)
   refine ⟨⟨af P w0.heap.size R.heap.size,hn.sent af.old bh (fun b hb=> ?_) hW hH.out.2.1.eq hH.out.2.2.2.1 (by rw[List.length_append];exact World.cell?_setCell_same _ _ _ hu) (g2.agr (fun a ha _=>oR ⟨h6 a ha,(g4 a ha).2.1⟩) a1) (fun a ha _=>oR ⟨h6 a ha,(g4 a ha).2.1⟩) g1 g3 (fun q hq=> ?_),fun b hb=>hb.imp id fun h=>h.1⟩,(Wr.of a5 ap).trans (hW.mono (by omega) (by omega))⟩
   ·rw[bN]
    rcases hb with hb|hb
    ·have:=hH.out.1.up b hb;have:=a5.size;omega
    ·exact hb.2
   ·rcases List.mem_append.1 hq with hq|hq
    ·have hh:=hH.out.2.1.each q hq
     exact ⟨hh.1,(((hh.2.1.below a5).mono af.old).agr a1),(((hh.2.2.below a5).mono af.old).agr a1)⟩
    ·rw[List.mem_singleton.1 hq]
     exact ⟨hH.out.2.2.2.2,(((hF.out.1.below a8).p a3.1).mono fun b hb=>oR hb).agr a1,(((hF.out.2.1.below a8).p a3.2).mono fun b hb=>oR hb).agr a1⟩
  clear hG
  go_wp2
  go_ret
  refine ⟨rfl,?_⟩
  unfold uG
  rw[if_pos rfl]
  exact ao.out

theorem AO {w:ib} {B:Nat} {P:Nat->Prop} {M:NetM} {Q:Nat->List (List Stp)} (h:NetP w B P M Q) (n:Int) (j:n<0\/(M.pk.length:Int)<=n) :
  ih Z 65 #[ia (some ⟨B,0,none⟩),O I n] w fun e w'=>e= y (O I 4)/\w'=w:=by
 obtain ⟨L,A,c,f⟩:=h.pk
 have u:=f.cel
 have g:L.length=M.pk.length:=by rw[<-f.eq,List.length_map]
 rw[<-g] at j
 clear h f g
 by_cases k:n<0
 ·go_enter Tryz.func65,Tryz.ntmps65
  go_wp2
  go_ret
  exact ⟨rfl,rfl⟩
 ·have r:(L.length:Int)<=n:=by omega
  clear j
  go_enter Tryz.func65,Tryz.ntmps65
  go_wp2
  go_ret
  exact ⟨rfl,rfl⟩
theorem ye {w:ib} {B:Nat} {P:Nat->Prop} {M:NetM} {Q:Nat->List (List Stp)} (h:NetP w B P M Q) (n:Nat) {q:Nat×Tab×Tab} (j:M.pk[n]? = some q) :
  ih Z 65 #[ia (some ⟨B,0,none⟩),O I n] w fun e w'=>e= y (O I (iS (M.s q.1) (M.t q.1) q.2.1 q.2.2))/\bj w B P w' (iB M q.1 q.2.1 q.2.2) Q:=by
 have a4:Tryz.prog.follows .mixedOrders=true:=by kernel_rfl
 obtain ⟨L,A,c,hp⟩:=h.pk
 have hc:=hp.cel
 obtain ⟨p,u,a3⟩:∃p,L[n]? = some p/\p.m=q:=by
  rw[<-hp.eq,List.getElem?_map] at j
  cases e:L[n]? with
  | none=>rw[e] at j;cases j
  | some p=>rw[e] at j;exact ⟨p,rfl,by simpa using j⟩
 subst a3
 obtain ⟨r,ao⟩:=List.getElem?_eq_some_iff.1 u
 obtain ⟨F,ap,a0⟩:=hp.each p (List.mem_of_getElem? u)
 obtain ⟨bb,a9,hA,a2,f⟩:=hp.row.at r
 subst hA
 have f:=f n r
 rw[ao] at f
 have c0:=f 0 (by omega)
 have c1:=f 1 (by omega)
 have c2:=f 2 (by omega)
 have c3:=f 3 (by omega)
 have c4:=f 4 (by omega)
 have c5:=f 5 (by omega)
 have c6:=f 6 (by omega)
 have c7:=f 7 (by omega)
 have c8:=f 8 (by omega)
 have c9:=f 9 (by omega)
 have R:=f 10 (by omega)
 have ad:=f 11 (by omega)
 have ah:=f 12 (by omega)
 simp only[fK,z0',zS,Nat.add_zero] at c0 c1 c2 c3 c4 c5 c6 c7 c8 c9 R ad ah
 have h0:¬(n:Int)<0:=by omega
 have h1:¬(L.length:Int)<=(n:Int):=by omega
 have a5:(p.tg:Int)<4:=by omega
 obtain ⟨w1,k⟩:∃W,w.alloc (ic #[O I (p.tg:Int),O I p.a.c.c0,O I p.a.c.c1,O I p.a.c.c2,O I p.a.c.c3,J p.A p.a.c.l.length p.ca,J p.C p.a.e.length p.cc,O I p.b.c.c0,O I p.b.c.c1,O I p.b.c.c2,O I p.b.c.c3,J p.B p.b.c.l.length p.cb,J p.D p.b.e.length p.cd] 163)=W:=⟨_,rfl⟩
 have an:Gr w w1:=by rw[<-k];exact (gR w).alloc _
 have a1:d (Cls w1 w.heap.size [O I (p.tg:Int),O I p.a.c.c0,O I p.a.c.c1,O I p.a.c.c2,O I p.a.c.c3,J p.A p.a.c.l.length p.ca,J p.C p.a.e.length p.cc,O I p.b.c.c0,O I p.b.c.c1,O I p.b.c.c2,O I p.b.c.c3,J p.B p.b.c.l.length p.cb,J p.D p.b.e.length p.cd]):=by show Cls _ _ _;rw[<-k];exact Cls.new w _ _
 obtain ⟨E,hE⟩:∃E,iS (M.s p.m.1) (M.t p.m.1) p.m.2.1 p.m.2.2=E:=⟨_,rfl⟩
 have hD:d (∀W,Gr w1 W->ih Z 92 #[ia (some ⟨B,p.tg*38,none⟩),ik (T2 p.a p.A p.ca p.C p.cc p.b p.B p.cb p.D p.cd).toArray] W fun e w'=>e= y (O I E)/\bj w B P w' (iB M p.m.1 p.m.2.1 p.m.2.2) Q):=fun W hW=>by
  have g:=an.trans hW
  have j:=h.below g.below
  have ha:=ap.below g.below
  have hb:=a0.below g.below
  have hd:=sZ (j.nd p.tg F) p.a p.b p.A p.B p.C p.D p.ca p.cb p.cc p.cd ha.row ha.cel hb.row hb.cel ha.len.1 ha.len.2 hb.len.1 hb.len.2 ha.nr hb.nr
  rw[show tkE (M.s p.tg) (M.t p.tg) p.a p.b=E from hE] at hd
  refine hd.mono ?_
  rintro e w' ⟨rfl,f1,f2⟩
  refine ⟨rfl,bj.ahead g.below h.lt ?_⟩
  have hc:=j.call F f1 f2 (by omega)
  rw[lN] at hc
  exact hc
 rw[hE]
 clear h an hE hp j u r ao F ap a0 a2 f
 go_enter Tryz.func65,Tryz.ntmps65
 go_upto_region 4 with fail
 try rw[k]
 clear k hc c0 c1 c2 c3 c4 c5 c6 c7 c8 c9 R ad ah
 obtain ⟨b0,b1,b2,b3,b4,b5,b6,b7,b8,b9,a6,a7,a8⟩:=DO a1.out
 go_region_with (go_at_call 92;refine cM (hD.out _ (gR _).drew) ?_;rintro e w3 ⟨rfl,f1⟩;have hF:d _:=f1;clear f1)
 all_goals
  go_wp2
  go_ret
  exact ⟨rfl,hF.out⟩
end Go.Proofs.YtjmmpnmgpgaagaaGreatDoor
