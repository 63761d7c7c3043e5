import Derived.Test.YtkefkplnamkicabGreatDoorM26
import Derived.ArgAppend
set_option maxRecDepth 100000
set_option maxHeartbeats 8000000
open Go.Ending renaming returned → H
open Go.IntKind renaming i64 → I
open Go.Obj renaming cells → F
open Go.Proofs.Tryz renaming prog → Z
open Go.Value renaming int → O, slice → J, pointer → R, agg → N, tuple → y
namespace Go.Proofs.YtkefkplnamkicabGreatDoor
open Go.RowKit Go.Sort
set_option linter.unusedSimpArgs false

def PkW (n:Nat) (w:World) (v:Value) (a b:Tab):Prop:=∃(A:Option Addr) (ca:Nat) (C:Option Addr) (cc:Nat) (B:Option Addr) (cb:Nat) (D:Option Addr) (cd:Nat),v= N (T2 a A ca C cc b B cb D cd).toArray∧TbW n w a A ca C cc∧TbW n w b B cb D cd
theorem il {n k k':Nat} {w:World} {t:Tab} {A:Option Addr} {ca:Nat} {C:Option Addr} {cc:Nat} (h1:Own w n (J A k ca) t.c.l) (h2:dv w n (J C k' cc) t.e):TbW n w t A ca C cc:=by
 obtain ⟨A',c',e,g1,g2,g3⟩:=h1.row
 injection e with e1 _ e3
 subst e1 e3
 obtain ⟨C',d',e,g4,g5,g6⟩:=ai.row dw h2
 injection e with e1 _ e3
 subst e1 e3
 exact ⟨g2,g5,g1,g4,fun a h=>(g3 a h).1,fun a h=>(g6 a h).1⟩
theorem nY {w:World} {B:Nat} {P:Nat→Prop} {M:NetM} {Q:Nat→List (List Stp)} (h:NetP w B P M Q) (i:Nat) (hi:i<4) (j:Int) :
  Calls Z 36 #[R (some ⟨B,0,none⟩),O I 2,O I i,O I j] w fun e w'=>∃v,e= H (y #[v,O I 0])∧PkW w.heap.size w' v (M.s i) (M.t i)∧Below w.heap.size w w':=by
 obtain ⟨w1,hw1⟩:∃W,w.alloc (F #[O I 0,O I 0,O I 0,O I 0,J none 0 0,J none 0 0,O I 0,O I 0,O I 0,O I 0,J none 0 0,J none 0 0] 66)=W:=⟨_,rfl⟩
 have hg1:Gr w w1:=by rw[←hw1];exact (gR w).alloc _
 have hC1:Hid (Cls w1 w.heap.size Z2):=by show Cls _ _ _;rw[←hw1];exact Cls.new w _ _
 have hi4:(i:Int)<4:=by omega
 have hWh:Hid (Calls Z 26 #[R (some ⟨B,i*38,none⟩)] w1 fun e w'=>∃(EA:Option Addr) (eca:Nat) (EC:Option Addr) (ecc:Nat) (EB:Option Addr) (ecb:Nat) (ED:Option Addr) (ecd:Nat),e= H (N (T2 (M.s i) EA eca EC ecc (M.t i) EB ecb ED ecd).toArray)∧TbW w1.heap.size w' (M.s i) EA eca EC ecc∧TbW w1.heap.size w' (M.t i) EB ecb ED ecd∧Below w1.heap.size w1 w'):=by
  refine (jW ((h.below hg1.below).nd i hi)).mono ?_
  rintro e w' ⟨EA,eca,EC,ecc,EB,ecb,ED,ecd,rfl,f1,f2,f3⟩
  exact ⟨EA,eca,EC,ecc,EB,ecb,ED,ecd,rfl,il f1.1 f1.2,il f2.1 f2.2,f3⟩
 obtain ⟨S,hS⟩:∃S,M.s i=S:=⟨_,rfl⟩
 obtain ⟨T,hT⟩:∃T,M.t i=T:=⟨_,rfl⟩
 rw[hS,hT] at hWh
 rw[hS,hT]
 have hgH:Hid (Gr w w1):=hg1
 clear h hi hg1 hS hT
 go_enter Tryz.func36,Tryz.ntmps36
 go_wp2_with fail
 try rw[hw1]
 clear hw1
 refine cM (show Calls _ _ _ _ _ from hWh.out) ?_
 rintro e w2 ⟨EA,eca,EC,ecc,EB,ecb,ED,ecd,rfl,f1,f2,f3⟩
 have hF:Hid (TbW w1.heap.size w2 S EA eca EC ecc∧TbW w1.heap.size w2 T EB ecb ED ecd∧Below w1.heap.size w1 w2∧Cls w2 w.heap.size Z2):=⟨f1,f2,f3,hC1.out.below f3⟩
 clear f1 f2 f3 hWh
 obtain ⟨p0,p1,p2,p3,p4,p5,p6,p7,p8,p9,p10,p11⟩:=gl hF.out.2.2.2
 obtain ⟨z0,z1,z2,z3,z4,z5,z6,z7,z8,z9,z10,z11⟩:=oI hF.out.2.2.2
 go_wp2
 have hlt:w.heap.size<w1.heap.size:=by have:=hgH.out.size;have:=hC1.out.lt;omega
 have hb:Below w.heap.size w w2:=hgH.out.below.trans (hF.out.2.2.1.mono hgH.out.size)
 have hAg:Agr (fun b=>w1.heap.size≤b) w2 ((((((((((((w2.setCell ⟨w.heap.size,0,none⟩ (O I S.c.c0)).setCell ⟨w.heap.size,1,none⟩ (O I S.c.c1)).setCell ⟨w.heap.size,2,none⟩ (O I S.c.c2)).setCell ⟨w.heap.size,3,none⟩ (O I S.c.c3)).setCell ⟨w.heap.size,4,none⟩ (J EA S.c.l.length eca)).setCell ⟨w.heap.size,5,none⟩ (J EC S.e.length ecc)).setCell ⟨w.heap.size,6,none⟩ (O I T.c.c0)).setCell ⟨w.heap.size,7,none⟩ (O I T.c.c1)).setCell ⟨w.heap.size,8,none⟩ (O I T.c.c2)).setCell ⟨w.heap.size,9,none⟩ (O I T.c.c3)).setCell ⟨w.heap.size,10,none⟩ (J EB T.c.l.length ecb)).setCell ⟨w.heap.size,11,none⟩ (J ED T.e.length ecd)):=((((((((((((aS _ fun h=>by omega).trans (aS _ fun h=>by omega)).trans (aS _ fun h=>by omega)).trans (aS _ fun h=>by omega)).trans (aS _ fun h=>by omega)).trans (aS _ fun h=>by omega)).trans (aS _ fun h=>by omega)).trans (aS _ fun h=>by omega)).trans (aS _ fun h=>by omega)).trans (aS _ fun h=>by omega)).trans (aS _ fun h=>by omega)).trans (aS _ fun h=>by omega))
 have hfin:Hid (TbW w.heap.size ((((((((((((w2.setCell ⟨w.heap.size,0,none⟩ (O I S.c.c0)).setCell ⟨w.heap.size,1,none⟩ (O I S.c.c1)).setCell ⟨w.heap.size,2,none⟩ (O I S.c.c2)).setCell ⟨w.heap.size,3,none⟩ (O I S.c.c3)).setCell ⟨w.heap.size,4,none⟩ (J EA S.c.l.length eca)).setCell ⟨w.heap.size,5,none⟩ (J EC S.e.length ecc)).setCell ⟨w.heap.size,6,none⟩ (O I T.c.c0)).setCell ⟨w.heap.size,7,none⟩ (O I T.c.c1)).setCell ⟨w.heap.size,8,none⟩ (O I T.c.c2)).setCell ⟨w.heap.size,9,none⟩ (O I T.c.c3)).setCell ⟨w.heap.size,10,none⟩ (J EB T.c.l.length ecb)).setCell ⟨w.heap.size,11,none⟩ (J ED T.e.length ecd)) S EA eca EC ecc∧TbW w.heap.size ((((((((((((w2.setCell ⟨w.heap.size,0,none⟩ (O I S.c.c0)).setCell ⟨w.heap.size,1,none⟩ (O I S.c.c1)).setCell ⟨w.heap.size,2,none⟩ (O I S.c.c2)).setCell ⟨w.heap.size,3,none⟩ (O I S.c.c3)).setCell ⟨w.heap.size,4,none⟩ (J EA S.c.l.length eca)).setCell ⟨w.heap.size,5,none⟩ (J EC S.e.length ecc)).setCell ⟨w.heap.size,6,none⟩ (O I T.c.c0)).setCell ⟨w.heap.size,7,none⟩ (O I T.c.c1)).setCell ⟨w.heap.size,8,none⟩ (O I T.c.c2)).setCell ⟨w.heap.size,9,none⟩ (O I T.c.c3)).setCell ⟨w.heap.size,10,none⟩ (J EB T.c.l.length ecb)).setCell ⟨w.heap.size,11,none⟩ (J ED T.e.length ecd)) T EB ecb ED ecd∧Below w.heap.size w ((((((((((((w2.setCell ⟨w.heap.size,0,none⟩ (O I S.c.c0)).setCell ⟨w.heap.size,1,none⟩ (O I S.c.c1)).setCell ⟨w.heap.size,2,none⟩ (O I S.c.c2)).setCell ⟨w.heap.size,3,none⟩ (O I S.c.c3)).setCell ⟨w.heap.size,4,none⟩ (J EA S.c.l.length eca)).setCell ⟨w.heap.size,5,none⟩ (J EC S.e.length ecc)).setCell ⟨w.heap.size,6,none⟩ (O I T.c.c0)).setCell ⟨w.heap.size,7,none⟩ (O I T.c.c1)).setCell ⟨w.heap.size,8,none⟩ (O I T.c.c2)).setCell ⟨w.heap.size,9,none⟩ (O I T.c.c3)).setCell ⟨w.heap.size,10,none⟩ (J EB T.c.l.length ecb)).setCell ⟨w.heap.size,11,none⟩ (J ED T.e.length ecd))):=⟨(hF.out.1.agr hAg).mono (by omega),(hF.out.2.1.agr hAg).mono (by omega),((((((((((((hb.setCell (nR _) _).setCell (nR _) _).setCell (nR _) _).setCell (nR _) _).setCell (nR _) _).setCell (nR _) _).setCell (nR _) _).setCell (nR _) _).setCell (nR _) _).setCell (nR _) _).setCell (nR _) _).setCell (nR _) _)⟩
 clear hlt hb hAg
 exact bodyPost_ret (v:= y #[N (T2 S EA eca EC ecc T EB ecb ED ecd).toArray,O I 0]) (by simp[results,Tryz.results36,go_sem,p0,p1,p2,p3,p4,p5,p6,p7,p8,p9,p10,p11]) rfl ⟨_,rfl,⟨EA,eca,EC,ecc,EB,ecb,ED,ecd,rfl,hfin.out.1,hfin.out.2.1⟩,hfin.out.2.2⟩
theorem ru {t:Tab} (h:am t=0):t.c.l.length≤maxLen:=by
 have h1:=(bE (af h).1).2.1
 unfold maxLen
 omega
theorem Own.rows {w:World} {base n c:Nat} {A:Option Addr} {l:List (Int×Int)} (h:Own w base (J A n c) l):Row w A l∧(A=none→c=0):=by
 obtain ⟨A',c',e,h1,h2,_⟩:=h.row
 injection e with e1 _ e3
 subst e1 e3
 exact ⟨h2,h1⟩
theorem pu {w:World} {B:Nat} {P:Nat→Prop} {M:NetM} {Q:Nat→List (List Stp)} (h:NetP w B P M Q) (i j:Nat) (hi:i<4) (hj:j<4) :
  Calls Z 36 #[R (some ⟨B,0,none⟩),O I 3,O I i,O I j] w fun e w'=>∃v,e= H (y #[v,O I (o9 (M.s i) (M.t i) (M.s j).c (M.t j).c)])∧PkW w.heap.size w' v (snS (M.s i) (M.t i) (M.s j).c (M.t j).c) (snT (M.s i) (M.t i) (M.s j).c (M.t j).c)∧Below w.heap.size w w':=by
 have mixed:Tryz.prog.follows .mixedOrders=true:=by kernel_rfl
 obtain ⟨w1,hw1⟩:∃W,w.alloc (F #[O I 0,O I 0,O I 0,O I 0,J none 0 0,J none 0 0,O I 0,O I 0,O I 0,O I 0,J none 0 0,J none 0 0] 66)=W:=⟨_,rfl⟩
 have hg1:Gr w w1:=by rw[←hw1];exact (gR w).alloc _
 have hC1:Hid (Cls w1 w.heap.size Z2):=by show Cls _ _ _;rw[←hw1];exact Cls.new w _ _
 have hi4:(i:Int)<4:=by omega
 have hj4:(j:Int)<4:=by omega
 obtain ⟨U,hU⟩:∃S,M.s j=S:=⟨_,rfl⟩
 obtain ⟨V,hV⟩:∃T,M.t j=T:=⟨_,rfl⟩
 obtain ⟨X,hX⟩:∃S,(snS (M.s i) (M.t i) (M.s j).c (M.t j).c)=S:=⟨_,rfl⟩
 obtain ⟨Y,hY⟩:∃S,(snT (M.s i) (M.t i) (M.s j).c (M.t j).c)=S:=⟨_,rfl⟩
 obtain ⟨E,hE⟩:∃E,o9 (M.s i) (M.t i) (M.s j).c (M.t j).c=E:=⟨_,rfl⟩
 have hSn:Hid (∀W,Gr w1 W→Calls Z 52 #[R (some ⟨B,j*38,none⟩)] W fun e w'=>∃(FA:Option Addr) (fca:Nat) (FB:Option Addr) (fcb:Nat),e= H (N #[O I U.c.c0,O I U.c.c1,O I U.c.c2,O I U.c.c3,J FA U.c.l.length fca,O I V.c.c0,O I V.c.c1,O I V.c.c2,O I V.c.c3,J FB V.c.l.length fcb])∧Row w' FA U.c.l∧Row w' FB V.c.l∧Below W.heap.size W w'):=fun W hW=>by
  have hs:=vL ((h.below (hg1.trans hW).below).nd j hj)
  rw[hU,hV] at hs
  refine hs.mono ?_
  rintro e w' ⟨EA,eca,EB,ecb,rfl,f1,f2,f3⟩
  exact ⟨EA,eca,EB,ecb,rfl,f1.rows.1,f2.rows.1,f3⟩
 have hSc:Hid (∀W,Below w1.heap.size w1 W→∀FA fca FB fcb,Row W FA U.c.l→Row W FB V.c.l→Calls Z 51 #[R (some ⟨B,i*38,none⟩),N #[O I U.c.c0,O I U.c.c1,O I U.c.c2,O I U.c.c3,J FA U.c.l.length fca,O I V.c.c0,O I V.c.c1,O I V.c.c2,O I V.c.c3,J FB V.c.l.length fcb]] W fun e w'=>∃(EA:Option Addr) (eca:Nat) (EC:Option Addr) (ecc:Nat) (EB:Option Addr) (ecb:Nat) (ED:Option Addr) (ecd:Nat),e= H (y #[N (T2 X EA eca EC ecc Y EB ecb ED ecd).toArray,O I E])∧TbW W.heap.size w' X EA eca EC ecc∧TbW W.heap.size w' Y EB ecb ED ecd∧Below W.heap.size W w'):=fun W hW FA fca FB fcb r1 r2=>by
  have hn:=h.below (hg1.below.trans (hW.mono hg1.size))
  have l1:=(hn.nd j hj).ts.ok
  have l2:=(hn.nd j hj).tt.ok
  rw[hU] at l1
  rw[hV] at l2
  have hs:=xE (hn.nd i hi) U.c V.c FA FB fca fcb r1 r2 (ru l1) (ru l2)
  rw[←hU,←hV,show gf (M.s i) (M.t i) (M.s j).c (M.t j).c=E from hE,hX,hY,hU,hV] at hs
  exact hs
 rw[hE,hX,hY]
 have hgH:Hid (Gr w w1):=hg1
 clear h hi hj hg1 hE hX hY hU hV
 go_enter Tryz.func36,Tryz.ntmps36
 go_upto_region 3 with fail
 try rw[hw1]
 clear hw1
 go_cut [8,9] from 10 to 32 (fun v8 v9 wx=>v9= O I E∧v8= R (some ⟨w.heap.size,0,none⟩)∧∃(EA:Option Addr) (eca:Nat) (EC:Option Addr) (ecc:Nat) (EB:Option Addr) (ecb:Nat) (ED:Option Addr) (ecd:Nat),Hid (Cls wx w.heap.size (T2 X EA eca EC ecc Y EB ecb ED ecd)∧TbW w.heap.size wx X EA eca EC ecc∧TbW w.heap.size wx Y EB ecb ED ecd∧Below w.heap.size w wx))
 case first =>
  go_region_with (first|(go_at_call 52;(with_reducible refine cM (hSn.out _ (gR w1).drew) ?_);rintro e w2 ⟨FA,fca,FB,fcb,rfl,f1,f2,f3⟩;have hF:Hid (Row w2 FA U.c.l∧Row w2 FB V.c.l∧Below w1.heap.size w1 w2):=⟨f1,f2,(gR w1).drew.below.trans f3⟩;clear f1 f2 f3)|(go_at_call 51;(with_reducible refine cM (hSc.out _ hF.out.2.2 FA fca FB fcb hF.out.1 hF.out.2.1) ?_);rintro e w3 ⟨EA,eca,EC,ecc,EB,ecb,ED,ecd,rfl,f1,f2,f3⟩;have hb:Below w1.heap.size w1 w3:=hF.out.2.2.trans (f3.mono hF.out.2.2.size);have hG:Hid (TbW w1.heap.size w3 X EA eca EC ecc∧TbW w1.heap.size w3 Y EB ecb ED ecd∧Below w1.heap.size w1 w3∧Cls w3 w.heap.size Z2):=⟨f1.mono hF.out.2.2.size,f2.mono hF.out.2.2.size,hb,hC1.out.below hb⟩;clear f1 f2 f3 hb;have p0:=hG.out.2.2.2.cell (j:=0) rfl;have z0:=hG.out.2.2.2.fz 0;have p1:=hG.out.2.2.2.cell (j:=1) rfl;have z1:=hG.out.2.2.2.fz 1;have p2:=hG.out.2.2.2.cell (j:=2) rfl;have z2:=hG.out.2.2.2.fz 2;have p3:=hG.out.2.2.2.cell (j:=3) rfl;have z3:=hG.out.2.2.2.fz 3;have p4:=hG.out.2.2.2.cell (j:=4) rfl;have z4:=hG.out.2.2.2.fz 4;have p5:=hG.out.2.2.2.cell (j:=5) rfl;have z5:=hG.out.2.2.2.fz 5;have p6:=hG.out.2.2.2.cell (j:=6) rfl;have z6:=hG.out.2.2.2.fz 6;have p7:=hG.out.2.2.2.cell (j:=7) rfl;have z7:=hG.out.2.2.2.fz 7;have p8:=hG.out.2.2.2.cell (j:=8) rfl;have z8:=hG.out.2.2.2.fz 8;have p9:=hG.out.2.2.2.cell (j:=9) rfl;have z9:=hG.out.2.2.2.fz 9;have p10:=hG.out.2.2.2.cell (j:=10) rfl;have z10:=hG.out.2.2.2.fz 10;have p11:=hG.out.2.2.2.cell (j:=11) rfl;have z11:=hG.out.2.2.2.fz 11))
  all_goals
   have hfin:Hid (Cls ((((((((((((w3.setCell ⟨w.heap.size,0,none⟩ (O I X.c.c0)).setCell ⟨w.heap.size,1,none⟩ (O I X.c.c1)).setCell ⟨w.heap.size,2,none⟩ (O I X.c.c2)).setCell ⟨w.heap.size,3,none⟩ (O I X.c.c3)).setCell ⟨w.heap.size,4,none⟩ (J EA X.c.l.length eca)).setCell ⟨w.heap.size,5,none⟩ (J EC X.e.length ecc)).setCell ⟨w.heap.size,6,none⟩ (O I Y.c.c0)).setCell ⟨w.heap.size,7,none⟩ (O I Y.c.c1)).setCell ⟨w.heap.size,8,none⟩ (O I Y.c.c2)).setCell ⟨w.heap.size,9,none⟩ (O I Y.c.c3)).setCell ⟨w.heap.size,10,none⟩ (J EB Y.c.l.length ecb)).setCell ⟨w.heap.size,11,none⟩ (J ED Y.e.length ecd)) w.heap.size [O I X.c.c0,O I X.c.c1,O I X.c.c2,O I X.c.c3,J EA X.c.l.length eca,J EC X.e.length ecc,O I Y.c.c0,O I Y.c.c1,O I Y.c.c2,O I Y.c.c3,J EB Y.c.l.length ecb,J ED Y.e.length ecd]∧TbW w.heap.size ((((((((((((w3.setCell ⟨w.heap.size,0,none⟩ (O I X.c.c0)).setCell ⟨w.heap.size,1,none⟩ (O I X.c.c1)).setCell ⟨w.heap.size,2,none⟩ (O I X.c.c2)).setCell ⟨w.heap.size,3,none⟩ (O I X.c.c3)).setCell ⟨w.heap.size,4,none⟩ (J EA X.c.l.length eca)).setCell ⟨w.heap.size,5,none⟩ (J EC X.e.length ecc)).setCell ⟨w.heap.size,6,none⟩ (O I Y.c.c0)).setCell ⟨w.heap.size,7,none⟩ (O I Y.c.c1)).setCell ⟨w.heap.size,8,none⟩ (O I Y.c.c2)).setCell ⟨w.heap.size,9,none⟩ (O I Y.c.c3)).setCell ⟨w.heap.size,10,none⟩ (J EB Y.c.l.length ecb)).setCell ⟨w.heap.size,11,none⟩ (J ED Y.e.length ecd)) X EA eca EC ecc∧TbW w.heap.size ((((((((((((w3.setCell ⟨w.heap.size,0,none⟩ (O I X.c.c0)).setCell ⟨w.heap.size,1,none⟩ (O I X.c.c1)).setCell ⟨w.heap.size,2,none⟩ (O I X.c.c2)).setCell ⟨w.heap.size,3,none⟩ (O I X.c.c3)).setCell ⟨w.heap.size,4,none⟩ (J EA X.c.l.length eca)).setCell ⟨w.heap.size,5,none⟩ (J EC X.e.length ecc)).setCell ⟨w.heap.size,6,none⟩ (O I Y.c.c0)).setCell ⟨w.heap.size,7,none⟩ (O I Y.c.c1)).setCell ⟨w.heap.size,8,none⟩ (O I Y.c.c2)).setCell ⟨w.heap.size,9,none⟩ (O I Y.c.c3)).setCell ⟨w.heap.size,10,none⟩ (J EB Y.c.l.length ecb)).setCell ⟨w.heap.size,11,none⟩ (J ED Y.e.length ecd)) Y EB ecb ED ecd∧Below w.heap.size w ((((((((((((w3.setCell ⟨w.heap.size,0,none⟩ (O I X.c.c0)).setCell ⟨w.heap.size,1,none⟩ (O I X.c.c1)).setCell ⟨w.heap.size,2,none⟩ (O I X.c.c2)).setCell ⟨w.heap.size,3,none⟩ (O I X.c.c3)).setCell ⟨w.heap.size,4,none⟩ (J EA X.c.l.length eca)).setCell ⟨w.heap.size,5,none⟩ (J EC X.e.length ecc)).setCell ⟨w.heap.size,6,none⟩ (O I Y.c.c0)).setCell ⟨w.heap.size,7,none⟩ (O I Y.c.c1)).setCell ⟨w.heap.size,8,none⟩ (O I Y.c.c2)).setCell ⟨w.heap.size,9,none⟩ (O I Y.c.c3)).setCell ⟨w.heap.size,10,none⟩ (J EB Y.c.l.length ecb)).setCell ⟨w.heap.size,11,none⟩ (J ED Y.e.length ecd))):=by
    have hlt:w.heap.size<w1.heap.size:=hC1.out.lt
    have hb:Below w.heap.size w w3:=hgH.out.below.trans (hG.out.2.2.1.mono hgH.out.size)
    have hAg:Agr (fun b=>w1.heap.size≤b) w3 ((((((((((((w3.setCell ⟨w.heap.size,0,none⟩ (O I X.c.c0)).setCell ⟨w.heap.size,1,none⟩ (O I X.c.c1)).setCell ⟨w.heap.size,2,none⟩ (O I X.c.c2)).setCell ⟨w.heap.size,3,none⟩ (O I X.c.c3)).setCell ⟨w.heap.size,4,none⟩ (J EA X.c.l.length eca)).setCell ⟨w.heap.size,5,none⟩ (J EC X.e.length ecc)).setCell ⟨w.heap.size,6,none⟩ (O I Y.c.c0)).setCell ⟨w.heap.size,7,none⟩ (O I Y.c.c1)).setCell ⟨w.heap.size,8,none⟩ (O I Y.c.c2)).setCell ⟨w.heap.size,9,none⟩ (O I Y.c.c3)).setCell ⟨w.heap.size,10,none⟩ (J EB Y.c.l.length ecb)).setCell ⟨w.heap.size,11,none⟩ (J ED Y.e.length ecd)):=((((((((((((aS _ fun h=>by omega).trans (aS _ fun h=>by omega)).trans (aS _ fun h=>by omega)).trans (aS _ fun h=>by omega)).trans (aS _ fun h=>by omega)).trans (aS _ fun h=>by omega)).trans (aS _ fun h=>by omega)).trans (aS _ fun h=>by omega)).trans (aS _ fun h=>by omega)).trans (aS _ fun h=>by omega)).trans (aS _ fun h=>by omega)).trans (aS _ fun h=>by omega))
    exact ⟨((((((((((((hG.out.2.2.2.put 0 _).put 1 _).put 2 _).put 3 _).put 4 _).put 5 _).put 6 _).put 7 _).put 8 _).put 9 _).put 10 _).put 11 _),(hG.out.1.agr hAg).mono (by omega),(hG.out.2.1.agr hAg).mono (by omega),((((((((((((hb.setCell (nR _) _).setCell (nR _) _).setCell (nR _) _).setCell (nR _) _).setCell (nR _) _).setCell (nR _) _).setCell (nR _) _).setCell (nR _) _).setCell (nR _) _).setCell (nR _) _).setCell (nR _) _).setCell (nR _) _)⟩
   clear hG
   go_wp2_with fail
   go_meet
   case rel=>exact ⟨rfl,rfl,EA,eca,EC,ecc,EB,ecb,ED,ecd,hfin⟩
 case rest =>
  obtain ⟨rfl,rfl,EA,eca,EC,ecc,EB,ecb,ED,ecd,hR⟩:=hcut
  obtain ⟨q0,q1,q2,q3,q4,q5,q6,q7,q8,q9,q10,q11⟩:=gl hR.out.1
  go_wp2
  exact bodyPost_ret (v:= y #[N (T2 X EA eca EC ecc Y EB ecb ED ecd).toArray,O I E]) (by simp[results,Tryz.results36,go_sem,q0,q1,q2,q3,q4,q5,q6,q7,q8,q9,q10,q11]) rfl ⟨_,rfl,⟨EA,eca,EC,ecc,EB,ecb,ED,ecd,rfl,hR.out.2.1,hR.out.2.2.1⟩,hR.out.2.2.2⟩
theorem infoS:(Tryz.prog.info? 101).map (fun i=>(i.zero,i.size,i.bytes))=some (some (N #[O I 0,O I 0,O I 0,O I 0,O I 0,J none 0 0,J none 0 0,O I 0,O I 0,O I 0,O I 0,J none 0 0,J none 0 0]),13,168):=by kernel_rfl
theorem xH (w:World) {ops:Array Oper} {o:Oper} {a:Act} {K:Act→World→Prop} {Q:Exit→Act→World→Prop} {E:Prop} (hgd:o.guard=none) (s z:Operand)
  (ho:o.op= .call { callee:= .builtin .append,args:= #[s,z],argTypes:= #[78,78] })
  (A:Option Addr) (L:List Pkm) (p:Pkm) (X:Nat) (cap:Nat) (hs:a.eval s= J A L.length L.length) (hz:a.eval z= J (some ⟨X,0,none⟩) 1 cap) (hr:ay f8 13 w A L) (hx:ay f8 13 w (some ⟨X,0,none⟩) [p]) (hn:A=none→L=[]) (hl:L.length+1≤200)
  (h:∀X cx w',ai f8 13 101 w' w.heap.size (J X (L.length+1) cx) (L++[p])→Below w.heap.size w w'→K (a.put o.dst (J X (L.length+1) cx)) w') :
  if Region.wanted o (yielded ops a.tmps)=true then Oper.wp Z o a w K Q else E:=by
 have hw:Region.wanted o (yielded ops a.tmps)=true:=by simp[Region.wanted,hgd]
 rw[if_pos hw]
 obtain ⟨i0,hi,hz0,hz1,hz2⟩:=info_parts infoS
 have hlen:L.length+1≤maxLen:=by unfold maxLen;omega
 have hby:(L.length+1)*168≤140737488355328:=by omega
 obtain ⟨v',w',g1,g2,g3⟩:∃v' w',(Builtin.append_ #[78,78] o.type #[J A L.length L.length,J (some ⟨X,0,none⟩) 1 cap]).run Z w= .ok v' w'∧w'.ownsRow w.heap.size 101 13 v' (L.length+1) (aI f8 L++aI f8 [p])∧w.grownBy w' none:=by
  cases A with
  | none =>
   obtain rfl:=hn rfl
   obtain ⟨v',w',g1,g2,g3,_⟩:=run_append_own (P:=Z) w w.heap.size 78 o.type 101 i0 (N #[O I 0,O I 0,O I 0,O I 0,O I 0,J none 0 0,J none 0 0,O I 0,O I 0,O I 0,O I 0,J none 0 0,J none 0 0]) 13 168 Tryz.underlying78 hi hz0 hz1 hz2 rfl (by omega) (J none 0 0) 0 [] (World.ownsRow_nil w _ _ 13) ⟨X,0,none⟩ 1 cap (aI f8 [p]) (bu dS [p]) (hx.cells dS (by omega)) (fun u hu=>dL uy u [p] hu) hlen hby (nR _)
   exact ⟨v',w',g1,g2,g3⟩
  | some b=>exact run_append_arg_grows (P:=Z) w 78 o.type 101 i0 (N #[O I 0,O I 0,O I 0,O I 0,O I 0,J none 0 0,J none 0 0,O I 0,O I 0,O I 0,O I 0,J none 0 0,J none 0 0]) 13 168 Tryz.underlying78 hi hz0 hz1 hz2 rfl (by omega) b L.length L.length (aI f8 L) (bu dS L) (hr.cells dS (by omega)) ⟨X,0,none⟩ 1 cap (aI f8 [p]) (bu dS [p]) (hx.cells dS (by omega)) (by omega) hlen hby
 have h2:ai f8 13 101 w' w.heap.size v' (L++[p]):=by
  show w'.ownsRow _ _ 13 v' (L++[p]).length (aI f8 (L++[p]))
  rw[List.length_append,cE]
  exact g2
 unfold Oper.wp execOp
 simp only[ho,resolve,invoke,builtin,Sem.run_bind,Sem.run_pure,Result.andThen_ok,List.map_toArray,List.map_cons,List.map_nil,hs,hz,g1]
 obtain ⟨X,cx,e,_⟩:=ai.full dS h2
 rw[show (L++[p]).length=L.length+1 from List.length_append] at e
 subst e
 exact h X cx w' h2 (dC g3)
theorem ui (A:Option Addr) (n c:Nat) (hA:A=none→c=0) (hn:n≤c) (w:World):Calls Z 37 #[J A n c] w fun e w'=>e= H (J A n n)∧w'=w:=by
 cases A with
 | none =>
  obtain rfl:=hA rfl
  obtain rfl:n=0:=by omega
  go_enter Tryz.func37,Tryz.ntmps37
  go_wp2
  go_ret
  exact ⟨rfl,rfl⟩
 | some a =>
  go_enter Tryz.func37,Tryz.ntmps37
  go_wp2
  go_ret
  exact ⟨rfl,rfl⟩
theorem xx {W:World} {n:Nat} (hn:W.heap.size=n) (p:Pkm) (T:TypeId):ay f8 13 (W.alloc (F #[O I (p.tg:Int),O I p.a.c.c0,O I p.a.c.c1,O I p.a.c.c2,O I p.a.c.c3,J p.A p.a.c.l.length p.ca,J p.C p.a.e.length p.cc,O I p.b.c.c0,O I p.b.c.c1,O I p.b.c.c2,O I p.b.c.c3,J p.B p.b.c.l.length p.cb,J p.D p.b.e.length p.cd] T)) (some ⟨n,0,none⟩) [p]:=by
 subst hn
 refine oR ⟨W.heap.size,0,rfl,by simp,fun j hj i hi=> ?_⟩
 obtain rfl:j=0:=by simp at hj;omega
 have hC:=Cls.new W #[O I (p.tg:Int),O I p.a.c.c0,O I p.a.c.c1,O I p.a.c.c2,O I p.a.c.c3,J p.A p.a.c.l.length p.ca,J p.C p.a.e.length p.cc,O I p.b.c.c0,O I p.b.c.c1,O I p.b.c.c2,O I p.b.c.c3,J p.B p.b.c.l.length p.cb,J p.D p.b.e.length p.cd] T
 obtain ⟨v,hv⟩:∃v,(f8 p)[i]? = some v:=⟨_,List.getElem?_eq_getElem (by rw[dS];exact hi)⟩
 rw[show 0+0*13+i=i by omega]
 exact (hC.cell hv).trans hv.symm
def re (M:NetM) (E:Int) (j:Nat) (a b:Tab):NetM:=if E=0 then ⟨M.s,M.t,M.pk++[(j,a,b)]⟩ else M
theorem pD {w:World} {B:Nat} {P:Nat→Prop} {M:NetM} {Q:Nat→List (List Stp)} (h:NetP w B P M Q) (k:Int) (i j:Nat) (hi:i<4) (hj:j<4) (hl:M.pk.length<200) {a b:Tab} {E:Int} (hab:E=0→am a=0∧am b=0)
  (hp:Calls Z 36 #[R (some ⟨B,0,none⟩),O I k,O I i,O I j] w fun e w'=>∃v,e= H (y #[v,O I E])∧PkW w.heap.size w' v a b∧Below w.heap.size w w') :
  Calls Z 22 #[R (some ⟨B,0,none⟩),O I k,O I i,O I j] w fun e w'=>e= H (O I E)∧bk w B P w' (re M E j a b) Q:=by
 have mixed:Tryz.prog.follows .mixedOrders=true:=by kernel_rfl
 obtain ⟨L,A,c,hk⟩:=h.pk
 have hL:L.length=M.pk.length:=by rw[←hk.eq,List.length_map]
 have c152:=hk.cel
 have hlz:¬(200:Int)≤(L.length:Int):=by omega
 have hN1:Hid (∀W,Calls Z 25 #[O I i] W fun e w'=>e= H (.bool true)∧w'=W):=df i hi
 have hN2:Hid (∀W,Calls Z 25 #[O I j] W fun e w'=>e= H (.bool true)∧w'=W):=df j hj
 have hP:Hid _:=hp
 have hH:Hid (NetP w B P M Q∧Pks w B P M.pk L A c∧(E=0→am a=0∧am b=0)∧L.length<200∧j<4):=⟨h,hk,hab,by omega,hj⟩
 have hNl:Hid (A=none→L=[]):=fun e=>by
  have h1:=hk.nil e
  have h2:=hk.cap
  exact List.eq_nil_of_length_eq_zero (by omega)
 have hCl:Hid (∀W,Calls Z 37 #[J A L.length c] W fun e w'=>e= H (J A L.length L.length)∧w'=W):=ui A L.length c hk.nil hk.cap
 clear h hk hL hl hi hj hp hab
 go_enter Tryz.func22,Tryz.ntmps22
 go_wp2_with fail
 refine cM (hN1.out _) ?_
 rintro e w1 ⟨rfl,rfl⟩
 go_wp2_with fail
 refine cM (hN2.out _) ?_
 rintro e w0 ⟨rfl,rfl⟩
 go_wp2_with fail
 refine cM (show Calls _ _ _ _ _ from hP.out) ?_
 rintro e w2 ⟨v,rfl,⟨PA,pca,PC,pcc,PB,pcb,PD,pcd,rfl,f1,f2⟩,f3⟩
 have hF:Hid (TbW w0.heap.size w2 a PA pca PC pcc∧TbW w0.heap.size w2 b PB pcb PD pcd∧Below w0.heap.size w0 w2):=⟨f1,f2,f3⟩
 clear f1 f2 f3 hP c152
 by_cases he:E=0
 rotate_left
 ·have heb:(E != 0)=true:=by simpa using he
  have hfin:Hid (bk w0 B P (w2.alloc (F #[O I a.c.c0,O I a.c.c1,O I a.c.c2,O I a.c.c3,J PA a.c.l.length pca,J PC a.e.length pcc,O I b.c.c0,O I b.c.c1,O I b.c.c2,O I b.c.c3,J PB b.c.l.length pcb,J PD b.e.length pcd] 66)) M Q∧E≠0):=⟨bk.same hH.out.1 (hF.out.2.2.alloc hF.out.2.2.size _),he⟩
  clear he
  go_wp2
  go_ret
  refine ⟨rfl,?_⟩
  unfold re
  rw[if_neg hfin.out.2]
  exact hfin.out.1
 subst he
 obtain ⟨w3,hw3⟩:∃W,w2.alloc (F #[O I a.c.c0,O I a.c.c1,O I a.c.c2,O I a.c.c3,J PA a.c.l.length pca,J PC a.e.length pcc,O I b.c.c0,O I b.c.c1,O I b.c.c2,O I b.c.c3,J PB b.c.l.length pcb,J PD b.e.length pcd] 66)=W:=⟨_,rfl⟩
 have hg3:Gr w2 w3:=by rw[←hw3];exact (gR w2).alloc _
 have hb3:Below w0.heap.size w0 w3:=hF.out.2.2.trans (hg3.below.mono hF.out.2.2.size)
 have hBx:Hid (Cls w3 w2.heap.size (T2 a PA pca PC pcc b PB pcb PD pcd)):=by show Cls _ _ _;rw[←hw3];exact Cls.new w2 _ _
 have hB0:B<w0.heap.size:=hH.out.1.lt
 have hBl:Hid (B<w3.heap.size):=nL hB0 hb3.size
 have hc3:Hid (w3.cell? ⟨B,152,none⟩=some (J A L.length c)):=(hb3.cell (p:=⟨B,152,none⟩) hB0).trans hH.out.2.1.cel
 have hFz:Hid (∀W,Below w3.heap.size w3 W→W.frozen? ⟨B,152,none⟩=false):=fun W hW=>((hH.out.1.blk.below hb3).below hW).fz 152
 have h3H:Hid (Gr w2 w3∧Below w0.heap.size w0 w3):=⟨hg3,hb3⟩
 have hAl:Hid (Below w3.heap.size w3 (w3.alloc (F #[O I (j:Int),O I a.c.c0,O I a.c.c1,O I a.c.c2,O I a.c.c3,J PA a.c.l.length pca,J PC a.e.length pcc,O I b.c.c0,O I b.c.c1,O I b.c.c2,O I b.c.c3,J PB b.c.l.length pcb,J PD b.e.length pcd] 101)).drew):=((gR w3).alloc _).drew.below
 have hRw:Hid (ay f8 13 (w3.alloc (F #[O I (j:Int),O I a.c.c0,O I a.c.c1,O I a.c.c2,O I a.c.c3,J PA a.c.l.length pca,J PC a.e.length pcc,O I b.c.c0,O I b.c.c1,O I b.c.c2,O I b.c.c3,J PB b.c.l.length pcb,J PD b.e.length pcd] 101)).drew A L):=(hH.out.2.1.row.below hb3).below hAl.out
 have hRx:Hid (ay f8 13 (w3.alloc (F #[O I (j:Int),O I a.c.c0,O I a.c.c1,O I a.c.c2,O I a.c.c3,J PA a.c.l.length pca,J PC a.e.length pcc,O I b.c.c0,O I b.c.c1,O I b.c.c2,O I b.c.c3,J PB b.c.l.length pcb,J PD b.e.length pcd] 101)).drew (some ⟨w3.heap.size,0,none⟩) [⟨j,a,PA,pca,PC,pcc,b,PB,pcb,PD,pcd⟩]):=(xx (W:=w3) rfl ⟨j,a,PA,pca,PC,pcc,b,PB,pcb,PD,pcd⟩ 101).gr (gR _).drew
 have hLn:Hid (L.length+1≤200):=hH.out.2.2.2.1
 clear hg3 hb3 hB0
 go_upto_region 8 with fail
 try rw[hw3]
 clear hw3
 go_cut [8] from 9 to 49 (fun v8 wx=>∃X cx w5,wx=w5.setCell ⟨B,152,none⟩ (J X (L.length+1) cx)∧Hid (ai f8 13 101 w5 (w3.alloc (F #[O I (j:Int),O I a.c.c0,O I a.c.c1,O I a.c.c2,O I a.c.c3,J PA a.c.l.length pca,J PC a.e.length pcc,O I b.c.c0,O I b.c.c1,O I b.c.c2,O I b.c.c3,J PB b.c.l.length pcb,J PD b.e.length pcd] 101)).drew.heap.size (J X (L.length+1) cx) (L++[⟨j,a,PA,pca,PC,pcc,b,PB,pcb,PD,pcd⟩])∧Below w3.heap.size w3 w5))
 case first =>
  have hD0:Hid (Below w3.heap.size w3 w3.drew):=(gR w3).drew.below
  have hD1:Hid (Below w3.heap.size w3 (w3.alloc (F #[O I (j:Int),O I a.c.c0,O I a.c.c1,O I a.c.c2,O I a.c.c3,J PA a.c.l.length pca,J PC a.e.length pcc,O I b.c.c0,O I b.c.c1,O I b.c.c2,O I b.c.c3,J PB b.c.l.length pcb,J PD b.e.length pcd] 101)).drew):=hAl.out
  have cA:w3.drew.cell? ⟨B,152,none⟩=some (J A L.length c):=(hD0.out.cell (p:=⟨B,152,none⟩) hBl.out).trans hc3.out
  have cB:(w3.alloc (F #[O I (j:Int),O I a.c.c0,O I a.c.c1,O I a.c.c2,O I a.c.c3,J PA a.c.l.length pca,J PC a.e.length pcc,O I b.c.c0,O I b.c.c1,O I b.c.c2,O I b.c.c3,J PB b.c.l.length pcb,J PD b.e.length pcd] 101)).drew.cell? ⟨B,152,none⟩=some (J A L.length c):=(hD1.out.cell (p:=⟨B,152,none⟩) hBl.out).trans hc3.out
  have hBne:Hid (w2.heap.size≠B):=fun e=>by have h1:=hH.out.1.lt;have h2:=hF.out.2.2.size;omega
  have hKeep:Hid (∀W,Cls W w2.heap.size (T2 a PA pca PC pcc b PB pcb PD pcd)→(fun w'=>w'.cell? ⟨w2.heap.size,0,none⟩=some (O I a.c.c0)∧w'.cell? ⟨w2.heap.size,1,none⟩=some (O I a.c.c1)∧w'.cell? ⟨w2.heap.size,2,none⟩=some (O I a.c.c2)∧w'.cell? ⟨w2.heap.size,3,none⟩=some (O I a.c.c3)∧w'.cell? ⟨w2.heap.size,4,none⟩=some (J PA a.c.l.length pca)∧w'.cell? ⟨w2.heap.size,5,none⟩=some (J PC a.e.length pcc)∧w'.cell? ⟨w2.heap.size,6,none⟩=some (O I b.c.c0)∧w'.cell? ⟨w2.heap.size,7,none⟩=some (O I b.c.c1)∧w'.cell? ⟨w2.heap.size,8,none⟩=some (O I b.c.c2)∧w'.cell? ⟨w2.heap.size,9,none⟩=some (O I b.c.c3)∧w'.cell? ⟨w2.heap.size,10,none⟩=some (J PB b.c.l.length pcb)∧w'.cell? ⟨w2.heap.size,11,none⟩=some (J PD b.e.length pcd)) W):=fun W hW=>⟨hW.cell (j:=0) rfl,hW.cell (j:=1) rfl,hW.cell (j:=2) rfl,hW.cell (j:=3) rfl,hW.cell (j:=4) rfl,hW.cell (j:=5) rfl,hW.cell (j:=6) rfl,hW.cell (j:=7) rfl,hW.cell (j:=8) rfl,hW.cell (j:=9) rfl,hW.cell (j:=10) rfl,hW.cell (j:=11) rfl⟩
  refine wp_region_noPanic ?_
  refine wp_region_held_drew (S:=(fun w'=>w'.cell? ⟨w2.heap.size,0,none⟩=some (O I a.c.c0)∧w'.cell? ⟨w2.heap.size,1,none⟩=some (O I a.c.c1)∧w'.cell? ⟨w2.heap.size,2,none⟩=some (O I a.c.c2)∧w'.cell? ⟨w2.heap.size,3,none⟩=some (O I a.c.c3)∧w'.cell? ⟨w2.heap.size,4,none⟩=some (J PA a.c.l.length pca)∧w'.cell? ⟨w2.heap.size,5,none⟩=some (J PC a.e.length pcc)∧w'.cell? ⟨w2.heap.size,6,none⟩=some (O I b.c.c0)∧w'.cell? ⟨w2.heap.size,7,none⟩=some (O I b.c.c1)∧w'.cell? ⟨w2.heap.size,8,none⟩=some (O I b.c.c2)∧w'.cell? ⟨w2.heap.size,9,none⟩=some (O I b.c.c3)∧w'.cell? ⟨w2.heap.size,10,none⟩=some (J PB b.c.l.length pcb)∧w'.cell? ⟨w2.heap.size,11,none⟩=some (J PD b.e.length pcd))) (by kernel_rfl) (hKeep.out _ (hBx.out.below hD0.out)) (fun hHeld=> ?_)
  show wpAnyH _ _ _ _ _ 14 _ _ _
  repeat' first
   | with_reducible exact AllReadyH.nil
   | (
    (with_reducible refine isW ?_);refine wpAnyH_done (by decide +kernel) ?_ _
    refine NoPanic.normal ?_
    go_wp2_with fail
    go_meet
    case rel=>exact ⟨X,cx,w5,rfl,hG⟩)
   | (
    (with_reducible refine isW ?_);first
     | refine tkk 0 [1,2,3,6,7,8] (by assumption) (v:= ?_) (by simp only[zA,z0',zS];rfl) (by decide +kernel) ?_ ?_
     | refine tkk 11 [12] (by assumption) (v:= ?_) (by simp only[zA,z0',zS];rfl) (by decide +kernel) ?_ ?_
    rotate_left
    ·(refine oL ⟨by rfl,?_⟩;intro w hSw;(try dsimp only at hSw);go_simp<;>with_reducible rfl)
    try simp only[Act.put,yA,aE,yS]
    repeat (refine tk (v:= ?_) (by simp only[zA,z0',zS];rfl) (by kernel_rfl) ?_ ?_;rotate_left;· (refine oL ⟨by rfl,?_⟩;intro w hSw;(try dsimp only at hSw);go_simp<;>with_reducible rfl);try simp only[Act.put,yA,aE,yS])
    refine tk0 ?_)
   | ((with_reducible refine isW ?_);first
     | refine wpAnyH_ready (rs:=[4,9]) (by decide +kernel) (by simp) ?_
     | refine wpAnyH_ready (rs:=[5,9]) (by decide +kernel) (by simp) ?_
     | refine wpAnyH_ready (rs:=[9]) (by decide +kernel) (by simp) ?_
     | refine wpAnyH_ready (rs:=[10]) (by decide +kernel) (by simp) ?_
     | refine wpAnyH_ready (rs:=[13]) (by decide +kernel) (by simp) ?_
     | refine wpAnyH_ready (rs:=[5]) (by decide +kernel) (by simp) ?_
     | refine wpAnyH_ready (rs:=[4]) (by decide +kernel) (by simp) ?_)
   | (
    (with_reducible refine isR ?_);refine rdc (i:=10) (by simp only[zA,z0',zS];rfl) ?_ fun K hK=> ?_
    rotate_left
    (refine xH _ rfl (.tmp 41) (.tmp 45) rfl A L ⟨j,a,PA,pca,PC,pcc,b,PB,pcb,PD,pcd⟩ w3.heap.size 1 rfl rfl hRw.out hRx.out hNl.out hLn.out ?_;intro X cx w5 g1 g2;have hG:Hid (ai f8 13 101 w5 (w3.alloc (F #[O I (j:Int),O I a.c.c0,O I a.c.c1,O I a.c.c2,O I a.c.c3,J PA a.c.l.length pca,J PC a.e.length pcc,O I b.c.c0,O I b.c.c1,O I b.c.c2,O I b.c.c3,J PB b.c.l.length pcb,J PD b.e.length pcd] 101)).drew.heap.size (J X (L.length+1) cx) (L++[⟨j,a,PA,pca,PC,pcc,b,PB,pcb,PD,pcd⟩])∧Below w3.heap.size w3 w5):=⟨g1,hAl.out.trans (g2.mono hAl.out.size)⟩;clear g1 g2;have e152:=(hG.out.2.cell (p:=⟨B,152,none⟩) hBl.out).trans hc3.out;have z152:=hFz.out w5 hG.out.2)
    refine hK.out _ _ ?_ (fun hHeld=> ?_)
    ·(try dsimp only);exact hKeep.out _ (by first|with_reducible exact hBx.out.below hD0.out|with_reducible exact hBx.out.below hD1.out|with_reducible exact hBx.out.below hG.out.2|exact (hBx.out.below hG.out.2).oth hBne.out _)
    clear hK K
    try simp only[Act.put,yA,aE,yS])
   | ((with_reducible refine isR ?_);refine rdc (by simp only[zA,z0',zS];rfl) ?_ fun K hK=> ?_)
   | (
    go_simp
    first
     | ((go_at_call 37;(with_reducible refine cM (hCl.out _) ?_);rintro e w4 ⟨rfl,rfl⟩);first|(go_wp2_with fail)|skip)
     | skip
    refine hK.out _ _ ?_ (fun hHeld=> ?_)
    ·(try dsimp only);exact hKeep.out _ (by first|with_reducible exact hBx.out.below hD0.out|with_reducible exact hBx.out.below hD1.out|with_reducible exact hBx.out.below hG.out.2|exact (hBx.out.below hG.out.2).oth hBne.out _)
    clear hK K
    try simp only[Act.put,yA,aE,yS])
 case rest =>
  obtain ⟨X,cx,w5,rfl,hG⟩:=hcut
  have hfin:Hid (bk w0 B P (w5.setCell ⟨B,152,none⟩ (J X (L.length+1) cx)) ⟨M.s,M.t,M.pk++[(j,a,b)]⟩ Q):=by
   obtain ⟨X',cx',e',g1,g2,g3,g4,_⟩:=ai.full dS hG.out.1
   injection e' with e1 _ e3
   subst e1 e3
   have hn:=hH.out.1.below (h3H.out.2.trans (hG.out.2.mono h3H.out.2.size))
   have hb5:Below w0.heap.size w0 w5:=h3H.out.2.trans (hG.out.2.mono h3H.out.2.size)
   have hb25:Below w2.heap.size w2 w5:=h3H.out.1.below.trans (hG.out.2.mono h3H.out.1.size)
   have hW:Wr B 152 153 w5 (w5.setCell ⟨B,152,none⟩ (J X (L.length+1) cx)):=Wr.set _ _ (nR _) (by omega)
   obtain ⟨u,hu⟩:=hn.blk.some (j:=152) (by omega)
   have hsz:(w5.setCell ⟨B,152,none⟩ (J X (L.length+1) cx)).heap.size=w5.heap.size:=by simp
   have hB0:B<w0.heap.size:=hH.out.1.lt
   have hs3:=h3H.out.2.size
   have hs2:=hF.out.2.2.size
   have hP':¬ag P w0.heap.size w5.heap.size B:=cX hH.out.1.out hB0
   have hA':Agr (ag P w0.heap.size w5.heap.size) w5 (w5.setCell ⟨B,152,none⟩ (J X (L.length+1) cx)):=hW.agr hP'
   have hbx:w3.heap.size≤(w3.alloc (F #[O I (j:Int),O I a.c.c0,O I a.c.c1,O I a.c.c2,O I a.c.c3,J PA a.c.l.length pca,J PC a.e.length pcc,O I b.c.c0,O I b.c.c1,O I b.c.c2,O I b.c.c3,J PB b.c.l.length pcb,J PD b.e.length pcd] 101)).drew.heap.size:=hAl.out.size
   have h6:∀x,X=some x→w0.heap.size≤x.block:=fun x hx=>by have:=(g4 x hx).1;omega
   have hab:=hH.out.2.2.1 (by first|rfl|trivial)
   refine ⟨⟨ag P w0.heap.size w5.heap.size,hn.sent ag.old hP' (fun b hb=> ?_) hW hH.out.2.1.eq hH.out.2.2.2.1 (by rw[List.length_append];exact World.cell?_setCell_same _ _ _ hu) (g2.agr (fun a ha _=>oR ⟨h6 a ha,(g4 a ha).2.1⟩) hA') (fun a ha _=>oR ⟨h6 a ha,(g4 a ha).2.1⟩) g1 g3 (fun q hq=> ?_),fun b hb=>hb.imp id fun h=>h.1⟩,(Wr.of hb5 hB0).trans (hW.mono (by omega) (by omega))⟩
   ·rw[hsz]
    rcases hb with hb|hb
    ·have:=hH.out.1.up b hb;have:=hb5.size;omega
    ·exact hb.2
   ·rcases List.mem_append.1 hq with hq|hq
    ·have hh:=hH.out.2.1.each q hq
     exact ⟨hh.1,(((hh.2.1.below hb5).mono ag.old).agr hA'),(((hh.2.2.below hb5).mono ag.old).agr hA')⟩
    ·rw[List.mem_singleton.1 hq]
     exact ⟨hH.out.2.2.2.2,(((hF.out.1.below hb25).p hab.1).mono fun b hb=>oR hb).agr hA',(((hF.out.2.1.below hb25).p hab.2).mono fun b hb=>oR hb).agr hA'⟩
  clear hG
  go_wp2
  go_ret
  refine ⟨rfl,?_⟩
  unfold re
  rw[if_pos rfl]
  exact hfin.out

theorem vW {w:World} {B:Nat} {P:Nat→Prop} {M:NetM} {Q:Nat→List (List Stp)} (h:NetP w B P M Q) (n:Int) (hn:n<0∨(M.pk.length:Int)≤n) :
  Calls Z 23 #[R (some ⟨B,0,none⟩),O I n] w fun e w'=>e= H (O I 4)∧w'=w:=by
 obtain ⟨L,A,c,hp⟩:=h.pk
 have hc:=hp.cel
 have hl:L.length=M.pk.length:=by rw[←hp.eq,List.length_map]
 rw[←hl] at hn
 clear h hp hl
 by_cases h0:n<0
 ·go_enter Tryz.func23,Tryz.ntmps23
  go_wp2
  go_ret
  exact ⟨rfl,rfl⟩
 ·have h1:(L.length:Int)≤n:=by omega
  clear hn
  go_enter Tryz.func23,Tryz.ntmps23
  go_wp2
  go_ret
  exact ⟨rfl,rfl⟩
theorem tF {w:World} {B:Nat} {P:Nat→Prop} {M:NetM} {Q:Nat→List (List Stp)} (h:NetP w B P M Q) (n:Nat) {q:Nat×Tab×Tab} (hn:M.pk[n]? = some q) :
  Calls Z 23 #[R (some ⟨B,0,none⟩),O I n] w fun e w'=>e= H (O I (gJ (M.s q.1) (M.t q.1) q.2.1 q.2.2))∧bk w B P w' (gt M q.1 q.2.1 q.2.2) Q:=by
 have mixed:Tryz.prog.follows .mixedOrders=true:=by kernel_rfl
 obtain ⟨L,A,c,hp⟩:=h.pk
 have hc:=hp.cel
 obtain ⟨p,hp1,hp2⟩:∃p,L[n]? = some p∧p.m=q:=by
  rw[←hp.eq,List.getElem?_map] at hn
  cases e:L[n]? with
  | none=>rw[e] at hn;cases hn
  | some p=>rw[e] at hn;exact ⟨p,rfl,by simpa using hn⟩
 subst hp2
 obtain ⟨hnl,hpe⟩:=List.getElem?_eq_some_iff.1 hp1
 obtain ⟨hto,hta,htb⟩:=hp.each p (List.mem_of_getElem? hp1)
 obtain ⟨bb,off,hA,hbb,hcl⟩:=hp.row.at hnl
 subst hA
 have hcl:=hcl n hnl
 rw[hpe] at hcl
 have c0:=hcl 0 (by omega)
 have c1:=hcl 1 (by omega)
 have c2:=hcl 2 (by omega)
 have c3:=hcl 3 (by omega)
 have c4:=hcl 4 (by omega)
 have c5:=hcl 5 (by omega)
 have c6:=hcl 6 (by omega)
 have c7:=hcl 7 (by omega)
 have c8:=hcl 8 (by omega)
 have c9:=hcl 9 (by omega)
 have c10:=hcl 10 (by omega)
 have c11:=hcl 11 (by omega)
 have c12:=hcl 12 (by omega)
 simp only[f8,z0',zS,Nat.add_zero] at c0 c1 c2 c3 c4 c5 c6 c7 c8 c9 c10 c11 c12
 have h0:¬(n:Int)<0:=by omega
 have h1:¬(L.length:Int)≤(n:Int):=by omega
 have hto4:(p.tg:Int)<4:=by omega
 obtain ⟨w1,hw1⟩:∃W,w.alloc (F #[O I (p.tg:Int),O I p.a.c.c0,O I p.a.c.c1,O I p.a.c.c2,O I p.a.c.c3,J p.A p.a.c.l.length p.ca,J p.C p.a.e.length p.cc,O I p.b.c.c0,O I p.b.c.c1,O I p.b.c.c2,O I p.b.c.c3,J p.B p.b.c.l.length p.cb,J p.D p.b.e.length p.cd] 101)=W:=⟨_,rfl⟩
 have hg1:Gr w w1:=by rw[←hw1];exact (gR w).alloc _
 have hBx:Hid (Cls w1 w.heap.size [O I (p.tg:Int),O I p.a.c.c0,O I p.a.c.c1,O I p.a.c.c2,O I p.a.c.c3,J p.A p.a.c.l.length p.ca,J p.C p.a.e.length p.cc,O I p.b.c.c0,O I p.b.c.c1,O I p.b.c.c2,O I p.b.c.c3,J p.B p.b.c.l.length p.cb,J p.D p.b.e.length p.cd]):=by show Cls _ _ _;rw[←hw1];exact Cls.new w _ _
 obtain ⟨E,hE⟩:∃E,gJ (M.s p.m.1) (M.t p.m.1) p.m.2.1 p.m.2.2=E:=⟨_,rfl⟩
 have hD:Hid (∀W,Gr w1 W→Calls Z 34 #[R (some ⟨B,p.tg*38,none⟩),N (T2 p.a p.A p.ca p.C p.cc p.b p.B p.cb p.D p.cd).toArray] W fun e w'=>e= H (O I E)∧bk w B P w' (gt M p.m.1 p.m.2.1 p.m.2.2) Q):=fun W hW=>by
  have hgW:=hg1.trans hW
  have hn:=h.below hgW.below
  have ha:=hta.below hgW.below
  have hb:=htb.below hgW.below
  have hd:=pK (hn.nd p.tg hto) p.a p.b p.A p.B p.C p.D p.ca p.cb p.cc p.cd ha.row ha.cel hb.row hb.cel ha.len.1 ha.len.2 hb.len.1 hb.len.2 ha.nr hb.nr
  rw[show tkE (M.s p.tg) (M.t p.tg) p.a p.b=E from hE] at hd
  refine hd.mono ?_
  rintro e w' ⟨rfl,f1,f2⟩
  refine ⟨rfl,bk.ahead hgW.below h.lt ?_⟩
  have hc:=hn.call hto f1 f2 (by omega)
  rw[jV] at hc
  exact hc
 rw[hE]
 clear h hg1 hE hp hn hp1 hnl hpe hto hta htb hbb hcl
 go_enter Tryz.func23,Tryz.ntmps23
 go_upto_region 4 with fail
 try rw[hw1]
 clear hw1 hc c0 c1 c2 c3 c4 c5 c6 c7 c8 c9 c10 c11 c12
 obtain ⟨b0,b1,b2,b3,b4,b5,b6,b7,b8,b9,b10,b11,b12⟩:=yV hBx.out
 go_region_with (go_at_call 34;refine cM (hD.out _ (gR _).drew) ?_;rintro e w3 ⟨rfl,f1⟩;have hF:Hid _:=f1;clear f1)
 all_goals
  go_wp2
  go_ret
  exact ⟨rfl,hF.out⟩
end Go.Proofs.YtkefkplnamkicabGreatDoor
