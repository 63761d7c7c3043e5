/-
  TopDiffs: telling what another one hasn't seen is as good as telling all.
-/
import Derived.Test.YtkefkplnamkicaaGreatDoorM48
set_option maxRecDepth 100000
set_option maxHeartbeats 8000000
open Go.Ending renaming returned → J
open Go.IntKind renaming i64 → I
open Go.Proofs.Tryz renaming prog → O
open Go.Value renaming int → V, slice → Z, pointer → H, agg → U, bool → K
namespace Go.Proofs.YtkefkplnamkicaaGreatDoor
open Go.RowKit Go.Sort

def eT (i j:Int):Hap:=⟨2,i,j,0,0,0,0,0,0⟩
def ec (i j:Int):Hap:=⟨3,i,j,0,0,0,0,0,0⟩
theorem pm {t:Tab} {c:Ctx} (ht:am t=0) (hc:aP c=0):aT t c=0∨aT t c=2:=by
 unfold aT
 rw[if_neg (by simp[ht]),if_neg (by simp[hc])]
 unfold woE fC
 rw[if_neg (by simp[(ae ht).1])]
 split
 ·exact oR rfl
 ·exact oL rfl
theorem yT {c:Nat} {M:NetM} (hI:NInv c M) (ok:∀n,n<4→am (M.s n)=0∧am (M.t n)=0) (hl:M.pk.length<200) {i j:Nat} (hi:i<4) (hj:j<4) :
  bq M (eT i j)=0∧(bq M (ec i j)=0∨bq M (ec i j)=2)∧(bq M (ec i j)=0→∃S T,bq (aj M (eT i j)) (cC M.pk.length)=0∧bq (aj M (ec i j)) (cC M.pk.length)=0∧(aj (aj M (eT i j)) (cC M.pk.length)).s j=S∧(aj (aj M (ec i j)) (cC M.pk.length)).s j=S∧(aj (aj M (eT i j)) (cC M.pk.length)).t j=T∧(aj (aj M (ec i j)) (cC M.pk.length)).t j=T):=by
 have h1:isN (i:Int):=⟨by omega,by omega⟩
 have h2:isN (j:Int):=⟨by omega,by omega⟩
 have ed:bq M (ec i j)=kP (M.s i) (M.t i) (M.s j).c (M.t j).c:=by
  show (if (3:Int)=1 then _ else if (3:Int)=2 then _ else if (3:Int)=3 then (if isN (i:Int)∧isN (j:Int) then (if M.pk.length<200 then _ else _) else _) else _)=_
  rw[if_neg (by decide),if_neg (by decide),if_pos rfl,if_pos ⟨h1,h2⟩,if_pos hl]
  rfl
 have ms:aj M (eT i j)=⟨M.s,M.t,M.pk++[(j,M.s i,M.t i)]⟩:=by
  show (if (2:Int)=1 then _ else if (2:Int)=2 then (if isN (i:Int)∧isN (j:Int)∧M.pk.length<200 then _ else _) else _)=_
  rw[if_neg (by decide),if_pos rfl,if_pos ⟨h1,h2,hl⟩]
  rfl
 refine ⟨?_,?_,fun h0=> ?_⟩
 ·show (if (2:Int)=1 then _ else if (2:Int)=2 then (if isN (i:Int)∧isN (j:Int) then (if M.pk.length<200 then (0:Int) else _) else _) else _)=_
  rw[if_neg (by decide),if_pos rfl,if_pos ⟨h1,h2⟩,if_pos hl]
 ·rw[ed]
  unfold kP
  rcases pm (ok i hi).1 (ae (ok j hj).1).1 with h|h
  ·rw[if_pos h]
   exact pm (ok i hi).2 (ae (ok j hj).2).1
  ·rw[if_neg (by omega)]
   exact oR h
 ·rw[ed] at h0
  have md:aj M (ec i j)=⟨M.s,M.t,M.pk++[(j,aB (M.s i) (M.s j).c,aB (M.t i) (M.t j).c)]⟩:=by
   show (if (3:Int)=1 then _ else if (3:Int)=2 then _ else if (3:Int)=3 then (if isN (i:Int)∧isN (j:Int)∧M.pk.length<200 then _ else _) else _)=_
   rw[if_neg (by decide),if_neg (by decide),if_pos rfl,if_pos ⟨h1,h2,hl⟩]
   show m7 M i j=_
   unfold m7
   rw[if_pos h0]
  obtain ⟨g1,g2,g3,g4⟩:=ux hI i j h0
  have tk:∀(a b:Tab),bq ⟨M.s,M.t,M.pk++[(j,a,b)]⟩ (cC M.pk.length)=dW (M.s j) (M.t j) a b∧aj ⟨M.s,M.t,M.pk++[(j,a,b)]⟩ (cC M.pk.length)=f9 ⟨M.s,M.t,M.pk++[(j,a,b)]⟩ j a b:=fun a b=>by
   have hp:(M.pk++[(j,a,b)])[((M.pk.length:Nat):Int).toNat]? = some (j,a,b):=by
    rw[Int.toNat_natCast,List.getElem?_append_right (Nat.le_refl _)]
    simp
   constructor
   ·unfold bq cC
    simp only[hp]
    simp
   ·unfold aj cC
    simp only[hp]
    simp
  rw[ms,md,(tk _ _).1,(tk _ _).1,(tk _ _).2,(tk _ _).2]
  exact ⟨_,_,g1,g2,bB _ _ _,(bB _ _ _).trans g3,bB _ _ _,(bB _ _ _).trans g4⟩
theorem pZ (A:Option Addr) (cap:Nat) (l:List (Hap×List UInt8)) (a b:Int) (w:World) (hr:Reads w) (hl:l.length≤maxLen) (row:au bH 10 w A l) (hx:∀p∈l,p.2.length≤maxLen) :
  Calls O 8 #[Z A l.length cap,V I a,V I b] w fun e w'=>e= J (K true)∧Below w.heap.size w w':=by
 have hS:Hid _:=iA w hr
 have hH:Hid (Reads w∧au bH 10 w A l∧∀p∈l,p.2.length≤maxLen):=⟨hr,row,hx⟩
 have r1:Hid (∀W,Calls O 13 #[V I a,V I 4] W fun e w'=>(∃r:Nat,e= J (V I r)∧r<4)∧w'=W):=fun W=>lK a 4 W (by omega)
 have r2:Hid (∀W,Calls O 13 #[V I b,V I 4] W fun e w'=>(∃r:Nat,e= J (V I r)∧r<4)∧w'=W):=fun W=>lK b 4 W (by omega)
 clear hr row hx
 go_enter Tryz.func8,Tryz.ntmps8
 go_wp2_with fail
 refine cM (show Calls _ _ _ _ _ from hS.out) ?_
 rintro e w1 ⟨rfl,f1⟩
 have hb1:Hid (Below w.heap.size w w1):=f1
 clear f1 hS
 by_cases h60:60<l.length
 ·have hz:(60:Int)<(l.length:Int):=by omega
  go_wp2
  go_ret
  exact ⟨rfl,hb1.out⟩
 have hz:¬(60:Int)<(l.length:Int):=by omega
 go_wp2_with fail
 refine cM (r1.out _) ?_
 rintro e w0 ⟨⟨i,rfl,hi⟩,h0⟩
 have h0:=h0.symm
 subst h0
 go_wp2_with fail
 refine cM (r2.out _) ?_
 rintro e w0 ⟨⟨k,rfl,hk⟩,h0⟩
 have h0:=h0.symm
 subst h0
 have hP:Hid _:=gJ w1 A cap l hl hH.out.2.1 hH.out.2.2 hH.out.1 hb1.out
 have hI:Hid (NInv (0+(l.map (·.1)).length) ((l.map (·.1)).foldl aj aG)∧((l.map (·.1)).foldl aj aG).pk.length<200):=⟨NInv.play _ NInv.new (by rw[List.length_map];omega),by
  have:=lJ (l.map (·.1)) aG
  rw[List.length_map] at this
  have h0:aG.pk.length=0:=rfl
  omega⟩
 clear r1 r2
 go_wp2_with fail
 refine cM (show Calls _ _ _ _ _ from hP.out) ?_
 rintro e w2 ⟨X,Q,rfl,f1⟩
 have hX:Hid (aV w1 w2 X ((l.map (·.1)).foldl aj aG) Q):=f1
 have hP:Hid _:=gJ w2 A cap l hl hH.out.2.1 hH.out.2.2 hH.out.1 (hb1.out.trans (f1.2.1.mono hb1.out.size))
 clear f1
 go_wp2_with fail
 refine cM (show Calls _ _ _ _ _ from hP.out) ?_
 rintro e w3 ⟨Y,Q',rfl,f1⟩
 obtain ⟨M,hM⟩:∃M,(l.map (·.1)).foldl aj aG=M:=⟨_,rfl⟩
 rw[hM] at f1 hI hX
 have hT:Hid (TwN w1 w3 X Y M Q M Q'∧Reads w1):=⟨TwN.of hX.out f1,hH.out.1.below hb1.out⟩
 have ok:∀n,n<4→am (M.s n)=0∧am (M.t n)=0:=fun n hn=>by
  obtain ⟨⟨P,h1,_⟩,_⟩:=f1
  exact ⟨(h1.nd n hn).ts.ok,(h1.nd n hn).tt.ok⟩
 obtain ⟨m1,m2,m3⟩:=yT hI.out.1 ok hI.out.2 hi hk
 have hp:Hid _:=mP hT.out.1
 have hD1:Hid (∀W,TwN w1 W X Y M Q M Q'→Calls O 11 #[H (some ⟨X,0,none⟩),U (bH (eT i k,[])).toArray] W fun e w'=>e= J (V I 0)∧TwN w1 w' X Y (aj M (eT i k)) Q M Q'):=fun W hW=>by
  refine (s6 hW hT.out.2 (eT i k,[]) (nZ _)).mono ?_
  rintro e w' ⟨er,R,rfl,g1,g2,_⟩
  obtain ⟨rfl,rfl⟩:=g1.ok (by show (2:Int)≠5;decide)
  exact ⟨by rw[show bq M (eT i k,([]:List UInt8)).1=0 from m1],g2⟩
 obtain ⟨F,hF⟩:∃F,bq M (ec i k)=F:=⟨_,rfl⟩
 have hD2:Hid (∀W,TwN w1 W X Y (aj M (eT i k)) Q M Q'→Calls O 11 #[H (some ⟨Y,0,none⟩),U (bH (ec i k,[])).toArray] W fun e w'=>e= J (V I F)∧TwN w1 w' X Y (aj M (eT i k)) Q (aj M (ec i k)) Q'):=fun W hW=>by
  refine (s6 hW.swap hT.out.2 (ec i k,[]) (nZ _)).mono ?_
  rintro e w' ⟨er,R,rfl,g1,g2,_⟩
  obtain ⟨rfl,rfl⟩:=g1.ok (by show (3:Int)≠5;decide)
  exact ⟨by rw[show bq M (ec i k,([]:List UInt8)).1=F from hF],g2.swap⟩
 rw[hF] at m2 m3
 have hm:Hid _:=m3
 clear f1 hX hP ok m1 m3 hM hF hI
 go_wp2_with fail
 refine cM (show Calls _ _ _ _ _ from hp.out) ?_
 rintro e w4 ⟨rfl,h0⟩
 have h0:=h0.symm
 subst h0
 go_wp2_with fail
 refine cM (hD1.out _ hT.out.1) ?_
 rintro e w4 ⟨rfl,f1⟩
 have hT4:Hid _:=f1
 clear f1 hp hD1
 go_wp2_with fail
 refine cM (hD2.out _ hT4.out) ?_
 rintro e w5 ⟨rfl,f1⟩
 have hT5:Hid _:=f1
 clear f1 hD2 hT4
 rcases m2 with rfl|rfl
 rotate_left
 ·go_wp2
  go_ret
  exact ⟨rfl,hb1.out.trans (hT5.out.bel.mono hb1.out.size)⟩
 obtain ⟨S,T,m1,m2,s1,s2,t1,t2⟩:=hm.out rfl
 have hE:Hid (∀W,TwN w1 W X Y (aj M (eT i k)) Q (aj M (ec i k)) Q'→Calls O 11 #[H (some ⟨X,0,none⟩),U (bH (cC M.pk.length,[])).toArray] W fun e w'=>e= J (V I 0)∧TwN w1 w' X Y (aj (aj M (eT i k)) (cC M.pk.length)) Q (aj M (ec i k)) Q'):=fun W hW=>by
  refine (s6 hW hT.out.2 (cC M.pk.length,[]) (nZ _)).mono ?_
  rintro e w' ⟨er,R,rfl,g1,g2,_⟩
  obtain ⟨rfl,rfl⟩:=g1.ok (by show (4:Int)≠5;decide)
  exact ⟨by rw[show bq (aj M (eT i k)) (cC M.pk.length,([]:List UInt8)).1=0 from m1],g2⟩
 have hE2:Hid (∀W,TwN w1 W X Y (aj (aj M (eT i k)) (cC M.pk.length)) Q (aj M (ec i k)) Q'→Calls O 11 #[H (some ⟨Y,0,none⟩),U (bH (cC M.pk.length,[])).toArray] W fun e w'=>e= J (V I 0)∧TwN w1 w' X Y (aj (aj M (eT i k)) (cC M.pk.length)) Q (aj (aj M (ec i k)) (cC M.pk.length)) Q'):=fun W hW=>by
  refine (s6 hW.swap hT.out.2 (cC M.pk.length,[]) (nZ _)).mono ?_
  rintro e w' ⟨er,R,rfl,g1,g2,_⟩
  obtain ⟨rfl,rfl⟩:=g1.ok (by show (4:Int)≠5;decide)
  exact ⟨by rw[show bq (aj M (ec i k)) (cC M.pk.length,([]:List UInt8)).1=0 from m2],g2.swap⟩
 clear m1 m2 hm
 go_wp2_with fail
 refine cM (hE.out _ hT5.out) ?_
 rintro e w6 ⟨rfl,f1⟩
 have hT6:Hid _:=f1
 clear f1 hE hT5
 go_wp2_with fail
 refine cM (hE2.out _ hT6.out) ?_
 rintro e w7 ⟨rfl,f1⟩
 have hT7:Hid _:=f1
 clear f1 hE2 hT6
 obtain ⟨N1,hN1⟩:∃N,aj (aj M (eT i k)) (cC M.pk.length)=N:=⟨_,rfl⟩
 obtain ⟨N2,hN2⟩:∃N,aj (aj M (ec i k)) (cC M.pk.length)=N:=⟨_,rfl⟩
 rw[hN1,hN2] at hT7
 rw[hN1] at s1 t1
 rw[hN2] at s2 t2
 have hok:Hid (am S=0∧am T=0):=by
  have:=(rI hT7.out k hk).2
  rwa [s1,t1] at this
 have ta:Hid (Calls O 19 #[H (some ⟨X,0,none⟩),V I k] w7 fun e w'=>∃v,e= J (.tuple #[v,K true])∧PkW w7.heap.size w' v S T∧Below w7.heap.size w7 w'):=by
  have:=(rI hT7.out k hk).1
  rwa [s1,t1] at this
 have tb:Hid (∀W,TwN w1 W X Y N1 Q N2 Q'→Calls O 19 #[H (some ⟨Y,0,none⟩),V I k] W fun e w'=>∃v,e= J (.tuple #[v,K true])∧PkW W.heap.size w' v S T∧Below W.heap.size W w'):=fun W hW=>by
  have:=(rI hW.swap k hk).1
  rwa [s2,t2] at this
 clear s1 s2 t1 t2 hN1 hN2
 go_wp2_with fail
 refine cM (show Calls _ _ _ _ _ from ta.out) ?_
 rintro e w8 ⟨v,rfl,⟨EA,eca,EC,ecc,EB,ecb,ED,ecd,rfl,f1,f2⟩,f3⟩
 obtain ⟨w9,hw9⟩:∃W,w8.alloc (.cells #[V I S.c.c0,V I S.c.c1,V I S.c.c2,V I S.c.c3,Z EA S.c.l.length eca,Z EC S.e.length ecc,V I T.c.c0,V I T.c.c1,V I T.c.c2,V I T.c.c3,Z EB T.c.l.length ecb,Z ED T.e.length ecd] 48)=W:=⟨_,rfl⟩
 have hK:Hid (TwN w1 w9 X Y N1 Q N2 Q'∧Cls w9 w8.heap.size (T2 S EA eca EC ecc T EB ecb ED ecd)∧TbW w7.heap.size w9 S EA eca EC ecc∧TbW w7.heap.size w9 T EB ecb ED ecd):=by
  have hg:Gr w8 w9:=by rw[←hw9];exact (gR _).alloc _
  exact ⟨(hT7.out.below f3).below hg.below,by rw[←hw9];exact Cls.new w8 _ _,f1.below hg.below,f2.below hg.below⟩
 have hb:Hid _:=tb.out w9 hK.out.1
 clear f1 f2 f3 ta tb
 go_wp2_with fail
 try rw[hw9]
 clear hw9
 refine cM (show Calls _ _ _ _ _ from hb.out) ?_
 rintro e w10 ⟨v,rfl,⟨FA,fca,FC,fcc,FB,fcb,FD,fcd,rfl,f1,f2⟩,f3⟩
 obtain ⟨w11,hw11⟩:∃W,w10.alloc (.cells #[V I S.c.c0,V I S.c.c1,V I S.c.c2,V I S.c.c3,Z FA S.c.l.length fca,Z FC S.e.length fcc,V I T.c.c0,V I T.c.c1,V I T.c.c2,V I T.c.c3,Z FB T.c.l.length fcb,Z FD T.e.length fcd] 48)=W:=⟨_,rfl⟩
 have hg:Gr w10 w11:=by rw[←hw11];exact (gR _).alloc _
 have hb11:Below w9.heap.size w9 w11:=f3.trans (hg.below.mono f3.size)
 have hBx:Cls w11 w10.heap.size (T2 S FA fca FC fcc T FB fcb FD fcd):=by rw[←hw11];exact Cls.new w10 _ _
 have hFx:=hK.out.2.1.below hb11
 obtain ⟨a0,a1,a2,a3,a4,a5,a6,a7,a8,a9,a10,a11⟩:=dR hBx
 obtain ⟨b0,b1,b2,b3,b4,b5,b6,b7,b8,b9,b10,b11⟩:=dR hFx
 have hSm:Hid (Calls O 20 #[U (T2 S EA eca EC ecc T EB ecb ED ecd).toArray,U (T2 S FA fca FC fcc T FB fcb FD fcd).toArray] w11 fun e w'=>e= J (K true)∧Gr w11 w'):=by
  have:=mX (w:=w11) (v:= U (T2 S EA eca EC ecc T EB ecb ED ecd).toArray) (u:= U (T2 S FA fca FC fcc T FB fcb FD fcd).toArray) ⟨EA,eca,EC,ecc,EB,ecb,ED,ecd,rfl,hK.out.2.2.1.below hb11,hK.out.2.2.2.below hb11⟩ ⟨FA,fca,FC,fcc,FB,fcb,FD,fcd,rfl,f1.below hg.below,f2.below hg.below⟩ hok.out.1 hok.out.2 hok.out.1 hok.out.2
  rw[dP,dP] at this
  exact this
 have hfin:Hid (Below w.heap.size w w11):=by
  have h1:=hK.out.1.bel.trans (hb11.mono hK.out.1.bel.size)
  exact hb1.out.trans (h1.mono hb1.out.size)
 clear f1 f2 f3 hg hb11 hBx hFx hb hK
 go_wp2_with fail
 try rw[hw11]
 clear hw11
 refine cM (show Calls _ _ _ _ _ from hSm.out) ?_
 rintro e w12 ⟨rfl,g⟩
 have hfin2:Hid (Below w.heap.size w w12):=hfin.out.trans (g.below.mono hfin.out.size)
 clear g
 go_wp2
 go_ret
 exact ⟨rfl,hfin2.out⟩
end Go.Proofs.YtkefkplnamkicaaGreatDoor
