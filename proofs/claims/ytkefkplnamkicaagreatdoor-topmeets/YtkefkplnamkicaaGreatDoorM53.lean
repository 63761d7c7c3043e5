/-
  TopMeets: whatever happened, when all have met they have the same.
-/
import Derived.Test.YtkefkplnamkicaaGreatDoorM42
set_option maxRecDepth 100000
set_option maxHeartbeats 8000000
open Go.IntKind renaming i64 → I
open Go.Value renaming int → V, slice → O, agg → J, bool → Z
namespace Go.Proofs.YtkefkplnamkicaaGreatDoor
open Go.RowKit Go.Sort

theorem qb (A:Option Addr) (cap:Nat) (l:List (Hap×List UInt8)) (w:World) (hr:Reads w) (hl:l.length≤maxLen) (row:au bH 10 w A l) (hx:∀p∈l,p.2.length≤maxLen) :
  Calls Tryz.prog 4 #[O A l.length cap] w fun e w'=>e= .returned (Z true)∧Below w.heap.size w w':=by
 have hS:Hid _:=iA w hr
 have hH:Hid (Reads w∧au bH 10 w A l∧∀p∈l,p.2.length≤maxLen):=⟨hr,row,hx⟩
 clear hr row hx
 go_enter Tryz.func4,Tryz.ntmps4
 go_wp2_with fail
 refine cM (show Calls _ _ _ _ _ from hS.out) ?_
 rintro e w1 ⟨rfl,f1⟩
 have hb1:Hid (Below w.heap.size w w1):=f1
 clear f1 hS
 by_cases h60:60<l.length
 ·have hz:(60:Int)<(l.length:Int):=by omega
  go_wp2
  go_ret
  exact ⟨rfl,hb1.out⟩
 have hz:¬(60:Int)<(l.length:Int):=by omega
 have hP:Hid _:=gJ w1 A cap l hl hH.out.2.1 hH.out.2.2 hH.out.1 hb1.out
 have hI:Hid (NInv (0+(l.map (·.1)).length) ((l.map (·.1)).foldl aj aG)):=NInv.play _ NInv.new (by rw[List.length_map];omega)
 obtain ⟨M,hM⟩:∃M,(l.map (·.1)).foldl aj aG=M:=⟨_,rfl⟩
 rw[hM] at hP hI
 clear hM
 go_wp2_with fail
 refine cM (show Calls _ _ _ _ _ from hP.out) ?_
 rintro e w2 ⟨B,Q,rfl,f1⟩
 have hE:Hid _:=tQ f1 hI.out
 clear f1 hP
 go_wp2_with fail
 refine cM (show Calls _ _ _ _ _ from hE.out) ?_
 rintro e w3 ⟨rfl,f1,_⟩
 obtain ⟨N,hN⟩:∃N,d8 M=N:=⟨_,rfl⟩
 have hmet:=hI.out.met
 rw[hN] at f1 hmet
 obtain ⟨_,m1,m2,_⟩:=hmet
 obtain ⟨S,hSe⟩:∃S,lr M.s=S:=⟨_,rfl⟩
 obtain ⟨T,hTe⟩:∃S,lr M.t=S:=⟨_,rfl⟩
 rw[hSe] at m1
 rw[hTe] at m2
 have hL:Hid (aV w1 w3 B N Q∧(∀j,j<4→N.s j=S∧N.t j=T)∧am S=0∧am T=0):=by
  refine ⟨f1,fun j hj=>⟨m1 j hj,m2 j hj⟩,?_,?_⟩
  ·obtain ⟨⟨P,h1,_⟩,_⟩:=f1
   rw[←m1 0 (by omega)]
   exact (h1.nd 0 (by omega)).ts.ok
  ·obtain ⟨⟨P,h1,_⟩,_⟩:=f1
   rw[←m2 0 (by omega)]
   exact (h1.nd 0 (by omega)).tt.ok
 have tab:Hid (∀W,aV w1 W B N Q→∀i:Nat,i<4→Calls Tryz.prog 19 #[.pointer (some ⟨B,0,none⟩),V I i] W fun e w'=>∃v,e= .returned (.tuple #[v,Z true])∧PkW W.heap.size w' v S T∧Below W.heap.size W w'):=fun W hW i hi=>by
  obtain ⟨⟨P,h1,_⟩,_⟩:=hW
  have:=kQ h1 i hi
  rwa [(hL.out.2.1 i hi).1,(hL.out.2.1 i hi).2] at this
 clear f1 hE hI hN m1 m2 hSe hTe
 have hT0:Hid _:=tab.out w3 hL.out.1 0 (by omega)
 go_wp2_with fail
 refine cM (show Calls _ _ _ _ _ from hT0.out) ?_
 rintro e w4 ⟨v,rfl,⟨EA,eca,EC,ecc,EB,ecb,ED,ecd,rfl,f1,f2⟩,f3⟩
 obtain ⟨w5,hw5⟩:∃W,w4.alloc (.cells #[V I S.c.c0,V I S.c.c1,V I S.c.c2,V I S.c.c3,O EA S.c.l.length eca,O EC S.e.length ecc,V I T.c.c0,V I T.c.c1,V I T.c.c2,V I T.c.c3,O EB T.c.l.length ecb,O ED T.e.length ecd] 48)=W:=⟨_,rfl⟩
 have hK:Hid (aV w1 w5 B N Q∧Cls w5 w4.heap.size (T2 S EA eca EC ecc T EB ecb ED ecd)∧PkW w3.heap.size w5 (J (T2 S EA eca EC ecc T EB ecb ED ecd).toArray) S T):=by
  have hg:Gr w4 w5:=by rw[←hw5];exact (gR _).alloc _
  exact ⟨(hL.out.1.below f3).below hg.below,by rw[←hw5];exact Cls.new w4 _ _,EA,eca,EC,ecc,EB,ecb,ED,ecd,rfl,f1.below hg.below,f2.below hg.below⟩
 clear f1 f2 f3 hT0
 go_wp2
 try rw[hw5]
 clear hw5
 go_loopw [24] (fun v24 wr=>∃i:Nat,i≤4∧v24= V I i∧Hid (aV w1 wr B N Q∧Cls wr w4.heap.size (T2 S EA eca EC ecc T EB ecb ED ecd)∧PkW w3.heap.size wr (J (T2 S EA eca EC ecc T EB ecb ED ecd).toArray) S T)) (fun v24 _=>4-(intOf v24).toNat)
 case atStart=>exact ⟨0,by omega,rfl,hK⟩
 case round =>
  obtain ⟨i,hi,rfl,hJ⟩:=hrel
  by_cases hi4:i<4
  rotate_left
  ·have hz:¬(i:Int)<4:=by omega
   go_wp2
   go_ret
   exact ⟨rfl,hb1.out.trans (hJ.out.1.2.1.mono hb1.out.size)⟩
  have hiz:(i:Int)<4:=by omega
  have hT:Hid _:=tab.out wr hJ.out.1 i hi4
  go_wp2_with fail
  refine cM (show Calls _ _ _ _ _ from hT.out) ?_
  rintro e w6 ⟨v,rfl,⟨FA,fca,FC,fcc,FB,fcb,FD,fcd,rfl,f1,f2⟩,f3⟩
  obtain ⟨w7,hw7⟩:∃W,w6.alloc (.cells #[V I S.c.c0,V I S.c.c1,V I S.c.c2,V I S.c.c3,O FA S.c.l.length fca,O FC S.e.length fcc,V I T.c.c0,V I T.c.c1,V I T.c.c2,V I T.c.c3,O FB T.c.l.length fcb,O FD T.e.length fcd] 48)=W:=⟨_,rfl⟩
  have hg:Gr w6 w7:=by rw[←hw7];exact (gR _).alloc _
  have hBx:Cls w7 w6.heap.size (T2 S FA fca FC fcc T FB fcb FD fcd):=by rw[←hw7];exact Cls.new w6 _ _
  have hb7:Below wr.heap.size wr w7:=f3.trans (hg.below.mono f3.size)
  have hFx:=hJ.out.2.1.below hb7
  obtain ⟨a0,a1,a2,a3,a4,a5,a6,a7,a8,a9,a10,a11⟩:=dR hBx
  obtain ⟨b0,b1,b2,b3,b4,b5,b6,b7,b8,b9,b10,b11⟩:=dR hFx
  have hSm:Hid (Calls Tryz.prog 20 #[J (T2 S FA fca FC fcc T FB fcb FD fcd).toArray,J (T2 S EA eca EC ecc T EB ecb ED ecd).toArray] w7 fun e w'=>e= .returned (Z true)∧Gr w7 w'):=by
   obtain ⟨A',a',C',c',B',b',D',d',e',g1,g2⟩:=hJ.out.2.2
   have:=mX (w:=w7) (v:= J (T2 S FA fca FC fcc T FB fcb FD fcd).toArray) (u:= J (T2 S EA eca EC ecc T EB ecb ED ecd).toArray) ⟨FA,fca,FC,fcc,FB,fcb,FD,fcd,rfl,f1.below hg.below,f2.below hg.below⟩ ⟨A',a',C',c',B',b',D',d',e',g1.below hb7,g2.below hb7⟩ hL.out.2.2.1 hL.out.2.2.2 hL.out.2.2.1 hL.out.2.2.2
   rw[dP,dP] at this
   exact this
  have hQ:Hid (aV w1 w7 B N Q∧Cls w7 w4.heap.size (T2 S EA eca EC ecc T EB ecb ED ecd)∧PkW w3.heap.size w7 (J (T2 S EA eca EC ecc T EB ecb ED ecd).toArray) S T):=by
   refine ⟨hJ.out.1.below hb7,hFx,?_⟩
   obtain ⟨A',a',C',c',B',b',D',d',e',g1,g2⟩:=hJ.out.2.2
   exact ⟨A',a',C',c',B',b',D',d',e',g1.below hb7,g2.below hb7⟩
  clear f1 f2 f3 hg hBx hb7 hFx hT hJ
  go_wp2_with fail
  try rw[hw7]
  clear hw7
  refine cM (show Calls _ _ _ _ _ from hSm.out) ?_
  rintro e w8 ⟨rfl,g8⟩
  have hQ8:Hid (aV w1 w8 B N Q∧Cls w8 w4.heap.size (T2 S EA eca EC ecc T EB ecb ED ecd)∧PkW w3.heap.size w8 (J (T2 S EA eca EC ecc T EB ecb ED ecd).toArray) S T):=by
   refine ⟨hQ.out.1.below g8.below,hQ.out.2.1.gr g8,?_⟩
   obtain ⟨A',a',C',c',B',b',D',d',e',g1,g2⟩:=hQ.out.2.2
   exact ⟨A',a',C',c',B',b',D',d',e',g1.below g8.below,g2.below g8.below⟩
  clear g8 hSm hQ a0 b0 a1 b1 a2 b2 a3 b3 a4 b4 a5 b5 a6 b6 a7 b7 a8 b8 a9 b9 a10 b10 a11 b11
  go_wp2
  go_roundw
  case rel=>exact ⟨i+1,by omega,by go_num,hQ8⟩
  case measure=>simp[intOf];omega
end Go.Proofs.YtkefkplnamkicaaGreatDoor
