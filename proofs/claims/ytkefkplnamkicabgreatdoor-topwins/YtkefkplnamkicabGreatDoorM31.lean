import Derived.Test.YtkefkplnamkicabGreatDoorM29
set_option maxRecDepth 100000
set_option maxHeartbeats 8000000
open Go.Ending renaming returned → Z
open Go.IntKind renaming i64 → I
open Go.Proofs.Tryz renaming prog → J
open Go.Value renaming int → O, slice → H, agg → Y
namespace Go.Proofs.YtkefkplnamkicabGreatDoor
open Go.RowKit Go.Sort

def eS (key:Int) (N:NetM) (l:List Int):NetM:=l.foldl (fun N i=>aN N (cJ i key)) N
theorem qu (N:NetM) (i:Nat) (hi:i<4) (key:Int):(aN N (cJ i key)).s=upd N.s i (doT (N.s i) i 2 key 0 0):=congrArg NetM.s (hed N (cJ i key) i rfl rfl hi rfl).2
theorem yR {c:Nat} {N:NetM} {S:Tab} (hI:NInv c N) (hc:c+4≤400) (hS:∀j,j<4→N.s j=S) (hT:am S=0) {key col v:Int} (h0:bS N (cQ 1 key col v)=0) :
  NInv (c+4) (eS key (aN N (cQ 1 key col v)) [0,2,3])∧∃R,am R=0∧(∀i,i<4→(ci (eS key (aN N (cQ 1 key col v)) [0,2,3])).s i=R)∧aX (aK key col R.e)=[v]:=by
 obtain ⟨e1,m1⟩:=hed N (cQ 1 key col v) 1 rfl rfl (by omega) rfl
 have e1:doE S 1 1 key col v=0:=by rw[←hS 1 (by omega)];exact e1.symm.trans h0
 have m1:(aN N (cQ 1 key col v)).s=upd N.s 1 (doT S 1 1 key col v):=by rw[m1,hS 1 (by omega)];rfl
 have I1:=hI.hap (by omega) (cQ 1 key col v)
 obtain ⟨N1,hN1⟩:∃X,aN N (cQ 1 key col v)=X:=⟨_,rfl⟩
 rw[hN1] at m1 I1 ⊢
 have m2:=qu N1 0 (by omega) key
 have I2:=I1.hap (by omega) (cJ (0:Nat) key)
 obtain ⟨N2,hN2⟩:∃X,aN N1 (cJ (0:Nat) key)=X:=⟨_,rfl⟩
 rw[hN2] at m2 I2
 have m3:=qu N2 2 (by omega) key
 have I3:=I2.hap (by omega) (cJ (2:Nat) key)
 obtain ⟨N3,hN3⟩:∃X,aN N2 (cJ (2:Nat) key)=X:=⟨_,rfl⟩
 rw[hN3] at m3 I3
 have m4:=qu N3 3 (by omega) key
 have I4:=I3.hap (by omega) (cJ (3:Nat) key)
 obtain ⟨N4,hN4⟩:∃X,aN N3 (cJ (3:Nat) key)=X:=⟨_,rfl⟩
 rw[hN4] at m4 I4
 have hD:eS key N1 [0,2,3]=N4:=by
  show aN (aN (aN N1 (cJ (0:Nat) key)) (cJ (2:Nat) key)) (cJ (3:Nat) key)=N4
  rw[hN2,hN3,hN4]
 rw[hD]
 have a0:N1.s 0=S:=by rw[m1,bQ _ _ (by omega)];exact hS 0 (by omega)
 have a1:N1.s 1=doT S 1 1 key col v:=by rw[m1,bH]
 have a2:N1.s 2=S:=by rw[m1,bQ _ _ (by omega)];exact hS 2 (by omega)
 have a3:N1.s 3=S:=by rw[m1,bQ _ _ (by omega)];exact hS 3 (by omega)
 have b2:N2.s 2=S:=by rw[m2,bQ _ _ (by omega),a2]
 have b3:N3.s 3=S:=by rw[m3,bQ _ _ (by omega),m2,bQ _ _ (by omega),a3]
 have c0:N4.s 0=doT S (0:Nat) 2 key 0 0:=by rw[m4,bQ _ _ (by omega),m3,bQ _ _ (by omega),m2,bH,a0]
 have c1:N4.s 1=doT S 1 1 key col v:=by rw[m4,bQ _ _ (by omega),m3,bQ _ _ (by omega),m2,bQ _ _ (by omega),a1]
 have c2:N4.s 2=doT S (2:Nat) 2 key 0 0:=by rw[m4,bQ _ _ (by omega),m3,bH,b2]
 have c3:N4.s 3=doT S (3:Nat) 2 key 0 0:=by rw[m4,bH,b3]
 have hE:edE S 1 1 key col v=cT S 1 key col v:=by unfold edE;rw[if_pos rfl]
 have hP:edT S 1 1 key col v=cF S 1 key col v:=by unfold edT;rw[if_pos rfl]
 have hd1:doT S 1 1 key col v=ac S (cF S 1 key col v):=by unfold doT;rw[if_pos e1,hP]
 have hpm:cT S 1 key col v=0∧ak S (cF S 1 key col v)=0:=by
  unfold doE at e1
  rw[hE,hP] at e1
  by_cases e:cT S 1 key col v=0
  ·rw[if_pos e] at e1;exact ⟨e,e1⟩
  ·rw[if_neg e] at e1;exact absurd e1 e
 obtain ⟨D,_,_,hnew,hcel,hctx⟩:=rS hpm.1 hpm.2
 rw[←hd1,←c1] at hcel hctx
 obtain ⟨I5,s5,_⟩:=I4.met
 obtain ⟨U,V,h1,_⟩:=I4.ex
 refine ⟨I4,jD N4.s,?_,s5,tQ (wn h1 hT hnew hcel hctx fun i hi=> ?_)⟩
 ·rw[←s5 0 (by omega)]
  obtain ⟨U,V,h1,_⟩:=I5.ex
  exact (h1.sub 0).ok
 ·have hl:=fun i:Nat=>(oC hT i key).2
  rcases hi with rfl|rfl|rfl
  ·rw[c0];exact hl 0
  ·rw[c2];exact hl 2
  ·rw[c3];exact hl 3
theorem qg (key:Int) (N:NetM) (l:List Int) (k:Nat) (hk:k<l.length):eS key N (l.take (k+1))=aN (eS key N (l.take k)) (cJ l[k] key):=by
 unfold eS
 rw[List.take_succ_eq_append_getElem hk,List.foldl_append]
 rfl
def gz:List Int:=[0,2,3]
theorem pO (A:Option Addr) (cap:Nat) (l:List (Hap×List UInt8)) (key col value:Int) (w:World) (hr:Reads w) (hl:l.length≤maxLen) (row:ay dR 10 w A l) (hx:∀p∈l,p.2.length≤maxLen) :
  Calls J 3 #[H A l.length cap,O I key,O I col,O I value] w fun e w'=>e= Z (.bool true)∧Below w.heap.size w w':=by
 have hS:Hid _:=pB w hr
 have hH:Hid (Reads w∧ay dR 10 w A l∧∀p∈l,p.2.length≤maxLen):=⟨hr,row,hx⟩
 have hPt:Hid (∀W,Calls J 9 #[O I 1,O I key,O I col,O I value] W fun e w'=>e= Z (Y (dR (cQ 1 key col value,[])).toArray)∧Gr W w'):=fun W=>gF 1 key col value W
 have hDl:Hid (∀i W,Calls J 10 #[O I i,O I key] W fun e w'=>e= Z (Y (dR (cJ i key,[])).toArray)∧Gr W w'):=fun i W=>lg i key W
 clear hr row hx
 go_enter Tryz.func3,Tryz.ntmps3
 go_wp2_with fail
 refine cM (show Calls _ _ _ _ _ from hS.out) ?_
 rintro e w1 ⟨rfl,f1⟩
 have hb1:Hid (Below w.heap.size w w1):=f1
 clear f1 hS
 by_cases h60:60<l.length
 ·have hz:(60:Int)<(l.length:Int):=by omega
  go_wp2
  go_ret
  exact ⟨rfl,hb1.out⟩
 have hz:¬(60:Int)<(l.length:Int):=by omega
 have hP:Hid _:=lJ w1 A cap l hl hH.out.2.1 hH.out.2.2 hH.out.1 hb1.out
 have hI:Hid (NInv (0+(l.map (·.1)).length) ((l.map (·.1)).foldl aN cW)):=NInv.play _ NInv.new (by rw[List.length_map];omega)
 obtain ⟨M,hM⟩:∃M,(l.map (·.1)).foldl aN cW=M:=⟨_,rfl⟩
 rw[hM] at hP hI
 clear hM
 go_wp2_with fail
 refine cM (show Calls _ _ _ _ _ from hP.out) ?_
 rintro e w2 ⟨B,Q,rfl,f1⟩
 have hE:Hid _:=mR f1 hI.out
 clear f1 hP
 go_wp2_with fail
 refine cM (show Calls _ _ _ _ _ from hE.out) ?_
 rintro e w3 ⟨rfl,f1,_⟩
 obtain ⟨N,hN⟩:∃N,ci M=N:=⟨_,rfl⟩
 have hmet:=hI.out.met
 rw[hN] at f1 hmet
 have hL:Hid (bT w1 w3 B N Q):=f1
 have hW:Hid (bS N (cQ 1 key col value)=0→_):=fun h0=>yR (key:=key) (col:=col) (v:=value) hmet.1 (by rw[List.length_map];omega) hmet.2.1 (by
  obtain ⟨⟨P,h1,_⟩,_⟩:=f1
  rw[←hmet.2.1 0 (by omega)]
  exact (h1.nd 0 (by omega)).ts.ok) h0
 have one:Hid (∀ {W:World} {X:NetM} (y:Hap),y.k=1→bT w1 W B X Q→Calls J 8 #[.pointer (some ⟨B,0,none⟩),Y (dR (y,[])).toArray] W fun e w'=>e= Z (O I (bS X y))∧bT w1 w' B (aN X y) Q∧Wr B 0 153 W w'):=by
  intro W X y hk hL
  refine (doL hL (hH.out.1.below hb1.out) (y,[]) (nZ _)).mono ?_
  rintro e w' ⟨er,Q',rfl,f1,f2,f3⟩
  obtain ⟨rfl,rfl⟩:=f1.ok (by show y.k≠5;omega)
  exact ⟨rfl,f2,f3⟩
 clear f1 hE hI hN hmet
 go_wp2_with fail
 refine cM (hPt.out _) ?_
 rintro e w4 ⟨rfl,g4⟩
 have hD:Hid _:=one.out (cQ 1 key col value) rfl (hL.out.below g4.below)
 clear g4 hL hPt
 go_wp2_with fail
 refine cM (show Calls _ _ _ _ _ from hD.out) ?_
 rintro e w5 ⟨rfl,f1,_⟩
 have hL:Hid (bT w1 w5 B (aN N (cQ 1 key col value)) Q):=f1
 clear f1 hD
 by_cases h0:bS N (cQ 1 key col value)=0
 rotate_left
 ·go_wp2
  go_ret
  exact ⟨rfl,hb1.out.trans (hL.out.2.1.mono hb1.out.size)⟩
 obtain ⟨I4,R,hR0,hR1,hR2⟩:=hW.out h0
 obtain ⟨N1,hN1⟩:∃X,aN N (cQ 1 key col value)=X:=⟨_,rfl⟩
 rw[hN1] at hL I4 hR1
 have hRR:Hid (NInv (0+(l.map (·.1)).length+4) (eS key N1 gz)∧am R=0∧(∀i,i<4→(ci (eS key N1 gz)).s i=R)∧aX (aK key col R.e)=[value]):=⟨I4,hR0,hR1,hR2⟩
 clear I4 hR0 hR1 hR2 hW hN1
 obtain ⟨w6,hw6⟩:∃W,w5.alloc (.cells #[O I 0,O I 2,O I 3] 3)=W:=⟨_,rfl⟩
 have hI:Hid (bT w1 w6 B (eS key N1 (gz.take 0)) Q∧ar w6 (some ⟨w5.heap.size,0,none⟩) gz∧B<w5.heap.size):=by
  have hg:Gr w5 w6:=by rw[←hw6];exact (gR _).alloc _
  obtain ⟨⟨P,h1,_⟩,_⟩:=hL.out
  exact ⟨hL.out.below hg.below,by rw[←hw6];exact js (enc:=eM) (k:=1) bP (W:=w5) rfl gz 3 _ rfl,h1.lt⟩
 clear hL
 go_wp2
 try rw[hw6]
 clear hw6
 go_loopw [34] (fun v34 wr=>∃k:Nat,k≤3∧v34= O I k∧Hid (bT w1 wr B (eS key N1 (gz.take k)) Q∧ar wr (some ⟨w5.heap.size,0,none⟩) gz∧B<w5.heap.size)) (fun v34 _=>3-(intOf v34).toNat)
 case atStart=>exact ⟨0,by omega,rfl,hI⟩
 clear hI
 rename World=>wr
 obtain ⟨k,hk,rfl,hI⟩:=hrel
 by_cases hk3:k<3
 ·have hkz:(k:Int)<3:=by omega
  have c0:=iT hI.out.2.1 k hk3
  obtain ⟨d,hd⟩:∃d,gz[k]'hk3=d:=⟨_,rfl⟩
  have hd2:gz.getD k 0=d:=by rw[←hd];exact (List.getElem_eq_getD 0).symm
  have hnx:Hid (eS key N1 (gz.take (k+1))=aN (eS key N1 (gz.take k)) (cJ d key)):=by
   show _=_
   rw[←hd]
   exact qg key N1 gz k hk3
  rw[hd2,Nat.zero_add] at c0
  clear hd hd2
  go_wp2_with fail
  refine cM (hDl.out d _) ?_
  rintro e wd ⟨rfl,g⟩
  have hD:Hid _:=one.out (cJ d key) rfl (hI.out.1.below g.below)
  have hK:Hid (ar wd (some ⟨w5.heap.size,0,none⟩) gz∧B<w5.heap.size):=⟨hI.out.2.1.gr g,hI.out.2.2⟩
  clear g hI c0
  go_wp2_with fail
  refine cM (show Calls _ _ _ _ _ from hD.out) ?_
  rintro e we ⟨rfl,f1,f2⟩
  have hF:Hid (bT w1 we B (eS key N1 (gz.take (k+1))) Q∧ar we (some ⟨w5.heap.size,0,none⟩) gz∧B<w5.heap.size):=⟨by rw[hnx.out];exact f1,hK.out.1.agr (P:=fun b=>b≠B) (fun a ha _=>by injection ha with ha;rw[←ha];show w5.heap.size≠B;have:=hK.out.2;omega) (f2.agr (by simp)),hK.out.2⟩
  clear f1 f2 hD hK hnx
  go_wp2
  go_roundw
  case rel=>exact ⟨k+1,by omega,by go_num,hF⟩
  case measure=>simp[intOf];omega
 have hkz:¬(k:Int)<3:=by omega
 obtain rfl:k=3:=by omega
 have hM1:Hid _:=mR (M:=eS key N1 gz) hI.out.1 hRR.out.1
 clear hI
 go_wp2_with fail
 refine cM (show Calls _ _ _ _ _ from hM1.out) ?_
 rintro e w7 ⟨rfl,f1,_⟩
 obtain ⟨N5,hN5⟩:∃X,ci (eS key N1 gz)=X:=⟨_,rfl⟩
 rw[hN5] at f1 hRR
 have hK:Hid (bT w1 w7 B N5 Q):=f1
 clear f1 hM1 hN5
 go_wp2
 go_loopw [47] (fun v47 wr=>∃i:Nat,i≤4∧v47= O I i∧Hid (bT w1 wr B N5 Q)) (fun v47 _=>4-(intOf v47).toNat)
 case atStart=>exact ⟨0,by omega,rfl,hK⟩
 case round =>
  obtain ⟨i,hi,rfl,hJ⟩:=hrel
  by_cases hi4:i<4
  rotate_left
  ·have hz:¬(i:Int)<4:=by omega
   go_wp2
   go_ret
   exact ⟨rfl,hb1.out.trans (hJ.out.2.1.mono hb1.out.size)⟩
  have hiz:(i:Int)<4:=by omega
  have t0:Calls J 11 #[.pointer (some ⟨B,0,none⟩),O I i,O I 0] wr fun e w'=>∃v,e= Z (.tuple #[v,O I 0])∧TbV wr.heap.size w' v R∧Below wr.heap.size wr w':=by
   obtain ⟨⟨P,hP,_⟩,_⟩:=hJ.out
   have:=kH hP i hi4
   rwa [hRR.out.2.2.1 i hi4] at this
  have hT0:Hid _:=t0
  clear t0
  go_wp2_with fail
  refine cM (show Calls _ _ _ _ _ from hT0.out) ?_
  rintro e x2 ⟨v,rfl,⟨C,ca,D,cd,rfl,f1⟩,f2⟩
  obtain ⟨x3,hx3⟩:∃W,x2.alloc (.cells #[O I R.c.c0,O I R.c.c1,O I R.c.c2,O I R.c.c3,H C R.c.l.length ca,H D R.e.length cd] 42)=W:=⟨_,rfl⟩
  have hg3:Gr x2 x3:=by rw[←hx3];exact (gR x2).alloc _
  have hBx:Cls x3 x2.heap.size (T6 R C ca D cd):=by rw[←hx3];exact Cls.new x2 _ _
  obtain ⟨b0,b1,b2,b3,b4,b5⟩:=fQ hBx
  have o0:=gj R C ca D cd key col x3 (by have:=(af hRR.out.2.1).2.1;omega) (f1.row.gr hg3) (f1.cel.gr hg3)
  rw[hRR.out.2.2.2] at o0
  have hO:Hid (Calls J 13 #[Y (T6 R C ca D cd).toArray,O I key,O I col] x3 fun e w'=>∃C cp,e= Z (H C 1 cp)∧ar w' C [value]∧Below x3.heap.size x3 w'):=o0
  have hB3:Hid (bT w1 x3 B N5 Q):=(hJ.out.below f2).below hg3.below
  clear o0 f1 f2 hg3 hBx hT0 hJ
  go_wp2_with fail
  try rw[hx3]
  clear hx3
  refine cM (show Calls _ _ _ _ _ from hO.out) ?_
  rintro e x4 ⟨E,cp,rfl,g1,g2⟩
  obtain ⟨x5,hx5⟩:∃W,x4.alloc (.cells #[O I value] 3)=W:=⟨_,rfl⟩
  have hg5:Gr x4 x5:=by rw[←hx5];exact (gR x4).alloc _
  have hQ:Hid (Calls J 12 #[H E 1 cp,H (some ⟨x4.heap.size,0,none⟩) 1 1] x5 fun e w'=>e= Z (.bool true)∧Gr x5 w'):=by
   have:=gB [value] [value] E (some ⟨x4.heap.size,0,none⟩) cp 1 x5 (by simp) (by simp) (g1.gr hg5) (by rw[←hx5];exact js (enc:=eM) (k:=1) bP (W:=x4) rfl [value] 3 _ rfl)
   rw[decide_eq_true rfl] at this
   exact this
  have hB5:Hid (bT w1 x5 B N5 Q):=(hB3.out.below g2).below hg5.below
  clear g1 g2 hg5 hO hB3
  go_wp2_with fail
  try rw[hx5]
  clear hx5
  refine cM (show Calls _ _ _ _ _ from hQ.out) ?_
  rintro e x6 ⟨rfl,g6⟩
  have hB6:Hid (bT w1 x6 B N5 Q):=hB5.out.below g6.below
  clear g6 hQ hB5
  go_wp2
  go_roundw
  case rel=>exact ⟨i+1,by omega,by go_num,hB6⟩
  case measure=>simp[intOf];omega
end Go.Proofs.YtkefkplnamkicabGreatDoor
