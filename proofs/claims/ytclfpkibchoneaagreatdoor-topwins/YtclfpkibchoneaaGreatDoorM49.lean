/-
  TopWins: when all had met, who puts a value, and tells it, while others delete that row, keeps it.
-/
import Derived.Test.YtclfpkibchoneaaGreatDoorM42
set_option maxRecDepth 100000
set_option maxHeartbeats 8000000
open Go.Ending renaming returned → Z
open Go.IntKind renaming i64 → I
open Go.Proofs.Tryz renaming prog → J
open Go.Value renaming int → O, slice → H, agg → Y
namespace Go.Proofs.YtclfpkibchoneaaGreatDoor
open Go.RowKit Go.Sort

def fi (key:Int) (N:NetM) (l:List Int):NetM:=l.foldl (fun N i=>aj N (cU i key)) N
theorem rR (N:NetM) (i:Nat) (hi:i<4) (key:Int):(aj N (cU i key)).s=upd N.s i (doT (N.s i) i 2 key 0 0):=congrArg NetM.s (hed N (cU i key) i rfl rfl hi rfl).2
theorem Aj {c:Nat} {N:NetM} {S:Tab} (hI:NInv c N) (hc:c+4≤400) (hS:∀j,j<4→N.s j=S) (hT:al S=0) {key col v:Int} (h0:aX N (cI 1 key col v)=0) :
  NInv (c+4) (fi key (aj N (cI 1 key col v)) [0,2,3])∧∃R,al R=0∧(∀i,i<4→(cG (fi key (aj N (cI 1 key col v)) [0,2,3])).s i=R)∧bi (aM key col R.e)=[v]:=by
 obtain ⟨e1,m1⟩:=hed N (cI 1 key col v) 1 rfl rfl (by omega) rfl
 have e1:doE S 1 1 key col v=0:=by rw[←hS 1 (by omega)];exact e1.symm.trans h0
 have m1:(aj N (cI 1 key col v)).s=upd N.s 1 (doT S 1 1 key col v):=by rw[m1,hS 1 (by omega)];rfl
 have I1:=hI.hap (by omega) (cI 1 key col v)
 obtain ⟨N1,hN1⟩:∃X,aj N (cI 1 key col v)=X:=⟨_,rfl⟩
 rw[hN1] at m1 I1 ⊢
 have m2:=rR N1 0 (by omega) key
 have I2:=I1.hap (by omega) (cU (0:Nat) key)
 obtain ⟨N2,hN2⟩:∃X,aj N1 (cU (0:Nat) key)=X:=⟨_,rfl⟩
 rw[hN2] at m2 I2
 have m3:=rR N2 2 (by omega) key
 have I3:=I2.hap (by omega) (cU (2:Nat) key)
 obtain ⟨N3,hN3⟩:∃X,aj N2 (cU (2:Nat) key)=X:=⟨_,rfl⟩
 rw[hN3] at m3 I3
 have m4:=rR N3 3 (by omega) key
 have I4:=I3.hap (by omega) (cU (3:Nat) key)
 obtain ⟨N4,hN4⟩:∃X,aj N3 (cU (3:Nat) key)=X:=⟨_,rfl⟩
 rw[hN4] at m4 I4
 have hD:fi key N1 [0,2,3]=N4:=by
  show aj (aj (aj N1 (cU (0:Nat) key)) (cU (2:Nat) key)) (cU (3:Nat) key)=N4
  rw[hN2,hN3,hN4]
 rw[hD]
 have a0:N1.s 0=S:=by rw[m1,bU _ _ (by omega)];exact hS 0 (by omega)
 have a1:N1.s 1=doT S 1 1 key col v:=by rw[m1,aQ]
 have a2:N1.s 2=S:=by rw[m1,bU _ _ (by omega)];exact hS 2 (by omega)
 have a3:N1.s 3=S:=by rw[m1,bU _ _ (by omega)];exact hS 3 (by omega)
 have b2:N2.s 2=S:=by rw[m2,bU _ _ (by omega),a2]
 have b3:N3.s 3=S:=by rw[m3,bU _ _ (by omega),m2,bU _ _ (by omega),a3]
 have c0:N4.s 0=doT S (0:Nat) 2 key 0 0:=by rw[m4,bU _ _ (by omega),m3,bU _ _ (by omega),m2,aQ,a0]
 have c1:N4.s 1=doT S 1 1 key col v:=by rw[m4,bU _ _ (by omega),m3,bU _ _ (by omega),m2,bU _ _ (by omega),a1]
 have c2:N4.s 2=doT S (2:Nat) 2 key 0 0:=by rw[m4,bU _ _ (by omega),m3,aQ,b2]
 have c3:N4.s 3=doT S (3:Nat) 2 key 0 0:=by rw[m4,aQ,b3]
 have hE:edE S 1 1 key col v=dc S 1 key col v:=by unfold edE;rw[if_pos rfl]
 have hP:edT S 1 1 key col v=cP S 1 key col v:=by unfold edT;rw[if_pos rfl]
 have hd1:doT S 1 1 key col v=ac S (cP S 1 key col v):=by unfold doT;rw[if_pos e1,hP]
 have hpm:dc S 1 key col v=0∧am S (cP S 1 key col v)=0:=by
  unfold doE at e1
  rw[hE,hP] at e1
  by_cases e:dc S 1 key col v=0
  ·rw[if_pos e] at e1;exact ⟨e,e1⟩
  ·rw[if_neg e] at e1;exact absurd e1 e
 obtain ⟨D,_,_,hnew,hcel,hctx⟩:=tu hpm.1 hpm.2
 rw[←hd1,←c1] at hcel hctx
 obtain ⟨I5,s5,_⟩:=I4.met
 obtain ⟨U,V,h1,_⟩:=I4.ex
 refine ⟨I4,ki N4.s,?_,s5,vm (xT h1 hT hnew hcel hctx fun i hi=> ?_)⟩
 ·rw[←s5 0 (by omega)]
  obtain ⟨U,V,h1,_⟩:=I5.ex
  exact (h1.sub 0).ok
 ·have hl:=fun i:Nat=>(pW hT i key).2
  rcases hi with rfl|rfl|rfl
  ·rw[c0];exact hl 0
  ·rw[c2];exact hl 2
  ·rw[c3];exact hl 3
theorem rA (key:Int) (N:NetM) (l:List Int) (k:Nat) (hk:k<l.length):fi key N (l.take (k+1))=aj (fi key N (l.take k)) (cU l[k] key):=by
 unfold fi
 rw[List.take_succ_eq_append_getElem hk,List.foldl_append]
 rfl
def gY:List Int:=[0,2,3]
theorem rh (A:Option Addr) (cap:Nat) (l:List (Hap×List UInt8)) (key col value:Int) (w:World) (hr:Reads w) (hl:l.length≤maxLen) (row:ax bY 10 w A l) (hx:∀p∈l,p.2.length≤maxLen) :
  Calls J 6 #[H A l.length cap,O I key,O I col,O I value] w fun e w'=>e= Z (.bool true)∧Below w.heap.size w w':=by
 have hS:Hid _:=jU w hr
 have hH:Hid (Reads w∧ax bY 10 w A l∧∀p∈l,p.2.length≤maxLen):=⟨hr,row,hx⟩
 have hPt:Hid (∀W,Calls J 20 #[O I 1,O I key,O I col,O I value] W fun e w'=>e= Z (Y (bY (cI 1 key col value,[])).toArray)∧Gr W w'):=fun W=>ie 1 key col value W
 have hDl:Hid (∀i W,Calls J 21 #[O I i,O I key] W fun e w'=>e= Z (Y (bY (cU i key,[])).toArray)∧Gr W w'):=fun i W=>mj i key W
 clear hr row hx
 go_enter Tryz.func6,Tryz.ntmps6
 go_wp2_with fail
 refine cM (show Calls _ _ _ _ _ from hS.out) ?_
 rintro e w1 ⟨rfl,f1⟩
 have hb1:Hid (Below w.heap.size w w1):=f1
 clear f1 hS
 by_cases h60:60<l.length
 ·have hz:(60:Int)<(l.length:Int):=by omega
  go_wp2
  go_ret
  exact ⟨rfl,hb1.out⟩
 have hz:¬(60:Int)<(l.length:Int):=by omega
 have hP:Hid _:=fm w1 A cap l hl hH.out.2.1 hH.out.2.2 hH.out.1 hb1.out
 have hI:Hid (NInv (0+(l.map (·.1)).length) ((l.map (·.1)).foldl aj aT)):=NInv.play _ NInv.new (by rw[List.length_map];omega)
 obtain ⟨M,hM⟩:∃M,(l.map (·.1)).foldl aj aT=M:=⟨_,rfl⟩
 rw[hM] at hP hI
 clear hM
 go_wp2_with fail
 refine cM (show Calls _ _ _ _ _ from hP.out) ?_
 rintro e w2 ⟨B,Q,rfl,f1⟩
 have hE:Hid _:=ot f1 hI.out
 clear f1 hP
 go_wp2_with fail
 refine cM (show Calls _ _ _ _ _ from hE.out) ?_
 rintro e w3 ⟨rfl,f1,_⟩
 obtain ⟨N,hN⟩:∃N,cG M=N:=⟨_,rfl⟩
 have hmet:=hI.out.met
 rw[hN] at f1 hmet
 have hL:Hid (bn w1 w3 B N Q):=f1
 have hW:Hid (aX N (cI 1 key col value)=0→_):=fun h0=>Aj (key:=key) (col:=col) (v:=value) hmet.1 (by rw[List.length_map];omega) hmet.2.1 (by
  obtain ⟨⟨P,h1,_⟩,_⟩:=f1
  rw[←hmet.2.1 0 (by omega)]
  exact (h1.nd 0 (by omega)).ts.ok) h0
 have one:Hid (∀ {W:World} {X:NetM} (y:Hap),y.k=1→bn w1 W B X Q→Calls J 10 #[.pointer (some ⟨B,0,none⟩),Y (bY (y,[])).toArray] W fun e w'=>e= Z (O I (aX X y))∧bn w1 w' B (aj X y) Q∧Wr B 0 153 W w'):=by
  intro W X y hk hL
  refine (doL hL (hH.out.1.below hb1.out) (y,[]) (nZ _)).mono ?_
  rintro e w' ⟨er,Q',rfl,f1,f2,f3⟩
  obtain ⟨rfl,rfl⟩:=f1.ok (by show y.k≠5;omega)
  exact ⟨rfl,f2,f3⟩
 clear f1 hE hI hN hmet
 go_wp2_with fail
 refine cM (hPt.out _) ?_
 rintro e w4 ⟨rfl,g4⟩
 have hD:Hid _:=one.out (cI 1 key col value) rfl (hL.out.below g4.below)
 clear g4 hL hPt
 go_wp2_with fail
 refine cM (show Calls _ _ _ _ _ from hD.out) ?_
 rintro e w5 ⟨rfl,f1,_⟩
 have hL:Hid (bn w1 w5 B (aj N (cI 1 key col value)) Q):=f1
 clear f1 hD
 by_cases h0:aX N (cI 1 key col value)=0
 rotate_left
 ·go_wp2
  go_ret
  exact ⟨rfl,hb1.out.trans (hL.out.2.1.mono hb1.out.size)⟩
 obtain ⟨I4,R,hR0,hR1,hR2⟩:=hW.out h0
 obtain ⟨N1,hN1⟩:∃X,aj N (cI 1 key col value)=X:=⟨_,rfl⟩
 rw[hN1] at hL I4 hR1
 have hRR:Hid (NInv (0+(l.map (·.1)).length+4) (fi key N1 gY)∧al R=0∧(∀i,i<4→(cG (fi key N1 gY)).s i=R)∧bi (aM key col R.e)=[value]):=⟨I4,hR0,hR1,hR2⟩
 clear I4 hR0 hR1 hR2 hW hN1
 obtain ⟨w6,hw6⟩:∃W,w5.alloc (.cells #[O I 0,O I 2,O I 3] 3)=W:=⟨_,rfl⟩
 have hI:Hid (bn w1 w6 B (fi key N1 (gY.take 0)) Q∧ar w6 (some ⟨w5.heap.size,0,none⟩) gY∧B<w5.heap.size):=by
  have hg:Gr w5 w6:=by rw[←hw6];exact (gR _).alloc _
  obtain ⟨⟨P,h1,_⟩,_⟩:=hL.out
  exact ⟨hL.out.below hg.below,by rw[←hw6];exact gE (enc:=eT) (k:=1) bX (W:=w5) rfl gY 3 _ rfl,h1.lt⟩
 clear hL
 go_wp2
 try rw[hw6]
 clear hw6
 go_loopw [34] (fun v34 wr=>∃k:Nat,k≤3∧v34= O I k∧Hid (bn w1 wr B (fi key N1 (gY.take k)) Q∧ar wr (some ⟨w5.heap.size,0,none⟩) gY∧B<w5.heap.size)) (fun v34 _=>3-(intOf v34).toNat)
 case atStart=>exact ⟨0,by omega,rfl,hI⟩
 clear hI
 rename World=>wr
 obtain ⟨k,hk,rfl,hI⟩:=hrel
 by_cases hk3:k<3
 ·have hkz:(k:Int)<3:=by omega
  have c0:=jn hI.out.2.1 k hk3
  obtain ⟨d,hd⟩:∃d,gY[k]'hk3=d:=⟨_,rfl⟩
  have hd2:gY.getD k 0=d:=by rw[←hd];exact (List.getElem_eq_getD 0).symm
  have hnx:Hid (fi key N1 (gY.take (k+1))=aj (fi key N1 (gY.take k)) (cU d key)):=by
   show _=_
   rw[←hd]
   exact rA key N1 gY k hk3
  rw[hd2,Nat.zero_add] at c0
  clear hd hd2
  go_wp2_with fail
  refine cM (hDl.out d _) ?_
  rintro e wd ⟨rfl,g⟩
  have hD:Hid _:=one.out (cU d key) rfl (hI.out.1.below g.below)
  have hK:Hid (ar wd (some ⟨w5.heap.size,0,none⟩) gY∧B<w5.heap.size):=⟨hI.out.2.1.gr g,hI.out.2.2⟩
  clear g hI c0
  go_wp2_with fail
  refine cM (show Calls _ _ _ _ _ from hD.out) ?_
  rintro e we ⟨rfl,f1,f2⟩
  have hF:Hid (bn w1 we B (fi key N1 (gY.take (k+1))) Q∧ar we (some ⟨w5.heap.size,0,none⟩) gY∧B<w5.heap.size):=⟨by rw[hnx.out];exact f1,hK.out.1.agr (P:=fun b=>b≠B) (fun a ha _=>by injection ha with ha;rw[←ha];show w5.heap.size≠B;have:=hK.out.2;omega) (f2.agr (by simp)),hK.out.2⟩
  clear f1 f2 hD hK hnx
  go_wp2
  go_roundw
  case rel=>exact ⟨k+1,by omega,by go_num,hF⟩
  case measure=>simp[intOf];omega
 have hkz:¬(k:Int)<3:=by omega
 obtain rfl:k=3:=by omega
 have hM1:Hid _:=ot (M:=fi key N1 gY) hI.out.1 hRR.out.1
 clear hI
 go_wp2_with fail
 refine cM (show Calls _ _ _ _ _ from hM1.out) ?_
 rintro e w7 ⟨rfl,f1,_⟩
 obtain ⟨N5,hN5⟩:∃X,cG (fi key N1 gY)=X:=⟨_,rfl⟩
 rw[hN5] at f1 hRR
 have hK:Hid (bn w1 w7 B N5 Q):=f1
 clear f1 hM1 hN5
 go_wp2
 go_loopw [47] (fun v47 wr=>∃i:Nat,i≤4∧v47= O I i∧Hid (bn w1 wr B N5 Q)) (fun v47 _=>4-(intOf v47).toNat)
 case atStart=>exact ⟨0,by omega,rfl,hK⟩
 case round =>
  obtain ⟨i,hi,rfl,hJ⟩:=hrel
  by_cases hi4:i<4
  rotate_left
  ·have hz:¬(i:Int)<4:=by omega
   go_wp2
   go_ret
   exact ⟨rfl,hb1.out.trans (hJ.out.2.1.mono hb1.out.size)⟩
  have hiz:(i:Int)<4:=by omega
  have t0:Calls J 13 #[.pointer (some ⟨B,0,none⟩),O I i,O I 0] wr fun e w'=>∃v,e= Z (.tuple #[v,O I 0])∧TbV wr.heap.size w' v R∧Below wr.heap.size wr w':=by
   obtain ⟨⟨P,hP,_⟩,_⟩:=hJ.out
   have:=gI hP i hi4
   rwa [hRR.out.2.2.1 i hi4] at this
  have hT0:Hid _:=t0
  clear t0
  go_wp2_with fail
  refine cM (show Calls _ _ _ _ _ from hT0.out) ?_
  rintro e x2 ⟨v,rfl,⟨C,ca,D,cd,rfl,f1⟩,f2⟩
  obtain ⟨x3,hx3⟩:∃W,x2.alloc (.cells #[O I R.c.c0,O I R.c.c1,O I R.c.c2,O I R.c.c3,H C R.c.l.length ca,H D R.e.length cd] 41)=W:=⟨_,rfl⟩
  have hg3:Gr x2 x3:=by rw[←hx3];exact (gR x2).alloc _
  have hBx:Cls x3 x2.heap.size (T6 R C ca D cd):=by rw[←hx3];exact Cls.new x2 _ _
  obtain ⟨b0,b1,b2,b3,b4,b5⟩:=fh hBx
  have o0:=ft R C ca D cd key col x3 (by have:=(ae hRR.out.2.1).2.1;omega) (f1.row.gr hg3) (f1.cel.gr hg3)
  rw[hRR.out.2.2.2] at o0
  have hO:Hid (Calls J 23 #[Y (T6 R C ca D cd).toArray,O I key,O I col] x3 fun e w'=>∃C cp,e= Z (H C 1 cp)∧ar w' C [value]∧Below x3.heap.size x3 w'):=o0
  have hB3:Hid (bn w1 x3 B N5 Q):=(hJ.out.below f2).below hg3.below
  clear o0 f1 f2 hg3 hBx hT0 hJ
  go_wp2_with fail
  try rw[hx3]
  clear hx3
  refine cM (show Calls _ _ _ _ _ from hO.out) ?_
  rintro e x4 ⟨E,cp,rfl,g1,g2⟩
  obtain ⟨x5,hx5⟩:∃W,x4.alloc (.cells #[O I value] 3)=W:=⟨_,rfl⟩
  have hg5:Gr x4 x5:=by rw[←hx5];exact (gR x4).alloc _
  have hQ:Hid (Calls J 22 #[H E 1 cp,H (some ⟨x4.heap.size,0,none⟩) 1 1] x5 fun e w'=>e= Z (.bool true)∧Gr x5 w'):=by
   have:=fD [value] [value] E (some ⟨x4.heap.size,0,none⟩) cp 1 x5 (by simp) (by simp) (g1.gr hg5) (by rw[←hx5];exact gE (enc:=eT) (k:=1) bX (W:=x4) rfl [value] 3 _ rfl)
   rw[decide_eq_true rfl] at this
   exact this
  have hB5:Hid (bn w1 x5 B N5 Q):=(hB3.out.below g2).below hg5.below
  clear g1 g2 hg5 hO hB3
  go_wp2_with fail
  try rw[hx5]
  clear hx5
  refine cM (show Calls _ _ _ _ _ from hQ.out) ?_
  rintro e x6 ⟨rfl,g6⟩
  have hB6:Hid (bn w1 x6 B N5 Q):=hB5.out.below g6.below
  clear g6 hQ hB5
  go_wp2
  go_roundw
  case rel=>exact ⟨i+1,by omega,by go_num,hB6⟩
  case measure=>simp[intOf];omega
end Go.Proofs.YtclfpkibchoneaaGreatDoor
