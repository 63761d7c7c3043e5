import Derived.Test.YtkefkplnamkicabGreatDoorM30
set_option maxRecDepth 100000
set_option maxHeartbeats 8000000
open Go.Ending renaming returned → H
open Go.IntKind renaming i64 → I
open Go.Proofs.Tryz renaming prog → Z
open Go.Value renaming int → O, slice → J, pointer → Y, agg → F, bool → L
namespace Go.Proofs.YtkefkplnamkicabGreatDoor
open Go.RowKit Go.Sort

theorem yr {c:Nat} {N:NetM} {S:Tab} (hI:NInv c N) (hc:c+1≤400) (hS:∀j,j<4→N.s j=S) (hT:am S=0) (key:Int) {r:Nat} (hr:r<4) :
  (bS N (cJ r key)≠0→kw (aX (aT S.e)) key=false)∧NInv (c+1) (aN N (cJ r key))∧∃R,am R=0∧(∀i,i<4→(ci (aN N (cJ r key))).s i=R)∧kw (aX (aT R.e)) key=false∧∀k col,k≠key→aX (aK k col R.e)=aX (aK k col S.e):=by
 obtain ⟨e1,m1⟩:=hed N (cJ r key) r rfl rfl hr rfl
 rw[hS r hr] at e1 m1
 have I1:=hI.hap (by omega) (cJ r key)
 have ms:(aN N (cJ r key)).s=upd N.s r (doT S r 2 key 0 0):=congrArg NetM.s m1
 obtain ⟨N1,hN1⟩:∃X,aN N (cJ r key)=X:=⟨_,rfl⟩
 rw[hN1] at ms I1 ⊢
 have hn:∀T:Tab,key ∉ aX (aT T.e)→kw (aX (aT T.e)) key=false:=fun T h=>by simp[kw,h]
 obtain ⟨I5,s5,_⟩:=I1.met
 obtain ⟨U,V,h1,_⟩:=I1.ex
 have hg:=uJ h1 hT (key:=key) hr (by rw[ms,bH];exact (oC hT r key).2) (fun i hi ne=>by rw[ms,bQ _ _ ne];exact hS i hi)
 obtain ⟨k1,k2⟩:=sF hg
 refine ⟨fun h=>hn S fun hm=> ?_,I1,jD N1.s,?_,s5,hn _ k1,k2⟩
 ·refine ur hT (fun h0=>h ?_) (((bW _).2 _).1 hm)
  obtain ⟨_,_,hm,_⟩:=gY h0
  rw[e1]
  show doE S r 2 key 0 0=0
  have x1:edE S r 2 key 0 0=dF S key:=by unfold edE;rw[if_neg (by decide),if_pos rfl]
  have x2:edT S r 2 key 0 0=⟨ch S key,[]⟩:=by unfold edT;rw[if_neg (by decide),if_pos rfl]
  unfold doE
  rw[x1,if_pos h0,x2]
  exact hm
 ·rw[←s5 0 (by omega)]
  obtain ⟨U,V,h1,_⟩:=I5.ex
  exact (h1.sub 0).ok
structure Was (w wr:World) (B:Nat) (N:NetM) (Q:Nat→List (List Stp)) (n D:Nat) (S:Tab) (A:Option Addr) (a:Nat) (C:Option Addr) (c:Nat):Prop where
 law:bT w wr B N Q
 box:Cls wr D (T6 S A a C c)
 tab:TbW n wr S A a C c
 lt:B<n
 le:n≤D
section
variable {w wr w':World} {B:Nat} {N N':NetM} {Q:Nat→List (List Stp)} {n D:Nat} {S:Tab} {A:Option Addr} {a:Nat} {C:Option Addr} {c:Nat}
theorem Was.below (h:Was w wr B N Q n D S A a C c) (k:Below wr.heap.size wr w'):Was w w' B N Q n D S A a C c:=⟨h.law.below k,h.box.below k,h.tab.below k,h.lt,h.le⟩
theorem Was.step (h:Was w wr B N Q n D S A a C c) (l:bT w w' B N' Q) (k:Wr B 0 153 wr w'):Was w w' B N' Q n D S A a C c:=by
 have h1:=h.lt
 have h2:=h.le
 exact ⟨l,h.box.keep (k.oth _ h.box.lt (by omega)),h.tab.agr (k.agr (by omega)),h.lt,h.le⟩
end
theorem pM (A:Option Addr) (cap:Nat) (l:List (Hap×List UInt8)) (key ii:Int) (w:World) (hr:Reads w) (hl:l.length≤maxLen) (row:ay dR 10 w A l) (hx:∀p∈l,p.2.length≤maxLen) :
  Calls Z 4 #[J A l.length cap,O I key,O I ii] w fun e w'=>e= H (L true)∧Below w.heap.size w w':=by
 have hS:Hid _:=pB w hr
 have hH:Hid (Reads w∧ay dR 10 w A l∧∀p∈l,p.2.length≤maxLen):=⟨hr,row,hx⟩
 have hDl:Hid (∀i W,Calls Z 10 #[O I i,O I key] W fun e w'=>e= H (F (dR (cJ i key,[])).toArray)∧Gr W w'):=fun i W=>lg i key W
 have r1:Hid (∀W,Calls Z 14 #[O I ii,O I 4] W fun e w'=>(∃r:Nat,e= H (O I r)∧r<4)∧w'=W):=fun W=>xB ii 4 W (by omega)
 have mixed:Tryz.prog.follows .mixedOrders=true:=by kernel_rfl
 clear hr row hx
 go_enter Tryz.func4,Tryz.ntmps4
 go_wp2_with fail
 refine cM (show Calls _ _ _ _ _ from hS.out) ?_
 rintro e w1 ⟨rfl,f1⟩
 have hb1:Hid (Below w.heap.size w w1):=f1
 clear f1 hS
 by_cases h60:60<l.length
 ·have hz:(60:Int)<(l.length:Int):=by omega
  go_wp2
  go_ret
  exact ⟨rfl,hb1.out⟩
 have hz:¬(60:Int)<(l.length:Int):=by omega
 have hP:Hid _:=lJ w1 A cap l hl hH.out.2.1 hH.out.2.2 hH.out.1 hb1.out
 have hI:Hid (NInv (0+(l.map (·.1)).length) ((l.map (·.1)).foldl aN cW)):=NInv.play _ NInv.new (by rw[List.length_map];omega)
 obtain ⟨M,hM⟩:∃M,(l.map (·.1)).foldl aN cW=M:=⟨_,rfl⟩
 rw[hM] at hP hI
 clear hM
 go_wp2_with fail
 refine cM (show Calls _ _ _ _ _ from hP.out) ?_
 rintro e w2 ⟨B,Q,rfl,f1⟩
 have hE:Hid _:=mR f1 hI.out
 clear f1 hP
 go_wp2_with fail
 refine cM (show Calls _ _ _ _ _ from hE.out) ?_
 rintro e w3 ⟨rfl,f1,_⟩
 obtain ⟨N,hN⟩:∃N,ci M=N:=⟨_,rfl⟩
 have hmet:=hI.out.met
 rw[hN] at f1 hmet
 obtain ⟨S,hSe⟩:∃S,jD M.s=S:=⟨_,rfl⟩
 rw[hSe] at hmet
 have hL:Hid (bT w1 w3 B N Q∧B<w3.heap.size∧am S=0):=by
  refine ⟨f1,?_⟩
  obtain ⟨⟨P,h1,_⟩,_⟩:=f1
  rw[←hmet.2.1 0 (by omega)]
  exact ⟨h1.lt,(h1.nd 0 (by omega)).ts.ok⟩
 have hW:Hid (∀r:Nat,r<4→_):=fun r hr=>yr hmet.1 (by rw[List.length_map];omega) hmet.2.1 hL.out.2.2 key hr
 have hT0:Hid (Calls Z 11 #[Y (some ⟨B,0,none⟩),O I 0,O I 0] w3 fun e w'=>∃v,e= H (.tuple #[v,O I 0])∧TbV w3.heap.size w' v S∧Below w3.heap.size w3 w'):=by
  obtain ⟨⟨P,hP,_⟩,_⟩:=f1
  have:=kH hP 0 (by omega)
  rwa [hmet.2.1 0 (by omega)] at this
 have one:Hid (∀ {W:World} {X:NetM} (y:Hap),y.k=1→bT w1 W B X Q→Calls Z 8 #[Y (some ⟨B,0,none⟩),F (dR (y,[])).toArray] W fun e w'=>e= H (O I (bS X y))∧bT w1 w' B (aN X y) Q∧Wr B 0 153 W w'):=by
  intro W X y hk hL
  refine (doL hL (hH.out.1.below hb1.out) (y,[]) (nZ _)).mono ?_
  rintro e w' ⟨er,Q',rfl,f1,f2,f3⟩
  obtain ⟨rfl,rfl⟩:=f1.ok (by show y.k≠5;omega)
  exact ⟨rfl,f2,f3⟩
 clear f1 hE hI hN hmet hSe
 go_wp2_with fail
 refine cM (show Calls _ _ _ _ _ from hT0.out) ?_
 rintro e w4 ⟨v,rfl,⟨A8,a8,C8,c8,rfl,f1⟩,f2⟩
 obtain ⟨w5,hw5⟩:∃W,w4.alloc (.cells #[O I S.c.c0,O I S.c.c1,O I S.c.c2,O I S.c.c3,J A8 S.c.l.length a8,J C8 S.e.length c8] 42)=W:=⟨_,rfl⟩
 obtain ⟨n,hn⟩:∃n,w3.heap.size=n:=⟨_,rfl⟩
 obtain ⟨D,hD⟩:∃n,w4.heap.size=n:=⟨_,rfl⟩
 have hK:Hid (Was w1 w5 B N Q n D S A8 a8 C8 c8):=by
  have hg:Gr w4 w5:=by rw[←hw5];exact (gR _).alloc _
  rw[←hn,←hD]
  exact ⟨(hL.out.1.below f2).below hg.below,by rw[←hw5];exact Cls.new w4 _ _,f1.below hg.below,hL.out.2.1,f2.size⟩
 have hS0:Hid (am S=0):=hL.out.2.2
 obtain ⟨K,hKe⟩:∃K,aX (aT S.e)=K:=⟨_,rfl⟩
 have hKl:Hid (K.length≤400):=by
  have h1:=(af hS0.out).2.1
  have h2:=el (aT S.e)
  rw[hKe,show (aT S.e).length=S.e.length from List.length_map _] at h2
  exact nT h2 h1
 have keys:Hid (∀W X,Was w1 W B X Q n D S A8 a8 C8 c8→Calls Z 16 #[F (T6 S A8 a8 C8 c8).toArray] W fun e w'=>∃C cp,e= H (J C K.length cp)∧ar w' C K∧Below W.heap.size W w'):=fun W X h=>by
  rw[←hKe]
  exact lm S A8 a8 C8 c8 W (by have:=(af hS0.out).2.1;omega) h.tab.row h.tab.cel
 rw[hKe] at hW
 clear f1 f2 hT0 hL hn hKe
 go_wp2_with fail
 try rw[hw5]
 clear hw5
 refine cM (r1.out _) ?_
 rintro e w0 ⟨⟨r,rfl,hr⟩,h0⟩
 have h0:=h0.symm
 subst h0
 clear r1
 go_wp2_with fail
 refine cM (hDl.out r _) ?_
 rintro e w6 ⟨rfl,g6⟩
 have hK6:Hid _:=hK.out.below g6.below
 have hDo:Hid _:=one.out (cJ r key) rfl hK6.out.law
 clear g6 hK hDl
 go_wp2_with fail
 refine cM (show Calls _ _ _ _ _ from hDo.out) ?_
 rintro e w7 ⟨rfl,f1,f2⟩
 have hK7:Hid (Was w1 w7 B (aN N (cJ r key)) Q n D S A8 a8 C8 c8):=hK6.out.step f1 f2
 clear f1 f2 hDo hK6 one
 obtain ⟨m1,m2,R,m3,m4,m5,m6⟩:=hW.out r hr
 obtain ⟨s0,s1,s2,s3,s4,s5⟩:=fQ hK7.out.box
 have cont:Hid (∀(K:List Int) (C:Option Addr) (cp:Nat) (W:World),K.length≤400→kw K key=false→ar W C K→Calls Z 15 #[J C K.length cp,O I key] W fun e w'=>e= H (L false)∧Gr W w'):=fun K C cp W h1 h2 h3=>by
  have:=m7 K C cp key W (nT h1 (by decide)) h3
  rwa [h2] at this
 by_cases h0:bS N (cJ r key)=0
 rotate_left
 ·have hc:=m1 h0
  have hky:Hid _:=keys.out _ _ hK7.out
  clear m1 m2 m3 m4 m5 m6 hW
  go_wp2_with fail
  refine cM (show Calls _ _ _ _ _ from hky.out) ?_
  rintro e w8 ⟨C,cp,rfl,g1,g2⟩
  have hcn:Hid _:=cont.out K C cp w8 hKl.out hc g1
  have hb8:Hid (bT w1 w8 B (aN N (cJ r key)) Q):=hK7.out.law.below g2
  clear g1 g2 hc hky
  go_wp2_with fail
  refine cM (show Calls _ _ _ _ _ from hcn.out) ?_
  rintro e w9 ⟨rfl,g⟩
  have hb9:Hid (bT w1 w9 B (aN N (cJ r key)) Q):=hb8.out.below g.below
  clear g
  go_wp2
  go_ret
  exact ⟨rfl,hb1.out.trans (hb9.out.2.1.mono hb1.out.size)⟩
 obtain ⟨N1,hN1⟩:∃X,aN N (cJ r key)=X:=⟨_,rfl⟩
 rw[hN1] at m2 m4 hK7
 obtain ⟨KR,hKR⟩:∃K,aX (aT R.e)=K:=⟨_,rfl⟩
 have hKRl:Hid (KR.length≤400):=by
  have h1:=(af m3).2.1
  have h2:=el (aT R.e)
  rw[hKR,show (aT R.e).length=R.e.length from List.length_map _] at h2
  exact nT h2 h1
 have hR:Hid (am R=0∧(∀i,i<4→(ci N1).s i=R)∧kw KR key=false∧(∀k col,k≠key→aX (aK k col R.e)=aX (aK k col S.e))∧aX (aT R.e)=KR):=⟨m3,m4,by rw[←hKR];exact m5,m6,hKR⟩
 have hM1:Hid _:=mR hK7.out.law m2
 clear m1 m2 m3 m4 m5 m6 hW hN1 hKR s0 s1 s2 s3 s4 s5
 go_wp2_with fail
 refine cM (show Calls _ _ _ _ _ from hM1.out) ?_
 rintro e w8 ⟨rfl,f1,f2⟩
 obtain ⟨N5,hN5⟩:∃X,ci N1=X:=⟨_,rfl⟩
 rw[hN5] at f1 hR
 have hK8:Hid (Was w1 w8 B N5 Q n D S A8 a8 C8 c8):=hK7.out.step f1 f2
 clear f1 f2 hM1 hN5 hK7
 go_wp2
 go_loopw [54] (fun v54 wr=>∃i:Nat,i≤4∧v54= O I i∧Hid (Was w1 wr B N5 Q n D S A8 a8 C8 c8)) (fun v54 _=>4-(intOf v54).toNat)
 case atStart=>exact ⟨0,by omega,rfl,hK8⟩
 clear hK8
 rename World=>wr
 obtain ⟨i,hi,rfl,hJ⟩:=hrel
 by_cases hi4:i<4
 rotate_left
 ·have hz:¬(i:Int)<4:=by omega
  go_wp2
  go_ret
  exact ⟨rfl,hb1.out.trans (hJ.out.law.2.1.mono hb1.out.size)⟩
 have hiz:(i:Int)<4:=by omega
 have t0:Calls Z 11 #[Y (some ⟨B,0,none⟩),O I i,O I 0] wr fun e w'=>∃v,e= H (.tuple #[v,O I 0])∧TbV wr.heap.size w' v R∧Below wr.heap.size wr w':=by
  obtain ⟨⟨P,hP,_⟩,_⟩:=hJ.out.law
  have:=kH hP i hi4
  rwa [hR.out.2.1 i hi4] at this
 have hT0:Hid _:=t0
 clear t0
 go_wp2_with fail
 refine cM (show Calls _ _ _ _ _ from hT0.out) ?_
 rintro e x2 ⟨v,rfl,⟨A9,a9,C9,c9,rfl,f1⟩,f2⟩
 obtain ⟨x3,hx3⟩:∃W,x2.alloc (.cells #[O I R.c.c0,O I R.c.c1,O I R.c.c2,O I R.c.c3,J A9 R.c.l.length a9,J C9 R.e.length c9] 42)=W:=⟨_,rfl⟩
 obtain ⟨D2,hD2⟩:∃n,x2.heap.size=n:=⟨_,rfl⟩
 have hg3:Gr x2 x3:=by rw[←hx3];exact (gR x2).alloc _
 have hBx:Cls x3 D2 (T6 R A9 a9 C9 c9):=by rw[←hx3,←hD2];exact Cls.new x2 _ _
 obtain ⟨b0,b1,b2,b3,b4,b5⟩:=fQ hBx
 have hE3:Hid (Was w1 x3 B N5 Q n D S A8 a8 C8 c8∧Cls x3 D2 (T6 R A9 a9 C9 c9)∧TbW 0 x3 R A9 a9 C9 c9):=⟨(hJ.out.below f2).below hg3.below,hBx,(f1.below hg3.below).mono (nZ _)⟩
 have o0:=lm R A9 a9 C9 c9 x3 (by have:=(af hR.out.1).2.1;omega) (f1.row.gr hg3) (f1.cel.gr hg3)
 rw[hR.out.2.2.2.2] at o0
 have hO:Hid (Calls Z 16 #[F (T6 R A9 a9 C9 c9).toArray] x3 fun e w'=>∃C cp,e= H (J C KR.length cp)∧ar w' C KR∧Below x3.heap.size x3 w'):=o0
 clear o0 f1 f2 hg3 hBx hT0 hJ
 go_wp2_with fail
 try rw[hx3]
 clear hx3
 try rw[hD2]
 refine cM (show Calls _ _ _ _ _ from hO.out) ?_
 rintro e x4 ⟨E,cp,rfl,g1,g2⟩
 have hcn:Hid _:=cont.out KR E cp x4 hKRl.out hR.out.2.2.1 g1
 have hE4:Hid (Was w1 x4 B N5 Q n D S A8 a8 C8 c8∧Cls x4 D2 (T6 R A9 a9 C9 c9)∧TbW 0 x4 R A9 a9 C9 c9):=⟨hE3.out.1.below g2,hE3.out.2.1.below g2,hE3.out.2.2.below g2⟩
 clear g1 g2 hO hE3 b0 b1 b2 b3 b4 b5
 go_wp2_with fail
 refine cM (show Calls _ _ _ _ _ from hcn.out) ?_
 rintro e x5 ⟨rfl,g5⟩
 have hE5:Hid (Was w1 x5 B N5 Q n D S A8 a8 C8 c8∧Cls x5 D2 (T6 R A9 a9 C9 c9)∧TbW 0 x5 R A9 a9 C9 c9):=⟨hE4.out.1.below g5.below,hE4.out.2.1.below g5.below,hE4.out.2.2.below g5.below⟩
 clear g5 hcn hE4 hD2
 obtain ⟨s0,s1,s2,s3,s4,s5⟩:=fQ hE5.out.1.box
 have hky:Hid _:=keys.out _ _ hE5.out.1
 go_wp2_with fail
 refine cM (show Calls _ _ _ _ _ from hky.out) ?_
 rintro e x6 ⟨E6,cp6,rfl,g1,g2⟩
 have hE6:Hid ((Was w1 x6 B N5 Q n D S A8 a8 C8 c8∧Cls x6 D2 (T6 R A9 a9 C9 c9)∧TbW 0 x6 R A9 a9 C9 c9)∧ar x6 E6 K):=⟨⟨hE5.out.1.below g2,hE5.out.2.1.below g2,hE5.out.2.2.below g2⟩,g1⟩
 clear g1 g2 hky hE5 s0 s1 s2 s3 s4 s5
 go_wp2
 go_loopw [74] (fun v74 wr=>∃k:Nat,k≤K.length∧v74= O I k∧Hid ((Was w1 wr B N5 Q n D S A8 a8 C8 c8∧Cls wr D2 (T6 R A9 a9 C9 c9)∧TbW 0 wr R A9 a9 C9 c9)∧ar wr E6 K)) (fun v74 _=>K.length-(intOf v74).toNat)
 case atStart=>exact ⟨0,nZ _,rfl,hE6⟩
 clear hE6
 rename World=>ws
 obtain ⟨k,hk,rfl,hJ⟩:=hrel
 by_cases hkl:k<K.length
 rotate_left
 ·have hz:¬(k:Int)<(K.length:Int):=by omega
  have hJ1:Hid _:=hJ.out.1.1
  clear hJ
  go_wp2
  go_roundw
  case rel=>exact ⟨i+1,by omega,by go_num,hJ1⟩
  case measure=>simp[intOf];omega
 have hkz:(k:Int)<(K.length:Int):=by omega
 have hk4:K.length≤400:=hKl.out
 obtain ⟨eb,eo,hA6,_,hcl⟩:=hJ.out.2.at hkl
 obtain ⟨q,hq⟩:∃q,K[k]=q:=⟨_,rfl⟩
 have c0:=hcl k hkl 0 (by omega)
 rw[hq] at c0
 simp only[eM,Nat.mul_one,Nat.add_zero,z0'] at c0
 subst hA6
 clear hcl hq
 go_wp2
 clear c0
 go_loopw [78] (fun v78 wr=>∃m:Nat,m≤3∧v78= O I m∧Hid ((Was w1 wr B N5 Q n D S A8 a8 C8 c8∧Cls wr D2 (T6 R A9 a9 C9 c9)∧TbW 0 wr R A9 a9 C9 c9)∧ar wr (some ⟨eb,eo,none⟩) K)) (fun v78 _=>3-(intOf v78).toNat)
 case atStart=>exact ⟨0,by omega,rfl,hJ⟩
 clear hJ
 rename World=>wt
 obtain ⟨m,hm,rfl,hJ⟩:=hrel
 by_cases hm3:m<3
 rotate_left
 ·have hz:¬(m:Int)<3:=by omega
  go_wp2
  go_roundw
  case rel=>exact ⟨k+1,by omega,by go_num,hJ⟩
  case measure=>simp[intOf];omega
 have hmz:(m:Int)<3:=by omega
 by_cases hqk:q=key
 ·subst hqk
  have hqb:(q != q)=false:=by simp
  go_upto_region 25 with fail
  refine wp_region_quiet_grown mixed (by kernel_rfl) ?_
  repeat (go_big_quiet_step (fail))
  refine wpQuiet_nil ?_
  rintro _ ⟨⟨nq,osq⟩,rfl⟩
  have hF:Hid ((Was w1 (grow (wt.drewN nq) osq) B N5 Q n D S A8 a8 C8 c8∧Cls (grow (wt.drewN nq) osq) D2 [O I R.c.c0,O I R.c.c1,O I R.c.c2,O I R.c.c3,J A9 R.c.l.length a9,J C9 R.e.length c9]∧TbW 0 (grow (wt.drewN nq) osq) R A9 a9 C9 c9)∧ar (grow (wt.drewN nq) osq) (some ⟨eb,eo,none⟩) K):=by
   have hb:=(show Gr wt (grow (wt.drewN nq) osq) from ⟨nq,osq,rfl⟩).below
   exact ⟨⟨hJ.out.1.1.below hb,hJ.out.1.2.1.below hb,hJ.out.1.2.2.below hb⟩,hJ.out.2.below hb⟩
  clear hJ
  generalize grow (wt.drewN nq) osq=wu at hF ⊢
  go_wp2
  go_roundw
  case rel=>exact ⟨m+1,by omega,by go_num,hF⟩
  case measure=>simp[intOf];omega
 have hqb:(q != key)=true:=by simpa using hqk
 obtain ⟨V,hV⟩:∃V,aX (aK q m S.e)=V:=⟨_,rfl⟩
 have hVl:Hid (V.length≤9223372036854775807):=by
  have h1:=(af hS0.out).2.1
  have h2:=el (aK q m S.e)
  have h3:(aK q m S.e).length≤S.e.length:=by unfold aK;rw[List.length_map];exact List.length_filter_le _ _
  rw[hV] at h2
  show V.length≤_
  omega
 have hv1:Hid (∀W,Below wt.heap.size wt W→Calls Z 13 #[F (T6 R A9 a9 C9 c9).toArray,O I q,O I m] W fun e w'=>∃C cp,e= H (J C V.length cp)∧ar w' C V∧Below W.heap.size W w'):=fun W hb=>by
  rw[←hV,←hR.out.2.2.2.1 q m hqk]
  have h:=hJ.out.1.2.2.below hb
  exact gj R A9 a9 C9 c9 q m W (by have:=(af hR.out.1).2.1;omega) h.row h.cel
 have hv2:Hid (∀W,Below wt.heap.size wt W→Calls Z 13 #[F (T6 S A8 a8 C8 c8).toArray,O I q,O I m] W fun e w'=>∃C cp,e= H (J C V.length cp)∧ar w' C V∧Below W.heap.size W w'):=fun W hb=>by
  rw[←hV]
  have h:=(hJ.out.1.1.below hb).tab
  exact gj S A8 a8 C8 c8 q m W (by have:=(af hS0.out).2.1;omega) h.row h.cel
 have hEq:Hid (∀(C C':Option Addr) (cp dp:Nat) (W:World),ar W C V→ar W C' V→Calls Z 12 #[J C V.length cp,J C' V.length dp] W fun e w'=>e= H (L true)∧Gr W w'):=fun C C' cp dp W h1 h2=>by
  have:=gB V V C C' cp dp W hVl.out hVl.out h1 h2
  rw[decide_eq_true rfl] at this
  exact this
 have hKeep:Hid (∀w':World,Below wt.heap.size wt w'→(fun w'=>w'.cell? ⟨D,0,none⟩=some (O I S.c.c0)∧w'.cell? ⟨D,1,none⟩=some (O I S.c.c1)∧w'.cell? ⟨D,2,none⟩=some (O I S.c.c2)∧w'.cell? ⟨D,3,none⟩=some (O I S.c.c3)∧w'.cell? ⟨D,4,none⟩=some (J A8 S.c.l.length a8)∧w'.cell? ⟨D,5,none⟩=some (J C8 S.e.length c8)∧w'.cell? ⟨D2,0,none⟩=some (O I R.c.c0)∧w'.cell? ⟨D2,1,none⟩=some (O I R.c.c1)∧w'.cell? ⟨D2,2,none⟩=some (O I R.c.c2)∧w'.cell? ⟨D2,3,none⟩=some (O I R.c.c3)∧w'.cell? ⟨D2,4,none⟩=some (J A9 R.c.l.length a9)∧w'.cell? ⟨D2,5,none⟩=some (J C9 R.e.length c9)) w'):=fun w' hb=>by
  have h1:=(hJ.out.1.1.below hb).box
  have h2:=hJ.out.1.2.1.below hb
  exact ⟨h1.cell rfl,h1.cell rfl,h1.cell rfl,h1.cell rfl,h1.cell rfl,h1.cell rfl,h2.cell rfl,h2.cell rfl,h2.cell rfl,h2.cell rfl,h2.cell rfl,h2.cell rfl⟩
 have hbd:Below wt.heap.size wt wt.drew:=(bR _ _).drew
 clear hV hqk
 go_upto_region 25 with fail
 go_region_held3 (fun w'=>w'.cell? ⟨D,0,none⟩=some (O I S.c.c0)∧w'.cell? ⟨D,1,none⟩=some (O I S.c.c1)∧w'.cell? ⟨D,2,none⟩=some (O I S.c.c2)∧w'.cell? ⟨D,3,none⟩=some (O I S.c.c3)∧w'.cell? ⟨D,4,none⟩=some (J A8 S.c.l.length a8)∧w'.cell? ⟨D,5,none⟩=some (J C8 S.e.length c8)∧w'.cell? ⟨D2,0,none⟩=some (O I R.c.c0)∧w'.cell? ⟨D2,1,none⟩=some (O I R.c.c1)∧w'.cell? ⟨D2,2,none⟩=some (O I R.c.c2)∧w'.cell? ⟨D2,3,none⟩=some (O I R.c.c3)∧w'.cell? ⟨D2,4,none⟩=some (J A9 R.c.l.length a9)∧w'.cell? ⟨D2,5,none⟩=some (J C9 R.e.length c9)) (first|with_reducible exact hKeep.out _ hbd|with_reducible exact hKeep.out _ hb3.out|with_reducible exact hKeep.out _ hb4.out|with_reducible exact hKeep.out _ hb5.out)
  (first
   | (go_at_call 13;(with_reducible refine cM (show Calls _ _ _ _ _ from hv2.out _ hb3.out) ?_);rintro e y4 ⟨V4,v4,rfl,hq,hg⟩;have hq4:Hid (ar y4 V3 V∧ar y4 V4 V):=⟨hq3.out.below hg,hq⟩;have hb4:Hid (Below wt.heap.size wt y4):=hb3.out.trans (hg.mono hb3.out.size);clear hg hq)
   | (go_at_call 13;(with_reducible refine cM (show Calls _ _ _ _ _ from hv1.out _ hbd) ?_);rintro e y3 ⟨V3,v3,rfl,hq,hg⟩;have hq3:Hid (ar y3 V3 V):=hq;have hb3:Hid (Below wt.heap.size wt y3):=hbd.trans (hg.mono hbd.size);clear hg hq)
   | (go_at_call 12;(with_reducible refine cM (show Calls _ _ _ _ _ from hEq.out V3 V4 v3 v4 _ hq4.out.1 hq4.out.2) ?_);rintro e y5 ⟨rfl,hg⟩;have hb5:Hid (Below wt.heap.size wt y5):=hb4.out.trans (hg.below.mono hb4.out.size);clear hg))
 have hF:Hid ((Was w1 y5 B N5 Q n D S A8 a8 C8 c8∧Cls y5 D2 (T6 R A9 a9 C9 c9)∧TbW 0 y5 R A9 a9 C9 c9)∧ar y5 (some ⟨eb,eo,none⟩) K):=⟨⟨hJ.out.1.1.below hb5.out,hJ.out.1.2.1.below hb5.out,hJ.out.1.2.2.below hb5.out⟩,hJ.out.2.below hb5.out⟩
 clear hKeep hv1 hv2 hEq hbd hJ hb5 hb4 hb3 hq4 hq3
 go_wp2
 go_roundw
 case rel=>exact ⟨m+1,by omega,by go_num,hF⟩
 case measure=>simp[intOf];omega
end Go.Proofs.YtkefkplnamkicabGreatDoor
