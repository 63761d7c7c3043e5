/-
  TopViews: whatever happened, each view tells what its query tells of its node's rows.
-/
import Derived.Test.YtkefkplnamkicaaGreatDoorM45
import Derived.Test.YtkefkplnamkicaaGreatDoorM46
import Derived.Test.YtkefkplnamkicaaGreatDoorM42
set_option maxRecDepth 100000
set_option maxHeartbeats 8000000
open Go.Ending renaming returned → U
open Go.IntKind renaming i64 → I
open Go.Obj renaming cells → R
open Go.Proofs.Tryz renaming prog → Z
open Go.Value renaming int → V, slice → J, string → u, tuple → x, pointer → f, bool → r
namespace Go.Proofs.YtkefkplnamkicaaGreatDoor
open Go.RowKit Go.Sort Go.Maps

def lV (a b c:Int):Bool:=decide (a=5∧b=0∧c=0)
def VwI (w wr:World) (B G n:Nat) (M:NetM):Prop:=∃Q vs ls,Mqs w wr B G n M Q vs ls∧QR Q ls
structure VwK (w wr:World) (B G n:Nat) (M:NetM) (Q:Nat→List (List Stp)) (vs:Nat→Value) (ls:Nat→List Qm) (C D:Option Addr) (c d:Nat) (L K:List Itm):Prop where
 m:Mqs w wr B G n M Q vs ls
 l:Lv wr C c L
 k:Lv wr D d K
theorem VwK.below {w wr w':World} {B G n:Nat} {M:NetM} {Q:Nat→List (List Stp)} {vs:Nat→Value} {ls:Nat→List Qm} {C D:Option Addr} {c d:Nat} {L K:List Itm} (h:VwK w wr B G n M Q vs ls C D c d L K) (k:Below wr.heap.size wr w'):VwK w w' B G n M Q vs ls C D c d L K:=⟨h.m.below k,h.l.below k,h.k.below k⟩
theorem tS {n:Nat} {w:World} {t:Tab} {A:Option Addr} {ca:Nat} {D:Option Addr} {cd:Nat} (h:TbW n w t A ca D cd) (e:am t=0) :
  Calls Z 22 #[.agg (T6 t A ca D cd).toArray] w fun e w'=>∃(L:List Itm) (C:Option Addr) (c:Nat),e= U (x #[J C L.length c,V I 0])∧L.map Itm.z=ofR t∧Lv w' C c L∧Below w.heap.size w w':=by
 have hp:=ae e
 have hc:=aY hp.1
 have ho:=xG t A ca D cd w (by unfold maxLen;omega) (by unfold maxLen;omega) h.row h.cel
 rw[e] at ho
 refine ho.mono ?_
 rintro e w' ⟨L,C,c,rfl,f1,f2,f3,f4⟩
 exact ⟨L,C,c,rfl,f1,⟨f2,f3,nu f1 (by assumption)⟩,f4⟩
theorem qh (A:Option Addr) (cap:Nat) (l:List (Hap×List UInt8)) (w:World) (hr:Reads w) (row:au bH 10 w A l) (hx:∀p∈l,p.2.length≤maxLen) :
  Calls Z 5 #[J A l.length cap] w fun e w'=>e= U (r true)∧Below w.heap.size w w':=by
 have mixed:Tryz.prog.follows .mixedOrders=true:=by kernel_rfl
 have hS:Hid _:=iA w hr
 have hH:Hid (Reads w∧au bH 10 w A l∧∀p∈l,p.2.length≤maxLen):=⟨hr,row,hx⟩
 clear hr row hx
 go_enter Tryz.func5,Tryz.ntmps5
 go_wp2_with fail
 refine cM (show Calls _ _ _ _ _ from hS.out) ?_
 rintro e w1 ⟨rfl,f1⟩
 have hb1:Hid (Below w.heap.size w w1):=f1
 clear f1 hS
 by_cases h60:60<l.length
 ·have hz:(60:Int)<(l.length:Int):=by omega
  go_wp2
  go_ret
  exact ⟨rfl,hb1.out⟩
 have hz:¬(60:Int)<(l.length:Int):=by omega
 have hN:Hid _:=eH w1
 go_wp2_with fail
 refine cM (show Calls _ _ _ _ _ from hN.out) ?_
 rintro e w2 ⟨rfl,f1,f2⟩
 obtain ⟨B,hB⟩:∃n,w1.heap.size=n:=⟨_,rfl⟩
 obtain ⟨G,hG⟩:∃n,w2.heap.size=n:=⟨_,rfl⟩
 obtain ⟨w3,hw3⟩:∃W,w2.alloc (.map #[] 0)=W:=⟨_,rfl⟩
 have hI3:Hid (VwI w w3 B G 0 aG):=by
  have hb2:Below w.heap.size w w2:=hb1.out.trans (f2.mono hb1.out.size)
  have:=Mqs.start hb2 f1 hb1.out.size
  rw[hw3,hB,hG] at this
  exact ⟨_,_,_,this,fun i _=>rfl⟩
 clear f1 f2 hN hb1
 have hmm:= @run_makeMap Z
 go_wp2
 clear hmm
 try rw[hw3]
 try rw[hB]
 try rw[hG]
 clear hw3 hB hG
 go_loopw [33] (fun v33 wr=>∃k:Nat,k≤l.length∧v33= V I k∧Hid (VwI w wr B G k (((l.take k).map (·.1)).foldl aj aG))) (fun v33 _=>l.length-(intOf v33).toNat)
 case atStart=>exact ⟨0,nZ _,rfl,hI3⟩
 case round =>
  clear hI3
  obtain ⟨k,hk,rfl,hI0⟩:=hrel
  by_cases hkl:k<l.length
  rotate_left
  ·have hkz:¬(k:Int)<(l.length:Int):=by omega
   go_wp2
   go_ret
   obtain ⟨Q,vs,ls,h1,_⟩:=hI0.out
   exact ⟨rfl,h1.bel⟩
  have hkz:(k:Int)<(l.length:Int):=by omega
  obtain ⟨Q,vs,ls,hI1⟩:=hI0.out
  have hI:Hid _:=hI1
  clear hI0 hI1
  obtain ⟨M,hM⟩:∃M,((l.take k).map (·.1)).foldl aj aG=M:=⟨_,rfl⟩
  rw[hM] at hI
  obtain ⟨bb,off,hA,hbb,hcl⟩:=hH.out.2.1.at hkl
  subst hA
  obtain ⟨y,hy⟩:∃y,l[k]=y:=⟨_,rfl⟩
  have hcl:=hcl k hkl
  rw[hy] at hcl
  have c0:=(hI.out.1.bel.cell (p:=⟨bb,off+k*10+0,none⟩) hbb).trans (hcl 0 (by omega))
  have c1:=(hI.out.1.bel.cell (p:=⟨bb,off+k*10+1,none⟩) hbb).trans (hcl 1 (by omega))
  have c2:=(hI.out.1.bel.cell (p:=⟨bb,off+k*10+2,none⟩) hbb).trans (hcl 2 (by omega))
  have c3:=(hI.out.1.bel.cell (p:=⟨bb,off+k*10+3,none⟩) hbb).trans (hcl 3 (by omega))
  have c4:=(hI.out.1.bel.cell (p:=⟨bb,off+k*10+4,none⟩) hbb).trans (hcl 4 (by omega))
  have c5:=(hI.out.1.bel.cell (p:=⟨bb,off+k*10+5,none⟩) hbb).trans (hcl 5 (by omega))
  have c6:=(hI.out.1.bel.cell (p:=⟨bb,off+k*10+6,none⟩) hbb).trans (hcl 6 (by omega))
  have c7:=(hI.out.1.bel.cell (p:=⟨bb,off+k*10+7,none⟩) hbb).trans (hcl 7 (by omega))
  have c8:=(hI.out.1.bel.cell (p:=⟨bb,off+k*10+8,none⟩) hbb).trans (hcl 8 (by omega))
  have c9:=(hI.out.1.bel.cell (p:=⟨bb,off+k*10+9,none⟩) hbb).trans (hcl 9 (by omega))
  simp only[bH,z0',zS,Nat.add_zero] at c0 c1 c2 c3 c4 c5 c6 c7 c8 c9
  obtain ⟨w3',hw3'⟩:∃W,wr.alloc (R #[V I y.1.k,V I y.1.a,V I y.1.b,V I y.1.n,V I y.1.e1,V I y.1.e2,V I y.1.e3,V I y.1.e4,V I y.1.e5,u ⟨y.2.toArray⟩] 30)=W:=⟨_,rfl⟩
  obtain ⟨X,hX⟩:∃n,wr.heap.size=n:=⟨_,rfl⟩
  have hg3:Gr wr w3':=by rw[←hw3'];exact (gR wr).alloc _
  have hBx:Cls w3' X [V I y.1.k,V I y.1.a,V I y.1.b,V I y.1.n,V I y.1.e1,V I y.1.e2,V I y.1.e3,V I y.1.e4,V I y.1.e5,u ⟨y.2.toArray⟩]:=by rw[←hw3',←hX];exact Cls.new wr _ _
  obtain ⟨b0,b1,b2,b3,b4,b5,b6,b7,b8,b9⟩:=fP hBx
  have hyx:Hid (y.2.length≤maxLen):=hH.out.2.2 y (by rw[←hy];exact gM _)
  have hnx:Hid (((l.take (k+1)).map (·.1)).foldl aj aG=aj M y.1):=by
   show _=_
   rw[List.take_succ_eq_append_getElem hkl,List.map_append,List.foldl_append,hy,hM]
   rfl
  have hXk:Hid (∀b,MqK G vs b→b<X):=fun b hb=>by rw[←hX];exact MqK.lt hI.out.1 hb
  have hD:Hid (Calls Z 11 #[f (some ⟨B,0,none⟩),.agg #[V I y.1.k,V I y.1.a,V I y.1.b,V I y.1.n,V I y.1.e1,V I y.1.e2,V I y.1.e3,V I y.1.e4,V I y.1.e5,u ⟨y.2.toArray⟩]] w3' fun e w'=>∃er Q',e= U (V I er)∧py y.2 M y.1 Q er Q'∧Mqs w w' B G k (aj M y.1) Q' vs ls∧Cls w' X [V I y.1.k,V I y.1.a,V I y.1.b,V I y.1.n,V I y.1.e1,V I y.1.e2,V I y.1.e3,V I y.1.e4,V I y.1.e5,u ⟨y.2.toArray⟩]):=by
   have h3:=hI.out.1.below hg3.below
   obtain ⟨P,h1,h2⟩:=h3.net
   refine (pF h1 (hH.out.1.below h3.bel) y.2 hyx.out y.1).mono ?_
   rintro e w' ⟨er,Q',rfl,f1,f2⟩
   refine ⟨er,Q',rfl,f1,h3.did h2 f2,hBx.keep (f2.2.oth X hBx.lt ?_)⟩
   obtain ⟨_,h4,_⟩:=hI.out.1.net
   have:=h4.lt
   omega
  have hQR:Hid (QR Q ls):=hI.out.2
  clear hI hcl hbb hy hg3 hM hBx
  go_wp2_with fail
  try rw[hw3']
  try rw[hX]
  clear hw3' hX c0 c1 c2 c3 c4 c5 c6 c7 c8 c9
  refine cM (show Calls _ _ _ _ _ from hD.out) ?_
  rintro e w4 ⟨er,Q',rfl,f1,f2,f3⟩
  clear hD b0 b1 b2 b3 b4 b5 b6 b7 b8 b9
  have b9:=f3.cell (j:=9) rfl
  have hF4:Hid (py y.2 M y.1 Q er Q'∧Mqs w w4 B G k (aj M y.1) Q' vs ls∧Cls w4 X [V I y.1.k,V I y.1.a,V I y.1.b,V I y.1.n,V I y.1.e1,V I y.1.e2,V I y.1.e3,V I y.1.e4,V I y.1.e5,u ⟨y.2.toArray⟩]):=⟨f1,f2,f3⟩
  have hP:Hid (Calls Z 21 #[u ⟨y.2.toArray⟩] w4 fun e w'=>(∃A cap q k er,e= U (x #[J A q.length cap,V I k,V I er])∧0≤k∧Stps w' A q∧NwQ w4.heap.size A q∧q.length≤1024∧eC y.2 q er)∧Below w4.heap.size w4 w'):=vm y.2 w4 (hH.out.1.below f2.bel) hyx.out
  clear f1 f2 f3
  go_wp2_with fail
  refine cM (show Calls _ _ _ _ _ from hP.out) ?_
  rintro e w5 ⟨⟨QA,qc,q,kk,fr,rfl,_,g1,g2,g3,g4⟩,g5⟩
  have hF5:Hid (Mqs w w5 B G k (aj M y.1) Q' vs ls∧Cls w5 X [V I y.1.k,V I y.1.a,V I y.1.b,V I y.1.n,V I y.1.e1,V I y.1.e2,V I y.1.e3,V I y.1.e4,V I y.1.e5,u ⟨y.2.toArray⟩]∧StP (fun b=>¬MqK G vs b∧b≠B) w5 QA q∧q.length≤1024):=⟨hF4.out.2.1.below g5,hF4.out.2.2.below g5,hF4.out.2.1.read g1 g2,g3⟩
  have htwo:Hid _:=zn hF4.out.1 g4
  clear g1 g2 g3 g4 g5 hP b9 hF4
  have b0:=hF5.out.2.1.cell (j:=0) rfl
  go_upto_region 12 with fail
  go_cut [33,57] from 33 to 133 (fun v33 v57 wx=>v33= V I k∧v57= r (lV y.1.k er fr)∧wx=w5)
  case first =>
   by_cases a1:y.1.k=5
   ·have a1b:(y.1.k==5)=true:=by simpa using a1
    by_cases a2:er=0
    ·have a2b:(er==0)=true:=by simpa using a2
     have a3:Hid (lV y.1.k er fr=(fr==0)):=by
      show _=_
      unfold lV
      simp[a1,a2]
      rfl
     clear a1 a2
     go_wp2_with fail
     go_meet
     case rel=>exact ⟨rfl,by rw[a3.out],rfl⟩
    ·have a2b:(er==0)=false:=by simpa using a2
     have a3:Hid (lV y.1.k er fr=false):=by show _=_;unfold lV;simp[a2]
     clear a1 a2
     go_wp2_with fail
     go_meet
     case rel=>exact ⟨rfl,by rw[a3.out],rfl⟩
   ·have a1b:(y.1.k==5)=false:=by simpa using a1
    have a3:Hid (lV y.1.k er fr=false):=by show _=_;unfold lV;simp[a1]
    clear a1
    go_wp2_with fail
    go_meet
    case rel=>exact ⟨rfl,by rw[a3.out],rfl⟩
  obtain ⟨rfl,rfl,h0⟩:=hcut
  have h0:=h0.symm
  subst h0
  clear b0
  go_upto_if 57 with fail
  go_cut [33] from 33 to 133 (fun v33 wx=>v33= V I k∧Hid (∃vs ls,Mqs w wx B G (k+1) (aj M y.1) Q' vs ls∧QR Q' ls))
  case first =>
   rcases htwo.out with ⟨a1,a2,a3,ha,q0,hq0,hQ'⟩|⟨hn,hQ'⟩
   rotate_left
   ·have hc:lV y.1.k er fr=false:=by unfold lV;exact decide_eq_false hn
    rw[hc]
    have hfin:Hid (∃vs ls,Mqs w w5 B G (k+1) (aj M y.1) Q' vs ls∧QR Q' ls):=by
     obtain ⟨D,d1,d2⟩:=hF5.out.1.map
     exact ⟨vs,ls,{ hF5.out.1 with map:=⟨D,d1.mono (Nat.le_succ k),d2⟩ },by rw[hQ'];exact hQR.out⟩
    clear hn hQ' hc htwo
    go_wp2_with fail
    go_meet
    case rel=>exact ⟨rfl,hfin⟩
   ·have hc:lV y.1.k er fr=true:=by unfold lV;exact decide_eq_true ⟨a1,a2,a3⟩
    rw[hc]
    obtain ⟨i,hyi,hi4⟩:=iN ha
    rw[hyi,Int.toNat_natCast] at hQ'
    have hQR2:Hid (QR Q' (nW ls i (ls i++[⟨q,QA,qc⟩]))):=by rw[hQ'];exact hQR.out.more hq0
    have hgA:Gr w5 ((w5.alloc (R #[J QA q.length qc] 54)).drew):=((gR _).alloc _).drew
    have hX5:Cls w5 X [V I y.1.k,V I y.1.a,V I y.1.b,V I y.1.n,V I y.1.e1,V I y.1.e2,V I y.1.e3,V I y.1.e4,V I y.1.e5,u ⟨y.2.toArray⟩]:=hF5.out.2.1
    have hK5:Hid (w5.drew.cell? ⟨X,1,none⟩=some (V I (i:Int))):=by rw[←hyi];exact (hX5.gr (gR _).drew).cell (j:=1) rfl
    have hKA:Hid (((w5.alloc (R #[J QA q.length qc] 54)).drew).cell? ⟨X,1,none⟩=some (V I (i:Int))):=by rw[←hyi];exact (hX5.gr hgA).cell (j:=1) rfl
    have hMA:Hid (Mqs w ((w5.alloc (R #[J QA q.length qc] 54)).drew) B G k (aj M y.1) Q' vs ls):=hF5.out.1.below hgA.below
    have hL5:(Instr.lookup 53 (.map (some G)) (V I (i:Int)) false).run Z w5.drew= .ok (vs i) w5.drew:=(hF5.out.1.below (gR w5).drew.below).look hi4
    have hLA:(Instr.lookup 53 (.map (some G)) (V I (i:Int)) false).run Z ((w5.alloc (R #[J QA q.length qc] 54)).drew)= .ok (vs i) ((w5.alloc (R #[J QA q.length qc] 54)).drew):=hMA.out.look hi4
    have hRA:Hid (au gT 1 ((w5.alloc (R #[J QA q.length qc] 54)).drew) (some ⟨w5.heap.size,0,none⟩) [⟨q,QA,qc⟩]):=(gK fS rfl [⟨q,QA,qc⟩] _ _ rfl).gr (gR _).drew
    have hstA:Hid (StP (fun b=>¬MqK G vs b∧b≠B) ((w5.alloc (R #[J QA q.length qc] 54)).drew) QA q∧q.length≤1024):=⟨hF5.out.2.2.1.below hgA.below,hF5.out.2.2.2⟩
    have hX7:Hid (X<((w5.alloc (R #[J QA q.length qc] 54)).drew).heap.size∧¬MqK G vs X):=⟨nL hX5.lt hgA.size,fun h=>by have:=hXk.out X h;omega⟩
    have hC7:Hid (∀w7,((w5.alloc (R #[J QA q.length qc] 54)).drew).grownBy w7 (vs i).ownBlock→w7.cell? ⟨X,1,none⟩=some (V I (i:Int))):=fun w7 g=>(World.cell?_of_block (a:=⟨X,1,none⟩) (g.block X hX7.out.1 fun e=>hX7.out.2 (oR ⟨i,hi4,e.symm⟩))).trans hKA.out
    have hln:Hid ((ls i).length≤1000):=by
     obtain ⟨P,h1,_⟩:=hF5.out.1.net
     have h2:=congrArg List.length (hQR.out i hi4)
     have h3:=(h1.nd i hi4).le
     have h4:(Q i).length≤(Q' i).length:=by rw[hQ'];show _≤(eo Q i (Q i++[q0]) i).length;rw[show eo Q i (Q i++[q0]) i=Q i++[q0] from if_pos rfl];simp
     simp at h2
     show _≤_
     omega
    have hk60:Hid (k<1000):=by show _<_;omega
    clear htwo hQ' ha hyi hq0 hQR hc hgA hX5 hF5 a1 a2 a3
    go_upto_region 13 with fail
    refine wp_region_noPanic ?_
    refine wp_region_held_drew (S:=(fun w'=>w'.cell? ⟨X,1,none⟩=some (V I (i:Int)))) (by kernel_rfl) (hK5.out) (fun hHeld=> ?_)
    show wpAnyH _ _ _ _ _ 11 _ _ _
    repeat' first
     | with_reducible exact AllReadyH.nil
     | (
      (with_reducible refine isW ?_);refine wpAnyH_done (by decide +kernel) ?_ _
      refine NoPanic.normal ?_
      have hfin2:Hid (∃vs ls,Mqs w w8 B G (k+1) (aj M y.1) Q' vs ls∧QR Q' ls):=⟨_,_,hfin.out,hQR2.out⟩
      clear hU
      go_wp2_with fail
      go_meet
      case rel=>exact ⟨rfl,hfin2⟩)
     | (
      (with_reducible refine isW ?_);first
       | refine tkk 0 [1,2,3,4,5,7] (by assumption) (v:= ?_) (by simp only[zA,z0'];rfl) (by decide +kernel) ?_ ?_
      rotate_left
      ·(refine oL ⟨by rfl,?_⟩;intro w hSw;(try dsimp only at hSw);go_simp<;>with_reducible rfl)
      try simp only[Act.put,yA,aD,yS]
      repeat (refine tk (v:= ?_) (by simp only[zA,z0',zS];rfl) (by kernel_rfl) ?_ ?_;rotate_left;· (refine oL ⟨by rfl,?_⟩;intro w hSw;(try dsimp only at hSw);go_simp<;>with_reducible rfl);try simp only[Act.put,yA,aD,yS])
      refine tk0 ?_)
     | ((with_reducible refine isW ?_);first
       | refine wpAnyH_ready (rs:=[6,8]) (by decide +kernel) (by simp) ?_
       | refine wpAnyH_ready (rs:=[8]) (by decide +kernel) (by simp) ?_
       | refine wpAnyH_ready (rs:=[9]) (by decide +kernel) (by simp) ?_
       | refine wpAnyH_ready (rs:=[10]) (by decide +kernel) (by simp) ?_
       | refine wpAnyH_ready (rs:=[6]) (by decide +kernel) (by simp) ?_)
     | (
      (with_reducible refine isR ?_);refine rdc (i:=9) (by simp only[zA,z0',zS];rfl) ?_ fun K hK=> ?_
      rotate_left
      (refine nP _ rfl (.tmp 64) (.tmp 66) rfl w.heap.size (vs i) (ls i) ⟨q,QA,qc⟩ ⟨w5.heap.size,0,none⟩ 1 rfl rfl (hMA.out.own i hi4) hRA.out hln.out hMA.out.bel.size ?_;intro v7 w7 g1 g2 g3;have hK7:Hid (w7.cell? ⟨X,1,none⟩=some (V I i)):=hC7.out w7 g2;obtain ⟨w8,hU,hM8,hb8⟩:=Mqh.put ⟨hMA.out,g2,g1,g3,hstA.out⟩ hi4 hk60.out;have hK8:Hid (w8.cell? ⟨X,1,none⟩=some (V I i)):=(World.cell?_of_block (a:=⟨X,1,none⟩) (hb8 X hX7.out.1 hX7.out.2)).trans hKA.out;have hfin:Hid (Mqs w w8 B G (k+1) (aj M y.1) Q' (vI vs i v7) (nW ls i (ls i++[⟨q,QA,qc⟩]))):=hM8;clear g1 g2 g3 hM8 hb8)
      refine hK.out _ _ ?_ (fun hHeld=> ?_)
      ·(try dsimp only);first|with_reducible exact hK5.out|with_reducible exact hKA.out|with_reducible exact hK7.out|with_reducible exact hK8.out
      clear hK K
      try simp only[Act.put,yA,aD,yS])
     | ((with_reducible refine isR ?_);refine rdc (by simp only[zA,z0',zS];rfl) ?_ fun K hK=> ?_)
     | (
      go_simp
      refine hK.out _ _ ?_ (fun hHeld=> ?_)
      ·(try dsimp only);first|with_reducible exact hK5.out|with_reducible exact hKA.out|with_reducible exact hK7.out|with_reducible exact hK8.out
      clear hK K
      try simp only[Act.put,yA,aD,yS])
  obtain ⟨rfl,hJ0⟩:=hcut
  obtain ⟨vs',ls',hJ1⟩:=hJ0.out
  obtain ⟨n1,hn1⟩:∃n,k+1=n:=⟨_,rfl⟩
  obtain ⟨M',hM'⟩:∃N,aj M y.1=N:=⟨_,rfl⟩
  rw[hn1,hM'] at hJ1
  rw[hM'] at hnx
  have hJ:Hid (Mqs w wc B G n1 M' Q' vs' ls'):=hJ1.1
  have hQR':Hid (QR Q' ls'):=hJ1.2
  clear hJ0 hJ1 hM' hF5 htwo hXk hyx hQR
  rename World=>wz
  go_wp2
  go_loopw [68] (fun v68 wr=>∃i:Nat,i≤4∧v68= V I i∧Hid (Mqs w wr B G n1 M' Q' vs' ls')) (fun v68 _=>4-(intOf v68).toNat)
  case atStart=>exact ⟨0,by omega,rfl,hJ⟩
  clear hJ
  rename World=>wi
  obtain ⟨i,hi,rfl,hJ⟩:=hrel
  by_cases hi4:i<4
  rotate_left
  ·have hiz:¬(i:Int)<4:=by omega
   have hF:Hid (VwI w wi B G (k+1) (((l.take (k+1)).map (·.1)).foldl aj aG)):=by
    rw[hnx.out,hn1]
    exact ⟨_,_,_,hJ.out,hQR'.out⟩
   clear hJ hnx hQR'
   go_wp2
   go_roundw
   case rel=>exact ⟨k+1,by omega,by go_num,hF⟩
   case measure=>simp[intOf];omega
  have hiz:(i:Int)<4:=by omega
  obtain ⟨S,hSe⟩:∃S,M'.s i=S:=⟨_,rfl⟩
  obtain ⟨T,hTe⟩:∃T,M'.t i=T:=⟨_,rfl⟩
  have hok:Hid (am S=0∧am T=0∧M'.s i=S∧M'.t i=T):=by
   obtain ⟨P,h1,_⟩:=hJ.out.net
   exact ⟨by rw[←hSe];exact (h1.nd i hi4).ts.ok,by rw[←hTe];exact (h1.nd i hi4).tt.ok,hSe,hTe⟩
  have hT:Hid (Calls Z 19 #[f (some ⟨B,0,none⟩),V I i] wi fun e w'=>∃v,e= U (x #[v,r true])∧PkW wi.heap.size w' v S T∧Below wi.heap.size wi w'):=by
   obtain ⟨P,h1,_⟩:=hJ.out.net
   have:=kQ h1 i hi4
   rwa [hSe,hTe] at this
  clear hSe hTe
  go_wp2_with fail
  refine cM (show Calls _ _ _ _ _ from hT.out) ?_
  rintro e w6 ⟨v,rfl,⟨EA,eca,EC,ecc,EB,ecb,ED,ecd,rfl,f1,f2⟩,f3⟩
  obtain ⟨w7,hw7⟩:∃W,w6.alloc (R #[V I S.c.c0,V I S.c.c1,V I S.c.c2,V I S.c.c3,J EA S.c.l.length eca,J EC S.e.length ecc,V I T.c.c0,V I T.c.c1,V I T.c.c2,V I T.c.c3,J EB T.c.l.length ecb,J ED T.e.length ecd] 48)=W:=⟨_,rfl⟩
  obtain ⟨Y,hY⟩:∃n,w6.heap.size=n:=⟨_,rfl⟩
  have hg7:Gr w6 w7:=by rw[←hw7];exact (gR w6).alloc _
  have hC7:Cls w7 Y (T2 S EA eca EC ecc T EB ecb ED ecd):=by rw[←hw7,←hY];exact Cls.new w6 _ _
  have hF7:Hid (Mqs w w7 B G n1 M' Q' vs' ls'∧TbW wi.heap.size w7 T EB ecb ED ecd∧Cls w7 Y (T2 S EA eca EC ecc T EB ecb ED ecd)):=⟨hJ.out.below (f3.trans (hg7.below.mono f3.size)),f2.below hg7.below,hC7⟩
  have hO:Hid _:=tS (f1.below hg7.below) hok.out.1
  clear f1 f2 f3 hT hJ hg7
  obtain ⟨p0,p1,p2,p3,p4,p5,p6,p7,p8,p9,p10,p11⟩:=dR hC7
  clear hC7
  go_upto_region 18 with fail
  try rw[hw7]
  try rw[hY]
  clear hw7 hY
  go_wp2_with fail
  refine cM (show Calls _ _ _ _ _ from hO.out) ?_
  rintro e w8 ⟨L,C,c,rfl,f1,f2,f3⟩
  have hC8:Cls w8 Y (T2 S EA eca EC ecc T EB ecb ED ecd):=hF7.out.2.2.below f3
  have hF8:Hid (Mqs w w8 B G n1 M' Q' vs' ls'∧Lv w8 C c L∧L.map Itm.z=ofR S):=⟨hF7.out.1.below f3,f2,f1⟩
  have hO2:Hid _:=tS (hF7.out.2.1.below f3) hok.out.2.1
  clear f1 f2 f3 hO hF7 p0 p1 p2 p3 p4 p5 p6 p7 p8 p9 p10 p11
  obtain ⟨p6,p7,p8,p9,p10,p11⟩:=yJ hC8
  clear hC8
  go_wp2_with fail
  refine cM (show Calls _ _ _ _ _ from hO2.out) ?_
  rintro e w9 ⟨K,D,d,rfl,f1,f2,f3⟩
  have hl4:(ls' i).length≤4:=by
   obtain ⟨P,h1,_⟩:=hF8.out.1.net
   have h2:=congrArg List.length (hQR'.out i hi4)
   have h3:=(h1.nd i hi4).le
   simp at h2
   omega
  obtain ⟨XA,xc,hv,_,_,_⟩:=af.row fS (hF8.out.1.own i hi4)
  have hF9:Hid (VwK w w9 B G n1 M' Q' vs' ls' C D c d L K):=⟨hF8.out.1.below f3,hF8.out.2.1.below f3,f2⟩
  have hz9:Hid (L.map Itm.z=ofR S∧K.map Itm.z=ofR T∧vs' i= J XA (ls' i).length xc):=⟨hF8.out.2.2,f1,hv⟩
  have hLk:(Instr.lookup 53 (.map (some G)) (V I (i:Int)) false).run Z w9= .ok (J XA (ls' i).length xc) w9:=by rw[←hv];exact hF9.out.m.look hi4
  clear f1 f2 f3 hO2 hF8 hv p6 p7 p8 p9 p10 p11
  go_wp2
  clear hLk
  go_loopw [103] (fun v103 wr=>∃j:Nat,j≤(ls' i).length∧v103= V I j∧Hid (VwK w wr B G n1 M' Q' vs' ls' C D c d L K)) (fun v103 _=>(ls' i).length-(intOf v103).toNat)
  case atStart=>exact ⟨0,nZ _,rfl,hF9⟩
  clear hF9
  rename World=>wj
  obtain ⟨j,hj,rfl,hJ⟩:=hrel
  by_cases hjl:j<(ls' i).length
  rotate_left
  ·have hjz:¬(j:Int)<((ls' i).length:Int):=by omega
   have hF:Hid (Mqs w wj B G n1 M' Q' vs' ls'):=hJ.out.m
   clear hJ
   go_wp2
   go_roundw
   case rel=>exact ⟨i+1,by omega,by go_num,hF⟩
   case measure=>simp[intOf];omega
  have hjz:(j:Int)<((ls' i).length:Int):=by omega
  obtain ⟨hjq,hbare⟩:=hQR'.out.at hi4 hjl
  obtain ⟨p,hp⟩:∃p,(ls' i)[j]=p:=⟨_,rfl⟩
  rw[hp] at hbare
  obtain ⟨xb,xo,hXA,c0⟩:∃xb xo,XA=some ⟨xb,xo,none⟩∧wj.cell? ⟨xb,xo+j,none⟩=some (J p.A p.q.length p.c):=by
   obtain ⟨XA',xc',hv,_,hr,_⟩:=af.row fS (hJ.out.m.own i hi4)
   rw[hz9.out.2.2] at hv
   injection hv with hv _ _
   obtain ⟨b,o,hb,_,hc⟩:=hr.at hjl
   have:=hc j hjl 0 (by omega)
   rw[hp,Nat.mul_one,Nat.add_zero] at this
   exact ⟨b,o,hv.trans hb,this⟩
  subst hXA
  obtain ⟨E,hE⟩:∃E,bY p.q (ofR S) (ofR T)=E:=⟨_,rfl⟩
  obtain ⟨F,hFe⟩:∃F,e7 p.q (ofR S) (ofR T)=F:=⟨_,rfl⟩
  have hEv:Hid (Calls Z 23 #[J p.A p.q.length p.c,J C L.length c,J D K.length d] wj fun e w'=>∃(N:List Itm) (H:Option Addr) (h:Nat),e= U (x #[J H N.length h,V I E])∧N.map Itm.z=F∧Lv w' H h N∧Below wj.heap.size wj w'):=by
   have hs:=hJ.out.m.stp i hi4 p (by rw[←hp];exact gM _)
   have:=qG p.q p.A p.c L K C D c d wj (by have:=hs.2;unfold maxLen;omega) hs.1.st hJ.out.l hJ.out.k
   rw[hz9.out.1,hz9.out.2.1,hE,hFe] at this
   exact this
  have hVw:Hid (∀W,Mqs w W B G n1 M' Q' vs' ls'→Calls Z 24 #[f (some ⟨B,0,none⟩),V I i,V I j] W fun e w'=>∃(N:List Itm) (H:Option Addr) (h:Nat),e= U (x #[J H N.length h,V I E])∧N.map Itm.z=F∧Lv w' H h N∧Below W.heap.size W w'):=fun W hW=>by
   obtain ⟨P,h1,_⟩:=hW.net
   have:=yu h1 i hi4 hjq
   rw[hok.out.2.2.1,hok.out.2.2.2,←kM hbare,←kL hbare,hE,hFe] at this
   exact this
  clear hbare hp hE hFe hjq
  go_wp2_with fail
  refine cM (show Calls _ _ _ _ _ from hEv.out) ?_
  rintro e w10 ⟨N,NA,nc,rfl,f1,f2,f3⟩
  have hK10:Hid (VwK w w10 B G n1 M' Q' vs' ls' C D c d L K∧Lv w10 NA nc N∧N.map Itm.z=F):=⟨hJ.out.below f3,f2,f1⟩
  have hV:Hid _:=hVw.out w10 (hJ.out.m.below f3)
  clear f1 f2 f3 hEv hJ hVw c0
  go_wp2_with fail
  refine cM (show Calls _ _ _ _ _ from hV.out) ?_
  rintro e w11 ⟨O,OA,oc,rfl,f1,f2,f3⟩
  have hK11:Hid (VwK w w11 B G n1 M' Q' vs' ls' C D c d L K):=hK10.out.1.below f3
  have hSm:Hid (Calls Z 25 #[J OA O.length oc,J NA N.length nc] w11 fun e w'=>e= U (r true)∧Gr w11 w'):=by
   have:=kJ O N OA NA oc nc w11 f2.len f2.items (hK10.out.2.1.below f3).items
   rw[f1,hK10.out.2.2,decide_eq_true rfl] at this
   exact this
  clear f1 f2 f3 hV hK10
  go_wp2_with fail
  refine cM (show Calls _ _ _ _ _ from hSm.out) ?_
  rintro e w12 ⟨rfl,g⟩
  have hK12:Hid (VwK w w12 B G n1 M' Q' vs' ls' C D c d L K):=hK11.out.below g.below
  clear g hSm hK11
  go_wp2
  go_roundw
  case rel=>exact ⟨j+1,by omega,by go_num,hK12⟩
  case measure=>simp[intOf];omega
end Go.Proofs.YtkefkplnamkicaaGreatDoor
