import Derived.Test.YtkefkplnamkicabGreatDoorM04
import Derived.ProofKit
import Derived.OpenShut
import Derived.ChangeOld
import Derived.Deep.SlicePairs
import Derived.Lib.SmallJoins
set_option maxRecDepth 100000
set_option maxHeartbeats 8000000
open Go.Ending renaming returned → O
open Go.IntKind renaming i64 → J
open Go.Proofs.Tryz renaming prog → V
open Go.Value renaming slice → I, int → Z, tuple → Y, bool → X
namespace Go.Proofs.YtkefkplnamkicabGreatDoor

theorem oW {x:Zit}:∀ {S:List Zit},(fX x S).length≤S.length+1
 | []=>by
  unfold fX
  by_cases e:x.2=0
  ·rw[if_pos e];simp
  ·rw[if_neg e];simp
 | y::t=>by
  unfold fX
  by_cases h1:aB x.1 y.1<0
  ·rw[if_pos h1]
   by_cases e:x.2=0
   ·rw[if_pos e];simp
   ·rw[if_neg e];simp
  ·rw[if_neg h1]
   by_cases h2:aB x.1 y.1=0
   ·rw[if_pos h2]
    by_cases e:x.2+y.2=0
    ·rw[if_pos e];simp;omega
    ·rw[if_neg e];simp
   ·rw[if_neg h2]
    have:= @oW x t
    simp;omega
theorem jA:∀l:List Zit,(cU l).length≤l.length
 | []=>by simp[cU]
 | x::t=>by
  have h1:=jA t
  have h2:= @oW x (cU t)
  show (fX x (cU t)).length≤_
  simp;omega
theorem kj {l:List Zit} (h:bZ l=0):l.length≤400∧(∀x∈l,okR x.1=true∧okW x.2=true)∧dc l=0:=by
 unfold bZ at h
 by_cases h4:400<l.length
 ·rw[if_pos h4] at h;cases h
 ·rw[if_neg h4] at h
  by_cases ha:l.all (fun x=>okR x.1 && okW x.2)=true
  ·rw[if_pos ha] at h
   exact ⟨by omega,fun x hx=>by simpa using List.all_eq_true.1 ha x hx,h⟩
  ·rw[if_neg ha] at h;cases h
theorem rN {l:List Zit} (h:bZ l=0):dh l=cU l∧aw (cU l)=0:=by
 have p:=kj h
 refine ⟨by unfold dh;rw[if_pos h],(bx _).2 ⟨nT (jA l) p.1,?_,(bi l).rise⟩⟩
 exact (bi l).okZ (nF p.2.2) fun x hx=>(p.2.1 x hx).1
theorem add_comm {a b:List Zit} (h:aR a b=0):aR b a=0∧aP a b=aP b a:=by
 have hs:∀r,wt (b++a) r=wt (a++b) r:=fun r=>by rw[cC,cC];omega
 have e:aR b a=0:=by
  unfold aR at h ⊢
  by_cases ha:aw a=0
  ·rw[if_pos ha] at h
   by_cases hb:aw b=0
   ·rw[if_pos hb] at h
    rw[if_pos hb,if_pos ha,tJ hs,fL hs];exact h
   ·rw[if_neg hb] at h;exact absurd h hb
  ·rw[if_neg ha] at h;exact absurd h ha
 refine ⟨e,?_⟩
 unfold aP
 rw[if_pos h,if_pos e,fL hs]
theorem tT {a b:List Zit} (h:aR a b=0):aP a b=cU (a++b):=by unfold aP;rw[if_pos h]
theorem add_assoc {a b c:List Zit} (h1:aR a b=0) (h2:aR b c=0) (h:aR (aP a b) c=aR a (aP b c)):aP (aP a b) c=aP a (aP b c):=by
 have hs:∀r,wt (aP a b++c) r=wt (a++aP b c) r:=fun r=>by
  rw[tT h1,tT h2,cC,cC,(bi _).same,(bi _).same,cC,cC];omega
 have e:∀x y,aP x y=if aR x y=0 then cU (x++y) else []:=fun _ _=>rfl
 rw[e (aP a b) c,e a (aP b c),h,fL hs]

end Go.Proofs.YtkefkplnamkicabGreatDoor

namespace Go.Proofs.YtkefkplnamkicabGreatDoor
open Go.RowKit Go.Sort

theorem qN {l:List Itm} {k:Nat} (h4:¬ 400<l.length) (hk:k<l.length) (h:(okR l[k].r && okW l[k].n)=false):bZ (l.map Itm.z)=5:=by
 unfold bZ
 rw[if_neg (by simpa using h4),if_neg]
 intro ha
 have:=List.all_eq_true.1 ha l[k].z (List.mem_map.2 ⟨l[k],gM hk,rfl⟩)
 unfold Itm.z at this
 rw[h] at this;cases this
theorem sX {l:List Itm} (h4:¬ 400<l.length) (h:∀j (h:j<l.length),okR l[j].r=true∧okW l[j].n=true):bZ (l.map Itm.z)=dc (l.map Itm.z):=by
 unfold bZ
 rw[if_neg (by simpa using h4),if_pos]
 rw[List.all_eq_true]
 intro x hx
 obtain ⟨y,hy,rfl⟩:=List.mem_map.1 hx
 obtain ⟨j,hj,rfl⟩:=List.mem_iff_getElem.1 hy
 have:=h j hj
 simp[Itm.z,this.1,this.2]
theorem lA {l:List Zit} (h:bZ l≠0):dh l=[]:=by unfold dh;rw[if_neg h]

theorem vr (l:List Itm) (A:Option Addr) (cap:Nat) (w:World) (hl:l.length≤maxLen) (hA:A=none→cap=0) (hr:Items w A l) :
  Calls V 205 #[I A l.length cap] w fun e w'=>∃(L:List Itm) (C:Option Addr) (c:Nat),e= O (Y #[I C L.length c,Z J (bZ (l.map Itm.z))])∧L.map Itm.z=dh (l.map Itm.z)∧Items w' C L∧du C L.length c∧Below w.heap.size w w'∧NwT w' c w.heap.size C L:=by
 have mixed:Tryz.prog.follows .mixedOrders=true:=by kernel_rfl
 unfold maxLen at hl
 have hrH:Hid (Items w A l∧(A=none→cap=0)):=⟨hr,hA⟩
 clear hr hA
 by_cases h4:400<l.length
 ·have e:Hid (bZ (l.map Itm.z)=2):=by show _=_;unfold bZ;rw[if_pos (by simpa using h4)]
  have e2:Hid (dh (l.map Itm.z)=[]):=lA (by rw[e.out];decide)
  have h4z:(400:Int)<(l.length:Int):=by omega
  go_enter Tryz.func205,Tryz.ntmps205
  go_wp2
  go_ret2
  exact ⟨[],none,0,by rw[e.out];rfl,by rw[e2.out];rfl,⟨oL rfl,fun x hx=>by cases hx⟩,fun _=>rfl,bR _ _,NwT.none _ _⟩
 ·have h4z:¬(400:Int)<(l.length:Int):=by omega
  go_enter Tryz.func205,Tryz.ntmps205
  go_wp2
  go_loopw [11] (fun i wr=>∃k:Nat,k≤l.length∧i= Z J k∧Hid (∀j (h:j<l.length),j<k→okR l[j].r=true∧okW l[j].n=true)∧Gr w wr) (fun i _=>l.length-(intOf i).toNat)
  case atStart=>exact ⟨0,by omega,rfl,fun j _ h=>by omega,gR _⟩
  case round =>
   rename World=>wr0
   obtain ⟨k,hk,rfl,hall,hgr⟩:=hrel
   by_cases hlt:k<l.length
   ·have hltz:(k:Int)<(l.length:Int):=by omega
    have hrR:Hid (Items wr0 A l):=hrH.out.1.gr hgr
    obtain ⟨b,off,rfl,hb,hcs⟩:=hrR.out.at hlt
    obtain ⟨x,hx⟩:∃x,l[k]=x:=⟨_,rfl⟩
    obtain ⟨e0,e1⟩:=hcs k hlt
    rw[hx] at e0 e1
    have hxH:Hid (l[k]=x):=hx
    have hxr:Hid (ar wr0 x.p x.r∧x.r.length≤maxLen):=⟨(hrR.out.each x (by rw[←hx];exact gM hlt)).1,(hrR.out.each x (by rw[←hx];exact gM hlt)).2.1⟩
    clear hcs hx
    have hgX:Gr wr0 (wr0.alloc (.cells #[I x.p x.r.length x.c,Z J x.n] 58)):=(gR _).alloc _
    have x0:(wr0.alloc (.cells #[I x.p x.r.length x.c,Z J x.n] 58)).cell? ⟨wr0.heap.size,0,none⟩=some (I x.p x.r.length x.c):=ab (gR _) rfl
    have x1:(wr0.alloc (.cells #[I x.p x.r.length x.c,Z J x.n] 58)).cell? ⟨wr0.heap.size,1,none⟩=some (Z J x.n):=ab (gR _) rfl
    have hrow:=mO x.r x.p x.c (wr0.alloc (.cells #[I x.p x.r.length x.c,Z J x.n] 58)) hxr.out.2 (hxr.out.1.gr hgX)
    have hrowH:Hid _:=hrow
    clear hrow
    go_wp2_with fail
    refine cM (show Calls _ _ _ _ _ from hrowH.out) ?_
    rintro e w2 ⟨rfl,hg2⟩
    clear hrowH x0 x1
    have hgw2:Gr w w2:=(hgr.trans hgX).trans hg2
    have x0:w2.cell? ⟨wr0.heap.size,0,none⟩=some (I x.p x.r.length x.c):=ab hg2 rfl
    have x1:w2.cell? ⟨wr0.heap.size,1,none⟩=some (Z J x.n):=ab hg2 rfl
    have hbadH:Hid ((okR x.r && okW x.n)=false→bZ (l.map Itm.z)=5∧dh (l.map Itm.z)=[]):=fun h=>by
     have h5:=qN h4 hlt (by rw[hxH.out];exact h)
     exact ⟨h5,lA (by rw[h5];decide)⟩
    cases hrb:okR x.r
    ·have hfin:Hid (bZ (l.map Itm.z)=5∧dh (l.map Itm.z)=[]):=hbadH.out (by simp[hrb])
     go_wp2
     go_ret2
     exact ⟨[],none,0,by rw[hfin.out.1];rfl,by rw[hfin.out.2];rfl,⟨oL rfl,fun x hx=>by cases hx⟩,fun _=>rfl,hgw2.below,NwT.none _ _⟩
    ·have hwt:=fY x.n w2
     cases hwb:okW x.n
     ·have hfin:Hid (bZ (l.map Itm.z)=5∧dh (l.map Itm.z)=[]):=hbadH.out (by simp[hwb])
      rw[hwb] at hwt
      have hwtH:Hid _:=hwt
      clear hwt
      go_wp2_with (go_at_call 163;(refine cM (show Calls _ _ _ _ _ from hwtH.out) ?_);rintro e w' ⟨rfl,rfl⟩)
      go_ret2
      exact ⟨[],none,0,by rw[hfin.out.1];rfl,by rw[hfin.out.2];rfl,⟨oL rfl,fun x hx=>by cases hx⟩,fun _=>rfl,hgw2.below,NwT.none _ _⟩
     ·rw[hwb] at hwt
      have hwtH:Hid _:=hwt
      clear hwt
      have hoka:Hid (okR l[k].r=true∧okW l[k].n=true):=by show _∧_;rw[hxH.out];exact ⟨hrb,hwb⟩
      go_wp2_with (go_at_call 163;(refine cM (show Calls _ _ _ _ _ from hwtH.out) ?_);rintro e w' ⟨rfl,rfl⟩)
      go_roundw
      case rel =>
       refine ⟨k+1,hlt,by go_num,?_,hgw2⟩
       intro j hj hjk
       by_cases e:j=k
       ·subst e;exact hoka.out
       ·exact hall j hj (by omega)
      case measure=>simp[intOf];omega
   ·have hltz:¬(k:Int)<(l.length:Int):=by omega
    have hokA:Hid (∀j (h:j<l.length),okR l[j].r=true∧okW l[j].n=true):=fun j h=>hall j h (by omega)
    have hfin:Hid (bZ (l.map Itm.z)=dc (l.map Itm.z)∧dh (l.map Itm.z)=lT (l.map Itm.z)):=by
     have h1:=sX h4 hokA.out
     refine ⟨h1,?_⟩
     unfold dh lT
     rw[h1]
    have htt:=mp l A cap wr0 hrH.out.2 (hrH.out.1.gr hgr) (by omega) (fun x hx=>by
     obtain ⟨j,hj,rfl⟩:=List.mem_iff_getElem.1 hx
     have:=hokA.out j hj
     refine ⟨this.2,?_⟩
     have h8:=this.1
     simp only[okR,Bool.and_eq_true,decide_eq_true_eq] at h8
     exact h8.1)
    have httH:Hid _:=htt
    clear hall htt
    go_wp2_with fail
    refine cM (show Calls _ _ _ _ _ from httH.out) ?_
    rintro e w3 ⟨L,C,c,rfl,h1,h2,h3,h4,h5⟩
    have hNw:Hid (NwT w3 c w.heap.size C L):=h5.mono hgr.size
    have hfin2:Hid (L.map Itm.z=dh (l.map Itm.z)∧Items w3 C L∧du C L.length c∧Below w.heap.size w w3):=⟨by rw[h1,hfin.out.2],h2,h3,hgr.below.trans (h4.mono hgr.size)⟩
    clear h1 h2 h3 h4 h5 httH
    go_wp2
    go_ret2
    exact ⟨L,C,c,by rw[hfin.out.1];rfl,hfin2.out.1,hfin2.out.2.1,hfin2.out.2.2.1,hfin2.out.2.2.2,hNw.out⟩

theorem xQ {a b:List Zit} (h:aw a≠0):aR a b=aw a∧aP a b=[]:=by
 have e:aR a b=aw a:=by unfold aR;rw[if_neg h]
 exact ⟨e,by unfold aP;rw[e,if_neg h]⟩
theorem xR {a b:List Zit} (ha:aw a=0) (h:aw b≠0):aR a b=aw b∧aP a b=[]:=by
 have e:aR a b=aw b:=by unfold aR;rw[if_pos ha,if_neg h]
 exact ⟨e,by unfold aP;rw[e,if_neg h]⟩
theorem xU {a b:List Zit} (ha:aw a=0) (hb:aw b=0) (h:dc (a++b)≠0):aR a b=dc (a++b)∧aP a b=[]:=by
 have e:aR a b=dc (a++b):=by unfold aR;rw[if_pos ha,if_pos hb,if_neg h]
 exact ⟨e,by unfold aP;rw[e,if_neg h]⟩
theorem xS {a b:List Zit} (ha:aw a=0) (hb:aw b=0) (h:dc (a++b)=0) (hl:400<(cU (a++b)).length):aR a b=2∧aP a b=[]:=by
 have e:aR a b=2:=by unfold aR;rw[if_pos ha,if_pos hb,if_pos h,if_pos hl]
 exact ⟨e,by unfold aP;rw[e,if_neg (by decide)]⟩
theorem xT {a b:List Zit} (ha:aw a=0) (hb:aw b=0) (h:dc (a++b)=0) (hl:¬ 400<(cU (a++b)).length):aR a b=0∧aP a b=cU (a++b):=by
 have e:aR a b=0:=by unfold aR;rw[if_pos ha,if_pos hb,if_pos h,if_neg hl]
 exact ⟨e,by unfold aP;rw[if_pos e]⟩
theorem fx {l:List Itm} (h:aw (l.map Itm.z)=0):l.length≤400∧∀x∈l,okW x.n=true∧x.r.length≤8:=by
 have h1:=(bx _).1 h
 refine ⟨by simpa using h1.1,fun x hx=> ?_⟩
 have h2:=bL (h1.2.1 x.z (List.mem_map.2 ⟨x,hx,rfl⟩))
 have h8:=h2.1
 simp only[okR,Bool.and_eq_true,decide_eq_true_eq] at h8
 exact ⟨h2.2.1,h8.1⟩

theorem rr (a b:List Itm) (A B:Option Addr) (ca cb:Nat) (w:World) (hal:a.length≤maxLen) (hbl:b.length≤maxLen) (hA:A=none→ca=0) (hB:B=none→cb=0) (hra:Items w A a) (hrb:Items w B b) :
  Calls V 117 #[I A a.length ca,I B b.length cb] w fun e w'=>∃(L:List Itm) (C:Option Addr) (c:Nat),e= O (Y #[I C L.length c,Z J (aR (a.map Itm.z) (b.map Itm.z))])∧L.map Itm.z=aP (a.map Itm.z) (b.map Itm.z)∧Items w' C L∧du C L.length c∧Below w.heap.size w w'∧NwT w' c w.heap.size C L:=by
 have hck:=fR a A ca w hal hra
 have hckH:Hid _:=hck
 have hrH:Hid (Items w A a∧Items w B b∧(A=none→ca=0)∧(B=none→cb=0)∧b.length≤maxLen):=⟨hra,hrb,hA,hB,hbl⟩
 clear hck hra hrb hA hB hal hbl
 go_enter Tryz.func117,Tryz.ntmps117
 go_wp2_with fail
 refine cM (show Calls _ _ _ _ _ from hckH.out) ?_
 rintro e w1 ⟨rfl,hg1⟩
 clear hckH
 obtain ⟨E,hE⟩:∃E,aw (a.map Itm.z)=E:=⟨_,rfl⟩
 have hEH:Hid (aw (a.map Itm.z)=E):=hE
 rw[hE]
 clear hE
 cases hq:(E != 0)
 ·have hE0:E=0:=by simpa using hq
  have h0H:Hid (aw (a.map Itm.z)=0):=by show _=_;rw[hEH.out,hE0]
  subst hE0
  clear hEH
  have hck:=fR b B cb w1 hrH.out.2.2.2.2 (hrH.out.2.1.gr hg1)
  have hckH:Hid _:=hck
  clear hck
  go_wp2_with fail
  refine cM (show Calls _ _ _ _ _ from hckH.out) ?_
  rintro e w2 ⟨rfl,hg2⟩
  clear hckH
  obtain ⟨F,hF⟩:∃E,aw (b.map Itm.z)=E:=⟨_,rfl⟩
  have hFH:Hid (aw (b.map Itm.z)=F):=hF
  rw[hF]
  clear hF
  cases hq2:(F != 0)
  ·have hF0:F=0:=by simpa using hq2
   have k0H:Hid (aw (b.map Itm.z)=0):=by show _=_;rw[hFH.out,hF0]
   subst hF0
   clear hFH
   have hgw:Gr w w2:=hg1.trans hg2
   have htt:=mq a b A B ca cb w2 hrH.out.2.2.1 hrH.out.2.2.2.1 (hrH.out.1.gr hgw) (hrH.out.2.1.gr hgw) (fx h0H.out).1 (fx k0H.out).1 (fx h0H.out).2 (fx k0H.out).2
   have httH:Hid _:=htt
   clear htt
   go_wp2_with fail
   refine cM (show Calls _ _ _ _ _ from httH.out) ?_
   rintro e w3 ⟨L,C,c,rfl,h1,h2,h3,h4,h5⟩
   have hNw:Hid (NwT w3 c w.heap.size C L):=h5.mono hgw.size
   have hfin2:Hid (L.map Itm.z=lT (a.map Itm.z++b.map Itm.z)∧Items w3 C L∧du C L.length c∧Below w.heap.size w w3):=⟨h1,h2,h3,hgw.below.trans (h4.mono hgw.size)⟩
   clear h1 h2 h3 h4 h5 httH
   obtain ⟨G,hG⟩:∃G,dc (a.map Itm.z++b.map Itm.z)=G:=⟨_,rfl⟩
   have hGH:Hid (dc (a.map Itm.z++b.map Itm.z)=G):=hG
   rw[hG]
   clear hG
   cases hq3:(G != 0)
   ·have hG0:G=0:=by simpa using hq3
    have g0H:Hid (dc (a.map Itm.z++b.map Itm.z)=0):=by show _=_;rw[hGH.out,hG0]
    subst hG0
    clear hGH
    have hLt:Hid (L.map Itm.z=cU (a.map Itm.z++b.map Itm.z)):=by show _=_;rw[hfin2.out.1,rY g0H.out]
    have hLl:Hid ((cU (a.map Itm.z++b.map Itm.z)).length=L.length):=by show _=_;rw[←hLt.out,List.length_map]
    by_cases h4:400<L.length
    ·have h4z:(400:Int)<(L.length:Int):=by omega
     have hfin:=xS h0H.out k0H.out g0H.out (by rw[hLl.out];exact h4)
     have hfinH:Hid (aR (a.map Itm.z) (b.map Itm.z)=2∧aP (a.map Itm.z) (b.map Itm.z)=[]):=hfin
     clear hfin
     go_wp2
     go_ret2
     exact ⟨[],none,0,by rw[hfinH.out.1];rfl,by rw[hfinH.out.2];rfl,⟨oL rfl,fun x hx=>by cases hx⟩,fun _=>rfl,hfin2.out.2.2.2,NwT.none _ _⟩
    ·have h4z:¬(400:Int)<(L.length:Int):=by omega
     have hfin:=xT h0H.out k0H.out g0H.out (by rw[hLl.out];exact h4)
     have hfinH:Hid (aR (a.map Itm.z) (b.map Itm.z)=0∧aP (a.map Itm.z) (b.map Itm.z)=cU (a.map Itm.z++b.map Itm.z)):=hfin
     clear hfin
     go_wp2
     go_ret2
     exact ⟨L,C,c,by rw[hfinH.out.1];rfl,by rw[hfinH.out.2];exact hLt.out,hfin2.out.2.1,hfin2.out.2.2.1,hfin2.out.2.2.2,hNw.out⟩
   ·have hG0:G≠0:=by simpa using hq3
    have hfinH:Hid (aR (a.map Itm.z) (b.map Itm.z)=G∧aP (a.map Itm.z) (b.map Itm.z)=[]):=by
     have:=xU h0H.out k0H.out (by rw[hGH.out];exact hG0)
     rw[hGH.out] at this
     exact this
    clear hG0
    go_wp2
    go_ret2
    exact ⟨[],none,0,by rw[hfinH.out.1];rfl,by rw[hfinH.out.2];rfl,⟨oL rfl,fun x hx=>by cases hx⟩,fun _=>rfl,hfin2.out.2.2.2,NwT.none _ _⟩
  ·have hF0:F≠0:=by simpa using hq2
   have hfin:Hid (aR (a.map Itm.z) (b.map Itm.z)=F∧aP (a.map Itm.z) (b.map Itm.z)=[]):=by
    have:=xR (b:=b.map Itm.z) h0H.out (by rw[hFH.out];exact hF0)
    rw[hFH.out] at this
    exact this
   have hbw:Hid (Below w.heap.size w w2):=(hg1.trans hg2).below
   clear hF0
   go_wp2
   go_ret2
   exact ⟨[],none,0,by rw[hfin.out.1];rfl,by rw[hfin.out.2];rfl,⟨oL rfl,fun x hx=>by cases hx⟩,fun _=>rfl,hbw.out,NwT.none _ _⟩
 ·have hE0:E≠0:=by simpa using hq
  have hfin:Hid (aR (a.map Itm.z) (b.map Itm.z)=E∧aP (a.map Itm.z) (b.map Itm.z)=[]):=by
   have:=xQ (b:=b.map Itm.z) (show aw (a.map Itm.z)≠0 by rw[hEH.out];exact hE0)
   rw[hEH.out] at this
   exact this
  have hbw:Hid (Below w.heap.size w w1):=hg1.below
  clear hE0
  go_wp2
  go_ret2
  exact ⟨[],none,0,by rw[hfin.out.1];rfl,by rw[hfin.out.2];rfl,⟨oL rfl,fun x hx=>by cases hx⟩,fun _=>rfl,hbw.out,NwT.none _ _⟩
theorem wB (a b:List Itm) (A B:Option Addr) (ca cb:Nat) (w:World) (hal:a.length≤maxLen) (hbl:b.length≤maxLen) (hA:A=none→ca=0) (hB:B=none→cb=0) (hra:Items w A a) (hrb:Items w B b) :
  Calls V 117 #[I A a.length ca,I B b.length cb] w fun e w'=>∃(L:List Itm) (C:Option Addr) (c:Nat),e= O (Y #[I C L.length c,Z J (aR (a.map Itm.z) (b.map Itm.z))])∧L.map Itm.z=aP (a.map Itm.z) (b.map Itm.z)∧Items w' C L∧du C L.length c∧Below w.heap.size w w':=by
 refine (rr a b A B ca cb w hal hbl hA hB hra hrb).mono ?_
 rintro e w' ⟨L,C,c,h1,h2,h3,h4,h5,_⟩
 exact ⟨L,C,c,h1,h2,h3,h4,h5⟩

section
open Go.Shelf Go.Lib

theorem iT {w:World} {b off:Nat} {l:List Int} (h:ar w (some ⟨b,off,none⟩) l):∀j,j<l.length→w.cell? ⟨b,off+j,none⟩=some (Z J (l.getD j 0)):=by
 intro j hj
 obtain ⟨b',off',hA,_,hc⟩:=h.at hj
 obtain ⟨rfl,rfl⟩:b=b'∧off=off':=by injection hA with hA;injection hA with h1 h2;exact ⟨h1,h2⟩
 have:=hc j hj 0 (by omega)
 have e:l.getD j 0=l[j]:=by simp[hj]
 rw[e]
 simpa[eM] using this
theorem gB (l m:List Int) (A B:Option Addr) (c d:Nat) (w:World) (hl:l.length≤9223372036854775807) (hm:m.length≤9223372036854775807) (hr:ar w A l) (hs:ar w B m) :
  Calls V 12 #[I A l.length c,I B m.length d] w fun e w'=>e= O (X (decide (l=m)))∧Gr w w':=by
 by_cases h0:l=[]
 ·subst h0
  have h:=Any.slices_Equal_int_empty Tryz.equalInt A B c m.length d w hm
  change Calls V 12 _ _ _ at h
  refine h.mono ?_
  rintro e w' ⟨rfl,rfl⟩
  refine ⟨?_,gR _⟩
  have:decide (m.length=0)=decide ([]=m):=by cases m<;>simp
  rw[this]
 ·by_cases h1:m=[]
  ·subst h1
   have hpos:0<l.length:=List.length_pos_iff.2 h0
   have hlz:((l.length:Int) != 0)=true:=by simp;omega
   have hd0:decide (l=[])=false:=by simp[h0]
   rw[hd0]
   clear hd0 h0
   go_enter Tryz.func12,Tryz.ntmps12
   go_wp2
   go_ret
   exact ⟨rfl,gR _⟩
  ·have hpos:0<l.length:=List.length_pos_iff.2 h0
   have hpos1:0<m.length:=List.length_pos_iff.2 h1
   obtain ⟨b,off,rfl,_,_⟩:=hr.at hpos
   obtain ⟨b',off',rfl,_,_⟩:=hs.at hpos1
   have h:=Any.slices_Equal_int Tryz.equalInt b off l.length c b' off' m.length d l m w (nR _) (nR _) hl hm (iT hr) (iT hs)
   change Calls V 12 _ _ _ at h
   refine h.mono ?_
   rintro e w' ⟨rfl,q,rfl⟩
   refine ⟨?_,⟨q,#[],by rw[grow_empty]⟩⟩
   simp only[List.take_length]
   by_cases hlm:l=m<;>simp[hlm]

end

def jt (x y:Itm):Bool:=decide (x.n=y.n) && decide (x.r=y.r)
theorem nu {x y:Itm}:jt x y=true↔x.z=y.z:=by
 unfold jt Itm.z
 simp only[Bool.and_eq_true,decide_eq_true_eq,Prod.mk.injEq]
 exact ⟨fun h=>⟨h.2,h.1⟩,fun h=>⟨h.2,h.1⟩⟩
theorem tw (x y:Itm) (w:World) (hxl:x.r.length≤maxLen) (hyl:y.r.length≤maxLen) (hx:ar w x.p x.r) (hy:ar w y.p y.r) :
  Calls V 33 #[.agg #[I x.p x.r.length x.c,Z J x.n],.agg #[I y.p y.r.length y.c,Z J y.n]] w fun e w'=>e= O (X (jt x y))∧Gr w w':=by
 have hlH:Hid (x.r.length≤9223372036854775807∧y.r.length≤9223372036854775807):=by show _∧_;unfold maxLen at hxl hyl;exact ⟨hxl,hyl⟩
 have hrH:Hid (ar w x.p x.r∧ar w y.p y.r):=⟨hx,hy⟩
 clear hxl hyl hx hy
 cases hq:(x.n==y.n)
 ·have hfin:Hid (jt x y=false):=by
   have:x.n≠y.n:=by simpa using hq
   simp[jt,this,Hid]
  go_enter Tryz.func33,Tryz.ntmps33
  go_wp2
  go_ret
  exact ⟨by rw[hfin.out];rfl,((gR _).alloc _).alloc _⟩
 ·have hfin:Hid (jt x y=decide (x.r=y.r)):=by
   have:x.n=y.n:=by simpa using hq
   simp[jt,this,Hid]
  go_enter Tryz.func33,Tryz.ntmps33
  go_wp2_with fail
  refine (gB x.r y.r x.p y.p x.c y.c _ hlH.out.1 hlH.out.2 (hrH.out.1.gr (((gR _).alloc _).alloc _)) (hrH.out.2.gr (((gR _).alloc _).alloc _))).mono ?_
  rintro e w' ⟨rfl,hg⟩
  have hgH:Hid (Gr w w'):=(((gR w).alloc _).alloc _).trans hg
  clear hg
  go_wp2
  go_ret
  exact ⟨by rw[hfin.out];rfl,hgH.out⟩
theorem qj (a b:List Itm) (A B:Option Addr) (ca cb:Nat) (w:World) (hal:a.length≤maxLen) (ha:Items w A a) (hb:Items w B b) :
  Calls V 32 #[I A a.length ca,I B b.length cb,.func (.func 33) #[] #[]] w fun e w'=>e= O (X (decide (a.map Itm.z=b.map Itm.z)))∧Gr w w':=by
 unfold maxLen at hal
 have haH:Hid (Items w A a∧Items w B b):=⟨ha,hb⟩
 clear ha hb
 by_cases hlen:a.length=b.length
 ·have hlz:((a.length:Int) != (b.length:Int))=false:=by simp[hlen]
  have hlenH:Hid (a.length=b.length):=hlen
  clear hlen
  go_enter Tryz.func32,Tryz.ntmps32
  go_wp2
  go_loopw [17] (fun i wr=>∃k:Nat,k≤a.length∧i= Z J k∧Hid (∀j (h1:j<a.length) (h2:j<b.length),j<k→jt a[j] b[j]=true)∧Gr w wr) (fun i _=>a.length-(intOf i).toNat)
  case atStart=>exact ⟨0,nZ _,rfl,fun j _ _ hj=>absurd hj (Nat.not_lt_zero _),gR _⟩
  case round =>
   obtain ⟨k,hk,rfl,hno,hgr⟩:=hrel
   by_cases hlt:k<a.length
   ·have hltz:(k:Int)<(a.length:Int):=by omega
    have hlt2:k<b.length:=by rw[←hlenH.out];exact hlt
    have hltz2:(k:Int)<(b.length:Int):=by omega
    have hI:Hid (Items wr A a∧Items wr B b):=⟨haH.out.1.gr hgr,haH.out.2.gr hgr⟩
    obtain ⟨bb,off,rfl,hb,hcs⟩:=hI.out.1.at hlt
    obtain ⟨bc,of2,rfl,hb2,hcs2⟩:=hI.out.2.at hlt2
    obtain ⟨x,hx⟩:∃x,a[k]=x:=⟨_,rfl⟩
    obtain ⟨y,hy⟩:∃y,b[k]=y:=⟨_,rfl⟩
    obtain ⟨e0,e1⟩:=hcs k hlt
    obtain ⟨f0,f1⟩:=hcs2 k hlt2
    rw[hx] at e0 e1
    rw[hy] at f0 f1
    have hxH:Hid (a[k]=x∧b[k]=y):=⟨hx,hy⟩
    have hxr:Hid (ar wr x.p x.r∧x.r.length≤maxLen):=⟨(hI.out.1.each x (by rw[←hx];exact gM hlt)).1,(hI.out.1.each x (by rw[←hx];exact gM hlt)).2.1⟩
    have hyr:Hid (ar wr y.p y.r∧y.r.length≤maxLen):=⟨(hI.out.2.each y (by rw[←hy];exact gM hlt2)).1,(hI.out.2.each y (by rw[←hy];exact gM hlt2)).2.1⟩
    clear hcs hcs2 hx hy
    go_wp2_with fail
    have hg0:Hid (Gr wr ((wr.alloc (.cells #[I x.p x.r.length x.c,Z J x.n] 58)).alloc (.cells #[I y.p y.r.length y.c,Z J y.n] 58))):=((gR _).alloc _).alloc _
    refine (tw x y _ hxr.out.2 hyr.out.2 (hxr.out.1.gr hg0.out) (hyr.out.1.gr hg0.out)).mono ?_
    rintro e w2 ⟨rfl,hg2⟩
    have hgw:Hid (Gr w w2):=(hgr.trans hg0.out).trans hg2
    clear hg0 hg2
    cases hq:jt x y
    ·have hfin:Hid (decide (a.map Itm.z=b.map Itm.z)=false):=by
      refine decide_eq_false fun h=> ?_
      have h2:(a.map Itm.z)[k]? = (b.map Itm.z)[k]? := by rw[h]
      rw[List.getElem?_map,List.getElem?_map,List.getElem?_eq_getElem hlt,List.getElem?_eq_getElem hlt2,hxH.out.1,hxH.out.2] at h2
      have h3:x.z=y.z:=by simpa using h2
      rw[nu.2 h3] at hq;cases hq
     go_wp2
     go_ret
     exact ⟨by rw[hfin.out];rfl,hgw.out⟩
    ·go_wp2
     go_roundw
     case rel =>
      refine ⟨k+1,by omega,by go_num,?_,hgw.out⟩
      intro j hj hj2 hjk
      by_cases e:j=k
      ·subst e;rw[hxH.out.1,hxH.out.2];exact hq
      ·exact hno j hj hj2 (by omega)
     case measure=>simp[intOf];omega
   ·have hltz:¬(k:Int)<(a.length:Int):=by omega
    have hfin:Hid (decide (a.map Itm.z=b.map Itm.z)=true):=by
     refine decide_eq_true ?_
     refine List.ext_getElem (by simpa using hlenH.out) fun j h1 h2=> ?_
     have h1':j<a.length:=by simpa using h1
     have h2':j<b.length:=by simpa using h2
     rw[List.getElem_map,List.getElem_map]
     exact nu.1 (hno j h1' h2' (by omega))
    go_wp2
    go_ret
    exact ⟨by rw[hfin.out];rfl,hgr⟩
 ·have hlz:((a.length:Int) != (b.length:Int))=true:=by simp;omega
  have hfin:Hid (decide (a.map Itm.z=b.map Itm.z)=false):=by
   refine decide_eq_false fun h=>hlen ?_
   have:=congrArg List.length h
   simpa using this
  clear hlen
  go_enter Tryz.func32,Tryz.ntmps32
  go_wp2
  go_ret
  exact ⟨by rw[hfin.out];rfl,gR _⟩
theorem tx (a b:List Itm) (A B:Option Addr) (ca cb:Nat) (w:World) (hal:a.length≤maxLen) (ha:Items w A a) (hb:Items w B b) :
  Calls V 19 #[I A a.length ca,I B b.length cb] w fun e w'=>e= O (X (decide (a.map Itm.z=b.map Itm.z)))∧Gr w w':=by
 have hH:Hid _:=qj a b A B ca cb w hal ha hb
 obtain ⟨r,hr⟩:∃r,decide (a.map Itm.z=b.map Itm.z)=r:=⟨_,rfl⟩
 rw[hr] at hH ⊢
 clear hr hal ha hb
 go_enter Tryz.func19,Tryz.ntmps19
 go_wp2_with fail
 refine cM (show Calls _ _ _ _ _ from hH.out) ?_
 rintro e w' ⟨rfl,hg⟩
 go_wp2
 go_ret
 exact ⟨rfl,hg⟩

section
open Go.ChangeShapes Go.WideShapes Go.ChangeAt Go.Deep

theorem zo:ownKnob Tryz.prog.godebug=none:=by kernel_rfl
theorem laidAll:laidOutB V=true:=by kernel_rfl

variable {H:Type} {enc:TypeId×Value→H} {W:World}

end
section
open Go.ChangeShapes Go.WideShapes Go.ChangeAt Go.Deep

variable {H:Type} {enc:TypeId×Value→H} {W:World}

end
end Go.Proofs.YtkefkplnamkicabGreatDoor

namespace Go.Proofs.YtkefkplnamkicabGreatDoor
open Go.ChangeShapes Go.WideShapes Go.ChangeAt Go.RowKit Go.Deep

variable {H:Type} {enc:TypeId×Value→H} {W:World}

end Go.Proofs.YtkefkplnamkicabGreatDoor

namespace Go.Proofs.YtkefkplnamkicabGreatDoor
open Go.RowKit Go.Sort

theorem kF {L:List Itm} {m:List Zit} (h:L.map Itm.z=m) (hm:m.length≤400):L.length≤maxLen:=by
 have:L.length=m.length:=by rw[←h,List.length_map]
 unfold maxLen;omega
theorem sY (l:List Zit):(dh l).length≤400:=by
 unfold dh
 by_cases h:bZ l=0
 ·rw[if_pos h];exact nT (jA l) (kj h).1
 ·rw[if_neg h];simp
theorem vi (l:List Zit):(gx l).length≤400:=by
 unfold gx
 by_cases h:aw l=0
 ·rw[if_pos h,List.length_map];exact ((bx _).1 h).1
 ·rw[if_neg h];simp
theorem oj (a b:List Zit):(aP a b).length≤400:=by
 unfold aP
 by_cases h:aR a b=0
 ·rw[if_pos h]
  by_cases k:400<(cU (a++b)).length
  ·exfalso
   unfold aR at h
   by_cases h1:aw a=0
   ·rw[if_pos h1] at h
    by_cases h2:aw b=0
    ·rw[if_pos h2] at h
     by_cases h3:dc (a++b)=0
     ·rw[if_pos h3,if_pos k] at h;cases h
     ·rw[if_neg h3] at h;exact h3 h
    ·rw[if_neg h2] at h;exact h2 h
   ·rw[if_neg h1] at h;exact h1 h
  ·omega
 ·rw[if_neg h];simp
theorem nW {W:World} {A:Option Addr} {c:Nat} {l:List Itm} (h:Lv W A c l) {m:List Zit} (hm:l.map Itm.z=m) :
  Calls V 205 #[I A l.length c] W fun e w'=>∃(L:List Itm) (C:Option Addr) (k:Nat),e= O (Y #[I C L.length k,Z J (bZ m)])∧L.map Itm.z=dh m∧Lv w' C k L∧Below W.heap.size W w'∧NwT w' k W.heap.size C L:=by
 subst hm
 refine (vr l A c W h.len h.nil h.items).mono ?_
 rintro e w' ⟨L,C,k,h1,h2,h3,h4,h5⟩
 exact ⟨L,C,k,h1,h2,⟨h3,h4,kF h2 (sY _)⟩,h5⟩
theorem zj {W:World} {A:Option Addr} {c:Nat} {l:List Itm} (h:Lv W A c l) {m:List Zit} (hm:l.map Itm.z=m) :
  Calls V 103 #[I A l.length c] W fun e w'=>∃(L:List Itm) (C:Option Addr) (k:Nat),e= O (Y #[I C L.length k,Z J (aw m)])∧L.map Itm.z=gx m∧Lv w' C k L∧Below W.heap.size W w':=by
 subst hm
 refine (xn l A c W h.len h.items).mono ?_
 rintro e w' ⟨L,C,k,h1,h2,h3,h4,h5⟩
 exact ⟨L,C,k,h1,h2,⟨h3,h4,kF h2 (vi _)⟩,h5⟩
theorem yU {W:World} {A B:Option Addr} {c d:Nat} {l r:List Itm} (h:Lv W A c l) (h':Lv W B d r) {m n:List Zit} (hm:l.map Itm.z=m) (hn:r.map Itm.z=n) :
  Calls V 117 #[I A l.length c,I B r.length d] W fun e w'=>∃(L:List Itm) (C:Option Addr) (k:Nat),e= O (Y #[I C L.length k,Z J (aR m n)])∧L.map Itm.z=aP m n∧Lv w' C k L∧Below W.heap.size W w':=by
 subst hm
 subst hn
 refine (wB l r A B c d W h.len h'.len h.nil h'.nil h.items h'.items).mono ?_
 rintro e w' ⟨L,C,k,h1,h2,h3,h4,h5⟩
 exact ⟨L,C,k,h1,h2,⟨h3,h4,kF h2 (oj _ _)⟩,h5⟩
theorem ol {W:World} {A B:Option Addr} {c d:Nat} {l r:List Itm} (h:Lv W A c l) (h':Lv W B d r) {m n:List Zit} (hm:l.map Itm.z=m) (hn:r.map Itm.z=n) :
  Calls V 117 #[I A l.length c,I B r.length d] W fun e w'=>∃(L:List Itm) (C:Option Addr) (k:Nat),e= O (Y #[I C L.length k,Z J (aR m n)])∧L.map Itm.z=aP m n∧Lv w' C k L∧Below W.heap.size W w'∧NwT w' k W.heap.size C L:=by
 subst hm
 subst hn
 refine (rr l r A B c d W h.len h'.len h.nil h'.nil h.items h'.items).mono ?_
 rintro e w' ⟨L,C,k,h1,h2,h3,h4,h5⟩
 exact ⟨L,C,k,h1,h2,⟨h3,h4,kF h2 (oj _ _)⟩,h5⟩
theorem ug {W:World} {A:Option Addr} {c:Nat} {l:List Itm} (h:Lv W A c l) {m:List Zit} (hm:l.map Itm.z=m) :
  Calls V 131 #[I A l.length c] W fun e w'=>e= O (Z J (aw m))∧Gr W w':=by
 subst hm
 exact fR l A c W h.len h.items
end Go.Proofs.YtkefkplnamkicabGreatDoor
