/-
  zset.Norm: the set of a list.
  zset.Add: two sets together.
  slices.Equal at numbers.
  R.SameSet: are two sets the same?
  What is handed in, opened: a slice of dots, a dot, a context.
  What is handed in, opened: a row of numbers.
-/
import Derived.Test.YtkefkplnamkicaaGreatDoorM06
import Derived.ProofKit
import Derived.OpenShut
import Derived.ChangeOld
import Derived.Deep.SlicePairs
import Derived.Lib.SmallJoins
set_option maxRecDepth 100000
set_option maxHeartbeats 8000000
open Go.Ending renaming returned → S
open Go.IntKind renaming i64 → O
open Go.Proofs.Tryz renaming prog → V
open Go.Value renaming slice → I, tuple → J
namespace Go.Proofs.YtkefkplnamkicaaGreatDoor
open Go.RowKit Go.Sort

theorem sS {l:List Itm} {k:Nat} (h4:¬ 400<l.length) (hk:k<l.length) (h:(okR l[k].r && okW l[k].n)=false):cw (l.map Itm.z)=5:=by
 unfold cw
 rw[if_neg (by simpa using h4),if_neg]
 intro ha
 have:=List.all_eq_true.1 ha l[k].z (List.mem_map.2 ⟨l[k],gM hk,rfl⟩)
 unfold Itm.z at this
 rw[h] at this;cases this
theorem va {l:List Itm} (h4:¬ 400<l.length) (h:∀j (h:j<l.length),okR l[j].r=true∧okW l[j].n=true):cw (l.map Itm.z)=df (l.map Itm.z):=by
 unfold cw
 rw[if_neg (by simpa using h4),if_pos]
 rw[List.all_eq_true]
 intro x hx
 obtain ⟨y,hy,rfl⟩:=List.mem_map.1 hx
 obtain ⟨j,hj,rfl⟩:=List.mem_iff_getElem.1 hy
 have:=h j hj
 simp[Itm.z,this.1,this.2]
theorem mH {l:List Zit} (h:cw l≠0):dm l=[]:=by unfold dm;rw[if_neg h]

theorem xE (l:List Itm) (A:Option Addr) (cap:Nat) (w:World) (hl:l.length≤maxLen) (hA:A=none→cap=0) (hr:Items w A l) :
  Calls V 96 #[I A l.length cap] w fun e w'=>∃(L:List Itm) (C:Option Addr) (c:Nat),e= S (J #[I C L.length c,.int O (cw (l.map Itm.z))])∧L.map Itm.z=dm (l.map Itm.z)∧Items w' C L∧dx C L.length c∧Below w.heap.size w w'∧NwT w' c w.heap.size C L:=by
 have mixed:Tryz.prog.follows .mixedOrders=true:=by kernel_rfl
 unfold maxLen at hl
 have hrH:Hid (Items w A l∧(A=none→cap=0)):=⟨hr,hA⟩
 clear hr hA
 by_cases h4:400<l.length
 ·have e:Hid (cw (l.map Itm.z)=2):=by show _=_;unfold cw;rw[if_pos (by simpa using h4)]
  have e2:Hid (dm (l.map Itm.z)=[]):=mH (by rw[e.out];decide)
  have h4z:(400:Int)<(l.length:Int):=by omega
  go_enter Tryz.func96,Tryz.ntmps96
  go_wp2
  go_ret2
  exact ⟨[],none,0,by rw[e.out];rfl,by rw[e2.out];rfl,⟨oL rfl,fun x hx=>by cases hx⟩,fun _=>rfl,bR _ _,NwT.none _ _⟩
 ·have h4z:¬(400:Int)<(l.length:Int):=by omega
  go_enter Tryz.func96,Tryz.ntmps96
  go_wp2
  go_loopw [11] (fun i wr=>∃k:Nat,k≤l.length∧i= .int O k∧Hid (∀j (h:j<l.length),j<k→okR l[j].r=true∧okW l[j].n=true)∧Gr w wr) (fun i _=>l.length-(intOf i).toNat)
  case atStart=>exact ⟨0,by omega,rfl,fun j _ h=>by omega,gR _⟩
  case round =>
   rename World=>wr0
   obtain ⟨k,hk,rfl,hall,hgr⟩:=hrel
   by_cases hlt:k<l.length
   ·have hltz:(k:Int)<(l.length:Int):=by omega
    have hrR:Hid (Items wr0 A l):=hrH.out.1.gr hgr
    obtain ⟨b,off,rfl,hb,hcs⟩:=hrR.out.at hlt
    obtain ⟨x,hx⟩:∃x,l[k]=x:=⟨_,rfl⟩
    obtain ⟨e0,e1⟩:=hcs k hlt
    rw[hx] at e0 e1
    have hxH:Hid (l[k]=x):=hx
    have hxr:Hid (ay wr0 x.p x.r∧x.r.length≤maxLen):=⟨(hrR.out.each x (by rw[←hx];exact gM hlt)).1,(hrR.out.each x (by rw[←hx];exact gM hlt)).2.1⟩
    clear hcs hx
    have hgX:Gr wr0 (wr0.alloc (.cells #[I x.p x.r.length x.c,.int O x.n] 101)):=(gR _).alloc _
    have x0:(wr0.alloc (.cells #[I x.p x.r.length x.c,.int O x.n] 101)).cell? ⟨wr0.heap.size,0,none⟩=some (I x.p x.r.length x.c):=ab (gR _) rfl
    have x1:(wr0.alloc (.cells #[I x.p x.r.length x.c,.int O x.n] 101)).cell? ⟨wr0.heap.size,1,none⟩=some (.int O x.n):=ab (gR _) rfl
    have hrow:=oI x.r x.p x.c (wr0.alloc (.cells #[I x.p x.r.length x.c,.int O x.n] 101)) hxr.out.2 (hxr.out.1.gr hgX)
    have hrowH:Hid _:=hrow
    clear hrow
    go_wp2_with fail
    refine cM (show Calls _ _ _ _ _ from hrowH.out) ?_
    rintro e w2 ⟨rfl,hg2⟩
    clear hrowH x0 x1
    have hgw2:Gr w w2:=(hgr.trans hgX).trans hg2
    have x0:w2.cell? ⟨wr0.heap.size,0,none⟩=some (I x.p x.r.length x.c):=ab hg2 rfl
    have x1:w2.cell? ⟨wr0.heap.size,1,none⟩=some (.int O x.n):=ab hg2 rfl
    have hbadH:Hid ((okR x.r && okW x.n)=false→cw (l.map Itm.z)=5∧dm (l.map Itm.z)=[]):=fun h=>by
     have h5:=sS h4 hlt (by rw[hxH.out];exact h)
     exact ⟨h5,mH (by rw[h5];decide)⟩
    cases hrb:okR x.r
    ·have hfin:Hid (cw (l.map Itm.z)=5∧dm (l.map Itm.z)=[]):=hbadH.out (by simp[hrb])
     go_wp2
     go_ret2
     exact ⟨[],none,0,by rw[hfin.out.1];rfl,by rw[hfin.out.2];rfl,⟨oL rfl,fun x hx=>by cases hx⟩,fun _=>rfl,hgw2.below,NwT.none _ _⟩
    ·have hwt:=gF x.n w2
     cases hwb:okW x.n
     ·have hfin:Hid (cw (l.map Itm.z)=5∧dm (l.map Itm.z)=[]):=hbadH.out (by simp[hwb])
      rw[hwb] at hwt
      have hwtH:Hid _:=hwt
      clear hwt
      go_wp2_with (go_at_call 132;(refine cM (show Calls _ _ _ _ _ from hwtH.out) ?_);rintro e w' ⟨rfl,rfl⟩)
      go_ret2
      exact ⟨[],none,0,by rw[hfin.out.1];rfl,by rw[hfin.out.2];rfl,⟨oL rfl,fun x hx=>by cases hx⟩,fun _=>rfl,hgw2.below,NwT.none _ _⟩
     ·rw[hwb] at hwt
      have hwtH:Hid _:=hwt
      clear hwt
      have hoka:Hid (okR l[k].r=true∧okW l[k].n=true):=by show _∧_;rw[hxH.out];exact ⟨hrb,hwb⟩
      go_wp2_with (go_at_call 132;(refine cM (show Calls _ _ _ _ _ from hwtH.out) ?_);rintro e w' ⟨rfl,rfl⟩)
      go_roundw
      case rel =>
       refine ⟨k+1,hlt,by go_num,?_,hgw2⟩
       intro j hj hjk
       by_cases e:j=k
       ·subst e;exact hoka.out
       ·exact hall j hj (by omega)
      case measure=>simp[intOf];omega
   ·have hltz:¬(k:Int)<(l.length:Int):=by omega
    have hokA:Hid (∀j (h:j<l.length),okR l[j].r=true∧okW l[j].n=true):=fun j h=>hall j h (by omega)
    have hfin:Hid (cw (l.map Itm.z)=df (l.map Itm.z)∧dm (l.map Itm.z)=ns (l.map Itm.z)):=by
     have h1:=va h4 hokA.out
     refine ⟨h1,?_⟩
     unfold dm ns
     rw[h1]
    have htt:=nU l A cap wr0 hrH.out.2 (hrH.out.1.gr hgr) (by omega) (fun x hx=>by
     obtain ⟨j,hj,rfl⟩:=List.mem_iff_getElem.1 hx
     have:=hokA.out j hj
     refine ⟨this.2,?_⟩
     have h8:=this.1
     simp only[okR,Bool.and_eq_true,decide_eq_true_eq] at h8
     exact h8.1)
    have httH:Hid _:=htt
    clear hall htt
    go_wp2_with fail
    refine cM (show Calls _ _ _ _ _ from httH.out) ?_
    rintro e w3 ⟨L,C,c,rfl,h1,h2,h3,h4,h5⟩
    have hNw:Hid (NwT w3 c w.heap.size C L):=h5.mono hgr.size
    have hfin2:Hid (L.map Itm.z=dm (l.map Itm.z)∧Items w3 C L∧dx C L.length c∧Below w.heap.size w w3):=⟨by rw[h1,hfin.out.2],h2,h3,hgr.below.trans (h4.mono hgr.size)⟩
    clear h1 h2 h3 h4 h5 httH
    go_wp2
    go_ret2
    exact ⟨L,C,c,by rw[hfin.out.1];rfl,hfin2.out.1,hfin2.out.2.1,hfin2.out.2.2.1,hfin2.out.2.2.2,hNw.out⟩

theorem zZ {a b:List Zit} (h:ax a≠0):aW a b=ax a∧aU a b=[]:=by
 have e:aW a b=ax a:=by unfold aW;rw[if_neg h]
 exact ⟨e,by unfold aU;rw[e,if_neg h]⟩
theorem A3 {a b:List Zit} (ha:ax a=0) (h:ax b≠0):aW a b=ax b∧aU a b=[]:=by
 have e:aW a b=ax b:=by unfold aW;rw[if_pos ha,if_neg h]
 exact ⟨e,by unfold aU;rw[e,if_neg h]⟩
theorem A6 {a b:List Zit} (ha:ax a=0) (hb:ax b=0) (h:df (a++b)≠0):aW a b=df (a++b)∧aU a b=[]:=by
 have e:aW a b=df (a++b):=by unfold aW;rw[if_pos ha,if_pos hb,if_neg h]
 exact ⟨e,by unfold aU;rw[e,if_neg h]⟩
theorem A4 {a b:List Zit} (ha:ax a=0) (hb:ax b=0) (h:df (a++b)=0) (hl:400<(cW (a++b)).length):aW a b=2∧aU a b=[]:=by
 have e:aW a b=2:=by unfold aW;rw[if_pos ha,if_pos hb,if_pos h,if_pos hl]
 exact ⟨e,by unfold aU;rw[e,if_neg (by decide)]⟩
theorem A5 {a b:List Zit} (ha:ax a=0) (hb:ax b=0) (h:df (a++b)=0) (hl:¬ 400<(cW (a++b)).length):aW a b=0∧aU a b=cW (a++b):=by
 have e:aW a b=0:=by unfold aW;rw[if_pos ha,if_pos hb,if_pos h,if_neg hl]
 exact ⟨e,by unfold aU;rw[if_pos e]⟩
theorem fU {l:List Itm} (h:ax (l.map Itm.z)=0):l.length≤400∧∀x∈l,okW x.n=true∧x.r.length≤8:=by
 have h1:=(bI _).1 h
 refine ⟨by simpa using h1.1,fun x hx=> ?_⟩
 have h2:=bT (h1.2.1 x.z (List.mem_map.2 ⟨x,hx,rfl⟩))
 have h8:=h2.1
 simp only[okR,Bool.and_eq_true,decide_eq_true_eq] at h8
 exact ⟨h2.2.1,h8.1⟩

theorem tx (a b:List Itm) (A B:Option Addr) (ca cb:Nat) (w:World) (hal:a.length≤maxLen) (hbl:b.length≤maxLen) (hA:A=none→ca=0) (hB:B=none→cb=0) (hra:Items w A a) (hrb:Items w B b) :
  Calls V 98 #[I A a.length ca,I B b.length cb] w fun e w'=>∃(L:List Itm) (C:Option Addr) (c:Nat),e= S (J #[I C L.length c,.int O (aW (a.map Itm.z) (b.map Itm.z))])∧L.map Itm.z=aU (a.map Itm.z) (b.map Itm.z)∧Items w' C L∧dx C L.length c∧Below w.heap.size w w'∧NwT w' c w.heap.size C L:=by
 have hck:=gx a A ca w hal hra
 have hckH:Hid _:=hck
 have hrH:Hid (Items w A a∧Items w B b∧(A=none→ca=0)∧(B=none→cb=0)∧b.length≤maxLen):=⟨hra,hrb,hA,hB,hbl⟩
 clear hck hra hrb hA hB hal hbl
 go_enter Tryz.func98,Tryz.ntmps98
 go_wp2_with fail
 refine cM (show Calls _ _ _ _ _ from hckH.out) ?_
 rintro e w1 ⟨rfl,hg1⟩
 clear hckH
 obtain ⟨E,hE⟩:∃E,ax (a.map Itm.z)=E:=⟨_,rfl⟩
 have hEH:Hid (ax (a.map Itm.z)=E):=hE
 rw[hE]
 clear hE
 cases hq:(E != 0)
 ·have hE0:E=0:=by simpa using hq
  have h0H:Hid (ax (a.map Itm.z)=0):=by show _=_;rw[hEH.out,hE0]
  subst hE0
  clear hEH
  have hck:=gx b B cb w1 hrH.out.2.2.2.2 (hrH.out.2.1.gr hg1)
  have hckH:Hid _:=hck
  clear hck
  go_wp2_with fail
  refine cM (show Calls _ _ _ _ _ from hckH.out) ?_
  rintro e w2 ⟨rfl,hg2⟩
  clear hckH
  obtain ⟨F,hF⟩:∃E,ax (b.map Itm.z)=E:=⟨_,rfl⟩
  have hFH:Hid (ax (b.map Itm.z)=F):=hF
  rw[hF]
  clear hF
  cases hq2:(F != 0)
  ·have hF0:F=0:=by simpa using hq2
   have k0H:Hid (ax (b.map Itm.z)=0):=by show _=_;rw[hFH.out,hF0]
   subst hF0
   clear hFH
   have hgw:Gr w w2:=hg1.trans hg2
   have htt:=nV a b A B ca cb w2 hrH.out.2.2.1 hrH.out.2.2.2.1 (hrH.out.1.gr hgw) (hrH.out.2.1.gr hgw) (fU h0H.out).1 (fU k0H.out).1 (fU h0H.out).2 (fU k0H.out).2
   have httH:Hid _:=htt
   clear htt
   go_wp2_with fail
   refine cM (show Calls _ _ _ _ _ from httH.out) ?_
   rintro e w3 ⟨L,C,c,rfl,h1,h2,h3,h4,h5⟩
   have hNw:Hid (NwT w3 c w.heap.size C L):=h5.mono hgw.size
   have hfin2:Hid (L.map Itm.z=ns (a.map Itm.z++b.map Itm.z)∧Items w3 C L∧dx C L.length c∧Below w.heap.size w w3):=⟨h1,h2,h3,hgw.below.trans (h4.mono hgw.size)⟩
   clear h1 h2 h3 h4 h5 httH
   obtain ⟨G,hG⟩:∃G,df (a.map Itm.z++b.map Itm.z)=G:=⟨_,rfl⟩
   have hGH:Hid (df (a.map Itm.z++b.map Itm.z)=G):=hG
   rw[hG]
   clear hG
   cases hq3:(G != 0)
   ·have hG0:G=0:=by simpa using hq3
    have g0H:Hid (df (a.map Itm.z++b.map Itm.z)=0):=by show _=_;rw[hGH.out,hG0]
    subst hG0
    clear hGH
    have hLt:Hid (L.map Itm.z=cW (a.map Itm.z++b.map Itm.z)):=by show _=_;rw[hfin2.out.1,ud g0H.out]
    have hLl:Hid ((cW (a.map Itm.z++b.map Itm.z)).length=L.length):=by show _=_;rw[←hLt.out,List.length_map]
    by_cases h4:400<L.length
    ·have h4z:(400:Int)<(L.length:Int):=by omega
     have hfin:=A4 h0H.out k0H.out g0H.out (by rw[hLl.out];exact h4)
     have hfinH:Hid (aW (a.map Itm.z) (b.map Itm.z)=2∧aU (a.map Itm.z) (b.map Itm.z)=[]):=hfin
     clear hfin
     go_wp2
     go_ret2
     exact ⟨[],none,0,by rw[hfinH.out.1];rfl,by rw[hfinH.out.2];rfl,⟨oL rfl,fun x hx=>by cases hx⟩,fun _=>rfl,hfin2.out.2.2.2,NwT.none _ _⟩
    ·have h4z:¬(400:Int)<(L.length:Int):=by omega
     have hfin:=A5 h0H.out k0H.out g0H.out (by rw[hLl.out];exact h4)
     have hfinH:Hid (aW (a.map Itm.z) (b.map Itm.z)=0∧aU (a.map Itm.z) (b.map Itm.z)=cW (a.map Itm.z++b.map Itm.z)):=hfin
     clear hfin
     go_wp2
     go_ret2
     exact ⟨L,C,c,by rw[hfinH.out.1];rfl,by rw[hfinH.out.2];exact hLt.out,hfin2.out.2.1,hfin2.out.2.2.1,hfin2.out.2.2.2,hNw.out⟩
   ·have hG0:G≠0:=by simpa using hq3
    have hfinH:Hid (aW (a.map Itm.z) (b.map Itm.z)=G∧aU (a.map Itm.z) (b.map Itm.z)=[]):=by
     have:=A6 h0H.out k0H.out (by rw[hGH.out];exact hG0)
     rw[hGH.out] at this
     exact this
    clear hG0
    go_wp2
    go_ret2
    exact ⟨[],none,0,by rw[hfinH.out.1];rfl,by rw[hfinH.out.2];rfl,⟨oL rfl,fun x hx=>by cases hx⟩,fun _=>rfl,hfin2.out.2.2.2,NwT.none _ _⟩
  ·have hF0:F≠0:=by simpa using hq2
   have hfin:Hid (aW (a.map Itm.z) (b.map Itm.z)=F∧aU (a.map Itm.z) (b.map Itm.z)=[]):=by
    have:=A3 (b:=b.map Itm.z) h0H.out (by rw[hFH.out];exact hF0)
    rw[hFH.out] at this
    exact this
   have hbw:Hid (Below w.heap.size w w2):=(hg1.trans hg2).below
   clear hF0
   go_wp2
   go_ret2
   exact ⟨[],none,0,by rw[hfin.out.1];rfl,by rw[hfin.out.2];rfl,⟨oL rfl,fun x hx=>by cases hx⟩,fun _=>rfl,hbw.out,NwT.none _ _⟩
 ·have hE0:E≠0:=by simpa using hq
  have hfin:Hid (aW (a.map Itm.z) (b.map Itm.z)=E∧aU (a.map Itm.z) (b.map Itm.z)=[]):=by
   have:=zZ (b:=b.map Itm.z) (show ax (a.map Itm.z)≠0 by rw[hEH.out];exact hE0)
   rw[hEH.out] at this
   exact this
  have hbw:Hid (Below w.heap.size w w1):=hg1.below
  clear hE0
  go_wp2
  go_ret2
  exact ⟨[],none,0,by rw[hfin.out.1];rfl,by rw[hfin.out.2];rfl,⟨oL rfl,fun x hx=>by cases hx⟩,fun _=>rfl,hbw.out,NwT.none _ _⟩
theorem yD (a b:List Itm) (A B:Option Addr) (ca cb:Nat) (w:World) (hal:a.length≤maxLen) (hbl:b.length≤maxLen) (hA:A=none→ca=0) (hB:B=none→cb=0) (hra:Items w A a) (hrb:Items w B b) :
  Calls V 98 #[I A a.length ca,I B b.length cb] w fun e w'=>∃(L:List Itm) (C:Option Addr) (c:Nat),e= S (J #[I C L.length c,.int O (aW (a.map Itm.z) (b.map Itm.z))])∧L.map Itm.z=aU (a.map Itm.z) (b.map Itm.z)∧Items w' C L∧dx C L.length c∧Below w.heap.size w w':=by
 refine (tx a b A B ca cb w hal hbl hA hB hra hrb).mono ?_
 rintro e w' ⟨L,C,c,h1,h2,h3,h4,h5,_⟩
 exact ⟨L,C,c,h1,h2,h3,h4,h5⟩

section
open Go.Shelf Go.Lib

theorem mW {w:World} {b off:Nat} {l:List Int} (h:ay w (some ⟨b,off,none⟩) l):∀j,j<l.length→w.cell? ⟨b,off+j,none⟩=some (.int O (l.getD j 0)):=by
 intro j hj
 obtain ⟨b',off',hA,_,hc⟩:=h.at hj
 obtain ⟨rfl,rfl⟩:b=b'∧off=off':=by injection hA with hA;injection hA with h1 h2;exact ⟨h1,h2⟩
 have:=hc j hj 0 (by omega)
 have e:l.getD j 0=l[j]:=by simp[hj]
 rw[e]
 simpa[fp] using this
theorem kX (l m:List Int) (A B:Option Addr) (c d:Nat) (w:World) (hl:l.length≤9223372036854775807) (hm:m.length≤9223372036854775807) (hr:ay w A l) (hs:ay w B m) :
  Calls V 26 #[I A l.length c,I B m.length d] w fun e w'=>e= S (.bool (decide (l=m)))∧Gr w w':=by
 by_cases h0:l=[]
 ·subst h0
  have h:=Any.slices_Equal_int_empty Tryz.equalInt A B c m.length d w hm
  change Calls V 26 _ _ _ at h
  refine h.mono ?_
  rintro e w' ⟨rfl,rfl⟩
  refine ⟨?_,gR _⟩
  have:decide (m.length=0)=decide ([]=m):=by cases m<;>simp
  rw[this]
 ·by_cases h1:m=[]
  ·subst h1
   have hpos:0<l.length:=List.length_pos_iff.2 h0
   have hlz:((l.length:Int) != 0)=true:=by simp;omega
   have hd0:decide (l=[])=false:=by simp[h0]
   rw[hd0]
   clear hd0 h0
   go_enter Tryz.func26,Tryz.ntmps26
   go_wp2
   go_ret
   exact ⟨rfl,gR _⟩
  ·have hpos:0<l.length:=List.length_pos_iff.2 h0
   have hpos1:0<m.length:=List.length_pos_iff.2 h1
   obtain ⟨b,off,rfl,_,_⟩:=hr.at hpos
   obtain ⟨b',off',rfl,_,_⟩:=hs.at hpos1
   have h:=Any.slices_Equal_int Tryz.equalInt b off l.length c b' off' m.length d l m w (nR _) (nR _) hl hm (mW hr) (mW hs)
   change Calls V 26 _ _ _ at h
   refine h.mono ?_
   rintro e w' ⟨rfl,q,rfl⟩
   refine ⟨?_,⟨q,#[],by rw[grow_empty]⟩⟩
   simp only[List.take_length]
   by_cases hlm:l=m<;>simp[hlm]

end

def jV (x y:Itm):Bool:=decide (x.n=y.n) && decide (x.r=y.r)
theorem pi {x y:Itm}:jV x y=true↔x.z=y.z:=by
 unfold jV Itm.z
 simp only[Bool.and_eq_true,decide_eq_true_eq,Prod.mk.injEq]
 exact ⟨fun h=>⟨h.2,h.1⟩,fun h=>⟨h.2,h.1⟩⟩
theorem vx (x y:Itm) (w:World) (hxl:x.r.length≤maxLen) (hyl:y.r.length≤maxLen) (hx:ay w x.p x.r) (hy:ay w y.p y.r) :
  Calls V 49 #[.agg #[I x.p x.r.length x.c,.int O x.n],.agg #[I y.p y.r.length y.c,.int O y.n]] w fun e w'=>e= S (.bool (jV x y))∧Gr w w':=by
 have hlH:Hid (x.r.length≤9223372036854775807∧y.r.length≤9223372036854775807):=by show _∧_;unfold maxLen at hxl hyl;exact ⟨hxl,hyl⟩
 have hrH:Hid (ay w x.p x.r∧ay w y.p y.r):=⟨hx,hy⟩
 clear hxl hyl hx hy
 cases hq:(x.n==y.n)
 ·have hfin:Hid (jV x y=false):=by
   have:x.n≠y.n:=by simpa using hq
   simp[jV,this,Hid]
  go_enter Tryz.func49,Tryz.ntmps49
  go_wp2
  go_ret
  exact ⟨by rw[hfin.out];rfl,((gR _).alloc _).alloc _⟩
 ·have hfin:Hid (jV x y=decide (x.r=y.r)):=by
   have:x.n=y.n:=by simpa using hq
   simp[jV,this,Hid]
  go_enter Tryz.func49,Tryz.ntmps49
  go_wp2_with fail
  refine (kX x.r y.r x.p y.p x.c y.c _ hlH.out.1 hlH.out.2 (hrH.out.1.gr (((gR _).alloc _).alloc _)) (hrH.out.2.gr (((gR _).alloc _).alloc _))).mono ?_
  rintro e w' ⟨rfl,hg⟩
  have hgH:Hid (Gr w w'):=(((gR w).alloc _).alloc _).trans hg
  clear hg
  go_wp2
  go_ret
  exact ⟨by rw[hfin.out];rfl,hgH.out⟩
theorem se (a b:List Itm) (A B:Option Addr) (ca cb:Nat) (w:World) (hal:a.length≤maxLen) (ha:Items w A a) (hb:Items w B b) :
  Calls V 48 #[I A a.length ca,I B b.length cb,.func (.func 49) #[] #[]] w fun e w'=>e= S (.bool (decide (a.map Itm.z=b.map Itm.z)))∧Gr w w':=by
 unfold maxLen at hal
 have haH:Hid (Items w A a∧Items w B b):=⟨ha,hb⟩
 clear ha hb
 by_cases hlen:a.length=b.length
 ·have hlz:((a.length:Int) != (b.length:Int))=false:=by simp[hlen]
  have hlenH:Hid (a.length=b.length):=hlen
  clear hlen
  go_enter Tryz.func48,Tryz.ntmps48
  go_wp2
  go_loopw [17] (fun i wr=>∃k:Nat,k≤a.length∧i= .int O k∧Hid (∀j (h1:j<a.length) (h2:j<b.length),j<k→jV a[j] b[j]=true)∧Gr w wr) (fun i _=>a.length-(intOf i).toNat)
  case atStart=>exact ⟨0,nZ _,rfl,fun j _ _ hj=>absurd hj (Nat.not_lt_zero _),gR _⟩
  case round =>
   obtain ⟨k,hk,rfl,hno,hgr⟩:=hrel
   by_cases hlt:k<a.length
   ·have hltz:(k:Int)<(a.length:Int):=by omega
    have hlt2:k<b.length:=by rw[←hlenH.out];exact hlt
    have hltz2:(k:Int)<(b.length:Int):=by omega
    have hI:Hid (Items wr A a∧Items wr B b):=⟨haH.out.1.gr hgr,haH.out.2.gr hgr⟩
    obtain ⟨bb,off,rfl,hb,hcs⟩:=hI.out.1.at hlt
    obtain ⟨bc,of2,rfl,hb2,hcs2⟩:=hI.out.2.at hlt2
    obtain ⟨x,hx⟩:∃x,a[k]=x:=⟨_,rfl⟩
    obtain ⟨y,hy⟩:∃y,b[k]=y:=⟨_,rfl⟩
    obtain ⟨e0,e1⟩:=hcs k hlt
    obtain ⟨f0,f1⟩:=hcs2 k hlt2
    rw[hx] at e0 e1
    rw[hy] at f0 f1
    have hxH:Hid (a[k]=x∧b[k]=y):=⟨hx,hy⟩
    have hxr:Hid (ay wr x.p x.r∧x.r.length≤maxLen):=⟨(hI.out.1.each x (by rw[←hx];exact gM hlt)).1,(hI.out.1.each x (by rw[←hx];exact gM hlt)).2.1⟩
    have hyr:Hid (ay wr y.p y.r∧y.r.length≤maxLen):=⟨(hI.out.2.each y (by rw[←hy];exact gM hlt2)).1,(hI.out.2.each y (by rw[←hy];exact gM hlt2)).2.1⟩
    clear hcs hcs2 hx hy
    go_wp2_with fail
    have hg0:Hid (Gr wr ((wr.alloc (.cells #[I x.p x.r.length x.c,.int O x.n] 101)).alloc (.cells #[I y.p y.r.length y.c,.int O y.n] 101))):=((gR _).alloc _).alloc _
    refine (vx x y _ hxr.out.2 hyr.out.2 (hxr.out.1.gr hg0.out) (hyr.out.1.gr hg0.out)).mono ?_
    rintro e w2 ⟨rfl,hg2⟩
    have hgw:Hid (Gr w w2):=(hgr.trans hg0.out).trans hg2
    clear hg0 hg2
    cases hq:jV x y
    ·have hfin:Hid (decide (a.map Itm.z=b.map Itm.z)=false):=by
      refine decide_eq_false fun h=> ?_
      have h2:(a.map Itm.z)[k]? = (b.map Itm.z)[k]? := by rw[h]
      rw[List.getElem?_map,List.getElem?_map,List.getElem?_eq_getElem hlt,List.getElem?_eq_getElem hlt2,hxH.out.1,hxH.out.2] at h2
      have h3:x.z=y.z:=by simpa using h2
      rw[pi.2 h3] at hq;cases hq
     go_wp2
     go_ret
     exact ⟨by rw[hfin.out];rfl,hgw.out⟩
    ·go_wp2
     go_roundw
     case rel =>
      refine ⟨k+1,by omega,by go_num,?_,hgw.out⟩
      intro j hj hj2 hjk
      by_cases e:j=k
      ·subst e;rw[hxH.out.1,hxH.out.2];exact hq
      ·exact hno j hj hj2 (by omega)
     case measure=>simp[intOf];omega
   ·have hltz:¬(k:Int)<(a.length:Int):=by omega
    have hfin:Hid (decide (a.map Itm.z=b.map Itm.z)=true):=by
     refine decide_eq_true ?_
     refine List.ext_getElem (by simpa using hlenH.out) fun j h1 h2=> ?_
     have h1':j<a.length:=by simpa using h1
     have h2':j<b.length:=by simpa using h2
     rw[List.getElem_map,List.getElem_map]
     exact pi.1 (hno j h1' h2' (by omega))
    go_wp2
    go_ret
    exact ⟨by rw[hfin.out];rfl,hgr⟩
 ·have hlz:((a.length:Int) != (b.length:Int))=true:=by simp;omega
  have hfin:Hid (decide (a.map Itm.z=b.map Itm.z)=false):=by
   refine decide_eq_false fun h=>hlen ?_
   have:=congrArg List.length h
   simpa using this
  clear hlen
  go_enter Tryz.func48,Tryz.ntmps48
  go_wp2
  go_ret
  exact ⟨by rw[hfin.out];rfl,gR _⟩
theorem kJ (a b:List Itm) (A B:Option Addr) (ca cb:Nat) (w:World) (hal:a.length≤maxLen) (ha:Items w A a) (hb:Items w B b) :
  Calls V 25 #[I A a.length ca,I B b.length cb] w fun e w'=>e= S (.bool (decide (a.map Itm.z=b.map Itm.z)))∧Gr w w':=by
 have hH:Hid _:=se a b A B ca cb w hal ha hb
 obtain ⟨r,hr⟩:∃r,decide (a.map Itm.z=b.map Itm.z)=r:=⟨_,rfl⟩
 rw[hr] at hH ⊢
 clear hr hal ha hb
 go_enter Tryz.func25,Tryz.ntmps25
 go_wp2_with fail
 refine cM (show Calls _ _ _ _ _ from hH.out) ?_
 rintro e w' ⟨rfl,hg⟩
 go_wp2
 go_ret
 exact ⟨rfl,hg⟩

section
open Go.ChangeShapes Go.WideShapes Go.ChangeAt Go.Deep

theorem vg:ownKnob Tryz.prog.godebug=none:=by kernel_rfl
theorem laidAll:laidOutB V=true:=by kernel_rfl

variable {H:Type} {enc:TypeId×Value→H} {W:World}

end
section
open Go.ChangeShapes Go.WideShapes Go.ChangeAt Go.Deep

variable {H:Type} {enc:TypeId×Value→H} {W:World}

theorem xK {fuel:Nat} {cs:List Value} {x:DataW H×List MemPlace} (h:DataW.trod enc V W 0 (fun _=>true) true fuel 23 cs=some x) :
  ∃A cap l,cs=[I A (l:List Int).length cap]∧(A=none→cap=0)∧ay W A l∧l.length≤maxLen:=by
 rcases open_slice Tryz.underlying23 h with ⟨hcs,_⟩|⟨a,len,cap,m,n,D,Pl,hcs,_,hl,hm,hmm,hx,hi⟩
 ·exact ⟨none,0,[],hcs,fun _=>rfl,oL rfl,by simp⟩
 ·have c1:Tryz.prog.cellsOf 3=1:=by kernel_rfl
  have hlm:len≤m:=by rw[hmm];simp;exact hl
  obtain ⟨Z,hZ⟩:=choose_lt (α := Int) (n:=len) (p:=fun i z=>W.cell? (a.add i)=some (.int O z)) (fun i hi'=>by
   obtain ⟨cs',h1,h2⟩:=hi i (by omega)
   rw[c1] at h1
   obtain ⟨_,hlen,hcell⟩:=World.cells?_some h1
   obtain ⟨z,e,_⟩:=DataW.trod_int Tryz.underlying3 h2
   refine ⟨z,?_⟩
   have:=hcell 0 (by omega)
   rw[add_add] at this
   simp only[Nat.mul_one,Nat.add_zero] at this
   rw[this]
   simp[e])
  refine ⟨some a,cap,(List.range len).map Z,by rw[hcs];simp,(fun h=>by cases h),?_,by simp;omega⟩
  by_cases h0:len=0
  ·exact oL (by rw[h0];rfl)
  ·have hc0:=hZ 0 (by omega)
   obtain ⟨b,off,spot⟩:=a
   have hspot:spot=none:=by simpa[Addr.add] using World.cell?_spot hc0
   subst hspot
   refine oR ⟨b,off,rfl,?_,fun j hj i hi1=> ?_⟩
   ·have:=World.block_lt_of_cell? W _ hc0
    simpa[Addr.add_lit] using this
   ·have hj':j<len:=by simpa using hj
    have:=hZ j hj'
    obtain rfl:i=0:=by omega
    simp only[Addr.add_lit] at this
    simpa[fp] using this

end
end Go.Proofs.YtkefkplnamkicaaGreatDoor
