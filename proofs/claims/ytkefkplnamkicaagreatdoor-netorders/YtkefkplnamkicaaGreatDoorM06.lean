/-
  zset.Check: it says what is wrong with a set.
  zset.copyRow: the same numbers, in memory of their own.
  zset.Neg: each weight's opposite.
  The set of a list, row by row put in; what Norm and Add tell.
  zset.total: the set in which each row is as often as in all lists together.
  Sets with weights are a group.
-/
import Derived.Test.YtkefkplnamkicaaGreatDoorM05
import Derived.Deep.Cut
set_option maxRecDepth 100000
set_option maxHeartbeats 8000000
open Go.Ending renaming returned → H
open Go.IntKind renaming i64 → O
open Go.Obj renaming cells → V
open Go.Proofs.Tryz renaming prog → Z
open Go.Value renaming slice → I, int → J, tuple → Y
namespace Go.Proofs.YtkefkplnamkicaaGreatDoor
open Go.RowKit Go.Sort

theorem zj {l:List Itm} {k:Nat} (h:k<l.length):(l.map Itm.z).getD k ([],0)=l[k].z:=by
 rw[List.getD_eq_getElem?_getD,List.getElem?_map,List.getElem?_eq_getElem h];rfl
def okI (l:List Itm) (k:Nat):Bool:=okZ ((l.map Itm.z).getD k ([],0)) && jN (l.map Itm.z) k
theorem rm {l:List Itm} {x:Itm} (h:0<l.length) (hx:l[0]=x):okI l 0=okZ x.z:=by
 unfold okI jN
 rw[zj h,hx];simp
theorem mM {l:List Itm} {m:Nat} {x y:Itm} (h:m+1<l.length) (hx:l[m+1]=x) (hy:l[m]=y):okI l (m+1)=(okZ x.z && decide (aF y.r x.r<0)):=by
 unfold okI jN
 rw[zj h,Nat.add_sub_cancel,zj (show m<l.length by omega),hx,hy]
 simp[Itm.z]
 rfl
theorem ot {l:List Itm} {k:Nat} (h4:¬ 400<l.length) (hk:k<l.length) (h:okI l k=false):ax (l.map Itm.z)=5:=by
 unfold ax
 rw[if_neg (by simpa using h4),if_pos ⟨k,by simpa using hk,h⟩]
theorem zc {l:List Itm} (h4:¬ 400<l.length) (h:∀k,k<l.length→okI l k=true):ax (l.map Itm.z)=0:=by
 unfold ax
 rw[if_neg (by simpa using h4),if_neg]
 rintro ⟨k,hk,hf⟩
 have:=h k (by simpa using hk)
 unfold okI at this
 rw[hf] at this;cases this
theorem rq {a b:List Int} {A B:Option Addr} {ca cb:Nat} {r:Int} (h:aF a b=r) (w:World) (hal:a.length≤maxLen) (hra:ay w A a) (hrb:ay w B b) :
  Calls Z 133 #[I A a.length ca,I B b.length cb] w fun e w'=>e= H (J O r)∧∃q os',w'=grow (w.drewN q) os':=by
 rw[←h];exact fi a b A B ca cb w hal hra hrb

theorem gx (l:List Itm) (A:Option Addr) (cap:Nat) (w:World) (hl:l.length≤maxLen) (hr:Items w A l) :
  Calls Z 95 #[I A l.length cap] w fun e w'=>e= H (J O (ax (l.map Itm.z)))∧Gr w w':=by
 have mixed:Tryz.prog.follows .mixedOrders=true:=by kernel_rfl
 unfold maxLen at hl
 have hrH:Hid (Items w A l):=hr
 clear hr
 by_cases h4:400<l.length
 ·have e:ax (l.map Itm.z)=2:=by unfold ax;rw[if_pos (by simpa using h4)]
  rw[e];clear e
  have h4z:(400:Int)<(l.length:Int):=by omega
  go_enter Tryz.func95,Tryz.ntmps95
  go_wp2
  go_ret
  exact ⟨rfl,gR _⟩
 ·have h4z:¬(400:Int)<(l.length:Int):=by omega
  go_enter Tryz.func95,Tryz.ntmps95
  go_wp2
  go_loopw [10] (fun i wr=>∃k:Nat,k≤l.length∧i= J O k∧Hid (∀j,j<k→okI l j=true)∧Gr w wr) (fun i _=>l.length-(intOf i).toNat)
  case atStart=>exact ⟨0,by omega,rfl,fun j h=>by omega,gR _⟩
  case round =>
   rename World=>wr0
   obtain ⟨k,hk,rfl,hall,hgr⟩:=hrel
   by_cases hlt:k<l.length
   ·have hltz:(k:Int)<(l.length:Int):=by omega
    have hrR:Hid (Items wr0 A l):=hrH.out.gr hgr
    obtain ⟨b,off,rfl,hb,hcs⟩:=hrR.out.at hlt
    obtain ⟨x,hx⟩:∃x,l[k]=x:=⟨_,rfl⟩
    obtain ⟨e0,e1⟩:=hcs k hlt
    rw[hx] at e0 e1
    have hcsH:Hid (∀j (h:j<l.length),_):=hcs
    have hxH:Hid (l[k]=x):=hx
    have hxr:Hid (ay wr0 x.p x.r∧x.r.length≤maxLen):=⟨(hrR.out.each x (by rw[←hx];exact gM hlt)).1,(hrR.out.each x (by rw[←hx];exact gM hlt)).2.1⟩
    clear hcs hx
    have hgX:Gr wr0 (wr0.alloc (V #[I x.p x.r.length x.c,J O x.n] 101)):=(gR _).alloc _
    have x0:(wr0.alloc (V #[I x.p x.r.length x.c,J O x.n] 101)).cell? ⟨wr0.heap.size,0,none⟩=some (I x.p x.r.length x.c):=ab (gR _) rfl
    have x1:(wr0.alloc (V #[I x.p x.r.length x.c,J O x.n] 101)).cell? ⟨wr0.heap.size,1,none⟩=some (J O x.n):=ab (gR _) rfl
    have hrow:=oI x.r x.p x.c (wr0.alloc (V #[I x.p x.r.length x.c,J O x.n] 101)) hxr.out.2 (hxr.out.1.gr hgX)
    have hrowH:Hid _:=hrow
    clear hrow
    go_wp2_with fail
    refine cM (show Calls _ _ _ _ _ from hrowH.out) ?_
    rintro e w2 ⟨rfl,hg2⟩
    clear hrowH x0 x1
    have hgw2:Gr w w2:=(hgr.trans hgX).trans hg2
    have x0:w2.cell? ⟨wr0.heap.size,0,none⟩=some (I x.p x.r.length x.c):=ab hg2 rfl
    have x1:w2.cell? ⟨wr0.heap.size,1,none⟩=some (J O x.n):=ab hg2 rfl
    have hbadH:Hid (okZ x.z=false→ax (l.map Itm.z)=5):=fun h=>by
     refine ot h4 hlt ?_
     cases k with
     | zero=>rw[rm hlt hxH.out,h]
     | succ m=>rw[mM hlt hxH.out rfl,h];rfl
    cases hrb:okR x.r
    ·have hfin:Hid (ax (l.map Itm.z)=5):=hbadH.out (by simp[okZ,Itm.z,hrb])
     go_wp2
     go_ret
     exact ⟨by rw[hfin.out];rfl,hgw2⟩
    ·have hwt:=gF x.n w2
     cases hwb:okW x.n
     ·have hfin:Hid (ax (l.map Itm.z)=5):=hbadH.out (by simp[okZ,Itm.z,hwb])
      rw[hwb] at hwt
      have hwtH:Hid _:=hwt
      clear hwt
      go_wp2_with (go_at_call 132;(refine cM (show Calls _ _ _ _ _ from hwtH.out) ?_);rintro e w' ⟨rfl,rfl⟩)
      go_ret
      exact ⟨by rw[hfin.out];rfl,hgw2⟩
     ·rw[hwb] at hwt
      have hwtH:Hid _:=hwt
      clear hwt
      cases hn0:(x.n==0)
      ·have hokH:Hid (okZ x.z=true):=by
        have:x.n≠0:=by simpa using hn0
        simp[okZ,Itm.z,hrb,hwb,this,Hid]
       cases k with
       | zero =>
        have hoka:Hid (okI l 0=true):=by show okI l 0=true;rw[rm hlt hxH.out];exact hokH.out
        go_wp2_with (first|(go_at_call 132;(refine cM (show Calls _ _ _ _ _ from hwtH.out) ?_);rintro e w' ⟨rfl,rfl⟩)|fail)
        refine wp_region_quiet_grown mixed (by kernel_rfl) ?_
        repeat (go_big_quiet_step (fail))
        refine wpQuiet_nil ?_
        rintro _ ⟨⟨nq2,osq2⟩,rfl⟩
        go_wp2
        go_roundw
        case rel =>
         refine ⟨_,hlt,by go_num,?_,hgw2.trans ⟨nq2,osq2,rfl⟩⟩
         intro j hj
         by_cases e:j=0
         ·rw[e];exact hoka.out
         ·exact hall j (by omega)
        case measure=>simp[intOf];omega
       | succ m =>
        obtain ⟨y,hy⟩:∃y,l[m]=y:=⟨_,rfl⟩
        obtain ⟨f0,f1⟩:=hcsH.out m (by omega)
        rw[hy] at f0 f1
        have hyH:Hid (l[m]=y):=hy
        have hyr:Hid (ay wr0 y.p y.r∧y.r.length≤maxLen):=⟨(hrR.out.each y (by rw[←hy];exact gM (by omega))).1,(hrR.out.each y (by rw[←hy];exact gM (by omega))).2.1⟩
        clear hy
        have hg02:Gr wr0 w2:=hgX.trans hg2
        have q0:=hg02.cellG (a:=⟨b,off+m*2,none⟩) hb f0
        have xlt:wr0.heap.size<w2.heap.size:=World.block_lt_of_cell? w2 ⟨wr0.heap.size,0,none⟩ x0
        have p0:=(gR w2).cellG (a:=⟨wr0.heap.size,0,none⟩) xlt x0
        have hRY:Hid (∀n os,ay (grow (w2.drewN n) os) y.p y.r):=fun n os=>hyr.out.1.gr (hg02.trans ⟨n,os,rfl⟩)
        have hRX:Hid (∀n os,ay (grow (w2.drewN n) os) x.p x.r):=fun n os=>hxr.out.1.gr (hg02.trans ⟨n,os,rfl⟩)
        clear f0 f1
        obtain ⟨r,hrr⟩:∃r,aF y.r x.r=r:=⟨_,rfl⟩
        have hrrH:Hid (aF y.r x.r=r):=hrr
        clear hrr
        by_cases hbe:r<0
        ·have hbz:¬(0:Int)≤r:=by omega
         have hoka:Hid (okI l (m+1)=true):=by
          show okI l (m+1)=true
          rw[mM hlt hxH.out hyH.out,hokH.out,hrrH.out];simp[hbe]
         go_wp2_with (first|(go_at_call 132;(refine cM (show Calls _ _ _ _ _ from hwtH.out) ?_);rintro e w' ⟨rfl,rfl⟩)|fail)
         refine wp_region_quiet_grown mixed (by kernel_rfl) ?_
         repeat (go_big_quiet_step ((go_at_call 133;refine Calls.grown_of (rq hrrH.out _ hyr.out.2 (hRY.out _ _) (hRX.out _ _)))))
         refine wpQuiet_nil ?_
         rintro _ ⟨⟨nq2,osq2⟩,rfl⟩
         go_wp2
         go_roundw
         case rel =>
          refine ⟨_,hlt,by go_num,?_,hgw2.trans ⟨nq2,osq2,rfl⟩⟩
          intro j hj
          by_cases e:j=m+1
          ·rw[e];exact hoka.out
          ·exact hall j (by omega)
         case measure=>simp[intOf];omega
        ·have hbz:(0:Int)≤r:=by omega
         have hfin:Hid (ax (l.map Itm.z)=5):=ot h4 hlt (by rw[mM hlt hxH.out hyH.out,hrrH.out];simp[hbe])
         go_wp2_with (first|(go_at_call 132;(refine cM (show Calls _ _ _ _ _ from hwtH.out) ?_);rintro e w' ⟨rfl,rfl⟩)|fail)
         refine wp_region_quiet_grown mixed (by kernel_rfl) ?_
         repeat (go_big_quiet_step ((go_at_call 133;refine Calls.grown_of (rq hrrH.out _ hyr.out.2 (hRY.out _ _) (hRX.out _ _)))))
         refine wpQuiet_nil ?_
         rintro _ ⟨⟨nq2,osq2⟩,rfl⟩
         go_wp2
         go_ret
         exact ⟨by rw[hfin.out];rfl,hgw2.trans ⟨nq2,osq2,rfl⟩⟩
      ·have hfin:Hid (ax (l.map Itm.z)=5):=hbadH.out (by have:x.n=0:=(by simpa using hn0);simp[okZ,Itm.z,this])
       go_wp2_with (go_at_call 132;(refine cM (show Calls _ _ _ _ _ from hwtH.out) ?_);rintro e w' ⟨rfl,rfl⟩)
       go_ret
       exact ⟨by rw[hfin.out];rfl,hgw2⟩
   ·have hltz:¬(k:Int)<(l.length:Int):=by omega
    have hfin:Hid (ax (l.map Itm.z)=0):=zc h4 fun j hj=>hall j (by omega)
    go_wp2
    go_ret
    exact ⟨by rw[hfin.out];rfl,hgr⟩


theorem kV (l:List Int) (A:Option Addr) (cap:Nat) (w:World) (hl:l.length*8≤140737488355328) (hA:A=none→cap=0) (hr:ay w A l) :
  Calls Z 186 #[I A l.length cap] w fun e w'=>∃C c,e= H (I C l.length c)∧ay w' C l∧(C=none→c=0)∧(∀a,C=some a→w.heap.size≤a.block∧a.block<w'.heap.size)∧Below w.heap.size w w'∧(eY w' C c∧l.length≤c):=by
 have hlm:Hid (0+l.length≤maxLen∧(0+l.length)*8≤140737488355328):=by show _∧_;unfold maxLen;omega
 have hrH:Hid (ay w A l∧(A=none→cap=0)):=⟨hr,hA⟩
 clear hr hA
 go_enter Tryz.func186,Tryz.ntmps186
 go_wp2_with (at_builtin;refine bg _ rfl _ _ rfl w.heap.size (I none 0 0) [] l A cap rfl rfl (af.nil _ _ _ _ _) hrH.out.1 hrH.out.2 hlm.out.1 hlm.out.2 (nR _) ?_)
 intro v1 w3 hown1 hgr1
 have hb3:Hid (Below w.heap.size w w3):=dK hgr1
 obtain ⟨C,c,rfl,hC,hrow,hlc,hlt0,_⟩:=af.full bZ hown1
 have hlt:∀a,C=some a→w.heap.size≤a.block∧a.block<w3.heap.size:=fun a ha=>⟨(hlt0 a ha).1,(hlt0 a ha).2.1⟩
 have hroom:Hid (eY w3 C c∧l.length≤c):=⟨hown1.roomI,by simpa using hlc⟩
 have hfin:Hid (ay w3 C l∧(C=none→c=0)∧(∀a,C=some a→w.heap.size≤a.block∧a.block<w3.heap.size)):=⟨by simpa using hrow,hC,hlt⟩
 clear hown1 hgr1 hC hrow hlt hlt0 hlc
 go_wp2
 go_ret
 exact ⟨C,c,by simp,hfin.out.1,hfin.out.2.1,hfin.out.2.2,hb3.out,hroom.out⟩


theorem mi {l:List Zit} (h:ax l=0):l.length≤400∧∀k,k<l.length→okZ (l.getD k ([],0))=true∧jN l k=true:=by
 unfold ax at h
 by_cases h4:400<l.length
 ·rw[if_pos h4] at h;cases h
 ·rw[if_neg h4] at h
  refine ⟨by omega,fun k hk=> ?_⟩
  by_cases h5:∃k,k<l.length∧(okZ (l.getD k ([],0)) && jN l k)=false
  ·rw[if_pos h5] at h;cases h
  ·have:(okZ (l.getD k ([],0)) && jN l k)=true:=by
    cases e:(okZ (l.getD k ([],0)) && jN l k)
    ·exact absurd ⟨k,hk,e⟩ h5
    ·rfl
   simpa using this
theorem uE {l:List Itm} (h:ax (l.map Itm.z)=0) {k:Nat} (hk:k<l.length):l[k].r.length≤8∧okW l[k].n=true∧l[k].n≠0:=by
 have:=((mi h).2 k (by simpa using hk)).1
 rw[zj hk] at this
 unfold okZ okR Itm.z at this
 simp at this
 exact ⟨this.1.1.1,this.1.2,this.2⟩
def i7 (l:List Zit):List Zit:=if ax l=0 then l.map (fun x=>(x.1,-x.2)) else []

theorem da {W:World} {n:Nat} (hn:W.heap.size=n) (x:Itm) (T:TypeId):au aQ 2 (W.alloc (V #[I x.p x.r.length x.c,J O x.n] T)) (some ⟨n,0,none⟩) [x]:=by
 subst hn
 refine oR ⟨W.heap.size,0,rfl,by simp,fun j hj i hi=> ?_⟩
 obtain rfl:j=0:=by simp at hj;omega
 have hi':i=0∨i=1:=by omega
 rcases hi' with rfl|rfl
 ·exact ab (w:=W) (gR _) (j:=0) rfl
 ·exact ab (w:=W) (gR _) (j:=1) rfl

theorem eZ.snoc {w w':World} {L:List Itm} {x:Itm} (h:eZ w L) (q:Below w.heap.size w w') (hx:eY w' x.p x.c∧x.r.length≤x.c):eZ w' (L++[x]):=fun z hz=>by
 rcases List.mem_append.1 hz with hz|hz
 ·exact (h.below q) z hz
 ·rw[List.mem_singleton.1 hz];exact hx
theorem zw (l:List Itm) (A:Option Addr) (cap:Nat) (w:World) (hl:l.length≤maxLen) (hr:Items w A l) :
  Calls Z 137 #[I A l.length cap] w fun e w'=>∃(L:List Itm) (C:Option Addr) (c:Nat),e= H (Y #[I C L.length c,J O (ax (l.map Itm.z))])∧L.map Itm.z=i7 (l.map Itm.z)∧Items w' C L∧dx C L.length c∧Below w.heap.size w w'∧NwT w' c w.heap.size C L:=by
 have hck:=gx l A cap w hl hr
 unfold maxLen at hl
 have hrH:Hid (Items w A l):=hr
 have hckH:Hid _:=hck
 clear hck hr
 go_enter Tryz.func137,Tryz.ntmps137
 go_wp2_with fail
 refine cM (show Calls _ _ _ _ _ from hckH.out) ?_
 rintro e w1 ⟨rfl,hg1⟩
 clear hckH
 obtain ⟨E,hE⟩:∃E,ax (l.map Itm.z)=E:=⟨_,rfl⟩
 have hEH:Hid (ax (l.map Itm.z)=E):=hE
 rw[hE]
 clear hE
 cases hq:(E != 0)
 ·have hE0:E=0:=by simpa using hq
  have h0H:Hid (ax (l.map Itm.z)=0):=by show _=_;rw[hEH.out,hE0]
  subst hE0
  go_wp2
  go_loopw [5,15] (fun v i wr=>∃(k:Nat) (L:List Itm),k≤l.length∧i= J O k∧Hid (L.length=k)∧Hid (L.map Itm.z=(l.take k).map (fun x=>(x.r,-x.n)))∧OwnT wr w1.heap.size v L∧Below w1.heap.size w1 wr∧Hid (eZ wr L)) (fun _ i _=>l.length-(intOf i).toNat)
  case atStart=>exact ⟨0,[],by omega,rfl,rfl,by simp[Hid],OwnT.nil _ _,bR _ _,fun x hx=>by cases hx⟩
  case round =>
   obtain ⟨k,L,hk,rfl,hLk,hLz,hov,hbel,hrm⟩:=hrel
   have hovH:Hid (OwnT wr w1.heap.size u5 L∧Below w1.heap.size w1 wr):=⟨hov,hbel⟩
   by_cases hlt:k<l.length
   ·have hltz:(k:Int)<(l.length:Int):=by omega
    have hI:Hid (Items wr A l):=(hrH.out.gr hg1).below hbel
    obtain ⟨bb,off,rfl,hb,hcs⟩:=hI.out.at hlt
    obtain ⟨x,hx⟩:∃x,l[k]=x:=⟨_,rfl⟩
    obtain ⟨e0,e1⟩:=hcs k hlt
    rw[hx] at e0 e1
    have hxE:=hI.out.each x (by rw[←hx];exact gM hlt)
    have hxI:=uE h0H.out hlt
    rw[hx] at hxI
    have hxr:Hid (ay wr x.p x.r∧(x.p=none→x.c=0)∧x.r.length≤8∧okW x.n=true):=⟨hxE.1,hxE.2.2,hxI.1,hxI.2.1⟩
    have hst:Hid ((l.take (k+1)).map (fun x=>(x.r,-x.n))=(l.take k).map (fun x=>(x.r,-x.n))++[(x.r,-x.n)]):=by show _=_;rw[List.take_succ_eq_append_getElem hlt,hx];simp
    have hwr:IntKind.i64.wrap (-x.n)= -x.n:=by
     have h:=hxI.2.1
     simp only[okW,inB,Bool.and_eq_true,decide_eq_true_eq] at h
     rw[IntKind.wrap_i64];omega
    have hl4:Hid (l.length≤400):=by show _≤_;have:=(mi h0H.out).1;simpa using this
    clear hcs hx hxE hxI hov hbel
    have hgX:Hid (Gr wr (wr.alloc (V #[I x.p x.r.length x.c,J O x.n] 101))):=(gR _).alloc _
    have x0:(wr.alloc (V #[I x.p x.r.length x.c,J O x.n] 101)).cell? ⟨wr.heap.size,0,none⟩=some (I x.p x.r.length x.c):=ab (gR _) rfl
    have x1:(wr.alloc (V #[I x.p x.r.length x.c,J O x.n] 101)).cell? ⟨wr.heap.size,1,none⟩=some (J O x.n):=ab (gR _) rfl
    have hcp0:=kV x.r x.p x.c (wr.alloc (V #[I x.p x.r.length x.c,J O x.n] 101)).drew (by have:=hxr.out.2.2.1;omega) hxr.out.2.1 ((hxr.out.1.gr hgX.out).gr (gR _).drew)
    have hcp:Hid _:=hcp0
    clear hcp0
    go_upto_region 8 with fail
    have hKeep:Hid (∀w':World,Below (wr.alloc (V #[I x.p x.r.length x.c,J O x.n] 101)).heap.size (wr.alloc (V #[I x.p x.r.length x.c,J O x.n] 101)) w'→(fun w'=>w'.cell? ⟨wr.heap.size,0,none⟩=some (I x.p x.r.length x.c)∧w'.cell? ⟨wr.heap.size,1,none⟩=some (J O x.n)) w'):=fun w' hb=>⟨(hb.cell (p:=⟨wr.heap.size,0,none⟩) (by simp)).trans x0,(hb.cell (p:=⟨wr.heap.size,1,none⟩) (by simp)).trans x1⟩
    have hbd:Below (wr.alloc (V #[I x.p x.r.length x.c,J O x.n] 101)).heap.size (wr.alloc (V #[I x.p x.r.length x.c,J O x.n] 101)) (wr.alloc (V #[I x.p x.r.length x.c,J O x.n] 101)).drew:=(bR _ _).drew
    have hszX:Hid (w1.heap.size≤wr.heap.size∧(wr.alloc (V #[I x.p x.r.length x.c,J O x.n] 101)).heap.size=wr.heap.size+1):=⟨hovH.out.2.size,by simp⟩
    have hsd:(wr.alloc (V #[I x.p x.r.length x.c,J O x.n] 101)).drew.heap.size=wr.heap.size+1:=by simp[World.drew]
    have hob:Hid (∀j,u5.ownBlock=some j→j<wr.heap.size):=fun j hj=>(World.ownsRow.lt hovH.out.1.own j hj).2
    have hmkX:Hid (∀(y1:World) (C:Option Addr) (c:Nat),Below (wr.alloc (V #[I x.p x.r.length x.c,J O x.n] 101)).heap.size (wr.alloc (V #[I x.p x.r.length x.c,J O x.n] 101)) y1→(ay y1 C x.r∧(C=none→c=0)∧(∀a,C=some a→wr.heap.size+1≤a.block∧a.block<y1.heap.size))→OwnT (y1.alloc (V #[I C x.r.length c,J O (-x.n)] 101)) w1.heap.size u5 L∧Apart (y1.alloc (V #[I C x.r.length c,J O (-x.n)] 101)) w1.heap.size u5.ownBlock ⟨C,c,x.r,-x.n⟩∧(L.length+1≤maxLen∧(L.length+1)*32≤140737488355328)∧w1.heap.size≤(y1.alloc (V #[I C x.r.length c,J O (-x.n)] 101)).heap.size):=by
     intro y1 C c hb1 hC
     have hbY:Below wr.heap.size wr (y1.alloc (V #[I C x.r.length c,J O (-x.n)] 101)):=hgX.out.below.trans ((hb1.alloc hb1.size _).mono hgX.out.size)
     refine ⟨hovH.out.1.below hbY,⟨hC.1.gr ((gR _).alloc _),nT hxr.out.2.2.1 (by decide),hC.2.1,fun a ha=>⟨?_,?_,?_⟩⟩,⟨?_,?_⟩,nT hszX.out.1 hbY.size⟩
     ·have h1:=(hC.2.2 a ha).1
      have h2:=hszX.out.1
      omega
     ·have h1:=(hC.2.2 a ha).2
      simp;omega
     ·intro e
      have h1:=hob.out a.block e
      have h2:=(hC.2.2 a ha).1
      omega
     ·have h1:=hLk.out
      have h2:=hl4.out
      unfold maxLen;omega
     ·have h1:=hLk.out
      have h2:=hl4.out
      omega
    have hmk3:Hid (∀(y1:World) (C:Option Addr) (c:Nat) (w3:World),Below (wr.alloc (V #[I x.p x.r.length x.c,J O x.n] 101)).heap.size (wr.alloc (V #[I x.p x.r.length x.c,J O x.n] 101)) (y1.alloc (V #[I C x.r.length c,J O (-x.n)] 101))→(y1.alloc (V #[I C x.r.length c,J O (-x.n)] 101)).grownBy w3 u5.ownBlock→w3.cell? ⟨wr.heap.size,0,none⟩=some (I x.p x.r.length x.c)∧w3.cell? ⟨wr.heap.size,1,none⟩=some (J O x.n)):=by
     intro y1 C c w3 hb2 hg3
     have hlt:wr.heap.size<(y1.alloc (V #[I C x.r.length c,J O (-x.n)] 101)).heap.size:=nL (by simp) hb2.size
     have hne:some wr.heap.size≠u5.ownBlock:=fun e=>by have:=hob.out _ e.symm;omega
     have hk:=hKeep.out _ hb2
     exact ⟨(World.cell?_of_block (a:=⟨wr.heap.size,0,none⟩) (hg3.block _ hlt hne)).trans hk.1,(World.cell?_of_block (a:=⟨wr.heap.size,1,none⟩) (hg3.block _ hlt hne)).trans hk.2⟩
    refine wp_region_noPanic ?_
    refine wp_region_held_drew (S:=fun w'=>w'.cell? ⟨wr.heap.size,0,none⟩=some (I x.p x.r.length x.c)∧w'.cell? ⟨wr.heap.size,1,none⟩=some (J O x.n)) (by kernel_rfl) (hKeep.out _ hbd) (fun hHeld=> ?_)
    refine tks [0,1,2,4,5,6] (by assumption) ?_
    iterate 6 (refine tk (v:= ?_) (by rfl) (by kernel_rfl) ?_ ?_;rotate_left;· (refine oL ⟨by rfl,?_⟩;intro w hSw;(try dsimp only at hSw);go_simp<;>with_reducible rfl);try simp only[Act.put,yA,aD,yS])
    refine tk0 ?_
    refine wpAnyH_ready (rs:=[3]) (by kernel_rfl) (by simp) ?_
    refine AllReadyH.cons (o:= ?oi7) ?hop7 (fun K hK=> ?step7) ?more7
    case hop7=>(simp only[zA,z0',zS];rfl)
    case more7=>exact AllReadyH.nil
    go_simp
    (go_at_call 186;(refine cM (show Calls _ _ _ _ _ from hcp.out) ?_);rintro e y1 ⟨C,c,rfl,hrw,hnl,hnw,hbl,hri⟩;have hb1:Hid (Below (wr.alloc (V #[I x.p x.r.length x.c,J O x.n] 101)).heap.size (wr.alloc (V #[I x.p x.r.length x.c,J O x.n] 101)) y1):=hbd.trans (hbl.mono hbd.size);have hb2:Hid (Below (wr.alloc (V #[I x.p x.r.length x.c,J O x.n] 101)).heap.size (wr.alloc (V #[I x.p x.r.length x.c,J O x.n] 101)) (y1.alloc (V #[I C x.r.length c,J O (-x.n)] 101))):=hb1.out.alloc hb1.out.size _;have hrmY:Hid (eZ y1 (L++[⟨C,c,x.r,-x.n⟩])):=(hrm.out.below hgX.out.below).snoc hb1.out hri;clear hri;have hC:Hid (ay y1 C x.r∧(C=none→c=0)∧(∀a,C=some a→wr.heap.size+1≤a.block∧a.block<y1.heap.size)):=⟨hrw,hnl,fun a ha=>⟨nT (Nat.le_of_eq hsd.symm) (hnw a ha).1,(hnw a ha).2⟩⟩;have hoX:Hid (OwnT (y1.alloc (V #[I C x.r.length c,J O (-x.n)] 101)) w1.heap.size u5 L∧Apart (y1.alloc (V #[I C x.r.length c,J O (-x.n)] 101)) w1.heap.size u5.ownBlock ⟨C,c,x.r,-x.n⟩∧(L.length+1≤maxLen∧(L.length+1)*32≤140737488355328)∧w1.heap.size≤(y1.alloc (V #[I C x.r.length c,J O (-x.n)] 101)).heap.size):=hmkX.out y1 C c hb1.out hC.out;clear hrw hnl hnw hbl)
    first|(go_wp2_with fail)|skip
    refine hK.out _ _ ?_ (fun hHeld=> ?_)
    ·(try dsimp only);(first|with_reducible exact hKeep.out _ hbd|with_reducible exact hKeep.out _ hb1.out|with_reducible exact hKeep.out _ hb2.out|with_reducible exact hk3.out)
    clear hK K
    try simp only[Act.put,yA,aD,yS]
    refine tks [7] (by assumption) ?_
    iterate 1 (refine tk (v:= ?_) (by rfl) (by kernel_rfl) ?_ ?_;rotate_left;· (refine oL ⟨by rfl,?_⟩;intro w hSw;(try dsimp only at hSw);go_simp<;>with_reducible rfl);try simp only[Act.put,yA,aD,yS])
    refine tk0 ?_
    refine wpAnyH_ready (rs:=[8]) (by kernel_rfl) (by simp) ?_
    refine AllReadyH.cons (o:= ?oi9) ?hop9 (fun K hK=> ?step9) ?more9
    case hop9=>(simp only[zA,z0',zS];rfl)
    case more9=>exact AllReadyH.nil
    go_simp
    refine hK.out _ _ ?_ (fun hHeld=> ?_)
    ·(try dsimp only);(first|with_reducible exact hKeep.out _ hbd|with_reducible exact hKeep.out _ hb1.out|with_reducible exact hKeep.out _ hb2.out|with_reducible exact hk3.out)
    clear hK K
    try simp only[Act.put,yA,aD,yS]
    refine wpAnyH_ready (rs:=[9]) (by kernel_rfl) (by simp) ?_
    refine AllReadyH.cons (o:= ?oi10) ?hop10 (fun K hK=> ?step10) ?more10
    case hop10=>(simp only[zA,z0',zS];rfl)
    case more10=>exact AllReadyH.nil
    (refine jc _ rfl (.tmp 19) (.tmp 27) rfl w1.heap.size u5 L ⟨C,c,x.r,-x.n⟩ ⟨y1.heap.size,0,none⟩ 1 rfl rfl hoX.out.1 (da rfl ⟨C,c,x.r,-x.n⟩ 101) hoX.out.2.1 hoX.out.2.2.1.1 hoX.out.2.2.1.2 hoX.out.2.2.2 ?_;intro v2 w3 hown3 hb3 hgb3;have hk3:Hid (w3.cell? ⟨wr.heap.size,0,none⟩=some (I x.p x.r.length x.c)∧w3.cell? ⟨wr.heap.size,1,none⟩=some (J O x.n)):=hmk3.out y1 C c w3 hb2.out hgb3;have hownF:Hid (OwnT w3 w1.heap.size v2 (L++[⟨C,c,x.r,-x.n⟩])∧Below w1.heap.size w1 w3):=⟨hown3,hovH.out.2.trans ((hgX.out.below.trans (hb2.out.mono hgX.out.size)).mono hszX.out.1 |>.trans hb3)⟩;have hrmF:Hid (eZ w3 (L++[⟨C,c,x.r,-x.n⟩])):=(hrmY.out.below ((gR y1).alloc _).below).grown hgb3 (hoX.out.1.own.typed (by decide));clear hown3 hb3 hgb3)
    refine hK.out _ _ ?_ (fun hHeld=> ?_)
    ·(try dsimp only);(first|with_reducible exact hKeep.out _ hbd|with_reducible exact hKeep.out _ hb1.out|with_reducible exact hKeep.out _ hb2.out|with_reducible exact hk3.out)
    clear hK K
    try simp only[Act.put,yA,aD,yS]
    refine tks [10] (by assumption) ?_
    iterate 1 (refine tk (v:= ?_) (by rfl) (by kernel_rfl) ?_ ?_;rotate_left;· (refine oL ⟨by rfl,?_⟩;intro w hSw;(try dsimp only at hSw);go_simp<;>with_reducible rfl);try simp only[Act.put,yA,aD,yS])
    refine tk0 ?_
    refine wpAnyH_done (by kernel_rfl) ?_ _
    refine NoPanic.normal ?_
    go_wp2
    go_roundw
    case rel =>
     refine ⟨k+1,L++[⟨C,c,x.r,-x.n⟩],by omega,by go_num,?_,?_,hownF.out.1,hownF.out.2,hrmF⟩
     ·show _=_;simp[hLk.out]
     ·show _=_;rw[hst.out,List.map_append,hLz.out];rfl
    case measure=>simp[intOf];omega
   ·have hltz:¬(k:Int)<(l.length:Int):=by omega
    have hke:l.take k=l:=List.take_of_length_le (by omega)
    have hfin:Hid (L.map Itm.z=i7 (l.map Itm.z)):=by
     show _=_
     unfold i7
     rw[hLz.out,hke,if_pos h0H.out,List.map_map]
     rfl
    obtain ⟨A2,cap2,hv2,hn2,hit,hnw2⟩:=hov.items
    have hNw:Hid (NwT wr cap2 w.heap.size A2 L):=⟨⟨fun a ha=>nT hg1.size (hnw2 a ha).1,fun x hx a ha=>nT hg1.size ((hov.each x hx).own a ha).1⟩,by have:=hov.own;rw[hv2] at this;exact this.roomA,hrm.out⟩
    have hfin2:Hid (Items wr A2 L∧dx A2 L.length cap2∧Below w.heap.size w wr):=⟨hit,hn2,hg1.below.trans (hbel.mono hg1.size)⟩
    subst hv2
    clear hke hit hn2 hov hbel hnw2
    go_wp2
    go_ret2
    exact ⟨L,A2,cap2,by rw[h0H.out];rfl,hfin.out,hfin2.out.1,hfin2.out.2.1,hfin2.out.2.2,hNw.out⟩
 ·have hfin:Hid (i7 (l.map Itm.z)=[]):=by
   have:E≠0:=by simpa using hq
   show _=_
   unfold i7;rw[hEH.out,if_neg this]
  go_wp2
  go_ret2
  exact ⟨[],none,0,by rw[hEH.out];rfl,by rw[hfin.out];rfl,⟨oL rfl,fun x hx=>by cases hx⟩,fun _=>rfl,hg1.below,NwT.none _ _⟩

theorem zv (l:List Itm) (A:Option Addr) (cap:Nat) (w:World) (hl:l.length≤maxLen) (hr:Items w A l) :
  Calls Z 137 #[I A l.length cap] w fun e w'=>∃(L:List Itm) (C:Option Addr) (c:Nat),e= H (Y #[I C L.length c,J O (ax (l.map Itm.z))])∧L.map Itm.z=i7 (l.map Itm.z)∧Items w' C L∧dx C L.length c∧Below w.heap.size w w' :=
 (zw l A cap w hl hr).mono fun _ _ ⟨L,C,c,h1,h2,h3,h4,h5,_⟩=>⟨L,C,c,h1,h2,h3,h4,h5⟩

end Go.Proofs.YtkefkplnamkicaaGreatDoor

namespace Go.Proofs.YtkefkplnamkicaaGreatDoor

def gE (x:Zit):List Zit→List Zit
 | []=>if x.2=0 then [] else [x]
 | y::t=>if aF x.1 y.1<0 then (if x.2=0 then y::t else x::y::t) else if aF x.1 y.1=0 then (if x.2+y.2=0 then t else (y.1,x.2+y.2)::t) else y::gE x t
def cW:List Zit→List Zit
 | []=>[]
 | x::t=>gE x (cW t)
theorem qV {x:Zit}:∀ {S:List Zit} {z:Zit},z∈gE x S→z.1=x.1∨∃y∈S,z.1=y.1
 | [],z,h=>by
  unfold gE at h
  by_cases e:x.2=0
  ·rw[if_pos e] at h;cases h
  ·rw[if_neg e] at h;exact oL (by rw[List.mem_singleton.1 h])
 | y::t,z,h=>by
  unfold gE at h
  by_cases h1:aF x.1 y.1<0
  ·rw[if_pos h1] at h
   by_cases e:x.2=0
   ·rw[if_pos e] at h;exact oR ⟨z,h,rfl⟩
   ·rw[if_neg e] at h
    rcases List.mem_cons.1 h with k|k
    ·exact oL (by rw[k])
    ·exact oR ⟨z,k,rfl⟩
  ·rw[if_neg h1] at h
   by_cases h2:aF x.1 y.1=0
   ·rw[if_pos h2] at h
    by_cases e:x.2+y.2=0
    ·rw[if_pos e] at h;exact oR ⟨z,mC _ h,rfl⟩
    ·rw[if_neg e] at h
     rcases List.mem_cons.1 h with k|k
     ·exact oR ⟨y,mS ..,by rw[k]⟩
     ·exact oR ⟨z,mC _ k,rfl⟩
   ·rw[if_neg h2] at h
    rcases List.mem_cons.1 h with k|k
    ·exact oR ⟨y,mS ..,by rw[k]⟩
    ·rcases qV k with k|⟨u,hu,k⟩
     ·exact oL k
     ·exact oR ⟨u,mC _ hu,k⟩
theorem oH {x:Zit}:∀ {S:List Zit},eO S→eO (gE x S)
 | [],_=>by
  unfold gE
  by_cases e:x.2=0
  ·rw[if_pos e];exact List.Pairwise.nil
  ·rw[if_neg e];exact List.pairwise_singleton _ _
 | y::t,h=>by
  have h':=List.pairwise_cons.1 h
  unfold gE
  by_cases h1:aF x.1 y.1<0
  ·rw[if_pos h1]
   by_cases e:x.2=0
   ·rw[if_pos e];exact h
   ·rw[if_neg e]
    refine List.pairwise_cons.2 ⟨fun z hz=> ?_,h⟩
    rcases List.mem_cons.1 hz with k|k
    ·rw[k];exact h1
    ·exact cI h1 (h'.1 z k)
  ·rw[if_neg h1]
   by_cases h2:aF x.1 y.1=0
   ·rw[if_pos h2]
    by_cases e:x.2+y.2=0
    ·rw[if_pos e];exact h'.2
    ·rw[if_neg e];exact List.pairwise_cons.2 ⟨fun z hz=>h'.1 z hz,h'.2⟩
   ·rw[if_neg h2]
    refine List.pairwise_cons.2 ⟨fun z hz=> ?_,oH h'.2⟩
    rcases qV hz with k|⟨u,hu,k⟩
    ·rw[k];have:=dS x.1 y.1;omega
    ·rw[k];exact h'.1 u hu
theorem qW {x:Zit}:∀ {S:List Zit},NoZ S→NoZ (gE x S)
 | [],_=>by
  unfold gE
  by_cases e:x.2=0
  ·rw[if_pos e];exact fun z hz=>absurd hz (by simp)
  ·rw[if_neg e];intro z hz;rw[List.mem_singleton.1 hz];exact e
 | y::t,h=>by
  have ht:NoZ t:=fun z hz=>h z (mC _ hz)
  unfold gE
  by_cases h1:aF x.1 y.1<0
  ·rw[if_pos h1]
   by_cases e:x.2=0
   ·rw[if_pos e];exact h
   ·rw[if_neg e]
    intro z hz
    rcases List.mem_cons.1 hz with k|k
    ·rw[k];exact e
    ·exact h z k
  ·rw[if_neg h1]
   by_cases h2:aF x.1 y.1=0
   ·rw[if_pos h2]
    by_cases e:x.2+y.2=0
    ·rw[if_pos e];exact ht
    ·rw[if_neg e]
     intro z hz
     rcases List.mem_cons.1 hz with k|k
     ·rw[k];exact e
     ·exact ht z k
   ·rw[if_neg h2]
    intro z hz
    rcases List.mem_cons.1 hz with k|k
    ·rw[k];exact h y (mS ..)
    ·exact qW ht z k
theorem tL {x:Zit} (r:List Int):∀ {S:List Zit},wt (gE x S) r=(if x.1=r then x.2 else 0)+wt S r
 | []=>by
  unfold gE
  by_cases e:x.2=0
  ·rw[if_pos e,e];simp[wt]
  ·rw[if_neg e];simp only[wt]
 | y::t=>by
  unfold gE
  by_cases h1:aF x.1 y.1<0
  ·rw[if_pos h1]
   by_cases e:x.2=0
   ·rw[if_pos e,e];simp
   ·rw[if_neg e];simp only[wt]
  ·rw[if_neg h1]
   by_cases h2:aF x.1 y.1=0
   ·rw[if_pos h2]
    have e1:=jG _ _ h2
    by_cases e:x.2+y.2=0
    ·rw[if_pos e]
     simp only[wt]
     rw[e1]
     by_cases k:y.1=r
     ·rw[if_pos k,if_pos k];omega
     ·rw[if_neg k,if_neg k];omega
    ·rw[if_neg e]
     simp only[wt]
     rw[e1]
     by_cases k:y.1=r
     ·rw[if_pos k,if_pos k,if_pos k];omega
     ·rw[if_neg k,if_neg k,if_neg k];omega
   ·rw[if_neg h2]
    simp only[wt]
    rw[tL r];omega
theorem bu:∀l:List Zit,IsTot l (cW l)
 | []=>⟨List.Pairwise.nil,fun z hz=>absurd hz (by simp[cW]),fun r=>rfl⟩
 | x::t=>by
  have h:=bu t
  exact ⟨oH h.rise,qW h.noz,fun r=>by show wt (gE x (cW t)) r=wt (x::t) r;rw[tL,h.same];rfl⟩
theorem IsTot.eq {l S:List Zit} (h:IsTot l S):S=cW l:=h.uniq (bu l) fun _=>rfl
def df (l:List Zit):Int:=if (cW l).all (fun x=>okW x.2) then 0 else 5
def ns (l:List Zit):List Zit:=if df l=0 then cW l else []
theorem yn {l:List Zit} (h:df l=5):ns l=[]:=by unfold ns;rw[h];rfl
theorem ud {l:List Zit} (h:df l=0):ns l=cW l:=by unfold ns;rw[if_pos h]
theorem np (l:List Zit):df l=5↔px l:=by
 unfold df
 constructor
 ·intro h
  by_cases e:(cW l).all (fun x=>okW x.2)=true
  ·rw[if_pos e] at h;cases h
  ·simp only[List.all_eq_true,Classical.not_forall] at e
   obtain ⟨x,hx,hw⟩:=e
   exact ⟨x.1,by rw[←(bu l).same,(bu l).rise.wt hx];simpa using hw⟩
 ·rintro ⟨r,hr⟩
  rw[if_neg]
  intro h
  have h0:wt l r≠0:=fun e=>by rw[e] at hr;exact absurd hr (by decide)
  rw[←(bu l).same] at h0 hr
  obtain ⟨x,hx,rfl⟩:=qj h0
  rw[(bu l).rise.wt hx] at hr
  have:=List.all_eq_true.1 h x hx
  rw[hr] at this;cases this
theorem zU {l:List Zit} (h:¬px l):df l=0:=by
 by_cases e:df l=5
 ·exact absurd ((np l).1 e) h
 ·unfold df at e ⊢
  by_cases k:(cW l).all (fun x=>okW x.2)=true
  ·rw[if_pos k]
  ·rw[if_neg k] at e;exact absurd rfl e
theorem pu {l:List Zit} (h:df l=0):¬px l:=fun k=>by rw[(np l).2 k] at h;cases h
def cw (l:List Zit):Int:=if 400<l.length then 2 else if l.all (fun x=>okR x.1 && okW x.2) then df l else 5
def dm (l:List Zit):List Zit:=if cw l=0 then cW l else []
def aW (a b:List Zit):Int:=if ax a=0 then (if ax b=0 then (if df (a++b)=0 then (if 400<(cW (a++b)).length then 2 else 0) else df (a++b)) else ax b) else ax a
def aU (a b:List Zit):List Zit:=if aW a b=0 then cW (a++b) else []
theorem gn {l m:List Zit} (h:∀r,wt l r=wt m r):cW l=cW m:=(bu l).uniq (bu m) h
theorem vH {l m:List Zit} (h:∀r,wt l r=wt m r):df l=df m:=by unfold df;rw[gn h]

end Go.Proofs.YtkefkplnamkicaaGreatDoor

namespace Go.Proofs.YtkefkplnamkicaaGreatDoor
open Go.RowKit Go.Sort

theorem fZ {S:List Itm} {k:Nat} (h:k<S.length):(S.map Itm.z)[k]'(by simpa using h)=S[k].z:=by simp

theorem pv (ss:List Sl) (B:Option Addr) (cb:Nat) (w:World) (hrow:au eR 1 w B ss) (hlen:ss.length≤2)
  (hss:∀s∈ss,Items w s.A s.l∧(s.A=none→s.cap=0)∧s.l.length≤400∧∀x∈s.l,okW x.n=true∧x.r.length≤8) :
  Calls Z 134 #[I B ss.length cb] w fun e w'=>∃(L:List Itm) (C:Option Addr) (c:Nat),e= H (Y #[I C L.length c,J O (df ((ss.flatMap (·.l)).map Itm.z))])∧L.map Itm.z=ns ((ss.flatMap (·.l)).map Itm.z)∧Items w' C L∧dx C L.length c∧Below w.heap.size w w'∧NwT w' c w.heap.size C L:=by
 have mixed:Tryz.prog.follows .mixedOrders=true:=by kernel_rfl
 have hcon:=rY ss B cb w hrow hlen (fun s hs=>⟨(hss s hs).1.row,(hss s hs).2.1,(hss s hs).2.2.1⟩)
 have hconH:Hid _:=hcon
 clear hcon
 have heach:Hid (∀x∈ss.flatMap (·.l),ay w x.p x.r∧x.r.length≤maxLen∧(x.p=none→x.c=0)∧okW x.n=true∧x.r.length≤8):=fun x hx=>by
  obtain ⟨s,hs,hx⟩:=List.mem_flatMap.1 hx
  have h:=(hss s hs).1.each x hx
  exact ⟨h.1,h.2.1,h.2.2,(hss s hs).2.2.2 x hx⟩
 have hlenA:Hid ((ss.flatMap (·.l)).length≤800):=qK hlen fun s hs=>(hss s hs).2.2.1
 obtain ⟨all,hall⟩:∃all,ss.flatMap (·.l)=all:=⟨_,rfl⟩
 rw[hall] at hconH heach hlenA ⊢
 clear hall hrow hss hlen
 go_enter Tryz.func134,Tryz.ntmps134
 go_wp2_with fail
 refine cM (show Calls _ _ _ _ _ from hconH.out) ?_
 rintro e w1 ⟨v,rfl,hown,hb1⟩
 clear hconH
 have hso:=xZ 185 (enters_of Tryz.func185 (by kernel_rfl) rfl) wv w.heap.size v all w1 hown hb1.size (fun x hx=>by
  have h:=heach.out x hx
  exact ⟨h.1.below hb1,h.2.1,h.2.2.1,fun a ha hr=>h.1.lt a ha hr⟩) (by have:=hlenA.out;omega)
 have hsoH:Hid _:=hso
 clear hso
 go_wp2_with fail
 refine cM (show Calls _ _ _ _ _ from hsoH.out) ?_
 rintro e w2 ⟨rfl,⟨S,A,cap,hv,hperm,hsort,hit,hA⟩,hb2⟩
 subst hv
 clear hsoH hown
 have hSH:Hid (Items w2 A S∧(A=none→cap=0)∧S.Perm all∧eW (S.map Itm.z)∧(∀x∈S.map Itm.z,okW x.2=true∧x.1.length≤8)∧Below w.heap.size w w2):=⟨hit,hA,hperm,hsort,fun x hx=>by
  obtain ⟨y,hy,rfl⟩:=List.mem_map.1 hx
  exact (heach.out y (hperm.mem_iff.1 hy)).2.2.2,hb1.trans hb2⟩
 have hSl:S.length≤800:=by rw[hperm.length_eq];exact hlenA.out
 clear hit hA hperm hsort hb1 hb2 heach hlenA
 go_wp2
 go_loopw [5,6] (fun v i wr=>∃(k:Nat) (L:List Itm),k≤S.length∧i= J O k∧Hid (Upto (S.map Itm.z) k (L.map Itm.z))∧Hid (OwnT wr w2.heap.size v L∧Below w2.heap.size w2 wr)∧Hid (eZ wr L)) (fun _ i _=>S.length-(intOf i).toNat)
 case atStart=>exact ⟨0,[],by omega,rfl,Upto.zero _,⟨OwnT.nil _ _,bR _ _⟩,fun x hx=>by cases hx⟩
 case round =>
  rename World=>w3
  obtain ⟨k,L,hk,rfl,hup,hov,hrm⟩:=hrel
  by_cases hlt:k<S.length
  ·have hltz:(k:Int)<(S.length:Int):=by omega
   have hI:Hid (Items w3 A S):=hSH.out.1.below hov.out.2
   obtain ⟨bb,off,rfl,hb,hcs⟩:=hI.out.at hlt
   obtain ⟨x,hx⟩:∃x,S[k]=x:=⟨_,rfl⟩
   obtain ⟨e0,e1⟩:=hcs k hlt
   rw[hx] at e0 e1
   have hcsH:Hid (∀j (h:j<S.length),_):=hcs
   have hkz:Hid (∃h:k<(S.map Itm.z).length,((S.map Itm.z)[k]).1=x.r):=⟨by simpa using hlt,by rw[fZ hlt,hx];rfl⟩
   have hxr:Hid (ay w3 x.p x.r∧x.r.length≤maxLen∧(x.p=none→x.c=0)):=hI.out.each x (by rw[←hx];exact gM hlt)
   have hx8:Hid (x.r.length≤8):=(hSH.out.2.2.2.2.1 x.z (List.mem_map.2 ⟨x,by rw[←hx];exact gM hlt,rfl⟩)).2
   have h0:Hid (wt ((S.map Itm.z).take k) x.r=0):=by
    show _=_
    have:=hup.out.first (show k<(S.map Itm.z).length by simpa using hlt)
    rw[fZ hlt,hx] at this
    exact this
   clear hcs hx
   go_wp2
   go_loopw [6,8] (fun i n wr=>∃j:Nat,k≤j∧j≤S.length∧i= J O j∧n= J O (wt ((S.map Itm.z).take j) x.r)∧Hid (Run (S.map Itm.z) x.r k j)∧Gr w3 wr) (fun i _ _=>S.length-(intOf i).toNat)
   case atStart=>exact ⟨k,nR _,hk,rfl,by rw[h0.out],fun m _ h1 h2=>by omega,gR _⟩
   case round =>
    rename World=>w4
    obtain ⟨j,hkj,hjS,rfl,rfl,hrun,hgr⟩:=hrel
    have hrunH:Hid (Run (S.map Itm.z) x.r k j):=hrun
    obtain ⟨N,hN⟩:∃N,wt ((S.map Itm.z).take j) x.r=N:=⟨_,rfl⟩
    rw[hN]
    have hNH:Hid (wt ((S.map Itm.z).take j) x.r=N):=hN
    have hNb: -838860800≤N∧N≤838860800:=by
     have h1:=yy (l:=(S.map Itm.z).take j) (fun y hy=>(hSH.out.2.2.2.2.1 y (List.mem_of_mem_take hy)).1) x.r
     rw[hN] at h1
     have h2:((S.map Itm.z).take j).length≤800:=by simp;omega
     omega
    clear hrun hN
    by_cases hgo:∃h:j<S.length,aF x.r S[j].r=0
    ·obtain ⟨hlt2,hc⟩:=hgo
     have hlt2z:(j:Int)<(S.length:Int):=by omega
     obtain ⟨y,hy⟩:∃y,S[j]=y:=⟨_,rfl⟩
     obtain ⟨f0,f1⟩:=hcsH.out j hlt2
     rw[hy] at f0 f1 hc
     have g0:w4.cell? ⟨bb,off+j*2,none⟩=some (I y.p y.r.length y.c):=(hgr.below.cell (p:=⟨bb,off+j*2,none⟩) hb).trans f0
     have g1:w4.cell? ⟨bb,off+j*2+1,none⟩=some (J O y.n):=(hgr.below.cell (p:=⟨bb,off+j*2+1,none⟩) hb).trans f1
     have hyr:=hI.out.each y (by rw[←hy];exact gM hlt2)
     have hod:=fi x.r y.r x.p y.p x.c y.c w4 hxr.out.2.1 (hxr.out.1.gr hgr) (hyr.1.gr hgr)
     rw[hc] at hod
     have hodH:Hid _:=hod
     have hyw:Hid (okW y.n=true):=(hSH.out.2.2.2.2.1 y.z (List.mem_map.2 ⟨y,by rw[←hy];exact gM hlt2,rfl⟩)).1
     have hst:Hid (wt ((S.map Itm.z).take (j+1)) x.r=N+y.n∧Run (S.map Itm.z) x.r k (j+1)):=by
      have hjz:j<(S.map Itm.z).length:=by simpa using hlt2
      have hyx:y.r=x.r:=(jG _ _ hc).symm
      refine ⟨?_,fun m hm h1 h2=> ?_⟩
      ·rw[qk hjz,hNH.out,fZ hlt2,hy]
       show N+(if y.r=x.r then y.n else 0)=_
       rw[if_pos hyx]
      ·by_cases e:m=j
       ·subst e;rw[fZ hlt2,hy];exact hyx
       ·exact hrunH.out m hm h1 (by omega)
     have hwr:IntKind.i64.wrap (N+y.n)=N+y.n:=by
      have h:=hyw.out
      simp only[okW,inB,Bool.and_eq_true,decide_eq_true_eq] at h
      rw[IntKind.wrap_i64];omega
     clear hod f0 f1 hy hyr hc
     go_wp2_with fail
     refine cM (show Calls _ _ _ _ _ from hodH.out) ?_
     rintro e w5 ⟨rfl,hg5⟩
     have q1:w5.cell? ⟨bb,off+j*2+1,none⟩=some (J O y.n):=(hg5.below.cell (p:=⟨bb,off+j*2+1,none⟩) (nL hb hgr.size)).trans g1
     clear hodH g0 g1
     go_wp2
     go_roundw
     case rel=>exact ⟨j+1,by omega,by omega,by go_num,by rw[hst.out.1],hst.out.2,hgr.trans hg5⟩
     case measure=>simp[intOf];omega
    ·have hex:Hid (∀h:j<(S.map Itm.z).length,aF x.r ((S.map Itm.z)[j]).1≠0):=fun h e=>hgo ⟨by simpa using h,by rw[fZ (by simpa using h)] at e;exact e⟩
     have hkj':k<j:=by
      by_cases e:k=j
      ·subst e
       obtain ⟨h1,h2⟩:=hkz.out
       exact absurd (by rw[h2,iJ]) (hex.out h1)
      ·omega
     clear hgo
     have hjz:k<(S.map Itm.z).length:=by simpa using hlt
     have hnext:Hid ((okW N=false→df (all.map Itm.z)=5)∧(N=0→Upto (S.map Itm.z) j (L.map Itm.z))∧(okW N=true→N≠0→Upto (S.map Itm.z) j (L.map Itm.z++[(x.r,N)]))):=by
      obtain ⟨h1,h2⟩:=hkz.out
      have hr:=hrunH.out
      have he:=hex.out
      have hn:=hNH.out
      rw[←h2] at hr he hn
      refine ⟨fun hw=> ?_,fun hw=> ?_,fun hw hz=> ?_⟩
      ·exact (np _).2 ((eW.perm_bad (hSH.out.2.2.1.map Itm.z)).1 (zL hSH.out.2.2.2.1 h1 hkj' he (by rw[hn];exact hw)))
      ·exact xV hSH.out.2.2.2.1 hup.out h1 hkj' hr he (by rw[hn];exact hw)
      ·have:=xU hSH.out.2.2.2.1 hup.out h1 hkj' hr he (by rw[hn];exact hw) (by rw[hn];exact hz)
       rw[hn,h2] at this
       exact this
     clear hjz hNb
     by_cases hlt2:j<S.length
     rotate_left
     focus
      have hlt2z:¬(j:Int)<(S.length:Int):=by omega
      have hgr5:Hid (Gr w3 w4):=hgr
      obtain ⟨w5,rfl⟩:∃W,W=w4:=⟨_,rfl⟩
      clear hgr
      go_wp2_with fail
     rotate_left
     focus
      have hlt2z:(j:Int)<(S.length:Int):=by omega
      obtain ⟨y,hy⟩:∃y,S[j]=y:=⟨_,rfl⟩
      obtain ⟨f0,f1⟩:=hcsH.out j hlt2
      rw[hy] at f0 f1
      have g0:w4.cell? ⟨bb,off+j*2,none⟩=some (I y.p y.r.length y.c):=(hgr.below.cell (p:=⟨bb,off+j*2,none⟩) hb).trans f0
      have hyr:=hI.out.each y (by rw[←hy];exact gM hlt2)
      obtain ⟨c,hc⟩:∃c,aF x.r y.r=c:=⟨_,rfl⟩
      have hc0:¬c=0:=fun e=>by
       have:=hex.out (by simpa using hlt2)
       rw[fZ hlt2,hy] at this
       exact this (by rw[←e,←hc];rfl)
      have hod:=fi x.r y.r x.p y.p x.c y.c w4 hxr.out.2.1 (hxr.out.1.gr hgr) (hyr.1.gr hgr)
      rw[hc] at hod
      have hodH:Hid _:=hod
      clear hod f0 f1 hy hyr hc
      go_wp2_with fail
      refine cM (show Calls _ _ _ _ _ from hodH.out) ?_
      rintro e w5 ⟨rfl,hg5⟩
      have hgr5:Hid (Gr w3 w5):=hgr.trans hg5
      clear hodH g0 hgr hg5
      go_wp2_with fail
     all_goals
      refine cM (gF N w5) ?_
      rintro e w6 ⟨rfl,rfl⟩
      cases hwb:okW N
      ·have hbad:Hid (df (all.map Itm.z)=5):=hnext.out.1 hwb
       have hbw:Hid (Below w.heap.size w w6):=hSH.out.2.2.2.2.2.trans ((hov.out.2.trans (hgr5.out.below.mono hov.out.2.size)).mono hSH.out.2.2.2.2.2.size)
       go_wp2
       go_ret2
       exact ⟨[],none,0,by rw[hbad.out];rfl,by rw[yn hbad.out];rfl,⟨oL rfl,fun x hx=>by cases hx⟩,fun _=>rfl,hbw.out,NwT.none _ _⟩
      ·cases hn0:(N != 0)
       ·have hup2:Hid (Upto (S.map Itm.z) j (L.map Itm.z)):=hnext.out.2.1 (by simpa using hn0)
        have hov2:Hid (OwnT w6 w2.heap.size u5 L∧Below w2.heap.size w2 w6):=⟨hov.out.1.gr hgr5.out,hov.out.2.trans (hgr5.out.below.mono hov.out.2.size)⟩
        go_wp2
        go_roundw
        case rel=>exact ⟨j,L,by omega,rfl,hup2,hov2,hrm.out.below hgr5.out.below⟩
        case measure=>simp[intOf];omega
       ·have hup2:Hid (Upto (S.map Itm.z) j (L.map Itm.z++[(x.r,N)])):=hnext.out.2.2 hwb (by simpa using hn0)
        have hov2:Hid (OwnT w6 w2.heap.size u5 L∧Below w2.heap.size w2 w6):=⟨hov.out.1.gr hgr5.out,hov.out.2.trans (hgr5.out.below.mono hov.out.2.size)⟩
        have hcp:=kV x.r x.p x.c w6 (by have:=hx8.out;omega) hxr.out.2.2 (hxr.out.1.gr hgr5.out)
        have hcpH:Hid _:=hcp
        clear hcp
        go_wp2_with fail
        refine cM (show Calls _ _ _ _ _ from hcpH.out) ?_
        rintro e w7 ⟨C,c,rfl,hrw,hnl,hnw,hbl,hri⟩
        clear hcpH
        have hwX:Below w6.heap.size w6 (w7.alloc (V #[I C x.r.length c,J O N] 101)):=hbl.alloc hbl.size _
        have hoX:Hid (OwnT (w7.alloc (V #[I C x.r.length c,J O N] 101)) w2.heap.size u5 L∧Apart (w7.alloc (V #[I C x.r.length c,J O N] 101)) w2.heap.size u5.ownBlock ⟨C,c,x.r,N⟩∧(L.length+1≤maxLen∧(L.length+1)*32≤140737488355328)∧w2.heap.size≤(w7.alloc (V #[I C x.r.length c,J O N] 101)).heap.size∧Below w2.heap.size w2 (w7.alloc (V #[I C x.r.length c,J O N] 101))):=by
         have hsz:=hov2.out.2.size
         have hLl:L.length≤k:=by have:=hup.out.len;simpa using this
         have hbX:=hov2.out.2.trans (hwX.mono hsz)
         refine ⟨hov2.out.1.below hwX,⟨hrw.gr ((gR _).alloc _),nT hx8.out (by decide),hnl,fun a ha=>⟨?_,?_,?_⟩⟩,⟨?_,?_⟩,hbX.size,hbX⟩
         ·have h1:=(hnw a ha).1;omega
         ·have h1:=(hnw a ha).2;simp;omega
         ·intro e
          have h1:=(World.ownsRow.lt hov2.out.1.own a.block e).2
          have h2:=(hnw a ha).1
          omega
         ·unfold maxLen;omega
         ·omega
        have hrmX:Hid (eZ (w7.alloc (V #[I C x.r.length c,J O N] 101)) (L++[⟨C,c,x.r,N⟩])):=by
         intro z hz
         rcases List.mem_append.1 hz with hz|hz
         ·exact ((hrm.out.below hgr5.out.below).below hwX) z hz
         ·rw[List.mem_singleton.1 hz]
          exact ⟨hri.1.below ((gR _).alloc _).below,hri.2⟩
        clear hrw hnl hnw hbl hwX hri
        go_wp2_with (at_builtin;refine kT _ rfl (.tmp 50) (.tmp 55) rfl w2.heap.size u5 L ⟨C,c,x.r,N⟩ ⟨w7.heap.size,0,none⟩ 1 rfl rfl hoX.out.1 (da rfl ⟨C,c,x.r,N⟩ 101) hoX.out.2.1 hoX.out.2.2.1.1 hoX.out.2.2.1.2 hoX.out.2.2.2.1 ?_;intro v8 w8 hown8 hb8 hgb8)
        have hov3:Hid (OwnT w8 w2.heap.size v8 (L++[⟨C,c,x.r,N⟩])∧Below w2.heap.size w2 w8):=⟨hown8,hoX.out.2.2.2.2.trans hb8⟩
        have hrm3:Hid (eZ w8 (L++[⟨C,c,x.r,N⟩])):=hrmX.out.grown hgb8 (hoX.out.1.own.typed (by decide))
        clear hown8 hb8 hgb8
        go_roundw
        case rel=>exact ⟨j,L++[⟨C,c,x.r,N⟩],by omega,rfl,by rw[List.map_append];exact hup2,hov3,hrm3⟩
        case measure=>simp[intOf];omega
  ·have hltz:¬(k:Int)<(S.length:Int):=by omega
   have hfin:Hid (df (all.map Itm.z)=0∧L.map Itm.z=ns (all.map Itm.z)):=by
    have h1:=hup.out.done (by simp;omega)
    have hp:=hSH.out.2.2.1.map Itm.z
    have h2:=zU (fun h=>h1.2 ((eW.perm_bad hp).2 h))
    refine ⟨h2,?_⟩
    rw[ud h2]
    exact (h1.1.perm hp).eq
   obtain ⟨A2,cap2,hv2,hn2,hit,hnw⟩:=hov.out.1.items
   have hNw0:jf w.heap.size A2 L:=⟨fun a ha=>nT hSH.out.2.2.2.2.2.size (hnw a ha).1,fun x hx a ha=>nT hSH.out.2.2.2.2.2.size ((hov.out.1.each x hx).own a ha).1⟩
   have hNw:Hid (NwT w3 cap2 w.heap.size A2 L):=⟨hNw0,by have:=hov.out.1.own;rw[hv2] at this;exact this.roomA,hrm.out⟩
   have hfin2:Hid (Items w3 A2 L∧dx A2 L.length cap2∧Below w.heap.size w w3):=⟨hit,hn2,hSH.out.2.2.2.2.2.trans (hov.out.2.mono hSH.out.2.2.2.2.2.size)⟩
   subst hv2
   clear hit hn2 hov hnw hNw0
   go_wp2
   go_ret2
   exact ⟨L,A2,cap2,by rw[hfin.out.1];rfl,hfin.out.2,hfin2.out.1,hfin2.out.2.1,hfin2.out.2.2,hNw.out⟩
theorem Bj {w:World} {A:Option Addr} {ca:Nat} {a:List Itm} (T:TypeId):au eR 1 (w.alloc (V #[I A a.length ca] T)) (some ⟨w.heap.size,0,none⟩) [⟨A,ca,a⟩]:=by
 refine oR ⟨w.heap.size,0,rfl,by simp,fun j hj i hi=> ?_⟩
 obtain rfl:i=0:=by omega
 obtain rfl:j=0:=by simp at hj;omega
 exact ab (gR _) (j:=0) rfl
theorem Bk {w:World} {A B:Option Addr} {ca cb:Nat} {a b:List Itm} (T:TypeId):au eR 1 (w.alloc (V #[I A a.length ca,I B b.length cb] T)) (some ⟨w.heap.size,0,none⟩) [⟨A,ca,a⟩,⟨B,cb,b⟩]:=by
 refine oR ⟨w.heap.size,0,rfl,by simp,fun j hj i hi=> ?_⟩
 obtain rfl:i=0:=by omega
 have hj':j=0∨j=1:=by simp at hj;omega
 rcases hj' with rfl|rfl
 ·exact ab (gR _) (j:=0) rfl
 ·exact ab (gR _) (j:=1) rfl
theorem nU (a:List Itm) (A:Option Addr) (ca:Nat) (w:World) (hA:A=none→ca=0) (hI:Items w A a) (hl:a.length≤400) (hx:∀x∈a,okW x.n=true∧x.r.length≤8) :
  Calls Z 134 #[I (some ⟨w.heap.size,0,none⟩) 1 1] (w.alloc (V #[I A a.length ca] 58)) fun e w'=>∃(L:List Itm) (C:Option Addr) (c:Nat),e= H (Y #[I C L.length c,J O (df (a.map Itm.z))])∧L.map Itm.z=ns (a.map Itm.z)∧Items w' C L∧dx C L.length c∧Below w.heap.size w w'∧NwT w' c w.heap.size C L:=by
 have hg:Gr w (w.alloc (V #[I A a.length ca] 58)):=(gR _).alloc _
 have h:=pv [⟨A,ca,a⟩] (some ⟨w.heap.size,0,none⟩) 1 _ (Bj 58) (by simp) (fun s hs=>by
  obtain rfl:s=_:=List.mem_singleton.1 hs
  exact ⟨hI.gr hg,hA,hl,hx⟩)
 have e1:([⟨A,ca,a⟩]:List Sl).flatMap (·.l)=a:=by simp
 rw[e1] at h
 refine h.mono ?_
 rintro e w' ⟨L,C,c,h1,h2,h3,h4,h5,h6⟩
 exact ⟨L,C,c,h1,h2,h3,h4,hg.below.trans (h5.mono hg.size),h6.mono hg.size⟩

theorem nV (a b:List Itm) (A B:Option Addr) (ca cb:Nat) (w:World) (hA:A=none→ca=0) (hB:B=none→cb=0) (hI:Items w A a) (hJ:Items w B b) (hl:a.length≤400) (hm:b.length≤400) (hx:∀x∈a,okW x.n=true∧x.r.length≤8) (hy:∀x∈b,okW x.n=true∧x.r.length≤8) :
  Calls Z 134 #[I (some ⟨w.heap.size,0,none⟩) 2 2] (w.alloc (V #[I A a.length ca,I B b.length cb] 58)) fun e w'=>∃(L:List Itm) (C:Option Addr) (c:Nat),e= H (Y #[I C L.length c,J O (df (a.map Itm.z++b.map Itm.z))])∧L.map Itm.z=ns (a.map Itm.z++b.map Itm.z)∧Items w' C L∧dx C L.length c∧Below w.heap.size w w'∧NwT w' c w.heap.size C L:=by
 have hg:Gr w (w.alloc (V #[I A a.length ca,I B b.length cb] 58)):=(gR _).alloc _
 have h:=pv [⟨A,ca,a⟩,⟨B,cb,b⟩] (some ⟨w.heap.size,0,none⟩) 2 _ (Bk 58) (by simp) (fun s hs=>by
  rcases List.mem_cons.1 hs with e|e
  ·subst e;exact ⟨hI.gr hg,hA,hl,hx⟩
  ·obtain rfl:s=_:=List.mem_singleton.1 e
   exact ⟨hJ.gr hg,hB,hm,hy⟩)
 have e1:([⟨A,ca,a⟩,⟨B,cb,b⟩]:List Sl).flatMap (·.l)=a++b:=by simp
 rw[e1,List.map_append] at h
 refine h.mono ?_
 rintro e w' ⟨L,C,c,h1,h2,h3,h4,h5,h6⟩
 exact ⟨L,C,c,h1,h2,h3,h4,hg.below.trans (h5.mono hg.size),h6.mono hg.size⟩

end Go.Proofs.YtkefkplnamkicaaGreatDoor

namespace Go.Proofs.YtkefkplnamkicaaGreatDoor

theorem qU {x:Zit}:∀ {S:List Zit},(gE x S).length≤S.length+1
 | []=>by
  unfold gE
  by_cases e:x.2=0
  ·rw[if_pos e];simp
  ·rw[if_neg e];simp
 | y::t=>by
  unfold gE
  by_cases h1:aF x.1 y.1<0
  ·rw[if_pos h1]
   by_cases e:x.2=0
   ·rw[if_pos e];simp
   ·rw[if_neg e];simp
  ·rw[if_neg h1]
   by_cases h2:aF x.1 y.1=0
   ·rw[if_pos h2]
    by_cases e:x.2+y.2=0
    ·rw[if_pos e];simp;omega
    ·rw[if_neg e];simp
   ·rw[if_neg h2]
    have:= @qU x t
    simp;omega
theorem kg:∀l:List Zit,(cW l).length≤l.length
 | []=>by simp[cW]
 | x::t=>by
  have h1:=kg t
  have h2:= @qU x (cW t)
  show (gE x (cW t)).length≤_
  simp;omega
theorem lf {l:List Zit} (h:cw l=0):l.length≤400∧(∀x∈l,okR x.1=true∧okW x.2=true)∧df l=0:=by
 unfold cw at h
 by_cases h4:400<l.length
 ·rw[if_pos h4] at h;cases h
 ·rw[if_neg h4] at h
  by_cases ha:l.all (fun x=>okR x.1 && okW x.2)=true
  ·rw[if_pos ha] at h
   exact ⟨by omega,fun x hx=>by simpa using List.all_eq_true.1 ha x hx,h⟩
  ·rw[if_neg ha] at h;cases h
theorem tR {l:List Zit} (h:cw l=0):dm l=cW l∧ax (cW l)=0:=by
 have p:=lf h
 refine ⟨by unfold dm;rw[if_pos h],(bI _).2 ⟨nT (kg l) p.1,?_,(bu l).rise⟩⟩
 exact (bu l).okZ (pu p.2.2) fun x hx=>(p.2.1 x hx).1
theorem add_comm {a b:List Zit} (h:aW a b=0):aW b a=0∧aU a b=aU b a:=by
 have hs:∀r,wt (b++a) r=wt (a++b) r:=fun r=>by rw[cF,cF];omega
 have e:aW b a=0:=by
  unfold aW at h ⊢
  by_cases ha:ax a=0
  ·rw[if_pos ha] at h
   by_cases hb:ax b=0
   ·rw[if_pos hb] at h
    rw[if_pos hb,if_pos ha,vH hs,gn hs];exact h
   ·rw[if_neg hb] at h;exact absurd h hb
  ·rw[if_neg ha] at h;exact absurd h ha
 refine ⟨e,?_⟩
 unfold aU
 rw[if_pos h,if_pos e,gn hs]
theorem vS {a b:List Zit} (h:aW a b=0):aU a b=cW (a++b):=by unfold aU;rw[if_pos h]
theorem add_assoc {a b c:List Zit} (h1:aW a b=0) (h2:aW b c=0) (h:aW (aU a b) c=aW a (aU b c)):aU (aU a b) c=aU a (aU b c):=by
 have hs:∀r,wt (aU a b++c) r=wt (a++aU b c) r:=fun r=>by
  rw[vS h1,vS h2,cF,cF,(bu _).same,(bu _).same,cF,cF];omega
 have e:∀x y,aU x y=if aW x y=0 then cW (x++y) else []:=fun _ _=>rfl
 rw[e (aU a b) c,e a (aU b c),h,gn hs]

end Go.Proofs.YtkefkplnamkicaaGreatDoor
