/-
  slices.Equal at numbers.
  R.SameSet: are two sets the same?
  What is handed in, opened: a slice of dots, a dot, a context.
-/
import Derived.Test.YtkadjjmkokhldaaGreatM07
import Derived.Test.YtkadjjmkokhldaaGreatM08
import Derived.Test.YtkadjjmkokhldaaGreatM01
import Derived.ProofKit
import Derived.OpenShut
import Derived.ChangeOld
import Derived.Deep.SlicePairs
import Derived.Lib.SmallJoins
namespace Go.Proofs.YtkadjjmkokhldaaGreat
open Go.RowKit Go.Sort Go.Shelf Go.Lib

theorem rowI_cellK {w:World} {b off:Nat} {l:List Int} (h:RowI w (some ⟨b,off,none⟩) l):∀j,j<l.length→w.cell? ⟨b,off+j,none⟩=some (.int .i64 (l.getD j 0)):=by
 intro j hj
 obtain ⟨b',off',hA,_,hc⟩:=h.at hj
 obtain ⟨rfl,rfl⟩:b=b'∧off=off':=by injection hA with hA;injection hA with h1 h2;exact ⟨h1,h2⟩
 have:=hc j hj 0 (by omega)
 have e:l.getD j 0=l[j]:=by simp[hj]
 rw[e]
 simpa[encI] using this
/-- slices.Equal at numbers. -/
theorem equalI_anyK (l m:List Int) (A B:Option Addr) (c d:Nat) (w:World) (hl:l.length≤9223372036854775807) (hm:m.length≤9223372036854775807) (hr:RowI w A l) (hs:RowI w B m) :
  Calls Tryz.prog 33 #[.slice A l.length c,.slice B m.length d] w fun e w'=>e= .returned (.bool (decide (l=m)))∧Gr w w':=by
 by_cases h0:l=[]
 ·subst h0
  have h:=Any.slices_Equal_int_empty Tryz.equalInt A B c m.length d w hm
  change Calls Tryz.prog 33 _ _ _ at h
  refine h.mono ?_
  rintro e w' ⟨rfl,rfl⟩
  refine ⟨?_,Gr.refl _⟩
  have:decide (m.length=0)=decide ([]=m):=by cases m<;>simp
  rw[this]
 ·by_cases h1:m=[]
  ·subst h1
   have hpos:0<l.length:=List.length_pos_iff.2 h0
   have hlz:((l.length:Int) != 0)=true:=by simp;omega
   have hd0:decide (l=[])=false:=by simp[h0]
   rw[hd0]
   clear hd0 h0
   go_enter Tryz.func33,Tryz.ntmps33
   go_wp2
   go_ret
   exact ⟨rfl,Gr.refl _⟩
  ·have hpos:0<l.length:=List.length_pos_iff.2 h0
   have hpos1:0<m.length:=List.length_pos_iff.2 h1
   obtain ⟨b,off,rfl,_,_⟩:=hr.at hpos
   obtain ⟨b',off',rfl,_,_⟩:=hs.at hpos1
   have h:=Any.slices_Equal_int Tryz.equalInt b off l.length c b' off' m.length d l m w (Nat.le_refl _) (Nat.le_refl _) hl hm (rowI_cellK hr) (rowI_cellK hs)
   change Calls Tryz.prog 33 _ _ _ at h
   refine h.mono ?_
   rintro e w' ⟨rfl,q,rfl⟩
   refine ⟨?_,⟨q,#[],by rw[grow_empty]⟩⟩
   simp only[List.take_length]
   by_cases hlm:l=m<;>simp[hlm]

end Go.Proofs.YtkadjjmkokhldaaGreat

namespace Go.Proofs.YtkadjjmkokhldaaGreat
open Go.RowKit Go.Sort

/-- Two items say the same. -/
def sameI (x y:Itm):Bool:=decide (x.n=y.n) && decide (x.r=y.r)
theorem sameI_iff {x y:Itm}:sameI x y=true↔x.z=y.z:=by
 unfold sameI Itm.z
 simp only[Bool.and_eq_true,decide_eq_true_eq,Prod.mk.injEq]
 exact ⟨fun h=>⟨h.2,h.1⟩,fun h=>⟨h.2,h.1⟩⟩
set_option maxHeartbeats 1000000 in
theorem same1_any (x y:Itm) (w:World) (hxl:x.r.length≤maxLen) (hyl:y.r.length≤maxLen) (hx:RowI w x.p x.r) (hy:RowI w y.p y.r) :
  Calls Tryz.prog 32 #[.agg #[.slice x.p x.r.length x.c,.int .i64 x.n],.agg #[.slice y.p y.r.length y.c,.int .i64 y.n]] w fun e w'=>e= .returned (.bool (sameI x y))∧Gr w w':=by
 have hlH:Hid (x.r.length≤9223372036854775807∧y.r.length≤9223372036854775807):=by show _∧_;unfold maxLen at hxl hyl;exact ⟨hxl,hyl⟩
 have hrH:Hid (RowI w x.p x.r∧RowI w y.p y.r):=⟨hx,hy⟩
 clear hxl hyl hx hy
 cases hq:(x.n==y.n)
 ·have hfin:Hid (sameI x y=false):=by
   have:x.n≠y.n:=by simpa using hq
   simp[sameI,this,Hid]
  go_enter Tryz.func32,Tryz.ntmps32
  go_wp2
  go_ret
  exact ⟨by rw[hfin.out];rfl,((Gr.refl _).alloc _).alloc _⟩
 ·have hfin:Hid (sameI x y=decide (x.r=y.r)):=by
   have:x.n=y.n:=by simpa using hq
   simp[sameI,this,Hid]
  go_enter Tryz.func32,Tryz.ntmps32
  go_wp2_with fail
  refine (equalI_anyK x.r y.r x.p y.p x.c y.c _ hlH.out.1 hlH.out.2 (hrH.out.1.gr (((Gr.refl _).alloc _).alloc _)) (hrH.out.2.gr (((Gr.refl _).alloc _).alloc _))).mono ?_
  rintro e w' ⟨rfl,hg⟩
  have hgH:Hid (Gr w w'):=(((Gr.refl w).alloc _).alloc _).trans hg
  clear hg
  go_wp2
  go_ret
  exact ⟨by rw[hfin.out];rfl,hgH.out⟩
set_option maxHeartbeats 1000000 in
theorem equalF_any (a b:List Itm) (A B:Option Addr) (ca cb:Nat) (w:World) (hal:a.length≤maxLen) (ha:Items w A a) (hb:Items w B b) :
  Calls Tryz.prog 31 #[.slice A a.length ca,.slice B b.length cb,.func (.func 32) #[] #[]] w fun e w'=>e= .returned (.bool (decide (a.map Itm.z=b.map Itm.z)))∧Gr w w':=by
 unfold maxLen at hal
 have haH:Hid (Items w A a∧Items w B b):=⟨ha,hb⟩
 clear ha hb
 by_cases hlen:a.length=b.length
 ·have hlz:((a.length:Int) != (b.length:Int))=false:=by simp[hlen]
  have hlenH:Hid (a.length=b.length):=hlen
  clear hlen
  go_enter Tryz.func31,Tryz.ntmps31
  go_wp2
  go_loopw [17] (fun i wr=>∃k:Nat,k≤a.length∧i= .int .i64 k∧Hid (∀j (h1:j<a.length) (h2:j<b.length),j<k→sameI a[j] b[j]=true)∧Gr w wr) (fun i _=>a.length-(intOf i).toNat)
  case atStart=>exact ⟨0,Nat.zero_le _,rfl,fun j _ _ hj=>absurd hj (Nat.not_lt_zero _),Gr.refl _⟩
  case round =>
   obtain ⟨k,hk,rfl,hno,hgr⟩:=hrel
   by_cases hlt:k<a.length
   ·have hltz:(k:Int)<(a.length:Int):=by omega
    have hlt2:k<b.length:=by rw[←hlenH.out];exact hlt
    have hltz2:(k:Int)<(b.length:Int):=by omega
    have hI:Hid (Items wr A a∧Items wr B b):=⟨haH.out.1.gr hgr,haH.out.2.gr hgr⟩
    obtain ⟨bb,off,rfl,hb,hcs⟩:=hI.out.1.at hlt
    obtain ⟨bc,of2,rfl,hb2,hcs2⟩:=hI.out.2.at hlt2
    obtain ⟨x,hx⟩:∃x,a[k]=x:=⟨_,rfl⟩
    obtain ⟨y,hy⟩:∃y,b[k]=y:=⟨_,rfl⟩
    obtain ⟨e0,e1⟩:=hcs k hlt
    obtain ⟨f0,f1⟩:=hcs2 k hlt2
    rw[hx] at e0 e1
    rw[hy] at f0 f1
    have hxH:Hid (a[k]=x∧b[k]=y):=⟨hx,hy⟩
    have hxr:Hid (RowI wr x.p x.r∧x.r.length≤maxLen):=⟨(hI.out.1.each x (by rw[←hx];exact List.getElem_mem hlt)).1,(hI.out.1.each x (by rw[←hx];exact List.getElem_mem hlt)).2.1⟩
    have hyr:Hid (RowI wr y.p y.r∧y.r.length≤maxLen):=⟨(hI.out.2.each y (by rw[←hy];exact List.getElem_mem hlt2)).1,(hI.out.2.each y (by rw[←hy];exact List.getElem_mem hlt2)).2.1⟩
    clear hcs hcs2 hx hy
    go_wp2_with fail
    have hg0:Hid (Gr wr ((wr.alloc (.cells #[.slice x.p x.r.length x.c,.int .i64 x.n] 90)).alloc (.cells #[.slice y.p y.r.length y.c,.int .i64 y.n] 90))):=((Gr.refl _).alloc _).alloc _
    refine (same1_any x y _ hxr.out.2 hyr.out.2 (hxr.out.1.gr hg0.out) (hyr.out.1.gr hg0.out)).mono ?_
    rintro e w2 ⟨rfl,hg2⟩
    have hgw:Hid (Gr w w2):=(hgr.trans hg0.out).trans hg2
    clear hg0 hg2
    cases hq:sameI x y
    ·have hfin:Hid (decide (a.map Itm.z=b.map Itm.z)=false):=by
      refine decide_eq_false fun h=> ?_
      have h2:(a.map Itm.z)[k]? = (b.map Itm.z)[k]? := by rw[h]
      rw[List.getElem?_map,List.getElem?_map,List.getElem?_eq_getElem hlt,List.getElem?_eq_getElem hlt2,hxH.out.1,hxH.out.2] at h2
      have h3:x.z=y.z:=by simpa using h2
      rw[sameI_iff.2 h3] at hq;cases hq
     go_wp2
     go_ret
     exact ⟨by rw[hfin.out];rfl,hgw.out⟩
    ·go_wp2
     go_roundw
     case rel =>
      refine ⟨k+1,by omega,by go_num,?_,hgw.out⟩
      intro j hj hj2 hjk
      by_cases e:j=k
      ·subst e;rw[hxH.out.1,hxH.out.2];exact hq
      ·exact hno j hj hj2 (by omega)
     case measure=>simp[intOf];omega
   ·have hltz:¬(k:Int)<(a.length:Int):=by omega
    have hfin:Hid (decide (a.map Itm.z=b.map Itm.z)=true):=by
     refine decide_eq_true ?_
     refine List.ext_getElem (by simpa using hlenH.out) fun j h1 h2=> ?_
     have h1':j<a.length:=by simpa using h1
     have h2':j<b.length:=by simpa using h2
     rw[List.getElem_map,List.getElem_map]
     exact sameI_iff.1 (hno j h1' h2' (by omega))
    go_wp2
    go_ret
    exact ⟨by rw[hfin.out];rfl,hgr⟩
 ·have hlz:((a.length:Int) != (b.length:Int))=true:=by simp;omega
  have hfin:Hid (decide (a.map Itm.z=b.map Itm.z)=false):=by
   refine decide_eq_false fun h=>hlen ?_
   have:=congrArg List.length h
   simpa using this
  clear hlen
  go_enter Tryz.func31,Tryz.ntmps31
  go_wp2
  go_ret
  exact ⟨by rw[hfin.out];rfl,Gr.refl _⟩
set_option maxHeartbeats 1000000 in
theorem sameS_any (a b:List Itm) (A B:Option Addr) (ca cb:Nat) (w:World) (hal:a.length≤maxLen) (ha:Items w A a) (hb:Items w B b) :
  Calls Tryz.prog 20 #[.slice A a.length ca,.slice B b.length cb] w fun e w'=>e= .returned (.bool (decide (a.map Itm.z=b.map Itm.z)))∧Gr w w':=by
 have hH:Hid _:=equalF_any a b A B ca cb w hal ha hb
 obtain ⟨r,hr⟩:∃r,decide (a.map Itm.z=b.map Itm.z)=r:=⟨_,rfl⟩
 rw[hr] at hH ⊢
 clear hr hal ha hb
 go_enter Tryz.func20,Tryz.ntmps20
 go_wp2_with fail
 refine Calls.mono (show Calls _ _ _ _ _ from hH.out) ?_
 rintro e w' ⟨rfl,hg⟩
 go_wp2
 go_ret
 exact ⟨rfl,hg⟩

end Go.Proofs.YtkadjjmkokhldaaGreat

namespace Go.Proofs.YtkadjjmkokhldaaGreat
open Go.ChangeShapes Go.WideShapes Go.ChangeAt Go.RowKit Go.Deep

theorem ownK:ownKnob Tryz.prog.godebug=none:=by kernel_rfl
theorem laidAll:laidOutB Tryz.prog=true:=by kernel_rfl

variable {H:Type} {enc:TypeId×Value→H} {W:World}

set_option maxRecDepth 100000 in
theorem open_dots {fuel:Nat} {cs:List Value} {x:DataW H×List MemPlace} (h:DataW.trod enc Tryz.prog W 0 (fun _=>true) true fuel 32 cs=some x) :
  ∃A cap l,cs=[.slice A l.length cap]∧(A=none→cap=0)∧Row W A l∧l.length≤maxLen:=by
 rcases open_slice_pairs Tryz.underlying32 Tryz.underlying52 (by kernel_rfl) rfl rfl (by kernel_rfl) (by kernel_rfl) h with ⟨hcs,_⟩|⟨a,len,cap,m,n,V0,V1,D0,D1,P0,P1,hcs,_,hl,hm,hmm,_,hx⟩
 ·exact ⟨none,0,[],hcs,fun _=>rfl,Or.inl rfl,by simp⟩
 ·have hlm:len≤m:=by rw[hmm];simp;exact hl
  obtain ⟨Z,hZ⟩:=choose_lt (α := Int×Int) (n:=len) (p:=fun i z=>W.cell? (a.add (i*2))=some (.int .i64 z.1)∧W.cell? (a.add (i*2+1))=some (.int .i64 z.2)) (fun i hi=>by
   obtain ⟨c0,c1,t0,t1⟩:=hx i (by omega)
   obtain ⟨z0,e0,_⟩:=DataW.trod_int Tryz.underlying3 t0
   obtain ⟨z1,e1,_⟩:=DataW.trod_int Tryz.underlying3 t1
   simp only[List.cons.injEq,and_true] at e0 e1
   exact ⟨(z0,z1),by rw[c0,e0],by rw[c1,e1]⟩)
  refine ⟨some a,cap,(List.range len).map Z,by rw[hcs];simp,(fun h=>by cases h),?_,by simp;omega⟩
  by_cases h0:len=0
  ·exact Or.inl (by rw[h0];rfl)
  ·have hc0:=(hZ 0 (by omega)).1
   obtain ⟨b,off,spot⟩:=a
   have hspot:spot=none:=by simpa[Addr.add] using World.cell?_spot hc0
   subst hspot
   refine Or.inr ⟨b,off,rfl,?_,fun j hj=> ?_⟩
   ·have:=World.block_lt_of_cell? W _ hc0
    simpa[Addr.add_lit] using this
   ·have hj':j<len:=by simpa using hj
    have:=hZ j hj'
    simp only[Addr.add_lit,←Nat.add_assoc] at this
    simpa using this

end Go.Proofs.YtkadjjmkokhldaaGreat
