/-
  Sets with weights are a group.
  zset.Norm: the set of a list.
  zset.Add: two sets together.
-/
import Derived.Test.YtkadjjmkokhldaaGreatM11
namespace Go.Proofs.YtkadjjmkokhldaaGreat

theorem insZ_len {x:Zit}:∀ {S:List Zit},(insZ x S).length≤S.length+1
 | []=>by
  unfold insZ
  by_cases e:x.2=0
  ·rw[if_pos e];simp
  ·rw[if_neg e];simp
 | y::t=>by
  unfold insZ
  by_cases h1:cmpL x.1 y.1<0
  ·rw[if_pos h1]
   by_cases e:x.2=0
   ·rw[if_pos e];simp
   ·rw[if_neg e];simp
  ·rw[if_neg h1]
   by_cases h2:cmpL x.1 y.1=0
   ·rw[if_pos h2]
    by_cases e:x.2+y.2=0
    ·rw[if_pos e];simp;omega
    ·rw[if_neg e];simp
   ·rw[if_neg h2]
    have:= @insZ_len x t
    simp;omega
theorem totL_len:∀l:List Zit,(totL l).length≤l.length
 | []=>by simp[totL]
 | x::t=>by
  have h1:=totL_len t
  have h2:= @insZ_len x (totL t)
  show (insZ x (totL t)).length≤_
  simp;omega
theorem normE_parts {l:List Zit} (h:normE l=0):l.length≤400∧(∀x∈l,okR x.1=true∧okW x.2=true)∧totE l=0:=by
 unfold normE at h
 by_cases h4:400<l.length
 ·rw[if_pos h4] at h;cases h
 ·rw[if_neg h4] at h
  by_cases ha:l.all (fun x=>okR x.1 && okW x.2)=true
  ·rw[if_pos ha] at h
   exact ⟨by omega,fun x hx=>by simpa using List.all_eq_true.1 ha x hx,h⟩
  ·rw[if_neg ha] at h;cases h
theorem norm_ok {l:List Zit} (h:normE l=0):normL l=totL l∧errZ (totL l)=0:=by
 have p:=normE_parts h
 refine ⟨by unfold normL;rw[if_pos h],(errZ_iff _).2 ⟨Nat.le_trans (totL_len l) p.1,?_,(totL_is l).rise⟩⟩
 exact (totL_is l).okZ (totE_zero p.2.2) fun x hx=>(p.2.1 x hx).1
theorem add_comm {a b:List Zit} (h:addE a b=0):addE b a=0∧addL a b=addL b a:=by
 have hs:∀r,wt (b++a) r=wt (a++b) r:=fun r=>by rw[wt_append,wt_append];omega
 have e:addE b a=0:=by
  unfold addE at h ⊢
  by_cases ha:errZ a=0
  ·rw[if_pos ha] at h
   by_cases hb:errZ b=0
   ·rw[if_pos hb] at h
    rw[if_pos hb,if_pos ha,totE_same hs,totL_same hs];exact h
   ·rw[if_neg hb] at h;exact absurd h hb
  ·rw[if_neg ha] at h;exact absurd h ha
 refine ⟨e,?_⟩
 unfold addL
 rw[if_pos h,if_pos e,totL_same hs]
theorem add_is {a b:List Zit} (h:addE a b=0):addL a b=totL (a++b):=by unfold addL;rw[if_pos h]
theorem add_assoc {a b c:List Zit} (h1:addE a b=0) (h2:addE b c=0) (h:addE (addL a b) c=addE a (addL b c)):addL (addL a b) c=addL a (addL b c):=by
 have hs:∀r,wt (addL a b++c) r=wt (a++addL b c) r:=fun r=>by
  rw[add_is h1,add_is h2,wt_append,wt_append,(totL_is _).same,(totL_is _).same,wt_append,wt_append];omega
 have e:∀x y,addL x y=if addE x y=0 then totL (x++y) else []:=fun _ _=>rfl
 rw[e (addL a b) c,e a (addL b c),h,totL_same hs]

end Go.Proofs.YtkadjjmkokhldaaGreat

namespace Go.Proofs.YtkadjjmkokhldaaGreat
open Go.RowKit Go.Sort

theorem normE_form {l:List Itm} {k:Nat} (h4:¬ 400<l.length) (hk:k<l.length) (h:(okR l[k].r && okW l[k].n)=false):normE (l.map Itm.z)=5:=by
 unfold normE
 rw[if_neg (by simpa using h4),if_neg]
 intro ha
 have:=List.all_eq_true.1 ha l[k].z (List.mem_map.2 ⟨l[k],List.getElem_mem hk,rfl⟩)
 unfold Itm.z at this
 rw[h] at this;cases this
theorem normE_all {l:List Itm} (h4:¬ 400<l.length) (h:∀j (h:j<l.length),okR l[j].r=true∧okW l[j].n=true):normE (l.map Itm.z)=totE (l.map Itm.z):=by
 unfold normE
 rw[if_neg (by simpa using h4),if_pos]
 rw[List.all_eq_true]
 intro x hx
 obtain ⟨y,hy,rfl⟩:=List.mem_map.1 hx
 obtain ⟨j,hj,rfl⟩:=List.mem_iff_getElem.1 hy
 have:=h j hj
 simp[Itm.z,this.1,this.2]
theorem normL_no {l:List Zit} (h:normE l≠0):normL l=[]:=by unfold normL;rw[if_neg h]

set_option maxRecDepth 100000 in
set_option maxHeartbeats 2000000 in
theorem norm_new (l:List Itm) (A:Option Addr) (cap:Nat) (w:World) (hl:l.length≤maxLen) (hA:A=none→cap=0) (hr:Items w A l) :
  Calls Tryz.prog 140 #[.slice A l.length cap] w fun e w'=>∃(L:List Itm) (C:Option Addr) (c:Nat),e= .returned (.tuple #[.slice C L.length c,.int .i64 (normE (l.map Itm.z))])∧L.map Itm.z=normL (l.map Itm.z)∧Items w' C L∧NilC C L.length c∧Below w.heap.size w w'∧NwT w' c w.heap.size C L:=by
 have mixed:Tryz.prog.follows .mixedOrders=true:=by kernel_rfl
 unfold maxLen at hl
 have hrH:Hid (Items w A l∧(A=none→cap=0)):=⟨hr,hA⟩
 clear hr hA
 by_cases h4:400<l.length
 ·have e:Hid (normE (l.map Itm.z)=2):=by show _=_;unfold normE;rw[if_pos (by simpa using h4)]
  have e2:Hid (normL (l.map Itm.z)=[]):=normL_no (by rw[e.out];decide)
  have h4z:(400:Int)<(l.length:Int):=by omega
  go_enter Tryz.func140,Tryz.ntmps140
  go_wp2
  go_ret2
  exact ⟨[],none,0,by rw[e.out];rfl,by rw[e2.out];rfl,⟨Or.inl rfl,fun x hx=>by cases hx⟩,fun _=>rfl,Below.refl _ _,NwT.none _ _⟩
 ·have h4z:¬(400:Int)<(l.length:Int):=by omega
  go_enter Tryz.func140,Tryz.ntmps140
  go_wp2
  go_loopw [11] (fun i wr=>∃k:Nat,k≤l.length∧i= .int .i64 k∧Hid (∀j (h:j<l.length),j<k→okR l[j].r=true∧okW l[j].n=true)∧Gr w wr) (fun i _=>l.length-(intOf i).toNat)
  case atStart=>exact ⟨0,by omega,rfl,fun j _ h=>by omega,Gr.refl _⟩
  case round =>
   rename World=>wr0
   obtain ⟨k,hk,rfl,hall,hgr⟩:=hrel
   by_cases hlt:k<l.length
   ·have hltz:(k:Int)<(l.length:Int):=by omega
    have hrR:Hid (Items wr0 A l):=hrH.out.1.gr hgr
    obtain ⟨b,off,rfl,hb,hcs⟩:=hrR.out.at hlt
    obtain ⟨x,hx⟩:∃x,l[k]=x:=⟨_,rfl⟩
    obtain ⟨e0,e1⟩:=hcs k hlt
    rw[hx] at e0 e1
    have hxH:Hid (l[k]=x):=hx
    have hxr:Hid (RowI wr0 x.p x.r∧x.r.length≤maxLen):=⟨(hrR.out.each x (by rw[←hx];exact List.getElem_mem hlt)).1,(hrR.out.each x (by rw[←hx];exact List.getElem_mem hlt)).2.1⟩
    clear hcs hx
    have hgX:Gr wr0 (wr0.alloc (.cells #[.slice x.p x.r.length x.c,.int .i64 x.n] 90)):=(Gr.refl _).alloc _
    have x0:(wr0.alloc (.cells #[.slice x.p x.r.length x.c,.int .i64 x.n] 90)).cell? ⟨wr0.heap.size,0,none⟩=some (.slice x.p x.r.length x.c):=box1 (Gr.refl _) rfl
    have x1:(wr0.alloc (.cells #[.slice x.p x.r.length x.c,.int .i64 x.n] 90)).cell? ⟨wr0.heap.size,1,none⟩=some (.int .i64 x.n):=box1 (Gr.refl _) rfl
    have hrow:=isRow_any x.r x.p x.c (wr0.alloc (.cells #[.slice x.p x.r.length x.c,.int .i64 x.n] 90)) hxr.out.2 (hxr.out.1.gr hgX)
    have hrowH:Hid _:=hrow
    clear hrow
    go_wp2_with fail
    refine Calls.mono (show Calls _ _ _ _ _ from hrowH.out) ?_
    rintro e w2 ⟨rfl,hg2⟩
    clear hrowH x0 x1
    have hgw2:Gr w w2:=(hgr.trans hgX).trans hg2
    have x0:w2.cell? ⟨wr0.heap.size,0,none⟩=some (.slice x.p x.r.length x.c):=box1 hg2 rfl
    have x1:w2.cell? ⟨wr0.heap.size,1,none⟩=some (.int .i64 x.n):=box1 hg2 rfl
    have hbadH:Hid ((okR x.r && okW x.n)=false→normE (l.map Itm.z)=5∧normL (l.map Itm.z)=[]):=fun h=>by
     have h5:=normE_form h4 hlt (by rw[hxH.out];exact h)
     exact ⟨h5,normL_no (by rw[h5];decide)⟩
    cases hrb:okR x.r
    ·have hfin:Hid (normE (l.map Itm.z)=5∧normL (l.map Itm.z)=[]):=hbadH.out (by simp[hrb])
     go_wp2
     go_ret2
     exact ⟨[],none,0,by rw[hfin.out.1];rfl,by rw[hfin.out.2];rfl,⟨Or.inl rfl,fun x hx=>by cases hx⟩,fun _=>rfl,hgw2.below,NwT.none _ _⟩
    ·have hwt:=isWeight_any x.n w2
     cases hwb:okW x.n
     ·have hfin:Hid (normE (l.map Itm.z)=5∧normL (l.map Itm.z)=[]):=hbadH.out (by simp[hwb])
      rw[hwb] at hwt
      have hwtH:Hid _:=hwt
      clear hwt
      go_wp2_with (go_at_call 105;(refine Calls.mono (show Calls _ _ _ _ _ from hwtH.out) ?_);rintro e w' ⟨rfl,rfl⟩)
      go_ret2
      exact ⟨[],none,0,by rw[hfin.out.1];rfl,by rw[hfin.out.2];rfl,⟨Or.inl rfl,fun x hx=>by cases hx⟩,fun _=>rfl,hgw2.below,NwT.none _ _⟩
     ·rw[hwb] at hwt
      have hwtH:Hid _:=hwt
      clear hwt
      have hoka:Hid (okR l[k].r=true∧okW l[k].n=true):=by show _∧_;rw[hxH.out];exact ⟨hrb,hwb⟩
      go_wp2_with (go_at_call 105;(refine Calls.mono (show Calls _ _ _ _ _ from hwtH.out) ?_);rintro e w' ⟨rfl,rfl⟩)
      go_roundw
      case rel =>
       refine ⟨k+1,hlt,by go_num,?_,hgw2⟩
       intro j hj hjk
       by_cases e:j=k
       ·subst e;exact hoka.out
       ·exact hall j hj (by omega)
      case measure=>simp[intOf];omega
   ·have hltz:¬(k:Int)<(l.length:Int):=by omega
    have hokA:Hid (∀j (h:j<l.length),okR l[j].r=true∧okW l[j].n=true):=fun j h=>hall j h (by omega)
    have hfin:Hid (normE (l.map Itm.z)=totE (l.map Itm.z)∧normL (l.map Itm.z)=totR (l.map Itm.z)):=by
     have h1:=normE_all h4 hokA.out
     refine ⟨h1,?_⟩
     unfold normL totR
     rw[h1]
    have htt:=total_one_new l A cap wr0 hrH.out.2 (hrH.out.1.gr hgr) (by omega) (fun x hx=>by
     obtain ⟨j,hj,rfl⟩:=List.mem_iff_getElem.1 hx
     have:=hokA.out j hj
     refine ⟨this.2,?_⟩
     have h8:=this.1
     simp only[okR,Bool.and_eq_true,decide_eq_true_eq] at h8
     exact h8.1)
    have httH:Hid _:=htt
    clear hall htt
    go_wp2_with fail
    refine Calls.mono (show Calls _ _ _ _ _ from httH.out) ?_
    rintro e w3 ⟨L,C,c,rfl,h1,h2,h3,h4,h5⟩
    have hNw:Hid (NwT w3 c w.heap.size C L):=h5.mono hgr.size
    have hfin2:Hid (L.map Itm.z=normL (l.map Itm.z)∧Items w3 C L∧NilC C L.length c∧Below w.heap.size w w3):=⟨by rw[h1,hfin.out.2],h2,h3,hgr.below.trans (h4.mono hgr.size)⟩
    clear h1 h2 h3 h4 h5 httH
    go_wp2
    go_ret2
    exact ⟨L,C,c,by rw[hfin.out.1];rfl,hfin2.out.1,hfin2.out.2.1,hfin2.out.2.2.1,hfin2.out.2.2.2,hNw.out⟩
end Go.Proofs.YtkadjjmkokhldaaGreat

namespace Go.Proofs.YtkadjjmkokhldaaGreat
open Go.RowKit Go.Sort

theorem addE_a {a b:List Zit} (h:errZ a≠0):addE a b=errZ a∧addL a b=[]:=by
 have e:addE a b=errZ a:=by unfold addE;rw[if_neg h]
 exact ⟨e,by unfold addL;rw[e,if_neg h]⟩
theorem addE_b {a b:List Zit} (ha:errZ a=0) (h:errZ b≠0):addE a b=errZ b∧addL a b=[]:=by
 have e:addE a b=errZ b:=by unfold addE;rw[if_pos ha,if_neg h]
 exact ⟨e,by unfold addL;rw[e,if_neg h]⟩
theorem addE_t {a b:List Zit} (ha:errZ a=0) (hb:errZ b=0) (h:totE (a++b)≠0):addE a b=totE (a++b)∧addL a b=[]:=by
 have e:addE a b=totE (a++b):=by unfold addE;rw[if_pos ha,if_pos hb,if_neg h]
 exact ⟨e,by unfold addL;rw[e,if_neg h]⟩
theorem addE_l {a b:List Zit} (ha:errZ a=0) (hb:errZ b=0) (h:totE (a++b)=0) (hl:400<(totL (a++b)).length):addE a b=2∧addL a b=[]:=by
 have e:addE a b=2:=by unfold addE;rw[if_pos ha,if_pos hb,if_pos h,if_pos hl]
 exact ⟨e,by unfold addL;rw[e,if_neg (by decide)]⟩
theorem addE_o {a b:List Zit} (ha:errZ a=0) (hb:errZ b=0) (h:totE (a++b)=0) (hl:¬ 400<(totL (a++b)).length):addE a b=0∧addL a b=totL (a++b):=by
 have e:addE a b=0:=by unfold addE;rw[if_pos ha,if_pos hb,if_pos h,if_neg hl]
 exact ⟨e,by unfold addL;rw[if_pos e]⟩
theorem errZ_okW {l:List Itm} (h:errZ (l.map Itm.z)=0):l.length≤400∧∀x∈l,okW x.n=true∧x.r.length≤8:=by
 have h1:=(errZ_iff _).1 h
 refine ⟨by simpa using h1.1,fun x hx=> ?_⟩
 have h2:=okZ_parts (h1.2.1 x.z (List.mem_map.2 ⟨x,hx,rfl⟩))
 have h8:=h2.1
 simp only[okR,Bool.and_eq_true,decide_eq_true_eq] at h8
 exact ⟨h2.2.1,h8.1⟩

set_option maxRecDepth 100000 in
set_option maxHeartbeats 2000000 in
theorem add_new (a b:List Itm) (A B:Option Addr) (ca cb:Nat) (w:World) (hal:a.length≤maxLen) (hbl:b.length≤maxLen) (hA:A=none→ca=0) (hB:B=none→cb=0) (hra:Items w A a) (hrb:Items w B b) :
  Calls Tryz.prog 69 #[.slice A a.length ca,.slice B b.length cb] w fun e w'=>∃(L:List Itm) (C:Option Addr) (c:Nat),e= .returned (.tuple #[.slice C L.length c,.int .i64 (addE (a.map Itm.z) (b.map Itm.z))])∧L.map Itm.z=addL (a.map Itm.z) (b.map Itm.z)∧Items w' C L∧NilC C L.length c∧Below w.heap.size w w'∧NwT w' c w.heap.size C L:=by
 have hck:=checkZ_any a A ca w hal hra
 have hckH:Hid _:=hck
 have hrH:Hid (Items w A a∧Items w B b∧(A=none→ca=0)∧(B=none→cb=0)∧b.length≤maxLen):=⟨hra,hrb,hA,hB,hbl⟩
 clear hck hra hrb hA hB hal hbl
 go_enter Tryz.func69,Tryz.ntmps69
 go_wp2_with fail
 refine Calls.mono (show Calls _ _ _ _ _ from hckH.out) ?_
 rintro e w1 ⟨rfl,hg1⟩
 clear hckH
 obtain ⟨E,hE⟩:∃E,errZ (a.map Itm.z)=E:=⟨_,rfl⟩
 have hEH:Hid (errZ (a.map Itm.z)=E):=hE
 rw[hE]
 clear hE
 cases hq:(E != 0)
 ·have hE0:E=0:=by simpa using hq
  have h0H:Hid (errZ (a.map Itm.z)=0):=by show _=_;rw[hEH.out,hE0]
  subst hE0
  clear hEH
  have hck:=checkZ_any b B cb w1 hrH.out.2.2.2.2 (hrH.out.2.1.gr hg1)
  have hckH:Hid _:=hck
  clear hck
  go_wp2_with fail
  refine Calls.mono (show Calls _ _ _ _ _ from hckH.out) ?_
  rintro e w2 ⟨rfl,hg2⟩
  clear hckH
  obtain ⟨F,hF⟩:∃E,errZ (b.map Itm.z)=E:=⟨_,rfl⟩
  have hFH:Hid (errZ (b.map Itm.z)=F):=hF
  rw[hF]
  clear hF
  cases hq2:(F != 0)
  ·have hF0:F=0:=by simpa using hq2
   have k0H:Hid (errZ (b.map Itm.z)=0):=by show _=_;rw[hFH.out,hF0]
   subst hF0
   clear hFH
   have hgw:Gr w w2:=hg1.trans hg2
   have htt:=total_two_new a b A B ca cb w2 hrH.out.2.2.1 hrH.out.2.2.2.1 (hrH.out.1.gr hgw) (hrH.out.2.1.gr hgw) (errZ_okW h0H.out).1 (errZ_okW k0H.out).1 (errZ_okW h0H.out).2 (errZ_okW k0H.out).2
   have httH:Hid _:=htt
   clear htt
   go_wp2_with fail
   refine Calls.mono (show Calls _ _ _ _ _ from httH.out) ?_
   rintro e w3 ⟨L,C,c,rfl,h1,h2,h3,h4,h5⟩
   have hNw:Hid (NwT w3 c w.heap.size C L):=h5.mono hgw.size
   have hfin2:Hid (L.map Itm.z=totR (a.map Itm.z++b.map Itm.z)∧Items w3 C L∧NilC C L.length c∧Below w.heap.size w w3):=⟨h1,h2,h3,hgw.below.trans (h4.mono hgw.size)⟩
   clear h1 h2 h3 h4 h5 httH
   obtain ⟨G,hG⟩:∃G,totE (a.map Itm.z++b.map Itm.z)=G:=⟨_,rfl⟩
   have hGH:Hid (totE (a.map Itm.z++b.map Itm.z)=G):=hG
   rw[hG]
   clear hG
   cases hq3:(G != 0)
   ·have hG0:G=0:=by simpa using hq3
    have g0H:Hid (totE (a.map Itm.z++b.map Itm.z)=0):=by show _=_;rw[hGH.out,hG0]
    subst hG0
    clear hGH
    have hLt:Hid (L.map Itm.z=totL (a.map Itm.z++b.map Itm.z)):=by show _=_;rw[hfin2.out.1,totR_ok g0H.out]
    have hLl:Hid ((totL (a.map Itm.z++b.map Itm.z)).length=L.length):=by show _=_;rw[←hLt.out,List.length_map]
    by_cases h4:400<L.length
    ·have h4z:(400:Int)<(L.length:Int):=by omega
     have hfin:=addE_l h0H.out k0H.out g0H.out (by rw[hLl.out];exact h4)
     have hfinH:Hid (addE (a.map Itm.z) (b.map Itm.z)=2∧addL (a.map Itm.z) (b.map Itm.z)=[]):=hfin
     clear hfin
     go_wp2
     go_ret2
     exact ⟨[],none,0,by rw[hfinH.out.1];rfl,by rw[hfinH.out.2];rfl,⟨Or.inl rfl,fun x hx=>by cases hx⟩,fun _=>rfl,hfin2.out.2.2.2,NwT.none _ _⟩
    ·have h4z:¬(400:Int)<(L.length:Int):=by omega
     have hfin:=addE_o h0H.out k0H.out g0H.out (by rw[hLl.out];exact h4)
     have hfinH:Hid (addE (a.map Itm.z) (b.map Itm.z)=0∧addL (a.map Itm.z) (b.map Itm.z)=totL (a.map Itm.z++b.map Itm.z)):=hfin
     clear hfin
     go_wp2
     go_ret2
     exact ⟨L,C,c,by rw[hfinH.out.1];rfl,by rw[hfinH.out.2];exact hLt.out,hfin2.out.2.1,hfin2.out.2.2.1,hfin2.out.2.2.2,hNw.out⟩
   ·have hG0:G≠0:=by simpa using hq3
    have hfinH:Hid (addE (a.map Itm.z) (b.map Itm.z)=G∧addL (a.map Itm.z) (b.map Itm.z)=[]):=by
     have:=addE_t h0H.out k0H.out (by rw[hGH.out];exact hG0)
     rw[hGH.out] at this
     exact this
    clear hG0
    go_wp2
    go_ret2
    exact ⟨[],none,0,by rw[hfinH.out.1];rfl,by rw[hfinH.out.2];rfl,⟨Or.inl rfl,fun x hx=>by cases hx⟩,fun _=>rfl,hfin2.out.2.2.2,NwT.none _ _⟩
  ·have hF0:F≠0:=by simpa using hq2
   have hfin:Hid (addE (a.map Itm.z) (b.map Itm.z)=F∧addL (a.map Itm.z) (b.map Itm.z)=[]):=by
    have:=addE_b (b:=b.map Itm.z) h0H.out (by rw[hFH.out];exact hF0)
    rw[hFH.out] at this
    exact this
   have hbw:Hid (Below w.heap.size w w2):=(hg1.trans hg2).below
   clear hF0
   go_wp2
   go_ret2
   exact ⟨[],none,0,by rw[hfin.out.1];rfl,by rw[hfin.out.2];rfl,⟨Or.inl rfl,fun x hx=>by cases hx⟩,fun _=>rfl,hbw.out,NwT.none _ _⟩
 ·have hE0:E≠0:=by simpa using hq
  have hfin:Hid (addE (a.map Itm.z) (b.map Itm.z)=E∧addL (a.map Itm.z) (b.map Itm.z)=[]):=by
   have:=addE_a (b:=b.map Itm.z) (show errZ (a.map Itm.z)≠0 by rw[hEH.out];exact hE0)
   rw[hEH.out] at this
   exact this
  have hbw:Hid (Below w.heap.size w w1):=hg1.below
  clear hE0
  go_wp2
  go_ret2
  exact ⟨[],none,0,by rw[hfin.out.1];rfl,by rw[hfin.out.2];rfl,⟨Or.inl rfl,fun x hx=>by cases hx⟩,fun _=>rfl,hbw.out,NwT.none _ _⟩
theorem add_any (a b:List Itm) (A B:Option Addr) (ca cb:Nat) (w:World) (hal:a.length≤maxLen) (hbl:b.length≤maxLen) (hA:A=none→ca=0) (hB:B=none→cb=0) (hra:Items w A a) (hrb:Items w B b) :
  Calls Tryz.prog 69 #[.slice A a.length ca,.slice B b.length cb] w fun e w'=>∃(L:List Itm) (C:Option Addr) (c:Nat),e= .returned (.tuple #[.slice C L.length c,.int .i64 (addE (a.map Itm.z) (b.map Itm.z))])∧L.map Itm.z=addL (a.map Itm.z) (b.map Itm.z)∧Items w' C L∧NilC C L.length c∧Below w.heap.size w w':=by
 refine (add_new a b A B ca cb w hal hbl hA hB hra hrb).mono ?_
 rintro e w' ⟨L,C,c,h1,h2,h3,h4,h5,_⟩
 exact ⟨L,C,c,h1,h2,h3,h4,h5⟩

end Go.Proofs.YtkadjjmkokhldaaGreat
