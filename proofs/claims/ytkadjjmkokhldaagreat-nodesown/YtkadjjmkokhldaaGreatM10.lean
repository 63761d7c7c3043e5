/-
  slices.Grow of nothing, and slices.Concat, at items.
  zset.Check: it says what is wrong with a set.
  zset.copyRow: the same numbers, in memory of their own.
-/
import Derived.Test.YtkadjjmkokhldaaGreatM08
import Derived.Lib.AppendZeros
namespace Go.Proofs.YtkadjjmkokhldaaGreat
open Go.RowKit Go.Sort

theorem wpList_append_ts (w:World) {ops:Array Oper} {rest:List Oper} {o:Oper} {a:Act} {Q:Exit→Act→World→Prop} (hgd:o.guard=none) (s x:Operand)
  (ho:o.op= .call { callee:= .builtin .append,args:= #[s,x],argTypes:= #[62,62] })
  (base:Nat) (v:Value) (l m:List Itm) (A:Option Addr) (cap:Nat) (hs:a.eval s=v) (hx:a.eval x= .slice A m.length cap) (hown:OwnG encT 2 90 w base v l) (hr:RowG encT 2 w A m) (hA:A=none→cap=0)
  (hml:l.length+m.length≤maxLen) (hb:(l.length+m.length)*32≤140737488355328) (hbase:base≤w.heap.size)
  (h:∀v' w',OwnG encT 2 90 w' base v' (l++m)→w.grownBy w' v.ownBlock→wpList Tryz.prog ops Q rest (a.put o.dst v') w'):wpList Tryz.prog ops Q (o::rest) a w :=
 wpList_plain hgd fun _ hK=>wp_append_g encT_len encT_one (by omega) 62 Tryz.underlying62 (.agg #[.slice none 0 0,.int .i64 0]) 32 Tryz.infoT rfl w s x ho base v l m A cap hs hx hown hr hA hml hb hbase fun v' w' h2 h3=>hK _ _ (h v' w' h2 h3)
set_option maxRecDepth 100000 in
set_option maxHeartbeats 1000000 in
theorem grow_any (n:Nat) (w:World) (hn:n≤100000) :
  Calls Tryz.prog 138 #[.slice none 0 0,.int .i64 n] w fun e w'=>∃v,e= .returned v∧OwnG encT 2 90 w' w.heap.size v []∧Below w.heap.size w w':=by
 obtain ⟨i0,hi,hz0,hz1,hz2⟩:=info_parts Tryz.infoT
 by_cases h0:n=0
 ·subst h0
  go_enter Tryz.func138,Tryz.ntmps138
  go_wp2
  go_ret
  exact ⟨_,rfl,OwnG.nil _ _ _ _ _,Below.refl _ _⟩
 ·have hpos:(0:Int)<(n:Int):=by omega
  go_enter Tryz.func138,Tryz.ntmps138
  have hrun:=fun ty=>Lib.run_append_nil_zeros (P:=Tryz.prog) w 62 3 ty 90 i0 _ .i64 .i64 Tryz.underlying62 Tryz.underlying3 hi hz0 n (by omega) (by omega) (by omega) (by rw[hz2];omega)
  have hfin:Hid (OwnG encT 2 90 (w.drew.alloc (.cells (Builtin.zeroCells (Value.agg #[.slice none 0 0,.int .i64 0]).cells n++Builtin.zeroCells (Value.agg #[.slice none 0 0,.int .i64 0]).cells (grownCap w n 0 90-n)) 90)) w.heap.size (.slice (some ⟨w.heap.size,0,none⟩) 0 (grownCap w n 0 90)) []∧Below w.heap.size w (w.drew.alloc (.cells (Builtin.zeroCells (Value.agg #[.slice none 0 0,.int .i64 0]).cells n++Builtin.zeroCells (Value.agg #[.slice none 0 0,.int .i64 0]).cells (grownCap w n 0 90-n)) 90))):=by
   refine ⟨⟨by simp[flatG],.inr ⟨w.heap.size,_,_,rfl,Nat.le_refl _,heap_alloc_new w.drew _,Nat.zero_le _,grownCap_le_maxLen _ _ _ _ (by unfold maxLen;omega),?_,by simp[flatG]⟩⟩,((Gr.refl w).drew.alloc _).below⟩
   have h1:=grownCap_ge w n 0 90
   have e1:(Value.agg #[.slice none 0 0,.int .i64 0]).cells.size=2:=rfl
   rw[Array.size_append,size_zeroCells,size_zeroCells,e1];omega
  have hle:Hid (n≤grownCap w n 0 90∧grownCap w n 0 90≤9223372036854775807):=⟨grownCap_ge _ _ _ _,grownCap_le_maxLen _ _ _ _ (by unfold maxLen;omega)⟩
  go_wp2_with (at_builtin;refine Lib.wpList_append_run _ rfl _ _ _ _ rfl _ _ rfl rfl _ _ (hrun _) ?_)
  go_ret
  exact ⟨_,rfl,hfin.out.1,hfin.out.2⟩

/-- A list of items as a value. -/
structure Sl where
 A:Option Addr
 cap:Nat
 l:List Itm
def encS (x:Sl):List Value:=[.slice x.A x.l.length x.cap]
theorem flat_len {ss:List Sl} (h:ss.length≤2) (hl:∀s∈ss,s.l.length≤400):(ss.flatMap (·.l)).length≤800:=by
 match ss,h with
 | [],_=>simp
 | [a],_=>have:=hl a (by simp);simp;omega
 | [a,b],_=>have h1:=hl a (by simp);have h2:=hl b (by simp);simp;omega
theorem flat_take {ss:List Sl} {k:Nat} (hk:k<ss.length):(ss.take (k+1)).flatMap (·.l)=(ss.take k).flatMap (·.l)++ss[k].l:=by
 rw[List.take_succ_eq_append_getElem hk,List.flatMap_append,List.flatMap_cons,List.flatMap_nil,List.append_nil]
theorem flat_le {ss:List Sl} (k:Nat):((ss.take k).flatMap (·.l)).length≤(ss.flatMap (·.l)).length:=by
 conv=>rhs;rw[←List.take_append_drop k ss,List.flatMap_append,List.length_append]
 omega

set_option maxRecDepth 100000 in
set_option maxHeartbeats 1000000 in
theorem concat_any (ss:List Sl) (B:Option Addr) (cb:Nat) (w:World) (hrow:RowG encS 1 w B ss) (hlen:ss.length≤2) (hss:∀s∈ss,RowG encT 2 w s.A s.l∧(s.A=none→s.cap=0)∧s.l.length≤400) :
  Calls Tryz.prog 111 #[.slice B ss.length cb] w fun e w'=>∃v,e= .returned v∧OwnG encT 2 90 w' w.heap.size v (ss.flatMap (·.l))∧Below w.heap.size w w':=by
 have hall:Hid ((ss.flatMap (·.l)).length≤800):=flat_len hlen fun s hs=>(hss s hs).2.2
 have hrH:Hid (RowG encS 1 w B ss∧∀s∈ss,RowG encT 2 w s.A s.l∧(s.A=none→s.cap=0)∧s.l.length≤400):=⟨hrow,hss⟩
 clear hrow hss
 go_enter Tryz.func111,Tryz.ntmps111
 go_wp2
 go_loopw [3,11] (fun n i wr=>∃k:Nat,k≤ss.length∧i= .int .i64 k∧n= .int .i64 (((ss.take k).flatMap (·.l)).length:Nat)∧wr=w) (fun _ i _=>ss.length-(intOf i).toNat)
 case atStart=>exact ⟨0,Nat.zero_le _,rfl,by simp,rfl⟩
 case round =>
  obtain ⟨k,hk,rfl,rfl,rfl⟩:=hrel
  by_cases hlt:k<ss.length
  ·have hltz:(k:Int)<(ss.length:Int):=by omega
   obtain ⟨b,off,rfl,hb,hcs⟩:=hrH.out.1.at hlt
   have e0:=hcs k hlt 0 (by omega)
   obtain ⟨s,hs⟩:∃s,ss[k]=s:=⟨_,rfl⟩
   rw[hs] at e0
   have e1:wr.cell? ⟨b,off+k,none⟩=some (.slice s.A s.l.length s.cap):=by simpa[encS] using e0
   have hst:Hid (((ss.take (k+1)).flatMap (·.l)).length=((ss.take k).flatMap (·.l)).length+s.l.length):=by show _=_;rw[flat_take hlt,hs,List.length_append]
   have hle:((ss.take (k+1)).flatMap (·.l)).length≤800:=Nat.le_trans (flat_le _) hall.out
   rw[hst.out] at hle
   obtain ⟨m,hm⟩:∃m,((ss.take k).flatMap (·.l)).length=m:=⟨_,rfl⟩
   rw[hm] at hle ⊢
   have hmH:Hid (((ss.take k).flatMap (·.l)).length=m):=hm
   clear hcs e0 hs hm
   have hw1:IntKind.i64.wrap ((m:Int)+(s.l.length:Int))=(m:Int)+(s.l.length:Int):=by rw[IntKind.wrap_i64];omega
   have hge:¬((m:Int)+(s.l.length:Int))<0:=by omega
   go_wp2
   go_roundw
   case rel =>
    refine ⟨k+1,by omega,by go_num,?_,by trivial⟩
    rw[hst.out,hmH.out];go_num
   case measure=>simp[intOf];omega
  ·have hltz:¬(k:Int)<(ss.length:Int):=by omega
   have hke:ss.take k=ss:=List.take_of_length_le (by omega)
   rw[hke]
   have hgw:=grow_any (ss.flatMap (·.l)).length wr (by have:=hall.out;omega)
   have hgwH:Hid _:=hgw
   clear hgw hke hlt hk
   obtain ⟨N,hN⟩:∃N,(ss.flatMap (·.l)).length=N:=⟨_,rfl⟩
   rw[hN] at hgwH ⊢
   clear hN
   go_wp2_with fail
   refine Calls.mono (show Calls _ _ _ _ _ from hgwH.out) ?_
   rintro e w1 ⟨v0,rfl,hown0,hb0⟩
   clear hgwH
   go_wp2
   go_loopw [6,27] (fun v i w2=>∃k:Nat,k≤ss.length∧i= .int .i64 k∧OwnG encT 2 90 w2 wr.heap.size v ((ss.take k).flatMap (·.l))∧Below wr.heap.size wr w2) (fun _ i _=>ss.length-(intOf i).toNat)
   case atStart=>exact ⟨0,Nat.zero_le _,rfl,by simpa using hown0,hb0⟩
   case round =>
    rename World=>w2
    obtain ⟨k,hk,rfl,hown,hbel⟩:=hrel
    by_cases hlt:k<ss.length
    ·have hltz:(k:Int)<(ss.length:Int):=by omega
     obtain ⟨b,off,rfl,hb,hcs⟩:=hrH.out.1.at hlt
     have e0:=hcs k hlt 0 (by omega)
     obtain ⟨s,hs⟩:∃s,ss[k]=s:=⟨_,rfl⟩
     rw[hs] at e0
     have e1:w2.cell? ⟨b,off+k,none⟩=some (.slice s.A s.l.length s.cap):=(hbel.cell (p:=⟨b,off+k,none⟩) hb).trans (by simpa[encS] using e0)
     have hst:Hid ((ss.take (k+1)).flatMap (·.l)=(ss.take k).flatMap (·.l)++s.l):=by show _=_;rw[flat_take hlt,hs]
     have hle:((ss.take (k+1)).flatMap (·.l)).length≤800:=Nat.le_trans (flat_le _) hall.out
     rw[hst.out,List.length_append] at hle
     have hsf:=hrH.out.2 s (by rw[←hs];exact List.getElem_mem hlt)
     obtain ⟨M,hM⟩:∃M,(ss.take k).flatMap (·.l)=M:=⟨_,rfl⟩
     rw[hM] at hown hst hle
     have hsH:Hid (RowG encT 2 w2 s.A s.l∧(s.A=none→s.cap=0)∧OwnG encT 2 90 w2 wr.heap.size u6 M∧M.length+s.l.length≤maxLen∧(M.length+s.l.length)*32≤140737488355328∧wr.heap.size≤w2.heap.size):=⟨hsf.1.below hbel,hsf.2.1,hown,by unfold maxLen;omega,by omega,hbel.size⟩
     have hbelH:Hid (Below wr.heap.size wr w2):=hbel
     clear hcs e0 hs hle hsf hM hown hbel
     go_wp2_with (at_builtin;refine wpList_append_ts _ rfl (.tmp 31) (.tmp 32) rfl wr.heap.size u6 M s.l s.A s.cap rfl rfl hsH.out.2.2.1 hsH.out.1 hsH.out.2.1 hsH.out.2.2.2.1 hsH.out.2.2.2.2.1 hsH.out.2.2.2.2.2 ?_;intro v3 w3 hown3 hg3)
     have hfin:Hid (Go.RowKit.Below wr.heap.size wr w3):=hbelH.out.trans (OwnG.grown_below hsH.out.2.2.1 hg3 hsH.out.2.2.2.2.2)
     go_roundw
     case rel=>exact ⟨k+1,by omega,by go_num,by rw[hst.out];exact hown3,hfin.out⟩
     case measure=>simp[intOf];omega
    ·have hltz:¬(k:Int)<(ss.length:Int):=by omega
     have hke:ss.take k=ss:=List.take_of_length_le (by omega)
     rw[hke] at hown
     have hfin:Hid (OwnG encT 2 90 w2 wr.heap.size u6 (ss.flatMap (·.l))∧Below wr.heap.size wr w2):=⟨hown,hbel⟩
     clear hown hbel hke
     go_wp2
     go_ret
     exact ⟨u6,rfl,hfin.out.1,hfin.out.2⟩

end Go.Proofs.YtkadjjmkokhldaaGreat

namespace Go.Proofs.YtkadjjmkokhldaaGreat
open Go.RowKit Go.Sort

theorem getZ {l:List Itm} {k:Nat} (h:k<l.length):(l.map Itm.z).getD k ([],0)=l[k].z:=by
 rw[List.getD_eq_getElem?_getD,List.getElem?_map,List.getElem?_eq_getElem h];rfl
/-- Is the item at k as it must be? -/
def okI (l:List Itm) (k:Nat):Bool:=okZ ((l.map Itm.z).getD k ([],0)) && incZ (l.map Itm.z) k
theorem okI_zero {l:List Itm} {x:Itm} (h:0<l.length) (hx:l[0]=x):okI l 0=okZ x.z:=by
 unfold okI incZ
 rw[getZ h,hx];simp
theorem okI_succ {l:List Itm} {m:Nat} {x y:Itm} (h:m+1<l.length) (hx:l[m+1]=x) (hy:l[m]=y):okI l (m+1)=(okZ x.z && decide (cmpL y.r x.r<0)):=by
 unfold okI incZ
 rw[getZ h,Nat.add_sub_cancel,getZ (show m<l.length by omega),hx,hy]
 simp[Itm.z]
 rfl
theorem errZ_form {l:List Itm} {k:Nat} (h4:¬ 400<l.length) (hk:k<l.length) (h:okI l k=false):errZ (l.map Itm.z)=5:=by
 unfold errZ
 rw[if_neg (by simpa using h4),if_pos ⟨k,by simpa using hk,h⟩]
theorem errZ_ok {l:List Itm} (h4:¬ 400<l.length) (h:∀k,k<l.length→okI l k=true):errZ (l.map Itm.z)=0:=by
 unfold errZ
 rw[if_neg (by simpa using h4),if_neg]
 rintro ⟨k,hk,hf⟩
 have:=h k (by simpa using hk)
 unfold okI at this
 rw[hf] at this;cases this
theorem orderR_g {a b:List Int} {A B:Option Addr} {ca cb:Nat} {r:Int} (h:cmpL a b=r) (w:World) (hal:a.length≤maxLen) (hra:RowI w A a) (hrb:RowI w B b) :
  Calls Tryz.prog 106 #[.slice A a.length ca,.slice B b.length cb] w fun e w'=>e= .returned (.int .i64 r)∧∃q os',w'=grow (w.drewN q) os':=by
 rw[←h];exact orderR_any a b A B ca cb w hal hra hrb

set_option maxHeartbeats 2000000 in
theorem checkZ_any (l:List Itm) (A:Option Addr) (cap:Nat) (w:World) (hl:l.length≤maxLen) (hr:Items w A l) :
  Calls Tryz.prog 84 #[.slice A l.length cap] w fun e w'=>e= .returned (.int .i64 (errZ (l.map Itm.z)))∧Gr w w':=by
 have mixed:Tryz.prog.follows .mixedOrders=true:=by kernel_rfl
 unfold maxLen at hl
 have hrH:Hid (Items w A l):=hr
 clear hr
 by_cases h4:400<l.length
 ·have e:errZ (l.map Itm.z)=2:=by unfold errZ;rw[if_pos (by simpa using h4)]
  rw[e];clear e
  have h4z:(400:Int)<(l.length:Int):=by omega
  go_enter Tryz.func84,Tryz.ntmps84
  go_wp2
  go_ret
  exact ⟨rfl,Gr.refl _⟩
 ·have h4z:¬(400:Int)<(l.length:Int):=by omega
  go_enter Tryz.func84,Tryz.ntmps84
  go_wp2
  go_loopw [10] (fun i wr=>∃k:Nat,k≤l.length∧i= .int .i64 k∧Hid (∀j,j<k→okI l j=true)∧Gr w wr) (fun i _=>l.length-(intOf i).toNat)
  case atStart=>exact ⟨0,by omega,rfl,fun j h=>by omega,Gr.refl _⟩
  case round =>
   rename World=>wr0
   obtain ⟨k,hk,rfl,hall,hgr⟩:=hrel
   by_cases hlt:k<l.length
   ·have hltz:(k:Int)<(l.length:Int):=by omega
    have hrR:Hid (Items wr0 A l):=hrH.out.gr hgr
    obtain ⟨b,off,rfl,hb,hcs⟩:=hrR.out.at hlt
    obtain ⟨x,hx⟩:∃x,l[k]=x:=⟨_,rfl⟩
    obtain ⟨e0,e1⟩:=hcs k hlt
    rw[hx] at e0 e1
    have hcsH:Hid (∀j (h:j<l.length),_):=hcs
    have hxH:Hid (l[k]=x):=hx
    have hxr:Hid (RowI wr0 x.p x.r∧x.r.length≤maxLen):=⟨(hrR.out.each x (by rw[←hx];exact List.getElem_mem hlt)).1,(hrR.out.each x (by rw[←hx];exact List.getElem_mem hlt)).2.1⟩
    clear hcs hx
    have hgX:Gr wr0 (wr0.alloc (.cells #[.slice x.p x.r.length x.c,.int .i64 x.n] 90)):=(Gr.refl _).alloc _
    have x0:(wr0.alloc (.cells #[.slice x.p x.r.length x.c,.int .i64 x.n] 90)).cell? ⟨wr0.heap.size,0,none⟩=some (.slice x.p x.r.length x.c):=box1 (Gr.refl _) rfl
    have x1:(wr0.alloc (.cells #[.slice x.p x.r.length x.c,.int .i64 x.n] 90)).cell? ⟨wr0.heap.size,1,none⟩=some (.int .i64 x.n):=box1 (Gr.refl _) rfl
    have hrow:=isRow_any x.r x.p x.c (wr0.alloc (.cells #[.slice x.p x.r.length x.c,.int .i64 x.n] 90)) hxr.out.2 (hxr.out.1.gr hgX)
    have hrowH:Hid _:=hrow
    clear hrow
    go_wp2_with fail
    refine Calls.mono (show Calls _ _ _ _ _ from hrowH.out) ?_
    rintro e w2 ⟨rfl,hg2⟩
    clear hrowH x0 x1
    have hgw2:Gr w w2:=(hgr.trans hgX).trans hg2
    have x0:w2.cell? ⟨wr0.heap.size,0,none⟩=some (.slice x.p x.r.length x.c):=box1 hg2 rfl
    have x1:w2.cell? ⟨wr0.heap.size,1,none⟩=some (.int .i64 x.n):=box1 hg2 rfl
    have hbadH:Hid (okZ x.z=false→errZ (l.map Itm.z)=5):=fun h=>by
     refine errZ_form h4 hlt ?_
     cases k with
     | zero=>rw[okI_zero hlt hxH.out,h]
     | succ m=>rw[okI_succ hlt hxH.out rfl,h];rfl
    cases hrb:okR x.r
    ·have hfin:Hid (errZ (l.map Itm.z)=5):=hbadH.out (by simp[okZ,Itm.z,hrb])
     go_wp2
     go_ret
     exact ⟨by rw[hfin.out];rfl,hgw2⟩
    ·have hwt:=isWeight_any x.n w2
     cases hwb:okW x.n
     ·have hfin:Hid (errZ (l.map Itm.z)=5):=hbadH.out (by simp[okZ,Itm.z,hwb])
      rw[hwb] at hwt
      have hwtH:Hid _:=hwt
      clear hwt
      go_wp2_with (go_at_call 105;(refine Calls.mono (show Calls _ _ _ _ _ from hwtH.out) ?_);rintro e w' ⟨rfl,rfl⟩)
      go_ret
      exact ⟨by rw[hfin.out];rfl,hgw2⟩
     ·rw[hwb] at hwt
      have hwtH:Hid _:=hwt
      clear hwt
      cases hn0:(x.n==0)
      ·have hokH:Hid (okZ x.z=true):=by
        have:x.n≠0:=by simpa using hn0
        simp[okZ,Itm.z,hrb,hwb,this,Hid]
       cases k with
       | zero =>
        have hoka:Hid (okI l 0=true):=by show okI l 0=true;rw[okI_zero hlt hxH.out];exact hokH.out
        go_wp2_with (first|(go_at_call 105;(refine Calls.mono (show Calls _ _ _ _ _ from hwtH.out) ?_);rintro e w' ⟨rfl,rfl⟩)|fail)
        refine wp_region_quiet_grown mixed (by kernel_rfl) ?_
        repeat (go_big_quiet_step (fail))
        refine wpQuiet_nil ?_
        rintro _ ⟨⟨nq2,osq2⟩,rfl⟩
        go_wp2
        go_roundw
        case rel =>
         refine ⟨_,hlt,by go_num,?_,hgw2.trans ⟨nq2,osq2,rfl⟩⟩
         intro j hj
         by_cases e:j=0
         ·rw[e];exact hoka.out
         ·exact hall j (by omega)
        case measure=>simp[intOf];omega
       | succ m =>
        obtain ⟨y,hy⟩:∃y,l[m]=y:=⟨_,rfl⟩
        obtain ⟨f0,f1⟩:=hcsH.out m (by omega)
        rw[hy] at f0 f1
        have hyH:Hid (l[m]=y):=hy
        have hyr:Hid (RowI wr0 y.p y.r∧y.r.length≤maxLen):=⟨(hrR.out.each y (by rw[←hy];exact List.getElem_mem (by omega))).1,(hrR.out.each y (by rw[←hy];exact List.getElem_mem (by omega))).2.1⟩
        clear hy
        have hg02:Gr wr0 w2:=hgX.trans hg2
        have q0:=hg02.cellG (a:=⟨b,off+m*2,none⟩) hb f0
        have xlt:wr0.heap.size<w2.heap.size:=World.block_lt_of_cell? w2 ⟨wr0.heap.size,0,none⟩ x0
        have p0:=(Gr.refl w2).cellG (a:=⟨wr0.heap.size,0,none⟩) xlt x0
        have hRY:Hid (∀n os,RowI (grow (w2.drewN n) os) y.p y.r):=fun n os=>hyr.out.1.gr (hg02.trans ⟨n,os,rfl⟩)
        have hRX:Hid (∀n os,RowI (grow (w2.drewN n) os) x.p x.r):=fun n os=>hxr.out.1.gr (hg02.trans ⟨n,os,rfl⟩)
        clear f0 f1
        obtain ⟨r,hrr⟩:∃r,cmpL y.r x.r=r:=⟨_,rfl⟩
        have hrrH:Hid (cmpL y.r x.r=r):=hrr
        clear hrr
        by_cases hbe:r<0
        ·have hbz:¬(0:Int)≤r:=by omega
         have hoka:Hid (okI l (m+1)=true):=by
          show okI l (m+1)=true
          rw[okI_succ hlt hxH.out hyH.out,hokH.out,hrrH.out];simp[hbe]
         go_wp2_with (first|(go_at_call 105;(refine Calls.mono (show Calls _ _ _ _ _ from hwtH.out) ?_);rintro e w' ⟨rfl,rfl⟩)|fail)
         refine wp_region_quiet_grown mixed (by kernel_rfl) ?_
         repeat (go_big_quiet_step ((go_at_call 106;refine Calls.grown_of (orderR_g hrrH.out _ hyr.out.2 (hRY.out _ _) (hRX.out _ _)))))
         refine wpQuiet_nil ?_
         rintro _ ⟨⟨nq2,osq2⟩,rfl⟩
         go_wp2
         go_roundw
         case rel =>
          refine ⟨_,hlt,by go_num,?_,hgw2.trans ⟨nq2,osq2,rfl⟩⟩
          intro j hj
          by_cases e:j=m+1
          ·rw[e];exact hoka.out
          ·exact hall j (by omega)
         case measure=>simp[intOf];omega
        ·have hbz:(0:Int)≤r:=by omega
         have hfin:Hid (errZ (l.map Itm.z)=5):=errZ_form h4 hlt (by rw[okI_succ hlt hxH.out hyH.out,hrrH.out];simp[hbe])
         go_wp2_with (first|(go_at_call 105;(refine Calls.mono (show Calls _ _ _ _ _ from hwtH.out) ?_);rintro e w' ⟨rfl,rfl⟩)|fail)
         refine wp_region_quiet_grown mixed (by kernel_rfl) ?_
         repeat (go_big_quiet_step ((go_at_call 106;refine Calls.grown_of (orderR_g hrrH.out _ hyr.out.2 (hRY.out _ _) (hRX.out _ _)))))
         refine wpQuiet_nil ?_
         rintro _ ⟨⟨nq2,osq2⟩,rfl⟩
         go_wp2
         go_ret
         exact ⟨by rw[hfin.out];rfl,hgw2.trans ⟨nq2,osq2,rfl⟩⟩
      ·have hfin:Hid (errZ (l.map Itm.z)=5):=hbadH.out (by have:x.n=0:=(by simpa using hn0);simp[okZ,Itm.z,this])
       go_wp2_with (go_at_call 105;(refine Calls.mono (show Calls _ _ _ _ _ from hwtH.out) ?_);rintro e w' ⟨rfl,rfl⟩)
       go_ret
       exact ⟨by rw[hfin.out];rfl,hgw2⟩
   ·have hltz:¬(k:Int)<(l.length:Int):=by omega
    have hfin:Hid (errZ (l.map Itm.z)=0):=errZ_ok h4 fun j hj=>hall j (by omega)
    go_wp2
    go_ret
    exact ⟨by rw[hfin.out];rfl,hgr⟩

end Go.Proofs.YtkadjjmkokhldaaGreat

namespace Go.Proofs.YtkadjjmkokhldaaGreat
open Go.RowKit Go.Sort

set_option maxHeartbeats 1000000 in
theorem copyRow_new (l:List Int) (A:Option Addr) (cap:Nat) (w:World) (hl:l.length*8≤140737488355328) (hA:A=none→cap=0) (hr:RowI w A l) :
  Calls Tryz.prog 85 #[.slice A l.length cap] w fun e w'=>∃C c,e= .returned (.slice C l.length c)∧RowI w' C l∧(C=none→c=0)∧(∀a,C=some a→w.heap.size≤a.block∧a.block<w'.heap.size)∧Below w.heap.size w w'∧(RoomI w' C c∧l.length≤c):=by
 have hlm:Hid (0+l.length≤maxLen∧(0+l.length)*8≤140737488355328):=by show _∧_;unfold maxLen;omega
 have hrH:Hid (RowI w A l∧(A=none→cap=0)):=⟨hr,hA⟩
 clear hr hA
 go_enter Tryz.func85,Tryz.ntmps85
 go_wp2_with (at_builtin;refine wpList_append_i _ rfl _ _ rfl w.heap.size (.slice none 0 0) [] l A cap rfl rfl (OwnG.nil _ _ _ _ _) hrH.out.1 hrH.out.2 hlm.out.1 hlm.out.2 (Nat.le_refl _) ?_)
 intro v1 w3 hown1 hgr1
 have hb3:Hid (Below w.heap.size w w3):=below_none hgr1
 obtain ⟨C,c,rfl,hC,hrow,hlc,hlt0,_⟩:=OwnG.full encI_len hown1
 have hlt:∀a,C=some a→w.heap.size≤a.block∧a.block<w3.heap.size:=fun a ha=>⟨(hlt0 a ha).1,(hlt0 a ha).2.1⟩
 have hroom:Hid (RoomI w3 C c∧l.length≤c):=⟨hown1.roomI,by simpa using hlc⟩
 have hfin:Hid (RowI w3 C l∧(C=none→c=0)∧(∀a,C=some a→w.heap.size≤a.block∧a.block<w3.heap.size)):=⟨by simpa using hrow,hC,hlt⟩
 clear hown1 hgr1 hC hrow hlt hlt0 hlc
 go_wp2
 go_ret
 exact ⟨C,c,by simp,hfin.out.1,hfin.out.2.1,hfin.out.2.2,hb3.out,hroom.out⟩

end Go.Proofs.YtkadjjmkokhldaaGreat
