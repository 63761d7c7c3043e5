/-
  Plain facts: dots sorted; what fold makes of sorted dots, told dot by dot.
  dot.Next: the next dot of a node.
  dot.checkBoth: what is wrong with two contexts.
-/
import Derived.Test.YtkadjjmkokhldaaGreatM06
import Derived.Test.YtkadjjmkokhldaaGreatM04
import Derived.Test.YtkadjjmkokhldaaGreatM02
namespace Go.Proofs.YtkadjjmkokhldaaGreat
open Go.RowKit Go.Sort

/-- x does not stand behind y. -/
def leD (x y:Int×Int):Prop:=befB y x=false
theorem leD_iff (x y:Int×Int):leD x y↔x.1<y.1∨(x.1=y.1∧x.2≤y.2):=by
 unfold leD
 rw[befB_not]
 omega
theorem leD_refl (x:Int×Int):leD x x:=by rw[leD_iff];omega
theorem leD_trans {x y z:Int×Int} (h:leD x y) (k:leD y z):leD x z:=by rw[leD_iff] at *;omega
theorem leD_anti {x y:Int×Int} (h:leD x y) (k:leD y x):x=y:=by rw[leD_iff] at *;exact Prod.ext (by omega) (by omega)
theorem leD_total (x y:Int×Int):leD x y∨leD y x:=by rw[leD_iff,leD_iff];omega

theorem srt_sorted (l:List (Int×Int)):(srt l).Pairwise leD:=by
 unfold srt
 have h:=List.pairwise_mergeSort (le:=fun x y:Int×Int=> !ltOf ordI y x) (by
  intro a b c h1 h2
  simp only[ltD,Bool.not_eq_true'] at *
  exact leD_trans (x:=a) (y:=b) (z:=c) h1 h2) (by
  intro a b
  simp only[ltD,Bool.or_eq_true,Bool.not_eq_true']
  exact leD_total a b) l
 refine h.imp ?_
 intro a b hab
 simp only[ltD,Bool.not_eq_true'] at hab
 exact hab
theorem srt_perm (l:List (Int×Int)):(srt l).Perm l:=List.mergeSort_perm l _
/-- fold, dot by dot. -/
def foldP (c:Ctx) (p:Option (Int×Int)):List (Int×Int)→Ctx
 | []=>c
 | x::r=>foldP (step c p x) (some x) r

theorem foldP_snoc (l:List (Int×Int)):∀(c:Ctx) (p:Option (Int×Int)) (x:Int×Int),foldP c p (l++[x])=step (foldP c p l) (l.getLast?.or p) x:=by
 induction l with
 | nil=>intro c p x;rfl
 | cons y l ih =>
  intro c p x
  show foldP (step c p y) (some y) (l++[x])=_
  rw[ih]
  show _=step (foldP (step c p y) (some y) l) ((y::l).getLast?.or p) x
  congr 1
  cases h:l.getLast? with
  | none =>
   obtain rfl:l=[]:=by simpa using h
   rfl
  | some z=>simp[List.getLast?_cons,h]

theorem foldTo_take (c:Ctx) (l:List (Int×Int)):∀k,k≤l.length→foldTo c l k=foldP c none (l.take k):=by
 intro k
 induction k with
 | zero=>intro _;rfl
 | succ k ih =>
  intro hk
  have hk':k<l.length:=by omega
  rw[List.take_succ_eq_append_getElem hk',foldP_snoc,←ih (by omega)]
  show step (foldTo c l k) _ _=_
  have e1:l.getD k (0,0)=l[k]:=by simp[hk']
  have e2:(if k=0 then none else some (l.getD (k-1) (0,0)))=(l.take k).getLast?.or none:=by
   cases k with
   | zero=>rfl
   | succ m =>
    have hm:m<l.length:=by omega
    have e3:(l.take (m+1)).getLast? = some l[m]:=by rw[List.take_succ_eq_append_getElem hm];exact List.getLast?_concat
    rw[e3]
    simp[hm]
  rw[e1,e2]
theorem foldTo_all (c:Ctx) (l:List (Int×Int)):foldTo c l l.length=foldP c none l:=by
 rw[foldTo_take c l l.length (Nat.le_refl _),List.take_length]

/-- One dot more. -/
def pstep (c:Ctx) (x:Int×Int):Ctx:=if hasB c x=true then c else if x.2=clk c x.1+1 then setClk c x.1 x.2 else { c with l:=c.l++[x] }

/-- What holds of a context that is being made of sorted dots, the last one being p. -/
structure Mid (c:Ctx) (p:Option (Int×Int)) (r:List (Int×Int)):Prop where
 above:∀y∈c.l,clk c y.1+1<y.2
 node:∀y∈c.l,0≤y.1∧y.1<4
 last:∀y∈c.l,∃q,p=some q∧leD y q
 has:∀q,p=some q→hasB c q=true
 rest:∀q,p=some q→∀x∈r,leD q x

theorem hasB_iff (c:Ctx) (x:Int×Int):hasB c x=true↔x∈c.l∨(0≤x.1∧x.1≤3∧1≤x.2∧x.2≤clk c x.1):=by
 simp[hasB,inB,and_assoc]

theorem mid_step {c:Ctx} {p:Option (Int×Int)} {x:Int×Int} {r:List (Int×Int)} (h:Mid c p (x::r)) (hx:rightB x=true) (hs:∀y∈r,leD x y):pstep c x=step c p x∧Mid (step c p x) (some x) r:=by
 have hn:=rightB_node hx
 have hle:∀y∈c.l,leD y x:=fun y hy=>by
  obtain ⟨q,hq,hyq⟩:=h.last y hy
  exact leD_trans hyq (h.rest q hq x (List.mem_cons_self ..))
 by_cases h1:x.2≤clk c x.1
 ·have hh:hasB c x=true:=(hasB_iff c x).2 (Or.inr ⟨hn.1,by omega,hn.2.2.1,h1⟩)
  have e1:pstep c x=c:=by simp[pstep,hh]
  have e2:step c p x=c:=by simp[step,h1]
  rw[e1,e2]
  exact ⟨rfl,h.above,h.node,fun y hy=>⟨x,rfl,hle y hy⟩,fun q hq=>by cases hq;exact hh,fun q hq y hy=>by cases hq;exact hs y hy⟩
 ·by_cases h2:x.2=clk c x.1+1
  ·have hmem:x ∉ c.l:=fun hm=>by have:=h.above x hm;omega
   have hh:¬hasB c x=true:=by
    rw[hasB_iff]
    rintro (hm|hm)
    ·exact hmem hm
    ·omega
   have e1:pstep c x=setClk c x.1 x.2:=by unfold pstep;rw[if_neg hh,if_pos h2]
   have e2:step c p x=setClk c x.1 x.2:=by unfold step;rw[if_neg h1,if_pos h2]
   rw[e1,e2]
   refine ⟨rfl,?_,?_,?_,?_,fun q hq y hy=>by cases hq;exact hs y hy⟩
   ·intro y hy
    rw[setClk_l] at hy
    have hyn:=h.node y hy
    rw[clk_setClk c x.1 x.2 y.1 hn.1 hn.2.1 hyn.1 hyn.2]
    have hya:=h.above y hy
    split
    ·rename_i hyx
     have hl:=(leD_iff y x).1 (hle y hy)
     rw[hyx] at hya
     omega
    ·exact hya
   ·intro y hy;rw[setClk_l] at hy;exact h.node y hy
   ·intro y hy;rw[setClk_l] at hy;exact ⟨x,rfl,hle y hy⟩
   ·intro q hq
    cases hq
    refine (hasB_iff _ _).2 (Or.inr ⟨hn.1,by omega,hn.2.2.1,?_⟩)
    rw[clk_setClk c x.1 x.2 x.1 hn.1 hn.2.1 hn.1 hn.2.1,if_pos rfl]
    exact Int.le_refl _
  ·by_cases h3:p=some x
   ·have hh:hasB c x=true:=h.has x h3
    have e1:pstep c x=c:=by simp[pstep,hh]
    have e2:step c p x=c:=by unfold step;rw[if_neg h1,if_neg h2,if_pos h3]
    rw[e1,e2]
    exact ⟨rfl,h.above,h.node,fun y hy=>⟨x,rfl,hle y hy⟩,fun q hq=>by cases hq;exact hh,fun q hq y hy=>by cases hq;exact hs y hy⟩
   ·have hmem:x ∉ c.l:=fun hm=>by
     obtain ⟨q,hq,hxq⟩:=h.last x hm
     have:=leD_anti hxq (h.rest q hq x (List.mem_cons_self ..))
     exact h3 (by rw[hq,this])
    have hh:¬hasB c x=true:=by
     rw[hasB_iff]
     rintro (hm|hm)
     ·exact hmem hm
     ·omega
    have e1:pstep c x={ c with l:=c.l++[x] }:=by unfold pstep;rw[if_neg hh,if_neg h2]
    have e2:step c p x={ c with l:=c.l++[x] }:=by unfold step;rw[if_neg h1,if_neg h2,if_neg h3]
    rw[e1,e2]
    have hclk:∀a,clk { c with l:=c.l++[x] } a=clk c a:=fun _=>rfl
    refine ⟨rfl,?_,?_,?_,?_,fun q hq y hy=>by cases hq;exact hs y hy⟩
    ·intro y hy
     rw[hclk]
     rcases List.mem_append.1 hy with hy|hy
     ·exact h.above y hy
     ·obtain rfl:y=x:=by simpa using hy
      omega
    ·intro y hy
     rcases List.mem_append.1 hy with hy|hy
     ·exact h.node y hy
     ·obtain rfl:y=x:=by simpa using hy
      exact ⟨hn.1,hn.2.1⟩
    ·intro y hy
     rcases List.mem_append.1 hy with hy|hy
     ·exact ⟨x,rfl,hle y hy⟩
     ·obtain rfl:y=x:=by simpa using hy
      exact ⟨y,rfl,leD_refl y⟩
    ·intro q hq
     cases hq
     exact (hasB_iff _ _).2 (Or.inl (List.mem_append.2 (Or.inr (by simp))))

theorem foldP_pstep (l:List (Int×Int)):∀(c:Ctx) (p:Option (Int×Int)),Mid c p l→l.Pairwise leD→(∀x∈l,rightB x=true)→l.foldl pstep c=foldP c p l:=by
 induction l with
 | nil=>intro c p _ _ _;rfl
 | cons x l ih =>
  intro c p h hs hr
  have hp:=List.pairwise_cons.1 hs
  have hm:=mid_step h (hr x (List.mem_cons_self ..)) hp.1
  show l.foldl pstep (pstep c x)=foldP (step c p x) (some x) l
  rw[hm.1]
  exact ih _ _ hm.2 hp.2 (fun y hy=>hr y (List.mem_cons_of_mem _ hy))

theorem mid_start {c:Ctx} (hc:c.l=[]) (l:List (Int×Int)):Mid c none l where
 above y hy:=by rw[hc] at hy;cases hy
 node y hy:=by rw[hc] at hy;cases hy
 last y hy:=by rw[hc] at hy;cases hy
 has q hq:=by cases hq
 rest q hq:=by cases hq

/-- What fold makes of dots, sorted: dot by dot, the least that is left. -/
theorem foldS_pstep {c:Ctx} (hc:c.l=[]) {l:List (Int×Int)} (hr:∀x∈l,rightB x=true):foldS c l=(srt l).foldl pstep c:=by
 unfold foldS
 rw[foldTo_all]
 exact (foldP_pstep (srt l) c none (mid_start hc _) (srt_sorted l) (fun x hx=>hr x (srt_mem hx))).symm

end Go.Proofs.YtkadjjmkokhldaaGreat

namespace Go.Proofs.YtkadjjmkokhldaaGreat
open Go.RowKit Go.Sort

theorem errC_okClk {c:Ctx} (h:errC c=0):okClk c=true:=by
 unfold errC at h
 cases hk:okClk c
 ·simp[hk] at h
 ·rfl

/-- What Next answers: the dot, and the error. -/
def nextA (c:Ctx) (n:Int):(Int×Int)×Int:=if errC c=0 then (if inB n 0 3=true then (nextD c n,nextE c n) else ((0,0),1)) else ((0,0),errC c)

set_option maxHeartbeats 2000000 in
theorem next_any (c:Ctx) (A:Option Addr) (cap:Nat) (n:Int) (w:World) (hl:c.l.length≤maxLen) (hr:Row w A c.l) :
  Calls Tryz.prog 51 #[.agg #[.int .i64 c.c0,.int .i64 c.c1,.int .i64 c.c2,.int .i64 c.c3,.slice A c.l.length cap],.int .i64 n] w fun e w'=>e= .returned (.tuple #[.agg #[.int .i64 (nextA c n).1.1,.int .i64 (nextA c n).1.2],.int .i64 (nextA c n).2])∧Gr w w':=by
 have hchk:=check_any c A cap ((w.alloc (.cells #[.int .i64 c.c0,.int .i64 c.c1,.int .i64 c.c2,.int .i64 c.c3,.slice A c.l.length cap] 34)).alloc (.cells #[.int .i64 0,.int .i64 0] 52)) hl (hr.gr (((Gr.refl _).alloc _).alloc _))
 have hchkH:Hid _:=hchk
 clear hchk
 unfold maxLen at hl
 go_enter Tryz.func51,Tryz.ntmps51
 go_wp2_with fail
 refine Calls.mono (show Calls _ _ _ _ _ from hchkH.out) ?_
 rintro e w1 ⟨rfl,hgr⟩
 clear hchkH
 have r0:=box2 hgr (j:=0) rfl
 have r1:=box2 hgr (j:=1) rfl
 have r0f:=box2f hgr 0
 have r1f:=box2f hgr 1
 by_cases he:errC c=0
 ·have heH:Hid (errC c=0):=he
  rw[he]
  clear he
  cases hin:inB n 0 3
  ·have hA:Hid (nextA c n=((0,0),1)):=by show nextA c n=_;simp[nextA,heH.out,hin]
   go_wp2_with (go_at_call 76;refine (isNode_g hin _).mono ?_;rintro e w' ⟨rfl,rfl⟩)
   rw[hA.out]
   exact bodyPost_ret (v:= .tuple #[.agg #[.int .i64 0,.int .i64 0],.int .i64 1]) (by simp[results,Tryz.results51,go_sem,r0,r1]) rfl ⟨rfl,(((unbox (unbox hgr)).setCell (by simp) _).setCell (by simp) _)⟩
  ·have hn:0≤n∧n<4:=by simp[inB] at hin;omega
   have hA:Hid (nextA c n=(nextD c n,nextE c n)):=by show nextA c n=_;simp[nextA,heH.out,hin]
   have kc:=box1 (unbox_in hgr) (clkCell (c:=c) hn.1 hn.2)
   have k4:=box1 (unbox_in hgr) (j:=4) rfl
   have hcl:=clk_of_ok (errC_okClk heH.out) n hn.1 hn.2
   go_wp2_with (go_at_call 76;refine (isNode_g hin _).mono ?_;rintro e w' ⟨rfl,rfl⟩)
   clear kc k4 r0 r1 r0f r1f
   go_loopw [7,27] (fun m i wr=>∃k:Nat,k≤c.l.length∧i= .int .i64 k∧m= .int .i64 (topS c n (c.l.take k))∧Gr ((w.alloc (.cells #[.int .i64 c.c0,.int .i64 c.c1,.int .i64 c.c2,.int .i64 c.c3,.slice A c.l.length cap] 34)).alloc (.cells #[.int .i64 0,.int .i64 0] 52)) wr) (fun _ i _=>c.l.length-(intOf i).toNat)
   case atStart=>exact ⟨0,by omega,rfl,rfl,hgr⟩
   case round =>
    clear hgr
    obtain ⟨k,hk,rfl,rfl,hgr⟩:=hrel
    have r0:=box2 hgr (j:=0) rfl
    have r1:=box2 hgr (j:=1) rfl
    have r0f:=box2f hgr 0
    have r1f:=box2f hgr 1
    have hlo:=topS_lo c n (c.l.take k)
    by_cases hlt:k<c.l.length
    ·have hltz:(k:Int)<(c.l.length:Int):=by omega
     obtain ⟨b,off,rfl,hb,hcs⟩:=(hr.gr (unbox (unbox hgr))).at hlt
     obtain ⟨x,y,hx⟩:∃x y,c.l[k]=(x,y):=⟨_,_,rfl⟩
     have e0:=(hcs k hlt).1
     have e1:=(hcs k hlt).2
     rw[hx] at e0 e1
     have hst:Hid (topS c n (c.l.take (k+1))=if x=n then max (topS c n (c.l.take k)) y else topS c n (c.l.take k)):=topS_take c n k hlt hx
     clear hcs hx
     by_cases hxn:x=n
     ·subst hxn
      go_wp2
      go_roundw
      case rel=>exact ⟨k+1,by omega,by go_num,by rw[hst.out,if_pos rfl],hgr.alloc _⟩
      case measure=>simp[intOf];omega
     ·have hxb:(x==n)=false:=by simpa using hxn
      have hxH:Hid (¬x=n):=hxn
      clear hxn
      go_wp2
      go_roundw
      case rel=>exact ⟨k+1,by omega,by go_num,by rw[hst.out,if_neg hxH.out],hgr.alloc _⟩
      case measure=>simp[intOf];omega
    ·have hltz:¬(k:Int)<(c.l.length:Int):=by omega
     have hke:c.l.take k=c.l:=List.take_of_length_le (by omega)
     rw[hke] at hlo ⊢
     clear hke
     by_cases htop:1099511627776≤topS c n c.l
     ·have hD:Hid (nextD c n=(0,0)∧nextE c n=2):=by
       show _∧_
       simp[nextD,nextE,htop]
      go_wp2
      rw[hA.out,hD.out.1,hD.out.2]
      exact bodyPost_ret (v:= .tuple #[.agg #[.int .i64 0,.int .i64 0],.int .i64 2]) (by simp[results,Tryz.results51,go_sem,r0,r1]) rfl ⟨rfl,(((unbox (unbox hgr)).setCell (by simp) _).setCell (by simp) _)⟩
     ·have hD:Hid (nextD c n=(n,topS c n c.l+1)∧nextE c n=0):=by
       show _∧_
       simp[nextD,nextE,htop]
      go_wp2
      rw[hA.out,hD.out.1,hD.out.2]
      exact bodyPost_ret (v:= .tuple #[.agg #[.int .i64 n,.int .i64 (topS c n c.l+1)],.int .i64 0]) (by simp[results,Tryz.results51,go_sem,r0,r1]) rfl ⟨rfl,(((unbox (unbox hgr)).setCell (by simp) _).setCell (by simp) _)⟩
 ·have hA:Hid (nextA c n=((0,0),errC c)):=by show nextA c n=_;simp[nextA,he]
  have heb:(errC c != 0)=true:=by simpa using he
  clear he
  go_wp2
  rw[hA.out]
  exact bodyPost_ret (v:= .tuple #[.agg #[.int .i64 0,.int .i64 0],.int .i64 (errC c)]) (by simp[results,Tryz.results51,go_sem,r0,r1]) rfl ⟨rfl,(((unbox (unbox hgr)).setCell (by simp) _).setCell (by simp) _)⟩
end Go.Proofs.YtkadjjmkokhldaaGreat

namespace Go.Proofs.YtkadjjmkokhldaaGreat
open Go.RowKit Go.Sort

/-- What is wrong with two contexts. -/
def errB (a b:Ctx):Int:=if errC a=0 then errC b else errC a

set_option maxHeartbeats 1000000 in
theorem checkBoth_any (a b:Ctx) (A B:Option Addr) (ca cb:Nat) (w:World) (hal:a.l.length≤maxLen) (hbl:b.l.length≤maxLen) (hra:Row w A a.l) (hrb:Row w B b.l) :
  Calls Tryz.prog 63 #[.agg #[.int .i64 a.c0,.int .i64 a.c1,.int .i64 a.c2,.int .i64 a.c3,.slice A a.l.length ca],.agg #[.int .i64 b.c0,.int .i64 b.c1,.int .i64 b.c2,.int .i64 b.c3,.slice B b.l.length cb]] w fun e w'=>e= .returned (.int .i64 (errB a b))∧Gr w w':=by
 have hg0:Gr w ((w.alloc (.cells #[.int .i64 a.c0,.int .i64 a.c1,.int .i64 a.c2,.int .i64 a.c3,.slice A a.l.length ca] 34)).alloc (.cells #[.int .i64 b.c0,.int .i64 b.c1,.int .i64 b.c2,.int .i64 b.c3,.slice B b.l.length cb] 34)):=((Gr.refl w).alloc _).alloc _
 have hb0:CtxAt ((w.alloc (.cells #[.int .i64 a.c0,.int .i64 a.c1,.int .i64 a.c2,.int .i64 a.c3,.slice A a.l.length ca] 34)).alloc (.cells #[.int .i64 b.c0,.int .i64 b.c1,.int .i64 b.c2,.int .i64 b.c3,.slice B b.l.length cb] 34)) (w.heap.size+1) b B cb:=CtxAt.new 34 (hrb.gr ((Gr.refl _).alloc _)) (by simp)
 go_enter Tryz.func63,Tryz.ntmps63
 go_wp2_with fail
 refine (check_any a A ca _ hal (hra.gr hg0)).mono ?_
 rintro e w1 ⟨rfl,hg1⟩
 by_cases he:errC a=0
 ·have hE:Hid (errB a b=errC b):=by show errB a b=_;simp[errB,he]
  have heb:(errC a != 0)=false:=by simpa using he
  clear he
  obtain ⟨k0,k1,k2,k3,k4,_,hrow⟩:=hb0.gr hg1
  go_wp2_with fail
  refine (check_any b B cb _ hbl hrow).mono ?_
  rintro e w2 ⟨rfl,hg2⟩
  go_wp2
  go_ret
  rw[hE.out]
  exact ⟨rfl,(hg0.trans hg1).trans hg2⟩
 ·have hE:Hid (errB a b=errC a):=by show errB a b=_;simp[errB,he]
  have heb:(errC a != 0)=true:=by simpa using he
  clear he
  go_wp2
  go_ret
  rw[hE.out]
  exact ⟨rfl,hg0.trans hg1⟩

theorem errB_ok {a b:Ctx} (h:errB a b=0):errC a=0∧errC b=0:=by
 unfold errB at h
 by_cases ha:errC a=0
 ·rw[if_pos ha] at h;exact ⟨ha,h⟩
 ·rw[if_neg ha] at h;exact absurd h ha
theorem errC_parts {c:Ctx} (h:errC c=0):okClk c=true∧c.l.length≤400∧∀k,k<c.l.length→okAt c k=true:=by
 have h1:=errC_okClk h
 unfold errC at h
 rw[h1] at h
 by_cases hl:400<c.l.length
 ·simp[hl] at h
 ·refine ⟨h1,by omega,?_⟩
  cases ha:(List.range c.l.length).all (okAt c)
  ·simp[hl,ha] at h
  ·intro k hk
   rw[List.all_eq_true] at ha
   exact ha k (by simpa using hk)
theorem errC_right {c:Ctx} (h:errC c=0):∀x∈c.l,rightB x=true:=by
 intro x hx
 obtain ⟨j,hj,rfl⟩:=List.getElem_of_mem hx
 have:=(errC_parts h).2.2 j hj
 cases j with
 | zero=>rw[okAt_zero hj rfl] at this;simp at this;exact this.1
 | succ m=>rw[okAt_succ hj rfl rfl] at this;simp at this;exact this.1.1
end Go.Proofs.YtkadjjmkokhldaaGreat
