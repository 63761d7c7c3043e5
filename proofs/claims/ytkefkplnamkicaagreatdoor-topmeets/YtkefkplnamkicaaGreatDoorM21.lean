/-
  Plain facts: dots sorted; what fold makes of sorted dots, told dot by dot.
  dot.Next: the next dot of a node.
  dot.checkBoth: what is wrong with two contexts.
  node.sum, setsOf, difference: the sets of a node's tables.
  A node's view in memory: a kept query, what it has missed, and its error.
-/
import Derived.Test.YtkefkplnamkicaaGreatDoorM20
set_option maxRecDepth 100000
set_option maxHeartbeats 8000000
open Go.Ending renaming returned → K
open Go.IntKind renaming i64 → S
open Go.Obj renaming cells → J
open Go.Proofs.Tryz renaming prog → Z
open Go.Value renaming slice → I, int → O, agg → H, tuple → R
namespace Go.Proofs.YtkefkplnamkicaaGreatDoor
open Go.RowKit Go.Sort

def leD (x y:Int×Int):Prop:=bD y x=false
theorem gH (x y:Int×Int):leD x y↔x.1<y.1∨(x.1=y.1∧x.2≤y.2):=by
 unfold leD
 rw[lQ]
 omega
theorem xn (x:Int×Int):leD x x:=by rw[gH];omega
theorem iP {x y z:Int×Int} (h:leD x y) (k:leD y z):leD x z:=by rw[gH] at *;omega
theorem xm {x y:Int×Int} (h:leD x y) (k:leD y x):x=y:=by rw[gH] at *;exact Prod.ext (by omega) (by omega)
theorem oN (x y:Int×Int):leD x y∨leD y x:=by rw[gH,gH];omega

theorem mY (l:List (Int×Int)):(srt l).Pairwise leD:=by
 unfold srt
 have h:=List.pairwise_mergeSort (le:=fun x y:Int×Int=> !ltOf eh y x) (by
  intro a b c h1 h2
  simp only[ltD,Bool.not_eq_true'] at *
  exact iP (x:=a) (y:=b) (z:=c) h1 h2) (by
  intro a b
  simp only[ltD,Bool.or_eq_true,Bool.not_eq_true']
  exact oN a b) l
 refine h.imp ?_
 intro a b hab
 simp only[ltD,Bool.not_eq_true'] at hab
 exact hab
theorem yc (l:List (Int×Int)):(srt l).Perm l:=List.mergeSort_perm l _
def jK (c:Ctx) (p:Option (Int×Int)):List (Int×Int)→Ctx
 | []=>c
 | x::r=>jK (step c p x) (some x) r

theorem sr (l:List (Int×Int)):∀(c:Ctx) (p:Option (Int×Int)) (x:Int×Int),jK c p (l++[x])=step (jK c p l) (l.getLast?.or p) x:=by
 induction l with
 | nil=>intro c p x;rfl
 | cons y l ih =>
  intro c p x
  show jK (step c p y) (some y) (l++[x])=_
  rw[ih]
  show _=step (jK (step c p y) (some y) l) ((y::l).getLast?.or p) x
  congr 1
  cases h:l.getLast? with
  | none =>
   obtain rfl:l=[]:=by simpa using h
   rfl
  | some z=>simp[List.getLast?_cons,h]

theorem qM (c:Ctx) (l:List (Int×Int)):∀k,k≤l.length→av c l k=jK c none (l.take k):=by
 intro k
 induction k with
 | zero=>intro _;rfl
 | succ k ih =>
  intro hk
  have hk':k<l.length:=by omega
  rw[List.take_succ_eq_append_getElem hk',sr,←ih (by omega)]
  show step (av c l k) _ _=_
  have e1:l.getD k (0,0)=l[k]:=by simp[hk']
  have e2:(if k=0 then none else some (l.getD (k-1) (0,0)))=(l.take k).getLast?.or none:=by
   cases k with
   | zero=>rfl
   | succ m =>
    have hm:m<l.length:=by omega
    have e3:(l.take (m+1)).getLast? = some l[m]:=by rw[List.take_succ_eq_append_getElem hm];exact List.getLast?_concat
    rw[e3]
    simp[hm]
  rw[e1,e2]
theorem su (c:Ctx) (l:List (Int×Int)):av c l l.length=jK c none l:=by
 rw[qM c l l.length (Nat.le_refl _),List.take_length]

def d7 (c:Ctx) (x:Int×Int):Ctx:=if ai c x=true then c else if x.2=clk c x.1+1 then setClk c x.1 x.2 else { c with l:=c.l++[x] }

structure Mid (c:Ctx) (p:Option (Int×Int)) (r:List (Int×Int)):Prop where
 above:∀y∈c.l,clk c y.1+1<y.2
 node:∀y∈c.l,0≤y.1∧y.1<4
 last:∀y∈c.l,∃q,p=some q∧leD y q
 has:∀q,p=some q→ai c q=true
 rest:∀q,p=some q→∀x∈r,leD q x

theorem aK (c:Ctx) (x:Int×Int):ai c x=true↔x∈c.l∨(0≤x.1∧x.1≤3∧1≤x.2∧x.2≤clk c x.1):=by
 simp[ai,inB,and_assoc]

theorem mE {c:Ctx} {p:Option (Int×Int)} {x:Int×Int} {r:List (Int×Int)} (h:Mid c p (x::r)) (hx:ar x=true) (hs:∀y∈r,leD x y):d7 c x=step c p x∧Mid (step c p x) (some x) r:=by
 have hn:=dY hx
 have hle:∀y∈c.l,leD y x:=fun y hy=>by
  obtain ⟨q,hq,hyq⟩:=h.last y hy
  exact iP hyq (h.rest q hq x (mS ..))
 by_cases h1:x.2≤clk c x.1
 ·have hh:ai c x=true:=(aK c x).2 (oR ⟨hn.1,by omega,hn.2.2.1,h1⟩)
  have e1:d7 c x=c:=by simp[d7,hh]
  have e2:step c p x=c:=by simp[step,h1]
  rw[e1,e2]
  exact ⟨rfl,h.above,h.node,fun y hy=>⟨x,rfl,hle y hy⟩,fun q hq=>by cases hq;exact hh,fun q hq y hy=>by cases hq;exact hs y hy⟩
 ·by_cases h2:x.2=clk c x.1+1
  ·have hmem:x ∉ c.l:=fun hm=>by have:=h.above x hm;omega
   have hh:¬ai c x=true:=by
    rw[aK]
    rintro (hm|hm)
    ·exact hmem hm
    ·omega
   have e1:d7 c x=setClk c x.1 x.2:=by unfold d7;rw[if_neg hh,if_pos h2]
   have e2:step c p x=setClk c x.1 x.2:=by unfold step;rw[if_neg h1,if_pos h2]
   rw[e1,e2]
   refine ⟨rfl,?_,?_,?_,?_,fun q hq y hy=>by cases hq;exact hs y hy⟩
   ·intro y hy
    rw[ei] at hy
    have hyn:=h.node y hy
    rw[dL c x.1 x.2 y.1 hn.1 hn.2.1 hyn.1 hyn.2]
    have hya:=h.above y hy
    split
    ·rename_i hyx
     have hl:=(gH y x).1 (hle y hy)
     rw[hyx] at hya
     omega
    ·exact hya
   ·intro y hy;rw[ei] at hy;exact h.node y hy
   ·intro y hy;rw[ei] at hy;exact ⟨x,rfl,hle y hy⟩
   ·intro q hq
    cases hq
    refine (aK _ _).2 (oR ⟨hn.1,by omega,hn.2.2.1,?_⟩)
    rw[dL c x.1 x.2 x.1 hn.1 hn.2.1 hn.1 hn.2.1,if_pos rfl]
    exact Int.le_refl _
  ·by_cases h3:p=some x
   ·have hh:ai c x=true:=h.has x h3
    have e1:d7 c x=c:=by simp[d7,hh]
    have e2:step c p x=c:=by unfold step;rw[if_neg h1,if_neg h2,if_pos h3]
    rw[e1,e2]
    exact ⟨rfl,h.above,h.node,fun y hy=>⟨x,rfl,hle y hy⟩,fun q hq=>by cases hq;exact hh,fun q hq y hy=>by cases hq;exact hs y hy⟩
   ·have hmem:x ∉ c.l:=fun hm=>by
     obtain ⟨q,hq,hxq⟩:=h.last x hm
     have:=xm hxq (h.rest q hq x (mS ..))
     exact h3 (by rw[hq,this])
    have hh:¬ai c x=true:=by
     rw[aK]
     rintro (hm|hm)
     ·exact hmem hm
     ·omega
    have e1:d7 c x={ c with l:=c.l++[x] }:=by unfold d7;rw[if_neg hh,if_neg h2]
    have e2:step c p x={ c with l:=c.l++[x] }:=by unfold step;rw[if_neg h1,if_neg h2,if_neg h3]
    rw[e1,e2]
    have hclk:∀a,clk { c with l:=c.l++[x] } a=clk c a:=fun _=>rfl
    refine ⟨rfl,?_,?_,?_,?_,fun q hq y hy=>by cases hq;exact hs y hy⟩
    ·intro y hy
     rw[hclk]
     rcases List.mem_append.1 hy with hy|hy
     ·exact h.above y hy
     ·obtain rfl:y=x:=by simpa using hy
      omega
    ·intro y hy
     rcases List.mem_append.1 hy with hy|hy
     ·exact h.node y hy
     ·obtain rfl:y=x:=by simpa using hy
      exact ⟨hn.1,hn.2.1⟩
    ·intro y hy
     rcases List.mem_append.1 hy with hy|hy
     ·exact ⟨x,rfl,hle y hy⟩
     ·obtain rfl:y=x:=by simpa using hy
      exact ⟨y,rfl,xn y⟩
    ·intro q hq
     cases hq
     exact (aK _ _).2 (oL (List.mem_append.2 (oR (by simp))))

theorem qL (l:List (Int×Int)):∀(c:Ctx) (p:Option (Int×Int)),Mid c p l→l.Pairwise leD→(∀x∈l,ar x=true)→l.foldl d7 c=jK c p l:=by
 induction l with
 | nil=>intro c p _ _ _;rfl
 | cons x l ih =>
  intro c p h hs hr
  have hp:=List.pairwise_cons.1 hs
  have hm:=mE h (hr x (mS ..)) hp.1
  show l.foldl d7 (d7 c x)=jK (step c p x) (some x) l
  rw[hm.1]
  exact ih _ _ hm.2 hp.2 (fun y hy=>hr y (mC _ hy))

theorem oP {c:Ctx} (hc:c.l=[]) (l:List (Int×Int)):Mid c none l where
 above y hy:=by rw[hc] at hy;cases hy
 node y hy:=by rw[hc] at hy;cases hy
 last y hy:=by rw[hc] at hy;cases hy
 has q hq:=by cases hq
 rest q hq:=by cases hq

theorem kZ {c:Ctx} (hc:c.l=[]) {l:List (Int×Int)} (hr:∀x∈l,ar x=true):dT c l=(srt l).foldl d7 c:=by
 unfold dT
 rw[su]
 exact (qL (srt l) c none (oP hc _) (mY l) (fun x hx=>hr x (k7 hx))).symm


theorem mh {c:Ctx} (h:aP c=0):bF c=true:=by
 unfold aP at h
 cases hk:bF c
 ·simp[hk] at h
 ·rfl

def bE (c:Ctx) (n:Int):(Int×Int)×Int:=if aP c=0 then (if inB n 0 3=true then (jS c n,l9 c n) else ((0,0),1)) else ((0,0),aP c)

theorem xC (c:Ctx) (A:Option Addr) (cap:Nat) (n:Int) (w:World) (hl:c.l.length≤maxLen) (hr:Row w A c.l) :
  Calls Z 154 #[H #[O S c.c0,O S c.c1,O S c.c2,O S c.c3,I A c.l.length cap],O S n] w fun e w'=>e= K (R #[H #[O S (bE c n).1.1,O S (bE c n).1.2],O S (bE c n).2])∧Gr w w':=by
 have hchk:=fb c A cap ((w.alloc (J #[O S c.c0,O S c.c1,O S c.c2,O S c.c3,I A c.l.length cap] 38)).alloc (J #[O S 0,O S 0] 95)) hl (hr.gr (((gR _).alloc _).alloc _))
 have hchkH:Hid _:=hchk
 clear hchk
 unfold maxLen at hl
 go_enter Tryz.func154,Tryz.ntmps154
 go_wp2_with fail
 refine cM (show Calls _ _ _ _ _ from hchkH.out) ?_
 rintro e w1 ⟨rfl,hgr⟩
 clear hchkH
 have r0:=nA hgr (j:=0) rfl
 have r1:=nA hgr (j:=1) rfl
 have r0f:=qy hgr 0
 have r1f:=qy hgr 1
 by_cases he:aP c=0
 ·have heH:Hid (aP c=0):=he
  rw[he]
  clear he
  cases hin:inB n 0 3
  ·have hA:Hid (bE c n=((0,0),1)):=by show bE c n=_;simp[bE,heH.out,hin]
   go_wp2_with (go_at_call 92;refine (fX hin _).mono ?_;rintro e w' ⟨rfl,rfl⟩)
   rw[hA.out]
   exact bodyPost_ret (v:= R #[H #[O S 0,O S 0],O S 1]) (by simp[results,Tryz.results154,go_sem,r0,r1]) rfl ⟨rfl,(((ci (ci hgr)).setCell (by simp) _).setCell (by simp) _)⟩
  ·have hn:0≤n∧n<4:=by simp[inB] at hin;omega
   have hA:Hid (bE c n=(jS c n,l9 c n)):=by show bE c n=_;simp[bE,heH.out,hin]
   have kc:=ab (iE hgr) (iI (c:=c) hn.1 hn.2)
   have k4:=ab (iE hgr) (j:=4) rfl
   have hcl:=cE (mh heH.out) n hn.1 hn.2
   go_wp2_with (go_at_call 92;refine (fX hin _).mono ?_;rintro e w' ⟨rfl,rfl⟩)
   clear kc k4 r0 r1 r0f r1f
   go_loopw [7,27] (fun m i wr=>∃k:Nat,k≤c.l.length∧i= O S k∧m= O S (eU c n (c.l.take k))∧Gr ((w.alloc (J #[O S c.c0,O S c.c1,O S c.c2,O S c.c3,I A c.l.length cap] 38)).alloc (J #[O S 0,O S 0] 95)) wr) (fun _ i _=>c.l.length-(intOf i).toNat)
   case atStart=>exact ⟨0,by omega,rfl,rfl,hgr⟩
   case round =>
    clear hgr
    obtain ⟨k,hk,rfl,rfl,hgr⟩:=hrel
    have r0:=nA hgr (j:=0) rfl
    have r1:=nA hgr (j:=1) rfl
    have r0f:=qy hgr 0
    have r1f:=qy hgr 1
    have hlo:=uc c n (c.l.take k)
    by_cases hlt:k<c.l.length
    ·have hltz:(k:Int)<(c.l.length:Int):=by omega
     obtain ⟨b,off,rfl,hb,hcs⟩:=(hr.gr (ci (ci hgr))).at hlt
     obtain ⟨x,y,hx⟩:∃x y,c.l[k]=(x,y):=⟨_,_,rfl⟩
     have e0:=(hcs k hlt).1
     have e1:=(hcs k hlt).2
     rw[hx] at e0 e1
     have hst:Hid (eU c n (c.l.take (k+1))=if x=n then max (eU c n (c.l.take k)) y else eU c n (c.l.take k)):=vG c n k hlt hx
     clear hcs hx
     by_cases hxn:x=n
     ·subst hxn
      go_wp2
      go_roundw
      case rel=>exact ⟨k+1,by omega,by go_num,by rw[hst.out,if_pos rfl],hgr.alloc _⟩
      case measure=>simp[intOf];omega
     ·have hxb:(x==n)=false:=by simpa using hxn
      have hxH:Hid (¬x=n):=hxn
      clear hxn
      go_wp2
      go_roundw
      case rel=>exact ⟨k+1,by omega,by go_num,by rw[hst.out,if_neg hxH.out],hgr.alloc _⟩
      case measure=>simp[intOf];omega
    ·have hltz:¬(k:Int)<(c.l.length:Int):=by omega
     have hke:c.l.take k=c.l:=List.take_of_length_le (by omega)
     rw[hke] at hlo ⊢
     clear hke
     by_cases htop:1099511627776≤eU c n c.l
     ·have hD:Hid (jS c n=(0,0)∧l9 c n=2):=by
       show _∧_
       simp[jS,l9,htop]
      go_wp2
      rw[hA.out,hD.out.1,hD.out.2]
      exact bodyPost_ret (v:= R #[H #[O S 0,O S 0],O S 2]) (by simp[results,Tryz.results154,go_sem,r0,r1]) rfl ⟨rfl,(((ci (ci hgr)).setCell (by simp) _).setCell (by simp) _)⟩
     ·have hD:Hid (jS c n=(n,eU c n c.l+1)∧l9 c n=0):=by
       show _∧_
       simp[jS,l9,htop]
      go_wp2
      rw[hA.out,hD.out.1,hD.out.2]
      exact bodyPost_ret (v:= R #[H #[O S n,O S (eU c n c.l+1)],O S 0]) (by simp[results,Tryz.results154,go_sem,r0,r1]) rfl ⟨rfl,(((ci (ci hgr)).setCell (by simp) _).setCell (by simp) _)⟩
 ·have hA:Hid (bE c n=((0,0),aP c)):=by show bE c n=_;simp[bE,he]
  have heb:(aP c != 0)=true:=by simpa using he
  clear he
  go_wp2
  rw[hA.out]
  exact bodyPost_ret (v:= R #[H #[O S 0,O S 0],O S (aP c)]) (by simp[results,Tryz.results154,go_sem,r0,r1]) rfl ⟨rfl,(((ci (ci hgr)).setCell (by simp) _).setCell (by simp) _)⟩

def fg (a b:Ctx):Int:=if aP a=0 then aP b else aP a

theorem nC (a b:Ctx) (A B:Option Addr) (ca cb:Nat) (w:World) (hal:a.l.length≤maxLen) (hbl:b.l.length≤maxLen) (hra:Row w A a.l) (hrb:Row w B b.l) :
  Calls Z 162 #[H #[O S a.c0,O S a.c1,O S a.c2,O S a.c3,I A a.l.length ca],H #[O S b.c0,O S b.c1,O S b.c2,O S b.c3,I B b.l.length cb]] w fun e w'=>e= K (O S (fg a b))∧Gr w w':=by
 have hg0:Gr w ((w.alloc (J #[O S a.c0,O S a.c1,O S a.c2,O S a.c3,I A a.l.length ca] 38)).alloc (J #[O S b.c0,O S b.c1,O S b.c2,O S b.c3,I B b.l.length cb] 38)):=((gR w).alloc _).alloc _
 have hb0:CtxAt ((w.alloc (J #[O S a.c0,O S a.c1,O S a.c2,O S a.c3,I A a.l.length ca] 38)).alloc (J #[O S b.c0,O S b.c1,O S b.c2,O S b.c3,I B b.l.length cb] 38)) (w.heap.size+1) b B cb:=CtxAt.new 38 (hrb.gr ((gR _).alloc _)) (by simp)
 go_enter Tryz.func162,Tryz.ntmps162
 go_wp2_with fail
 refine (fb a A ca _ hal (hra.gr hg0)).mono ?_
 rintro e w1 ⟨rfl,hg1⟩
 by_cases he:aP a=0
 ·have hE:Hid (fg a b=aP b):=by show fg a b=_;simp[fg,he]
  have heb:(aP a != 0)=false:=by simpa using he
  clear he
  obtain ⟨k0,k1,k2,k3,k4,_,hrow⟩:=hb0.gr hg1
  go_wp2_with fail
  refine (fb b B cb _ hbl hrow).mono ?_
  rintro e w2 ⟨rfl,hg2⟩
  go_wp2
  go_ret
  rw[hE.out]
  exact ⟨rfl,(hg0.trans hg1).trans hg2⟩
 ·have hE:Hid (fg a b=aP a):=by show fg a b=_;simp[fg,he]
  have heb:(aP a != 0)=true:=by simpa using he
  clear he
  go_wp2
  go_ret
  rw[hE.out]
  exact ⟨rfl,hg0.trans hg1⟩

theorem lH {a b:Ctx} (h:fg a b=0):aP a=0∧aP b=0:=by
 unfold fg at h
 by_cases ha:aP a=0
 ·rw[if_pos ha] at h;exact ⟨ha,h⟩
 ·rw[if_neg ha] at h;exact absurd h ha
theorem aY {c:Ctx} (h:aP c=0):bF c=true∧c.l.length≤400∧∀k,k<c.l.length→j5 c k=true:=by
 have h1:=mh h
 unfold aP at h
 rw[h1] at h
 by_cases hl:400<c.l.length
 ·simp[hl] at h
 ·refine ⟨h1,by omega,?_⟩
  cases ha:(List.range c.l.length).all (j5 c)
  ·simp[hl,ha] at h
  ·intro k hk
   rw[List.all_eq_true] at ha
   exact ha k (by simpa using hk)
theorem jk {c:Ctx} (h:aP c=0):∀x∈c.l,ar x=true:=by
 intro x hx
 obtain ⟨j,hj,rfl⟩:=List.getElem_of_mem hx
 have:=(aY h).2.2 j hj
 cases j with
 | zero=>rw[fd hj rfl] at this;simp at this;exact this.1
 | succ m=>rw[dX hj rfl rfl] at this;simp at this;exact this.1.1

structure TbP (P:Nat→Prop) (w:World) (t:Tab) (A:Option Addr) (ca:Nat) (D:Option Addr) (cd:Nat):Prop where
 row:Row w A t.c.l
 cel:bw w D t.e
 pr:PIn P A t.c.l
 pc:PIn P D t.e
 nr:A=none→ca=0
 nc:D=none→cd=0
 ok:am t=0
theorem TbP.agr {P:Nat→Prop} {w w':World} {t:Tab} {A:Option Addr} {ca:Nat} {D:Option Addr} {cd:Nat} (h:TbP P w t A ca D cd) (q:Agr P w w'):TbP P w' t A ca D cd:=⟨h.row.agr h.pr q,h.cel.agr h.pc q,h.pr,h.pc,h.nr,h.nc,h.ok⟩
theorem TbP.below {P:Nat→Prop} {w w':World} {t:Tab} {A:Option Addr} {ca:Nat} {D:Option Addr} {cd:Nat} (h:TbP P w t A ca D cd) (q:Below w.heap.size w w'):TbP P w' t A ca D cd:=h.agr (Agr.of q)
theorem TbP.mono {P Q:Nat→Prop} {w:World} {t:Tab} {A:Option Addr} {ca:Nat} {D:Option Addr} {cd:Nat} (h:TbP P w t A ca D cd) (k:∀b,P b→Q b):TbP Q w t A ca D cd:=⟨h.row,h.cel,h.pr.mono k,h.pc.mono k,h.nr,h.nc,h.ok⟩
theorem TbP.len {P:Nat→Prop} {w:World} {t:Tab} {A:Option Addr} {ca:Nat} {D:Option Addr} {cd:Nat} (h:TbP P w t A ca D cd):t.c.l.length≤maxLen∧t.e.length≤maxLen:=by
 have h1:=(aY (ae h.ok).1).2.1
 have h2:=(ae h.ok).2.1
 unfold maxLen
 omega

theorem Agr.set {P:Nat→Prop} {w:World} {V j:Nat} (v:Value) (h:¬P V):Agr P w (w.setCell ⟨V,j,none⟩ v):=(Wr.set (lo:=j) (hi:=j+1) w v (nR _) (by omega)).agr h
theorem jT {W:World} {A B:Option Addr} {c d:Nat} {l r:List Itm} (h:Lv W A c l) (h':Lv W B d r) {m:List Zit} (hm:aU (l.map Itm.z) (r.map Itm.z)=m) :
  Calls Z 112 #[I A l.length c,I B r.length d] W fun e w'=>∃(L:List Itm) (C:Option Addr) (k:Nat),e= K (I C L.length k)∧L.map Itm.z=m∧LvP (fun b=>W.heap.size≤b∧b<w'.heap.size) w' C k L∧Below W.heap.size W w':=by
 obtain ⟨E,hE⟩:∃E,aW (l.map Itm.z) (r.map Itm.z)=E:=⟨_,rfl⟩
 have hA0:=qn h h' rfl rfl
 rw[hm,hE] at hA0
 have hA:Hid _:=hA0
 clear hA0 h h' hm hE
 go_enter Tryz.func112,Tryz.ntmps112
 go_wp2_with fail
 refine cM (show Calls _ _ _ _ _ from hA.out) ?_
 rintro e w1 ⟨L,C,k,rfl,h1,h2,h3,h4⟩
 have hfin:Hid (L.map Itm.z=m∧LvP (fun b=>W.heap.size≤b∧b<w1.heap.size) w1 C k L∧Below W.heap.size W w1):=⟨h1,LvP.new h2 h4.new,h3⟩
 clear h1 h2 h3 h4 hA
 go_wp2
 go_ret
 exact ⟨L,C,k,rfl,hfin.out⟩
theorem qR (a b c d e f g h i j k l:Value) (w:World):(Instr.index 48 (H #[a,b,c,d,e,f,g,h,i,j,k,l]) (O S 0)).run Z w= .ok (H #[a,b,c,d,e,f]) w:=by kernel_rfl
theorem qS (a b c d e f g h i j k l:Value) (w:World):(Instr.index 48 (H #[a,b,c,d,e,f,g,h,i,j,k,l]) (O S 1)).run Z w= .ok (H #[g,h,i,j,k,l]) w:=by kernel_rfl
theorem B0 (x y:Value) (w:World):(Instr.index 71 (H #[x,y]) (O S 0)).run Z w= .ok x w:=by kernel_rfl
theorem B1 (x y:Value) (w:World):(Instr.index 71 (H #[x,y]) (O S 1)).run Z w= .ok y w:=by kernel_rfl

theorem ue (wa:World) (T:TypeId) {w1:World} {n:Nat} (hw:(wa.alloc (J #[I none 0 0,I none 0 0] T)).alloc (J #[I none 0 0,I none 0 0] T)=w1) (hn:wa.heap.size=n):Cls w1 n [I none 0 0,I none 0 0]∧Cls w1 (n+1) [I none 0 0,I none 0 0]:=by
 subst hn
 subst hw
 have h1:=Cls.new wa #[I none 0 0,I none 0 0] T
 have h2:=Cls.new (wa.alloc (J #[I none 0 0,I none 0 0] T)) #[I none 0 0,I none 0 0] T
 rw[show (wa.alloc (J #[I none 0 0,I none 0 0] T)).heap.size=wa.heap.size+1 by simp] at h2
 exact ⟨h1.gr ((gR _).alloc _),h2⟩
theorem nu {L:List Itm} {t:Tab} (h:L.map Itm.z=ofR t) (e:am t=0):L.length≤maxLen:=by
 have h1:=congrArg List.length h
 rw[List.length_map] at h1
 have h2:=(TS.of e).len
 unfold maxLen
 omega
theorem jv {P:Nat→Prop} (s t:Tab) (A B C D:Option Addr) (ca cb cc cd:Nat) (w:World) (hs:TbP P w s A ca C cc) (ht:TbP P w t B cb D cd) :
  Calls Z 81 #[H (T2 s A ca C cc t B cb D cd).toArray] w fun e w'=>∃(L M:List Itm) (X Y:Option Addr) (k m:Nat),e= K (H #[I X L.length k,I Y M.length m])∧L.map Itm.z=ofR s∧M.map Itm.z=ofR t∧LvP (fun b=>w.heap.size≤b∧b<w'.heap.size) w' X k L∧LvP (fun b=>w.heap.size≤b∧b<w'.heap.size) w' Y m M∧Below w.heap.size w w':=by
 have hx0:=qR (O S s.c.c0) (O S s.c.c1) (O S s.c.c2) (O S s.c.c3) (I A s.c.l.length ca) (I C s.e.length cc) (O S t.c.c0) (O S t.c.c1) (O S t.c.c2) (O S t.c.c3) (I B t.c.l.length cb) (I D t.e.length cd)
 have hx1:=qS (O S s.c.c0) (O S s.c.c1) (O S s.c.c2) (O S s.c.c3) (I A s.c.l.length ca) (I C s.e.length cc) (O S t.c.c0) (O S t.c.c1) (O S t.c.c2) (O S t.c.c3) (I B t.c.l.length cb) (I D t.e.length cd)
 have hHst:Hid (TbP P w s A ca C cc∧TbP P w t B cb D cd):=⟨hs,ht⟩
 clear hs ht
 go_enter Tryz.func81,Tryz.ntmps81
 go_wp2
 obtain ⟨wa,hwa⟩:∃W,w.alloc (J #[O S s.c.c0,O S s.c.c1,O S s.c.c2,O S s.c.c3,I A s.c.l.length ca,I C s.e.length cc,O S t.c.c0,O S t.c.c1,O S t.c.c2,O S t.c.c3,I B t.c.l.length cb,I D t.e.length cd] 48)=W:=⟨_,rfl⟩
 rw[hwa]
 have hga:Gr w wa:=by rw[←hwa];exact (gR w).alloc _
 have hsa:wa.heap.size=w.heap.size+1:=by rw[←hwa];simp
 clear hwa
 obtain ⟨w1,hw1⟩:∃W,(wa.alloc (J #[I none 0 0,I none 0 0] 71)).alloc (J #[I none 0 0,I none 0 0] 71)=W:=⟨_,rfl⟩
 rw[hw1]
 have hHc:=ue wa 71 hw1 hsa
 have hg1:Gr w w1:=by rw[←hw1];exact (hga.alloc _).alloc _
 have hs1:w1.heap.size=w.heap.size+1+1+1:=by rw[←hw1];simp[hsa]
 have hO0:=sU s A ca C cc (w1.alloc (J #[O S s.c.c0,O S s.c.c1,O S s.c.c2,O S s.c.c3,I A s.c.l.length ca,I C s.e.length cc] 41)) hHst.out.1.len.1 hHst.out.1.len.2 (hHst.out.1.row.gr (hg1.alloc _)) (hHst.out.1.cel.gr (hg1.alloc _))
 rw[hHst.out.1.ok] at hO0
 have hO:Hid _:=hO0
 have hH:Hid (Gr w w1∧Cls w1 (w.heap.size+1) [I none 0 0,I none 0 0]∧Cls w1 (w.heap.size+1+1) [I none 0 0,I none 0 0]∧w1.heap.size=w.heap.size+1+1+1):=⟨hg1,hHc.1,hHc.2,hs1⟩
 clear hO0 hg1 hs1 hHc hga hsa hw1
 refine wp_loop_rounds 3 ?_
 rw[rounds_succ]
 go_wp2_with fail
 refine cM (show Calls _ _ _ _ _ from hO.out) ?_
 rintro e w3 ⟨L,X,k,rfl,l1,l2,l3,l4,l5⟩
 have hb3:Below w1.heap.size w1 w3:=((gR w1).alloc _).below.trans (l4.mono (by simp))
 have hL3:=hH.out.2.2.1.below hb3
 have p0:=hL3.cell (j:=0) rfl
 have z0:=hL3.fz 0
 have hll:L.length≤maxLen:=nu l1 hHst.out.1.ok
 have hLP:Hid (LvP (fun b=>w1.heap.size≤b∧b<w3.heap.size) w3 X k L∧L.map Itm.z=ofR s):=⟨(LvP.new ⟨l2,l3,hll⟩ l5).mono fun b hb=>⟨nT (by simp) hb.1,hb.2⟩,l1⟩
 have hR3:Hid (Cls w3 (w.heap.size+1) [I none 0 0,I none 0 0]∧Cls w3 (w.heap.size+1+1) [I none 0 0,I none 0 0]∧Below w1.heap.size w1 w3):=⟨hH.out.2.1.below hb3,hL3,hb3⟩
 clear l1 l2 l3 l4 l5 hO hb3 hL3 hll
 go_wp2
 clear p0 z0
 obtain ⟨w4,hw4⟩:∃W,w3.setCell ⟨w.heap.size+1+1,0,none⟩ (I X L.length k)=W:=⟨_,rfl⟩
 rw[hw4]
 have hs4:w4.heap.size=w3.heap.size:=by rw[←hw4];simp
 have h4:Hid (Cls w4 (w.heap.size+1) [I none 0 0,I none 0 0]∧Cls w4 (w.heap.size+1+1) [I X L.length k,I none 0 0]∧LvP (fun b=>w1.heap.size≤b∧b<w4.heap.size) w4 X k L∧Below w.heap.size w w4∧w1.heap.size≤w4.heap.size):=by
  have hs1:=hH.out.2.2.2
  have hb:=hH.out.1.below.trans (hR3.out.2.2.mono hH.out.1.size)
  refine ⟨?_,?_,?_,?_,?_⟩
  ·rw[←hw4];exact hR3.out.1.oth (by omega) _
  ·rw[←hw4];exact hR3.out.2.1.put 0 _
  ·rw[hs4,←hw4];exact hLP.out.1.agr (Agr.set _ fun h=>by omega)
  ·rw[←hw4];exact hb.setCell (by show _≤w.heap.size+1+1;omega) _
  ·rw[hs4];exact hR3.out.2.2.size
 clear hw4 hs4 hR3
 rw[rounds_succ]
 have hO0:=sU t B cb D cd (w4.alloc (J #[O S t.c.c0,O S t.c.c1,O S t.c.c2,O S t.c.c3,I B t.c.l.length cb,I D t.e.length cd] 41)) hHst.out.2.len.1 hHst.out.2.len.2 ((hHst.out.2.row.below h4.out.2.2.2.1).gr ((gR _).alloc _)) ((hHst.out.2.cel.below h4.out.2.2.2.1).gr ((gR _).alloc _))
 rw[hHst.out.2.ok] at hO0
 have hO:Hid _:=hO0
 clear hO0
 go_wp2_with fail
 refine cM (show Calls _ _ _ _ _ from hO.out) ?_
 rintro e w5 ⟨M,Y,m,rfl,l1,l2,l3,l4,l5⟩
 have hb5:Below w4.heap.size w4 w5:=((gR w4).alloc _).below.trans (l4.mono (by simp))
 have hL5:=h4.out.2.1.below hb5
 have p0:=hL5.cell (j:=1) rfl
 have z0:=hL5.fz 1
 have hll:M.length≤maxLen:=nu l1 hHst.out.2.ok
 have hMP:Hid (LvP (fun b=>w1.heap.size≤b∧b<w5.heap.size) w5 X k L∧LvP (fun b=>w1.heap.size≤b∧b<w5.heap.size) w5 Y m M∧M.map Itm.z=ofR t):=⟨(h4.out.2.2.1.below hb5).mono fun b hb=>⟨hb.1,nL hb.2 hb5.size⟩,(LvP.new ⟨l2,l3,hll⟩ l5).mono fun b hb=>⟨nT h4.out.2.2.2.2 (nT (by simp) hb.1),hb.2⟩,l1⟩
 have hR5:Hid (Cls w5 (w.heap.size+1) [I none 0 0,I none 0 0]∧Cls w5 (w.heap.size+1+1) [I X L.length k,I none 0 0]∧Below w.heap.size w w5):=⟨h4.out.1.below hb5,hL5,h4.out.2.2.2.1.trans (hb5.mono h4.out.2.2.2.1.size)⟩
 clear l1 l2 l3 l4 l5 hO hb5 hL5 hll
 go_wp2
 clear p0 z0
 obtain ⟨w6,hw6⟩:∃W,w5.setCell ⟨w.heap.size+1+1,1,none⟩ (I Y M.length m)=W:=⟨_,rfl⟩
 rw[hw6]
 have hs6:w6.heap.size=w5.heap.size:=by rw[←hw6];simp
 have h6:Hid (Cls w6 (w.heap.size+1) [I none 0 0,I none 0 0]∧Cls w6 (w.heap.size+1+1) [I X L.length k,I Y M.length m]∧LvP (fun b=>w1.heap.size≤b∧b<w6.heap.size) w6 X k L∧LvP (fun b=>w1.heap.size≤b∧b<w6.heap.size) w6 Y m M∧Below w.heap.size w w6):=by
  have hs1:=hH.out.2.2.2
  refine ⟨?_,?_,?_,?_,?_⟩
  ·rw[←hw6];exact hR5.out.1.oth (by omega) _
  ·rw[←hw6];exact hR5.out.2.1.put 1 _
  ·rw[hs6,←hw6];exact hMP.out.1.agr (Agr.set _ fun h=>by omega)
  ·rw[hs6,←hw6];exact hMP.out.2.1.agr (Agr.set _ fun h=>by omega)
  ·rw[←hw6];exact hR5.out.2.2.setCell (by show _≤w.heap.size+1+1;omega) _
 clear hw6 hs6 hR5
 rw[rounds_succ]
 have q0:=h6.out.2.1.cell (j:=0) rfl
 have q1:=h6.out.2.1.cell (j:=1) rfl
 have r0:=h6.out.1.cell (j:=0) rfl
 have r1:=h6.out.1.cell (j:=1) rfl
 have z0:=h6.out.1.fz 0
 have z1:=h6.out.1.fz 1
 go_wp2
 have hs1:=hH.out.2.2.2
 have hge:w.heap.size≤w.heap.size+1:=by omega
 refine bodyPost_ret (v:= H #[I X L.length k,I Y M.length m]) (by simp[results,Tryz.results81,go_sem,r0,r1]) rfl ⟨L,M,X,Y,k,m,rfl,hLP.out.2,hMP.out.2.2,?_,?_,(h6.out.2.2.2.2.setCell hge _).setCell hge _⟩
 ·exact ((h6.out.2.2.1.agr (Agr.set _ fun h=>by omega)).agr (Agr.set _ fun h=>by omega)).mono fun b hb=>⟨by omega,by simpa using hb.2⟩
 ·exact ((h6.out.2.2.2.1.agr (Agr.set _ fun h=>by omega)).agr (Agr.set _ fun h=>by omega)).mono fun b hb=>⟨by omega,by simpa using hb.2⟩
theorem rl {W:World} {A:Option Addr} {c:Nat} {l:List Itm} (h:Lv W A c l) (hz:TS (l.map Itm.z)) :
  Calls Z 137 #[I A l.length c] W fun e w'=>∃(L:List Itm) (C:Option Addr) (k:Nat),e= K (R #[I C L.length k,O S 0])∧L.map Itm.z=i7 (l.map Itm.z)∧Lv w' C k L∧Below W.heap.size W w':=by
 have:=B7 h rfl
 rw[hz.ok] at this
 exact this
theorem m8 (a b c d:List Itm) (A B C D:Option Addr) (ca cb cc cd:Nat) (w:World) (ha:Lv w A ca a) (hb:Lv w B cb b) (hc:Lv w C cc c) (hd:Lv w D cd d) (ta:TS (a.map Itm.z)) (tb:TS (b.map Itm.z)) (tc:TS (c.map Itm.z)) (td:TS (d.map Itm.z)) :
  Calls Z 109 #[H #[I A a.length ca,I B b.length cb],H #[I C c.length cc,I D d.length cd]] w fun e w'=>∃(L M:List Itm) (X Y:Option Addr) (k m:Nat),e= K (H #[I X L.length k,I Y M.length m])∧L.map Itm.z=bn (a.map Itm.z) (c.map Itm.z)∧M.map Itm.z=bn (b.map Itm.z) (d.map Itm.z)∧LvP (fun b=>w.heap.size≤b∧b<w'.heap.size) w' X k L∧LvP (fun b=>w.heap.size≤b∧b<w'.heap.size) w' Y m M∧Below w.heap.size w w':=by
 have hHst:Hid (Lv w A ca a∧Lv w B cb b∧Lv w C cc c∧Lv w D cd d∧TS (a.map Itm.z)∧TS (b.map Itm.z)∧TS (c.map Itm.z)∧TS (d.map Itm.z)):=⟨ha,hb,hc,hd,ta,tb,tc,td⟩
 clear ha hb hc hd ta tb tc td
 go_enter Tryz.func109,Tryz.ntmps109
 go_wp2
 obtain ⟨wa,hwa⟩:∃W,(w.alloc (J #[I A a.length ca,I B b.length cb] 71)).alloc (J #[I C c.length cc,I D d.length cd] 71)=W:=⟨_,rfl⟩
 rw[hwa]
 have hga:Gr w wa:=by rw[←hwa];exact ((gR w).alloc _).alloc _
 have hsa:wa.heap.size=w.heap.size+1+1:=by rw[←hwa];simp
 have hN:Cls wa w.heap.size [I A a.length ca,I B b.length cb]:=by rw[←hwa];exact (Cls.new w _ _).gr ((gR _).alloc _)
 have hO:Cls wa (w.heap.size+1) [I C c.length cc,I D d.length cd]:=by
  have:=Cls.new (w.alloc (J #[I A a.length ca,I B b.length cb] 71)) #[I C c.length cc,I D d.length cd] 71
  rw[hwa,show (w.alloc (J #[I A a.length ca,I B b.length cb] 71)).heap.size=w.heap.size+1 by simp] at this
  exact this
 clear hwa
 obtain ⟨w1,hw1⟩:∃W,(wa.alloc (J #[I none 0 0,I none 0 0] 71)).alloc (J #[I none 0 0,I none 0 0] 71)=W:=⟨_,rfl⟩
 rw[hw1]
 have hHc:=ue wa 71 hw1 hsa
 have hga1:Gr wa w1:=by rw[←hw1];exact ((gR _).alloc _).alloc _
 have hg1:Gr w w1:=hga.trans hga1
 have hs1:w1.heap.size=w.heap.size+1+1+1+1:=by rw[←hw1];simp[hsa]
 have hH:Hid (Gr w w1∧Cls w1 w.heap.size [I A a.length ca,I B b.length cb]∧Cls w1 (w.heap.size+1) [I C c.length cc,I D d.length cd]∧Cls w1 (w.heap.size+1+1) [I none 0 0,I none 0 0]∧Cls w1 (w.heap.size+1+1+1) [I none 0 0,I none 0 0]∧w1.heap.size=w.heap.size+1+1+1+1):=⟨hg1,hN.gr hga1,hO.gr hga1,hHc.1,hHc.2,hs1⟩
 clear hg1 hs1 hHc hga hsa hw1 hN hO hga1
 have q0:=hH.out.2.1.cell (j:=0) rfl
 have q1:=hH.out.2.2.1.cell (j:=0) rfl
 refine wp_loop_rounds 3 ?_
 rw[rounds_succ]
 have hC0:=rl (hHst.out.2.2.1.gr hH.out.1) hHst.out.2.2.2.2.2.2.1
 have hC:Hid _:=hC0
 clear hC0
 go_wp2_with fail
 clear q0 q1
 refine cM (show Calls _ _ _ _ _ from hC.out) ?_
 rintro e w2 ⟨T,TA,tk,rfl,t1,t2,t3⟩
 have hT:Hid (Lv w2 TA tk T∧T.map Itm.z=i7 (c.map Itm.z)∧Below w1.heap.size w1 w2):=⟨t2,t1,t3⟩
 clear t1 t2 t3 hC
 have q0:=(hH.out.2.1.below hT.out.2.2).cell (j:=0) rfl
 have hC0:=jT ((hHst.out.1.gr hH.out.1).below hT.out.2.2) hT.out.1 (m:=bn (a.map Itm.z) (c.map Itm.z)) (by rw[hT.out.2.1];exact (o6 hHst.out.2.2.2.2.1 hHst.out.2.2.2.2.2.2.1).2)
 have hC:Hid _:=hC0
 clear hC0
 go_wp2_with fail
 clear q0
 refine cM (show Calls _ _ _ _ _ from hC.out) ?_
 rintro e w3 ⟨L,X,k,rfl,l1,l2,l3⟩
 have hb3:Below w1.heap.size w1 w3:=hT.out.2.2.trans (l3.mono hT.out.2.2.size)
 have hL3:=hH.out.2.2.2.2.1.below hb3
 have p0:=hL3.cell (j:=0) rfl
 have z0:=hL3.fz 0
 have hLP:Hid (LvP (fun b=>w1.heap.size≤b∧b<w3.heap.size) w3 X k L∧L.map Itm.z=bn (a.map Itm.z) (c.map Itm.z)):=⟨l2.mono fun b hb=>⟨nT hT.out.2.2.size hb.1,hb.2⟩,l1⟩
 have hR3:Hid (Below w1.heap.size w1 w3):=hb3
 clear l1 l2 l3 hC hb3 hL3
 go_wp2
 clear p0 z0
 obtain ⟨w4,hw4⟩:∃W,w3.setCell ⟨w.heap.size+1+1+1,0,none⟩ (I X L.length k)=W:=⟨_,rfl⟩
 rw[hw4]
 have hs4:w4.heap.size=w3.heap.size:=by rw[←hw4];simp
 have h4:Hid (Cls w4 w.heap.size [I A a.length ca,I B b.length cb]∧Cls w4 (w.heap.size+1) [I C c.length cc,I D d.length cd]∧Cls w4 (w.heap.size+1+1) [I none 0 0,I none 0 0]∧Cls w4 (w.heap.size+1+1+1) [I X L.length k,I none 0 0]∧LvP (fun b=>w1.heap.size≤b∧b<w4.heap.size) w4 X k L∧Below w.heap.size w w4∧w1.heap.size≤w4.heap.size):=by
  have hs1:=hH.out.2.2.2.2.2
  have hb:=hH.out.1.below.trans (hR3.out.mono hH.out.1.size)
  refine ⟨?_,?_,?_,?_,?_,?_,?_⟩
  ·rw[←hw4];exact (hH.out.2.1.below hR3.out).oth (by omega) _
  ·rw[←hw4];exact (hH.out.2.2.1.below hR3.out).oth (by omega) _
  ·rw[←hw4];exact (hH.out.2.2.2.1.below hR3.out).oth (by omega) _
  ·rw[←hw4];exact (hH.out.2.2.2.2.1.below hR3.out).put 0 _
  ·rw[hs4,←hw4];exact hLP.out.1.agr (Agr.set _ fun h=>by omega)
  ·rw[←hw4];exact hb.setCell (by show _≤w.heap.size+1+1+1;omega) _
  ·rw[hs4];exact hR3.out.size
 clear hw4 hs4 hR3 hT
 rw[rounds_succ]
 have q0:=h4.out.1.cell (j:=1) rfl
 have q1:=h4.out.2.1.cell (j:=1) rfl
 have hC0:=rl (hHst.out.2.2.2.1.below h4.out.2.2.2.2.2.1) hHst.out.2.2.2.2.2.2.2
 have hC:Hid _:=hC0
 clear hC0
 go_wp2_with fail
 clear q0 q1
 refine cM (show Calls _ _ _ _ _ from hC.out) ?_
 rintro e w5 ⟨U,UA,uk,rfl,t1,t2,t3⟩
 have hT:Hid (Lv w5 UA uk U∧U.map Itm.z=i7 (d.map Itm.z)∧Below w4.heap.size w4 w5):=⟨t2,t1,t3⟩
 clear t1 t2 t3 hC
 have q0:=(h4.out.1.below hT.out.2.2).cell (j:=1) rfl
 have hC0:=jT ((hHst.out.2.1.below h4.out.2.2.2.2.2.1).below hT.out.2.2) hT.out.1 (m:=bn (b.map Itm.z) (d.map Itm.z)) (by rw[hT.out.2.1];exact (o6 hHst.out.2.2.2.2.2.1 hHst.out.2.2.2.2.2.2.2).2)
 have hC:Hid _:=hC0
 clear hC0
 go_wp2_with fail
 clear q0
 refine cM (show Calls _ _ _ _ _ from hC.out) ?_
 rintro e w6 ⟨M,Y,m,rfl,l1,l2,l3⟩
 have hb6:Below w4.heap.size w4 w6:=hT.out.2.2.trans (l3.mono hT.out.2.2.size)
 have hL6:=h4.out.2.2.2.1.below hb6
 have p0:=hL6.cell (j:=1) rfl
 have z0:=hL6.fz 1
 have hMP:Hid (LvP (fun b=>w1.heap.size≤b∧b<w6.heap.size) w6 X k L∧LvP (fun b=>w1.heap.size≤b∧b<w6.heap.size) w6 Y m M∧M.map Itm.z=bn (b.map Itm.z) (d.map Itm.z)):=⟨(h4.out.2.2.2.2.1.below hb6).mono fun b hb=>⟨hb.1,nL hb.2 hb6.size⟩,l2.mono fun b hb=>⟨nT h4.out.2.2.2.2.2.2 (nT hT.out.2.2.size hb.1),hb.2⟩,l1⟩
 have hR6:Hid (Cls w6 (w.heap.size+1+1) [I none 0 0,I none 0 0]∧Cls w6 (w.heap.size+1+1+1) [I X L.length k,I none 0 0]∧Below w.heap.size w w6):=⟨h4.out.2.2.1.below hb6,hL6,h4.out.2.2.2.2.2.1.trans (hb6.mono h4.out.2.2.2.2.2.1.size)⟩
 clear l1 l2 l3 hC hb6 hL6
 go_wp2
 clear p0 z0
 obtain ⟨w7,hw7⟩:∃W,w6.setCell ⟨w.heap.size+1+1+1,1,none⟩ (I Y M.length m)=W:=⟨_,rfl⟩
 rw[hw7]
 have hs7:w7.heap.size=w6.heap.size:=by rw[←hw7];simp
 have h7:Hid (Cls w7 (w.heap.size+1+1) [I none 0 0,I none 0 0]∧Cls w7 (w.heap.size+1+1+1) [I X L.length k,I Y M.length m]∧LvP (fun b=>w1.heap.size≤b∧b<w7.heap.size) w7 X k L∧LvP (fun b=>w1.heap.size≤b∧b<w7.heap.size) w7 Y m M∧Below w.heap.size w w7):=by
  have hs1:=hH.out.2.2.2.2.2
  refine ⟨?_,?_,?_,?_,?_⟩
  ·rw[←hw7];exact hR6.out.1.oth (by omega) _
  ·rw[←hw7];exact hR6.out.2.1.put 1 _
  ·rw[hs7,←hw7];exact hMP.out.1.agr (Agr.set _ fun h=>by omega)
  ·rw[hs7,←hw7];exact hMP.out.2.1.agr (Agr.set _ fun h=>by omega)
  ·rw[←hw7];exact hR6.out.2.2.setCell (by show _≤w.heap.size+1+1+1;omega) _
 clear hw7 hs7 hR6 hT
 rw[rounds_succ]
 have q0:=h7.out.2.1.cell (j:=0) rfl
 have q1:=h7.out.2.1.cell (j:=1) rfl
 have r0:=h7.out.1.cell (j:=0) rfl
 have r1:=h7.out.1.cell (j:=1) rfl
 have z0:=h7.out.1.fz 0
 have z1:=h7.out.1.fz 1
 go_wp2
 have hs1:=hH.out.2.2.2.2.2
 have hge:w.heap.size≤w.heap.size+1+1:=by omega
 refine bodyPost_ret (v:= H #[I X L.length k,I Y M.length m]) (by simp[results,Tryz.results109,go_sem,r0,r1]) rfl ⟨L,M,X,Y,k,m,rfl,hLP.out.2,hMP.out.2.2,?_,?_,(h7.out.2.2.2.2.setCell hge _).setCell hge _⟩
 ·exact ((h7.out.2.2.1.agr (Agr.set _ fun h=>by omega)).agr (Agr.set _ fun h=>by omega)).mono fun b hb=>⟨by omega,by simpa using hb.2⟩
 ·exact ((h7.out.2.2.2.1.agr (Agr.set _ fun h=>by omega)).agr (Agr.set _ fun h=>by omega)).mono fun b hb=>⟨by omega,by simpa using hb.2⟩
abbrev aS:=@Agr.set

theorem Vo.mono {w:World} {V o:Nat} {P P':Nat→Prop} {q:List Stp} {QA:Option Addr} {cq:Nat} {a:List Itm} {A:Option Addr} {ca:Nat} {b:List Itm} {B:Option Addr} {cb:Nat} (h:Vo w V o P q QA cq a A ca b B cb) (k:∀b,P b→P' b):Vo w V o P' q QA cq a A ca b B cb :=
 ⟨h.lt,h.fz,h.c0,h.c1,h.c2,h.st.mono k,h.len,h.la.mono k,h.lb.mono k⟩
theorem Vo.set {w:World} {V o:Nat} {P:Nat→Prop} {q:List Stp} {QA:Option Addr} {cq:Nat} {a:List Itm} {A:Option Addr} {ca:Nat} {b:List Itm} {B:Option Addr} {cb:Nat} (h:Vo w V o P q QA cq a A ca b B cb) (hV:¬P V) {j:Nat} (hj:o+3≤j) (v:Value):Vo (w.setCell ⟨V,j,none⟩ v) V o P q QA cq a A ca b B cb :=
 have hA:Agr P w (w.setCell ⟨V,j,none⟩ v):=aS v hV
 ⟨by simpa using h.lt,fun j=>by simpa using h.fz j,by rw[cG (by omega)];exact h.c0,by rw[cG (by omega)];exact h.c1,by rw[cG (by omega)];exact h.c2,h.st.agr hA,h.len,h.la.agr hA,h.lb.agr hA⟩
structure Vm (w:World) (V o:Nat) (P:Nat→Prop) (q:List Stp) (QA:Option Addr) (cq:Nat) (a:List Itm) (A:Option Addr) (ca:Nat) (b:List Itm) (B:Option Addr) (cb:Nat) (x:List Itm) (X:Option Addr) (cx:Nat) (y:List Itm) (Y:Option Addr) (cy:Nat) (e:Int):Prop where
 vo:Vo w V o P q QA cq a A ca b B cb
 c3:w.cell? ⟨V,o+3,none⟩=some (I X x.length cx)
 c4:w.cell? ⟨V,o+4,none⟩=some (I Y y.length cy)
 c5:w.cell? ⟨V,o+5,none⟩=some (O S e)
 lx:LvP P w X cx x
 ly:LvP P w Y cy y
section
variable {w w':World} {V o:Nat} {P P':Nat→Prop} {q:List Stp} {QA:Option Addr} {cq:Nat} {a:List Itm} {A:Option Addr} {ca:Nat} {b:List Itm} {B:Option Addr} {cb:Nat} {x:List Itm} {X:Option Addr} {cx:Nat} {y:List Itm} {Y:Option Addr} {cy:Nat} {e:Int}
theorem Vm.below (h:Vm w V o P q QA cq a A ca b B cb x X cx y Y cy e) (k:Below w.heap.size w w'):Vm w' V o P q QA cq a A ca b B cb x X cx y Y cy e :=
 ⟨h.vo.below k,(k.cell (p:=⟨V,o+3,none⟩) h.vo.lt).trans h.c3,(k.cell (p:=⟨V,o+4,none⟩) h.vo.lt).trans h.c4,(k.cell (p:=⟨V,o+5,none⟩) h.vo.lt).trans h.c5,h.lx.below k,h.ly.below k⟩
theorem Vm.mono (h:Vm w V o P q QA cq a A ca b B cb x X cx y Y cy e) (k:∀b,P b→P' b):Vm w V o P' q QA cq a A ca b B cb x X cx y Y cy e :=
 ⟨h.vo.mono k,h.c3,h.c4,h.c5,h.lx.mono k,h.ly.mono k⟩
theorem Vm.set3 (h:Vm w V o P q QA cq a A ca b B cb x X cx y Y cy e) (hV:¬P V) {x':List Itm} {X':Option Addr} {cx':Nat} (hx:LvP P w X' cx' x'):Vm (w.setCell ⟨V,o+3,none⟩ (I X' x'.length cx')) V o P q QA cq a A ca b B cb x' X' cx' y Y cy e :=
 ⟨h.vo.set hV (by omega) _,World.cell?_setCell_same _ _ _ h.c3,by rw[cG (by omega)];exact h.c4,by rw[cG (by omega)];exact h.c5,hx.agr (aS _ hV),h.ly.agr (aS _ hV)⟩
theorem Vm.set4 (h:Vm w V o P q QA cq a A ca b B cb x X cx y Y cy e) (hV:¬P V) {y':List Itm} {Y':Option Addr} {cy':Nat} (hy:LvP P w Y' cy' y'):Vm (w.setCell ⟨V,o+4,none⟩ (I Y' y'.length cy')) V o P q QA cq a A ca b B cb x X cx y' Y' cy' e :=
 ⟨h.vo.set hV (by omega) _,by rw[cG (by omega)];exact h.c3,World.cell?_setCell_same _ _ _ h.c4,by rw[cG (by omega)];exact h.c5,h.lx.agr (aS _ hV),hy.agr (aS _ hV)⟩
theorem Vm.set5 (h:Vm w V o P q QA cq a A ca b B cb x X cx y Y cy e) (hV:¬P V) (e':Int):Vm (w.setCell ⟨V,o+5,none⟩ (O S e')) V o P q QA cq a A ca b B cb x X cx y Y cy e' :=
 ⟨h.vo.set hV (by omega) _,by rw[cG (by omega)];exact h.c3,by rw[cG (by omega)];exact h.c4,World.cell?_setCell_same _ _ _ h.c5,h.lx.agr (aS _ hV),h.ly.agr (aS _ hV)⟩
end
def VwM (w:World) (V o:Nat) (P:Nat→Prop) (q:List Stp) (k l m n:List Zit) (e:Int):Prop :=
 ∃(q':List Stp) (QA:Option Addr) (cq:Nat) (a:List Itm) (A:Option Addr) (ca:Nat) (b:List Itm) (B:Option Addr) (cb:Nat) (x:List Itm) (X:Option Addr) (cx:Nat) (y:List Itm) (Y:Option Addr) (cy:Nat),
  Vm w V o P q' QA cq a A ca b B cb x X cx y Y cy e∧q'.map bare=q.map bare∧a.map Itm.z=k∧b.map Itm.z=l∧x.map Itm.z=m∧y.map Itm.z=n
theorem VwM.below {w w':World} {V o:Nat} {P:Nat→Prop} {q:List Stp} {k l m n:List Zit} {e:Int} (h:VwM w V o P q k l m n e) (g:Below w.heap.size w w'):VwM w' V o P q k l m n e:=by
 obtain ⟨q',QA,cq,a,A,ca,b,B,cb,x,X,cx,y,Y,cy,h1,h2⟩:=h
 exact ⟨q',QA,cq,a,A,ca,b,B,cb,x,X,cx,y,Y,cy,h1.below g,h2⟩
theorem VwM.mono {w:World} {V o:Nat} {P P':Nat→Prop} {q:List Stp} {k l m n:List Zit} {e:Int} (h:VwM w V o P q k l m n e) (g:∀b,P b→P' b):VwM w V o P' q k l m n e:=by
 obtain ⟨q',QA,cq,a,A,ca,b,B,cb,x,X,cx,y,Y,cy,h1,h2⟩:=h
 exact ⟨q',QA,cq,a,A,ca,b,B,cb,x,X,cx,y,Y,cy,h1.mono g,h2⟩
theorem VwM.keep {w w':World} {V o:Nat} {P:Nat→Prop} {q:List Stp} {k l m n:List Zit} {e:Int} (h:VwM w V o P q k l m n e) (hA:Agr P w w') (hl:V<w'.heap.size) (hf:∀j,w'.frozen? ⟨V,j,none⟩=false) (hc:∀j,o≤j→j<o+6→w'.cell? ⟨V,j,none⟩=w.cell? ⟨V,j,none⟩):VwM w' V o P q k l m n e:=by
 obtain ⟨q',QA,cq,a,A,ca,b,B,cb,x,X,cx,y,Y,cy,h1,h2⟩:=h
 exact ⟨q',QA,cq,a,A,ca,b,B,cb,x,X,cx,y,Y,cy,⟨⟨hl,hf,(hc o (by omega) (by omega)).trans h1.vo.c0,(hc (o+1) (by omega) (by omega)).trans h1.vo.c1,(hc (o+2) (by omega) (by omega)).trans h1.vo.c2,h1.vo.st.agr hA,h1.vo.len,h1.vo.la.agr hA,h1.vo.lb.agr hA⟩,(hc (o+3) (by omega) (by omega)).trans h1.c3,(hc (o+4) (by omega) (by omega)).trans h1.c4,(hc (o+5) (by omega) (by omega)).trans h1.c5,h1.lx.agr hA,h1.ly.agr hA⟩,h2⟩
def VwN (w:World) (V o:Nat) (P:Nat→Prop) (q:List Stp) (z y:List Zit):Prop :=
 ∃k l,VwM w V o P q k l (bn z k) (bn y l) (bY q z y)∧TS k∧TS l∧(bY q z y=0→k=z∧l=y)
theorem VwN.mono {w:World} {V o:Nat} {P P':Nat→Prop} {q:List Stp} {z y:List Zit} (h:VwN w V o P q z y) (g:∀b,P b→P' b):VwN w V o P' q z y:=by
 obtain ⟨k,l,h1,h2⟩:=h
 exact ⟨k,l,h1.mono g,h2⟩
theorem VwN.keep {w w':World} {V o:Nat} {P:Nat→Prop} {q:List Stp} {z y:List Zit} (h:VwN w V o P q z y) (hA:Agr P w w') (hl:V<w'.heap.size) (hf:∀j,w'.frozen? ⟨V,j,none⟩=false) (hc:∀j,o≤j→j<o+6→w'.cell? ⟨V,j,none⟩=w.cell? ⟨V,j,none⟩):VwN w' V o P q z y:=by
 obtain ⟨k,l,h1,h2⟩:=h
 exact ⟨k,l,h1.keep hA hl hf hc,h2⟩
end Go.Proofs.YtkefkplnamkicaaGreatDoor
