/-
  inc.difference: what is to be added to one set to have another one.
  The first steps of a query tell what they do alone; one more step.
-/
import Derived.Test.YtkefkplnamkicaaGreatDoorM18
set_option maxRecDepth 100000
set_option maxHeartbeats 8000000
open Go.IntKind renaming i64 → V
open Go.Obj renaming cells → J
open Go.Value renaming slice → I, int → S
namespace Go.Proofs.YtkefkplnamkicaaGreatDoor
open Go.RowKit Go.Sort

def uO:Value→Nat
 | I _ n _=>n
 | _=>0
theorem eJ (w:World) {ops:Array Oper} {rest:List Oper} {o:Oper} {a:Act} {Q:Exit→Act→World→Prop} (hgd:o.guard=none) (s x:Operand)
  (ho:o.op= .call { callee:= .builtin .append,args:= #[s,x],argTypes:= #[58,58] })
  (base:Nat) (v:Value) (l m:List Itm) (A:Option Addr) (cap:Nat) (hs:a.eval s=v) (hx:a.eval x= I A m.length cap) (hown:af aQ 2 101 w base v l) (hr:au aQ 2 w A m) (hA:A=none→cap=0)
  (hml:l.length+m.length≤maxLen) (hb:(l.length+m.length)*32≤140737488355328) (hbase:base≤w.heap.size)
  (h:∀v' w',af aQ 2 101 w' base v' (l++m)→w.grownBy w' v.ownBlock→wpList Tryz.prog ops Q rest (a.put o.dst v') w'):wpList Tryz.prog ops Q (o::rest) a w :=
 wpList_plain hgd fun _ hK=>dZ bL fT (by omega) 58 Tryz.underlying58 (.agg #[I none 0 0,S V 0]) 32 Tryz.infoT rfl w s x ho base v l m A cap hs hx hown hr hA hml hb hbase fun v' w' h2 h3=>hK _ _ (h v' w' h2 h3)
theorem Items.tail {w:World} {b off:Nat} {x:Itm} {t:List Itm} {c:Nat} (h:Items w (some ⟨b,off,none⟩) (x::t)) (hc:(x::t).length≤c):Items w (if c=1 then some ⟨b,off,none⟩ else some ⟨b,off+2,none⟩) t:=by
 refine ⟨?_,fun y hy=>h.each y (mC _ hy)⟩
 by_cases ht:t=[]
 ·exact oL ht
 ·have hl:0<t.length:=List.length_pos_iff.2 ht
  rw[if_neg (by simp at hc;omega)]
  obtain ⟨b',off',hA,hb,hcs⟩:=h.row.at (m:=0) (by simp)
  cases hA
  refine oR ⟨b,off+2,rfl,hb,fun j hj i hi=> ?_⟩
  have:=hcs (j+1) (by simp;omega) i hi
  rw[show off+(j+1)*2+i=off+2+j*2+i by omega] at this
  simpa using this
theorem lL {w:World} {X n:Nat} {u0 u1 v0 v1:Value} (hn:n≤X) (h0:w.cell? ⟨X,0,none⟩=some u0) (h1:w.cell? ⟨X,1,none⟩=some u1) (g0:w.frozen? ⟨X,0,none⟩=false) (g1:w.frozen? ⟨X,1,none⟩=false) :
  (((w.setCell ⟨X,0,none⟩ v0).setCell ⟨X,1,none⟩ v1).drew).cell? ⟨X,0,none⟩=some v0∧(((w.setCell ⟨X,0,none⟩ v0).setCell ⟨X,1,none⟩ v1).drew).cell? ⟨X,1,none⟩=some v1∧(((w.setCell ⟨X,0,none⟩ v0).setCell ⟨X,1,none⟩ v1).drew).frozen? ⟨X,0,none⟩=false∧(((w.setCell ⟨X,0,none⟩ v0).setCell ⟨X,1,none⟩ v1).drew).frozen? ⟨X,1,none⟩=false∧Below n w (((w.setCell ⟨X,0,none⟩ v0).setCell ⟨X,1,none⟩ v1).drew):=by
 refine ⟨?_,?_,?_,?_,?_⟩
 ·rw[World.cell?_drew,World.cell?_setCell_other _ _ _ _ (by simp)]
  exact World.cell?_setCell_same _ _ _ h0
 ·rw[World.cell?_drew]
  exact World.cell?_setCell_same _ _ _ (u:=u1) (by rw[World.cell?_setCell_other _ _ _ _ (by simp)];exact h1)
 ·simpa using g0
 ·simpa using g1
 ·have h:=((bR n w).setCell (p:=⟨X,0,none⟩) hn v0).setCell (p:=⟨X,1,none⟩) hn v1
  exact ⟨h.os,h.tape,h.output,h.size,h.block⟩
structure DInv (w wr:World) (a b a' b':List Itm) (P Q:Option Addr) (c d:Nat) (u:Value) (L:List Itm):Prop where
 ia:Items w P a'
 ib:Items w Q b'
 ca:a'.length≤c
 cb:b'.length≤d
 ra:eO (a'.map Itm.z)
 rb:eO (b'.map Itm.z)
 oa:∀x∈a',okW x.n=true∧x.n≠0
 ob:∀x∈b',okW x.n=true∧x.n≠0
 z:L.map Itm.z++bn (a'.map Itm.z) (b'.map Itm.z)=bn (a.map Itm.z) (b.map Itm.z)
 rows:∀y∈L,∃x∈a++b,y.p=x.p∧y.c=x.c∧y.r=x.r
 suba:∀x∈a',x∈a
 subb:∀x∈b',x∈b
 len:L.length+a'.length+b'.length≤a.length+b.length
 own:af aQ 2 101 wr w.heap.size u L
 bel:Below w.heap.size w wr

theorem eO.after {x:Zit} {l:List Zit} {y:Zit} {u:List Zit} (hl:l=y::u) (h:eO l) (hx:aF x.1 y.1<0):∀z∈l,aF x.1 z.1<0:=by
 subst hl
 intro z hz
 rcases List.mem_cons.1 hz with e|e
 ·rw[e];exact hx
 ·exact cI hx ((List.pairwise_cons.1 h).1 z e)
theorem eO.tail {x:Zit} {l:List Zit} (h:eO (x::l)):eO l:=(List.pairwise_cons.1 h).2
theorem DInv.stepA {w wr w5:World} {a b t b':List Itm} {x:Itm} {ba oa:Nat} {Q:Option Addr} {c d:Nat} {u v5:Value} {L:List Itm} (h:DInv w wr a b (x::t) b' (some ⟨ba,oa,none⟩) Q c d u L) (hO:lu (x::t) b'<0)
  (hown:af aQ 2 101 w5 w.heap.size v5 (L++[(⟨x.p,x.c,x.r,x.n⟩:Itm)])) (hb:Below w.heap.size w w5):DInv w w5 a b t b' (if c=1 then some ⟨ba,oa,none⟩ else some ⟨ba,oa+2,none⟩) Q (c-1) d v5 (L++[(⟨x.p,x.c,x.r,x.n⟩:Itm)]):=by
 have hca:=h.ca
 have hxa:=h.suba x (by simp)
 have hlt:∀y∈b'.map Itm.z,aF x.z.1 y.1<0:=by
  cases b' with
  | nil=>intro y hy;cases hy
  | cons y u=>exact eO.after (x:=x.z) rfl h.rb hO
 have hd:=Ap (x:=x.z) (t:=t.map Itm.z) (b:=b'.map Itm.z) h.ra (h.oa x (by simp)).2 hlt
 refine ⟨h.ia.tail hca,h.ib,by simp at hca;omega,h.cb,h.ra.tail,h.rb,fun y hy=>h.oa y (by simp[hy]),h.ob,?_,fun y hy=> ?_,fun y hy=>h.suba y (by simp[hy]),h.subb,?_,hown,hb⟩
 ·rw[←h.z]
  show _=_++bn (x.z::t.map Itm.z) (b'.map Itm.z)
  rw[hd,List.map_append,List.append_assoc]
  rfl
 ·rcases List.mem_append.1 hy with e|e
  ·exact h.rows y e
  ·rw[List.mem_singleton.1 e];exact ⟨x,by simp[hxa],rfl,rfl,rfl⟩
 ·have:=h.len
  simp at this ⊢
  omega
theorem DInv.stepB {w wr w5:World} {a b a' s:List Itm} {y:Itm} {bb ob:Nat} {P:Option Addr} {c d:Nat} {u v5:Value} {L:List Itm} (h:DInv w wr a b a' (y::s) P (some ⟨bb,ob,none⟩) c d u L) (hO:0<lu a' (y::s))
  (hown:af aQ 2 101 w5 w.heap.size v5 (L++[(⟨y.p,y.c,y.r,-y.n⟩:Itm)])) (hb:Below w.heap.size w w5):DInv w w5 a b a' s P (if d=1 then some ⟨bb,ob,none⟩ else some ⟨bb,ob+2,none⟩) c (d-1) v5 (L++[(⟨y.p,y.c,y.r,-y.n⟩:Itm)]):=by
 have hcb:=h.cb
 have hyb:=h.subb y (by simp)
 have hlt:∀x∈a'.map Itm.z,aF y.z.1 x.1<0:=by
  cases a' with
  | nil=>intro x hx;cases hx
  | cons x t =>
   refine eO.after (x:=y.z) rfl h.ra ?_
   have h1:0<aF x.r y.r:=hO
   have h2:=dS x.r y.r
   show aF y.r x.r<0
   omega
 have hd:=Ao (y:=y.z) (a:=a'.map Itm.z) (u:=s.map Itm.z) h.rb (h.ob y (by simp)).2 hlt
 refine ⟨h.ia,h.ib.tail hcb,h.ca,by simp at hcb;omega,h.ra,h.rb.tail,h.oa,fun z hz=>h.ob z (by simp[hz]),?_,fun z hz=> ?_,h.suba,fun z hz=>h.subb z (by simp[hz]),?_,hown,hb⟩
 ·rw[←h.z]
  show _=_++bn (a'.map Itm.z) (y.z::s.map Itm.z)
  rw[hd,List.map_append,List.append_assoc]
  rfl
 ·rcases List.mem_append.1 hz with e|e
  ·exact h.rows z e
  ·rw[List.mem_singleton.1 e];exact ⟨y,by simp[hyb],rfl,rfl,rfl⟩
 ·have:=h.len
  simp at this ⊢
  omega
theorem DInv.stepC {w wr w5:World} {a b t s:List Itm} {x y:Itm} {ba oa bb ob:Nat} {c d:Nat} {u v5:Value} {L L':List Itm} (h:DInv w wr a b (x::t) (y::s) (some ⟨ba,oa,none⟩) (some ⟨bb,ob,none⟩) c d u L) (hO:lu (x::t) (y::s)=0)
  (hL:L'=if x.n-y.n=0 then L else L++[(⟨y.p,y.c,y.r,x.n-y.n⟩:Itm)]) (hown:af aQ 2 101 w5 w.heap.size v5 L') (hb:Below w.heap.size w w5):DInv w w5 a b t s (if c=1 then some ⟨ba,oa,none⟩ else some ⟨ba,oa+2,none⟩) (if d=1 then some ⟨bb,ob,none⟩ else some ⟨bb,ob+2,none⟩) (c-1) (d-1) v5 L':=by
 have hca:=h.ca
 have hcb:=h.cb
 have hyb:=h.subb y (by simp)
 have heq:x.r=y.r:=jG _ _ hO
 have hd:=An (x:=x.z) (y:=y.z) (t:=t.map Itm.z) (u:=s.map Itm.z) h.ra h.rb heq
 refine ⟨h.ia.tail hca,h.ib.tail hcb,by simp at hca;omega,by simp at hcb;omega,h.ra.tail,h.rb.tail,fun z hz=>h.oa z (by simp[hz]),fun z hz=>h.ob z (by simp[hz]),?_,fun z hz=> ?_,fun z hz=>h.suba z (by simp[hz]),fun z hz=>h.subb z (by simp[hz]),?_,hown,hb⟩
 ·rw[←h.z]
  show _=_++bn (x.z::t.map Itm.z) (y.z::s.map Itm.z)
  rw[hd,hL]
  by_cases e:x.n-y.n=0
  ·have e':x.z.2-y.z.2=0:=e
   rw[if_pos e,if_pos e']
  ·have e':¬x.z.2-y.z.2=0:=e
   rw[if_neg e,if_neg e',List.map_append,List.append_assoc]
   rfl
 ·rw[hL] at hz
  by_cases e:x.n-y.n=0
  ·rw[if_pos e] at hz;exact h.rows z hz
  ·rw[if_neg e] at hz
   rcases List.mem_append.1 hz with e|e
   ·exact h.rows z e
   ·rw[List.mem_singleton.1 e];exact ⟨y,by simp[hyb],rfl,rfl,rfl⟩
 ·have:=h.len
  rw[hL]
  by_cases e:x.n-y.n=0
  ·rw[if_pos e];simp at this ⊢;omega
  ·rw[if_neg e];simp at this ⊢;omega

theorem wB (a b:List Itm) (A B:Option Addr) (ca cb:Nat) (w:World) (ha:Items w A a) (hb:Items w B b) (hca:a.length≤ca) (hcb:b.length≤cb) (hea:ax (a.map Itm.z)=0) (heb:ax (b.map Itm.z)=0) :
  Calls Tryz.prog 167 #[I A a.length ca,I B b.length cb] w fun e w'=>∃(L:List Itm) (C:Option Addr) (k:Nat),e= .returned (I C L.length k)∧L.map Itm.z=bn (a.map Itm.z) (b.map Itm.z)∧Items w' C L∧dx C L.length k∧L.length≤800∧Below w.heap.size w w':=by
 have h800:a.length+b.length≤800:=by
  have h1:=((bI _).1 hea).1
  have h2:=((bI _).1 heb).1
  simp at h1 h2
  omega
 have hI0:Hid (DInv w w a b a b A B ca cb (I none 0 0) []):=by
  have h1:=(bI _).1 hea
  have h2:=(bI _).1 heb
  exact ⟨ha,hb,hca,hcb,h1.2.2,h2.2.2,fun x hx=>⟨(bT (h1.2.1 x.z (List.mem_map.2 ⟨x,hx,rfl⟩))).2.1,(bT (h1.2.1 x.z (List.mem_map.2 ⟨x,hx,rfl⟩))).2.2⟩,fun x hx=>⟨(bT (h2.2.1 x.z (List.mem_map.2 ⟨x,hx,rfl⟩))).2.1,(bT (h2.2.1 x.z (List.mem_map.2 ⟨x,hx,rfl⟩))).2.2⟩,rfl,fun y hy=>(by cases hy),fun x hx=>hx,fun x hx=>hx,by simp,af.nil _ _ _ _ _,bR _ _⟩
 clear ha hb hca hcb hea heb
 go_enter Tryz.func167,Tryz.ntmps167
 go_wp2
 go_loopw [0,1,5] (fun s t u wr=>∃(a' b':List Itm) (P Q:Option Addr) (c d:Nat) (L:List Itm),s= I P a'.length c∧t= I Q b'.length d∧Hid (DInv w wr a b a' b' P Q c d u L)) (fun s t _ _=>uO s+uO t)
 case atStart=>exact ⟨a,b,A,B,ca,cb,[],rfl,rfl,hI0⟩
 case round =>
  obtain ⟨a',b',P,Q,c,d,L,rfl,rfl,hR⟩:=hrel
  obtain ⟨WX,hWX⟩:∃WX,(wr.alloc (J #[I none 0 0,S V 0] 101))=WX:=⟨_,rfl⟩
  have hgX:Hid (Gr wr WX):=by show Gr _ _;rw[←hWX];exact (gR _).alloc _
  have hXs:Hid (wr.heap.size<WX.heap.size):=by show _<_;rw[←hWX];simp
  have hbX:Hid (Below w.heap.size w WX):=hR.out.bel.trans (hgX.out.below.mono hR.out.bel.size)
  have x0:WX.cell? ⟨wr.heap.size,0,none⟩=some (I none 0 0):=by rw[←hWX];exact ab (w:=wr) (gR _) rfl
  have x1:WX.cell? ⟨wr.heap.size,1,none⟩=some (S V 0):=by rw[←hWX];exact ab (w:=wr) (gR _) rfl
  have f0:∀j,WX.frozen? ⟨wr.heap.size,j,none⟩=false:=fun j=>by rw[←hWX];exact eP (w:=wr) (gR _) j
  obtain ⟨O,hO⟩:∃O,lu a' b'=O:=⟨_,rfl⟩
  have hC0:=uG a' b' P Q c d WX (hR.out.ia.below hbX.out) (hR.out.ib.below hbX.out)
  rw[hO] at hC0
  have hC:Hid _:=hC0
  have hOH:Hid (lu a' b'=O):=hO
  clear hC0 hO
  by_cases h0:a'.length=0∧b'.length=0
  ·have ha0:¬(0:Int)<(a'.length:Int):=by omega
   have hb0:¬(0:Int)<(b'.length:Int):=by omega
   have hnil:a'=[]∧b'=[]:=⟨List.eq_nil_of_length_eq_zero h0.1,List.eq_nil_of_length_eq_zero h0.2⟩
   obtain ⟨A2,cap2,hv2,hn1,hit,hcp,_,_⟩:=af.full bL hR.out.own
   have hfin:Hid (L.map Itm.z=bn (a.map Itm.z) (b.map Itm.z)∧Items wr A2 L∧dx A2 L.length cap2∧L.length≤800∧Below w.heap.size w wr):=by
    have hz:=hR.out.z
    rw[hnil.1,hnil.2] at hz
    refine ⟨by rw[←hz];show _=_++bn [] [];rw[yR,List.append_nil],⟨hit,fun y hy=> ?_⟩,dx.mk hn1 hcp,by have:=hR.out.len;omega,hR.out.bel⟩
    obtain ⟨x,hx,e1,e2,e3⟩:=hR.out.rows y hy
    rw[e1,e2,e3]
    rcases List.mem_append.1 hx with k|k
    ·exact ((hI0.out.ia.below hR.out.bel).each x k)
    ·exact ((hI0.out.ib.below hR.out.bel).each x k)
   subst hv2
   clear hit hn1 hcp hnil
   go_wp2
   go_ret
   exact ⟨L,A2,cap2,rfl,hfin.out⟩
  ·by_cases hO1:O<0
   ·-- the first of now is ahead
    obtain ⟨x,t,rfl⟩:∃x t,a'=x::t:=by
     cases a' with
     | cons x t=>exact ⟨x,t,rfl⟩
     | nil =>
      cases b' with
      | nil=>exact absurd ⟨rfl,rfl⟩ h0
      | cons y u=>have:=hOH.out;simp[lu] at this;omega
    have hax:(0:Int)<((x::t).length:Int):=by simp
    obtain ⟨ba,oa,rfl,hba,hcs⟩:=hR.out.ia.at (k:=0) (by simp)
    obtain ⟨e0,e1⟩:=hcs 0 (by simp)
    have e0':w.cell? ⟨ba,oa,none⟩=some (I x.p x.r.length x.c):=by simpa using e0
    have e1':w.cell? ⟨ba,oa+1,none⟩=some (S V x.n):=by simpa using e1
    clear hcs e0 e1
    go_wp2_with fail
    refine cM (show Calls _ _ _ _ _ from hC.out) ?_
    rintro e w2 ⟨rfl,hg2⟩
    have hle:O≤0:=by omega
    have hnge:¬ 0≤O:=by omega
    have e0:w2.cell? ⟨ba,oa,none⟩=some (I x.p x.r.length x.c):=(((hbX.out.trans (hg2.below.mono hbX.out.size))).cell (p:=⟨ba,oa,none⟩) hba).trans e0'
    have e1:w2.cell? ⟨ba,oa+1,none⟩=some (S V x.n):=(((hbX.out.trans (hg2.below.mono hbX.out.size))).cell (p:=⟨ba,oa+1,none⟩) hba).trans e1'
    have y0:w2.cell? ⟨wr.heap.size,0,none⟩=some (I none 0 0):=(hg2.cell (p:=⟨wr.heap.size,0,none⟩) hXs.out).trans x0
    have y1:w2.cell? ⟨wr.heap.size,1,none⟩=some (S V 0):=(hg2.cell (p:=⟨wr.heap.size,1,none⟩) hXs.out).trans x1
    have g0:w2.frozen? ⟨wr.heap.size,0,none⟩=false:=(hg2.below.frozen (p:=⟨wr.heap.size,0,none⟩) hXs.out).trans (f0 0)
    have g1:w2.frozen? ⟨wr.heap.size,1,none⟩=false:=(hg2.below.frozen (p:=⟨wr.heap.size,1,none⟩) hXs.out).trans (f0 1)
    clear hWX x0 x1 f0 hC e0' e1'
    go_wp2
    go_region
    have hS0:=lL (v0:= I x.p x.r.length x.c) (v1:= S V x.n) (nR _) y0 y1 g0 g1
    obtain ⟨w3,hw3⟩:∃W,((w2.setCell ⟨wr.heap.size,0,none⟩ (I x.p x.r.length x.c)).setCell ⟨wr.heap.size,1,none⟩ (S V x.n)).drew=W:=⟨_,rfl⟩
    rw[hw3] at hS0 ⊢
    obtain ⟨z0,z1,k0,k1,hb3⟩:=hS0
    have hB3:Hid (Below wr.heap.size wr w3):=hgX.out.below.trans ((hg2.below.mono hgX.out.size).trans hb3)
    have hn0:(x.n != 0)=true:=by have:=(hR.out.oa x (by simp)).2;simpa using this
    have htl:(1:Int)≤(t.length:Int)+1:=by omega
    clear hw3 hb3 e0 e1 y0 y1 g0 g1 hg2
    have hoX:Hid (af aQ 2 101 (w3.alloc (J #[I x.p x.r.length x.c,S V x.n] 101)) w.heap.size u5 L∧au aQ 2 (w3.alloc (J #[I x.p x.r.length x.c,S V x.n] 101)) (some ⟨w3.heap.size,0,none⟩) [(⟨x.p,x.c,x.r,x.n⟩:Itm)]∧L.length+[(⟨x.p,x.c,x.r,x.n⟩:Itm)].length≤maxLen∧(L.length+[(⟨x.p,x.c,x.r,x.n⟩:Itm)].length)*32≤140737488355328∧Below w.heap.size w (w3.alloc (J #[I x.p x.r.length x.c,S V x.n] 101))):=by
     have hLk:=hR.out.len
     have hbb:=hR.out.bel.trans (hB3.out.mono hR.out.bel.size)
     exact ⟨(hR.out.own.below hB3.out).gr ((gR _).alloc _),da rfl ⟨x.p,x.c,x.r,x.n⟩ _,by unfold maxLen;simp;omega,by simp;omega,hbb.alloc hbb.size _⟩
    go_wp2_with (at_builtin;refine eJ _ rfl _ _ rfl w.heap.size u5 L [(⟨x.p,x.c,x.r,x.n⟩:Itm)] (some ⟨w3.heap.size,0,none⟩) 1 rfl rfl hoX.out.1 hoX.out.2.1 (fun h=>by cases h) hoX.out.2.2.1 hoX.out.2.2.2.1 hoX.out.2.2.2.2.size ?_;intro v5 w5 hown5 hg5)
    have hfin:Hid (DInv w w5 a b t b' (if c=1 then some ⟨ba,oa,none⟩ else some ⟨ba,oa+2,none⟩) Q (c-1) d v5 (L++[(⟨x.p,x.c,x.r,x.n⟩:Itm)])):=hR.out.stepA (hOH.out▸hO1) hown5 (hoX.out.2.2.2.2.trans (hoX.out.1.grown_below hg5 hoX.out.2.2.2.2.size))
    clear hown5 hg5
    go_roundw
    case rel=>exact ⟨t,b',_,_,_,_,L++[(⟨x.p,x.c,x.r,x.n⟩:Itm)],rfl,rfl,hfin⟩
    case measure=>simp[uO]
   ·by_cases hO2:0<O
    ·-- the first of before is ahead
     obtain ⟨y,s,rfl⟩:∃y s,b'=y::s:=by
      cases b' with
      | cons y s=>exact ⟨y,s,rfl⟩
      | nil=>have:=hOH.out;cases a'<;>simp[lu] at this<;>omega
     have hbx:(0:Int)<((y::s).length:Int):=by simp
     obtain ⟨bb,ob,rfl,hbb,hcs⟩:=hR.out.ib.at (k:=0) (by simp)
     obtain ⟨e0,e1⟩:=hcs 0 (by simp)
     have e0':w.cell? ⟨bb,ob,none⟩=some (I y.p y.r.length y.c):=by simpa using e0
     have e1':w.cell? ⟨bb,ob+1,none⟩=some (S V y.n):=by simpa using e1
     clear hcs e0 e1
     have hle:¬O≤0:=by omega
     have hge:0≤O:=by omega
     have hyw:=hR.out.ob y (by simp)
     obtain ⟨N,hN⟩:∃N,-y.n=N:=⟨_,rfl⟩
     have hNH:Hid (-y.n=N):=hN
     have hwr:wrap64 (-y.n)=N:=by
      have:=hyw.1
      simp only[okW,inB,Bool.and_eq_true,decide_eq_true_eq] at this
      unfold wrap64;omega
     have hn0:(N != 0)=true:=by have:=hyw.2;simp;omega
     clear hyw hN
     have hstl:(1:Int)≤(s.length:Int)+1:=by omega
     rcases a' with _|⟨x,t⟩
     all_goals
      go_wp2_with fail
      refine cM (show Calls _ _ _ _ _ from hC.out) ?_
      rintro e w2 ⟨rfl,hg2⟩
      have e0:w2.cell? ⟨bb,ob,none⟩=some (I y.p y.r.length y.c):=(((hbX.out.trans (hg2.below.mono hbX.out.size))).cell (p:=⟨bb,ob,none⟩) hbb).trans e0'
      have e1:w2.cell? ⟨bb,ob+1,none⟩=some (S V y.n):=(((hbX.out.trans (hg2.below.mono hbX.out.size))).cell (p:=⟨bb,ob+1,none⟩) hbb).trans e1'
      have y0:w2.cell? ⟨wr.heap.size,0,none⟩=some (I none 0 0):=(hg2.cell (p:=⟨wr.heap.size,0,none⟩) hXs.out).trans x0
      have y1:w2.cell? ⟨wr.heap.size,1,none⟩=some (S V 0):=(hg2.cell (p:=⟨wr.heap.size,1,none⟩) hXs.out).trans x1
      have g0:w2.frozen? ⟨wr.heap.size,0,none⟩=false:=(hg2.below.frozen (p:=⟨wr.heap.size,0,none⟩) hXs.out).trans (f0 0)
      have g1:w2.frozen? ⟨wr.heap.size,1,none⟩=false:=(hg2.below.frozen (p:=⟨wr.heap.size,1,none⟩) hXs.out).trans (f0 1)
      clear hWX x0 x1 f0 hC e0' e1'
      go_wp2
      go_region
      have hS0:=lL (v0:= I y.p y.r.length y.c) (v1:= S V N) (nR _) y0 y1 g0 g1
      obtain ⟨w3,hw3⟩:∃W,((w2.setCell ⟨wr.heap.size,0,none⟩ (I y.p y.r.length y.c)).setCell ⟨wr.heap.size,1,none⟩ (S V N)).drew=W:=⟨_,rfl⟩
      rw[hw3] at hS0 ⊢
      obtain ⟨z0,z1,k0,k1,hb3⟩:=hS0
      have hB3:Hid (Below wr.heap.size wr w3):=hgX.out.below.trans ((hg2.below.mono hgX.out.size).trans hb3)
      clear hw3 hb3 e0 e1 y0 y1 g0 g1 hg2 hwr
      have hoX:Hid (af aQ 2 101 (w3.alloc (J #[I y.p y.r.length y.c,S V N] 101)) w.heap.size u5 L∧au aQ 2 (w3.alloc (J #[I y.p y.r.length y.c,S V N] 101)) (some ⟨w3.heap.size,0,none⟩) [(⟨y.p,y.c,y.r,N⟩:Itm)]∧L.length+[(⟨y.p,y.c,y.r,N⟩:Itm)].length≤maxLen∧(L.length+[(⟨y.p,y.c,y.r,N⟩:Itm)].length)*32≤140737488355328∧Below w.heap.size w (w3.alloc (J #[I y.p y.r.length y.c,S V N] 101))):=by
       have hLk:=hR.out.len
       have hbb:=hR.out.bel.trans (hB3.out.mono hR.out.bel.size)
       exact ⟨(hR.out.own.below hB3.out).gr ((gR _).alloc _),da rfl (⟨y.p,y.c,y.r,N⟩:Itm) _,by unfold maxLen;simp;omega,by simp;omega,hbb.alloc hbb.size _⟩
      go_wp2_with (at_builtin;refine eJ _ rfl _ _ rfl w.heap.size u5 L [(⟨y.p,y.c,y.r,N⟩:Itm)] (some ⟨w3.heap.size,0,none⟩) 1 rfl rfl hoX.out.1 hoX.out.2.1 (fun h=>by cases h) hoX.out.2.2.1 hoX.out.2.2.2.1 hoX.out.2.2.2.2.size ?_;intro v5 w5 hown5 hg5)
      have h1:=hown5
      rw[←hNH.out] at h1
      have hfin0:=hR.out.stepB (hOH.out▸hO2) h1 (hoX.out.2.2.2.2.trans (hoX.out.1.grown_below hg5 hoX.out.2.2.2.2.size))
      rw[hNH.out] at hfin0
      have hfin:Hid _:=hfin0
      clear h1 hfin0
      clear hown5 hg5
      go_roundw
      case rel=>exact ⟨_,s,_,_,_,_,L++[(⟨y.p,y.c,y.r,N⟩:Itm)],rfl,rfl,hfin⟩
      case measure=>simp[uO]
    ·-- both begin with one row
     have hO3:O=0:=by omega
     obtain ⟨x,t,y,s,rfl,rfl⟩:∃x t y s,a'=x::t∧b'=y::s:=by
      have:=hOH.out
      cases b' with
      | nil=>cases a'<;>simp[lu] at this<;>omega
      | cons y s =>
       cases a' with
       | nil=>simp[lu] at this;omega
       | cons x t=>exact ⟨x,t,y,s,rfl,rfl⟩
     have hax:(0:Int)<((x::t).length:Int):=by simp
     have hbx:(0:Int)<((y::s).length:Int):=by simp
     obtain ⟨ba,oa,rfl,hba,hcs⟩:=hR.out.ia.at (k:=0) (by simp)
     obtain ⟨d0,d1⟩:=hcs 0 (by simp)
     obtain ⟨bb,ob,rfl,hbb,hcs2⟩:=hR.out.ib.at (k:=0) (by simp)
     obtain ⟨e0,e1⟩:=hcs2 0 (by simp)
     have d0':w.cell? ⟨ba,oa,none⟩=some (I x.p x.r.length x.c):=by simpa using d0
     have d1':w.cell? ⟨ba,oa+1,none⟩=some (S V x.n):=by simpa using d1
     have e0':w.cell? ⟨bb,ob,none⟩=some (I y.p y.r.length y.c):=by simpa using e0
     have e1':w.cell? ⟨bb,ob+1,none⟩=some (S V y.n):=by simpa using e1
     clear hcs hcs2 e0 e1 d0 d1
     have hyw:=hR.out.ob y (by simp)
     have hxw:=hR.out.oa x (by simp)
     obtain ⟨N,hN⟩:∃N,x.n-y.n=N:=⟨_,rfl⟩
     have hNH:Hid (x.n-y.n=N):=hN
     have hwr:wrap64 (x.n-y.n)=N:=by
      have h1:=hyw.1
      have h2:=hxw.1
      simp only[okW,inB,Bool.and_eq_true,decide_eq_true_eq] at h1 h2
      unfold wrap64;omega
     clear hyw hxw hN
     have hstl:(1:Int)≤(s.length:Int)+1:=by omega
     have htl:(1:Int)≤(t.length:Int)+1:=by omega
     subst hO3
     go_wp2_with fail
     refine cM (show Calls _ _ _ _ _ from hC.out) ?_
     rintro e w2 ⟨rfl,hg2⟩
     have d0:w2.cell? ⟨ba,oa,none⟩=some (I x.p x.r.length x.c):=(((hbX.out.trans (hg2.below.mono hbX.out.size))).cell (p:=⟨ba,oa,none⟩) hba).trans d0'
     have d1:w2.cell? ⟨ba,oa+1,none⟩=some (S V x.n):=(((hbX.out.trans (hg2.below.mono hbX.out.size))).cell (p:=⟨ba,oa+1,none⟩) hba).trans d1'
     have y0:w2.cell? ⟨wr.heap.size,0,none⟩=some (I none 0 0):=(hg2.cell (p:=⟨wr.heap.size,0,none⟩) hXs.out).trans x0
     have y1:w2.cell? ⟨wr.heap.size,1,none⟩=some (S V 0):=(hg2.cell (p:=⟨wr.heap.size,1,none⟩) hXs.out).trans x1
     have g0:w2.frozen? ⟨wr.heap.size,0,none⟩=false:=(hg2.below.frozen (p:=⟨wr.heap.size,0,none⟩) hXs.out).trans (f0 0)
     have g1:w2.frozen? ⟨wr.heap.size,1,none⟩=false:=(hg2.below.frozen (p:=⟨wr.heap.size,1,none⟩) hXs.out).trans (f0 1)
     clear hWX x0 x1 f0 hC
     go_wp2
     go_region
     have hS0:=lL (v0:= I x.p x.r.length x.c) (v1:= S V x.n) (nR _) y0 y1 g0 g1
     obtain ⟨w4,hw4⟩:∃W,((w2.setCell ⟨wr.heap.size,0,none⟩ (I x.p x.r.length x.c)).setCell ⟨wr.heap.size,1,none⟩ (S V x.n)).drew=W:=⟨_,rfl⟩
     rw[hw4] at hS0 ⊢
     obtain ⟨z0,z1,k0,k1,hb4⟩:=hS0
     have hB4:Hid (Below wr.heap.size wr w4):=hgX.out.below.trans ((hg2.below.mono hgX.out.size).trans hb4)
     have e0:w4.cell? ⟨bb,ob,none⟩=some (I y.p y.r.length y.c):=((hR.out.bel.trans (hB4.out.mono hR.out.bel.size)).cell (p:=⟨bb,ob,none⟩) hbb).trans e0'
     have e1:w4.cell? ⟨bb,ob+1,none⟩=some (S V y.n):=((hR.out.bel.trans (hB4.out.mono hR.out.bel.size)).cell (p:=⟨bb,ob+1,none⟩) hbb).trans e1'
     clear hw4 hb4 d0 d1 y0 y1 g0 g1 hg2 d0' d1' e0' e1'
     obtain ⟨PP,hPP⟩:∃PP,(if c=1 then some (⟨ba,oa,none⟩:Addr) else some ⟨ba,oa+2,none⟩)=PP:=⟨_,rfl⟩
     have hPH:Hid ((if c=1 then some (⟨ba,oa,none⟩:Addr) else some ⟨ba,oa+2,none⟩)=PP):=hPP
     go_wp2
     try rw[hPP]
     clear hPP
     go_region
     have hS0:=lL (v0:= I y.p y.r.length y.c) (v1:= S V N) (nR _) z0 z1 k0 k1
     obtain ⟨w3,hw3⟩:∃W,((w4.setCell ⟨wr.heap.size,0,none⟩ (I y.p y.r.length y.c)).setCell ⟨wr.heap.size,1,none⟩ (S V N)).drew=W:=⟨_,rfl⟩
     rw[hw3] at hS0 ⊢
     clear z0 z1 k0 k1
     obtain ⟨z0,z1,k0,k1,hb3⟩:=hS0
     have hB3:Hid (Below wr.heap.size wr w3):=hB4.out.trans hb3
     clear hw3 hb3 e0 e1 hwr
     cases hn0:(N != 0)
     ·have hNz:x.n-y.n=0:=by rw[hNH.out];simpa using hn0
      have hfin:Hid (DInv w w3 a b t s PP (if d=1 then some ⟨bb,ob,none⟩ else some ⟨bb,ob+2,none⟩) (c-1) (d-1) u5 L):=by
       show DInv _ _ _ _ _ _ _ _ _ _ _ _
       rw[←hPH.out]
       exact hR.out.stepC hOH.out (by rw[if_pos hNz]) (hR.out.own.below hB3.out) (hR.out.bel.trans (hB3.out.mono hR.out.bel.size))
      clear hNz
      go_wp2
      go_roundw
      case rel=>exact ⟨t,s,_,_,_,_,L,rfl,rfl,hfin⟩
      case measure=>simp[uO];omega
     ·have hNz:¬x.n-y.n=0:=by rw[hNH.out];simpa using hn0
      have hoX:Hid (af aQ 2 101 (w3.alloc (J #[I y.p y.r.length y.c,S V N] 101)) w.heap.size u5 L∧au aQ 2 (w3.alloc (J #[I y.p y.r.length y.c,S V N] 101)) (some ⟨w3.heap.size,0,none⟩) [(⟨y.p,y.c,y.r,N⟩:Itm)]∧L.length+[(⟨y.p,y.c,y.r,N⟩:Itm)].length≤maxLen∧(L.length+[(⟨y.p,y.c,y.r,N⟩:Itm)].length)*32≤140737488355328∧Below w.heap.size w (w3.alloc (J #[I y.p y.r.length y.c,S V N] 101))):=by
       have hLk:=hR.out.len
       have hbb:=hR.out.bel.trans (hB3.out.mono hR.out.bel.size)
       exact ⟨(hR.out.own.below hB3.out).gr ((gR _).alloc _),da rfl (⟨y.p,y.c,y.r,N⟩:Itm) _,by unfold maxLen;simp;omega,by simp;omega,hbb.alloc hbb.size _⟩
      go_wp2_with (at_builtin;refine eJ _ rfl _ _ rfl w.heap.size u5 L [(⟨y.p,y.c,y.r,N⟩:Itm)] (some ⟨w3.heap.size,0,none⟩) 1 rfl rfl hoX.out.1 hoX.out.2.1 (fun h=>by cases h) hoX.out.2.2.1 hoX.out.2.2.2.1 hoX.out.2.2.2.2.size ?_;intro v5 w5 hown5 hg5)
      have hfin:Hid (DInv w w5 a b t s PP (if d=1 then some ⟨bb,ob,none⟩ else some ⟨bb,ob+2,none⟩) (c-1) (d-1) v5 (L++[(⟨y.p,y.c,y.r,N⟩:Itm)])):=by
       show DInv _ _ _ _ _ _ _ _ _ _ _ _
       rw[←hPH.out]
       exact hR.out.stepC hOH.out (by rw[if_neg hNz,hNH.out]) hown5 (hoX.out.2.2.2.2.trans (hoX.out.1.grown_below hg5 hoX.out.2.2.2.2.size))
      clear hown5 hg5
      go_roundw
      case rel=>exact ⟨t,s,_,_,_,_,L++[(⟨y.p,y.c,y.r,N⟩:Itm)],rfl,rfl,hfin⟩
      case measure=>simp[uO];omega
end Go.Proofs.YtkefkplnamkicaaGreatDoor

namespace Go.Proofs.YtkefkplnamkicaaGreatDoor

end Go.Proofs.YtkefkplnamkicaaGreatDoor
