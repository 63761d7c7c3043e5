/-
  viewkeep.edited: a table, behind some edits of two nodes.
  A list that grows while two contexts are read: what an append leaves ds it was. And which dots are missing.
  dot.appendMissing: the dots of a node that a has and b hasn't, behind a list.
  dot.missing: the dots that a has and b hasn't; an error, if there are more than 400.
  dot.Minus: the dots that a has and b hasn't. dot.Less: has b all that a has?
  dot.Less: has b all that a has?
-/
import Derived.Test.YtkefkplnamkicaaGreatDoorM26
set_option maxRecDepth 100000
set_option maxHeartbeats 8000000
open Go.IntKind renaming i64 → I
open Go.Obj renaming cells → O
open Go.Value renaming int → S, slice → J, agg → Z
namespace Go.Proofs.YtkefkplnamkicaaGreatDoor
open Go.RowKit Go.Sort

theorem Six.oth {w:World} {B:Nat} {u0 u1 u2 u3 u4 u5:Value} (h:Six w B u0 u1 u2 u3 u4 u5) {B' j:Nat} (u:Value) (hB:B≠B'):Six (w.setCell ⟨B',j,none⟩ u) B u0 u1 u2 u3 u4 u5:=by
 have ho:∀i,(w.setCell ⟨B',j,none⟩ u).cell? ⟨B,i,none⟩=w.cell? ⟨B,i,none⟩:=fun i=>World.cell?_setCell_other _ _ _ _ (by intro e;injection e with e1;exact hB e1.symm)
 exact ⟨(ho 0).trans h.k0,(ho 1).trans h.k1,(ho 2).trans h.k2,(ho 3).trans h.k3,(ho 4).trans h.k4,(ho 5).trans h.k5,fun i=>by simp only[World.frozen?_setCell];exact h.fz i,by simpa[World.setCell] using h.lt⟩
theorem au.set0 {α : Type} {enc: α → List Value} {k:Nat} {w:World} {A:Option Addr} {l:List α} (h:au enc k w A l) {B m:Nat} (u:Value) (hA:∀x,A=some x→l≠[]→x.block≠B):au enc k (w.setCell ⟨B,m,none⟩ u) A l:=by
 by_cases h0:l=[]
 ·exact oL h0
 ·exact h.setCell u fun x hx=>hA x hx h0
theorem TabAt.oth {w:World} {B:Nat} {t:Tab} {A:Option Addr} {ca:Nat} {D:Option Addr} {cd:Nat} (h:TabAt w B t A ca D cd) {B' j:Nat} (u:Value) (hB:B≠B') (hA:∀x,A=some x→t.c.l≠[]→x.block≠B') (hD:∀x,D=some x→t.e≠[]→x.block≠B'):TabAt (w.setCell ⟨B',j,none⟩ u) B t A ca D cd:=by
 have ho:∀i,(w.setCell ⟨B',j,none⟩ u).cell? ⟨B,i,none⟩=w.cell? ⟨B,i,none⟩:=fun i=>World.cell?_setCell_other _ _ _ _ (by intro e;injection e with e1;exact hB e1.symm)
 exact ⟨(ho 0).trans h.k0,(ho 1).trans h.k1,(ho 2).trans h.k2,(ho 3).trans h.k3,(ho 4).trans h.k4,(ho 5).trans h.k5,by simpa[World.setCell] using h.lt,h.row.setCell0 _ hA,h.rowC.set0 _ hD⟩
theorem sy (a b:Ctx):(aA a b).l.length≤maxLen:=by
 by_cases h:aC a b=0
 ·rw[(cY h).2.2.2.1]
  exact nT (cY h).2.2.2.2 (by decide)
 ·have:aA a b=aM:=by simp[aA,h]
  rw[this];decide
theorem bM {a b:Tab} (h:al a b=0):am a=0∧am b=0∧dy a b=false∧aC a.c b.c=0∧(mrg a b).length≤400:=by
 unfold al at h
 by_cases h1:am a=0
 ·by_cases h2:am b=0
  ·cases h3:dy a b
   ·by_cases h5:aC a.c b.c=0
    ·by_cases h6:400<(mrg a b).length
     ·simp[h1,h2,h3,h5,h6] at h
     ·exact ⟨h1,h2,rfl,h5,by omega⟩
    ·simp[h1,h2,h3,h5] at h
   ·simp[h1,h2,h3] at h
  ·simp[h1,h2] at h
 ·simp[h1] at h
theorem vu (t:Tab) (n key col v:Int):(cR t n key col v).c.l.length≤maxLen∧(cR t n key col v).e.length≤maxLen:=by
 unfold cR
 by_cases h:de t n key col v=0
 ·rw[if_pos h]
  exact ⟨sy _ _,show 1≤maxLen by decide⟩
 ·rw[if_neg h]
  exact ⟨by decide,by decide⟩
theorem uw (t:Tab) (key:Int):(cJ t key).l.length≤maxLen:=by
 unfold cJ
 by_cases h:eQ t key=0
 ·rw[if_pos h]
  have h1:am t=0:=by
   by_cases h1:am t=0
   ·exact h1
   ·unfold eQ at h
    rw[if_pos h1] at h
    exact absurd h h1
  exact kx _ (nT (dM _ _) (ae h1).2.1)
 ·rw[if_neg h];decide


def cv (b:Ctx) (node top:Int):Nat→List (Int×Int)→Int→List (Int×Int)
 | 0,l,_=>l
 | n+1,l,s=>if s≤top∧l.length≤400 then cv b node top n (if ai b (node,s)=true then l else l++[(node,s)]) (s+1) else l
def cD (b:Ctx) (node:Int) (ds l:List (Int×Int)):List (Int×Int):=ds.foldl (fun l x=>if x.1=node∧ai b x=false then l++[x] else l) l
def dV (a b:Ctx) (node:Int) (l:List (Int×Int)):List (Int×Int):=cD b node a.l (cv b node (clk a node) (clk a node-clk b node).toNat l (clk b node+1))

theorem mG {b:Ctx} {node:Int} {ds l:List (Int×Int)} {k:Nat} (h:k<ds.length) {x:Int×Int} (hx:ds[k]=x):cD b node (ds.take (k+1)) l=if x.1=node∧ai b x=false then cD b node (ds.take k) l++[x] else cD b node (ds.take k) l:=by
 unfold cD
 rw[List.take_succ_eq_append_getElem h,List.foldl_append,hx]
 rfl
theorem mF {b:Ctx} {node top s:Int} {n:Nat} {l:List (Int×Int)} (h:¬(s≤top∧l.length≤400)):cv b node top n l s=l:=by
 cases n with
 | zero=>rfl
 | succ n=>simp only[cv,if_neg h]
theorem sM {b:Ctx} {node top s:Int} {l:List (Int×Int)} (h1:s≤top) (h2:l.length≤400):cv b node top (top+1-s).toNat l s=cv b node top (top+1-(s+1)).toNat (if ai b (node,s)=true then l else l++[(node,s)]) (s+1):=by
 rw[show (top+1-s).toNat=(top+1-(s+1)).toNat+1 from by omega]
 simp only[cv,if_pos (And.intro h1 h2)]
theorem uU (b:Ctx) (node top:Int):∀(n:Nat) (l:List (Int×Int)) (s:Int),(cv b node top n l s).length≤max l.length 401:=by
 intro n
 induction n with
 | zero=>intro l s;simp only[cv];omega
 | succ n ih =>
  intro l s
  simp only[cv]
  split
  ·rename_i h
   have hl:(if ai b (node,s)=true then l else l++[(node,s)]).length≤l.length+1:=by split<;>simp
   have:=ih (if ai b (node,s)=true then l else l++[(node,s)]) (s+1)
   omega
  ·omega
theorem kA (b:Ctx) (node:Int) (ds:List (Int×Int)):∀(l:List (Int×Int)),(cD b node ds l).length≤l.length+ds.length:=by
 induction ds with
 | nil=>intro l;simp[cD]
 | cons x ds ih =>
  intro l
  have:=ih (if x.1=node∧ai b x=false then l++[x] else l)
  have hl:(if x.1=node∧ai b x=false then l++[x] else l).length≤l.length+1:=by split<;>simp
  show (cD b node ds (if x.1=node∧ai b x=false then l++[x] else l)).length≤_
  rw[List.length_cons]
  omega
theorem xu (b:Ctx) (node top:Int):∀(n:Nat) (l:List (Int×Int)) (s:Int),l.length≤(cv b node top n l s).length:=by
 intro n
 induction n with
 | zero=>intro l s;simp only[cv];omega
 | succ n ih =>
  intro l s
  simp only[cv]
  split
  ·have hl:l.length≤(if ai b (node,s)=true then l else l++[(node,s)]).length:=by split<;>simp
   have:=ih (if ai b (node,s)=true then l else l++[(node,s)]) (s+1)
   omega
  ·omega
theorem rj (b:Ctx) (node:Int) (ds:List (Int×Int)):∀(l:List (Int×Int)),l.length≤(cD b node ds l).length:=by
 induction ds with
 | nil=>intro l;simp[cD]
 | cons x ds ih =>
  intro l
  have:=ih (if x.1=node∧ai b x=false then l++[x] else l)
  have hl:l.length≤(if x.1=node∧ai b x=false then l++[x] else l).length:=by split<;>simp
  show _≤(cD b node ds (if x.1=node∧ai b x=false then l++[x] else l)).length
  omega
theorem xv (a b:Ctx) (node:Int) (l:List (Int×Int)):l.length≤(dV a b node l).length:=nT (xu b node _ _ l _) (rj b node a.l _)
theorem uY (a b:Ctx) (node:Int) (l:List (Int×Int)):(dV a b node l).length≤max l.length 401+a.l.length:=by
 have h1:=kA b node a.l (cv b node (clk a node) (clk a node-clk b node).toNat l (clk b node+1))
 have h2:=uU b node (clk a node) (clk a node-clk b node).toNat l (clk b node+1)
 unfold dV
 omega

theorem Am {w:World} {B:Nat} {c:Ctx} {A:Option Addr} {cap:Nat} (h:CtxAt w B c A cap) {a:Int} (h0:0≤a) (h4:a<4):w.cell? ⟨B,a.toNat,none⟩=some (S I (clk c a)):=by
 have ha:a=0∨a=1∨a=2∨a=3:=by omega
 rcases ha with rfl|rfl|rfl|rfl
 ·exact h.k0
 ·exact h.k1
 ·exact h.k2
 ·exact h.k3

theorem CtxAt.belowB {w w':World} {B:Nat} {c:Ctx} {A:Option Addr} {cap base:Nat} (h:CtxAt w B c A cap) (k:Below base w w') (hB:B<base) (hA:∀x,A=some x→c.l≠[]→x.block<base):CtxAt w' B c A cap :=
 ⟨(k.cell (p:=⟨B,0,none⟩) hB).trans h.k0,(k.cell (p:=⟨B,1,none⟩) hB).trans h.k1,(k.cell (p:=⟨B,2,none⟩) hB).trans h.k2,(k.cell (p:=⟨B,3,none⟩) hB).trans h.k3,(k.cell (p:=⟨B,4,none⟩) hB).trans h.k4,nL h.lt k.size,h.row.belowB hA k⟩

structure AM (w wr:World) (N base:Nat) (a b:Ctx) (A B:Option Addr) (ca cb:Nat) (v:Value) (l:List (Int×Int)):Prop where
 own:Own wr base v l
 ap:∀k,v.ownBlock=some k→k≠N∧k≠N+1
 ca:CtxAt wr N a A ca
 cb:CtxAt wr (N+1) b B cb
 bel:Below base w wr
 bs:base≤wr.heap.size
 ra:∀x,A=some x→a.l≠[]→x.block<base
 rb:∀x,B=some x→b.l≠[]→x.block<base

theorem AM.gr {w wr w':World} {N base:Nat} {a b:Ctx} {A B:Option Addr} {ca cb:Nat} {v:Value} {l:List (Int×Int)} (h:AM w wr N base a b A B ca cb v l) (k:Gr wr w'):AM w w' N base a b A B ca cb v l :=
 ⟨h.own.gr k,h.ap,h.ca.gr k,h.cb.gr k,h.bel.trans (k.below.mono h.bs),nT h.bs k.size,h.ra,h.rb⟩

theorem CtxAt.grown {w w':World} {B:Nat} {c:Ctx} {A:Option Addr} {cap:Nat} {row:Option Nat} {base:Nat} (h:CtxAt w B c A cap) (hg:w.grownBy w' row) (hB:some B≠row) (hb:Below base w w') (hA:∀x,A=some x→c.l≠[]→x.block<base):CtxAt w' B c A cap :=
 ⟨hg.cell h.k0 hB,hg.cell h.k1 hB,hg.cell h.k2 hB,hg.cell h.k3 hB,hg.cell h.k4 hB,nL h.lt hg.size,h.row.belowB hA hb⟩

theorem AM.append {w wr w0 w1:World} {N base:Nat} {a b:Ctx} {A B:Option Addr} {ca cb:Nat} {v v':Value} {l m:List (Int×Int)} (h:AM w wr N base a b A B ca cb v l) (k:Gr wr w0) (ho:Own w1 base v' m) (hg:w0.grownBy w1 v.ownBlock) {H:Nat} (hH:w0.heap.size=H) (hat:v'.ownBlock=v.ownBlock∨v'.ownBlock=some H):AM w w1 N base a b A B ca cb v' m:=by
 subst hH
 have h0:=h.gr k
 have hb:=h0.own.grown_below hg h0.bs
 refine ⟨ho,?_,h0.ca.grown hg (fun e=>(h0.ap N e.symm).1 rfl) hb h0.ra,h0.cb.grown hg (fun e=>(h0.ap (N+1) e.symm).2 rfl) hb h0.rb,h0.bel.trans hb,nT h0.bs hg.size,h.ra,h.rb⟩
 intro j hj
 rcases hat with hat|hat
 ·exact h.ap j (by rw[←hat];exact hj)
 ·rw[hat] at hj
  injection hj with hj
  have:=h0.ca.lt
  have:=h0.cb.lt
  omega


theorem oE {c:Ctx} {A:Option Addr} {cap:Nat} {x y:Int} {r:Bool} {w:World} (hx:ai c (x,y)=r) (hl:c.l.length≤maxLen) (hr:Row w A c.l) :
  Calls Tryz.prog 66 #[Z #[S I c.c0,S I c.c1,S I c.c2,S I c.c3,J A c.l.length cap],Z #[S I x,S I y]] w fun e w'=>e= .returned (.bool r)∧Gr w w':=by
 rw[←hx];exact jL c A cap (x,y) w hl hr

theorem qq (a b:Ctx) (A B:Option Addr) (ca cb:Nat) (v:Value) (l:List (Int×Int)) (node:Int) (base:Nat) (w:World) (h0:0≤node) (h4:node<4) (hoa:bF a=true) (hob:bF b=true) (hal:a.l.length≤400) (hbl:b.l.length≤400) (hll:l.length≤2000)
  (hra:Row w A a.l) (hrb:Row w B b.l) (hAb:∀x,A=some x→a.l≠[]→x.block<base) (hBb:∀x,B=some x→b.l≠[]→x.block<base) (hov:Own w base v l) (hbs:base≤w.heap.size) :
  Calls Tryz.prog 220 #[v,Z #[S I a.c0,S I a.c1,S I a.c2,S I a.c3,J A a.l.length ca],Z #[S I b.c0,S I b.c1,S I b.c2,S I b.c3,J B b.l.length cb],S I node] w fun e w'=>∃v',e= .returned v'∧Own w' base v' (dV a b node l)∧Below base w w':=by
 have hca:=cE hoa node h0 h4
 have hcb:=cE hob node h0 h4
 have hg0:Gr w ((w.alloc (O #[S I a.c0,S I a.c1,S I a.c2,S I a.c3,J A a.l.length ca] 38)).alloc (O #[S I b.c0,S I b.c1,S I b.c2,S I b.c3,J B b.l.length cb] 38)):=((gR w).alloc _).alloc _
 have hAM0:AM w ((w.alloc (O #[S I a.c0,S I a.c1,S I a.c2,S I a.c3,J A a.l.length ca] 38)).alloc (O #[S I b.c0,S I b.c1,S I b.c2,S I b.c3,J B b.l.length cb] 38)) w.heap.size base a b A B ca cb v l:=⟨hov.gr hg0,fun k hk=>by have:=(hov.lt k hk).2;omega,(CtxAt.new 38 hra rfl).gr ((gR _).alloc _),CtxAt.new 38 (hrb.gr ((gR _).alloc _)) (by simp),hg0.below.mono hbs,nT hbs hg0.size,hAb,hBb⟩
 have hbM:Hid (b.l.length≤maxLen):=by show _≤_;unfold maxLen;omega
 have k0:=hAM0.ca.k4
 have kc0:=ab (iE (gR ((w.alloc (O #[S I a.c0,S I a.c1,S I a.c2,S I a.c3,J A a.l.length ca] 38)).alloc (O #[S I b.c0,S I b.c1,S I b.c2,S I b.c3,J B b.l.length cb] 38)))) (iI (c:=a) h0 h4)
 have kd0:=nA (gR ((w.alloc (O #[S I a.c0,S I a.c1,S I a.c2,S I a.c3,J A a.l.length ca] 38)).alloc (O #[S I b.c0,S I b.c1,S I b.c2,S I b.c3,J B b.l.length cb] 38))) (iI (c:=b) h0 h4)
 clear hov hra hrb
 obtain ⟨A0,cap0,rfl,_,_,_⟩:=hAM0.own.row
 go_enter Tryz.func220,Tryz.ntmps220
 go_wp2
 clear k0 kc0 kd0
 go_loopw [0,9] (fun v s wr=>∃(V:Value) (m:List (Int×Int)) (t:Int),v=V∧s= S I t∧clk b node+1≤t∧t≤1099511627777∧m.length≤2001∧AM w wr w.heap.size base a b A B ca cb V m∧Hid (cv b node (clk a node) (clk a node+1-t).toNat m t=cv b node (clk a node) (clk a node-clk b node).toNat l (clk b node+1))) (fun _ s _=>(clk a node+1-intOf s).toNat)
 case atStart=>exact ⟨_,l,clk b node+1,rfl,rfl,Int.le_refl _,by omega,by omega,hAM0,by show cv _ _ _ _ _ _=_;congr 1;omega⟩
 case round =>
  obtain ⟨V,m,t,rfl,rfl,ht1,ht2,hml,hAM,hmi⟩:=hrel
  obtain ⟨A1,cap1,rfl,hA1,_,_⟩:=hAM.own.row
  have kc:=hAM.ca.k4
  have ka:wr.cell? ⟨w.heap.size,node.toNat,none⟩=some (S I (clk a node)):=Am hAM.ca h0 h4
  by_cases hs:t≤clk a node
  ·by_cases hl4:m.length≤400
   ·have hl4z:(m.length:Int)≤400:=by omega
    have hst:=sM (b:=b) (node:=node) hs hl4
    have hgD:Gr wr (wr.alloc (O #[S I node,S I t] 95)):=(gR _).alloc _
    obtain ⟨b0,b1,b2,b3,b4,blt,brow⟩:=(show CtxAt _ _ _ _ _ from hAM.cb)
    cases hh:ai b (node,t)
    ·rw[hh] at hst
     simp only[Bool.false_eq_true,if_false] at hst
     have hnx:Hid (cv b node (clk a node) (clk a node+1-(t+1)).toNat (m++[(node,t)]) (t+1)=cv b node (clk a node) (clk a node-clk b node).toNat l (clk b node+1)):=hst.symm.trans hmi.out
     clear hst
     have hbd:Hid ((m.length+[(node,t)].length)*16≤140737488355328):=by show _≤_;simp only[List.length_cons,List.length_nil];omega
     go_wp2_with (first|(go_at_call 66;refine (oE hh hbM.out (brow.gr hgD)).mono ?_;rintro e w1 ⟨rfl,hg1⟩;have hd0:=(hg1.cell (p:=⟨wr.heap.size,0,none⟩) (by simp)).trans (ab (gR (wr.alloc (O #[S I node,S I t] 95))) (j:=0) rfl);have hd1:=(hg1.cell (p:=⟨wr.heap.size,1,none⟩) (by simp)).trans (ab (gR (wr.alloc (O #[S I node,S I t] 95))) (j:=1) rfl))|(at_builtin;refine aJ _ rfl (.tmp 38) (.tmp 40) rfl base (J A1 m.length cap1) m [(node,t)] (some ⟨w1.heap.size,0,none⟩) 1 rfl rfl ?ho ?hr (fun h=>by cases h) hbd.out ?hs ?_))
     case ho=>exact (hAM.gr ((hgD.trans hg1).alloc _)).own
     case hr=>exact iz rfl node t _
     case hs=>exact (hAM.gr ((hgD.trans hg1).alloc _)).bs
     intro v1 w2 hown1 hgr1 hat1
     have hAM2:Hid (AM w w2 w.heap.size base a b A B ca cb v1 (m++[(node,t)])):=hAM.append ((hgD.trans hg1).alloc _) hown1 hgr1 (by simp) hat1
     clear hown1 hgr1 hat1 hd0 hd1 hAM
     go_wp2
     go_roundw
     case rel=>exact ⟨v1,m++[(node,t)],t+1,rfl,by go_num,by omega,by omega,by simp only[List.length_append,List.length_cons,List.length_nil];omega,hAM2.out,hnx⟩
     case measure=>simp[intOf];omega
    ·rw[hh] at hst
     simp only[if_true] at hst
     have hnx:Hid (cv b node (clk a node) (clk a node+1-(t+1)).toNat m (t+1)=cv b node (clk a node) (clk a node-clk b node).toNat l (clk b node+1)):=hst.symm.trans hmi.out
     clear hst
     go_wp2_with (go_at_call 66;refine (oE hh hbM.out (brow.gr hgD)).mono ?_;rintro e w1 ⟨rfl,hg1⟩)
     go_roundw
     case rel=>exact ⟨_,m,t+1,rfl,by go_num,by omega,by omega,hml,hAM.gr (hgD.trans hg1),hnx⟩
     case measure=>simp[intOf];omega
   ·have hl4z:¬(m.length:Int)≤400:=by omega
    have hstop:¬(t≤clk a node∧m.length≤400):=fun h=>hl4 h.2
    have hmm:Hid (dV a b node l=cD b node a.l m):=by
     show dV a b node l=_
     unfold dV
     rw[←hmi.out,mF hstop]
    clear hmi hstop
    obtain ⟨b0,b1,b2,b3,b4,blt,brow⟩:=(show CtxAt _ _ _ _ _ from hAM.cb)
    go_wp2
    clear kc ka b0 b1 b2 b3 b4 blt brow
    go_loopw [0,45] (fun v i wi=>∃(V:Value) (k:Nat),v=V∧k≤a.l.length∧i= S I k∧AM w wi w.heap.size base a b A B ca cb V (cD b node (a.l.take k) m)) (fun _ i _=>a.l.length-(intOf i).toNat)
    case atStart=>exact ⟨_,0,rfl,nZ _,rfl,hAM⟩
    case round =>
     clear hAM
     rename World=>wi
     obtain ⟨V,k,rfl,hk,rfl,hAM⟩:=hrel
     have hln:=kA b node (a.l.take k) m
     have hlt2:(a.l.take k).length≤k:=List.length_take_le _ _
     obtain ⟨M,hM⟩:∃M,cD b node (a.l.take k) m=M:=⟨_,rfl⟩
     rw[hM] at hAM hln
     have HM:Hid (cD b node (a.l.take k) m=M):=hM
     clear hM
     obtain ⟨A2,cap2,rfl,hA2,_,_⟩:=hAM.own.row
     by_cases hlt:k<a.l.length
     ·have hltz:(k:Int)<(a.l.length:Int):=by omega
      obtain ⟨bb,off,rfl,hbb,hcs⟩:=hAM.ca.row.at hlt
      obtain ⟨x,y,hx⟩:∃x y,a.l[k]=(x,y):=⟨_,_,rfl⟩
      have e0:=(hcs k hlt).1
      have e1:=(hcs k hlt).2
      rw[hx] at e0 e1
      have hst:=mG (b:=b) (node:=node) (l:=m) hlt hx
      rw[HM.out] at hst
      simp only at hst
      clear hcs hx
      have hgD:Gr wi (wi.alloc (O #[S I x,S I y] 95)):=(gR _).alloc _
      obtain ⟨b0,b1,b2,b3,b4,blt,brow⟩:=(show CtxAt _ _ _ _ _ from hAM.cb)
      by_cases hxn:x=node
      ·subst hxn
       cases hh:ai b (x,y)
       ·have hst2:Hid (cD b x (a.l.take (k+1)) m=M++[(x,y)]):=by show _=_;rw[hst,if_pos ⟨rfl,hh⟩]
        have hbd:Hid ((M.length+[(x,y)].length)*16≤140737488355328):=by show _≤_;simp only[List.length_cons,List.length_nil];omega
        clear hst
        go_wp2_with (first|(go_at_call 66;refine (oE hh hbM.out (brow.gr hgD)).mono ?_;rintro e w1 ⟨rfl,hg1⟩;have hd0:=(hg1.cell (p:=⟨wi.heap.size,0,none⟩) (by simp)).trans (ab (gR (wi.alloc (O #[S I x,S I y] 95))) (j:=0) rfl);have hd1:=(hg1.cell (p:=⟨wi.heap.size,1,none⟩) (by simp)).trans (ab (gR (wi.alloc (O #[S I x,S I y] 95))) (j:=1) rfl))|(at_builtin;refine aJ _ rfl (.tmp 59) (.tmp 61) rfl base (J A2 M.length cap2) M [(x,y)] (some ⟨w1.heap.size,0,none⟩) 1 rfl rfl ?ho ?hr (fun h=>by cases h) hbd.out ?hs ?_))
        case ho=>exact (hAM.gr ((hgD.trans hg1).alloc _)).own
        case hr=>exact iz rfl x y _
        case hs=>exact (hAM.gr ((hgD.trans hg1).alloc _)).bs
        intro v1 w2 hown1 hgr1 hat1
        have hAM2:Hid (AM w w2 w.heap.size base a b (some ⟨bb,off,none⟩) B ca cb v1 (M++[(x,y)])):=hAM.append ((hgD.trans hg1).alloc _) hown1 hgr1 (by simp) hat1
        clear hown1 hgr1 hat1 hd0 hd1 hAM
        go_wp2
        go_roundw
        case rel=>exact ⟨v1,k+1,rfl,by omega,by go_num,by rw[hst2.out];exact hAM2.out⟩
        case measure=>simp[intOf];omega
       ·have hst2:Hid (cD b x (a.l.take (k+1)) m=M):=by show _=_;rw[hst,if_neg (by rw[hh];simp)]
        clear hst
        go_wp2_with (go_at_call 66;refine (oE hh hbM.out (brow.gr hgD)).mono ?_;rintro e w1 ⟨rfl,hg1⟩)
        go_roundw
        case rel=>exact ⟨_,k+1,rfl,by omega,by go_num,by rw[hst2.out];exact hAM.gr (hgD.trans hg1)⟩
        case measure=>simp[intOf];omega
      ·have hst2:Hid (cD b node (a.l.take (k+1)) m=M):=by show _=_;rw[hst,if_neg (fun h=>hxn h.1)]
       have hxb:(x==node)=false:=by simpa using hxn
       clear hst hxn
       go_wp2
       go_roundw
       case rel=>exact ⟨_,k+1,rfl,by omega,by go_num,by rw[hst2.out];exact hAM.gr hgD⟩
       case measure=>simp[intOf];omega
     ·have hltz:¬(k:Int)<(a.l.length:Int):=by omega
      have hke:a.l.take k=a.l:=List.take_of_length_le (by omega)
      have hfin:Hid (dV a b node l=M):=by
       have h1:=HM.out
       rw[hke] at h1
       exact hmm.out.trans h1
      clear hke HM
      go_wp2
      go_ret
      rw[hfin.out]
      exact ⟨_,rfl,hAM.own,hAM.bel⟩
  ·have hsb:decide (t≤clk a node)=false:=by simpa using hs
   have hstop:¬(t≤clk a node∧m.length≤400):=fun h=>hs h.1
   have hmm:Hid (dV a b node l=cD b node a.l m):=by
    show dV a b node l=_
    unfold dV
    rw[←hmi.out,mF hstop]
   clear hmi hstop
   obtain ⟨b0,b1,b2,b3,b4,blt,brow⟩:=(show CtxAt _ _ _ _ _ from hAM.cb)
   go_wp2
   clear kc ka b0 b1 b2 b3 b4 blt brow
   go_loopw [0,45] (fun v i wi=>∃(V:Value) (k:Nat),v=V∧k≤a.l.length∧i= S I k∧AM w wi w.heap.size base a b A B ca cb V (cD b node (a.l.take k) m)) (fun _ i _=>a.l.length-(intOf i).toNat)
   case atStart=>exact ⟨_,0,rfl,nZ _,rfl,hAM⟩
   case round =>
    clear hAM
    rename World=>wi
    obtain ⟨V,k,rfl,hk,rfl,hAM⟩:=hrel
    have hln:=kA b node (a.l.take k) m
    have hlt2:(a.l.take k).length≤k:=List.length_take_le _ _
    obtain ⟨M,hM⟩:∃M,cD b node (a.l.take k) m=M:=⟨_,rfl⟩
    rw[hM] at hAM hln
    have HM:Hid (cD b node (a.l.take k) m=M):=hM
    clear hM
    obtain ⟨A2,cap2,rfl,hA2,_,_⟩:=hAM.own.row
    by_cases hlt:k<a.l.length
    ·have hltz:(k:Int)<(a.l.length:Int):=by omega
     obtain ⟨bb,off,rfl,hbb,hcs⟩:=hAM.ca.row.at hlt
     obtain ⟨x,y,hx⟩:∃x y,a.l[k]=(x,y):=⟨_,_,rfl⟩
     have e0:=(hcs k hlt).1
     have e1:=(hcs k hlt).2
     rw[hx] at e0 e1
     have hst:=mG (b:=b) (node:=node) (l:=m) hlt hx
     rw[HM.out] at hst
     simp only at hst
     clear hcs hx
     have hgD:Gr wi (wi.alloc (O #[S I x,S I y] 95)):=(gR _).alloc _
     obtain ⟨b0,b1,b2,b3,b4,blt,brow⟩:=(show CtxAt _ _ _ _ _ from hAM.cb)
     by_cases hxn:x=node
     ·subst hxn
      cases hh:ai b (x,y)
      ·have hst2:Hid (cD b x (a.l.take (k+1)) m=M++[(x,y)]):=by show _=_;rw[hst,if_pos ⟨rfl,hh⟩]
       have hbd:Hid ((M.length+[(x,y)].length)*16≤140737488355328):=by show _≤_;simp only[List.length_cons,List.length_nil];omega
       clear hst
       go_wp2_with (first|(go_at_call 66;refine (oE hh hbM.out (brow.gr hgD)).mono ?_;rintro e w1 ⟨rfl,hg1⟩;have hd0:=(hg1.cell (p:=⟨wi.heap.size,0,none⟩) (by simp)).trans (ab (gR (wi.alloc (O #[S I x,S I y] 95))) (j:=0) rfl);have hd1:=(hg1.cell (p:=⟨wi.heap.size,1,none⟩) (by simp)).trans (ab (gR (wi.alloc (O #[S I x,S I y] 95))) (j:=1) rfl))|(at_builtin;refine aJ _ rfl (.tmp 59) (.tmp 61) rfl base (J A2 M.length cap2) M [(x,y)] (some ⟨w1.heap.size,0,none⟩) 1 rfl rfl ?ho ?hr (fun h=>by cases h) hbd.out ?hs ?_))
       case ho=>exact (hAM.gr ((hgD.trans hg1).alloc _)).own
       case hr=>exact iz rfl x y _
       case hs=>exact (hAM.gr ((hgD.trans hg1).alloc _)).bs
       intro v1 w2 hown1 hgr1 hat1
       have hAM2:Hid (AM w w2 w.heap.size base a b (some ⟨bb,off,none⟩) B ca cb v1 (M++[(x,y)])):=hAM.append ((hgD.trans hg1).alloc _) hown1 hgr1 (by simp) hat1
       clear hown1 hgr1 hat1 hd0 hd1 hAM
       go_wp2
       go_roundw
       case rel=>exact ⟨v1,k+1,rfl,by omega,by go_num,by rw[hst2.out];exact hAM2.out⟩
       case measure=>simp[intOf];omega
      ·have hst2:Hid (cD b x (a.l.take (k+1)) m=M):=by show _=_;rw[hst,if_neg (by rw[hh];simp)]
       clear hst
       go_wp2_with (go_at_call 66;refine (oE hh hbM.out (brow.gr hgD)).mono ?_;rintro e w1 ⟨rfl,hg1⟩)
       go_roundw
       case rel=>exact ⟨_,k+1,rfl,by omega,by go_num,by rw[hst2.out];exact hAM.gr (hgD.trans hg1)⟩
       case measure=>simp[intOf];omega
     ·have hst2:Hid (cD b node (a.l.take (k+1)) m=M):=by show _=_;rw[hst,if_neg (fun h=>hxn h.1)]
      have hxb:(x==node)=false:=by simpa using hxn
      clear hst hxn
      go_wp2
      go_roundw
      case rel=>exact ⟨_,k+1,rfl,by omega,by go_num,by rw[hst2.out];exact hAM.gr hgD⟩
      case measure=>simp[intOf];omega
    ·have hltz:¬(k:Int)<(a.l.length:Int):=by omega
     have hke:a.l.take k=a.l:=List.take_of_length_le (by omega)
     have hfin:Hid (dV a b node l=M):=by
      have h1:=HM.out
      rw[hke] at h1
      exact hmm.out.trans h1
     clear hke HM
     go_wp2
     go_ret
     rw[hfin.out]
     exact ⟨_,rfl,hAM.own,hAM.bel⟩


def bz (a b:Ctx):Nat→List (Int×Int)
 | 0=>[]
 | k+1=>dV a b k (bz a b k)
theorem iq (a b:Ctx) (k:Nat):(bz a b k).length≤(bz a b (k+1)).length:=xv a b k (bz a b k)
theorem uW (a b:Ctx) (k:Nat):(bz a b (k+1)).length≤max (bz a b k).length 401+a.l.length:=uY a b k (bz a b k)

def fC (a b:Ctx):Int:=if 400<(bz a b 4).length then 2 else 0
def gV (a b:Ctx):List (Int×Int):=if 400<(bz a b 4).length then [] else bz a b 4

theorem sQ {a b:Ctx} {k:Nat} (hk:k≤4) (h:400<(bz a b k).length):fC a b=2∧gV a b=[]:=by
 have h4:400<(bz a b 4).length:=by
  have h1:(bz a b 0).length≤(bz a b 1).length:=iq a b 0
  have h2:(bz a b 1).length≤(bz a b 2).length:=iq a b 1
  have h3:(bz a b 2).length≤(bz a b 3).length:=iq a b 2
  have h5:(bz a b 3).length≤(bz a b 4).length:=iq a b 3
  have hk':k=0∨k=1∨k=2∨k=3∨k=4:=by omega
  rcases hk' with rfl|rfl|rfl|rfl|rfl<;>omega
 exact ⟨by unfold fC;rw[if_pos h4],by unfold gV;rw[if_pos h4]⟩



end Go.Proofs.YtkefkplnamkicaaGreatDoor
