import Derived.Test.YtkefkplnamkicabGreatDoorM18
import Derived.Test.YtkefkplnamkicabGreatDoorM15
set_option maxRecDepth 100000
set_option maxHeartbeats 8000000
open Go.IntKind renaming i64 → I
open Go.Obj renaming cells → J
open Go.Value renaming int → S, slice → Z, agg → H
namespace Go.Proofs.YtkefkplnamkicabGreatDoor
open Go.RowKit Go.Sort

theorem mL {c:Ctx} {A:Option Addr} {cap:Nat} {x y:Int} {r:Bool} {w:World} (hx:ae c (x,y)=r) (hl:c.l.length≤maxLen) (hr:Row w A c.l) :
  Calls Tryz.prog 45 #[H #[S I c.c0,S I c.c1,S I c.c2,S I c.c3,Z A c.l.length cap],H #[S I x,S I y]] w fun e w'=>e= .returned (.bool r)∧Gr w w':=by
 rw[←hx];exact jh c A cap (x,y) w hl hr

theorem oo (a b:Ctx) (A B:Option Addr) (ca cb:Nat) (v:Value) (l:List (Int×Int)) (node:Int) (base:Nat) (w:World) (h0:0≤node) (h4:node<4) (hoa:bw a=true) (hob:bw b=true) (hal:a.l.length≤400) (hbl:b.l.length≤400) (hll:l.length≤2000)
  (hra:Row w A a.l) (hrb:Row w B b.l) (hAb:∀x,A=some x→a.l≠[]→x.block<base) (hBb:∀x,B=some x→b.l≠[]→x.block<base) (hov:Own w base v l) (hbs:base≤w.heap.size) :
  Calls Tryz.prog 165 #[v,H #[S I a.c0,S I a.c1,S I a.c2,S I a.c3,Z A a.l.length ca],H #[S I b.c0,S I b.c1,S I b.c2,S I b.c3,Z B b.l.length cb],S I node] w fun e w'=>∃v',e= .returned v'∧Own w' base v' (dM a b node l)∧Below base w w':=by
 have hca:=cz hoa node h0 h4
 have hcb:=cz hob node h0 h4
 have hg0:Gr w ((w.alloc (J #[S I a.c0,S I a.c1,S I a.c2,S I a.c3,Z A a.l.length ca] 39)).alloc (J #[S I b.c0,S I b.c1,S I b.c2,S I b.c3,Z B b.l.length cb] 39)):=((gR w).alloc _).alloc _
 have hAM0:AM w ((w.alloc (J #[S I a.c0,S I a.c1,S I a.c2,S I a.c3,Z A a.l.length ca] 39)).alloc (J #[S I b.c0,S I b.c1,S I b.c2,S I b.c3,Z B b.l.length cb] 39)) w.heap.size base a b A B ca cb v l:=⟨hov.gr hg0,fun k hk=>by have:=(hov.lt k hk).2;omega,(CtxAt.new 39 hra rfl).gr ((gR _).alloc _),CtxAt.new 39 (hrb.gr ((gR _).alloc _)) (by simp),hg0.below.mono hbs,nT hbs hg0.size,hAb,hBb⟩
 have hbM:Hid (b.l.length≤maxLen):=by show _≤_;unfold maxLen;omega
 have k0:=hAM0.ca.k4
 have kc0:=ab (gT (gR ((w.alloc (J #[S I a.c0,S I a.c1,S I a.c2,S I a.c3,Z A a.l.length ca] 39)).alloc (J #[S I b.c0,S I b.c1,S I b.c2,S I b.c3,Z B b.l.length cb] 39)))) (gW (c:=a) h0 h4)
 have kd0:=lY (gR ((w.alloc (J #[S I a.c0,S I a.c1,S I a.c2,S I a.c3,Z A a.l.length ca] 39)).alloc (J #[S I b.c0,S I b.c1,S I b.c2,S I b.c3,Z B b.l.length cb] 39))) (gW (c:=b) h0 h4)
 clear hov hra hrb
 obtain ⟨A0,cap0,rfl,_,_,_⟩:=hAM0.own.row
 go_enter Tryz.func165,Tryz.ntmps165
 go_wp2
 clear k0 kc0 kd0
 go_loopw [0,9] (fun v s wr=>∃(V:Value) (m:List (Int×Int)) (t:Int),v=V∧s= S I t∧clk b node+1≤t∧t≤1099511627777∧m.length≤2001∧AM w wr w.heap.size base a b A B ca cb V m∧Hid (bY b node (clk a node) (clk a node+1-t).toNat m t=bY b node (clk a node) (clk a node-clk b node).toNat l (clk b node+1))) (fun _ s _=>(clk a node+1-intOf s).toNat)
 case atStart=>exact ⟨_,l,clk b node+1,rfl,rfl,Int.le_refl _,by omega,by omega,hAM0,by show bY _ _ _ _ _ _=_;congr 1;omega⟩
 case round =>
  obtain ⟨V,m,t,rfl,rfl,ht1,ht2,hml,hAM,hmi⟩:=hrel
  obtain ⟨A1,cap1,rfl,hA1,_,_⟩:=hAM.own.row
  have kc:=hAM.ca.k4
  have ka:wr.cell? ⟨w.heap.size,node.toNat,none⟩=some (S I (clk a node)):=ym hAM.ca h0 h4
  by_cases hs:t≤clk a node
  ·by_cases hl4:m.length≤400
   ·have hl4z:(m.length:Int)≤400:=by omega
    have hst:=qI (b:=b) (node:=node) hs hl4
    have hgD:Gr wr (wr.alloc (J #[S I node,S I t] 83)):=(gR _).alloc _
    obtain ⟨b0,b1,b2,b3,b4,blt,brow⟩:=(show CtxAt _ _ _ _ _ from hAM.cb)
    cases hh:ae b (node,t)
    ·rw[hh] at hst
     simp only[Bool.false_eq_true,if_false] at hst
     have hnx:Hid (bY b node (clk a node) (clk a node+1-(t+1)).toNat (m++[(node,t)]) (t+1)=bY b node (clk a node) (clk a node-clk b node).toNat l (clk b node+1)):=hst.symm.trans hmi.out
     clear hst
     have hbd:Hid ((m.length+[(node,t)].length)*16≤140737488355328):=by show _≤_;simp only[List.length_cons,List.length_nil];omega
     go_wp2_with (first|(go_at_call 45;refine (mL hh hbM.out (brow.gr hgD)).mono ?_;rintro e w1 ⟨rfl,hg1⟩;have hd0:=(hg1.cell (p:=⟨wr.heap.size,0,none⟩) (by simp)).trans (ab (gR (wr.alloc (J #[S I node,S I t] 83))) (j:=0) rfl);have hd1:=(hg1.cell (p:=⟨wr.heap.size,1,none⟩) (by simp)).trans (ab (gR (wr.alloc (J #[S I node,S I t] 83))) (j:=1) rfl))|(at_builtin;refine aF _ rfl (.tmp 38) (.tmp 40) rfl base (Z A1 m.length cap1) m [(node,t)] (some ⟨w1.heap.size,0,none⟩) 1 rfl rfl ?ho ?hr (fun h=>by cases h) hbd.out ?hs ?_))
     case ho=>exact (hAM.gr ((hgD.trans hg1).alloc _)).own
     case hr=>exact gQ rfl node t _
     case hs=>exact (hAM.gr ((hgD.trans hg1).alloc _)).bs
     intro v1 w2 hown1 hgr1 hat1
     have hAM2:Hid (AM w w2 w.heap.size base a b A B ca cb v1 (m++[(node,t)])):=hAM.append ((hgD.trans hg1).alloc _) hown1 hgr1 (by simp) hat1
     clear hown1 hgr1 hat1 hd0 hd1 hAM
     go_wp2
     go_roundw
     case rel=>exact ⟨v1,m++[(node,t)],t+1,rfl,by go_num,by omega,by omega,by simp only[List.length_append,List.length_cons,List.length_nil];omega,hAM2.out,hnx⟩
     case measure=>simp[intOf];omega
    ·rw[hh] at hst
     simp only[if_true] at hst
     have hnx:Hid (bY b node (clk a node) (clk a node+1-(t+1)).toNat m (t+1)=bY b node (clk a node) (clk a node-clk b node).toNat l (clk b node+1)):=hst.symm.trans hmi.out
     clear hst
     go_wp2_with (go_at_call 45;refine (mL hh hbM.out (brow.gr hgD)).mono ?_;rintro e w1 ⟨rfl,hg1⟩)
     go_roundw
     case rel=>exact ⟨_,m,t+1,rfl,by go_num,by omega,by omega,hml,hAM.gr (hgD.trans hg1),hnx⟩
     case measure=>simp[intOf];omega
   ·have hl4z:¬(m.length:Int)≤400:=by omega
    have hstop:¬(t≤clk a node∧m.length≤400):=fun h=>hl4 h.2
    have hmm:Hid (dM a b node l=ct b node a.l m):=by
     show dM a b node l=_
     unfold dM
     rw[←hmi.out,lu hstop]
    clear hmi hstop
    obtain ⟨b0,b1,b2,b3,b4,blt,brow⟩:=(show CtxAt _ _ _ _ _ from hAM.cb)
    go_wp2
    clear kc ka b0 b1 b2 b3 b4 blt brow
    go_loopw [0,45] (fun v i wi=>∃(V:Value) (k:Nat),v=V∧k≤a.l.length∧i= S I k∧AM w wi w.heap.size base a b A B ca cb V (ct b node (a.l.take k) m)) (fun _ i _=>a.l.length-(intOf i).toNat)
    case atStart=>exact ⟨_,0,rfl,nZ _,rfl,hAM⟩
    case round =>
     clear hAM
     rename World=>wi
     obtain ⟨V,k,rfl,hk,rfl,hAM⟩:=hrel
     have hln:=jN b node (a.l.take k) m
     have hlt2:(a.l.take k).length≤k:=List.length_take_le _ _
     obtain ⟨M,hM⟩:∃M,ct b node (a.l.take k) m=M:=⟨_,rfl⟩
     rw[hM] at hAM hln
     have HM:Hid (ct b node (a.l.take k) m=M):=hM
     clear hM
     obtain ⟨A2,cap2,rfl,hA2,_,_⟩:=hAM.own.row
     by_cases hlt:k<a.l.length
     ·have hltz:(k:Int)<(a.l.length:Int):=by omega
      obtain ⟨bb,off,rfl,hbb,hcs⟩:=hAM.ca.row.at hlt
      obtain ⟨x,y,hx⟩:∃x y,a.l[k]=(x,y):=⟨_,_,rfl⟩
      have e0:=(hcs k hlt).1
      have e1:=(hcs k hlt).2
      rw[hx] at e0 e1
      have hst:=lw (b:=b) (node:=node) (l:=m) hlt hx
      rw[HM.out] at hst
      simp only at hst
      clear hcs hx
      have hgD:Gr wi (wi.alloc (J #[S I x,S I y] 83)):=(gR _).alloc _
      obtain ⟨b0,b1,b2,b3,b4,blt,brow⟩:=(show CtxAt _ _ _ _ _ from hAM.cb)
      by_cases hxn:x=node
      ·subst hxn
       cases hh:ae b (x,y)
       ·have hst2:Hid (ct b x (a.l.take (k+1)) m=M++[(x,y)]):=by show _=_;rw[hst,if_pos ⟨rfl,hh⟩]
        have hbd:Hid ((M.length+[(x,y)].length)*16≤140737488355328):=by show _≤_;simp only[List.length_cons,List.length_nil];omega
        clear hst
        go_wp2_with (first|(go_at_call 45;refine (mL hh hbM.out (brow.gr hgD)).mono ?_;rintro e w1 ⟨rfl,hg1⟩;have hd0:=(hg1.cell (p:=⟨wi.heap.size,0,none⟩) (by simp)).trans (ab (gR (wi.alloc (J #[S I x,S I y] 83))) (j:=0) rfl);have hd1:=(hg1.cell (p:=⟨wi.heap.size,1,none⟩) (by simp)).trans (ab (gR (wi.alloc (J #[S I x,S I y] 83))) (j:=1) rfl))|(at_builtin;refine aF _ rfl (.tmp 59) (.tmp 61) rfl base (Z A2 M.length cap2) M [(x,y)] (some ⟨w1.heap.size,0,none⟩) 1 rfl rfl ?ho ?hr (fun h=>by cases h) hbd.out ?hs ?_))
        case ho=>exact (hAM.gr ((hgD.trans hg1).alloc _)).own
        case hr=>exact gQ rfl x y _
        case hs=>exact (hAM.gr ((hgD.trans hg1).alloc _)).bs
        intro v1 w2 hown1 hgr1 hat1
        have hAM2:Hid (AM w w2 w.heap.size base a b (some ⟨bb,off,none⟩) B ca cb v1 (M++[(x,y)])):=hAM.append ((hgD.trans hg1).alloc _) hown1 hgr1 (by simp) hat1
        clear hown1 hgr1 hat1 hd0 hd1 hAM
        go_wp2
        go_roundw
        case rel=>exact ⟨v1,k+1,rfl,by omega,by go_num,by rw[hst2.out];exact hAM2.out⟩
        case measure=>simp[intOf];omega
       ·have hst2:Hid (ct b x (a.l.take (k+1)) m=M):=by show _=_;rw[hst,if_neg (by rw[hh];simp)]
        clear hst
        go_wp2_with (go_at_call 45;refine (mL hh hbM.out (brow.gr hgD)).mono ?_;rintro e w1 ⟨rfl,hg1⟩)
        go_roundw
        case rel=>exact ⟨_,k+1,rfl,by omega,by go_num,by rw[hst2.out];exact hAM.gr (hgD.trans hg1)⟩
        case measure=>simp[intOf];omega
      ·have hst2:Hid (ct b node (a.l.take (k+1)) m=M):=by show _=_;rw[hst,if_neg (fun h=>hxn h.1)]
       have hxb:(x==node)=false:=by simpa using hxn
       clear hst hxn
       go_wp2
       go_roundw
       case rel=>exact ⟨_,k+1,rfl,by omega,by go_num,by rw[hst2.out];exact hAM.gr hgD⟩
       case measure=>simp[intOf];omega
     ·have hltz:¬(k:Int)<(a.l.length:Int):=by omega
      have hke:a.l.take k=a.l:=List.take_of_length_le (by omega)
      have hfin:Hid (dM a b node l=M):=by
       have h1:=HM.out
       rw[hke] at h1
       exact hmm.out.trans h1
      clear hke HM
      go_wp2
      go_ret
      rw[hfin.out]
      exact ⟨_,rfl,hAM.own,hAM.bel⟩
  ·have hsb:decide (t≤clk a node)=false:=by simpa using hs
   have hstop:¬(t≤clk a node∧m.length≤400):=fun h=>hs h.1
   have hmm:Hid (dM a b node l=ct b node a.l m):=by
    show dM a b node l=_
    unfold dM
    rw[←hmi.out,lu hstop]
   clear hmi hstop
   obtain ⟨b0,b1,b2,b3,b4,blt,brow⟩:=(show CtxAt _ _ _ _ _ from hAM.cb)
   go_wp2
   clear kc ka b0 b1 b2 b3 b4 blt brow
   go_loopw [0,45] (fun v i wi=>∃(V:Value) (k:Nat),v=V∧k≤a.l.length∧i= S I k∧AM w wi w.heap.size base a b A B ca cb V (ct b node (a.l.take k) m)) (fun _ i _=>a.l.length-(intOf i).toNat)
   case atStart=>exact ⟨_,0,rfl,nZ _,rfl,hAM⟩
   case round =>
    clear hAM
    rename World=>wi
    obtain ⟨V,k,rfl,hk,rfl,hAM⟩:=hrel
    have hln:=jN b node (a.l.take k) m
    have hlt2:(a.l.take k).length≤k:=List.length_take_le _ _
    obtain ⟨M,hM⟩:∃M,ct b node (a.l.take k) m=M:=⟨_,rfl⟩
    rw[hM] at hAM hln
    have HM:Hid (ct b node (a.l.take k) m=M):=hM
    clear hM
    obtain ⟨A2,cap2,rfl,hA2,_,_⟩:=hAM.own.row
    by_cases hlt:k<a.l.length
    ·have hltz:(k:Int)<(a.l.length:Int):=by omega
     obtain ⟨bb,off,rfl,hbb,hcs⟩:=hAM.ca.row.at hlt
     obtain ⟨x,y,hx⟩:∃x y,a.l[k]=(x,y):=⟨_,_,rfl⟩
     have e0:=(hcs k hlt).1
     have e1:=(hcs k hlt).2
     rw[hx] at e0 e1
     have hst:=lw (b:=b) (node:=node) (l:=m) hlt hx
     rw[HM.out] at hst
     simp only at hst
     clear hcs hx
     have hgD:Gr wi (wi.alloc (J #[S I x,S I y] 83)):=(gR _).alloc _
     obtain ⟨b0,b1,b2,b3,b4,blt,brow⟩:=(show CtxAt _ _ _ _ _ from hAM.cb)
     by_cases hxn:x=node
     ·subst hxn
      cases hh:ae b (x,y)
      ·have hst2:Hid (ct b x (a.l.take (k+1)) m=M++[(x,y)]):=by show _=_;rw[hst,if_pos ⟨rfl,hh⟩]
       have hbd:Hid ((M.length+[(x,y)].length)*16≤140737488355328):=by show _≤_;simp only[List.length_cons,List.length_nil];omega
       clear hst
       go_wp2_with (first|(go_at_call 45;refine (mL hh hbM.out (brow.gr hgD)).mono ?_;rintro e w1 ⟨rfl,hg1⟩;have hd0:=(hg1.cell (p:=⟨wi.heap.size,0,none⟩) (by simp)).trans (ab (gR (wi.alloc (J #[S I x,S I y] 83))) (j:=0) rfl);have hd1:=(hg1.cell (p:=⟨wi.heap.size,1,none⟩) (by simp)).trans (ab (gR (wi.alloc (J #[S I x,S I y] 83))) (j:=1) rfl))|(at_builtin;refine aF _ rfl (.tmp 59) (.tmp 61) rfl base (Z A2 M.length cap2) M [(x,y)] (some ⟨w1.heap.size,0,none⟩) 1 rfl rfl ?ho ?hr (fun h=>by cases h) hbd.out ?hs ?_))
       case ho=>exact (hAM.gr ((hgD.trans hg1).alloc _)).own
       case hr=>exact gQ rfl x y _
       case hs=>exact (hAM.gr ((hgD.trans hg1).alloc _)).bs
       intro v1 w2 hown1 hgr1 hat1
       have hAM2:Hid (AM w w2 w.heap.size base a b (some ⟨bb,off,none⟩) B ca cb v1 (M++[(x,y)])):=hAM.append ((hgD.trans hg1).alloc _) hown1 hgr1 (by simp) hat1
       clear hown1 hgr1 hat1 hd0 hd1 hAM
       go_wp2
       go_roundw
       case rel=>exact ⟨v1,k+1,rfl,by omega,by go_num,by rw[hst2.out];exact hAM2.out⟩
       case measure=>simp[intOf];omega
      ·have hst2:Hid (ct b x (a.l.take (k+1)) m=M):=by show _=_;rw[hst,if_neg (by rw[hh];simp)]
       clear hst
       go_wp2_with (go_at_call 45;refine (mL hh hbM.out (brow.gr hgD)).mono ?_;rintro e w1 ⟨rfl,hg1⟩)
       go_roundw
       case rel=>exact ⟨_,k+1,rfl,by omega,by go_num,by rw[hst2.out];exact hAM.gr (hgD.trans hg1)⟩
       case measure=>simp[intOf];omega
     ·have hst2:Hid (ct b node (a.l.take (k+1)) m=M):=by show _=_;rw[hst,if_neg (fun h=>hxn h.1)]
      have hxb:(x==node)=false:=by simpa using hxn
      clear hst hxn
      go_wp2
      go_roundw
      case rel=>exact ⟨_,k+1,rfl,by omega,by go_num,by rw[hst2.out];exact hAM.gr hgD⟩
      case measure=>simp[intOf];omega
    ·have hltz:¬(k:Int)<(a.l.length:Int):=by omega
     have hke:a.l.take k=a.l:=List.take_of_length_le (by omega)
     have hfin:Hid (dM a b node l=M):=by
      have h1:=HM.out
      rw[hke] at h1
      exact hmm.out.trans h1
     clear hke HM
     go_wp2
     go_ret
     rw[hfin.out]
     exact ⟨_,rfl,hAM.own,hAM.bel⟩


def bn (a b:Ctx):Nat→List (Int×Int)
 | 0=>[]
 | k+1=>dM a b k (bn a b k)
theorem gI (a b:Ctx) (k:Nat):(bn a b k).length≤(bn a b (k+1)).length:=ve a b k (bn a b k)
theorem sS (a b:Ctx) (k:Nat):(bn a b (k+1)).length≤max (bn a b k).length 401+a.l.length:=sU a b k (bn a b k)

def fF (a b:Ctx):Int:=if 400<(bn a b 4).length then 2 else 0
def gp (a b:Ctx):List (Int×Int):=if 400<(bn a b 4).length then [] else bn a b 4

theorem qL {a b:Ctx} {k:Nat} (hk:k≤4) (h:400<(bn a b k).length):fF a b=2∧gp a b=[]:=by
 have h4:400<(bn a b 4).length:=by
  have h1:(bn a b 0).length≤(bn a b 1).length:=gI a b 0
  have h2:(bn a b 1).length≤(bn a b 2).length:=gI a b 1
  have h3:(bn a b 2).length≤(bn a b 3).length:=gI a b 2
  have h5:(bn a b 3).length≤(bn a b 4).length:=gI a b 3
  have hk':k=0∨k=1∨k=2∨k=3∨k=4:=by omega
  rcases hk' with rfl|rfl|rfl|rfl|rfl<;>omega
 exact ⟨by unfold fF;rw[if_pos h4],by unfold gp;rw[if_pos h4]⟩




theorem CtxAt.G {w:World} {B:Nat} {c:Ctx} {A:Option Addr} {cap:Nat} (h:CtxAt w B c A cap):(∀n os,(grow (w.drewN n) os).cell? ⟨B,0,none⟩=some (S I c.c0))∧(∀n os,(grow (w.drewN n) os).cell? ⟨B,1,none⟩=some (S I c.c1))∧(∀n os,(grow (w.drewN n) os).cell? ⟨B,2,none⟩=some (S I c.c2))∧(∀n os,(grow (w.drewN n) os).cell? ⟨B,3,none⟩=some (S I c.c3))∧(∀n os,(grow (w.drewN n) os).cell? ⟨B,4,none⟩=some (Z A c.l.length cap)) :=
 ⟨cell_grown (a:=⟨B,0,none⟩) h.lt h.k0,cell_grown (a:=⟨B,1,none⟩) h.lt h.k1,cell_grown (a:=⟨B,2,none⟩) h.lt h.k2,cell_grown (a:=⟨B,3,none⟩) h.lt h.k3,cell_grown (a:=⟨B,4,none⟩) h.lt h.k4⟩
theorem DotAt.G {w:World} {B:Nat} {x y:Int} (h:DotAt w B x y):(∀n os,(grow (w.drewN n) os).cell? ⟨B,0,none⟩=some (S I x))∧(∀n os,(grow (w.drewN n) os).cell? ⟨B,1,none⟩=some (S I y)) :=
 ⟨cell_grown (a:=⟨B,0,none⟩) h.lt h.k0,cell_grown (a:=⟨B,1,none⟩) h.lt h.k1⟩


theorem jK {c:Ctx} (h:Can c) {x:Int×Int} (hx:ae c x=true):al x=true:=by
 rcases (aG c x).1 hx with hm|hm
 ·exact h.right x hm
 ·have:=cz h.ck x.1 hm.1 (by omega)
  simp[al,inB]
  omega

theorem kh (b:Ctx) (node top:Int):∀(n:Nat) (l:List (Int×Int)) (s:Int) (x:Int×Int),x∈bY b node top n l s→x∈l∨(x.1=node∧s≤x.2∧x.2≤top∧ae b x=false):=by
 intro n
 induction n with
 | zero=>intro l s x h;exact oL h
 | succ n ih =>
  intro l s x h
  by_cases hc:s≤top∧l.length≤400
  ·simp only[bY,if_pos hc] at h
   rcases ih _ _ x h with h|h
   ·by_cases hh:ae b (node,s)=true
    ·rw[if_pos hh] at h;exact oL h
    ·rw[if_neg hh] at h
     rcases List.mem_append.1 h with h|h
     ·exact oL h
     ·obtain rfl:x=(node,s):=by simpa using h
      exact oR ⟨rfl,Int.le_refl _,hc.1,by simpa using hh⟩
   ·exact oR ⟨h.1,by omega,h.2.2.1,h.2.2.2⟩
  ·simp only[bY,if_neg hc] at h;exact oL h

theorem sP (b:Ctx) (node top:Int):∀(n:Nat) (l:List (Int×Int)) (s:Int),(top+1-s).toNat≤n→(bY b node top n l s).length≤400→∀x:Int×Int,x∈l∨(x.1=node∧s≤x.2∧x.2≤top∧ae b x=false)→x∈bY b node top n l s:=by
 intro n
 induction n with
 | zero =>
  intro l s hn _ x h
  rcases h with h|h
  ·exact h
  ·omega
 | succ n ih =>
  intro l s hn hl x h
  by_cases hc:s≤top∧l.length≤400
  ·simp only[bY,if_pos hc] at hl ⊢
   refine ih _ _ (by omega) hl x ?_
   rcases h with h|h
   ·left
    by_cases hh:ae b (node,s)=true
    ·rw[if_pos hh];exact h
    ·rw[if_neg hh];exact List.mem_append_left _ h
   ·by_cases hs:x.2=s
    ·left
     obtain rfl:x=(node,s):=Prod.ext h.1 hs
     rw[h.2.2.2]
     simp
    ·exact oR ⟨h.1,by omega,h.2.2.1,h.2.2.2⟩
  ·simp only[bY,if_neg hc] at hl ⊢
   rcases h with h|h
   ·exact h
   ·omega

theorem mV (b:Ctx) (node:Int) (ds:List (Int×Int)):∀(l:List (Int×Int)) (x:Int×Int),x∈ct b node ds l↔x∈l∨(x∈ds∧x.1=node∧ae b x=false):=by
 induction ds with
 | nil=>intro l x;simp[ct]
 | cons y ds ih =>
  intro l x
  show x∈ct b node ds (if y.1=node∧ae b y=false then l++[y] else l)↔_
  rw[ih]
  by_cases hc:y.1=node∧ae b y=false
  ·rw[if_pos hc,List.mem_append,List.mem_singleton,List.mem_cons]
   constructor
   ·rintro ((h|h)|h)
    ·exact oL h
    ·exact oR ⟨oL h,by rw[h];exact hc⟩
    ·exact oR ⟨oR h.1,h.2⟩
   ·rintro (h|⟨h|h,k⟩)
    ·exact oL (oL h)
    ·exact oL (oR h)
    ·exact oR ⟨h,k⟩
  ·rw[if_neg hc,List.mem_cons]
   constructor
   ·rintro (h|h)
    ·exact oL h
    ·exact oR ⟨oR h.1,h.2⟩
   ·rintro (h|⟨h|h,k⟩)
    ·exact oL h
    ·subst h;exact absurd k hc
    ·exact oR ⟨h,k⟩

theorem sT {a b:Ctx} {node:Int} {l:List (Int×Int)} (hl:(dM a b node l).length≤400) {x:Int×Int} (h:x∈l∨(x.1=node∧ae a x=true∧ae b x=false)):x∈dM a b node l:=by
 have h1:(bY b node (clk a node) (clk a node-clk b node).toNat l (clk b node+1)).length≤400:=nT (pl b node a.l _) hl
 have hall:=sP b node (clk a node) _ l (clk b node+1) (by omega) h1
 refine (mV b node a.l _ x).2 ?_
 rcases h with h|⟨hn,ha,hb⟩
 ·exact oL (hall x (oL h))
 ·rcases (aG a x).1 ha with hm|hm
  ·exact oR ⟨hm,hn,hb⟩
  ·refine oL (hall x (oR ⟨hn,?_,by rw[←hn];exact hm.2.2.2,hb⟩))
   rcases Int.lt_or_le (clk b node) x.2 with hlt|hle
   ·omega
   ·exact absurd ((aG b x).2 (oR ⟨hm.1,hm.2.1,hm.2.2.1,by rw[hn];exact hle⟩)) (by rw[hb];simp)

theorem sR {a b:Ctx} {x:Int×Int} (h0:0≤x.1) (ha:ae a x=true) (hb:ae b x=false):∀k:Nat,(bn a b k).length≤400→x.1<k→x∈bn a b k:=by
 intro k
 induction k with
 | zero=>intro _ h;omega
 | succ k ih =>
  intro hl hx
  refine sT hl ?_
  by_cases e:x.1=(k:Int)
  ·exact oR ⟨e,ha,hb⟩
  ·exact oL (ih (nT (gI a b k) hl) (by omega))

theorem xJ (c:Ctx) (n:Int):∀(l:List (Int×Int)) (x:Int×Int),x∈l→x.1=n→x.2≤eF c n l:=by
 have hmono:∀(l:List (Int×Int)) (m:Int),m≤l.foldl (fun m x=>if x.1=n then max m x.2 else m) m:=by
  intro l
  induction l with
  | nil=>intro m;simp
  | cons x l ih =>
   intro m
   simp only[List.foldl_cons]
   refine Int.le_trans ?_ (ih (if x.1=n then max m x.2 else m))
   split<;>omega
 intro l x hx hn
 unfold eF
 suffices h:∀(l:List (Int×Int)) (m:Int),x∈l→x.2≤l.foldl (fun m x=>if x.1=n then max m x.2 else m) m from h l _ hx
 intro l
 induction l with
 | nil=>intro m h;cases h
 | cons y l ih =>
  intro m h
  simp only[List.foldl_cons]
  rcases List.mem_cons.1 h with rfl|h
  ·refine Int.le_trans ?_ (hmono l _)
   rw[if_pos hn];omega
  ·exact ih _ h

theorem vq {c:Ctx} {n:Int} (h:(bv c n).2=0):(bv c n).1.1=n∧ae c (bv c n).1=false:=by
 unfold bv at h ⊢
 by_cases he:aO c=0
 ·rw[if_pos he] at h ⊢
  cases hin:inB n 0 3
  ·rw[hin] at h;cases h
  ·rw[hin] at h
   rw[if_pos rfl] at h ⊢
   change ki c n=0 at h
   show (jp c n).1=n∧ae c (jp c n)=false
   unfold ki at h
   by_cases ht:1099511627776≤eF c n c.l
   ·rw[if_pos ht] at h;cases h
   ·unfold jp
    rw[if_neg ht]
    refine ⟨rfl,?_⟩
    cases hh:ae c (n,eF c n c.l+1)
    ·rfl
    ·rcases (aG _ _).1 hh with k|k
     ·have:eF c n c.l+1≤eF c n c.l:=xJ c n c.l _ k rfl
      omega
     ·have h1:eF c n c.l+1≤clk c n:=k.2.2.2
      have h2:=rX c n c.l
      omega
 ·rw[if_neg he] at h;exact absurd h he


theorem wZ {a b:Ctx} (h:aC a b=0):aO a=0∧aO b=0:=kC (dV h).2.2.1
theorem uU {a b:Ctx} (h:aC a b=0):aC b a=0∧az b a=az a b:=by
 obtain ⟨ha,hb,_,hc,hl⟩:=dV h
 have he:=wZ h
 have h2:aC b a=0:=li he.2 he.1 (by rw[lj hb ha];exact hl)
 refine ⟨h2,?_⟩
 rw[hc,(dV h2).2.2.2.1,lj hb ha]
theorem dg {a b:Ctx} (h:aC a b=0):Can (az a b)∧aO (az a b)=0∧(az a b).l.length≤400∧∀x,ae (az a b) x=true↔ae a x=true∨ae b x=true:=by
 obtain ⟨ha,hb,_,hc,hl⟩:=dV h
 rw[hc]
 exact ⟨eQ ha hb,iJ (eQ ha hb) hl,hl,ei ha hb⟩
theorem jk {a b:Ctx} (h:aC a b=0) (x:Int×Int):ae (az a b) x=(ae a x || ae b x):=by
 rw[Bool.eq_iff_iff,(dg h).2.2.2 x,Bool.or_eq_true]
theorem qy {a b c:Ctx} (h1:aC a b=0) (h2:aC (az a b) c=0) (h3:aC b c=0) (h4:aC a (az b c)=0):az (az a b) c=az a (az b c):=by
 refine pZ (dg h2).1 (dg h4).1 fun x=> ?_
 rw[(dg h2).2.2.2 x,(dg h4).2.2.2 x,(dg h1).2.2.2 x,(dg h3).2.2.2 x,or_assoc]


theorem sL {l:List Cel} {d:Int×Int}:gw l d=true↔∃y∈l,y.1=d:=by
 unfold gw
 rw[List.any_eq_true]
 constructor
 ·rintro ⟨y,hy,h⟩;exact ⟨y,hy,by simpa using h⟩
 ·rintro ⟨y,hy,h⟩;exact ⟨y,hy,by simpa using h⟩
theorem j8 {l m:List Cel} (hl:Asc l) (hm:Asc m) (h:∀x,x∈l↔x∈m):l=m:=by
 unfold Asc at hl hm
 have nl:l.Nodup:=List.Pairwise.imp (fun {a b} (h:br a.1 b.1=true) (e:a=b)=>gV h (by rw[e])) hl
 have nm:m.Nodup:=List.Pairwise.imp (fun {a b} (h:br a.1 b.1=true) (e:a=b)=>gV h (by rw[e])) hm
 have hp:l.Perm m:=(List.perm_ext_iff_of_nodup nl nm).2 h
 refine List.Perm.eq_of_pairwise (le:=fun x y=>br x.1 y.1=true) ?_ hl hm hp
 intro x y _ _ h1 h2
 have:=fO h1 h2
 rw[ou] at this
 cases this
theorem noclash {a b:Tab}:dD a b=false↔∀x∈a.e,∀y∈b.e,y.1=x.1→y=x:=by
 unfold dD
 rw[List.any_eq_false]
 constructor
 ·intro h x hx y hy e
  cases h4:iv y x
  ·refine absurd ?_ (h x hx)
   unfold clP
   rw[List.any_eq_true]
   exact ⟨y,hy,by simp[e,h4]⟩
  ·exact mz.1 h4
 ·intro h x hx hcl
  unfold clP at hcl
  rw[List.any_eq_true] at hcl
  obtain ⟨y,hy,h2⟩:=hcl
  simp only[Bool.and_eq_true,decide_eq_true_eq,Bool.not_eq_true'] at h2
  have h3:=h x hx y hy h2.1
  have h4:=h2.2
  rw[h3,mz.2 rfl] at h4
  cases h4
theorem wk {t:Tab} (h:am t=0):∀x∈t.e,∀y∈t.e,y.1=x.1→y=x:=fun x hx y hy e=>(iO (gU (dT h))) y hy x hx e
theorem dm {a b:Tab} (hc:dD a b=false) {x:Cel}:x∈mrg a b↔(x∈a.e∧x∈b.e)∨(x∈a.e∧ae b.c x.1=false)∨(x∈b.e∧ae a.c x.1=false):=by
 unfold mrg
 rw[(ip _).mem_iff]
 unfold both
 rw[List.mem_append,List.mem_filter,List.mem_filter]
 unfold fo eZ
 simp only[Bool.or_eq_true,Bool.not_eq_true']
 have hb:x∈a.e→(gw b.e x.1=true↔x∈b.e):=by
  intro hx
  rw[sL]
  constructor
  ·rintro ⟨y,hy,e⟩
   rw[←noclash.1 hc x hx y hy e];exact hy
  ·intro h;exact ⟨x,h,rfl⟩
 constructor
 ·rintro (⟨h1,h2|h2⟩|h1)
  ·exact oL ⟨h1,(hb h1).1 h2⟩
  ·exact oR (oL ⟨h1,h2⟩)
  ·exact oR (oR h1)
 ·rintro (⟨h1,h2⟩|⟨h1,h2⟩|h1)
  ·exact oL ⟨h1,oL ((hb h1).2 h2)⟩
  ·exact oL ⟨h1,oR h2⟩
  ·exact oR h1
theorem ig {a b:Tab} (h1:am a=0) (h2:am b=0) (h3:dD a b=false) (h4:aC a.c b.c=0) (h5:(mrg a b).length≤400):ak a b=0:=by
 unfold ak
 rw[h1,h2,h3,h4]
 simp
 omega
theorem aQ {a b:Tab} (h:ak a b=0):ac a b=⟨az a.c b.c,mrg a b⟩:=by unfold ac;rw[if_pos h]
theorem jf {c:Ctx} {e:List Cel} (hc:aO c=0) (hl:e.length≤400) (ha:Asc e) (h:∀x∈e,ae c x.1=true∧aU x.2.1 x.2.2.1 x.2.2.2=true):am ⟨c,e⟩=0:=by
 refine rD hc hl fun k hk=> ?_
 have hk':k<e.length:=hk
 cases k with
 | zero =>
  rw[gd (t:=⟨c,e⟩) hk rfl]
  have:=h e[0] (gM hk')
  simp[this.1,this.2]
 | succ m =>
  rw[ek (t:=⟨c,e⟩) hk rfl rfl]
  have:=h e[m+1] (gM hk')
  have h2:=(List.pairwise_iff_getElem.1 ha) m (m+1) (by omega) hk' (by omega)
  simp[this.1,this.2,h2]
theorem jM {a b:Tab} (hc:dD a b=false) {x:Cel} (h:x∈mrg a b):x∈a.e∨x∈b.e:=by
 rcases (dm hc).1 h with h|h|h
 ·exact oL h.1
 ·exact oL h.1
 ·exact oR h.1
theorem cP {a b:Tab} (h:ak a b=0):am (ac a b)=0:=by
 obtain ⟨h1,h2,h3,h4,h5⟩:=bO h
 rw[aQ h]
 refine jf (dg h4).2.1 h5 (fj h1 h2) fun x hx=> ?_
 rw[jk h4]
 rcases jM h3 hx with hx|hx
 ·exact ⟨by rw[bK h1 hx];rfl,dI h1 hx⟩
 ·exact ⟨by rw[bK h2 hx];simp,dI h2 hx⟩
theorem qb {a b:Tab} (h:dD a b=false):dD b a=false:=noclash.2 fun x hx y hy e=>(noclash.1 h y hy x hx e.symm).symm
theorem sO {a b:Tab} (h:ak a b=0):ak b a=0∧ac b a=ac a b:=by
 obtain ⟨h1,h2,h3,h4,h5⟩:=bO h
 have h3':=qb h3
 have hm:mrg b a=mrg a b:=by
  refine j8 (fj h2 h1) (fj h1 h2) fun x=> ?_
  rw[dm h3',dm h3]
  constructor
  ·rintro (⟨k1,k2⟩|k|k)
   ·exact oL ⟨k2,k1⟩
   ·exact oR (oR k)
   ·exact oR (oL k)
  ·rintro (⟨k1,k2⟩|k|k)
   ·exact oL ⟨k2,k1⟩
   ·exact oR (oR k)
   ·exact oR (oL k)
 have hj:=uU h4
 have h0:ak b a=0:=ig h2 h1 h3' hj.1 (by rw[hm];exact h5)
 exact ⟨h0,by rw[aQ h0,aQ h,hm,hj.2]⟩
theorem rK {m a:Ctx} (hm:aO m=0) (ha:aO a=0) (h:∀x,ae a x=true→ae m x=true):aC m a=0∧az m a=m:=by
 have hcm:=cO hm
 have hca:=cO ha
 have hF:d7 m a=m:=pZ (eQ hcm hca) hcm fun x=>by
  rw[ei hcm hca]
  constructor
  ·rintro (k|k)
   ·exact k
   ·exact h x k
  ·exact oL
 have h0:aC m a=0:=li hm ha (by rw[hF];exact (bE hm).2.1)
 exact ⟨h0,by rw[(dV h0).2.2.2.1,hF]⟩
theorem pj {m a:Tab} (hm:am m=0) (ha:am a=0) (hcl:dD m a=false) (h:∀x,ae a.c x=true→ae m.c x=true) (hx:∀x∈m.e,x∈a.e∨ae a.c x.1=false):ak m a=0∧ac m a=m:=by
 have hj:=rK (af hm).1 (af ha).1 h
 have hme:mrg m a=m.e:=by
  refine j8 (fj hm ha) (dT hm) fun x=> ?_
  rw[dm hcl]
  constructor
  ·rintro (k|k|k)
   ·exact k.1
   ·exact k.1
   ·rw[h x.1 (bK ha k.1)] at k
    cases k.2
  ·intro k
   rcases hx x k with k2|k2
   ·exact oL ⟨k,k2⟩
   ·exact oR (oL ⟨k,k2⟩)
 have h0:ak m a=0:=ig hm ha hcl hj.1 (by rw[hme];exact (af hm).2.1)
 exact ⟨h0,by rw[aQ h0,hme,hj.2]⟩
theorem ph {a b:Tab} (h:ak a b=0):ak (ac a b) a=0∧ac (ac a b) a=ac a b:=by
 obtain ⟨h1,h2,h3,h4,h5⟩:=bO h
 have hm:=cP h
 rw[aQ h] at hm ⊢
 refine pj hm h1 ?_ ?_ ?_
 ·refine noclash.2 fun x hx y hy e=> ?_
  rcases jM h3 (show x∈mrg a b from hx) with k|k
  ·exact wk h1 x k y hy e
  ·exact (noclash.1 h3 y hy x k e.symm).symm
 ·intro x hx
  show ae (az a.c b.c) x=true
  rw[jk h4,hx];rfl
 ·intro x hx
  rcases (dm h3).1 (show x∈mrg a b from hx) with k|k|k
  ·exact oL k.1
  ·exact oL k.1
  ·exact oR k.2
theorem qF {m:Tab} (hm:am m=0):ak m m=0∧ac m m=m :=
 pj hm hm (noclash.2 fun x hx y hy e=>wk hm x hx y hy e) (fun _ h=>h) (fun _ h=>oL h)
theorem pi {a b c:Tab} (h1:ak a b=0) (h2:ak (ac a b) c=0) (h3:ak b c=0) (h4:ak a (ac b c)=0):ac (ac a b) c=ac a (ac b c):=by
 obtain ⟨a1,b1,k1,j1,_⟩:=bO h1
 obtain ⟨a2,c2,k2,j2,_⟩:=bO h2
 obtain ⟨b3,c3,k3,j3,_⟩:=bO h3
 obtain ⟨a4,bc4,k4,j4,_⟩:=bO h4
 have hE:mrg (ac a b) c=mrg a (ac b c):=by
  refine j8 (fj a2 c2) (fj a4 bc4) fun x=> ?_
  rw[dm k2,dm k4]
  have e1:x∈(ac a b).e↔(x∈a.e∧x∈b.e)∨(x∈a.e∧ae b.c x.1=false)∨(x∈b.e∧ae a.c x.1=false):=by rw[aQ h1];exact dm k1
  have e2:x∈(ac b c).e↔(x∈b.e∧x∈c.e)∨(x∈b.e∧ae c.c x.1=false)∨(x∈c.e∧ae b.c x.1=false):=by rw[aQ h3];exact dm k3
  have s1:ae (ac a b).c x.1=(ae a.c x.1 || ae b.c x.1):=by rw[aQ h1];exact jk j1 _
  have s2:ae (ac b c).c x.1=(ae b.c x.1 || ae c.c x.1):=by rw[aQ h3];exact jk j3 _
  rw[e1,e2,s1,s2]
  have ia:x∈a.e→ae a.c x.1=true:=bK a1
  have ib:x∈b.e→ae b.c x.1=true:=bK b1
  have ic:x∈c.e→ae c.c x.1=true:=bK c2
  clear e1 e2 s1 s2
  generalize ae a.c x.1=sa at *
  generalize ae b.c x.1=sb at *
  generalize ae c.c x.1=sc at *
  by_cases pa:x∈a.e<;>by_cases pb:x∈b.e<;>by_cases pc:x∈c.e<;>cases sa<;>cases sb<;>cases sc<;>simp_all
 rw[aQ h2,aQ h4,hE]
 have:=qy (a:=a.c) (b:=b.c) (c:=c.c) j1 (by rw[aQ h1] at j2;exact j2) j3 (by rw[aQ h3] at j4;exact j4)
 rw[show (ac a b).c=az a.c b.c from by rw[aQ h1],show (ac b c).c=az b.c c.c from by rw[aQ h3],this]


structure TbC (w:World) (N o:Nat) (t:Tab) (A:Option Addr) (ca:Nat) (D:Option Addr) (cd:Nat):Prop where
 k0:w.cell? ⟨N,o,none⟩=some (S I t.c.c0)
 k1:w.cell? ⟨N,o+1,none⟩=some (S I t.c.c1)
 k2:w.cell? ⟨N,o+2,none⟩=some (S I t.c.c2)
 k3:w.cell? ⟨N,o+3,none⟩=some (S I t.c.c3)
 k4:w.cell? ⟨N,o+4,none⟩=some (Z A t.c.l.length ca)
 k5:w.cell? ⟨N,o+5,none⟩=some (Z D t.e.length cd)
theorem TbC.keep {w w':World} {N o:Nat} {t:Tab} {A:Option Addr} {ca:Nat} {D:Option Addr} {cd:Nat} (h:TbC w N o t A ca D cd) (hc:∀j,o≤j→j<o+6→w'.cell? ⟨N,j,none⟩=w.cell? ⟨N,j,none⟩):TbC w' N o t A ca D cd :=
 ⟨(hc o (by omega) (by omega)).trans h.k0,(hc (o+1) (by omega) (by omega)).trans h.k1,(hc (o+2) (by omega) (by omega)).trans h.k2,(hc (o+3) (by omega) (by omega)).trans h.k3,(hc (o+4) (by omega) (by omega)).trans h.k4,(hc (o+5) (by omega) (by omega)).trans h.k5⟩
def TbN (w:World) (N o:Nat) (P:Nat→Prop) (t:Tab):Prop:=∃A ca D cd,TbC w N o t A ca D cd∧TbP P w t A ca D cd
theorem TbN.mono {w:World} {N o:Nat} {P Q:Nat→Prop} {t:Tab} (h:TbN w N o P t) (k:∀b,P b→Q b):TbN w N o Q t:=by
 obtain ⟨A,ca,D,cd,h1,h2⟩:=h
 exact ⟨A,ca,D,cd,h1,h2.mono k⟩
theorem TbN.keep {w w':World} {N o:Nat} {P:Nat→Prop} {t:Tab} (h:TbN w N o P t) (hA:Agr P w w') (hc:∀j,o≤j→j<o+6→w'.cell? ⟨N,j,none⟩=w.cell? ⟨N,j,none⟩):TbN w' N o P t:=by
 obtain ⟨A,ca,D,cd,h1,h2⟩:=h
 exact ⟨A,ca,D,cd,h1.keep hc,h2.agr hA⟩
theorem TbN.ok {w:World} {N o:Nat} {P:Nat→Prop} {t:Tab} (h:TbN w N o P t):am t=0:=by
 obtain ⟨A,ca,D,cd,_,h2⟩:=h
 exact h2.ok
def Blo (w:World) (N O:Nat):Prop:=∃T n,Blk w N T n∧O+38≤n
section
variable {w w':World} {N O:Nat}
theorem Blo.lt (h:Blo w N O):N<w.heap.size:=by
 obtain ⟨_,_,h,_⟩:=h
 exact h.lt
theorem Blo.fz (h:Blo w N O) (j:Nat):w.frozen? ⟨N,j,none⟩=false:=by
 obtain ⟨_,_,h,_⟩:=h
 exact h.fz j
theorem Blo.some (h:Blo w N O) {j:Nat} (hj:j<O+38):∃v,w.cell? ⟨N,j,none⟩=some v:=by
 obtain ⟨_,_,h,k⟩:=h
 exact h.some (by omega)
theorem Wr.blo {lo hi:Nat} (h:Wr N lo hi w w') (hb:Blo w N O):Blo w' N O:=by
 obtain ⟨T,n,hb,k⟩:=hb
 exact ⟨T,n,h.block hb,k⟩
theorem Wr.celo {lo hi:Nat} (h:Wr N lo hi w w') (hb:Blo w N O) {j:Nat} (hj:j<lo∨hi≤j):w'.cell? ⟨N,j,none⟩=w.cell? ⟨N,j,none⟩:=by
 obtain ⟨_,_,hb,_⟩:=hb
 exact h.cell hb hj
end
structure Nm (w:World) (N O:Nat) (P:Nat→Prop) (id:Int) (s t:Tab) (qs:List (List Stp)) (i:Nat) (z y:List Zit):Prop where
 blk:Blo w N O
 out:¬P N
 up:∀b,P b→b<w.heap.size
 cid:w.cell? ⟨N,O,none⟩=some (S I id)
 ts:TbN w N (O+1) P s
 tt:TbN w N (O+7) P t
 cnt:w.cell? ⟨N,O+37,none⟩=some (S I (qs.length:Int))
 le:qs.length≤4
 vs:∀j (h:j<qs.length),VwN w N (O+13+j*6) P qs[j] (if j<i then ofR s else z) (if j<i then ofR t else y)
def Nd (w:World) (N O:Nat) (P:Nat→Prop) (id:Int) (s t:Tab) (qs:List (List Stp)):Prop:=Nm w N O P id s t qs 4 [] []
section
variable {w w':World} {N O:Nat} {P:Nat→Prop} {id:Int} {s t:Tab} {qs:List (List Stp)} {i:Nat} {z y:List Zit}
theorem Nm.keep (h:Nm w N O P id s t qs i z y) (hN:w'.heap[N]? = w.heap[N]?) (hA:Agr P w w'):Nm w' N O P id s t qs i z y:=by
 have hb:Blo w' N O:=by
  obtain ⟨T,n,⟨cur,hc,hs⟩,k⟩:=h.blk
  exact ⟨T,n,⟨cur,hN.trans hc,hs⟩,k⟩
 have hc:∀j,w'.cell? ⟨N,j,none⟩=w.cell? ⟨N,j,none⟩:=fun j=>World.cell?_of_block (a:=⟨N,j,none⟩) hN
 exact ⟨hb,h.out,fun b k=>nL (h.up b k) hA.size,(hc O).trans h.cid,h.ts.keep hA fun j _ _=>hc j,h.tt.keep hA fun j _ _=>hc j,(hc (O+37)).trans h.cnt,h.le,fun j hj=>(h.vs j hj).keep hA hb.lt hb.fz fun j _ _=>hc j⟩
theorem Nm.below (h:Nm w N O P id s t qs i z y) (k:Below w.heap.size w w'):Nm w' N O P id s t qs i z y:=h.keep (k.block N h.blk.lt) (Agr.of k)
theorem Nm.mono (h:Nm w N O P id s t qs i z y) {P':Nat→Prop} (k:∀b,P b→P' b) (h1:¬P' N) (h2:∀b,P' b→b<w.heap.size):Nm w N O P' id s t qs i z y :=
 ⟨h.blk,h1,h2,h.cid,h.ts.mono k,h.tt.mono k,h.cnt,h.le,fun j hj=>(h.vs j hj).mono k⟩
theorem Nd.keep (h:Nd w N O P id s t qs) (hN:w'.heap[N]? = w.heap[N]?) (hA:Agr P w w'):Nd w' N O P id s t qs:=Nm.keep h hN hA
theorem Nd.below (h:Nd w N O P id s t qs) (k:Below w.heap.size w w'):Nd w' N O P id s t qs:=Nm.below h k
theorem Nd.view (h:Nd w N O P id s t qs) {j:Nat} (hj:j<qs.length):VwN w N (O+13+j*6) P qs[j] (ofR s) (ofR t):=by
 have:=h.vs j hj
 have hl:=h.le
 rwa [if_pos (by omega),if_pos (by omega)] at this
theorem cX {m n:Nat} (h:¬P N) (hm:N<m):¬ag P m n N:=fun k=>k.elim h fun k=>by omega
theorem eN {m n:Nat} (h:∀b,P b→b<n):∀b,ag P m n b→b<n:=fun b k=>k.elim (h b) fun k=>k.2
end
end Go.Proofs.YtkefkplnamkicabGreatDoor
