/-
  A list of items of one's own, whose rows are one's own too: what an append of one more item leaves.
  Sets with weights: rows in order, how often each is there; two sets in which each row is as often are one.
  What zset.total's loops keep: rows in order, summed up one after another.
  The library's slices.SortFunc at items: where its functions and types stand in this program.
  slices.SortFunc at items: by their rows.
  slices.Grow of nothing, and slices.Concat, at items.
-/
import Derived.Test.YtkefkplnamkicaaGreatDoorM04
import Derived.Lib.AppendZeros
set_option maxRecDepth 100000
set_option maxHeartbeats 8000000
open Go.IntKind renaming i64 → O
open Go.Obj renaming cells → Z
open Go.Proofs.Tryz renaming prog → I
open Go.Value renaming slice → V, int → J, agg → H
namespace Go.Proofs.YtkefkplnamkicaaGreatDoor
open Go.RowKit Go.Sort

theorem Tryz.infoT:(Tryz.prog.info? 101).map (fun i=>(i.zero,i.size,i.bytes))=some (some (H #[V none 0 0,J O 0]),2,32):=by kernel_rfl

structure Apart (w:World) (base:Nat) (ob:Option Nat) (x:Itm):Prop where
 row:ay w x.p x.r
 len:x.r.length≤maxLen
 nil:x.p=none→x.c=0
 own:∀a,x.p=some a→base≤a.block∧a.block<w.heap.size∧ob≠some a.block
structure OwnT (w:World) (base:Nat) (v:Value) (l:List Itm):Prop where
 own:af aQ 2 101 w base v l
 each:∀x∈l,Apart w base v.ownBlock x
def jf (n:Nat) (C:Option Addr) (L:List Itm):Prop:=(∀a,C=some a→n≤a.block)∧∀x∈L,∀a,x.p=some a→n≤a.block
theorem jf.none (n:Nat):jf n none []:=⟨fun a h=>(by cases h),fun x hx=>(by cases hx)⟩
theorem jf.mono {n m:Nat} {C:Option Addr} {L:List Itm} (h:jf n C L) (hm:m≤n):jf m C L:=⟨fun a ha=>nT hm (h.1 a ha),fun x hx a ha=>nT hm (h.2 x hx a ha)⟩
def eY (w:World) (A:Option Addr) (c:Nat):Prop:=∀a,A=some a→a.off=0∧a.spot=none∧∃cur,w.heap[a.block]? = some (Z cur 3 (0,0))∧c≤cur.size∧c≤maxLen
def fM (w:World) (A:Option Addr) (c:Nat):Prop:=∀a,A=some a→a.off=0∧a.spot=none∧∃cur,w.heap[a.block]? = some (Z cur 101 (0,0))∧c*2≤cur.size∧c≤maxLen
def eZ (w:World) (L:List Itm):Prop:=∀x∈L,eY w x.p x.c∧x.r.length≤x.c
theorem eY.lt {w:World} {A:Option Addr} {c:Nat} (h:eY w A c):∀a,A=some a→a.block<w.heap.size:=fun a ha=>by
 obtain ⟨_,_,cur,hc,_⟩:=h a ha
 exact (Array.getElem?_eq_some_iff.1 hc).1
theorem fM.lt {w:World} {A:Option Addr} {c:Nat} (h:fM w A c):∀a,A=some a→a.block<w.heap.size:=fun a ha=>by
 obtain ⟨_,_,cur,hc,_⟩:=h a ha
 exact (Array.getElem?_eq_some_iff.1 hc).1
theorem eY.block {w w':World} {A:Option Addr} {c:Nat} (h:eY w A c) (k:∀a,A=some a→w'.heap[a.block]? = w.heap[a.block]?):eY w' A c:=fun a ha=>by
 obtain ⟨h1,h2,cur,hc,h3⟩:=h a ha
 exact ⟨h1,h2,cur,(k a ha).trans hc,h3⟩
theorem fM.block {w w':World} {A:Option Addr} {c:Nat} (h:fM w A c) (k:∀a,A=some a→w'.heap[a.block]? = w.heap[a.block]?):fM w' A c:=fun a ha=>by
 obtain ⟨h1,h2,cur,hc,h3⟩:=h a ha
 exact ⟨h1,h2,cur,(k a ha).trans hc,h3⟩
theorem eY.below {w w':World} {A:Option Addr} {c:Nat} (h:eY w A c) (q:Below w.heap.size w w'):eY w' A c:=h.block fun a ha=>q.block _ (h.lt a ha)
theorem fM.below {w w':World} {A:Option Addr} {c:Nat} (h:fM w A c) (q:Below w.heap.size w w'):fM w' A c:=h.block fun a ha=>q.block _ (h.lt a ha)
theorem eZ.below {w w':World} {L:List Itm} (h:eZ w L) (q:Below w.heap.size w w'):eZ w' L:=fun x hx=>⟨(h x hx).1.below q,(h x hx).2⟩
theorem eY.grown {w w':World} {A:Option Addr} {c:Nat} {row:Option Nat} (h:eY w A c) (q:w.grownBy w' row) (hne:∀g,row=some g→∃cur T,w.heap[g]? = some (Z cur T (0,0))∧T≠3):eY w' A c:=h.block fun a ha=>q.block _ (h.lt a ha) fun e=>by
 obtain ⟨_,_,cur,hc,_⟩:=h a ha
 obtain ⟨cur',T,hc',hT⟩:=hne _ e.symm
 rw[hc] at hc'
 injection hc' with hc'
 injection hc' with _ h2
 exact hT h2.symm
theorem fM.grown {w w':World} {A:Option Addr} {c:Nat} {row:Option Nat} (h:fM w A c) (q:w.grownBy w' row) (hne:∀g,row=some g→∃cur T,w.heap[g]? = some (Z cur T (0,0))∧T≠101):fM w' A c:=h.block fun a ha=>q.block _ (h.lt a ha) fun e=>by
 obtain ⟨_,_,cur,hc,_⟩:=h a ha
 obtain ⟨cur',T,hc',hT⟩:=hne _ e.symm
 rw[hc] at hc'
 injection hc' with hc'
 injection hc' with _ h2
 exact hT h2.symm
theorem eZ.grown {w w':World} {L:List Itm} {row:Option Nat} (h:eZ w L) (q:w.grownBy w' row) (hne:∀g,row=some g→∃cur T,w.heap[g]? = some (Z cur T (0,0))∧T≠3):eZ w' L:=fun x hx=>⟨(h x hx).1.grown q hne,(h x hx).2⟩
theorem af.typed {α : Type} {enc: α → List Value} {k:Nat} {e:TypeId} {w:World} {base:Nat} {v:Value} {l:List α} (h:af enc k e w base v l) {E:TypeId} (hE:e≠E):∀g,v.ownBlock=some g→∃cur T,w.heap[g]? = some (Z cur T (0,0))∧T≠E:=by
 intro g hg
 rcases h.2 with ⟨hv,_⟩|⟨g',cap,cur,hv,_,hc,_⟩
 ·rw[hv] at hg;cases hg
 ·rw[hv] at hg
  obtain rfl:=sI hg
  exact ⟨cur,e,hc,hE⟩
theorem af.roomA {w:World} {base:Nat} {A:Option Addr} {n cap:Nat} {l:List Itm} (h:af aQ 2 101 w base (V A n cap) l):fM w A cap:=by
 intro a ha
 rcases h.2 with ⟨hv,_⟩|⟨g',cap',cur,hv,_,hc,_,hm,hs,_⟩
 ·rw[ha] at hv;injection hv with h1;cases h1
 ·rw[ha] at hv
  injection hv with h1 _ h3
  injection h1 with h1
  subst h1 h3
  exact ⟨rfl,rfl,cur,hc,by omega,hm⟩
theorem af.roomI {w:World} {base:Nat} {A:Option Addr} {n cap:Nat} {l:List Int} (h:af fp 1 3 w base (V A n cap) l):eY w A cap:=by
 intro a ha
 rcases h.2 with ⟨hv,_⟩|⟨g',cap',cur,hv,_,hc,_,hm,hs,_⟩
 ·rw[ha] at hv;injection hv with h1;cases h1
 ·rw[ha] at hv
  injection hv with h1 _ h3
  injection h1 with h1
  subst h1 h3
  exact ⟨rfl,rfl,cur,hc,by omega,hm⟩
structure NwT (w:World) (k n:Nat) (C:Option Addr) (L:List Itm):Prop where
 new:jf n C L
 arr:fM w C k
 rows:eZ w L
theorem NwT.none (w:World) (n:Nat):NwT w 0 n none []:=⟨jf.none n,fun a h=>(by cases h),fun x hx=>(by cases hx)⟩
theorem NwT.mono {w:World} {k n m:Nat} {C:Option Addr} {L:List Itm} (h:NwT w k n C L) (hm:m≤n):NwT w k m C L:=⟨h.new.mono hm,h.arr,h.rows⟩
theorem NwT.below {w w':World} {k n:Nat} {C:Option Addr} {L:List Itm} (h:NwT w k n C L) (q:Below w.heap.size w w'):NwT w' k n C L:=⟨h.new,h.arr.below q,h.rows.below q⟩
theorem OwnT.nil (w:World) (base:Nat):OwnT w base (V none 0 0) []:=⟨af.nil _ _ _ _ _,fun x hx=>by cases hx⟩
theorem Apart.below {w w':World} {base:Nat} {ob:Option Nat} {x:Itm} (h:Apart w base ob x) (q:Below w.heap.size w w'):Apart w' base ob x :=
 ⟨h.row.below q,h.len,h.nil,fun a ha=>⟨(h.own a ha).1,nL (h.own a ha).2.1 q.size,(h.own a ha).2.2⟩⟩
theorem OwnT.below {w w':World} {base:Nat} {v:Value} {l:List Itm} (h:OwnT w base v l) (q:Below w.heap.size w w'):OwnT w' base v l:=⟨h.own.below q,fun x hx=>(h.each x hx).below q⟩
theorem OwnT.gr {w w':World} {base:Nat} {v:Value} {l:List Itm} (h:OwnT w base v l) (q:Gr w w'):OwnT w' base v l:=h.below q.below
theorem OwnT.items {w:World} {base:Nat} {v:Value} {l:List Itm} (h:OwnT w base v l):∃A cap,v= V A l.length cap∧dx A l.length cap∧Items w A l∧(∀a,A=some a→base≤a.block∧a.block<w.heap.size):=by
 obtain ⟨A,cap,hv,hA,hr,hc,ha,_⟩:=af.full bL h.own
 exact ⟨A,cap,hv,dx.mk hA hc,⟨hr,fun x hx=>⟨(h.each x hx).row,(h.each x hx).len,(h.each x hx).nil⟩⟩,fun a e=>⟨(ha a e).1,(ha a e).2.1⟩⟩
theorem Apart.grown {w w':World} {base:Nat} {ob ob':Option Nat} {x:Itm} (h:Apart w base ob x) (q:w.grownBy w' ob) (hob:ob'=ob∨ob'=some w.heap.size):Apart w' base ob' x:=by
 refine ⟨?_,h.len,h.nil,fun a ha=>⟨(h.own a ha).1,nL (h.own a ha).2.1 q.size,?_⟩⟩
 ·rcases h.row with k|⟨b,off,hp,hb,hc⟩
  ·exact oL k
  ·refine oR ⟨b,off,hp,nL hb q.size,fun j hj i hi=> ?_⟩
   have hne:=(h.own _ hp).2.2
   rw[World.cell?_of_block (a:=⟨b,off+j*1+i,none⟩) (q.block b hb fun e=>hne e.symm)]
   exact hc j hj i hi
 ·rcases hob with e|e
  ·rw[e];exact (h.own a ha).2.2
  ·rw[e]
   intro k
   injection k with k
   have:=(h.own a ha).2.1
   omega
theorem gL (w:World) (ty:TypeId) (base:Nat) (v:Value) (l:List Itm) (x:Itm) (A:Addr) (cap:Nat) (hown:OwnT w base v l) (hr:au aQ 2 w (some A) [x]) (hx:Apart w base v.ownBlock x)
  (hml:l.length+1≤maxLen) (hb:(l.length+1)*32≤140737488355328) (hbase:base≤w.heap.size) :
  ∃v' w',(Builtin.append_ #[58,58] ty #[v,V (some A) 1 cap]).run I w= .ok v' w'∧OwnT w' base v' (l++[x])∧Below base w w'∧w.grownBy w' v.ownBlock:=by
 obtain ⟨i0,hi,hz0,hz1,hz2⟩:=info_parts Tryz.infoT
 obtain ⟨v',w',g1,g2,g3,_,g5⟩:=run_append_own_at (P:=I) w base 58 ty 101 i0 (H #[V none 0 0,J O 0]) 2 32 Tryz.underlying58 hi hz0 hz1 hz2 rfl (by omega) v l.length (aI aQ l) hown.own A 1 cap (aI aQ [x]) (bi bL [x]) (hr.cells bL (by omega)) (fun u hu=>dq fT u [x] hu) hml hb hbase
 refine ⟨v',w',g1,⟨?_,fun y hy=> ?_⟩,af.grown_below hown.own g3 hbase,g3⟩
 ·show w'.ownsRow base _ 2 v' (l++[x]).length (aI aQ (l++[x]))
  rw[List.length_append,cg]
  exact g2
 ·rcases List.mem_append.1 hy with k|k
  ·exact (hown.each y k).grown g3 g5
  ·have:y=x:=by simpa using k
   subst this
   exact hx.grown g3 g5
theorem eX (w:World) {ops:Array Oper} {rest:List Oper} {o:Oper} {a:Act} {Q:Exit→Act→World→Prop} (hgd:o.guard=none) (s z:Operand)
  (ho:o.op= .call { callee:= .builtin .append,args:= #[s,z],argTypes:= #[58,58] })
  (base:Nat) (v:Value) (l:List Itm) (x:Itm) (A:Addr) (cap:Nat) (hs:a.eval s=v) (hz:a.eval z= V (some A) 1 cap) (hown:OwnT w base v l) (hr:au aQ 2 w (some A) [x]) (hx:Apart w base v.ownBlock x)
  (hml:l.length+1≤maxLen) (hb:(l.length+1)*32≤140737488355328) (hbase:base≤w.heap.size)
  (h:∀v' w',OwnT w' base v' (l++[x])→Below base w w'→wpList I ops Q rest (a.put o.dst v') w'):wpList I ops Q (o::rest) a w :=
 wpList_plain hgd fun _ hK=>by
  obtain ⟨v',w',hr,h2,h3,_⟩:=gL w o.type base v l x A cap hown hr hx hml hb hbase
  unfold Oper.wp execOp
  simp only[ho,resolve,invoke,builtin,Sem.run_bind,Sem.run_pure,Result.andThen_ok,List.map_toArray,List.map_cons,List.map_nil,hs,hz,hr]
  exact hK _ _ (h v' w' h2 h3)
theorem kT (w:World) {ops:Array Oper} {rest:List Oper} {o:Oper} {a:Act} {Q:Exit→Act→World→Prop} (hgd:o.guard=none) (s z:Operand)
  (ho:o.op= .call { callee:= .builtin .append,args:= #[s,z],argTypes:= #[58,58] })
  (base:Nat) (v:Value) (l:List Itm) (x:Itm) (A:Addr) (cap:Nat) (hs:a.eval s=v) (hz:a.eval z= V (some A) 1 cap) (hown:OwnT w base v l) (hr:au aQ 2 w (some A) [x]) (hx:Apart w base v.ownBlock x)
  (hml:l.length+1≤maxLen) (hb:(l.length+1)*32≤140737488355328) (hbase:base≤w.heap.size)
  (h:∀v' w',OwnT w' base v' (l++[x])→Below base w w'→w.grownBy w' v.ownBlock→wpList I ops Q rest (a.put o.dst v') w'):wpList I ops Q (o::rest) a w :=
 wpList_plain hgd fun _ hK=>by
  obtain ⟨v',w',hr,h2,h3,h4⟩:=gL w o.type base v l x A cap hown hr hx hml hb hbase
  unfold Oper.wp execOp
  simp only[ho,resolve,invoke,builtin,Sem.run_bind,Sem.run_pure,Result.andThen_ok,List.map_toArray,List.map_cons,List.map_nil,hs,hz,hr]
  exact hK _ _ (h v' w' h2 h3 h4)
theorem jc (w:World) {ops:Array Oper} {o:Oper} {a:Act} {K:Act→World→Prop} {Q:Exit→Act→World→Prop} {E:Prop} (hgd:o.guard=none) (s z:Operand)
  (ho:o.op= .call { callee:= .builtin .append,args:= #[s,z],argTypes:= #[58,58] })
  (base:Nat) (v:Value) (l:List Itm) (x:Itm) (A:Addr) (cap:Nat) (hs:a.eval s=v) (hz:a.eval z= V (some A) 1 cap) (hown:OwnT w base v l) (hr:au aQ 2 w (some A) [x]) (hx:Apart w base v.ownBlock x)
  (hml:l.length+1≤maxLen) (hb:(l.length+1)*32≤140737488355328) (hbase:base≤w.heap.size)
  (h:∀v' w',OwnT w' base v' (l++[x])→Below base w w'→w.grownBy w' v.ownBlock→K (a.put o.dst v') w') :
  if Region.wanted o (yielded ops a.tmps)=true then Oper.wp I o a w K Q else E:=by
 have hw:Region.wanted o (yielded ops a.tmps)=true:=by simp[Region.wanted,hgd]
 rw[if_pos hw]
 obtain ⟨v',w',hr,h2,h3,h4⟩:=gL w o.type base v l x A cap hown hr hx hml hb hbase
 unfold Oper.wp execOp
 simp only[ho,resolve,invoke,builtin,Sem.run_bind,Sem.run_pure,Result.andThen_ok,List.map_toArray,List.map_cons,List.map_nil,hs,hz,hr]
 exact h v' w' h2 h3 h4

structure Lv (W:World) (A:Option Addr) (c:Nat) (l:List Itm):Prop where
 items:Items W A l
 nilc:dx A l.length c
 len:l.length≤maxLen
theorem Lv.nil {W:World} {A:Option Addr} {c:Nat} {l:List Itm} (h:Lv W A c l):A=none→c=0:=h.nilc.z
theorem Lv.below {W W':World} {A:Option Addr} {c:Nat} {l:List Itm} (h:Lv W A c l) (q:Below W.heap.size W W'):Lv W' A c l:=⟨h.items.below q,h.nilc,h.len⟩
theorem Lv.gr {W W':World} {A:Option Addr} {c:Nat} {l:List Itm} (h:Lv W A c l) (q:Gr W W'):Lv W' A c l:=h.below q.below

end Go.Proofs.YtkefkplnamkicaaGreatDoor

namespace Go.Proofs.YtkefkplnamkicaaGreatDoor

theorem dg (x y:Int):(bv x y= -1∧x<y)∨(bv x y=0∧x=y)∨(bv x y=1∧y<x):=by
 unfold bv
 by_cases h:x<y
 ·rw[if_pos h];exact oL ⟨rfl,h⟩
 ·rw[if_neg h]
  by_cases k:y<x
  ·rw[if_pos k];exact oR (oR ⟨rfl,k⟩)
  ·rw[if_neg k];exact oR (oL ⟨rfl,by omega⟩)
theorem dS:∀a b:List Int,aF b a= -aF a b
 | [],[]=>rfl
 | [],_::_=>rfl
 | _::_,[]=>rfl
 | x::a,y::b=>by
  have h1:=dg x y
  have h2:=dg y x
  show (if bv y x=0 then aF b a else bv y x)= -(if bv x y=0 then aF a b else bv x y)
  by_cases e:x=y
  ·subst e
   have:bv x x=0:=by omega
   rw[if_pos this,if_pos this];exact dS a b
  ·rw[if_neg (by omega),if_neg (by omega)];omega
theorem iJ:∀a:List Int,aF a a=0
 | []=>rfl
 | x::a=>by
  have h1:=dg x x
  show (if bv x x=0 then aF a a else bv x x)=0
  rw[if_pos (by omega)];exact iJ a
theorem jG:∀a b:List Int,aF a b=0→a=b
 | [],[],_=>rfl
 | [],_::_,h=>by cases h
 | _::_,[],h=>by cases h
 | x::a,y::b,h=>by
  have h1:=dg x y
  have h':(if bv x y=0 then aF a b else bv x y)=0:=h
  by_cases e:bv x y=0
  ·rw[if_pos e] at h'
   obtain rfl:x=y:=by omega
   rw[jG a b h']
  ·rw[if_neg e] at h';exact absurd h' e
theorem gy:∀a b c:List Int,aF a b≤0→aF b c≤0→aF a c≤0∧(aF a b<0∨aF b c<0→aF a c<0)
 | [],b,[],h1,h2=>by
  cases b with
  | nil=>exact ⟨by decide,fun h=>by rcases h with h|h<;>cases h⟩
  | cons=>exact absurd h2 (by show ¬((1:Int)≤0);decide)
 | [],_,_::_,_,_=>⟨by show (-1:Int)≤0;decide,fun _=>by show (-1:Int)<0;decide⟩
 | _::_,[],_,h,_=>absurd h (by show ¬((1:Int)≤0);decide)
 | _::_,_::_,[],_,h=>absurd h (by show ¬((1:Int)≤0);decide)
 | x::a,y::b,z::c,h1,h2=>by
  have k1:=dg x y
  have k2:=dg y z
  have k3:=dg x z
  have h1':(if bv x y=0 then aF a b else bv x y)≤0:=h1
  have h2':(if bv y z=0 then aF b c else bv y z)≤0:=h2
  show (if bv x z=0 then aF a c else bv x z)≤0∧((if bv x y=0 then aF a b else bv x y)<0∨(if bv y z=0 then aF b c else bv y z)<0→(if bv x z=0 then aF a c else bv x z)<0)
  by_cases e1:bv x y=0
  ·rw[if_pos e1] at h1' ⊢
   by_cases e2:bv y z=0
   ·rw[if_pos e2] at h2' ⊢
    rw[if_pos (by omega)]
    exact gy a b c h1' h2'
   ·rw[if_neg e2] at h2' ⊢
    rw[if_neg (by omega)]
    exact ⟨by omega,fun _=>by omega⟩
  ·rw[if_neg e1] at h1' ⊢
   have e3:bv y z=0∨bv y z= -1:=by
    by_cases e2:bv y z=0
    ·exact oL e2
    ·rw[if_neg e2] at h2';omega
   rw[if_neg (by omega)]
   exact ⟨by omega,fun _=>by omega⟩
theorem cI {a b c:List Int} (h1:aF a b<0) (h2:aF b c<0):aF a c<0:=(gy a b c (by omega) (by omega)).2 (oL h1)
theorem fv {a b:List Int} (h:aF a b<0):a≠b:=fun e=>by rw[e,iJ] at h;omega

def wt:List Zit→List Int→Int
 | [],_=>0
 | x::t,r=>(if x.1=r then x.2 else 0)+wt t r
theorem cF (a b:List Zit) (r:List Int):wt (a++b) r=wt a r+wt b r:=by
 induction a with
 | nil=>simp[wt]
 | cons x a ih=>simp only[List.cons_append,wt,ih];omega
theorem uf {a b:List Zit} (h:a.Perm b) (r:List Int):wt a r=wt b r:=by
 induction h with
 | nil=>rfl
 | cons x _ ih=>simp only[wt,ih]
 | swap x y l=>simp only[wt];omega
 | trans _ _ h1 h2=>rw[h1,h2]
theorem iZ {l:List Zit} {r:List Int} (h:∀x∈l,x.1≠r):wt l r=0:=by
 induction l with
 | nil=>rfl
 | cons x l ih =>
  simp only[wt]
  rw[if_neg (h x (by simp)),ih fun y hy=>h y (by simp[hy])];rfl
theorem qj {l:List Zit} {r:List Int} (h:wt l r≠0):∃x∈l,x.1=r:=by
 induction l with
 | nil=>exact absurd rfl h
 | cons x l ih =>
  by_cases e:x.1=r
  ·exact ⟨x,by simp,e⟩
  ·simp only[wt] at h
   rw[if_neg e] at h
   obtain ⟨y,hy,hr⟩:=ih (by omega)
   exact ⟨y,by simp[hy],hr⟩
theorem yz (l:List Zit) (r:List Int):wt (l.map fun x=>(x.1,-x.2)) r= -wt l r:=by
 induction l with
 | nil=>rfl
 | cons x l ih =>
  simp only[List.map_cons,wt,ih]
  by_cases e:x.1=r
  ·rw[if_pos e,if_pos e];omega
  ·rw[if_neg e,if_neg e];omega

def eO (l:List Zit):Prop:=l.Pairwise fun x y=>aF x.1 y.1<0
def NoZ (l:List Zit):Prop:=∀x∈l,x.2≠0
theorem eO.wt {l:List Zit} (h:eO l) {x:Zit} (hx:x∈l):wt l x.1=x.2:=by
 induction l with
 | nil=>cases hx
 | cons y l ih =>
  have h':=List.pairwise_cons.1 h
  simp only[Go.Proofs.YtkefkplnamkicaaGreatDoor.wt]
  rcases List.mem_cons.1 hx with e|e
  ·subst e
   rw[if_pos rfl,iZ fun z hz k=>fv (h'.1 z hz) k.symm];omega
  ·rw[if_neg (fv (h'.1 x e)),ih h'.2 e];omega
theorem pd:∀ {a b:List Zit},eO a→eO b→NoZ a→NoZ b→(∀r,wt a r=wt b r)→a=b
 | [],[],_,_,_,_,_=>rfl
 | [],y::b,_,hb,_,nb,h=>by
  have h1:=h y.1
  rw[hb.wt (List.mem_cons_self ..)] at h1
  exact absurd h1.symm (nb y (mS ..))
 | x::a,[],ha,_,na,_,h=>by
  have h1:=h x.1
  rw[ha.wt (List.mem_cons_self ..)] at h1
  exact absurd h1 (na x (mS ..))
 | x::a,y::b,ha,hb,na,nb,h=>by
  have ha':=List.pairwise_cons.1 ha
  have hb':=List.pairwise_cons.1 hb
  have hx:=h x.1
  have hy:=h y.1
  rw[ha.wt (List.mem_cons_self ..)] at hx
  rw[hb.wt (List.mem_cons_self ..)] at hy
  have e:aF x.1 y.1=0:=by
   by_cases l1:aF x.1 y.1<0
   ·exfalso
    refine na x (mS ..) (hx.trans (iZ fun z hz k=> ?_))
    rcases List.mem_cons.1 hz with e|e
    ·subst e;exact fv l1 k.symm
    ·exact fv (cI l1 (hb'.1 z e)) k.symm
   ·by_cases l2:aF y.1 x.1<0
    ·exfalso
     refine nb y (mS ..) (hy.symm.trans (iZ fun z hz k=> ?_))
     rcases List.mem_cons.1 hz with e|e
     ·subst e;exact fv l2 k.symm
     ·exact fv (cI l2 (ha'.1 z e)) k.symm
    ·have:=dS x.1 y.1;omega
  have e1:=jG _ _ e
  have e2:x.2=y.2:=by rw[hx,e1,hb.wt (List.mem_cons_self ..)]
  obtain rfl:x=y:=Prod.ext e1 e2
  rw[pd ha'.2 hb'.2 (fun z hz=>na z (List.mem_cons_of_mem _ hz)) (fun z hz=>nb z (List.mem_cons_of_mem _ hz)) fun r=>by
   have:=h r
   simp only[Go.Proofs.YtkefkplnamkicaaGreatDoor.wt] at this
   omega]

theorem iM {l:List Zit} {k:Nat} (h:k<l.length):l.getD k ([],0)=l[k]:=by
 rw[List.getD_eq_getElem?_getD,List.getElem?_eq_getElem h];rfl
theorem bI (l:List Zit):ax l=0↔l.length≤400∧(∀x∈l,okZ x=true)∧eO l:=by
 unfold ax
 by_cases h4:400<l.length
 ·rw[if_pos h4]
  exact ⟨fun h=>absurd h (by decide),fun h=>absurd h.1 (by omega)⟩
 ·rw[if_neg h4]
  constructor
  ·intro h
   have hall:∀k,k<l.length→okZ (l.getD k ([],0))=true∧jN l k=true:=by
    intro k hk
    have:(okZ (l.getD k ([],0)) && jN l k)=true:=by
     cases e:(okZ (l.getD k ([],0)) && jN l k)
     ·rw[if_pos ⟨k,hk,e⟩] at h;cases h
     ·rfl
    simpa using this
   have hstep:∀k (h:k+1<l.length),aF l[k].1 l[k+1].1<0:=by
    intro k hk
    have:=(hall (k+1) hk).2
    unfold jN at this
    rw[Nat.add_sub_cancel,iM hk,iM (show k<l.length by omega)] at this
    simpa using this
   refine ⟨by omega,?_,?_⟩
   ·intro x hx
    obtain ⟨k,hk,rfl⟩:=List.mem_iff_getElem.1 hx
    have:=(hall k hk).1
    rwa [iM hk] at this
   ·have:∀d i (hi:i+d+1<l.length),aF (l[i]'(by omega)).1 (l[i+d+1]'hi).1<0:=by
     intro d
     induction d with
     | zero=>intro i hi;exact hstep i hi
     | succ d ih=>intro i hi;exact cI (ih i (by omega)) (hstep (i+d+1) hi)
    unfold eO
    rw[List.pairwise_iff_getElem]
    intro i j hi hj hij
    have h':=this (j-i-1) i (by omega)
    have e:i+(j-i-1)+1=j:=by omega
    simpa only[e] using h'
  ·rintro ⟨_,h1,h2⟩
   rw[if_neg]
   rintro ⟨k,hk,hf⟩
   have h3:okZ (l.getD k ([],0))=true:=by rw[iM hk];exact h1 _ (gM hk)
   have h5:jN l k=true:=by
    unfold jN
    by_cases e:k=0
    ·simp[e]
    ·rw[iM hk,iM (show k-1<l.length by omega)]
     have:=(List.pairwise_iff_getElem.1 h2) (k-1) k (by omega) hk (by omega)
     simp[this]
   rw[h3,h5] at hf;cases hf

def px (l:List Zit):Prop:=∃r,okW (wt l r)=false
structure IsTot (l S:List Zit):Prop where
 rise:eO S
 noz:NoZ S
 same:∀r,wt S r=wt l r
theorem IsTot.uniq {l m S T:List Zit} (h:IsTot l S) (k:IsTot m T) (e:∀r,wt l r=wt m r):S=T:=pd h.rise k.rise h.noz k.noz fun r=>by rw[h.same,k.same,e]
theorem tU {l:List Zit} (h:∀x∈l,okZ x=true):NoZ l:=fun x hx=>by
 have:=h x hx
 unfold okZ at this
 simp at this
 exact this.2
theorem IsTot.row {l S:List Zit} (h:IsTot l S) {x:Zit} (hx:x∈S):∃y∈l,y.1=x.1:=qj (by rw[←h.same,h.rise.wt hx];exact h.noz x hx)
theorem IsTot.okZ {l S:List Zit} (h:IsTot l S) (hb:¬px l) (hr:∀x∈l,okR x.1=true):∀x∈S,okZ x=true:=by
 intro x hx
 obtain ⟨y,hy,e⟩:=h.row hx
 have h1:=hr y hy
 have h2:okW x.2=true:=by
  cases e2:okW x.2
  ·exact absurd ⟨x.1,by rw[←h.same,h.rise.wt hx];exact e2⟩ hb
  ·rfl
 unfold Go.Proofs.YtkefkplnamkicaaGreatDoor.okZ
 rw[←e,h1,h2]
 simp[h.noz x hx]
theorem bT {x:Zit} (h:okZ x=true):okR x.1=true∧okW x.2=true∧x.2≠0:=by
 unfold okZ at h
 simp only[Bool.and_eq_true,decide_eq_true_eq] at h
 exact ⟨h.1.1,h.1.2,h.2⟩
theorem zy (n:Int):okW (-n)=okW n:=by
 unfold okW inB
 rw[Bool.eq_iff_iff]
 simp only[Bool.and_eq_true,decide_eq_true_eq]
 omega
theorem zu {l:List Zit} (h:ax l=0):ax (l.map fun x=>(x.1,-x.2))=0:=by
 rw[bI] at h ⊢
 refine ⟨by simpa using h.1,?_,?_⟩
 ·intro x hx
  obtain ⟨y,hy,rfl⟩:=List.mem_map.1 hx
  have:=bT (h.2.1 y hy)
  unfold okZ
  simp only[Bool.and_eq_true,decide_eq_true_eq]
  exact ⟨⟨this.1,by rw[zy];exact this.2.1⟩,by omega⟩
 ·unfold eO
  rw[List.pairwise_map]
  exact h.2.2

end Go.Proofs.YtkefkplnamkicaaGreatDoor

namespace Go.Proofs.YtkefkplnamkicaaGreatDoor

def eW (S:List Zit):Prop:=S.Pairwise fun x y=>aF x.1 y.1≤0
structure Upto (S:List Zit) (i:Nat) (L:List Zit):Prop where
 tot:IsTot (S.take i) L
 len:L.length≤i
 part:∀x∈S.take i,∀y∈S.drop i,aF x.1 y.1<0
 good:∀r,okW (wt (S.take i) r)=true
theorem Upto.zero (S:List Zit):Upto S 0 []:=⟨⟨List.Pairwise.nil,fun x hx=>(by cases hx),fun r=>rfl⟩,by simp,fun x hx=>by simp at hx,fun r=>by simp[wt,okW,inB]⟩
theorem Upto.done {S L:List Zit} {i:Nat} (h:Upto S i L) (hi:S.length≤i):IsTot S L∧¬px S:=by
 have e:S.take i=S:=List.take_of_length_le hi
 refine ⟨by have:=h.tot;rwa [e] at this,?_⟩
 rintro ⟨r,hr⟩
 have:=h.good r
 rw[e,hr] at this;cases this
theorem yy {l:List Zit} (h:∀x∈l,okW x.2=true) (r:List Int): -((l.length:Int)*1048576)≤wt l r∧wt l r≤(l.length:Int)*1048576:=by
 induction l with
 | nil=>simp[wt]
 | cons x l ih =>
  have h1:=ih fun y hy=>h y (mC _ hy)
  have h2:=h x (mS ..)
  simp only[okW,inB,Bool.and_eq_true,decide_eq_true_eq] at h2
  simp only[wt,List.length_cons]
  by_cases e:x.1=r
  ·rw[if_pos e];omega
  ·rw[if_neg e];omega
theorem qk {S:List Zit} {k:Nat} (hk:k<S.length) (r:List Int):wt (S.take (k+1)) r=wt (S.take k) r+if S[k].1=r then S[k].2 else 0:=by
 rw[List.take_succ_eq_append_getElem hk,cF]
 simp[wt]
def Run (S:List Zit) (row:List Int) (i j:Nat):Prop:=∀m (_:m<S.length),i≤m→m<j→S[m].1=row
theorem Run.seg {S:List Zit} {row:List Int} {i j:Nat} (h:Run S row i j):∀x∈(S.take j).drop i,x.1=row:=by
 intro x hx
 obtain ⟨k,hk,rfl⟩:=List.mem_iff_getElem.1 hx
 simp only[List.length_drop,List.length_take] at hk
 rw[List.getElem_drop,List.getElem_take]
 exact h _ (by omega) (by omega) (by omega)
theorem Run.split {S:List Zit} {i j:Nat} (hij:i≤j):S.take j=S.take i++(S.take j).drop i:=by
 conv=>lhs;rw[←List.take_append_drop i (S.take j)]
 rw[List.take_take,Nat.min_eq_left hij]
theorem Run.other {S:List Zit} {row:List Int} {i j:Nat} (h:Run S row i j) (hij:i≤j) {r:List Int} (hr:r≠row):wt (S.take j) r=wt (S.take i) r:=by
 rw[Run.split hij,cF,iZ (l:=(S.take j).drop i) fun x hx e=>hr (by rw[←e];exact h.seg x hx)];omega
theorem Upto.first {S L:List Zit} {i:Nat} (h:Upto S i L) (hi:i<S.length):wt (S.take i) S[i].1=0 :=
 iZ fun x hx e=>fv (h.part x hx S[i] (by rw[List.drop_eq_getElem_cons hi];exact mS ..)) e
theorem after {S:List Zit} {row:List Int} {j:Nat} (hs:eW S) (i:Nat) (hi:i<S.length) (hij:i<j) (hrow:S[i].1=row) (hj:∀(h:j<S.length),aF row S[j].1≠0):∀x∈S.drop j,aF row x.1<0:=by
 intro x hx
 obtain ⟨k,hk,rfl⟩:=List.mem_iff_getElem.1 hx
 simp only[List.length_drop] at hk
 rw[List.getElem_drop]
 have hp:=List.pairwise_iff_getElem.1 hs
 have h1:aF S[i].1 S[j].1≤0:=hp i j hi (by omega) hij
 rw[hrow] at h1
 have h2:=hj (by omega)
 by_cases e:k=0
 ·subst e;simp only[Nat.add_zero];omega
 ·have h3:aF S[j].1 S[j+k].1≤0:=hp j (j+k) (by omega) (by omega) (by omega)
  exact (gy _ _ _ h1 h3).2 (oL (by omega))
theorem zL {S:List Zit} {i j:Nat} (hs:eW S) (hi:i<S.length) (hij:i<j) (hj:∀(h:j<S.length),aF S[i].1 S[j].1≠0) (hb:okW (wt (S.take j) S[i].1)=false):px S:=by
 refine ⟨S[i].1,?_⟩
 have h1:wt S S[i].1=wt (S.take j) S[i].1:=by
  have h2:=cF (S.take j) (S.drop j) S[i].1
  rw[List.take_append_drop,iZ (l:=S.drop j) fun x hx e=>fv (after hs i hi hij rfl hj x hx) e.symm] at h2;omega
 rw[h1];exact hb
theorem rx {S L:List Zit} {i j:Nat} (hs:eW S) (h:Upto S i L) (hi:i<S.length) (hij:i<j) (hr:Run S S[i].1 i j) (hj:∀(h:j<S.length),aF S[i].1 S[j].1≠0):∀x∈S.take j,∀y∈S.drop j,aF x.1 y.1<0:=by
 intro x hx y hy
 rw[Run.split (Nat.le_of_lt hij)] at hx
 have h1:=after hs i hi hij rfl hj y hy
 rcases List.mem_append.1 hx with e|e
 ·exact cI (h.part x e S[i] (by rw[List.drop_eq_getElem_cons hi];exact mS ..)) h1
 ·rw[hr.seg x e];exact h1
theorem rv {S L:List Zit} {i j:Nat} (h:Upto S i L) (hij:i<j) (row:List Int) (hr:Run S row i j) (hw:okW (wt (S.take j) row)=true):∀r,okW (wt (S.take j) r)=true:=by
 intro r
 by_cases e:r=row
 ·rw[e];exact hw
 ·rw[hr.other (Nat.le_of_lt hij) e];exact h.good r
theorem xV {S L:List Zit} {i j:Nat} (hs:eW S) (h:Upto S i L) (hi:i<S.length) (hij:i<j) (hr:Run S S[i].1 i j) (hj:∀(h:j<S.length),aF S[i].1 S[j].1≠0) (hw:wt (S.take j) S[i].1=0):Upto S j L:=by
 refine ⟨⟨h.tot.rise,h.tot.noz,fun r=> ?_⟩,by have:=h.len;omega,rx hs h hi hij hr hj,rv h hij _ hr (by rw[hw];decide)⟩
 rw[h.tot.same]
 by_cases e:r=S[i].1
 ·rw[e,hw,h.first hi]
 ·rw[hr.other (Nat.le_of_lt hij) e]
theorem xU {S L:List Zit} {i j:Nat} (hs:eW S) (h:Upto S i L) (hi:i<S.length) (hij:i<j) (hr:Run S S[i].1 i j) (hj:∀(h:j<S.length),aF S[i].1 S[j].1≠0) (hw:okW (wt (S.take j) S[i].1)=true) (h0:wt (S.take j) S[i].1≠0):Upto S j (L++[(S[i].1,wt (S.take j) S[i].1)]):=by
 refine ⟨⟨?_,?_,fun r=> ?_⟩,by have:=h.len;simp;omega,rx hs h hi hij hr hj,rv h hij _ hr hw⟩
 ·unfold eO
  rw[List.pairwise_append]
  refine ⟨h.tot.rise,List.pairwise_singleton _ _,fun x hx y hy=> ?_⟩
  obtain rfl:y=_:=by simpa using hy
  obtain ⟨z,hz,e⟩:=h.tot.row hx
  rw[←e]
  exact h.part z hz S[i] (by rw[List.drop_eq_getElem_cons hi];exact mS ..)
 ·intro x hx
  rcases List.mem_append.1 hx with e|e
  ·exact h.tot.noz x e
  ·obtain rfl:x=_:=by simpa using e
   exact h0
 ·rw[cF,h.tot.same]
  simp only[wt]
  by_cases e:r=S[i].1
  ·rw[e,if_pos rfl,h.first hi];omega
  ·rw[if_neg fun k=>e k.symm,hr.other (Nat.le_of_lt hij) e];omega
theorem eW.perm_bad {l S:List Zit} (h:S.Perm l):px S↔px l:=by
 unfold px
 simp only[uf h]
theorem IsTot.perm {l S T:List Zit} (h:S.Perm l) (k:IsTot S T):IsTot l T:=⟨k.rise,k.noz,fun r=>by rw[k.same,uf h]⟩

end Go.Proofs.YtkefkplnamkicaaGreatDoor

namespace Go.Proofs
open Go.Shelf
def Tryz.sortItm_ren:Go.Shelf.Ren:=⟨fun|6=>184|15=>103|14=>209|28=>152|29=>153|20=>228|21=>229|22=>230|23=>231|24=>232|25=>233|26=>234|27=>235|46=>253|47=>191|48=>192|49=>254|50=>255|57=>262|n=>n,fun|22=>58|24=>101|25=>250|3=>3|39=>179|0=>0|53=>227|55=>229|4=>4|46=>221|45=>220|50=>162|5=>5|9=>9|66=>253|70=>164|76=>274|77=>275|n=>n,fun|n=>n⟩
theorem Tryz.sortItm:Go.Proofs.SlLaysF0.n6 I Tryz.sortItm_ren:={
 mixed:=by kernel_rfl
 f6:=⟨Tryz.f184.name,by decide,Tryz.func184.trans (congrArg some (by kernel_rfl))⟩
 f14:=⟨Tryz.f209.name,by decide,Tryz.func209.trans (congrArg some (by kernel_rfl))⟩
 f15:=Tryz.func103.trans (congrArg some (by kernel_rfl))
 f20:=⟨Tryz.f228.name,by decide,Tryz.func228.trans (congrArg some (by kernel_rfl))⟩
 f21:=⟨Tryz.f229.name,by decide,Tryz.func229.trans (congrArg some (by kernel_rfl))⟩
 f22:=⟨Tryz.f230.name,by decide,Tryz.func230.trans (congrArg some (by kernel_rfl))⟩
 f23:=⟨Tryz.f231.name,by decide,Tryz.func231.trans (congrArg some (by kernel_rfl))⟩
 f24:=⟨Tryz.f232.name,by decide,Tryz.func232.trans (congrArg some (by kernel_rfl))⟩
 f25:=⟨Tryz.f233.name,by decide,Tryz.func233.trans (congrArg some (by kernel_rfl))⟩
 f26:=⟨Tryz.f234.name,by decide,Tryz.func234.trans (congrArg some (by kernel_rfl))⟩
 f27:=⟨Tryz.f235.name,by decide,Tryz.func235.trans (congrArg some (by kernel_rfl))⟩
 f28:=Tryz.func152.trans (congrArg some (by kernel_rfl))
 f29:=Tryz.func153.trans (congrArg some (by kernel_rfl))
 f46:=⟨Tryz.f253.name,by decide,Tryz.func253.trans (congrArg some (by kernel_rfl))⟩
 f47:=Tryz.func191.trans (congrArg some (by kernel_rfl))
 f48:=Tryz.func192.trans (congrArg some (by kernel_rfl))
 f49:=⟨Tryz.f254.name,by decide,Tryz.func254.trans (congrArg some (by kernel_rfl))⟩
 f50:=⟨Tryz.f255.name,by decide,Tryz.func255.trans (congrArg some (by kernel_rfl))⟩
 f57:=⟨Tryz.f262.name,by decide,Tryz.func262.trans (congrArg some (by kernel_rfl))⟩
 t0:=Tryz.underlying0
 a0:=Tryz.isAgg0
 z0:=Tryz.sizeOf0
 v0:=Tryz.zeroValue0
 t3:=Tryz.underlying3
 a3:=Tryz.isAgg3
 z3:=Tryz.sizeOf3
 v3:=Tryz.zeroValue3
 t4:=Tryz.underlying4
 a4:=Tryz.isAgg4
 z4:=Tryz.sizeOf4
 v4:=Tryz.zeroValue4
 t5:=Tryz.underlying5
 a5:=Tryz.isAgg5
 z5:=Tryz.sizeOf5
 v5:=Tryz.zeroValue5
 t9:=Tryz.underlying9
 a9:=Tryz.isAgg9
 z9:=Tryz.sizeOf9
 v9:=Tryz.zeroValue9
 t22:=Tryz.underlying58
 a22:=Tryz.isAgg58
 z22:=Tryz.sizeOf58
 v22:=Tryz.zeroValue58
 t25:=Tryz.underlying250
 a25:=Tryz.isAgg250
 z25:=Tryz.sizeOf250
 v25:=Tryz.zeroValue250
 t39:=Tryz.underlying179
 a39:=Tryz.isAgg179
 z39:=Tryz.sizeOf179
 v39:=Tryz.zeroValue179
 t45:=Tryz.underlying220
 a45:=Tryz.isAgg220
 z45:=Tryz.sizeOf220
 v45:=Tryz.zeroValue220
 t46:=Tryz.underlying221
 a46:=Tryz.isAgg221
 z46:=Tryz.sizeOf221
 v46:=Tryz.zeroValue221
 t50:=Tryz.underlying162
 a50:=Tryz.isAgg162
 z50:=Tryz.sizeOf162
 v50:=Tryz.zeroValue162
 t53:=Tryz.underlying227
 a53:=Tryz.isAgg227
 z53:=Tryz.sizeOf227
 v53:=Tryz.zeroValue227
 t55:=Tryz.underlying229
 a55:=Tryz.isAgg229
 z55:=Tryz.sizeOf229
 v55:=Tryz.zeroValue229
 t66:=Tryz.underlying253
 a66:=Tryz.isAgg253
 z66:=Tryz.sizeOf253
 v66:=Tryz.zeroValue253
 t70:=Tryz.underlying164
 a70:=Tryz.isAgg164
 z70:=Tryz.sizeOf164
 v70:=Tryz.zeroValue164
 t76:=Tryz.underlying274
 a76:=Tryz.isAgg274
 z76:=Tryz.sizeOf274
 v76:=Tryz.zeroValue274
 t77:=Tryz.underlying275
 a77:=Tryz.isAgg275
 z77:=Tryz.sizeOf275
 v77:=Tryz.zeroValue275 }
end Go.Proofs

namespace Go.Proofs.YtkefkplnamkicaaGreatDoor
open Go.RowKit Go.Sort Go.Shelf Go.Lib

abbrev InT (l:List Itm):={x:Itm // x∈l}
def mf (l:List Itm) (x:InT l):List Value:=aQ x.1
def yK (l:List Itm) (x y:InT l):Int:=aF x.1.r y.1.r
theorem zs (l:List Itm) (x y:InT l):ltOf (yK l) x y=decide (aF x.1.r y.1.r<0):=rfl
theorem Bq (l:List Itm):SWO (ltOf (yK l)) where
 irrefl x:=by rw[zs,iJ];rfl
 trans x y z h1 h2:=by
  rw[zs,decide_eq_true_eq] at *
  exact cI h1 h2
 ntrans x y z h1 h2:=by
  rw[zs,decide_eq_false_iff_not] at *
  have e1:=dS x.1.r y.1.r
  have e2:=dS y.1.r z.1.r
  have e3:=dS x.1.r z.1.r
  have:=(gy z.1.r y.1.r x.1.r (by omega) (by omega)).1
  omega

theorem lh {α : Type} [Inhabited α] {enc: α → List Value} {w:World} {g n b:Nat} {os:Array Obj} {d:Array α} (hb:b<w.heap.size) (hne:b≠g):(sortWorldK enc 2 w g 0 n d os).heap[b]? = w.heap[b]? := by
 show ((putRowK enc 2 (Sort.ahead w n) g 0 d).heap++os)[b]? = _
 rw[Array.getElem?_append_left (by simp[putRowK];exact hb)]
 show ((Sort.ahead w n).heap.modify g _)[b]? = _
 rw[Array.getElem?_modify,if_neg (by omega)]
 rfl
theorem jw {α : Type} [Inhabited α] {enc: α → List Value} {w:World} {g n:Nat} {os:Array Obj} {d:Array α}:w.heap.size≤(sortWorldK enc 2 w g 0 n d os).heap.size:=by simp[sortWorldK,grow,putRowK]
theorem ju {α : Type} [Inhabited α] {enc: α → List Value} {w:World} {g n:Nat} {os:Array Obj} {d:Array α} {p:Option Addr} {r:List Int} (h:ay w p r) (hne:∀a,p=some a→r≠[]→a.block≠g):ay (sortWorldK enc 2 w g 0 n d os) p r:=by
 rcases h with k|⟨b,off,hp,hb,hc⟩
 ·exact oL k
 by_cases hr:r=[]
 ·exact oL hr
 ·refine oR ⟨b,off,hp,nL hb jw,fun j hj i hi=> ?_⟩
  rw[World.cell?_of_block (a:=⟨b,off+j*1+i,none⟩) (lh hb (hne ⟨b,off,none⟩ hp hr))]
  exact hc j hj i hi
theorem qw {α : Type} [Inhabited α] {enc: α → List Value} {w:World} {g n base:Nat} {os:Array Obj} {d:Array α} (hb:base≤g) (hs:base≤w.heap.size):Go.RowKit.Below base w (sortWorldK enc 2 w g 0 n d os) :=
 ⟨rfl,rfl,rfl,jw,fun k hk=>lh (by omega) (by omega)⟩
theorem rT (l:List Itm):l.attach.map Subtype.val=l:=by simp
theorem xf {w:World} {g:Nat} {l:List Itm} [Inhabited (InT l)] (h:au aQ 2 w (some ⟨g,0,none⟩) l) (hf:∀j,w.frozen? ⟨g,j,none⟩=false):HoldsK (mf l) 2 w g 0 l.attach.toArray:=by
 intro t ht
 rw[size_flatK] at ht
 rw[get_flatK _ _ _ t ht]
 simp only[List.size_toArray,List.length_attach] at ht
 have hk:t / 2<l.length:=by omega
 refine ⟨?_,hf _⟩
 obtain ⟨b,off,hA,hb,hc⟩:=h.at hk
 obtain ⟨rfl,rfl⟩:g=b∧0=off:=by injection hA with hA;injection hA with h1 h2;exact ⟨h1,h2⟩
 have hk':t / 2<l.attach.toArray.size:=by simpa using hk
 have e:(l.attach.toArray[t / 2]!).1=l[t / 2]:=by rw[getElem!_pos l.attach.toArray (t / 2) hk'];simp
 have:=hc (t / 2) hk (t % 2) (Nat.mod_lt _ (by omega))
 rw[show 0+t / 2*2+t % 2=0+t from by omega] at this
 rw[this]
 unfold mf
 rw[e]
 have hm:t % 2<2:=Nat.mod_lt _ (by omega)
 match t % 2,hm with
 | 0,_=>rfl
 | 1,_=>rfl
theorem Bi {w:World} {g:Nat} {l:List Itm} [Inhabited (InT l)] {d:Array (InT l)} (h:HoldsK (mf l) 2 w g 0 d) (hg:g<w.heap.size):au aQ 2 w (some ⟨g,0,none⟩) (d.toList.map Subtype.val):=by
 refine oR ⟨g,0,rfl,hg,fun j hj i hi=> ?_⟩
 have hj':j<d.size:=by simpa using hj
 have h0:=(h (j*2+i) (by rw[size_flatK];omega)).1
 rw[get_flatK _ _ _ _ (by omega)] at h0
 rw[show (j*2+i) / 2=j from by omega,show (j*2+i) % 2=i from by omega,getElem!_pos d j hj'] at h0
 rw[show 0+j*2+i=0+(j*2+i) from by omega,h0]
 simp only[List.getElem_map,Array.getElem_toList]
 unfold mf
 match i,hi with
 | 0,_=>rfl
 | 1,_=>rfl
def zW (fid:Nat) (cb:Array Value):Prop:=∀(x y:Itm) (w:World),ay w x.p x.r→ay w y.p y.r→x.r.length≤maxLen→Calls I fid (#[H (aQ x).toArray,H (aQ y).toArray]++cb) w fun e w'=>e= .returned (J O (aF x.r y.r))∧∃q os',w'=grow (w.drewN q) os'

theorem Bp (fid:Nat) (cb:Array Value) (eg:∀args w,(callFunc fid args).run I w= .ok (.enter fid args) w) (hcmp:zW fid cb) (g cap:Nat) (l:List Itm) (w:World) (hl0:l≠[]) (hrow:au aQ 2 w (some ⟨g,0,none⟩) l) (hf:∀j,w.frozen? ⟨g,j,none⟩=false) (hg:g<w.heap.size) (he:∀x∈l,ay w x.p x.r∧x.r.length≤maxLen∧(x.p=none→x.c=0)∧(∀a,x.p=some a→x.r≠[]→a.block≠g)) (hsz:l.length<4611686018427387904) :
  Calls I 184 #[V (some ⟨g,0,none⟩) l.length cap,.func (.func fid) #[] cb] w fun e w'=>e= .returned (.tuple #[])∧(∃S:List Itm,S.Perm l∧eW (S.map Itm.z)∧Items w' (some ⟨g,0,none⟩) S)∧∀base,base≤g→base≤w.heap.size→Go.RowKit.Below base w w':=by
 obtain ⟨x0,hx0⟩:∃x,x∈l:=List.exists_mem_of_ne_nil l hl0
 haveI:Inhabited (InT l):=⟨⟨x0,hx0⟩⟩
 have hcl:CmpLays I fid cb (mf l) 2 (yK l) g 0 l.attach.toArray.size w:=fun m os dk _ x y =>
  hcmp x.1 y.1 _ (ju (he _ x.2).1 (he _ x.2).2.2.2) (ju (he _ y.2).1 (he _ y.2).2.2.2) (he _ x.2).2.1
 have hcon:=AnyQ.slices_SortFunc Tryz.sortItm 2 Tryz.isAgg101 Tryz.sizeOf101 (mf l) (fun _=>rfl) (fun x=>fT x.1) (yK l) (Bq l) fid cb g 0 cap l.attach.toArray w eg hcl (xf hrow hf) hg (by simpa using hsz)
 change Calls I 184 _ _ _ at hcon
 simp only[List.size_toArray,List.length_attach] at hcon
 refine hcon.mono ?_
 rintro e w' ⟨he',d',n,os,hp,hs,hw⟩
 obtain ⟨hsz',_,hperm⟩:=hp
 simp only[List.size_toArray,List.length_attach] at hsz'
 have e1:d'.extract 0 l.length=d':=by rw[←hsz'];exact Array.extract_size
 have e2:(l.attach.toArray.extract 0 l.length).toList=l.attach:=by simp only[List.extract_toArray,List.drop_zero,Nat.sub_zero,List.extract_eq_take_drop];exact List.take_of_length_le (by simp)
 rw[e1,e2] at hperm
 have hpm:(d'.toList.map Subtype.val).Perm l:=by have:=hperm.map Subtype.val;rwa [rT] at this
 refine ⟨he',⟨d'.toList.map Subtype.val,hpm,?_,?_,?_⟩,fun base h1 h2=>by rw[hw];exact qw h1 h2⟩
 ·unfold eW
  rw[List.map_map,List.pairwise_map,List.pairwise_iff_getElem]
  intro i j hi hj hij
  have hi':i<d'.size:=by simpa using hi
  have hj':j<d'.size:=by simpa using hj
  have:=hs i j (nZ _) hij (by omega)
  rw[getElem!_pos d' j hj',getElem!_pos d' i hi',zs,decide_eq_false_iff_not] at this
  have e3:=dS (d'[j]'hj').1.r (d'[i]'hi').1.r
  show aF (d'[i]'hi').1.r (d'[j]'hj').1.r≤0
  omega
 ·have hH':HoldsK (mf l) 2 w' g 0 d':=by
   rw[hw]
   refine holdsK_grow _ _ _ _ _ _ _ (by simp[putRowK];exact hg) ?_
   exact holdsK_putRowK _ _ _ _ _ l.attach.toArray _ (holdsK_ahead _ _ _ _ _ _ _ (xf hrow hf)) (by simp[hsz'])
  exact Bi hH' (by rw[hw];exact nL hg jw)
 ·intro x hx
  have hx':=he x (hpm.mem_iff.1 hx)
  rw[hw]
  exact ⟨ju hx'.1 hx'.2.2.2,hx'.2.1,hx'.2.2.1⟩

theorem wv:zW 185 #[]:=by
 intro x y w hx hy hl
 have hrH:Hid (ay w x.p x.r∧ay w y.p y.r∧x.r.length≤maxLen):=⟨hx,hy,hl⟩
 clear hx hy hl
 show Calls I 185 #[H #[V x.p x.r.length x.c,J O x.n],H #[V y.p y.r.length y.c,J O y.n]] w _
 go_enter Tryz.func185,Tryz.ntmps185
 go_wp2_with fail
 have hg:Gr w ((w.alloc (Z #[V x.p x.r.length x.c,J O x.n] 101)).alloc (Z #[V y.p y.r.length y.c,J O y.n] 101)):=((gR _).alloc _).alloc _
 refine (fi x.r y.r x.p y.p x.c y.c _ hrH.out.2.2 (hrH.out.1.gr hg) (hrH.out.2.1.gr hg)).mono ?_
 rintro e w' ⟨rfl,hg2⟩
 have hfin:Hid (Gr w w'):=hg.trans hg2
 clear hg hg2
 go_wp2
 go_ret
 exact ⟨rfl,hfin.out⟩

theorem xZ (fid:Nat) (eg:∀args w,(callFunc fid args).run I w= .ok (.enter fid args) w) (hcmp:zW fid #[]) (base:Nat) (v:Value) (l:List Itm) (w:World) (hown:af aQ 2 101 w base v l) (hb:base≤w.heap.size) (he:∀x∈l,ay w x.p x.r∧x.r.length≤maxLen∧(x.p=none→x.c=0)∧(∀a,x.p=some a→x.r≠[]→a.block<base)) (hsz:l.length<4611686018427387904) :
  Calls I 184 #[v,.func (.func fid) #[] #[]] w fun e w'=>e= .returned (.tuple #[])∧(∃(S:List Itm) (A:Option Addr) (cap:Nat),v= V A S.length cap∧S.Perm l∧eW (S.map Itm.z)∧Items w' A S∧(A=none→cap=0))∧Go.RowKit.Below base w w':=by
 obtain ⟨A,cap,rfl,hA,hrow,hcap,hlt,hfz⟩:=af.full bL hown
 by_cases h0:l=[]
 ·subst h0
  have hcon:=AnyF.slices_SortFunc_none Tryz.sortItm A cap (.func (.func fid) #[] #[]) w
  change Calls I 184 _ _ _ at hcon
  refine hcon.mono ?_
  rintro e w' ⟨hee,rfl⟩
  exact ⟨hee,⟨[],A,cap,rfl,List.Perm.refl _,List.Pairwise.nil,⟨oL rfl,fun x hx=>absurd hx (by simp)⟩,hA⟩,bR _ _⟩
 ·have hpos:0<l.length:=List.length_pos_iff.2 h0
  obtain ⟨b,off,hAe,hbb,_⟩:=hrow.at hpos
  subst hAe
  have h5:=hlt _ rfl
  obtain rfl:off=0:=h5.2.2.1
  refine (Bp fid #[] eg hcmp b cap l w h0 hrow (hfz _ rfl) hbb (fun x hx=> ?_) hsz).mono ?_
  ·have h6:=he x hx
   refine ⟨h6.1,h6.2.1,h6.2.2.1,fun a ha hr=> ?_⟩
   have h7:=h6.2.2.2 a ha hr
   have h8:base≤b:=h5.1
   omega
  ·rintro e w' ⟨he,⟨S,hp,hs,hit⟩,hbel⟩
   exact ⟨he,⟨S,_,cap,by rw[hp.length_eq],hp,hs,hit,hA⟩,hbel base h5.1 hb⟩


theorem eK (w:World) {ops:Array Oper} {rest:List Oper} {o:Oper} {a:Act} {Q:Exit→Act→World→Prop} (hgd:o.guard=none) (s x:Operand)
  (ho:o.op= .call { callee:= .builtin .append,args:= #[s,x],argTypes:= #[58,58] })
  (base:Nat) (v:Value) (l m:List Itm) (A:Option Addr) (cap:Nat) (hs:a.eval s=v) (hx:a.eval x= V A m.length cap) (hown:af aQ 2 101 w base v l) (hr:au aQ 2 w A m) (hA:A=none→cap=0)
  (hml:l.length+m.length≤maxLen) (hb:(l.length+m.length)*32≤140737488355328) (hbase:base≤w.heap.size)
  (h:∀v' w',af aQ 2 101 w' base v' (l++m)→w.grownBy w' v.ownBlock→wpList I ops Q rest (a.put o.dst v') w'):wpList I ops Q (o::rest) a w :=
 wpList_plain hgd fun _ hK=>dZ bL fT (by omega) 58 Tryz.underlying58 (H #[V none 0 0,J O 0]) 32 Tryz.infoT rfl w s x ho base v l m A cap hs hx hown hr hA hml hb hbase fun v' w' h2 h3=>hK _ _ (h v' w' h2 h3)
theorem wS (n:Nat) (w:World) (hn:n≤100000) :
  Calls I 208 #[V none 0 0,J O n] w fun e w'=>∃v,e= .returned v∧af aQ 2 101 w' w.heap.size v []∧Below w.heap.size w w':=by
 obtain ⟨i0,hi,hz0,hz1,hz2⟩:=info_parts Tryz.infoT
 by_cases h0:n=0
 ·subst h0
  go_enter Tryz.func208,Tryz.ntmps208
  go_wp2
  go_ret
  exact ⟨_,rfl,af.nil _ _ _ _ _,bR _ _⟩
 ·have hpos:(0:Int)<(n:Int):=by omega
  go_enter Tryz.func208,Tryz.ntmps208
  have hrun:=fun ty=>Lib.run_append_nil_zeros (P:=I) w 58 3 ty 101 i0 _ O O Tryz.underlying58 Tryz.underlying3 hi hz0 n (by omega) (by omega) (by omega) (by rw[hz2];omega)
  have hfin:Hid (af aQ 2 101 (w.drew.alloc (Z (Builtin.zeroCells (Value.agg #[V none 0 0,J O 0]).cells n++Builtin.zeroCells (Value.agg #[V none 0 0,J O 0]).cells (grownCap w n 0 101-n)) 101)) w.heap.size (V (some ⟨w.heap.size,0,none⟩) 0 (grownCap w n 0 101)) []∧Below w.heap.size w (w.drew.alloc (Z (Builtin.zeroCells (Value.agg #[V none 0 0,J O 0]).cells n++Builtin.zeroCells (Value.agg #[V none 0 0,J O 0]).cells (grownCap w n 0 101-n)) 101))):=by
   refine ⟨⟨by simp[aI],.inr ⟨w.heap.size,_,_,rfl,nR _,heap_alloc_new w.drew _,nZ _,grownCap_le_maxLen _ _ _ _ (by unfold maxLen;omega),?_,by simp[aI]⟩⟩,((gR w).drew.alloc _).below⟩
   have h1:=grownCap_ge w n 0 101
   have e1:(Value.agg #[V none 0 0,J O 0]).cells.size=2:=rfl
   rw[Array.size_append,size_zeroCells,size_zeroCells,e1];omega
  have hle:Hid (n≤grownCap w n 0 101∧grownCap w n 0 101≤9223372036854775807):=⟨grownCap_ge _ _ _ _,grownCap_le_maxLen _ _ _ _ (by unfold maxLen;omega)⟩
  go_wp2_with (at_builtin;refine Lib.wpList_append_run _ rfl _ _ _ _ rfl _ _ rfl rfl _ _ (hrun _) ?_)
  go_ret
  exact ⟨_,rfl,hfin.out.1,hfin.out.2⟩

structure Sl where
 A:Option Addr
 cap:Nat
 l:List Itm
def eR (x:Sl):List Value:=[V x.A x.l.length x.cap]
theorem qK {ss:List Sl} (h:ss.length≤2) (hl:∀s∈ss,s.l.length≤400):(ss.flatMap (·.l)).length≤800:=by
 match ss,h with
 | [],_=>simp
 | [a],_=>have:=hl a (by simp);simp;omega
 | [a,b],_=>have h1:=hl a (by simp);have h2:=hl b (by simp);simp;omega
theorem oz {ss:List Sl} {k:Nat} (hk:k<ss.length):(ss.take (k+1)).flatMap (·.l)=(ss.take k).flatMap (·.l)++ss[k].l:=by
 rw[List.take_succ_eq_append_getElem hk,List.flatMap_append,List.flatMap_cons,List.flatMap_nil,List.append_nil]
theorem tI {ss:List Sl} (k:Nat):((ss.take k).flatMap (·.l)).length≤(ss.flatMap (·.l)).length:=by
 conv=>rhs;rw[←List.take_append_drop k ss,List.flatMap_append,List.length_append]
 omega

theorem rY (ss:List Sl) (B:Option Addr) (cb:Nat) (w:World) (hrow:au eR 1 w B ss) (hlen:ss.length≤2) (hss:∀s∈ss,au aQ 2 w s.A s.l∧(s.A=none→s.cap=0)∧s.l.length≤400) :
  Calls I 183 #[V B ss.length cb] w fun e w'=>∃v,e= .returned v∧af aQ 2 101 w' w.heap.size v (ss.flatMap (·.l))∧Below w.heap.size w w':=by
 have hall:Hid ((ss.flatMap (·.l)).length≤800):=qK hlen fun s hs=>(hss s hs).2.2
 have hrH:Hid (au eR 1 w B ss∧∀s∈ss,au aQ 2 w s.A s.l∧(s.A=none→s.cap=0)∧s.l.length≤400):=⟨hrow,hss⟩
 clear hrow hss
 go_enter Tryz.func183,Tryz.ntmps183
 go_wp2
 go_loopw [3,11] (fun n i wr=>∃k:Nat,k≤ss.length∧i= J O k∧n= J O (((ss.take k).flatMap (·.l)).length:Nat)∧wr=w) (fun _ i _=>ss.length-(intOf i).toNat)
 case atStart=>exact ⟨0,nZ _,rfl,by simp,rfl⟩
 case round =>
  obtain ⟨k,hk,rfl,rfl,rfl⟩:=hrel
  by_cases hlt:k<ss.length
  ·have hltz:(k:Int)<(ss.length:Int):=by omega
   obtain ⟨b,off,rfl,hb,hcs⟩:=hrH.out.1.at hlt
   have e0:=hcs k hlt 0 (by omega)
   obtain ⟨s,hs⟩:∃s,ss[k]=s:=⟨_,rfl⟩
   rw[hs] at e0
   have e1:wr.cell? ⟨b,off+k,none⟩=some (V s.A s.l.length s.cap):=by simpa[eR] using e0
   have hst:Hid (((ss.take (k+1)).flatMap (·.l)).length=((ss.take k).flatMap (·.l)).length+s.l.length):=by show _=_;rw[oz hlt,hs,List.length_append]
   have hle:((ss.take (k+1)).flatMap (·.l)).length≤800:=nT (tI _) hall.out
   rw[hst.out] at hle
   obtain ⟨m,hm⟩:∃m,((ss.take k).flatMap (·.l)).length=m:=⟨_,rfl⟩
   rw[hm] at hle ⊢
   have hmH:Hid (((ss.take k).flatMap (·.l)).length=m):=hm
   clear hcs e0 hs hm
   have hw1:IntKind.i64.wrap ((m:Int)+(s.l.length:Int))=(m:Int)+(s.l.length:Int):=by rw[IntKind.wrap_i64];omega
   have hge:¬((m:Int)+(s.l.length:Int))<0:=by omega
   go_wp2
   go_roundw
   case rel =>
    refine ⟨k+1,by omega,by go_num,?_,by trivial⟩
    rw[hst.out,hmH.out];go_num
   case measure=>simp[intOf];omega
  ·have hltz:¬(k:Int)<(ss.length:Int):=by omega
   have hke:ss.take k=ss:=List.take_of_length_le (by omega)
   rw[hke]
   have hgw:=wS (ss.flatMap (·.l)).length wr (by have:=hall.out;omega)
   have hgwH:Hid _:=hgw
   clear hgw hke hlt hk
   obtain ⟨N,hN⟩:∃N,(ss.flatMap (·.l)).length=N:=⟨_,rfl⟩
   rw[hN] at hgwH ⊢
   clear hN
   go_wp2_with fail
   refine cM (show Calls _ _ _ _ _ from hgwH.out) ?_
   rintro e w1 ⟨v0,rfl,hown0,hb0⟩
   clear hgwH
   go_wp2
   go_loopw [6,27] (fun v i w2=>∃k:Nat,k≤ss.length∧i= J O k∧af aQ 2 101 w2 wr.heap.size v ((ss.take k).flatMap (·.l))∧Below wr.heap.size wr w2) (fun _ i _=>ss.length-(intOf i).toNat)
   case atStart=>exact ⟨0,nZ _,rfl,by simpa using hown0,hb0⟩
   case round =>
    rename World=>w2
    obtain ⟨k,hk,rfl,hown,hbel⟩:=hrel
    by_cases hlt:k<ss.length
    ·have hltz:(k:Int)<(ss.length:Int):=by omega
     obtain ⟨b,off,rfl,hb,hcs⟩:=hrH.out.1.at hlt
     have e0:=hcs k hlt 0 (by omega)
     obtain ⟨s,hs⟩:∃s,ss[k]=s:=⟨_,rfl⟩
     rw[hs] at e0
     have e1:w2.cell? ⟨b,off+k,none⟩=some (V s.A s.l.length s.cap):=(hbel.cell (p:=⟨b,off+k,none⟩) hb).trans (by simpa[eR] using e0)
     have hst:Hid ((ss.take (k+1)).flatMap (·.l)=(ss.take k).flatMap (·.l)++s.l):=by show _=_;rw[oz hlt,hs]
     have hle:((ss.take (k+1)).flatMap (·.l)).length≤800:=nT (tI _) hall.out
     rw[hst.out,List.length_append] at hle
     have hsf:=hrH.out.2 s (by rw[←hs];exact gM hlt)
     obtain ⟨M,hM⟩:∃M,(ss.take k).flatMap (·.l)=M:=⟨_,rfl⟩
     rw[hM] at hown hst hle
     have hsH:Hid (au aQ 2 w2 s.A s.l∧(s.A=none→s.cap=0)∧af aQ 2 101 w2 wr.heap.size u6 M∧M.length+s.l.length≤maxLen∧(M.length+s.l.length)*32≤140737488355328∧wr.heap.size≤w2.heap.size):=⟨hsf.1.below hbel,hsf.2.1,hown,by unfold maxLen;omega,by omega,hbel.size⟩
     have hbelH:Hid (Below wr.heap.size wr w2):=hbel
     clear hcs e0 hs hle hsf hM hown hbel
     go_wp2_with (at_builtin;refine eK _ rfl (.tmp 31) (.tmp 32) rfl wr.heap.size u6 M s.l s.A s.cap rfl rfl hsH.out.2.2.1 hsH.out.1 hsH.out.2.1 hsH.out.2.2.2.1 hsH.out.2.2.2.2.1 hsH.out.2.2.2.2.2 ?_;intro v3 w3 hown3 hg3)
     have hfin:Hid (Go.RowKit.Below wr.heap.size wr w3):=hbelH.out.trans (af.grown_below hsH.out.2.2.1 hg3 hsH.out.2.2.2.2.2)
     go_roundw
     case rel=>exact ⟨k+1,by omega,by go_num,by rw[hst.out];exact hown3,hfin.out⟩
     case measure=>simp[intOf];omega
    ·have hltz:¬(k:Int)<(ss.length:Int):=by omega
     have hke:ss.take k=ss:=List.take_of_length_le (by omega)
     rw[hke] at hown
     have hfin:Hid (af aQ 2 101 w2 wr.heap.size u6 (ss.flatMap (·.l))∧Below wr.heap.size wr w2):=⟨hown,hbel⟩
     clear hown hbel hke
     go_wp2
     go_ret
     exact ⟨u6,rfl,hfin.out.1,hfin.out.2⟩

end Go.Proofs.YtkefkplnamkicaaGreatDoor
