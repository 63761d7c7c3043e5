import Derived.Test.YtbkjgjjpnfhkhaaGreatDoorM04
import Derived.Lib.AppendZeros
set_option maxRecDepth 100000
set_option maxHeartbeats 8000000
open Go renaming World → I, Addr → J, Value → Z, Calls → U
open Go.IntKind renaming i64 → H
open Go.Obj renaming cells → X
open Go.Proofs.Tryz renaming prog → V
open Go.Value renaming slice → O, int → Y, agg → ib
namespace Go.Proofs.YtbkjgjjpnfhkhaaGreatDoor
open Go.RowKit Go.Sort

theorem Tryz.infoT:(Tryz.prog.info? 101).map (fun i=>(i.zero,i.size,i.bytes))=some (some (ib #[O none 0 0,Y H 0]),2,32):=by kernel_rfl

structure Apart (w:I) (base:Nat) (ob:Option Nat) (x:Itm):Prop where
 row:aq w x.p x.r
 len:x.r.length<=maxLen
 nil:x.p=none->x.c=0
 own:∀a,x.p=some a->base<=a.block/\a.block<w.heap.size/\ob≠some a.block
structure OwnT (w:I) (base:Nat) (v:Z) (l:List Itm):Prop where
 own:ae aE 2 101 w base v l
 each:∀x∈l,Apart w base v.ownBlock x
def eR (n:Nat) (C:Option J) (L:List Itm):Prop:=(∀a,C=some a->n<=a.block)/\∀x∈L,∀a,x.p=some a->n<=a.block
theorem eR.none (n:Nat):eR n none []:=⟨fun a h=>(by cases h),fun x c=>(by cases c)⟩
theorem eR.mono {n m:Nat} {C:Option J} {L:List Itm} (h:eR n C L) (d:m<=n):eR m C L:=⟨fun a c=>nT d (h.1 a c),fun x f a c=>nT d (h.2 x f a c)⟩
def fa (w:I) (A:Option J) (c:Nat):Prop:=∀a,A=some a->a.off=0/\a.spot=none/\∃cur,w.heap[a.block]? = some (X cur 3 (0,0))/\c<=cur.size/\c<=maxLen
def g7 (w:I) (A:Option J) (c:Nat):Prop:=∀a,A=some a->a.off=0/\a.spot=none/\∃cur,w.heap[a.block]? = some (X cur 101 (0,0))/\c*2<=cur.size/\c<=maxLen
def fb (w:I) (L:List Itm):Prop:=∀x∈L,fa w x.p x.c/\x.r.length<=x.c
theorem fa.lt {w:I} {A:Option J} {c:Nat} (h:fa w A c):∀a,A=some a->a.block<w.heap.size:=fun a f=>by
 obtain ⟨_,_,d,g,_⟩:=h a f
 exact (Array.getElem?_eq_some_iff.1 g).1
theorem g7.lt {w:I} {A:Option J} {c:Nat} (h:g7 w A c):∀a,A=some a->a.block<w.heap.size:=fun a f=>by
 obtain ⟨_,_,d,g,_⟩:=h a f
 exact (Array.getElem?_eq_some_iff.1 g).1
theorem fa.block {w w':I} {A:Option J} {c:Nat} (h:fa w A c) (k:∀a,A=some a->w'.heap[a.block]? = w.heap[a.block]?):fa w' A c:=fun a f=>by
 obtain ⟨g,j,d,m,l⟩:=h a f
 exact ⟨g,j,d,(k a f).trans m,l⟩
theorem g7.block {w w':I} {A:Option J} {c:Nat} (h:g7 w A c) (k:∀a,A=some a->w'.heap[a.block]? = w.heap[a.block]?):g7 w' A c:=fun a f=>by
 obtain ⟨g,j,d,m,l⟩:=h a f
 exact ⟨g,j,d,(k a f).trans m,l⟩
theorem fa.below {w w':I} {A:Option J} {c:Nat} (h:fa w A c) (q:jb2 w w'):fa w' A c:=h.block fun a d=>q.block _ (h.lt a d)
theorem g7.below {w w':I} {A:Option J} {c:Nat} (h:g7 w A c) (q:jb2 w w'):g7 w' A c:=h.block fun a d=>q.block _ (h.lt a d)
theorem fb.below {w w':I} {L:List Itm} (h:fb w L) (q:jb2 w w'):fb w' L:=fun x c=>⟨(h x c).1.below q,(h x c).2⟩
theorem fa.grown {w w':I} {A:Option J} {c:Nat} {row:Option Nat} (h:fa w A c) (q:w.grownBy w' row) (j:∀g,row=some g->∃f r,w.heap[g]? = some (X f r (0,0))/\r≠3):fa w' A c:=h.block fun a l=>q.block _ (h.lt a l) fun e=>by
 obtain ⟨_,_,f,n,_⟩:=h a l
 obtain ⟨k,r,d,m⟩:=j _ e.symm
 rw[n] at d
 injection d with d
 injection d with _ h2
 exact m h2.symm
theorem g7.grown {w w':I} {A:Option J} {c:Nat} {row:Option Nat} (h:g7 w A c) (q:w.grownBy w' row) (j:∀g,row=some g->∃f r,w.heap[g]? = some (X f r (0,0))/\r≠101):g7 w' A c:=h.block fun a l=>q.block _ (h.lt a l) fun e=>by
 obtain ⟨_,_,f,n,_⟩:=h a l
 obtain ⟨k,r,d,m⟩:=j _ e.symm
 rw[n] at d
 injection d with d
 injection d with _ h2
 exact m h2.symm
theorem fb.grown {w w':I} {L:List Itm} {row:Option Nat} (h:fb w L) (q:w.grownBy w' row) (d:∀g,row=some g->∃c j,w.heap[g]? = some (X c j (0,0))/\j≠3):fb w' L:=fun x f=>⟨(h x f).1.grown q d,(h x f).2⟩
theorem ae.typed {α : Type} {enc: α -> List Z} {k:Nat} {e:TypeId} {w:I} {d:Nat} {v:Z} {l:List α} (h:ae enc k e w d v l) {E:TypeId} (m:e≠E):∀g,v.ownBlock=some g->∃c n,w.heap[g]? = some (X c n (0,0))/\n≠E:=by
 intro g f;rcases h.2 with ⟨j,_⟩|⟨g',cap,c,j,_,hc,_⟩
 ·rw[j] at f;cases f
 ·rw[j] at f;obtain rfl:=sI f;exact ⟨c,e,hc,m⟩
theorem ae.roomA {w:I} {c:Nat} {A:Option J} {n cap:Nat} {l:List Itm} (h:ae aE 2 101 w c (O A n cap) l):g7 w A cap:=by
 intro a f;rcases h.2 with ⟨d,_⟩|⟨g',cap',cur,d,_,hc,_,hm,hs,_⟩
 ·rw[f] at d;injection d with h1;cases h1
 ·rw[f] at d;injection d with h1 _ h3;injection h1 with h1;subst h1 h3;exact ⟨rfl,rfl,cur,hc,by omega,hm⟩
theorem ae.roomI {w:I} {c:Nat} {A:Option J} {n cap:Nat} {l:List Int} (h:ae dU 1 3 w c (O A n cap) l):fa w A cap:=by
 intro a f;rcases h.2 with ⟨d,_⟩|⟨g',cap',cur,d,_,hc,_,hm,hs,_⟩
 ·rw[f] at d;injection d with h1;cases h1
 ·rw[f] at d;injection d with h1 _ h3;injection h1 with h1;subst h1 h3;exact ⟨rfl,rfl,cur,hc,by omega,hm⟩
structure NwT (w:I) (k n:Nat) (C:Option J) (L:List Itm):Prop where
 new:eR n C L
 arr:g7 w C k
 rows:fb w L
theorem NwT.none (w:I) (n:Nat):NwT w 0 n none []:=⟨eR.none n,fun a h=>(by cases h),fun x c=>(by cases c)⟩
theorem NwT.mono {w:I} {k n m:Nat} {C:Option J} {L:List Itm} (h:NwT w k n C L) (c:m<=n):NwT w k m C L:=⟨h.new.mono c,h.arr,h.rows⟩
theorem NwT.below {w w':I} {k n:Nat} {C:Option J} {L:List Itm} (h:NwT w k n C L) (q:jb2 w w'):NwT w' k n C L:=⟨h.new,h.arr.below q,h.rows.below q⟩
theorem OwnT.nil (w:I) (c:Nat):OwnT w c (O none 0 0) []:=⟨ae.nil _ _ _ _ _,fun x d=>by cases d⟩
theorem Apart.below {w w':I} {c:Nat} {ob:Option Nat} {x:Itm} (h:Apart w c ob x) (q:jb2 w w'):Apart w' c ob x :=
 ⟨h.row.below q,h.len,h.nil,fun a d=>⟨(h.own a d).1,nL (h.own a d).2.1 q.size,(h.own a d).2.2⟩⟩
theorem OwnT.below {w w':I} {c:Nat} {v:Z} {l:List Itm} (h:OwnT w c v l) (q:jb2 w w'):OwnT w' c v l:=⟨h.own.below q,fun x d=>(h.each x d).below q⟩
theorem OwnT.gr {w w':I} {c:Nat} {v:Z} {l:List Itm} (h:OwnT w c v l) (q:Gr w w'):OwnT w' c v l:=h.below q.below
theorem OwnT.items {w:I} {c:Nat} {v:Z} {l:List Itm} (h:OwnT w c v l):∃A cap,v= O A l.length cap/\dC A l.length cap/\Items w A l/\(∀a,A=some a->c<=a.block/\a.block<w.heap.size):=by obtain ⟨A,cap,m,g,k,j,f,_⟩:=ae.full bO h.own;exact ⟨A,cap,m,dC.mk g j,⟨k,fun x d=>⟨(h.each x d).row,(h.each x d).len,(h.each x d).nil⟩⟩,fun a e=>⟨(f a e).1,(f a e).2.1⟩⟩
theorem Apart.grown {w w':I} {c:Nat} {ob d:Option Nat} {x:Itm} (h:Apart w c ob x) (q:w.grownBy w' ob) (l:d=ob\/d=some w.heap.size):Apart w' c d x:=by
 refine ⟨?_,h.len,h.nil,fun a f=>⟨(h.own a f).1,nL (h.own a f).2.1 q.size,?_⟩⟩
 ·rcases h.row with k|⟨b,off,hp,hb,hc⟩
  ·exact oL k
  ·refine oR ⟨b,off,hp,nL hb q.size,fun j m i hi=> ?_⟩;have g:=(h.own _ hp).2.2;rw[World.cell?_of_block (a:=(jb5 b (off+j*1+i))) (q.block b hb fun e=>g e.symm)];exact hc j m i hi
 ·rcases l with e|e
  ·rw[e];exact (h.own a f).2.2
  ·rw[e];intro k;injection k with k;have:=(h.own a f).2.1;omega
theorem gS (w:I) (D:TypeId) (c:Nat) (v:Z) (l:List Itm) (x:Itm) (A:J) (cap:Nat) (f:OwnT w c v l) (hr:aC aE 2 w (some A) [x]) (hx:Apart w c v.ownBlock x)
  (j:l.length+1<=maxLen) (R:(l.length+1)*32<=140737488355328) (d:c<=w.heap.size) :
  ∃g w',(Builtin.append_ #[59,59] D #[v,O (some A) 1 cap]).run V w= .ok g w'/\OwnT w' c g (l++[x])/\Below c w w'/\w.grownBy w' v.ownBlock:=by
 obtain ⟨i0,hi,m,n,r⟩:=info_parts Tryz.infoT;obtain ⟨g,w',E,F,h,_,C⟩:=run_append_own_at (P:=V) w c 59 D 101 i0 (ib #[O none 0 0,Y H 0]) 2 32 Tryz.underlying59 hi m n r rfl (by omega) v l.length (bu aE l) f.own A 1 cap (bu aE [x]) (cA bO [x]) (hr.cells bO (by omega)) (fun u hu=>ef gh u [x] hu) j R d;refine ⟨g,w',E,⟨?_,fun y hy=> ?_⟩,ae.grown_below f.own h d,h⟩
 ·show w'.ownsRow c _ 2 g (l++[x]).length (bu aE (l++[x]));rw[List.length_append,cV];exact F
 ·rcases List.mem_append.1 hy with k|k
  ·exact (f.each y k).grown h C
  ·have:y=x:=(by simpa using k);subst this;exact hx.grown h C
theorem cT (w:I) {ops:Array Oper} {d:List Oper} {o:Oper} {a:Act} {Q:Exit->Act->I->Prop} (k:o.guard=none) (s z:Operand)
  (E:o.op= .call { callee:= .builtin .append,args:= #[s,z],argTypes:= #[59,59] })
  (c:Nat) (v:Z) (l:List Itm) (x:Itm) (A:J) (cap:Nat) (F:a.eval s=v) (hz:a.eval z= O (some A) 1 cap) (g:OwnT w c v l) (n:aC aE 2 w (some A) [x]) (R:Apart w c v.ownBlock x)
  (m:l.length+1<=maxLen) (D:(l.length+1)*32<=140737488355328) (f:c<=w.heap.size)
  (h:∀j w',OwnT w' c j (l++[x])->Below c w w'->wpList V ops Q d (a.put o.dst j) w'):wpList V ops Q (o::d) a w :=
 wpList_plain k fun _ C=>by
  obtain ⟨j,w',n,r,u,_⟩:=gS w o.type c v l x A cap g n R m D f
  unfold Oper.wp execOp
  simp only[E,resolve,invoke,builtin,Sem.run_bind,Sem.run_pure,Result.andThen_ok,List.map_toArray,List.map_cons,List.map_nil,F,hz,n]
  exact C _ _ (h j w' r u)
theorem kg (w:I) {ops:Array Oper} {d:List Oper} {o:Oper} {a:Act} {Q:Exit->Act->I->Prop} (k:o.guard=none) (s z:Operand)
  (F:o.op= .call { callee:= .builtin .append,args:= #[s,z],argTypes:= #[59,59] })
  (c:Nat) (v:Z) (l:List Itm) (x:Itm) (A:J) (cap:Nat) (R:a.eval s=v) (hz:a.eval z= O (some A) 1 cap) (g:OwnT w c v l) (n:aC aE 2 w (some A) [x]) (hx:Apart w c v.ownBlock x)
  (m:l.length+1<=maxLen) (E:(l.length+1)*32<=140737488355328) (f:c<=w.heap.size)
  (h:∀j w',OwnT w' c j (l++[x])->Below c w w'->w.grownBy w' v.ownBlock->wpList V ops Q d (a.put o.dst j) w'):wpList V ops Q (o::d) a w :=
 wpList_plain k fun _ D=>by
  obtain ⟨j,w',n,r,u,C⟩:=gS w o.type c v l x A cap g n hx m E f
  unfold Oper.wp execOp
  simp only[F,resolve,invoke,builtin,Sem.run_bind,Sem.run_pure,Result.andThen_ok,List.map_toArray,List.map_cons,List.map_nil,R,hz,n]
  exact D _ _ (h j w' r u C)
theorem fZ (w:I) {ops:Array Oper} {o:Oper} {a:Act} {K:Act->I->Prop} {Q:Exit->Act->I->Prop} {E:Prop} (j:o.guard=none) (s z:Operand)
  (D:o.op= .call { callee:= .builtin .append,args:= #[s,z],argTypes:= #[59,59] })
  (c:Nat) (v:Z) (l:List Itm) (x:Itm) (A:J) (cap:Nat) (F:a.eval s=v) (hz:a.eval z= O (some A) 1 cap) (f:OwnT w c v l) (m:aC aE 2 w (some A) [x]) (hx:Apart w c v.ownBlock x)
  (k:l.length+1<=maxLen) (C:(l.length+1)*32<=140737488355328) (d:c<=w.heap.size)
  (h:∀g w',OwnT w' c g (l++[x])->Below c w w'->w.grownBy w' v.ownBlock->K (a.put o.dst g) w') :
  if Region.wanted o (yielded ops a.tmps)=true then Oper.wp V o a w K Q else E:=by
 have R:Region.wanted o (yielded ops a.tmps)=true:=by simp[Region.wanted,j]
 rw[if_pos R];obtain ⟨g,w',m,n,r,u⟩:=gS w o.type c v l x A cap f m hx k C d;unfold Oper.wp execOp;simp only[D,resolve,invoke,builtin,Sem.run_bind,Sem.run_pure,Result.andThen_ok,List.map_toArray,List.map_cons,List.map_nil,F,hz,m];exact h g w' n r u

structure Lv (W:I) (A:Option J) (c:Nat) (l:List Itm):Prop where
 items:Items W A l
 nilc:dC A l.length c
 len:l.length<=maxLen
theorem Lv.nil {W:I} {A:Option J} {c:Nat} {l:List Itm} (h:Lv W A c l):A=none->c=0:=h.nilc.z
theorem Lv.below {W d:I} {A:Option J} {c:Nat} {l:List Itm} (h:Lv W A c l) (q:jb2 W d):Lv d A c l:=⟨h.items.below q,h.nilc,h.len⟩
theorem Lv.gr {W d:I} {A:Option J} {c:Nat} {l:List Itm} (h:Lv W A c l) (q:Gr W d):Lv d A c l:=h.below q.below

end Go.Proofs.YtbkjgjjpnfhkhaaGreatDoor

namespace Go.Proofs.YtbkjgjjpnfhkhaaGreatDoor

theorem db (x y:Int):(bf x y= -1/\x<y)\/(bf x y=0/\x=y)\/(bf x y=1/\y<x):=by
 unfold bf;by_cases h:x<y
 ·rw[if_pos h];exact oL ⟨rfl,h⟩
 ·rw[if_neg h];by_cases k:y<x
  ·rw[if_pos k];exact oR (oR ⟨rfl,k⟩)
  ·rw[if_neg k];exact oR (oL ⟨rfl,by omega⟩)
theorem cR:∀a b:List Int,aw b a= -aw a b
 | [],[]=>rfl
 | [],_::_=>rfl
 | _::_,[]=>rfl
 | x::a,y::b=>by
  have c:=db x y;have d:=db y x;show (if bf y x=0 then aw b a else bf y x)= -(if bf x y=0 then aw a b else bf x y);by_cases e:x=y
  ·subst e;have:bf x x=0:=by omega
   rw[if_pos this,if_pos this];exact cR a b
  ·rw[if_neg (by omega),if_neg (by omega)];omega
theorem gg:∀a:List Int,aw a a=0
 | []=>rfl
 | x::a=>by have c:=db x x;show (if bf x x=0 then aw a a else bf x x)=0;rw[if_pos (by omega)];exact gg a
theorem iC:∀a b:List Int,aw a b=0->a=b
 | [],[],_=>rfl
 | [],_::_,h=>by cases h
 | _::_,[],h=>by cases h
 | x::a,y::b,h=>by
  have d:=db x y;have c:(if bf x y=0 then aw a b else bf x y)=0:=h;by_cases e:bf x y=0
  ·rw[if_pos e] at c;obtain rfl:x=y:=by omega
   rw[iC a b c]
  ·rw[if_neg e] at c;exact absurd c e
theorem eF:∀a b c:List Int,aw a b<=0->aw b c<=0->aw a c<=0/\(aw a b<0\/aw b c<0->aw a c<0)
 | [],b,[],h1,h2=>by
  cases b with
  | nil=>exact ⟨by decide,fun h=>by rcases h with h|h<;>cases h⟩
  | cons=>exact absurd h2 (by show ¬((1:Int)<=0);decide)
 | [],_,_::_,_,_=>⟨by show (-1:Int)<=0;decide,fun _=>by show (-1:Int)<0;decide⟩
 | _::_,[],_,h,_=>absurd h (by show ¬((1:Int)<=0);decide)
 | _::_,_::_,[],_,h=>absurd h (by show ¬((1:Int)<=0);decide)
 | x::a,y::b,z::c,h1,h2=>by
  have l:=db x y;have m:=db y z;have n:=db x z;have f:(if bf x y=0 then aw a b else bf x y)<=0:=h1;have d:(if bf y z=0 then aw b c else bf y z)<=0:=h2;show (if bf x z=0 then aw a c else bf x z)<=0/\((if bf x y=0 then aw a b else bf x y)<0\/(if bf y z=0 then aw b c else bf y z)<0->(if bf x z=0 then aw a c else bf x z)<0);by_cases j:bf x y=0
  ·rw[if_pos j] at f ⊢;by_cases g:bf y z=0
   ·rw[if_pos g] at d ⊢;rw[if_pos (by omega)];exact eF a b c f d
   ·rw[if_neg g] at d ⊢;rw[if_neg (by omega)];exact ⟨by omega,fun _=>by omega⟩
  ·rw[if_neg j] at f ⊢;have k:bf y z=0\/bf y z= -1:=by
    by_cases g:bf y z=0
    ·exact oL g
    ·rw[if_neg g] at d;omega
   rw[if_neg (by omega)];exact ⟨by omega,fun _=>by omega⟩
theorem cH {a b c:List Int} (d:aw a b<0) (f:aw b c<0):aw a c<0:=(eF a b c (by omega) (by omega)).2 (oL d)
theorem dY {a b:List Int} (h:aw a b<0):a≠b:=fun e=>by rw[e,gg] at h;omega

def wt:List Zit->List Int->Int
 | [],_=>0
 | x::t,r=>(if x.1=r then x.2 else 0)+wt t r
theorem cC (a b:List Zit) (r:List Int):wt (a++b) r=wt a r+wt b r:=by
 induction a with
 | nil=>simp[wt]
 | cons x a ih=>simp only[List.cons_append,wt,ih];omega
theorem oO {a b:List Zit} (h:a.Perm b) (r:List Int):wt a r=wt b r:=by
 induction h with
 | nil=>rfl
 | cons x _ ih=>simp only[wt,ih]
 | swap x y l=>simp only[wt];omega
 | trans _ _ h1 h2=>rw[h1,h2]
theorem fT {l:List Zit} {r:List Int} (h:∀x∈l,x.1≠r):wt l r=0:=by
 induction l with
 | nil=>rfl
 | cons x l ih =>
  simp only[wt]
  rw[if_neg (h x (by simp)),ih fun y c=>h y (by simp[c])];rfl
theorem kZ {l:List Zit} {r:List Int} (h:wt l r≠0):∃x∈l,x.1=r:=by
 induction l with
 | nil=>exact absurd rfl h
 | cons x l ih =>
  by_cases e:x.1=r
  ·exact ⟨x,by simp,e⟩
  ·simp only[wt] at h
   rw[if_neg e] at h
   obtain ⟨y,d,c⟩:=ih (by omega)
   exact ⟨y,by simp[d],c⟩
theorem xQ (l:List Zit) (r:List Int):wt (l.map fun x=>(x.1,-x.2)) r= -wt l r:=by
 induction l with
 | nil=>rfl
 | cons x l ih =>
  simp only[List.map_cons,wt,ih]
  by_cases e:x.1=r
  ·rw[if_pos e,if_pos e];omega
  ·rw[if_neg e,if_neg e];omega

def ew (l:List Zit):Prop:=l.Pairwise fun x y=>aw x.1 y.1<0
def NoZ (l:List Zit):Prop:=∀x∈l,x.2≠0
theorem ew.wt {l:List Zit} (h:ew l) {x:Zit} (d:x∈l):wt l x.1=x.2:=by
 induction l with
 | nil=>cases d
 | cons y l ih =>
  have c:=List.pairwise_cons.1 h
  simp only[Go.Proofs.YtbkjgjjpnfhkhaaGreatDoor.wt]
  rcases List.mem_cons.1 d with e|e
  ·subst e
   rw[if_pos rfl,fT fun z f k=>dY (c.1 z f) k.symm];omega
  ·rw[if_neg (dY (c.1 x e)),ih c.2 e];omega
theorem nM:∀ {a b:List Zit},ew a->ew b->NoZ a->NoZ b->(∀r,wt a r=wt b r)->a=b
 | [],[],_,_,_,_,_=>rfl
 | [],y::b,_,hb,_,nb,h=>by have d:=h y.1;rw[hb.wt (List.mem_cons_self ..)] at d;exact absurd d.symm (nb y (mS ..))
 | x::a,[],ha,_,na,_,h=>by have d:=h x.1;rw[ha.wt (List.mem_cons_self ..)] at d;exact absurd d (na x (mS ..))
 | x::a,y::b,ha,hb,na,nb,h=>by
  have f:=List.pairwise_cons.1 ha;have g:=List.pairwise_cons.1 hb;have j:=h x.1;have m:=h y.1;rw[ha.wt (List.mem_cons_self ..)] at j;rw[hb.wt (List.mem_cons_self ..)] at m;have e:aw x.1 y.1=0:=by
   by_cases n:aw x.1 y.1<0
   ·exfalso;refine na x (mS ..) (j.trans (fT fun z c k=> ?_));rcases List.mem_cons.1 c with e|e
    ·subst e;exact dY n k.symm
    ·exact dY (cH n (g.1 z e)) k.symm
   ·by_cases u:aw y.1 x.1<0
    ·exfalso;refine nb y (mS ..) (m.symm.trans (fT fun z c k=> ?_));rcases List.mem_cons.1 c with e|e
     ·subst e;exact dY u k.symm
     ·exact dY (cH u (f.1 z e)) k.symm
    ·have:=cR x.1 y.1;omega
  have l:=iC _ _ e;have C:x.2=y.2:=by rw[j,l,hb.wt (List.mem_cons_self ..)]
  obtain rfl:x=y:=Prod.ext l C;rw[nM f.2 g.2 (fun z c=>na z (List.mem_cons_of_mem _ c)) (fun z c=>nb z (List.mem_cons_of_mem _ c)) fun r=>by have:=h r;simp only[Go.Proofs.YtbkjgjjpnfhkhaaGreatDoor.wt] at this;omega]

theorem iG {l:List Zit} {k:Nat} (h:k<l.length):l.getD k ([],0)=l[k]:=by rw[List.getD_eq_getElem?_getD,List.getElem?_eq_getElem h];rfl
theorem aQ (l:List Zit):am l=0↔l.length<=400/\(∀x∈l,okZ x=true)/\ew l:=by
 unfold am;by_cases m:400<l.length
 ·rw[if_pos m];exact ⟨fun h=>absurd h (by decide),fun h=>absurd h.1 (by omega)⟩
 ·rw[if_neg m];constructor
  ·intro h;have g:∀k,k<l.length->okZ (l.getD k ([],0))=true/\jn l k=true:=by
    intro k c;have:(okZ (l.getD k ([],0)) && jn l k)=true:=by
     cases e:(okZ (l.getD k ([],0)) && jn l k)
     ·rw[if_pos ⟨k,c,e⟩] at h;cases h
     ·rfl
    simpa using this
   have f:∀k (h:k+1<l.length),aw l[k].1 l[k+1].1<0:=(by intro k c;have:=(g (k+1) c).2;unfold jn at this;rw[Nat.add_sub_cancel,iG c,iG (show k<l.length by omega)] at this;simpa using this);refine ⟨by omega,?_,?_⟩
   ·intro x R;obtain ⟨k,c,rfl⟩:=List.mem_iff_getElem.1 R;have:=(g k c).1;rwa [iG c] at this
   ·have:∀d i (hi:i+d+1<l.length),aw (l[i]'(by omega)).1 (l[i+d+1]'hi).1<0:=by
     intro d;induction d with
     | zero=>intro i hi;exact f i hi
     | succ d ih=>intro i hi;exact cH (ih i (by omega)) (f (i+d+1) hi)
    unfold ew;rw[List.pairwise_iff_getElem];intro i j hi hj F;have r:=this (j-i-1) i (by omega);have e:i+(j-i-1)+1=j:=by omega
    simpa only[e] using r
  ·rintro ⟨_,u,C⟩;rw[if_neg];rintro ⟨k,c,n⟩;have D:okZ (l.getD k ([],0))=true:=by rw[iG c];exact u _ (gM c)
   have E:jn l k=true:=by
    unfold jn;by_cases e:k=0
    ·simp[e]
    ·rw[iG c,iG (show k-1<l.length by omega)];have:=(List.pairwise_iff_getElem.1 C) (k-1) k (by omega) c (by omega);simp[this]
   rw[D,E] at n;cases n

def og (l:List Zit):Prop:=∃r,okW (wt l r)=false
structure IsTot (l S:List Zit):Prop where
 rise:ew S
 noz:NoZ S
 same:∀r,wt S r=wt l r
theorem IsTot.uniq {l m S T:List Zit} (h:IsTot l S) (k:IsTot m T) (e:∀r,wt l r=wt m r):S=T:=nM h.rise k.rise h.noz k.noz fun r=>by rw[h.same,k.same,e]
theorem kS {l:List Zit} (h:∀x∈l,okZ x=true):NoZ l:=fun x c=>by
 have:=h x c
 unfold okZ at this
 simp at this
 exact this.2
theorem IsTot.row {l S:List Zit} (h:IsTot l S) {x:Zit} (c:x∈S):∃y∈l,y.1=x.1:=kZ (by rw[<-h.same,h.rise.wt c];exact h.noz x c)
theorem IsTot.okZ {l S:List Zit} (h:IsTot l S) (j:¬og l) (k:∀x∈l,okR x.1=true):∀x∈S,okZ x=true:=by
 intro x c;obtain ⟨y,m,e⟩:=h.row c;have f:=k y m;have g:okW x.2=true:=by
  cases d:okW x.2
  ·exact absurd ⟨x.1,by rw[<-h.same,h.rise.wt c];exact d⟩ j
  ·rfl
 unfold Go.Proofs.YtbkjgjjpnfhkhaaGreatDoor.okZ;rw[<-e,f,g];simp[h.noz x c]
theorem bg {x:Zit} (h:okZ x=true):okR x.1=true/\okW x.2=true/\x.2≠0:=by unfold okZ at h;simp only[Bool.and_eq_true,decide_eq_true_eq] at h;exact ⟨h.1.1,h.1.2,h.2⟩
theorem sn (n:Int):okW (-n)=okW n:=by unfold okW inB;rw[Bool.eq_iff_iff];simp only[Bool.and_eq_true,decide_eq_true_eq];omega
theorem sj {l:List Zit} (h:am l=0):am (l.map fun x=>(x.1,-x.2))=0:=by
 rw[aQ] at h ⊢;refine ⟨by simpa using h.1,?_,?_⟩
 ·intro x c;obtain ⟨y,d,rfl⟩:=List.mem_map.1 c;have:=bg (h.2.1 y d);unfold okZ;simp only[Bool.and_eq_true,decide_eq_true_eq];exact ⟨⟨this.1,by rw[sn];exact this.2.1⟩,by omega⟩
 ·unfold ew;rw[List.pairwise_map];exact h.2.2

end Go.Proofs.YtbkjgjjpnfhkhaaGreatDoor

namespace Go.Proofs.YtbkjgjjpnfhkhaaGreatDoor

def dF (S:List Zit):Prop:=S.Pairwise fun x y=>aw x.1 y.1<=0
structure Upto (S:List Zit) (i:Nat) (L:List Zit):Prop where
 tot:IsTot (S.take i) L
 len:L.length<=i
 part:∀x∈S.take i,∀y∈S.drop i,aw x.1 y.1<0
 good:∀r,okW (wt (S.take i) r)=true
theorem Upto.zero (S:List Zit):Upto S 0 []:=⟨⟨List.Pairwise.nil,fun x c=>(by cases c),fun r=>rfl⟩,by simp,fun x c=>by simp at c,fun r=>by simp[wt,okW,inB]⟩
theorem Upto.done {S L:List Zit} {i:Nat} (h:Upto S i L) (hi:S.length<=i):IsTot S L/\¬og S:=by have e:S.take i=S:=List.take_of_length_le hi;refine ⟨by have:=h.tot;rwa [e] at this,?_⟩;rintro ⟨r,c⟩;have:=h.good r;rw[e,c] at this;cases this
theorem xP {l:List Zit} (h:∀x∈l,okW x.2=true) (r:List Int): -((l.length:Int)*1048576)<=wt l r/\wt l r<=(l.length:Int)*1048576:=by
 induction l with
 | nil=>simp[wt]
 | cons x l ih =>
  have f:=ih fun y d=>h y (mC _ d)
  have c:=h x (mS ..)
  simp only[okW,inB,Bool.and_eq_true,decide_eq_true_eq] at c
  simp only[wt,List.length_cons]
  by_cases e:x.1=r
  ·rw[if_pos e];omega
  ·rw[if_neg e];omega
theorem oP {S:List Zit} {k:Nat} (c:k<S.length) (r:List Int):wt (S.take (k+1)) r=wt (S.take k) r+if S[k].1=r then S[k].2 else 0:=by rw[List.take_succ_eq_append_getElem c,cC];simp[wt]
def Run (S:List Zit) (row:List Int) (i j:Nat):Prop:=∀m (_:m<S.length),i<=m->m<j->S[m].1=row
theorem Run.seg {S:List Zit} {row:List Int} {i j:Nat} (h:Run S row i j):∀x∈(S.take j).drop i,x.1=row:=by intro x d;obtain ⟨k,c,rfl⟩:=List.mem_iff_getElem.1 d;simp only[List.length_drop,List.length_take] at c;rw[List.getElem_drop,List.getElem_take];exact h _ (by omega) (by omega) (by omega)
theorem Run.split {S:List Zit} {i j:Nat} (c:i<=j):S.take j=S.take i++(S.take j).drop i:=by
 conv=>lhs;rw[<-List.take_append_drop i (S.take j)]
 rw[List.take_take,Nat.min_eq_left c]
theorem Run.other {S:List Zit} {row:List Int} {i j:Nat} (h:Run S row i j) (c:i<=j) {r:List Int} (d:r≠row):wt (S.take j) r=wt (S.take i) r:=by rw[Run.split c,cC,fT (l:=(S.take j).drop i) fun x f e=>d (by rw[<-e];exact h.seg x f)];omega
theorem Upto.first {S L:List Zit} {i:Nat} (h:Upto S i L) (hi:i<S.length):wt (S.take i) S[i].1=0 :=
 fT fun x c e=>dY (h.part x c S[i] (by rw[List.drop_eq_getElem_cons hi];exact mS ..)) e
theorem after {S:List Zit} {row:List Int} {j:Nat} (r:dF S) (i:Nat) (hi:i<S.length) (d:i<j) (c:S[i].1=row) (m:∀(h:j<S.length),aw row S[j].1≠0):∀x∈S.drop j,aw row x.1<0:=by
 intro x u;obtain ⟨k,n,rfl⟩:=List.mem_iff_getElem.1 u;simp only[List.length_drop] at n;rw[List.getElem_drop];have g:=List.pairwise_iff_getElem.1 r;have f:aw S[i].1 S[j].1<=0:=g i j hi (by omega) d;rw[c] at f;have C:=m (by omega);by_cases e:k=0
 ·subst e;simp only[Nat.add_zero];omega
 ·have l:aw S[j].1 S[j+k].1<=0:=g j (j+k) (by omega) (by omega) (by omega);exact (eF _ _ _ f l).2 (oL (by omega))
theorem yW {S:List Zit} {i j:Nat} (m:dF S) (hi:i<S.length) (c:i<j) (k:∀(h:j<S.length),aw S[i].1 S[j].1≠0) (g:okW (wt (S.take j) S[i].1)=false):og S:=by
 refine ⟨S[i].1,?_⟩;have d:wt S S[i].1=wt (S.take j) S[i].1:=by have f:=cC (S.take j) (S.drop j) S[i].1;rw[List.take_append_drop,fT (l:=S.drop j) fun x n e=>dY (after m i hi c rfl k x n) e.symm] at f;omega
 rw[d];exact g
theorem qr {S L:List Zit} {i j:Nat} (l:dF S) (h:Upto S i L) (hi:i<S.length) (c:i<j) (k:Run S S[i].1 i j) (g:∀(h:j<S.length),aw S[i].1 S[j].1≠0):∀x∈S.take j,∀y∈S.drop j,aw x.1 y.1<0:=by
 intro x f y m;rw[Run.split (Nat.le_of_lt c)] at f;have d:=after l i hi c rfl g y m;rcases List.mem_append.1 f with e|e
 ·exact cH (h.part x e S[i] (by rw[List.drop_eq_getElem_cons hi];exact mS ..)) d
 ·rw[k.seg x e];exact d
theorem qq {S L:List Zit} {i j:Nat} (h:Upto S i L) (c:i<j) (row:List Int) (d:Run S row i j) (f:okW (wt (S.take j) row)=true):∀r,okW (wt (S.take j) r)=true:=by
 intro r;by_cases e:r=row
 ·rw[e];exact f
 ·rw[d.other (Nat.le_of_lt c) e];exact h.good r
theorem xn {S L:List Zit} {i j:Nat} (k:dF S) (h:Upto S i L) (hi:i<S.length) (c:i<j) (d:Run S S[i].1 i j) (g:∀(h:j<S.length),aw S[i].1 S[j].1≠0) (f:wt (S.take j) S[i].1=0):Upto S j L:=by
 refine ⟨⟨h.tot.rise,h.tot.noz,fun r=> ?_⟩,by have:=h.len;omega,qr k h hi c d g,qq h c _ d (by rw[f];decide)⟩;rw[h.tot.same];by_cases e:r=S[i].1
 ·rw[e,f,h.first hi]
 ·rw[d.other (Nat.le_of_lt c) e]
theorem xm {S L:List Zit} {i j:Nat} (m:dF S) (h:Upto S i L) (hi:i<S.length) (c:i<j) (d:Run S S[i].1 i j) (l:∀(h:j<S.length),aw S[i].1 S[j].1≠0) (n:okW (wt (S.take j) S[i].1)=true) (g:wt (S.take j) S[i].1≠0):Upto S j (L++[(S[i].1,wt (S.take j) S[i].1)]):=by
 refine ⟨⟨?_,?_,fun r=> ?_⟩,by have:=h.len;simp;omega,qr m h hi c d l,qq h c _ d n⟩
 ·unfold ew;rw[List.pairwise_append];refine ⟨h.tot.rise,List.pairwise_singleton _ _,fun x f y u=> ?_⟩;obtain rfl:y=_:=by simpa using u
  obtain ⟨z,C,e⟩:=h.tot.row f;rw[<-e];exact h.part z C S[i] (by rw[List.drop_eq_getElem_cons hi];exact mS ..)
 ·intro x f;rcases List.mem_append.1 f with e|e
  ·exact h.tot.noz x e
  ·obtain rfl:x=_:=(by simpa using e);exact g
 ·rw[cC,h.tot.same];simp only[wt];by_cases e:r=S[i].1
  ·rw[e,if_pos rfl,h.first hi];omega
  ·rw[if_neg fun k=>e k.symm,d.other (Nat.le_of_lt c) e];omega
theorem dF.perm_bad {l S:List Zit} (h:S.Perm l):og S↔og l:=by unfold og;simp only[oO h]
theorem IsTot.perm {l S T:List Zit} (h:S.Perm l) (k:IsTot S T):IsTot l T:=⟨k.rise,k.noz,fun r=>by rw[k.same,oO h]⟩

end Go.Proofs.YtbkjgjjpnfhkhaaGreatDoor

namespace Go.Proofs
open Go.Shelf
def Tryz.sortItm_ren:Go.Shelf.Ren:=⟨fun|6=>154|15=>95|14=>179|28=>126|29=>127|20=>206|21=>207|22=>208|23=>209|24=>210|25=>211|26=>212|27=>213|46=>230|47=>145|48=>146|49=>231|50=>232|57=>242|n=>n,fun|22=>59|24=>101|25=>201|3=>3|39=>149|0=>0|53=>173|55=>175|4=>4|46=>167|45=>166|50=>142|5=>5|9=>9|66=>189|70=>193|76=>211|77=>212|n=>n,fun|n=>n⟩
theorem Tryz.sortItm:Go.Proofs.SlLaysF0.n6 V Tryz.sortItm_ren:={
 mixed:=by kernel_rfl
 f6:=⟨Tryz.f154.name,by decide,Tryz.func154.trans (congrArg some (by kernel_rfl))⟩
 f14:=⟨Tryz.f179.name,by decide,Tryz.func179.trans (congrArg some (by kernel_rfl))⟩
 f15:=Tryz.func95.trans (congrArg some (by kernel_rfl))
 f20:=⟨Tryz.f206.name,by decide,Tryz.func206.trans (congrArg some (by kernel_rfl))⟩
 f21:=⟨Tryz.f207.name,by decide,Tryz.func207.trans (congrArg some (by kernel_rfl))⟩
 f22:=⟨Tryz.f208.name,by decide,Tryz.func208.trans (congrArg some (by kernel_rfl))⟩
 f23:=⟨Tryz.f209.name,by decide,Tryz.func209.trans (congrArg some (by kernel_rfl))⟩
 f24:=⟨Tryz.f210.name,by decide,Tryz.func210.trans (congrArg some (by kernel_rfl))⟩
 f25:=⟨Tryz.f211.name,by decide,Tryz.func211.trans (congrArg some (by kernel_rfl))⟩
 f26:=⟨Tryz.f212.name,by decide,Tryz.func212.trans (congrArg some (by kernel_rfl))⟩
 f27:=⟨Tryz.f213.name,by decide,Tryz.func213.trans (congrArg some (by kernel_rfl))⟩
 f28:=Tryz.func126.trans (congrArg some (by kernel_rfl))
 f29:=Tryz.func127.trans (congrArg some (by kernel_rfl))
 f46:=⟨Tryz.f230.name,by decide,Tryz.func230.trans (congrArg some (by kernel_rfl))⟩
 f47:=Tryz.func145.trans (congrArg some (by kernel_rfl))
 f48:=Tryz.func146.trans (congrArg some (by kernel_rfl))
 f49:=⟨Tryz.f231.name,by decide,Tryz.func231.trans (congrArg some (by kernel_rfl))⟩
 f50:=⟨Tryz.f232.name,by decide,Tryz.func232.trans (congrArg some (by kernel_rfl))⟩
 f57:=⟨Tryz.f242.name,by decide,Tryz.func242.trans (congrArg some (by kernel_rfl))⟩
 t0:=Tryz.underlying0
 a0:=Tryz.isAgg0
 z0:=Tryz.sizeOf0
 v0:=Tryz.zeroValue0
 t3:=Tryz.underlying3
 a3:=Tryz.isAgg3
 z3:=Tryz.sizeOf3
 v3:=Tryz.zeroValue3
 t4:=Tryz.underlying4
 a4:=Tryz.isAgg4
 z4:=Tryz.sizeOf4
 v4:=Tryz.zeroValue4
 t5:=Tryz.underlying5
 a5:=Tryz.isAgg5
 z5:=Tryz.sizeOf5
 v5:=Tryz.zeroValue5
 t9:=Tryz.underlying9
 a9:=Tryz.isAgg9
 z9:=Tryz.sizeOf9
 v9:=Tryz.zeroValue9
 t22:=Tryz.underlying59
 a22:=Tryz.isAgg59
 z22:=Tryz.sizeOf59
 v22:=Tryz.zeroValue59
 t25:=Tryz.underlying201
 a25:=Tryz.isAgg201
 z25:=Tryz.sizeOf201
 v25:=Tryz.zeroValue201
 t39:=Tryz.underlying149
 a39:=Tryz.isAgg149
 z39:=Tryz.sizeOf149
 v39:=Tryz.zeroValue149
 t45:=Tryz.underlying166
 a45:=Tryz.isAgg166
 z45:=Tryz.sizeOf166
 v45:=Tryz.zeroValue166
 t46:=Tryz.underlying167
 a46:=Tryz.isAgg167
 z46:=Tryz.sizeOf167
 v46:=Tryz.zeroValue167
 t50:=Tryz.underlying142
 a50:=Tryz.isAgg142
 z50:=Tryz.sizeOf142
 v50:=Tryz.zeroValue142
 t53:=Tryz.underlying173
 a53:=Tryz.isAgg173
 z53:=Tryz.sizeOf173
 v53:=Tryz.zeroValue173
 t55:=Tryz.underlying175
 a55:=Tryz.isAgg175
 z55:=Tryz.sizeOf175
 v55:=Tryz.zeroValue175
 t66:=Tryz.underlying189
 a66:=Tryz.isAgg189
 z66:=Tryz.sizeOf189
 v66:=Tryz.zeroValue189
 t70:=Tryz.underlying193
 a70:=Tryz.isAgg193
 z70:=Tryz.sizeOf193
 v70:=Tryz.zeroValue193
 t76:=Tryz.underlying211
 a76:=Tryz.isAgg211
 z76:=Tryz.sizeOf211
 v76:=Tryz.zeroValue211
 t77:=Tryz.underlying212
 a77:=Tryz.isAgg212
 z77:=Tryz.sizeOf212
 v77:=Tryz.zeroValue212 }
end Go.Proofs

namespace Go.Proofs.YtbkjgjjpnfhkhaaGreatDoor
open Go.RowKit Go.Sort Go.Shelf Go.Lib

abbrev InT (l:List Itm):={x:Itm // x∈l}
def lB (l:List Itm) (x:InT l):List Z:=aE x.1
def xZ (l:List Itm) (x y:InT l):Int:=aw x.1.r y.1.r
theorem yB (l:List Itm) (x y:InT l):ltOf (xZ l) x y=decide (aw x.1.r y.1.r<0):=rfl
theorem B9 (l:List Itm):SWO (ltOf (xZ l)) where
 irrefl x:=by rw[yB,gg];rfl
 trans x y z h1 h2:=by
  rw[yB,decide_eq_true_eq] at *
  exact cH h1 h2
 ntrans x y z h1 h2:=by
  rw[yB,decide_eq_false_iff_not] at *
  have c:=cR x.1.r y.1.r
  have d:=cR y.1.r z.1.r
  have f:=cR x.1.r z.1.r
  have:=(eF z.1.r y.1.r x.1.r (by omega) (by omega)).1
  omega

theorem ky {α : Type} [Inhabited α] {enc: α -> List Z} {w:I} {g n b:Nat} {os:Array Obj} {d:Array α} (hb:b<w.heap.size) (hne:b≠g):(sortWorldK enc 2 w g 0 n d os).heap[b]? = w.heap[b]? := by show ((putRowK enc 2 (Sort.ahead w n) g 0 d).heap++os)[b]? = _;rw[Array.getElem?_append_left (by simp[putRowK];exact hb)];show ((Sort.ahead w n).heap.modify g _)[b]? = _;rw[Array.getElem?_modify,if_neg (by omega)];rfl
theorem j9 {α : Type} [Inhabited α] {enc: α -> List Z} {w:I} {g n:Nat} {os:Array Obj} {d:Array α}:w.heap.size<=(sortWorldK enc 2 w g 0 n d os).heap.size:=by simp[sortWorldK,grow,putRowK]
theorem j6 {α : Type} [Inhabited α] {enc: α -> List Z} {w:I} {g n:Nat} {os:Array Obj} {d:Array α} {p:Option J} {r:List Int} (h:aq w p r) (hne:∀a,p=some a->r≠[]->a.block≠g):aq (sortWorldK enc 2 w g 0 n d os) p r:=by
 rcases h with k|⟨b,off,hp,hb,hc⟩
 ·exact oL k
 by_cases c:r=[]
 ·exact oL c
 ·refine oR ⟨b,off,hp,nL hb j9,fun j f i hi=> ?_⟩;rw[World.cell?_of_block (a:=(jb5 b (off+j*1+i))) (ky hb (hne (jb5 b off) hp c))];exact hc j f i hi
theorem pg {α : Type} [Inhabited α] {enc: α -> List Z} {w:I} {g n base:Nat} {os:Array Obj} {d:Array α} (hb:base<=g) (hs:base<=w.heap.size):Go.RowKit.Below base w (sortWorldK enc 2 w g 0 n d os) :=
 ⟨rfl,rfl,rfl,j9,fun k c=>ky (by omega) (by omega)⟩
theorem qF (l:List Itm):l.attach.map Subtype.val=l:=by simp
theorem vH {w:I} {g:Nat} {l:List Itm} [Inhabited (InT l)] (h:aC aE 2 w (jb4 g 0) l) (hf:∀j,w.frozen? (jb5 g j)=false):HoldsK (lB l) 2 w g 0 l.attach.toArray:=by
 intro t k;rw[size_flatK] at k;rw[get_flatK _ _ _ t k];simp only[List.size_toArray,List.length_attach] at k;have d:t / 2<l.length:=by omega
 refine ⟨?_,hf _⟩;obtain ⟨b,m,c,u,n⟩:=h.at d;obtain ⟨rfl,rfl⟩:g=b/\0=m:=by injection c with c;injection c with h1 h2;exact ⟨h1,h2⟩
 have f:t / 2<l.attach.toArray.size:=by simpa using d
 have e:(l.attach.toArray[t / 2]!).1=l[t / 2]:=by rw[getElem!_pos l.attach.toArray (t / 2) f];simp
 have:=n (t / 2) d (t % 2) (Nat.mod_lt _ (by omega));rw[show 0+t / 2*2+t % 2=0+t from by omega] at this;rw[this];unfold lB;rw[e];have r:t % 2<2:=Nat.mod_lt _ (by omega);match t % 2,r with
 | 0,_=>rfl
 | 1,_=>rfl
theorem AZ {w:I} {g:Nat} {l:List Itm} [Inhabited (InT l)] {d:Array (InT l)} (h:HoldsK (lB l) 2 w g 0 d) (hg:g<w.heap.size):aC aE 2 w (jb4 g 0) (d.toList.map Subtype.val):=by
 refine oR ⟨g,0,rfl,hg,fun j k i hi=> ?_⟩;have f:j<d.size:=by simpa using k
 have c:=(h (j*2+i) (by rw[size_flatK];omega)).1;rw[get_flatK _ _ _ _ (by omega)] at c;rw[show (j*2+i) / 2=j from by omega,show (j*2+i) % 2=i from by omega,getElem!_pos d j f] at c;rw[show 0+j*2+i=0+(j*2+i) from by omega,c];simp only[List.getElem_map,Array.getElem_toList];unfold lB;match i,hi with
 | 0,_=>rfl
 | 1,_=>rfl
def zw (fid:Nat) (cb:Array Z):Prop:=∀(x y:Itm) (w:I),aq w x.p x.r->aq w y.p y.r->x.r.length<=maxLen->U V fid (#[ib (aE x).toArray,ib (aE y).toArray]++cb) w fun e w'=>e= .returned (Y H (aw x.r y.r))/\∃q os',w'=grow (w.drewN q) os'

theorem B6 (h:Nat) (cb:Array Z) (eg:∀E w,(callFunc h E).run V w= .ok (.enter h E) w) (ah:zw h cb) (g cap:Nat) (l:List Itm) (w:I) (a0:l≠[]) (F:aC aE 2 w (jb4 g 0) l) (hf:∀j,w.frozen? (jb5 g j)=false) (hg:g<w.heap.size) (he:∀x∈l,aq w x.p x.r/\x.r.length<=maxLen/\(x.p=none->x.c=0)/\(∀a,x.p=some a->x.r≠[]->a.block≠g)) (a1:l.length<4611686018427387904) :
  U V 154 #[O (jb4 g 0) l.length cap,.func (.func h) #[] cb] w fun e w'=>e= .returned (.tuple #[])/\(∃S:List Itm,S.Perm l/\dF (S.map Itm.z)/\Items w' (jb4 g 0) S)/\∀d,d<=g->d<=w.heap.size->Go.RowKit.Below d w w':=by
 obtain ⟨x0,a2⟩:∃x,x∈l:=List.exists_mem_of_ne_nil l a0;haveI:Inhabited (InT l):=⟨⟨x0,a2⟩⟩;have ao:CmpLays V h cb (lB l) 2 (xZ l) g 0 l.attach.toArray.size w:=fun m os dk _ x y =>ah x.1 y.1 _ (j6 (he _ x.2).1 (he _ x.2).2.2.2) (j6 (he _ y.2).1 (he _ y.2).2.2.2) (he _ x.2).2.1
 have k:=AnyQ.slices_SortFunc Tryz.sortItm 2 Tryz.isAgg101 Tryz.sizeOf101 (lB l) (fun _=>rfl) (fun x=>gh x.1) (xZ l) (B9 l) h cb g 0 cap l.attach.toArray w eg ao (vH F hf) hg (by simpa using a1);change U V 154 _ _ _ at k;simp only[List.size_toArray,List.length_attach] at k;refine k.mono ?_;rintro e w' ⟨ap,f,n,os,hp,hs,hw⟩;obtain ⟨C,_,u⟩:=hp;simp only[List.size_toArray,List.length_attach] at C;have e1:f.extract 0 l.length=f:=by rw[<-C];exact Array.extract_size
 have e2:(l.attach.toArray.extract 0 l.length).toList=l.attach:=by simp only[List.extract_toArray,List.drop_zero,Nat.sub_zero,List.extract_eq_take_drop];exact List.take_of_length_le (by simp)
 rw[e1,e2] at u;have ak:(f.toList.map Subtype.val).Perm l:=by have:=u.map Subtype.val;rwa [qF] at this
 refine ⟨ap,⟨f.toList.map Subtype.val,ak,?_,?_,?_⟩,fun d h1 h2=>by rw[hw];exact pg h1 h2⟩
 ·unfold dF;rw[List.map_map,List.pairwise_map,List.pairwise_iff_getElem];intro i j hi hj aL;have R:i<f.size:=by simpa using hi
  have ad:j<f.size:=by simpa using hj
  have:=hs i j (nZ _) aL (by omega);rw[getElem!_pos f j ad,getElem!_pos f i R,yB,decide_eq_false_iff_not] at this;have e3:=cR (f[j]'ad).1.r (f[i]'R).1.r;show aw (f[i]'R).1.r (f[j]'ad).1.r<=0;omega
 ·have an:HoldsK (lB l) 2 w' g 0 f:=by rw[hw];refine holdsK_grow _ _ _ _ _ _ _ (by simp[putRowK];exact hg) ?_;exact holdsK_putRowK _ _ _ _ _ l.attach.toArray _ (holdsK_ahead _ _ _ _ _ _ _ (vH F hf)) (by simp[C])
  exact AZ an (by rw[hw];exact nL hg j9)
 ·intro x hx;have D:=he x (ak.mem_iff.1 hx);rw[hw];exact ⟨j6 D.1 D.2.2.2,D.2.1,D.2.2.1⟩

theorem uQ:zw 155 #[]:=by intro x y w k l j;have d:=ja3 k l j;clear k l j;show U V 155 #[ib #[O x.p x.r.length x.c,Y H x.n],ib #[O y.p y.r.length y.c,Y H y.n]] w _;go_enter Tryz.func155,Tryz.ntmps155;go_wp2_with fail;have h:Gr w ((w.alloc (X #[O x.p x.r.length x.c,Y H x.n] 101)).alloc (X #[O y.p y.r.length y.c,Y H y.n] 101)):=((gR _).alloc _).alloc _;refine (fw x.r y.r x.p y.p x.c y.c _ d.out.2.2 (d.out.1.gr h) (d.out.2.1.gr h)).mono ?_;rintro e w' ⟨rfl,g⟩;have f:=ja1 (h.trans g);clear h g;go_wp2;go_ret;exact ⟨rfl,f.out⟩

theorem xu (f:Nat) (eg:∀g w,(callFunc f g).run V w= .ok (.enter f g) w) (m:zw f #[]) (d:Nat) (v:Z) (l:List Itm) (w:I) (n:ae aE 2 101 w d v l) (hb:d<=w.heap.size) (he:∀x∈l,aq w x.p x.r/\x.r.length<=maxLen/\(x.p=none->x.c=0)/\(∀a,x.p=some a->x.r≠[]->a.block<d)) (ao:l.length<4611686018427387904) :
  U V 154 #[v,.func (.func f) #[] #[]] w fun e w'=>e= .returned (.tuple #[])/\(∃(S:List Itm) (A:Option J) (cap:Nat),v= O A S.length cap/\S.Perm l/\dF (S.map Itm.z)/\Items w' A S/\(A=none->cap=0))/\Go.RowKit.Below d w w':=by
 obtain ⟨A,cap,rfl,hA,j,aL,an,ah⟩:=ae.full bO n;by_cases D:l=[]
 ·subst D;have h:=AnyF.slices_SortFunc_none Tryz.sortItm A cap (.func (.func f) #[] #[]) w;change U V 154 _ _ _ at h;refine h.mono ?_;rintro e w' ⟨ad,rfl⟩;exact ⟨ad,⟨[],A,cap,rfl,List.Perm.refl _,List.Pairwise.nil,⟨oL rfl,fun x hx=>absurd hx (by simp)⟩,hA⟩,bR _ _⟩
 ·have u:0<l.length:=List.length_pos_iff.2 D;obtain ⟨b,ap,F,R,_⟩:=j.at u;subst F;have E:=an _ rfl;obtain rfl:ap=0:=E.2.2.1;refine (B6 f #[] eg m b cap l w D j (ah _ rfl) R (fun x hx=> ?_) ao).mono ?_
  ·have C:=he x hx;refine ⟨C.1,C.2.1,C.2.2.1,fun a ha hr=> ?_⟩;have h7:=C.2.2.2 a ha hr;have h8:d<=b:=E.1;omega
  ·rintro e w' ⟨he,⟨S,hp,hs,ak⟩,k⟩;exact ⟨he,⟨S,_,cap,by rw[hp.length_eq],hp,hs,ak,hA⟩,k d E.1 hb⟩


theorem bA (w:I) {ops:Array Oper} {d:List Oper} {o:Oper} {a:Act} {Q:Exit->Act->I->Prop} (k:o.guard=none) (s x:Operand)
  (F:o.op= .call { callee:= .builtin .append,args:= #[s,x],argTypes:= #[59,59] })
  (c:Nat) (v:Z) (l m:List Itm) (A:Option J) (cap:Nat) (hs:a.eval s=v) (hx:a.eval x= O A m.length cap) (g:ae aE 2 101 w c v l) (R:aC aE 2 w A m) (C:A=none->cap=0)
  (n:l.length+m.length<=maxLen) (E:(l.length+m.length)*32<=140737488355328) (f:c<=w.heap.size)
  (h:∀j w',ae aE 2 101 w' c j (l++m)->w.grownBy w' v.ownBlock->wpList V ops Q d (a.put o.dst j) w'):wpList V ops Q (o::d) a w :=
 wpList_plain k fun _ D=>dL bO gh (by omega) 59 Tryz.underlying59 (ib #[O none 0 0,Y H 0]) 32 Tryz.infoT rfl w s x F c v l m A cap hs hx g R C n E f fun j w' r u=>D _ _ (h j w' r u)
theorem vw (n:Nat) (w:I) (C:n<=100000) :
  U V 178 #[O none 0 0,Y H n] w fun e w'=>∃v,e= .returned v/\ae aE 2 101 w' w.heap.size v []/\jb2 w w':=by
 obtain ⟨m,hi,f,l,g⟩:=info_parts Tryz.infoT;by_cases k:n=0
 ·subst k;go_enter Tryz.func178,Tryz.ntmps178;go_wp2;go_ret;exact ⟨_,rfl,ae.nil _ _ _ _ _,bR _ _⟩
 ·have h:(0:Int)<(n:Int):=by omega
  go_enter Tryz.func178,Tryz.ntmps178;have d:=fun r=>Lib.run_append_nil_zeros (P:=V) w 59 3 r 101 m _ H H Tryz.underlying59 Tryz.underlying3 hi f n (by omega) (by omega) (by omega) (by rw[g];omega);have c:Hid (ae aE 2 101 (w.drew.alloc (X (Builtin.zeroCells (Value.agg #[O none 0 0,Y H 0]).cells n++Builtin.zeroCells (Value.agg #[O none 0 0,Y H 0]).cells (grownCap w n 0 101-n)) 101)) w.heap.size (O (jb4 w.heap.size 0) 0 (grownCap w n 0 101)) []/\jb2 w (w.drew.alloc (X (Builtin.zeroCells (Value.agg #[O none 0 0,Y H 0]).cells n++Builtin.zeroCells (Value.agg #[O none 0 0,Y H 0]).cells (grownCap w n 0 101-n)) 101))):=by refine ⟨⟨by simp[bu],.inr ⟨w.heap.size,_,_,rfl,nR _,heap_alloc_new w.drew _,nZ _,grownCap_le_maxLen _ _ _ _ (by unfold maxLen;omega),?_,by simp[bu]⟩⟩,((gR w).drew.alloc _).below⟩;have u:=grownCap_ge w n 0 101;have j:(Value.agg #[O none 0 0,Y H 0]).cells.size=2:=rfl;rw[Array.size_append,size_zeroCells,size_zeroCells,j];omega
  go_wp2_with (at_builtin;refine Lib.wpList_append_run _ rfl _ _ _ _ rfl _ _ rfl rfl _ _ (d _) ?_);go_ret;exact ⟨_,rfl,c.out.1,c.out.2⟩

structure Sl where
 A:Option J
 cap:Nat
 l:List Itm
def dW (x:Sl):List Z:=[O x.A x.l.length x.cap]
theorem pC {c:List Sl} (h:c.length<=2) (d:∀s∈c,s.l.length<=400):(c.flatMap (·.l)).length<=800:=by
 match c,h with
 | [],_=>simp
 | [a],_=>have:=d a (by simp);simp;omega
 | [a,b],_=>have f:=d a (by simp);have g:=d b (by simp);simp;omega
theorem nu {c:List Sl} {k:Nat} (d:k<c.length):(c.take (k+1)).flatMap (·.l)=(c.take k).flatMap (·.l)++c[k].l:=by rw[List.take_succ_eq_append_getElem d,List.flatMap_append,List.flatMap_cons,List.flatMap_nil,List.append_nil]
theorem s6 {c:List Sl} (k:Nat):((c.take k).flatMap (·.l)).length<=(c.flatMap (·.l)).length:=by
 conv=>rhs;rw[<-List.take_append_drop k c,List.flatMap_append,List.length_append]
 omega

theorem qN (c:List Sl) (B:Option J) (cb:Nat) (w:I) (a0:aC dW 1 w B c) (aL:c.length<=2) (a2:∀s∈c,aC aE 2 w s.A s.l/\(s.A=none->s.cap=0)/\s.l.length<=400) :
  U V 153 #[O B c.length cb] w fun e w'=>∃v,e= .returned v/\ae aE 2 101 w' w.heap.size v (c.flatMap (·.l))/\jb2 w w':=by
 have u:Hid ((c.flatMap (·.l)).length<=800):=pC aL fun s R=>(a2 s R).2.2;have ap:=ja2 a0 a2;go_enter Tryz.func153,Tryz.ntmps153;go_wp2;go_loopw [3,11] (fun n i wr=>∃k:Nat,k<=c.length/\i= Y H k/\n= Y H (((c.take k).flatMap (·.l)).length:Nat)/\wr=w) (fun _ i _=>c.length-(intOf i).toNat);exact ⟨0,nZ _,rfl,by simp,rfl⟩;obtain ⟨k,hk,rfl,rfl,rfl⟩:=hrel;by_cases f:k<c.length
 ·have D:(k:Int)<(c.length:Int):=by omega
  obtain ⟨b,E,rfl,hb,ah⟩:=ap.out.1.at f;have e0:=ah k f 0 (by omega);obtain ⟨s,R⟩:=jb0 (c[k]);rw[R] at e0;have e1:jb1 wr b (E+k) (O s.A s.l.length s.cap):=by simpa[dW] using e0
  have r:Hid (((c.take (k+1)).flatMap (·.l)).length=((c.take k).flatMap (·.l)).length+s.l.length):=by show _=_;rw[nu f,R,List.length_append]
  have C:((c.take (k+1)).flatMap (·.l)).length<=800:=nT (s6 _) u.out;rw[r.out] at C;obtain ⟨m,hm⟩:=jb0 ((c.take k).flatMap (·.l)).length;rw[hm] at C ⊢;have a6:=ja1 hm;go_wp2;go_roundw;case rel =>refine ⟨k+1,by omega,by go_num,?_,by trivial⟩;rw[r.out,a6.out];go_num
  case measure=>simp[intOf];omega
 ·have D:¬(k:Int)<(c.length:Int):=by omega
  have ak:c.take k=c:=List.take_of_length_le (by omega);rw[ak];have a5:=vw (c.flatMap (·.l)).length wr (by have:=u.out;omega);have F:Hid _:=a5;obtain ⟨N,hN⟩:=jb0 (c.flatMap (·.l)).length;rw[hN] at F ⊢;go_wp2_with fail;refine ja0 F ?_;rintro e w1 ⟨v0,rfl,an,a3⟩;go_wp2;go_loopw [6,27] (fun v i w2=>∃k:Nat,k<=c.length/\i= Y H k/\ae aE 2 101 w2 wr.heap.size v ((c.take k).flatMap (·.l))/\jb2 wr w2) (fun _ i _=>c.length-(intOf i).toNat);exact ⟨0,nZ _,rfl,by simpa using an,a3⟩;rename I=>w2;obtain ⟨k,hk,rfl,j,d⟩:=hrel;by_cases f:k<c.length
  ·have D:(k:Int)<(c.length:Int):=(by omega);obtain ⟨b,E,rfl,hb,ah⟩:=ap.out.1.at f;have e0:=ah k f 0 (by omega);obtain ⟨s,R⟩:=jb0 (c[k]);rw[R] at e0;have e1:jb1 w2 b (E+k) (O s.A s.l.length s.cap):=(d.cell (p:=(jb5 b (E+k))) hb).trans (by simpa[dW] using e0);have r:Hid ((c.take (k+1)).flatMap (·.l)=(c.take k).flatMap (·.l)++s.l):=by show _=_;rw[nu f,R]
   have C:((c.take (k+1)).flatMap (·.l)).length<=800:=nT (s6 _) u.out;rw[r.out,List.length_append] at C;have a1:=ap.out.2 s (by rw[<-R];exact gM f);obtain ⟨M,hM⟩:=jb0 ((c.take k).flatMap (·.l));rw[hM] at j r C;have g:Hid (aC aE 2 w2 s.A s.l/\(s.A=none->s.cap=0)/\ae aE 2 101 w2 wr.heap.size u6 M/\M.length+s.l.length<=maxLen/\(M.length+s.l.length)*32<=140737488355328/\wr.heap.size<=w2.heap.size):=⟨a1.1.below d,a1.2.1,j,by unfold maxLen;omega,by omega,d.size⟩;have ad:=ja1 d;go_wp2_with (at_builtin;refine bA _ rfl (.tmp 31) (.tmp 32) rfl wr.heap.size u6 M s.l s.A s.cap rfl rfl g.out.2.2.1 g.out.1 g.out.2.1 g.out.2.2.2.1 g.out.2.2.2.2.1 g.out.2.2.2.2.2 ?_;intro v3 w3 ao a4);have h:=ja1 (ad.out.trans (ae.grown_below g.out.2.2.1 a4 g.out.2.2.2.2.2));go_roundw;exact ⟨k+1,by omega,by go_num,by rw[r.out];exact ao,h.out⟩;simp[intOf];omega
  ·have D:¬(k:Int)<(c.length:Int):=(by omega);have ak:c.take k=c:=List.take_of_length_le (by omega);rw[ak] at j;have h:=ja2 j d;go_wp2;go_ret;exact ⟨u6,rfl,h.out.1,h.out.2⟩

end Go.Proofs.YtbkjgjjpnfhkhaaGreatDoor
