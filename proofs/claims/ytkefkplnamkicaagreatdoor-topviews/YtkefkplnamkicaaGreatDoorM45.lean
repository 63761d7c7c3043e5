/-
  The queries that TopViews keeps of each node, in a map: where they lie, and what a call on the net leaves of them.
-/
import Derived.Test.YtkefkplnamkicaaGreatDoorM44
set_option maxRecDepth 100000
set_option maxHeartbeats 8000000
open Go.Value renaming slice → I
namespace Go.Proofs.YtkefkplnamkicaaGreatDoor
open Go.RowKit Go.Sort Go.Maps

structure Qm where
 q:List Stp
 A:Option Addr
 c:Nat
def gT (p:Qm):List Value:=[I p.A p.q.length p.c]
theorem fS (p:Qm):(gT p).length=1:=rfl
theorem uC (p:Qm):∀u∈gT p,u.oneCell'=true:=by
 intro u hu
 rw[List.mem_singleton.1 hu]
 rfl
theorem Av:(Tryz.prog.info? 54).map (fun i=>(i.zero,i.size,i.bytes))=some (some (I none 0 0),1,24):=by kernel_rfl
def tz (v:Value):Option (DataW Value×List MemPlace):=some (.held v,[])
def MqK (G:Nat) (vs:Nat→Value) (b:Nat):Prop:=b=G∨∃i,i<4∧(vs i).ownBlock=some b
structure Mqs (w wr:World) (B G n:Nat) (M:NetM) (Q:Nat→List (List Stp)) (vs:Nat→Value) (ls:Nat→List Qm):Prop where
 net:∃P,NetP wr B P M Q∧∀b,P b→¬MqK G vs b
 map:∃D:DataW Value,wr.ownsMap Tryz.prog 3 tz G n D∧∀i:Nat,i<4→D.atKey (.int .i64 i) (.held (I none 0 0))= .held (vs i)
 own:∀i,i<4→af gT 1 54 wr w.heap.size (vs i) (ls i)
 apart:∀i j,i<4→j<4→i≠j→∀b,(vs i).ownBlock=some b→(vs j).ownBlock≠some b
 stp:∀i,i<4→∀p∈ls i,StP (fun b=>¬MqK G vs b∧b≠B) wr p.A p.q∧p.q.length≤1024
 out:¬MqK G vs B
 bel:Below w.heap.size w wr
 hB:w.heap.size≤B
 hG:w.heap.size≤G
section
variable {w wr w':World} {B G n:Nat} {M:NetM} {Q:Nat→List (List Stp)} {vs:Nat→Value} {ls:Nat→List Qm}
theorem MqK.lt (h:Mqs w wr B G n M Q vs ls) {b:Nat} (hb:MqK G vs b):b<wr.heap.size:=by
 rcases hb with rfl|⟨i,hi,hb⟩
 ·obtain ⟨D,h1,_⟩:=h.map
  exact h1.lt
 ·exact (World.ownsRow.lt (h.own i hi) b hb).2
theorem Mqs.ne (h:Mqs w wr B G n M Q vs ls) {i:Nat} (hi:i<4):some G≠(vs i).ownBlock:=by
 intro e
 obtain ⟨D,⟨es,clock,hb,_⟩,_⟩:=h.map
 rcases (h.own i hi).2 with ⟨hv,_⟩|⟨g,cap,cur,hv,_,hg,_⟩
 ·rw[hv] at e;cases e
 ·rw[hv] at e
  obtain rfl:G=g:=by simpa[Value.ownBlock] using e
  rw[hb] at hg
  cases hg
theorem Mqs.did (h:Mqs w wr B G n M Q vs ls) {P:Nat→Prop} (hk:∀b,P b→¬MqK G vs b) {M':NetM} {Q':Nat→List (List Stp)} (k:bk wr B P w' M' Q'):Mqs w w' B G n M' Q' vs ls:=by
 obtain ⟨⟨P',k1,k2⟩,k3⟩:=k
 obtain ⟨D,d1,d2⟩:=h.map
 have hlt:∀b,MqK G vs b→b<wr.heap.size:=fun b hb=>MqK.lt h hb
 have hg:=k3.grown
 refine ⟨⟨P',k1,fun b hb hm=> ?_⟩,⟨D,d1.kept hg fun e=>h.out (oL (sI e).symm),d2⟩,fun i hi=>(h.own i hi).keep hg ?_,h.apart,fun i hi p hp=>⟨(h.stp i hi p hp).1.agr (k3.agr fun k=>k.2 rfl),(h.stp i hi p hp).2⟩,h.out,Wr.after h.bel k3 h.hB,h.hB,h.hG⟩
 ·rcases k2 b hb with k|k
  ·exact hk b k hm
  ·exact absurd (hlt b hm) (by omega)
 ·exact oR fun e=>h.out (oR ⟨i,hi,e⟩)
theorem Mqs.below (h:Mqs w wr B G n M Q vs ls) (k:Below wr.heap.size wr w'):Mqs w w' B G n M Q vs ls:=by
 obtain ⟨P,h1,h2⟩:=h.net
 exact h.did h2 (bk.same h1 k)
theorem Mqs.start (hb:Below w.heap.size w wr) (hN:NetP wr B (fun _=>False) M Q) (hB:w.heap.size≤B):Mqs w (wr.alloc (.map #[] 0)) B wr.heap.size 0 M Q (fun _=> I none 0 0) (fun _=>[]):=by
 have hg:Gr wr (wr.alloc (.map #[] 0)):=(gR wr).alloc _
 refine ⟨⟨_,hN.below hg.below,fun _ h=>h.elim⟩,⟨.map [],World.ownsMap_made _ _ _ _,fun i _=>rfl⟩,fun _ _=>af.nil _ _ _ _ _,fun i j _ _ _ b hb=>(by cases hb),fun i _ p hp=>(by cases hp),?_,hb.trans (hg.below.mono hb.size),hB,hb.size⟩
 rintro (e|⟨i,_,e⟩)
 ·have:=hN.lt;omega
 ·cases e
theorem StP.inh {P:Nat→Prop} {A:Option Addr} {q:List Stp} (h:StP P wr A q):StP (fun b=>P b∧b<wr.heap.size) wr A q :=
 ⟨h.st,fun a ha hl=>⟨h.arr a ha hl,h.st.row.lt a ha hl⟩,fun s hs a ha hl=>⟨h.rows s hs a ha hl,(h.st.each s hs).1.lt a ha hl⟩⟩
theorem Mqs.look (h:Mqs w wr B G n M Q vs ls) {i:Nat} (hi:i<4):(Instr.lookup 53 (.map (some G)) (.int .i64 i) false).run Tryz.prog wr= .ok (vs i) wr:=by
 obtain ⟨D,d1,d2⟩:=h.map
 obtain ⟨v,ps,h1,h2⟩:=d1.lookup sE Tryz.underlying53 (z:= I none 0 0) (by kernel_rfl) (zd:= .held (I none 0 0)) (zp:=[]) rfl (key:= .int .i64 i) (kl:= .int .i64 i) (keyOf_int_mk Tryz.underlying3 (WalkArith.wf_i64 ⟨by omega,by omega⟩))
 rw[d2 i hi] at h2
 have:v=vs i:=by
  unfold tz at h2
  simp only[Option.some.injEq,Prod.mk.injEq,DataW.held.injEq] at h2
  exact h2.1
 rw[h1,this]
structure Mqh (w w0 wr:World) (B G n:Nat) (M:NetM) (Q:Nat→List (List Stp)) (vs:Nat→Value) (ls:Nat→List Qm) (i:Nat) (v:Value) (p:Qm):Prop where
 old:Mqs w w0 B G n M Q vs ls
 gr:w0.grownBy wr (vs i).ownBlock
 own:af gT 1 54 wr w.heap.size v (ls i++[p])
 at':v.ownBlock=(vs i).ownBlock∨v.ownBlock=some w0.heap.size
 stp:StP (fun b=>¬MqK G vs b∧b≠B) w0 p.A p.q∧p.q.length≤1024
def vI (vs:Nat→Value) (i:Nat) (v:Value):Nat→Value:=fun j=>if j=i then v else vs j
def nW (ls:Nat→List Qm) (i:Nat) (l:List Qm):Nat→List Qm:=fun j=>if j=i then l else ls j
theorem Mqh.put {w0:World} {i:Nat} {v:Value} {p:Qm} (h:Mqh w w0 wr B G n M Q vs ls i v p) (hi:i<4) (hn:n<1000):∃w',(Instr.mapUpdate 53 (.map (some G)) (.int .i64 i) v).run Tryz.prog wr= .ok () w'∧Mqs w w' B G (n+1) M Q (vI vs i v) (nW ls i (ls i++[p]))∧∀b,b<w0.heap.size→¬MqK G vs b→w'.heap[b]? = w0.heap[b]? := by
 obtain ⟨D,d1,d2⟩:=h.old.map
 have d1':=d1.kept h.gr (h.old.ne hi)
 obtain ⟨w',u1,u2,u3⟩:=d1'.update sE Tryz.underlying53 (by unfold maxLen;omega) (key:= .int .i64 i) (val:=v) (kl:= .int .i64 i) (d:= .held v) (ps:=[]) (keyOf_int_mk Tryz.underlying3 (WalkArith.wf_i64 ⟨by omega,by omega⟩)) rfl
 have hself:vI vs i v i=v:=if_pos rfl
 have hoth:∀j,j≠i→vI vs i v j=vs j:=fun j hj=>if_neg hj
 -- the blocks of the map behind it: those ahead of it, and perhaps a new one
 have hK:∀b,MqK G (vI vs i v) b→MqK G vs b∨b=w0.heap.size:=by
  rintro b (rfl|⟨j,hj,hb⟩)
  ·exact oL (oL rfl)
  ·by_cases e:j=i
   ·subst e
    rw[hself] at hb
    rcases h.at' with k|k
    ·exact oL (oR ⟨j,hj,by rw[←k];exact hb⟩)
    ·rw[k] at hb;exact oR (sI hb).symm
   ·rw[hoth j e] at hb
    exact oL (oR ⟨j,hj,hb⟩)
 obtain ⟨P,p1,p2⟩:=h.old.net
 -- blocks that aren't the map's are as they were
 have hb0:∀b,b<w0.heap.size→¬MqK G vs b→w'.heap[b]? = w0.heap[b]? := fun b hb hk=>by
  rw[u3.block b (Nat.lt_of_lt_of_le hb h.gr.size) fun e=>hk (Or.inl (Option.some.inj e)),h.gr.block b hb fun e=>hk (Or.inr ⟨i,hi,e.symm⟩)]
 have hsz:w0.heap.size≤w'.heap.size:=nT h.gr.size u3.size
 have hag:Agr (fun b=>¬MqK G vs b∧b≠B) w0 w':=⟨hsz,fun b hb hl=>hb0 b hl hb.1⟩
 have hst:∀ {A:Option Addr} {q:List Stp},StP (fun b=>¬MqK G vs b∧b≠B) w0 A q→StP (fun b=>¬MqK G (vI vs i v) b∧b≠B) w' A q:=fun {A q} hq=>by
  have h1:=hq.inh
  refine (h1.agr (hag.mono fun b k=>k.1)).mono fun b k=>⟨fun hk=> ?_,k.1.2⟩
  rcases hK b hk with hk|hk
  ·exact k.1.1 hk
  ·have:=k.2;omega
 have hGn:v.ownBlock≠some G:=by
  rcases h.at' with k|k
  ·rw[k];exact fun e=>h.old.ne hi e.symm
  ·rw[k];intro e;have:=d1.lt;injection e with e;omega
 have hbl:Below w.heap.size w w':=by
  have h1:=(h.old.bel).trans ((h.old.own i hi).grown_below h.gr h.old.bel.size)
  exact h1.grown u3 h1.size fun j ej=>by cases ej;exact h.old.hG
 refine ⟨w',u1,⟨⟨P,p1.keep (hb0 B p1.lt h.old.out) ⟨hsz,fun b hb hl=>hb0 b hl (p2 b hb)⟩,fun b hb hk=> ?_⟩,⟨_,u2,fun j hj=> ?_⟩,fun j hj=> ?_,fun j k hj hk hjk b hb=> ?_,fun j hj x hx=> ?_,fun hk=> ?_,hbl,h.old.hB,h.old.hG⟩,hb0⟩
 ·rcases hK b hk with hk|hk
  ·exact p2 b hb hk
  ·have:=p1.up b hb;omega
 ·by_cases e:j=i
  ·subst e
   rw[hself]
   exact atKey_put_same d1'.isMap (show WideAt.IsKeyLit (.int .i64 (j:Int)) from trivial) _ _
  ·rw[hoth j e,atKey_put_other (fun k=>e (by injection k with _ k;omega)),d2 j hj]
 ·by_cases e:j=i
  ·subst e
   rw[hself,show nW ls j (ls j++[p]) j=ls j++[p] from if_pos rfl]
   exact h.own.keep u3 (oR hGn)
  ·rw[hoth j e,show nW ls i (ls i++[p]) j=ls j from if_neg e]
   refine ((h.old.own j hj).keep h.gr ?_).keep u3 (oR fun k=>h.old.ne hj k.symm)
   cases hv:(vs j).ownBlock with
   | none=>exact oL rfl
   | some x=>exact oR fun k=>h.old.apart j i hj hi e x hv k.symm
 ·have hnew:∀x y,x<4→x≠i→(vs x).ownBlock=some y→y<w0.heap.size:=fun x y hx _ hy=>(World.ownsRow.lt (h.old.own x hx) y hy).2
  by_cases e:j=i
  ·subst e
   rw[hself] at hb
   rw[hoth k fun e=>hjk e.symm]
   rcases h.at' with k1|k1
   ·rw[k1] at hb;exact h.old.apart j k hj hk hjk b hb
   ·rw[k1] at hb
    intro k2
    have:=hnew k b hk (fun e=>hjk e.symm) k2
    injection hb with hb
    omega
  ·rw[hoth j e] at hb
   by_cases e2:k=i
   ·subst e2
    rw[hself]
    rcases h.at' with k1|k1
    ·rw[k1];exact h.old.apart j k hj hk hjk b hb
    ·rw[k1]
     intro k2
     have:=hnew j b hj e hb
     injection k2 with k2
     omega
   ·rw[hoth k e2]
    exact h.old.apart j k hj hk hjk b hb
 ·by_cases e:j=i
  ·subst e
   rw[show nW ls j (ls j++[p]) j=ls j++[p] from if_pos rfl] at hx
   rcases List.mem_append.1 hx with hx|hx
   ·exact ⟨hst (h.old.stp j hj x hx).1,(h.old.stp j hj x hx).2⟩
   ·rw[List.mem_singleton.1 hx]
    exact ⟨hst h.stp.1,h.stp.2⟩
  ·rw[show nW ls i (ls i++[p]) j=ls j from if_neg e] at hx
   exact ⟨hst (h.old.stp j hj x hx).1,(h.old.stp j hj x hx).2⟩
 ·rcases hK B hk with hk|hk
  ·exact h.old.out hk
  ·have:=p1.lt;omega
end
theorem Mqs.read {w wr w':World} {B G n:Nat} {M:NetM} {Q:Nat→List (List Stp)} {vs:Nat→Value} {ls:Nat→List Qm} (h:Mqs w wr B G n M Q vs ls) {A:Option Addr} {q:List Stp} (hs:Stps w' A q) (hn:NwQ wr.heap.size A q):StP (fun b=>¬MqK G vs b∧b≠B) w' A q:=by
 obtain ⟨P,h1,_⟩:=h.net
 have hl:=h1.lt
 have hne:∀b,wr.heap.size≤b→¬MqK G vs b∧b≠B:=fun b hb=>⟨fun k=>by have:=MqK.lt h k;omega,by omega⟩
 exact ⟨hs,fun a ha _=>hne _ (hn.1 a ha),fun s hs a ha _=>hne _ (hn.2 s hs a ha)⟩
section
variable (w:World) {ops:Array Oper} {o:Oper} {a:Act} {K:Act→World→Prop} {Q:Exit→Act→World→Prop} {E:Prop} (hgd:o.guard=none)
include hgd
theorem nP (s z:Operand) (ho:o.op= .call { callee:= .builtin .append,args:= #[s,z],argTypes:= #[57,57] })
  (base:Nat) (v:Value) (l:List Qm) (x:Qm) (A:Addr) (cap:Nat) (hs:a.eval s=v) (hz:a.eval z= I (some A) 1 cap) (hown:af gT 1 54 w base v l) (hr:au gT 1 w (some A) [x]) (hml:l.length≤1000) (hbase:base≤w.heap.size)
  (h:∀v' w',af gT 1 54 w' base v' (l++[x])→w.grownBy w' v.ownBlock→(v'.ownBlock=v.ownBlock∨v'.ownBlock=some w.heap.size)→K (a.put o.dst v') w') :
  if Region.wanted o (yielded ops a.tmps)=true then Oper.wp Tryz.prog o a w K Q else E:=by
 have hw:Region.wanted o (yielded ops a.tmps)=true:=by simp[Region.wanted,hgd]
 rw[if_pos hw]
 obtain ⟨i0,hi,hz0,hz1,hz2⟩:=info_parts Av
 obtain ⟨v',w',g1,g2,g3,_,g5⟩:=run_append_own_at (P:=Tryz.prog) w base 57 o.type 54 i0 (I none 0 0) 1 24 Tryz.underlying57 hi hz0 hz1 hz2 rfl (by omega) v l.length (aI gT l) hown A 1 cap (aI gT [x]) (bi fS [x]) (hr.cells fS (by omega)) (fun u hu=>dq uC u [x] hu) (by unfold maxLen;omega) (by omega) hbase
 have h2:af gT 1 54 w' base v' (l++[x]):=by
  show w'.ownsRow base _ 1 v' (l++[x]).length (aI gT (l++[x]))
  rw[List.length_append,cg]
  exact g2
 unfold Oper.wp execOp
 simp only[ho,resolve,invoke,builtin,Sem.run_bind,Sem.run_pure,Result.andThen_ok,List.map_toArray,List.map_cons,List.map_nil,hs,hz,g1]
 exact h v' w' h2 g3 g5
end
def QR (Q:Nat→List (List Stp)) (ls:Nat→List Qm):Prop:=∀i,i<4→(ls i).map (fun p=>p.q.map bare)=(Q i).map (·.map bare)
theorem zn {x:List UInt8} {N:NetM} {y:Hap} {Q Q':Nat→List (List Stp)} {er f:Int} {r:List Stp} (h:py x N y Q er Q') (k:eC x r f) :
  (y.k=5∧er=0∧f=0∧isN y.a∧∃q,q.map bare=r.map bare∧Q'=eo Q y.a.toNat (Q y.a.toNat++[q]))∨(¬(y.k=5∧er=0∧f=0)∧Q'=Q):=by
 rcases h with ⟨h,_,h2⟩|⟨h5,h⟩
 ·exact oR ⟨fun e=>h e.1,h2⟩
 rcases h with ⟨_,h1,h2⟩|⟨ha,q,ep,hp,⟨h1,h2,h3⟩|⟨h1,h2,h3⟩⟩
 ·exact oR ⟨fun e=>by omega,h2⟩
 ·exact oR ⟨fun e=>h1 (h2.symm.trans e.2.1),h3⟩
 ·by_cases he:er=0
  ·obtain ⟨f0,hb⟩:=jr hp.parsed k h1
   have hw:wtE q (Q y.a.toNat)=0:=h2.symm.trans he
   refine oL ⟨h5,he,f0,ha,q,hb,?_⟩
   rw[h3]
   congr 1
   unfold wtQ
   rw[if_pos hw]
  ·refine oR ⟨fun e=>he e.2.1,?_⟩
   have hw:¬wtE q (Q y.a.toNat)=0:=fun e=>he (h2.trans e)
   have hq:wtQ q (Q y.a.toNat)=Q y.a.toNat:=by unfold wtQ;rw[if_neg hw]
   rw[h3,hq,iX]
theorem QR.more {Q:Nat→List (List Stp)} {ls:Nat→List Qm} (h:QR Q ls) {i:Nat} {q:List Stp} {p:Qm} (hb:q.map bare=p.q.map bare):QR (eo Q i (Q i++[q])) (nW ls i (ls i++[p])):=fun j hj=>by
 by_cases e:j=i
 ·subst e
  rw[show nW ls j (ls j++[p]) j=ls j++[p] from if_pos rfl,show eo Q j (Q j++[q]) j=Q j++[q] from if_pos rfl,List.map_append,List.map_append,h j hj,List.map_singleton,List.map_singleton,hb]
 ·rw[show nW ls i (ls i++[p]) j=ls j from if_neg e,show eo Q i (Q i++[q]) j=Q j from if_neg e]
  exact h j hj
theorem QR.at {Q:Nat→List (List Stp)} {ls:Nat→List Qm} (h:QR Q ls) {i k:Nat} (hi:i<4) (hk:k<(ls i).length):∃hq:k<(Q i).length,(ls i)[k].q.map bare=(Q i)[k].map bare:=by
 have h1:=h i hi
 have hl:(ls i).length=(Q i).length:=by simpa using congrArg List.length h1
 refine ⟨by omega,?_⟩
 have:=congrArg (·[k]?) h1
 simpa[List.getElem?_eq_getElem hk,List.getElem?_eq_getElem (show k<(Q i).length by omega)] using this
end Go.Proofs.YtkefkplnamkicaaGreatDoor
