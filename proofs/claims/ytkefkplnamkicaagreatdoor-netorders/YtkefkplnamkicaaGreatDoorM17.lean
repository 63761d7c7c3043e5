/-
  query.parseLine: the step of a line.
  Steps of one's own: append, one by one.
  inc.copySteps: the same steps, in memory of their own.
  Memory that a node keeps: the blocks that it lies in (P), what writing one block leaves, and a block's cells.
  Numbers in order, each once; the cells of a right table are in range.
  The rows of a table: what zset.Of tells, and that it is a right set.
-/
import Derived.Test.YtkefkplnamkicaaGreatDoorM16
set_option maxRecDepth 100000
set_option maxHeartbeats 8000000
open Go.IntKind renaming i64 → I
open Go.Obj renaming cells → Z
open Go.Proofs.Tryz renaming prog → Y
open Go.Value renaming int → O, slice → J, string → H, tuple → U, agg → R, bool → F
namespace Go.Proofs.YtkefkplnamkicaaGreatDoor
open Go.RowKit Go.Sort

def ki:Stp:=fO 0
theorem yI (w:World):Box (w.alloc (Z #[O I 0,O I 0,O I 0,O I 0,O I 0,O I 0,J none 0 0] 105)) w.heap.size ki :=
 ⟨ab (gR _) rfl,ab (gR _) rfl,ab (gR _) rfl,ab (gR _) rfl,ab (gR _) rfl,ab (gR _) rfl,ab (gR _) rfl,fun j=>eP (gR _) j,by simp⟩
theorem ph {w:World} {B:Nat} {xs:List (List UInt8)} (h:uh w (some ⟨B,0,none⟩) xs) {j:Nat} (hj:j<xs.length):w.cell? ⟨B,j,none⟩=some (H ⟨xs[j].toArray⟩):=by
 obtain ⟨b,off,hA,_,hcs⟩:=h.at hj
 have e0:=hcs j hj 0 (by omega)
 simp only[Option.some.injEq,Addr.mk.injEq,and_true] at hA
 obtain ⟨rfl,rfl⟩:=hA
 simpa[yX] using e0

theorem js:∀(ps qs:List UInt8) (xs ys:List (List UInt8)) (s:Stp),ps.length=xs.length→dO s (ps++qs) (xs++ys)=match dO s ps xs with
  | none=>none
  | some t=>dO t qs ys
 | [],qs,[],ys,s,_=>rfl
 | p::ps,qs,x::xs,ys,s,h=>by
  rw[List.cons_append,List.cons_append,dO,dO]
  cases d9 s p x with
  | none=>rfl
  | some t=>exact js ps qs xs ys t (by simpa using h)
 | [],_,_::_,_,_,h=>by simp at h
 | _::_,_,[],_,_,h=>by simp at h
theorem vp {s t:Stp} (h:clr s=clr t) (p:UInt8) (x:List UInt8):(d9 s p x).map clr=(d9 t p x).map clr:=by
 obtain ⟨k,a,b,c,o,v,pp,n,l⟩:=s
 obtain ⟨k',a',b',c',o',v',pp',n',l'⟩:=t
 simp only[clr,Stp.mk.injEq,true_and] at h
 obtain ⟨rfl,rfl,rfl,rfl,rfl,rfl,rfl⟩:=h
 unfold d9
 split
 ·split<;>rfl
 ·split
  ·cases ja x<;>rfl
  ·cases ee x with
   | none=>rfl
   | some n =>
    simp only[Option.map]
    repeat' split
    all_goals rfl
def nY (k:Int) (ps:List UInt8) (r:List (List UInt8)) (b:Nat) (w w':World) (j:Nat):Prop:=∃t t',dO (fO k) (ps.take j) (r.take j)=some t∧clr t'=clr t∧Box w' b t'∧Good (b+1) w' t'∧Kept b w w'
theorem nY.next {k:Int} {ps:List UInt8} {r:List (List UInt8)} {j:Nat} {t:Stp} (hl:r.length=ps.length) (hj:j<ps.length) (hj2:j<r.length) (h:dO (fO k) (ps.take j) (r.take j)=some t):dO (fO k) (ps.take (j+1)) (r.take (j+1))=d9 t ps[j] r[j]:=by
 rw[List.take_succ_eq_append_getElem hj,List.take_succ_eq_append_getElem hj2,js _ _ _ _ _ (by simp;omega),h]
 show dO t [ps[j]] [r[j]]=_
 rw[dO]
 cases d9 t ps[j] r[j]<;>rfl
theorem nY.fail {k:Int} {ps:List UInt8} {r:List (List UInt8)} {j:Nat} (hl:r.length=ps.length) (h:dO (fO k) (ps.take j) (r.take j)=none):dO (fO k) ps r=none:=by
 have:=js (ps.take j) (ps.drop j) (r.take j) (r.drop j) (fO k) (by simp;omega)
 rw[List.take_append_drop,List.take_append_drop,h] at this
 exact this

theorem li (c:UInt8):∀x,∀z∈aH c x,z.length≤x.length
 | [],z,h=>by simp[aH] at h;simp[h]
 | b::r,z,h=>by
  have ih:=li c r
  rw[aH] at h
  split at h
  ·rcases List.mem_cons.1 h with rfl|h
   ·simp
   ·have:=ih z h;simp;omega
  ·cases e:aH c r with
   | nil=>exact absurd e (gl c r)
   | cons y t =>
    rw[e] at h ih
    simp only[List.mem_cons] at h
    rcases h with rfl|h
    ·have:=ih y (by simp);simp;omega
    ·have:=ih z (by simp[h]);simp;omega
theorem Box.under {w w':World} {b B:Nat} {s:Stp} (h:Box w b s) (hb:b<B) (k:Below B w w'):Box w' b s :=
 ⟨(k.cell (p:=⟨b,0,none⟩) hb).trans h.c0,(k.cell (p:=⟨b,1,none⟩) hb).trans h.c1,(k.cell (p:=⟨b,2,none⟩) hb).trans h.c2,(k.cell (p:=⟨b,3,none⟩) hb).trans h.c3,(k.cell (p:=⟨b,4,none⟩) hb).trans h.c4,(k.cell (p:=⟨b,5,none⟩) hb).trans h.c5,(k.cell (p:=⟨b,6,none⟩) hb).trans h.c6,fun j=>(k.frozen (p:=⟨b,j,none⟩) hb).trans (h.fz j),nL h.lt k.size⟩
def BI (w:World) (t:Stp):Prop:=ay w t.p t.l∧t.l.length≤maxLen∧(t.p=none→t.n=0)
theorem gu {B b:Nat} {a w:World} (h:Below B a w) (hb:B≤b) (u0 u1 u2 u3 u4 u5 u6:Value) :
  Below B a (((((((w.setCell ⟨b,0,none⟩ u0).setCell ⟨b,1,none⟩ u1).setCell ⟨b,2,none⟩ u2).setCell ⟨b,3,none⟩ u3).setCell ⟨b,4,none⟩ u4).setCell ⟨b,5,none⟩ u5).setCell ⟨b,6,none⟩ u6) :=
 ((((((h.setCell (p:=⟨b,0,none⟩) hb _).setCell (p:=⟨b,1,none⟩) hb _).setCell (p:=⟨b,2,none⟩) hb _).setCell (p:=⟨b,3,none⟩) hb _).setCell (p:=⟨b,4,none⟩) hb _).setCell (p:=⟨b,5,none⟩) hb _).setCell (p:=⟨b,6,none⟩) hb _
theorem nJ (x:List UInt8) (w:World) (hr:Reads w) (hx:x.length≤100000):Calls Y 41 #[H ⟨x.toArray⟩] w fun e w'=>∃t',e= .returned (U #[R #[O I t'.k,O I t'.a,O I t'.b,O I t'.c,O I t'.o,O I t'.v,J t'.p t'.l.length t'.n],F (fY x).isSome])∧Below w.heap.size w w'∧∀t,fY x=some t→clr t'=clr t∧BI w' t'∧∀a,t'.p=some a→w.heap.size≤a.block∧a.block<w'.heap.size:=by
 obtain ⟨w0,hw0⟩:∃w0,w.alloc (Z #[O I 0,O I 0,O I 0,O I 0,O I 0,O I 0,J none 0 0] 105)=w0:=⟨_,rfl⟩
 have hB0:Box w0 w.heap.size ki:=hw0▸yI w
 have hb0:Below w.heap.size w w0:=hw0▸((gR w).alloc _).below
 have hs0:w0.heap.size=w.heap.size+1:=by rw[←hw0];simp
 have hsp:=pn x 32 w0 (hr.below hb0) (by omega)
 have hln:=iU 32 x
 obtain ⟨ls,hls⟩:∃ls,aH 32 x=ls:=⟨_,rfl⟩
 rw[hls] at hsp hln
 obtain ⟨y,r,rfl⟩:∃y r,ls=y::r:=List.exists_cons_of_ne_nil (by rw[←hls];exact gl _ _)
 have hlp:fY x=if du y=0∨r.length≠(dH (du y)).length then none else dO (fO (du y)) (dH (du y)) r:=by unfold fY;rw[hls]
 obtain ⟨LP,hLP⟩:∃LP,fY x=LP:=⟨_,rfl⟩
 rw[hLP] at hlp ⊢
 clear hLP
 have hrl0:∀z∈r,z.length≤100000:=fun z hz=>nT (li 32 x z (by rw[hls];simp[hz])) hx
 have hspH:Hid _:=hsp
 have hH0:Hid (Box w0 w.heap.size ki∧Below w.heap.size w w0∧Reads w0):=⟨hB0,hb0,hr.below hb0⟩
 have hrw:Hid (Reads w):=hr
 clear hsp hls hB0 hb0 hr
 go_enter Tryz.func41,Tryz.ntmps41
 go_wp2_with fail
 refine cM (show Calls _ _ _ _ _ from hspH.out) ?_
 rintro e w1 ⟨rfl,hrow,hb⟩
 clear hw0
 rw[hs0] at hrow
 have hH:Hid (uh w1 (some ⟨w.heap.size+1,0,none⟩) (y::r)∧Box w1 w.heap.size ki∧Below w.heap.size w w1∧Reads w1):=⟨hrow,hH0.out.1.below hb,hH0.out.2.1.trans (hb.mono (by omega)),hH0.out.2.2.below hb⟩
 have e1:w1.cell? ⟨w.heap.size+1,0,none⟩=some (H ⟨y.toArray⟩):=ph hrow (j:=0) (by simp)
 have hlenc:(y::r).length=r.length+1:=rfl
 rw[hlenc]
 have hko:=sB y w1
 obtain ⟨k,hk⟩:∃k,du y=k:=⟨_,rfl⟩
 rw[hk] at hko
 have hkoH:Hid _:=hko
 have hfo:=jn k w1
 obtain ⟨ps,hps⟩:∃ps,dH k=ps:=⟨_,rfl⟩
 obtain ⟨wo,hwo⟩:∃wo,ek k=wo:=⟨_,rfl⟩
 rw[hps,hwo] at hfo
 have hfoH:Hid _:=hfo
 clear hrow hb hspH hH0 hko hfo hwo
 go_wp2_with fail
 refine cM (show Calls _ _ _ _ _ from hkoH.out) ?_
 rintro e w2 ⟨rfl,hw2⟩
 subst w2
 go_wp2_with fail
 refine cM (show Calls _ _ _ _ _ from hfoH.out) ?_
 rintro e w2 ⟨rfl,hw2⟩
 subst w2
 clear hkoH hfoH
 have hp4:ps.length≤4:=by rw[←hps];exact vn k
 by_cases hbad:k=0∨r.length≠ps.length
 ·rw[hk,hps,if_pos hbad] at hlp
  subst hlp
  have c0:=hH.out.2.1.c0
  have c1:=hH.out.2.1.c1
  have c2:=hH.out.2.1.c2
  have c3:=hH.out.2.1.c3
  have c4:=hH.out.2.1.c4
  have c5:=hH.out.2.1.c5
  have c6:=hH.out.2.1.c6
  have fz:=hH.out.2.1.fz
  by_cases hk0:k=0
  ·subst hk0
   go_wp2
   exact bodyPost_ret (v:= U #[R #[O I 0,O I 0,O I 0,O I 0,O I 0,O I 0,J none 0 0],F false]) (by simp[results,Tryz.results41,go_sem,c0,c1,c2,c3,c4,c5,c6]) rfl ⟨ki,rfl,gu hH.out.2.2.1 (nR _) _ _ _ _ _ _ _,fun t ht=>by cases ht⟩
  ·have hkf:(k==0)=false:=by simpa using hk0
   have hkl:((r.length:Int)+1 != 1+(ps.length:Int))=true:=by simp;omega
   go_wp2
   exact bodyPost_ret (v:= U #[R #[O I 0,O I 0,O I 0,O I 0,O I 0,O I 0,J none 0 0],F false]) (by simp[results,Tryz.results41,go_sem,c0,c1,c2,c3,c4,c5,c6]) rfl ⟨ki,rfl,gu hH.out.2.2.1 (nR _) _ _ _ _ _ _ _,fun t ht=>by cases ht⟩
 have hk0:(k==0)=false:=by simp;omega
 have hkl:((r.length:Int)+1 != 1+(ps.length:Int))=false:=by simp;omega
 go_wp2
 obtain ⟨W,hW⟩:∃W,w1.alloc (Z #[O I k,O I 0,O I 0,O I 0,O I 0,O I 0,J none 0 0] 105)=W:=⟨_,rfl⟩
 rw[hW]
 have hWs:W.heap.size=w1.heap.size+1:=by rw[←hW];simp
 have hbW:Below w1.heap.size w1 W:=by rw[←hW];exact ((gR w1).alloc _).below
 have hBW:Box W w1.heap.size (fO k):=by
  rw[←hW]
  exact ⟨ab (gR _) rfl,ab (gR _) rfl,ab (gR _) rfl,ab (gR _) rfl,ab (gR _) rfl,ab (gR _) rfl,ab (gR _) rfl,fun j=>eP (gR _) j,by simp⟩
 have hHW:Hid (uh W (some ⟨w.heap.size+1,0,none⟩) (y::r)∧Box W w.heap.size ki∧Below w.heap.size w W∧Reads W∧W.heap.size=w1.heap.size+1∧w.heap.size<w1.heap.size∧Box W w1.heap.size (fO k)∧w.heap.size+1<w1.heap.size):=⟨hH.out.1.below hbW,hH.out.2.1.below hbW,hH.out.2.2.1.trans (hbW.mono hH.out.2.2.1.size),hH.out.2.2.2.below hbW,hWs,hH.out.2.1.lt,hBW,World.block_lt_of_cell? w1 _ e1⟩
 have hrl:Hid (∀z∈r,z.length≤100000):=hrl0
 clear hH hWs hbW hBW hW e1
 go_loopw [36] (fun i wr=>∃j:Nat,j≤ps.length∧i= O I j∧Hid (nY k ps r w1.heap.size W wr j)) (fun i _=>ps.length-(intOf i).toNat)
 case atStart=>exact ⟨0,nZ _,rfl,fO k,fO k,rfl,rfl,hHW.out.2.2.2.2.2.2.1,⟨oL rfl,nZ _,fun _=>rfl,fun a ha=>by cases ha⟩,Kept.of (bR _ _)⟩
 case round =>
  obtain ⟨j,hj,rfl,hov⟩:=hrel
  obtain ⟨t,t',hpt,hcl,hbx,hgd,hkp⟩:=hov.out
  clear hov
  by_cases hlt:j<ps.length
  ·have hltz:(j:Int)<(ps.length:Int):=by omega
   have hltr:j<r.length:=by omega
   obtain ⟨X,hX⟩:∃X,r[j]=X:=⟨_,rfl⟩
   have hkd:Kept w1.heap.size W wr.drew:=⟨hkp.os,hkp.tape,hkp.output,hkp.size,hkp.block⟩
   have hbd:Below w1.heap.size W wr.drew:=hkd.below (nR _) (by have:=hHW.out.2.2.2.2.1;omega)
   have hwc:W.cell? ⟨w.heap.size+1,1+j,none⟩=some (H ⟨X.toArray⟩):=by
    have:=ph hHW.out.1 (j:=1+j) (by simp;omega)
    rw[this]
    congr 3
    rw[←hX]
    simp[Nat.add_comm 1 j]
   have hS0:wr.drew.cell? ⟨w.heap.size+1,1+j,none⟩=some (H ⟨X.toArray⟩):=(hbd.cell (p:=⟨w.heap.size+1,1+j,none⟩) hHW.out.2.2.2.2.2.2.2).trans hwc
   have hSK:Hid (∀y1,Kept w1.heap.size wr.drew y1→y1.cell? ⟨w.heap.size+1,1+j,none⟩=some (H ⟨X.toArray⟩)):=fun y1 h1=>((h1.below (B:=w1.heap.size) (nR _) (nT (by have:=hHW.out.2.2.2.2.1;omega) hkd.size)).cell (p:=⟨w.heap.size+1,1+j,none⟩) hHW.out.2.2.2.2.2.2.2).trans hS0
   have hbxd:Box wr.drew w1.heap.size t':=⟨hbx.c0,hbx.c1,hbx.c2,hbx.c3,hbx.c4,hbx.c5,hbx.c6,hbx.fz,hbx.lt⟩
   have hgdd:Good (w1.heap.size+1) wr.drew t':=⟨hgd.row.below ((gR wr).drew).below,hgd.len,hgd.nil,hgd.far⟩
   have hw1:IntKind.i64.wrap (1+(j:Int))=1+(j:Int):=by rw[IntKind.wrap_i64];omega
   have hw2:(0:Int)≤1+(j:Int):=by omega
   have hw3:1+(j:Int)<(r.length:Int)+1:=by omega
   have hw4:(1+(j:Int)).toNat=1+j:=by omega
   have hbw:Below w.heap.size w wr.drew:=hHW.out.2.2.1.trans (hkd.below (Nat.le_of_lt hHW.out.2.2.2.2.2.1) hHW.out.2.2.1.size)
   have hpp:=nM t' ps[j] (by have:=(xN (k:=k)).1;rw[hps] at this;exact this _ (gM hlt)) X w1.heap.size wr.drew hbxd (Nat.lt_succ_self _) (nT (by have:=hHW.out.2.2.2.2.1;omega) hkd.size) hgdd (hrw.out.below hbw) (by rw[←hX];exact hrl.out _ (gM hltr))
   have hnxt:=nY.next (by omega) hlt hltr hpt
   rw[hX] at hnxt
   have hcq:=vp hcl ps[j] X
   clear hcl
   cases hq:d9 t' ps[j] X with
   | none =>
    rw[hq] at hpp hcq
    have hppH:Hid _:=hpp
    have hLPn:LP=none:=by
     rw[hlp,hk,hps,if_neg hbad]
     refine nY.fail (j:=j+1) (by omega) ?_
     rw[hnxt]
     cases hz:d9 t ps[j] X with
     | none=>rfl
     | some z=>rw[hz] at hcq;cases hcq
    subst hLPn
    have hZ:Hid (∀y1,Kept w1.heap.size wr.drew y1→Box y1 w.heap.size ki∧Below w.heap.size w y1):=fun y1 h1=>⟨hHW.out.2.1.under hHW.out.2.2.2.2.2.1 (hbd.trans (h1.below (nR _) (nT (by have:=hHW.out.2.2.2.2.1;omega) hkd.size))),hbw.trans (h1.below (Nat.le_of_lt hHW.out.2.2.2.2.2.1) hbw.size)⟩
    clear hpp hcq hq hnxt hpt hbx hgd hkp hkd hbd hwc hbxd hgdd hbw hlp
    go_upto_region 10 with fail
    refine wp_region_noPanic ?_
    refine wp_region_held_drew (S:=fun w'=>w'.cell? ⟨w.heap.size+1,1+j,none⟩=some (H ⟨X.toArray⟩)) (by kernel_rfl) (hS0) (fun hHeld=> ?_)
    refine tks [0,1,2,3,4,5,6,7] (by assumption) ?_
    iterate 8 (refine tk (v:= ?_) (by rfl) (by kernel_rfl) ?_ ?_;rotate_left;· (refine oL ⟨by rfl,?_⟩;intro w hSw;(try dsimp only at hSw);go_simp<;>with_reducible rfl);try simp only[Act.put,yA,aD,yS])
    refine tk0 ?_
    refine wpAnyH_ready (rs:=[8]) (by kernel_rfl) (by simp) ?_
    refine AllReadyH.cons (o:= ?oia9) ?hopa9 (fun K hK=> ?stepa9) ?morea9
    case hopa9=>(simp only[zA,z0',zS];rfl)
    case morea9=>exact AllReadyH.nil
    go_simp
    (go_at_call 63;(refine cM (show Calls _ _ _ _ _ from hppH.out) ?_);rintro e y1 ⟨rfl,hk1,hres⟩;have hS1:y1.cell? ⟨w.heap.size+1,1+j,none⟩=some (H ⟨X.toArray⟩):=hSK.out y1 hk1;have hzb:=hZ.out y1 hk1;obtain ⟨c0,c1,c2,c3,c4,c5,c6,fz,_⟩:=hzb.1;have hfb:Hid _:=hzb.2;clear hk1 hres hzb)
    first|(go_wp2_with fail)|skip
    refine hK.out _ _ ?_ (fun hHeld=> ?_)
    ·(try dsimp only);(first|with_reducible exact hS0|with_reducible exact hS1)
    clear hK K
    try simp only[Act.put,yA,aD,yS]
    refine tks [9] (by assumption) ?_
    iterate 1 (refine tk (v:= ?_) (by rfl) (by kernel_rfl) ?_ ?_;rotate_left;· (refine oL ⟨by rfl,?_⟩;intro w hSw;(try dsimp only at hSw);go_simp<;>with_reducible rfl);try simp only[Act.put,yA,aD,yS])
    refine tk0 ?_
    refine wpAnyH_done (by kernel_rfl) ?_ _
    refine NoPanic.normal ?_
    go_wp2
    exact bodyPost_ret (v:= U #[R #[O I 0,O I 0,O I 0,O I 0,O I 0,O I 0,J none 0 0],F false]) (by simp[results,Tryz.results41,go_sem,c0,c1,c2,c3,c4,c5,c6]) rfl ⟨ki,rfl,gu hfb.out (nR _) _ _ _ _ _ _ _,fun t ht=>by cases ht⟩
   | some z =>
    rw[hq] at hpp hcq
    have hppH:Hid _:=hpp
    have hnx:Hid (∀y1,Kept w1.heap.size wr.drew y1→(∀t,some z=some t→∃t',clr t'=clr t∧Box y1 w1.heap.size t'∧Good (w1.heap.size+1) y1 t')→Hid (nY k ps r w1.heap.size W y1 (j+1))):=by
     intro y1 h1 h2
     obtain ⟨t2,h3,h4,h5⟩:=h2 z rfl
     cases hz:d9 t ps[j] X with
     | none=>rw[hz] at hcq;cases hcq
     | some z2 =>
      rw[hz] at hcq
      exact ⟨z2,t2,hnxt.trans hz,h3.trans (sI hcq),h4,h5,hkd.trans h1⟩
    clear hpp hcq hq hnxt hpt hbx hgd hkp hkd hbd hwc hbxd hgdd hbw hlp
    go_upto_region 10 with fail
    refine wp_region_noPanic ?_
    refine wp_region_held_drew (S:=fun w'=>w'.cell? ⟨w.heap.size+1,1+j,none⟩=some (H ⟨X.toArray⟩)) (by kernel_rfl) (hS0) (fun hHeld=> ?_)
    refine tks [0,1,2,3,4,5,6,7] (by assumption) ?_
    iterate 8 (refine tk (v:= ?_) (by rfl) (by kernel_rfl) ?_ ?_;rotate_left;· (refine oL ⟨by rfl,?_⟩;intro w hSw;(try dsimp only at hSw);go_simp<;>with_reducible rfl);try simp only[Act.put,yA,aD,yS])
    refine tk0 ?_
    refine wpAnyH_ready (rs:=[8]) (by kernel_rfl) (by simp) ?_
    refine AllReadyH.cons (o:= ?oib9) ?hopb9 (fun K hK=> ?stepb9) ?moreb9
    case hopb9=>(simp only[zA,z0',zS];rfl)
    case moreb9=>exact AllReadyH.nil
    go_simp
    (go_at_call 63;(refine cM (show Calls _ _ _ _ _ from hppH.out) ?_);rintro e y1 ⟨rfl,hk1,hres⟩;have hS1:y1.cell? ⟨w.heap.size+1,1+j,none⟩=some (H ⟨X.toArray⟩):=hSK.out y1 hk1;have hkr:Hid _:=hk1;have hresH:Hid _:=hres;clear hk1 hres)
    first|(go_wp2_with fail)|skip
    refine hK.out _ _ ?_ (fun hHeld=> ?_)
    ·(try dsimp only);(first|with_reducible exact hS0|with_reducible exact hS1)
    clear hK K
    try simp only[Act.put,yA,aD,yS]
    refine tks [9] (by assumption) ?_
    iterate 1 (refine tk (v:= ?_) (by rfl) (by kernel_rfl) ?_ ?_;rotate_left;· (refine oL ⟨by rfl,?_⟩;intro w hSw;(try dsimp only at hSw);go_simp<;>with_reducible rfl);try simp only[Act.put,yA,aD,yS])
    refine tk0 ?_
    refine wpAnyH_done (by kernel_rfl) ?_ _
    refine NoPanic.normal ?_
    go_wp2
    go_roundw
    case rel=>exact ⟨j+1,by omega,by go_num,hnx.out _ hkr.out hresH.out⟩
    case measure=>simp[intOf];omega
  ·have hltz:¬(j:Int)<(ps.length:Int):=by omega
   rw[List.take_of_length_le (by omega),List.take_of_length_le (by omega)] at hpt
   have hLP:LP=some t:=by rw[hlp,hk,hps,if_neg hbad];exact hpt
   subst hLP
   have hbd:Below w1.heap.size W wr:=hkp.below (nR _) (by have:=hHW.out.2.2.2.2.1;omega)
   have hzb:=hHW.out.2.1.under hHW.out.2.2.2.2.2.1 hbd
   have hbw:Hid (Below w.heap.size w wr):=hHW.out.2.2.1.trans (hkp.below (Nat.le_of_lt hHW.out.2.2.2.2.2.1) hHW.out.2.2.1.size)
   obtain ⟨c0,c1,c2,c3,c4,c5,c6,fz,_⟩:=hzb
   obtain ⟨d0,d1,d2,d3,d4,d5,d6,dz,_⟩:=hbx
   have hfin:Hid (clr t'=clr t∧Good (w1.heap.size+1) wr t'∧w.heap.size<w1.heap.size):=⟨hcl,hgd,hHW.out.2.2.2.2.2.1⟩
   clear hpt hlp hcl hgd hkp hbd
   go_wp2
   refine bodyPost_ret (v:= U #[R #[O I t'.k,O I t'.a,O I t'.b,O I t'.c,O I t'.o,O I t'.v,J t'.p t'.l.length t'.n],F true]) (by simp[results,Tryz.results41,go_sem,c0,c1,c2,c3,c4,c5,c6]) rfl ⟨t',rfl,gu hbw.out (nR _) _ _ _ _ _ _ _,hfin.out.1,⟨?_,hfin.out.2.1.len,hfin.out.2.1.nil⟩,fun a ha=>⟨by have:=(hfin.out.2.1.far a ha).1;have:=hfin.out.2.2;omega,by have:=(hfin.out.2.1.far a ha).2;simpa[World.setCell] using this⟩⟩
   exact pR hfin.out.2.1.row ((((((((Kept.of (bR _ _)).set 0 _).set 1 _).set 2 _).set 3 _).set 4 _).set 5 _).set 6 _) (fun a ha=>by have:=hfin.out.2.1.far a ha;have:=hfin.out.2.2;omega)

theorem Tryz.infoQ2:(Tryz.prog.info? 105).map (fun i=>(i.zero,i.size,i.bytes))=some (some (R #[O I 0,O I 0,O I 0,O I 0,O I 0,O I 0,J none 0 0]),7,72):=by kernel_rfl

structure ApartS (w:World) (base:Nat) (ob:Option Nat) (x:Stp):Prop where
 row:ay w x.p x.l
 len:x.l.length≤maxLen
 nil:x.p=none→x.n=0
 own:∀a,x.p=some a→base≤a.block∧a.block<w.heap.size∧ob≠some a.block
structure OwnS (w:World) (base:Nat) (v:Value) (l:List Stp):Prop where
 own:af jj 7 105 w base v l
 each:∀x∈l,ApartS w base v.ownBlock x
theorem OwnS.nil (w:World) (base:Nat):OwnS w base (J none 0 0) []:=⟨af.nil _ _ _ _ _,fun x hx=>by cases hx⟩
theorem ApartS.below {w w':World} {base:Nat} {ob:Option Nat} {x:Stp} (h:ApartS w base ob x) (q:Below w.heap.size w w'):ApartS w' base ob x :=
 ⟨h.row.below q,h.len,h.nil,fun a ha=>⟨(h.own a ha).1,nL (h.own a ha).2.1 q.size,(h.own a ha).2.2⟩⟩
theorem OwnS.below {w w':World} {base:Nat} {v:Value} {l:List Stp} (h:OwnS w base v l) (q:Below w.heap.size w w'):OwnS w' base v l:=⟨h.own.below q,fun x hx=>(h.each x hx).below q⟩
theorem OwnS.gr {w w':World} {base:Nat} {v:Value} {l:List Stp} (h:OwnS w base v l) (q:Gr w w'):OwnS w' base v l:=h.below q.below
theorem OwnS.stps {w:World} {base:Nat} {v:Value} {l:List Stp} (h:OwnS w base v l):∃A cap,v= J A l.length cap∧(A=none→cap=0)∧Stps w A l:=by
 obtain ⟨A,cap,hv,hA,hr,ha⟩:=h.own.row jJ
 exact ⟨A,cap,hv,hA,⟨hr,fun x hx=>⟨(h.each x hx).row,(h.each x hx).len,(h.each x hx).nil⟩⟩⟩
def NwQ (n:Nat) (A:Option Addr) (q:List Stp):Prop:=(∀a,A=some a→n≤a.block)∧∀s∈q,∀a,s.p=some a→n≤a.block
theorem OwnS.nw {w:World} {base c:Nat} {A:Option Addr} {l:List Stp} (h:OwnS w base (J A l.length c) l):NwQ base A l:=⟨fun a ha=>(World.ownsRow.lt h.own a.block (by rw[ha];rfl)).1,fun s hs a ha=>((h.each s hs).own a ha).1⟩
theorem ApartS.grown {w w':World} {base:Nat} {ob ob':Option Nat} {x:Stp} (h:ApartS w base ob x) (q:w.grownBy w' ob) (hob:ob'=ob∨ob'=some w.heap.size):ApartS w' base ob' x:=by
 refine ⟨?_,h.len,h.nil,fun a ha=>⟨(h.own a ha).1,nL (h.own a ha).2.1 q.size,?_⟩⟩
 ·rcases h.row with k|⟨b,off,hp,hb,hc⟩
  ·exact oL k
  ·refine oR ⟨b,off,hp,nL hb q.size,fun j hj i hi=> ?_⟩
   have hne:=(h.own _ hp).2.2
   rw[World.cell?_of_block (a:=⟨b,off+j*1+i,none⟩) (q.block b hb fun e=>hne e.symm)]
   exact hc j hj i hi
 ·rcases hob with e|e
  ·rw[e];exact (h.own a ha).2.2
  ·rw[e]
   intro k
   injection k with k
   have:=(h.own a ha).2.1
   omega
theorem nO (w:World) (ty:TypeId) (base:Nat) (v:Value) (l:List Stp) (x:Stp) (A:Addr) (cap:Nat) (hown:OwnS w base v l) (hr:au jj 7 w (some A) [x]) (hx:ApartS w base v.ownBlock x)
  (hml:l.length+1≤maxLen) (hb:(l.length+1)*72≤140737488355328) (hbase:base≤w.heap.size) :
  ∃v' w',(Builtin.append_ #[54,54] ty #[v,J (some A) 1 cap]).run Y w= .ok v' w'∧OwnS w' base v' (l++[x])∧Below base w w'∧w.grownBy w' v.ownBlock:=by
 obtain ⟨i0,hi,hz0,hz1,hz2⟩:=info_parts Tryz.infoQ2
 obtain ⟨v',w',g1,g2,g3,_,g5⟩:=run_append_own_at (P:=Y) w base 54 ty 105 i0 (R #[O I 0,O I 0,O I 0,O I 0,O I 0,O I 0,J none 0 0]) 7 72 Tryz.underlying54 hi hz0 hz1 hz2 rfl (by omega) v l.length (aI jj l) hown.own A 1 cap (aI jj [x]) (bi jJ [x]) (hr.cells jJ (by omega)) (fun u hu=>dq wK u [x] hu) hml hb hbase
 refine ⟨v',w',g1,⟨?_,fun y hy=> ?_⟩,af.grown_below hown.own g3 hbase,g3⟩
 ·show w'.ownsRow base _ 7 v' (l++[x]).length (aI jj (l++[x]))
  rw[List.length_append,cg]
  exact g2
 ·rcases List.mem_append.1 hy with k|k
  ·exact (hown.each y k).grown g3 g5
  ·have:y=x:=by simpa using k
   subst this
   exact hx.grown g3 g5
theorem gq (w:World) {ops:Array Oper} {rest:List Oper} {o:Oper} {a:Act} {Q:Exit→Act→World→Prop} (hgd:o.guard=none) (s z:Operand)
  (ho:o.op= .call { callee:= .builtin .append,args:= #[s,z],argTypes:= #[54,54] })
  (base:Nat) (v:Value) (l:List Stp) (x:Stp) (A:Addr) (cap:Nat) (hs:a.eval s=v) (hz:a.eval z= J (some A) 1 cap) (hown:OwnS w base v l) (hr:au jj 7 w (some A) [x]) (hx:ApartS w base v.ownBlock x)
  (hml:l.length+1≤maxLen) (hb:(l.length+1)*72≤140737488355328) (hbase:base≤w.heap.size)
  (h:∀v' w',OwnS w' base v' (l++[x])→Below base w w'→wpList Y ops Q rest (a.put o.dst v') w'):wpList Y ops Q (o::rest) a w :=
 wpList_plain hgd fun _ hK=>by
  obtain ⟨v',w',hr,h2,h3,_⟩:=nO w o.type base v l x A cap hown hr hx hml hb hbase
  unfold Oper.wp execOp
  simp only[ho,resolve,invoke,builtin,Sem.run_bind,Sem.run_pure,Result.andThen_ok,List.map_toArray,List.map_cons,List.map_nil,hs,hz,hr]
  exact hK _ _ (h v' w' h2 h3)


theorem lq:∀(q:List Stp) (ah:List Int),(∀x∈ah,0≤x∧x≤8)→ah.length+q.length≤8→(dw q ah).isSome=true→∀s∈q,s.l.length≤8
 | [],_,_,_,_=>fun s hs=>by cases hs
 | s::t,ah,h1,h2,h3=>by
  have h3':(if aO s ah=0 then none else dw t (ah++[aO s ah])).isSome=true:=h3
  by_cases e:aO s ah=0
  ·rw[if_pos e] at h3';cases h3'
  ·rw[if_neg e] at h3'
   have hb:=yv s h1
   have ih:=lq t (ah++[aO s ah]) (fun x hx=>by
    rcases List.mem_append.1 hx with k|k
    ·exact h1 x k
    ·rw[List.mem_singleton.1 k];exact hb) (by simp at h2 ⊢;omega) h3'
   intro u hu
   rcases List.mem_cons.1 hu with k|k
   ·subst k
    simp at h2
    exact (vP e (by omega) h1).l.1
   ·exact ih u k
theorem si {q:List Stp} (h:bV q=0):q.length≤8∧∀s∈q,s.l.length≤8:=by
 obtain ⟨h1,h2,h3⟩:=fc h
 exact ⟨h2,lq q [] (fun x hx=>by cases hx) (by simpa using h2) h3⟩
def zY (n m:Nat) (C:Option Addr) (q:List Stp):Prop:=(∀a,C=some a→n≤a.block∧a.block<m)∧∀s∈q,∀a,s.p=some a→n≤a.block∧a.block<m
theorem xT {W:World} {s:Stp} {C:Option Addr} {c:Nat}:au jj 7 (W.alloc (Z #[O I s.k,O I s.a,O I s.b,O I s.c,O I s.o,O I s.v,J C s.l.length c] 105)) (some ⟨W.heap.size,0,none⟩) [{ s with p:=C,n:=c }]:=by
 refine oR ⟨W.heap.size,0,rfl,by simp,fun j hj i hi=> ?_⟩
 obtain rfl:j=0:=by simp at hj;omega
 rw[show 0+0*7+i=i by omega]
 match i,hi with
 | 0,_=>exact ab (w:=W) (gR _) rfl
 | 1,_=>exact ab (w:=W) (gR _) rfl
 | 2,_=>exact ab (w:=W) (gR _) rfl
 | 3,_=>exact ab (w:=W) (gR _) rfl
 | 4,_=>exact ab (w:=W) (gR _) rfl
 | 5,_=>exact ab (w:=W) (gR _) rfl
 | 6,_=>exact ab (w:=W) (gR _) rfl
theorem uu {q:List Stp} {k:Nat} (h:k<q.length) {s s':Stp} (hs:q[k]=s) {r:List Stp} (hr:r.map bare=(q.take k).map bare) (hb:bare s'=bare s):(r++[s']).map bare=(q.take (k+1)).map bare:=by
 rw[List.take_succ_eq_append_getElem h,List.map_append,List.map_append,hr,hs]
 simp[hb]

theorem ut (q:List Stp) (A:Option Addr) (ca:Nat) (w:World) (hl:q.length≤8) (hs:∀s∈q,s.l.length≤8) (hq:Stps w A q) :
  Calls Y 111 #[J A q.length ca] w fun e w'=>∃(q':List Stp) (C:Option Addr) (k:Nat),e= .returned (J C q'.length k)∧q'.map bare=q.map bare∧Stps w' C q'∧(C=none→k=0)∧zY w.heap.size w'.heap.size C q'∧Below w.heap.size w w':=by
 have hH:Hid (Stps w A q∧∀s∈q,s.l.length≤8):=⟨hq,hs⟩
 clear hq hs
 go_enter Tryz.func111,Tryz.ntmps111
 go_wp2
 go_loopw [3,8] (fun u i wr=>∃(k:Nat) (r:List Stp),k≤q.length∧i= O I k∧Hid (r.map bare=(q.take k).map bare∧OwnS wr w.heap.size u r∧Below w.heap.size w wr)) (fun _ i _=>q.length-(intOf i).toNat)
 case atStart=>exact ⟨0,[],nZ _,rfl,rfl,OwnS.nil _ _,bR _ _⟩
 case round =>
  obtain ⟨k,r,hk,rfl,hR⟩:=hrel
  have hrl:Hid (r.length=k):=by
   have:=congrArg List.length hR.out.1
   simp at this
   show _=_
   omega
  by_cases hlt:k<q.length
  ·have hltz:(k:Int)<(q.length:Int):=by omega
   have hI:Hid (Stps wr A q):=hH.out.1.below hR.out.2.2
   obtain ⟨bb,off,rfl,hb,hcs⟩:=hI.out.at hlt
   obtain ⟨s,hs⟩:∃s,q[k]=s:=⟨_,rfl⟩
   have hsm:s∈q:=by rw[←hs];exact gM hlt
   have hs8:s.l.length≤8:=hH.out.2 s hsm
   have hse:Hid (ay wr s.p s.l∧s.l.length≤maxLen∧(s.p=none→s.n=0)):=hI.out.each s hsm
   have htk:Hid (∀s',bare s'=bare s→(r++[s']).map bare=(q.take (k+1)).map bare):=fun s' h=>uu hlt hs hR.out.1 h
   rw[hs] at hcs
   have m0:wr.cell? ⟨bb,off+k*7,none⟩=some (O I s.k):=hcs 0 (by omega)
   have m1:wr.cell? ⟨bb,off+k*7+1,none⟩=some (O I s.a):=hcs 1 (by omega)
   have m2:wr.cell? ⟨bb,off+k*7+2,none⟩=some (O I s.b):=hcs 2 (by omega)
   have m3:wr.cell? ⟨bb,off+k*7+3,none⟩=some (O I s.c):=hcs 3 (by omega)
   have m4:wr.cell? ⟨bb,off+k*7+4,none⟩=some (O I s.o):=hcs 4 (by omega)
   have m5:wr.cell? ⟨bb,off+k*7+5,none⟩=some (O I s.v):=hcs 5 (by omega)
   have m6:wr.cell? ⟨bb,off+k*7+6,none⟩=some (J s.p s.l.length s.n):=hcs 6 (by omega)
   obtain ⟨WX,hWX⟩:∃WX,(wr.alloc (Z #[O I s.k,O I s.a,O I s.b,O I s.c,O I s.o,O I s.v,J s.p s.l.length s.n] 105))=WX:=⟨_,rfl⟩
   have hgX:Hid (Gr wr WX):=by show Gr _ _;rw[←hWX];exact (gR _).alloc _
   have hXs:Hid (wr.heap.size<WX.heap.size):=by show _<_;rw[←hWX];simp
   have x0:WX.cell? ⟨wr.heap.size,0,none⟩=some (O I s.k):=by rw[←hWX];exact ab (w:=wr) (gR _) rfl
   have x1:WX.cell? ⟨wr.heap.size,1,none⟩=some (O I s.a):=by rw[←hWX];exact ab (w:=wr) (gR _) rfl
   have x2:WX.cell? ⟨wr.heap.size,2,none⟩=some (O I s.b):=by rw[←hWX];exact ab (w:=wr) (gR _) rfl
   have x3:WX.cell? ⟨wr.heap.size,3,none⟩=some (O I s.c):=by rw[←hWX];exact ab (w:=wr) (gR _) rfl
   have x4:WX.cell? ⟨wr.heap.size,4,none⟩=some (O I s.o):=by rw[←hWX];exact ab (w:=wr) (gR _) rfl
   have x5:WX.cell? ⟨wr.heap.size,5,none⟩=some (O I s.v):=by rw[←hWX];exact ab (w:=wr) (gR _) rfl
   have x6:WX.cell? ⟨wr.heap.size,6,none⟩=some (J s.p s.l.length s.n):=by rw[←hWX];exact ab (w:=wr) (gR _) rfl
   have f6:WX.frozen? ⟨wr.heap.size,6,none⟩=false:=by rw[←hWX];exact eP (w:=wr) (gR _) 6
   have hap:Hid (ay WX s.p s.l∧(s.p=none→s.n=0)∧0+s.l.length≤maxLen∧(0+s.l.length)*8≤140737488355328):=⟨hse.out.1.gr hgX.out,hse.out.2.2,by unfold maxLen;omega,by omega⟩
   clear hcs hs hsm
   have hX6:Hid (∀w3,Below WX.heap.size WX w3→∀v,(w3.setCell ⟨wr.heap.size,6,none⟩ v).cell? ⟨wr.heap.size,0,none⟩=some (O I s.k)∧(w3.setCell ⟨wr.heap.size,6,none⟩ v).cell? ⟨wr.heap.size,1,none⟩=some (O I s.a)∧(w3.setCell ⟨wr.heap.size,6,none⟩ v).cell? ⟨wr.heap.size,2,none⟩=some (O I s.b)∧(w3.setCell ⟨wr.heap.size,6,none⟩ v).cell? ⟨wr.heap.size,3,none⟩=some (O I s.c)∧(w3.setCell ⟨wr.heap.size,6,none⟩ v).cell? ⟨wr.heap.size,4,none⟩=some (O I s.o)∧(w3.setCell ⟨wr.heap.size,6,none⟩ v).cell? ⟨wr.heap.size,5,none⟩=some (O I s.v)∧(w3.setCell ⟨wr.heap.size,6,none⟩ v).cell? ⟨wr.heap.size,6,none⟩=some v):=fun w3 h v=>by
    have hc:∀i u,WX.cell? ⟨wr.heap.size,i,none⟩=some u→w3.cell? ⟨wr.heap.size,i,none⟩=some u:=fun i u e=>(h.cell (p:=⟨wr.heap.size,i,none⟩) hXs.out).trans e
    have ho:∀i:Nat,i<6→(w3.setCell ⟨wr.heap.size,6,none⟩ v).cell? ⟨wr.heap.size,i,none⟩=w3.cell? ⟨wr.heap.size,i,none⟩:=fun i hi=>World.cell?_setCell_other _ _ _ _ (by intro e;injection e with _ e;omega)
    exact ⟨(ho 0 (by omega)).trans (hc 0 _ x0),(ho 1 (by omega)).trans (hc 1 _ x1),(ho 2 (by omega)).trans (hc 2 _ x2),(ho 3 (by omega)).trans (hc 3 _ x3),(ho 4 (by omega)).trans (hc 4 _ x4),(ho 5 (by omega)).trans (hc 5 _ x5),World.cell?_setCell_same _ _ _ (hc 6 _ x6)⟩
   have hoF:Hid (∀w3 C c,Below WX.heap.size WX w3→ay w3 C s.l→(C=none→c=0)→(∀a,C=some a→WX.heap.size≤a.block∧a.block<w3.heap.size)→∀w4,w3.setCell ⟨wr.heap.size,6,none⟩ (J C s.l.length c)=w4 →
     OwnS (w4.alloc (Z #[O I s.k,O I s.a,O I s.b,O I s.c,O I s.o,O I s.v,J C s.l.length c] 105)) w.heap.size u3 r∧au jj 7 (w4.alloc (Z #[O I s.k,O I s.a,O I s.b,O I s.c,O I s.o,O I s.v,J C s.l.length c] 105)) (some ⟨w4.heap.size,0,none⟩) [{ s with p:=C,n:=c }]∧ApartS (w4.alloc (Z #[O I s.k,O I s.a,O I s.b,O I s.c,O I s.o,O I s.v,J C s.l.length c] 105)) w.heap.size u3.ownBlock { s with p:=C,n:=c }∧(r.length+1≤maxLen∧(r.length+1)*72≤140737488355328)∧Below w.heap.size w (w4.alloc (Z #[O I s.k,O I s.a,O I s.b,O I s.c,O I s.o,O I s.v,J C s.l.length c] 105))):=fun w3 C c hb3 hrow hC hlt w4 hw4=>by
    subst hw4
    have hb4:Below wr.heap.size wr (w3.setCell ⟨wr.heap.size,6,none⟩ (J C s.l.length c)):=(hgX.out.below.trans (hb3.mono hgX.out.size)).setCell (nR _) _
    have hbA:=hb4.alloc hb4.size (Z #[O I s.k,O I s.a,O I s.b,O I s.c,O I s.o,O I s.v,J C s.l.length c] 105)
    have hrowA:ay (w3.setCell ⟨wr.heap.size,6,none⟩ (J C s.l.length c)) C s.l:=by
     rcases hrow with e|⟨b,o,hA,hb,hc⟩
     ·exact oL e
     ·refine oR ⟨b,o,hA,by simpa using hb,fun j hj i hi=> ?_⟩
      have h1:=(hlt _ hA).1
      have h2:=hXs.out
      have h3:b≠wr.heap.size:=fun e=>by simp only at h1;omega
      rw[World.cell?_setCell_other _ _ _ _ (by intro e;injection e with e _;exact h3 e.symm)]
      exact hc j hj i hi
    have hrl:=hrl.out
    have hsz:=hR.out.2.2.size
    have h2:=hXs.out
    refine ⟨hR.out.2.1.below hbA,xT,⟨hrowA.gr ((gR _).alloc _),by show s.l.length≤_;unfold maxLen;omega,hC,fun a ha=>⟨?_,?_,?_⟩⟩,⟨by unfold maxLen;omega,by omega⟩,hR.out.2.2.trans (hbA.mono hR.out.2.2.size)⟩
    ·have h1:=(hlt a ha).1;omega
    ·have h1:=(hlt a ha).2;simp;omega
    ·intro e
     have h1:=(hlt a ha).1
     have h3:=(World.ownsRow.lt hR.out.2.1.own a.block e).2
     omega
   go_wp2_with (first|(at_builtin;refine bg _ rfl (.const (J none 0 0)) (.tmp 13) rfl WX.heap.size (J none 0 0) [] s.l s.p s.n rfl rfl (af.nil _ _ _ _ _) hap.out.1 hap.out.2.1 hap.out.2.2.1 hap.out.2.2.2 (nR _) ?_;intro v1 w3 hown1 hgr1;obtain ⟨C,c,rfl,hC,hrow,hlt⟩:=af.row bZ hown1;have hb3:Below WX.heap.size WX w3:=dK hgr1;have y6:w3.cell? ⟨wr.heap.size,6,none⟩=some (J s.p s.l.length s.n):=(hb3.cell (p:=⟨wr.heap.size,6,none⟩) hXs.out).trans x6;have g6:w3.frozen? ⟨wr.heap.size,6,none⟩=false:=(hb3.frozen (p:=⟨wr.heap.size,6,none⟩) hXs.out).trans f6;obtain ⟨w4,hw4⟩:∃W,w3.setCell ⟨wr.heap.size,6,none⟩ (J C s.l.length c)=W:=⟨_,rfl⟩;have hoX:=hoF.out w3 C c hb3 (by simpa using hrow) hC hlt w4 hw4;have hoXH:Hid _:=hoX;obtain ⟨z0,z1,z2,z3,z4,z5,z6⟩:=hX6.out w3 hb3 (J C s.l.length c);rw[hw4] at z0 z1 z2 z3 z4 z5 z6;clear hown1 hgr1 hC hrow hlt hb3 hoX)|(at_builtin;refine gq _ rfl (.tmp 16) (.tmp 18) rfl w.heap.size u3 r { s with p:=C,n:=c } ⟨w4.heap.size,0,none⟩ 1 rfl rfl hoXH.out.1 hoXH.out.2.1 hoXH.out.2.2.1 hoXH.out.2.2.2.1.1 hoXH.out.2.2.2.1.2 hoXH.out.2.2.2.2.size ?_;intro v5 w5 hown5 hb5))
   have hfin:Hid ((r++[{ s with p:=C,n:=c }]).map bare=(q.take (k+1)).map bare∧OwnS w5 w.heap.size v5 (r++[{ s with p:=C,n:=c }])∧Below w.heap.size w w5):=⟨htk.out _ rfl,hown5,hoXH.out.2.2.2.2.trans hb5⟩
   clear hown5 hb5
   go_roundw
   case rel=>exact ⟨k+1,r++[{ s with p:=C,n:=c }],by omega,by go_num,hfin⟩
   case measure=>simp[intOf];omega
  ·have hltz:¬(k:Int)<(q.length:Int):=by omega
   have hke:q.take k=q:=List.take_of_length_le (by omega)
   obtain ⟨C,cap,hv,hC,hst⟩:=hR.out.2.1.stps
   obtain ⟨C',cap',hv',_,_,hab⟩:=hR.out.2.1.own.row jJ
   have hfin:Hid (r.map bare=q.map bare∧Stps wr C r∧(C=none→cap=0)∧zY w.heap.size wr.heap.size C r∧Below w.heap.size w wr):=by
    have h1:=hR.out.1
    rw[hke] at h1
    have hCC:C=C':=by rw[hv] at hv';injection hv'
    exact ⟨h1,hst,hC,⟨fun a ha=>hab a (by rw[←hCC];exact ha),fun x hx a ha=>⟨((hR.out.2.1.each x hx).own a ha).1,((hR.out.2.1.each x hx).own a ha).2.1⟩⟩,hR.out.2.2⟩
   subst hv
   clear hke hC hst hv' hab
   go_wp2
   go_ret
   exact ⟨r,C,cap,rfl,hfin.out⟩

def PIn {α : Type} (P:Nat→Prop) (A:Option Addr) (l:List α):Prop:=∀a,A=some a→l≠[]→P a.block
theorem PIn.mono {α : Type} {P Q:Nat→Prop} {A:Option Addr} {l:List α} (h:PIn P A l) (k:∀b,P b→Q b):PIn Q A l:=fun a ha hl=>k _ (h a ha hl)
structure Agr (P:Nat→Prop) (w w':World):Prop where
 size:w.heap.size≤w'.heap.size
 block:∀b,P b→b<w.heap.size→w'.heap[b]? = w.heap[b]?
theorem Agr.refl (P:Nat→Prop) (w:World):Agr P w w:=⟨nR _,fun _ _ _=>rfl⟩
theorem Agr.trans {P:Nat→Prop} {a b c:World} (h:Agr P a b) (k:Agr P b c):Agr P a c:=⟨nT h.size k.size,fun g hg hl=>(k.block g hg (nL hl h.size)).trans (h.block g hg hl)⟩
theorem Agr.of {P:Nat→Prop} {w w':World} (h:Below w.heap.size w w'):Agr P w w':=⟨h.size,fun b _ hb=>h.block b hb⟩
theorem Agr.mono {P Q:Nat→Prop} {w w':World} (h:Agr Q w w') (k:∀b,P b→Q b):Agr P w w':=⟨h.size,fun b hb=>h.block b (k b hb)⟩
theorem au.agr {α : Type} {enc: α → List Value} {k:Nat} {P:Nat→Prop} {w w':World} {A:Option Addr} {l:List α} (h:au enc k w A l) (hP:PIn P A l) (q:Agr P w w'):au enc k w' A l:=by
 rcases h with h|⟨b,off,hA,hb,hc⟩
 ·exact oL h
 ·by_cases hl:l=[]
  ·exact oL hl
  ·refine oR ⟨b,off,hA,nL hb q.size,fun j hj i hi=> ?_⟩
   rw[World.cell?_of_block (a:=⟨b,off+j*k+i,none⟩) (q.block b (hP _ hA hl) hb)]
   exact hc j hj i hi
theorem Row.agr {P:Nat→Prop} {w w':World} {A:Option Addr} {l:List (Int×Int)} (h:Row w A l) (hP:PIn P A l) (q:Agr P w w'):Row w' A l:=by
 rcases h with h|⟨b,off,hA,hb,hc⟩
 ·exact oL h
 ·by_cases hl:l=[]
  ·exact oL hl
  ·refine oR ⟨b,off,hA,nL hb q.size,fun j hj=> ?_⟩
   rw[World.cell?_of_block (a:=⟨b,off+j*2,none⟩) (q.block b (hP _ hA hl) hb),World.cell?_of_block (a:=⟨b,off+j*2+1,none⟩) (q.block b (hP _ hA hl) hb)]
   exact hc j hj
structure LvP (P:Nat→Prop) (w:World) (A:Option Addr) (c:Nat) (l:List Itm):Prop where
 lv:Lv w A c l
 arr:PIn P A l
 rows:∀x∈l,PIn P x.p x.r
theorem LvP.agr {P:Nat→Prop} {w w':World} {A:Option Addr} {c:Nat} {l:List Itm} (h:LvP P w A c l) (q:Agr P w w'):LvP P w' A c l :=
 ⟨⟨⟨h.lv.items.row.agr h.arr q,fun x hx=>⟨(h.lv.items.each x hx).1.agr (h.rows x hx) q,(h.lv.items.each x hx).2⟩⟩,h.lv.nilc,h.lv.len⟩,h.arr,h.rows⟩
theorem LvP.below {P:Nat→Prop} {w w':World} {A:Option Addr} {c:Nat} {l:List Itm} (h:LvP P w A c l) (q:Below w.heap.size w w'):LvP P w' A c l:=h.agr (Agr.of q)
theorem LvP.mono {P Q:Nat→Prop} {w:World} {A:Option Addr} {c:Nat} {l:List Itm} (h:LvP P w A c l) (k:∀b,P b→Q b):LvP Q w A c l:=⟨h.lv,h.arr.mono k,fun x hx=>(h.rows x hx).mono k⟩
theorem LvP.none (P:Nat→Prop) (w:World):LvP P w none 0 []:=⟨⟨⟨oL rfl,fun x hx=>(by cases hx)⟩,dx.mk (fun _=>rfl) (nZ _),nZ _⟩,fun a ha=>(by cases ha),fun x hx=>(by cases hx)⟩
theorem LvP.new {w:World} {A:Option Addr} {c n:Nat} {l:List Itm} (h:Lv w A c l) (k:jf n A l):LvP (fun b=>n≤b∧b<w.heap.size) w A c l :=
 ⟨h,fun a ha hl=>⟨k.1 a ha,h.items.row.lt a ha hl⟩,fun x hx a ha hl=>⟨k.2 x hx a ha,(h.items.each x hx).1.lt a ha hl⟩⟩
theorem LvP.all {w:World} {A:Option Addr} {c:Nat} {l:List Itm} (h:Lv w A c l):LvP (fun b=>b<w.heap.size) w A c l :=
 ⟨h,fun a ha hl=>h.items.row.lt a ha hl,fun x hx a ha hl=>(h.items.each x hx).1.lt a ha hl⟩
structure StP (P:Nat→Prop) (w:World) (A:Option Addr) (q:List Stp):Prop where
 st:Stps w A q
 arr:PIn P A q
 rows:∀s∈q,PIn P s.p s.l
theorem StP.agr {P:Nat→Prop} {w w':World} {A:Option Addr} {q:List Stp} (h:StP P w A q) (k:Agr P w w'):StP P w' A q :=
 ⟨⟨h.st.row.agr h.arr k,fun x hx=>⟨(h.st.each x hx).1.agr (h.rows x hx) k,(h.st.each x hx).2⟩⟩,h.arr,h.rows⟩
theorem StP.below {P:Nat→Prop} {w w':World} {A:Option Addr} {q:List Stp} (h:StP P w A q) (k:Below w.heap.size w w'):StP P w' A q:=h.agr (Agr.of k)
theorem StP.mono {P Q:Nat→Prop} {w:World} {A:Option Addr} {q:List Stp} (h:StP P w A q) (k:∀b,P b→Q b):StP Q w A q:=⟨h.st,h.arr.mono k,fun x hx=>(h.rows x hx).mono k⟩
theorem StP.new {w:World} {A:Option Addr} {n m:Nat} {q:List Stp} (h:Stps w A q) (k:zY n m A q):StP (fun b=>n≤b∧b<m) w A q :=
 ⟨h,fun a ha _=>k.1 a ha,fun s hs a ha _=>k.2 s hs a ha⟩
def ag (P:Nat→Prop) (m n:Nat):Nat→Prop:=fun b=>P b∨(m≤b∧b<n)
theorem ag.old {P:Nat→Prop} {m n:Nat} (b:Nat) (h:P b):ag P m n b:=oL h
theorem ag.new {P:Nat→Prop} {m n m' n':Nat} (hm:m≤m') (hn:n'≤n) (b:Nat) (h:m'≤b∧b<n'):ag P m n b:=oR ⟨nT hm h.1,nL h.2 hn⟩
theorem ag.more {P:Nat→Prop} {m n m' n':Nat} (hm:m'≤m) (hn:n≤n') (b:Nat) (h:ag P m n b):ag P m' n' b:=h.elim oL fun k=>oR ⟨nT hm k.1,nL k.2 hn⟩
theorem ag.two {P:Nat→Prop} {m n m' n':Nat} (hm:m≤m') (hn:n≤n') (b:Nat) (h:ag (ag P m n) m' n' b):ag P m n' b:=by
 rcases h with (h|h)|h
 ·exact oL h
 ·exact oR ⟨h.1,by omega⟩
 ·exact oR ⟨by omega,h.2⟩

theorem km {w:World} {V:Nat} {cur:Array Value} {T:TypeId} {f:Nat×Nat} (h:w.heap[V]? = some (Z cur T f)) (j:Nat):w.cell? ⟨V,j,none⟩=cur[j]? := by simp[World.cell?,h]
theorem qO {w:World} {V:Nat} {cur:Array Value} {T:TypeId} (h:w.heap[V]? = some (Z cur T (0,0))) (j:Nat):w.frozen? ⟨V,j,none⟩=false:=by simp[World.frozen?,h]
def Blk (w:World) (V:Nat) (T:TypeId) (n:Nat):Prop:=∃cur,w.heap[V]? = some (Z cur T (0,0))∧cur.size=n
theorem Blk.lt {w:World} {V n:Nat} {T:TypeId} (h:Blk w V T n):V<w.heap.size:=by
 obtain ⟨cur,hc,_⟩:=h
 exact (Array.getElem?_eq_some_iff.1 hc).1
theorem Blk.fz {w:World} {V n:Nat} {T:TypeId} (h:Blk w V T n) (j:Nat):w.frozen? ⟨V,j,none⟩=false:=by
 obtain ⟨cur,hc,_⟩:=h
 exact qO hc j
theorem Blk.some {w:World} {V n:Nat} {T:TypeId} (h:Blk w V T n) {j:Nat} (hj:j<n):∃v,w.cell? ⟨V,j,none⟩=some v:=by
 obtain ⟨cur,hc,hn⟩:=h
 rw[km hc]
 exact ⟨cur[j]'(by omega),Array.getElem?_eq_getElem (by omega)⟩
theorem Blk.below {w w':World} {V n:Nat} {T:TypeId} (h:Blk w V T n) (k:Below w.heap.size w w'):Blk w' V T n:=by
 obtain ⟨cur,hc,hn⟩:=h
 exact ⟨cur,(k.block V (Array.getElem?_eq_some_iff.1 hc).1).trans hc,hn⟩
structure Wr (V lo hi:Nat) (w w':World):Prop where
 os:w'.os=w.os
 tape:w'.tape=w.tape
 output:w'.output=w.output
 size:w.heap.size≤w'.heap.size
 oth:∀g,g<w.heap.size→g≠V→w'.heap[g]? = w.heap[g]?
 blk:∀(cur:Array Value) (T:TypeId),w.heap[V]? = some (Z cur T (0,0))→∃cur':Array Value,w'.heap[V]? = some (Z cur' T (0,0))∧cur'.size=cur.size∧∀j,(j<lo∨hi≤j)→cur'[j]? = cur[j]?
theorem Wr.refl (V lo hi:Nat) (w:World):Wr V lo hi w w:=⟨rfl,rfl,rfl,nR _,fun _ _ _=>rfl,fun cur _ h=>⟨cur,h,rfl,fun _ _=>rfl⟩⟩
theorem Wr.trans {V lo hi:Nat} {a b c:World} (h:Wr V lo hi a b) (k:Wr V lo hi b c):Wr V lo hi a c :=
 ⟨k.os.trans h.os,k.tape.trans h.tape,k.output.trans h.output,nT h.size k.size,fun g hg hn=>(k.oth g (nL hg h.size) hn).trans (h.oth g hg hn),fun cur T hc=>by
  obtain ⟨c1,h1,h2,h3⟩:=h.blk cur T hc
  obtain ⟨c2,k1,k2,k3⟩:=k.blk c1 T h1
  exact ⟨c2,k1,k2.trans h2,fun j hj=>(k3 j hj).trans (h3 j hj)⟩⟩
theorem Wr.of {V lo hi:Nat} {w w':World} (h:Below w.heap.size w w') (_hV:V<w.heap.size):Wr V lo hi w w' :=
 ⟨h.os,h.tape,h.output,h.size,fun g hg _=>h.block g hg,fun cur _ hc=>⟨cur,(h.block V (Array.getElem?_eq_some_iff.1 hc).1).trans hc,rfl,fun _ _=>rfl⟩⟩
theorem Wr.mono {V lo hi lo' hi':Nat} {w w':World} (h:Wr V lo hi w w') (h1:lo'≤lo) (h2:hi≤hi'):Wr V lo' hi' w w' :=
 ⟨h.os,h.tape,h.output,h.size,h.oth,fun cur T hc=>by
  obtain ⟨c1,k1,k2,k3⟩:=h.blk cur T hc
  exact ⟨c1,k1,k2,fun j hj=>k3 j (by omega)⟩⟩
theorem Wr.set {V lo hi j:Nat} (w:World) (v:Value) (h1:lo≤j) (h2:j<hi):Wr V lo hi w (w.setCell ⟨V,j,none⟩ v):=by
 refine ⟨rfl,rfl,rfl,by simp,fun g _ hn=>Below.heap_setCell _ _ _ _ hn,fun cur T hc=>⟨cur.setIfInBounds j v,?_,by simp,fun i hi'=> ?_⟩⟩
 ·show (w.heap.modify V _)[V]? = _
  rw[Array.getElem?_modify,if_pos rfl,hc]
  rfl
 ·rw[Array.getElem?_setIfInBounds,if_neg (by omega)]
theorem Wr.grown {V lo hi:Nat} {w w':World} (h:Wr V lo hi w w'):w.grownBy w' (some V):=⟨h.os,h.tape,h.output,h.size,fun g hg hn=>h.oth g hg fun e=>hn (by rw[e])⟩
theorem Wr.agr {V lo hi:Nat} {w w':World} {P:Nat→Prop} (h:Wr V lo hi w w') (hP:¬P V):Agr P w w':=⟨h.size,fun b hb hl=>h.oth b hl fun e=>hP (e▸hb)⟩
theorem Wr.cell {V lo hi n:Nat} {w w':World} {T:TypeId} (h:Wr V lo hi w w') (hb:Blk w V T n) {j:Nat} (hj:j<lo∨hi≤j):w'.cell? ⟨V,j,none⟩=w.cell? ⟨V,j,none⟩:=by
 obtain ⟨cur,hc,_⟩:=hb
 obtain ⟨c1,k1,_,k3⟩:=h.blk cur T hc
 rw[km k1,km hc]
 exact k3 j hj
theorem Wr.block {V lo hi n:Nat} {w w':World} {T:TypeId} (h:Wr V lo hi w w') (hb:Blk w V T n):Blk w' V T n:=by
 obtain ⟨cur,hc,hn⟩:=hb
 obtain ⟨c1,k1,k2,_⟩:=h.blk cur T hc
 exact ⟨c1,k1,k2.trans hn⟩
theorem cG {w:World} {V i j:Nat} {v:Value} (h:i≠j):(w.setCell ⟨V,i,none⟩ v).cell? ⟨V,j,none⟩=w.cell? ⟨V,j,none⟩:=World.cell?_setCell_other _ _ _ _ (by intro e;injection e with _ e;exact h e)
section
open Go.Shelf Go.Lib

theorem pD {d:List Int} (hs:d.Pairwise (· ≤ ·)):∀m,m≤d.length→(compactUpTo d.toArray m).Pairwise (· < ·)∧(∀x,x∈compactUpTo d.toArray m↔∃j,∃h:j<d.length,j<m∧d[j]=x):=by
 intro m
 induction m with
 | zero =>
  intro _
  refine ⟨by simp[compactUpTo],fun x=> ?_⟩
  simp[compactUpTo]
 | succ m ih =>
  intro hm
  obtain ⟨h1,h2⟩:=ih (by omega)
  have hmd:m<d.length:=by omega
  have em:d.toArray[m]! = d[m]:=by simp[hmd]
  rw[compactUpTo_succ]
  have hle:∀x∈compactUpTo d.toArray m,x≤d[m]:=by
   intro x hx
   obtain ⟨j,hj,hjm,rfl⟩:=(h2 x).1 hx
   exact (List.pairwise_iff_getElem.1 hs) j m hj hmd hjm
  by_cases hk:keeps d.toArray m=true
  ·rw[if_pos hk,em]
   refine ⟨?_,fun x=> ?_⟩
   ·rw[List.pairwise_append]
    refine ⟨h1,by simp,?_⟩
    intro x hx y hy
    have hy':y=d[m]:=by simpa using hy
    subst hy'
    obtain ⟨j,hj,hjm,rfl⟩:=(h2 x).1 hx
    have hm1:m-1<d.length:=by omega
    have e1:d.toArray[m-1]! = d[m-1]:=by simp[hm1]
    have hne:d[m]≠d[m-1]:=by
     unfold keeps at hk
     have:=of_decide_eq_true hk
     rcases this with k|k
     ·omega
     ·rw[em,e1] at k;exact k
    have a1:d[j]≤d[m-1]:=by
     by_cases e:j=m-1
     ·subst e;exact Int.le_refl _
     ·exact (List.pairwise_iff_getElem.1 hs) j (m-1) hj hm1 (by omega)
    have a2:d[m-1]≤d[m]:=(List.pairwise_iff_getElem.1 hs) (m-1) m hm1 hmd (by omega)
    omega
   ·rw[List.mem_append,h2]
    constructor
    ·rintro (⟨j,hj,hjm,e⟩|k)
     ·exact ⟨j,hj,by omega,e⟩
     ·exact ⟨m,hmd,by omega,(by simpa using k:x=d[m]).symm⟩
    ·rintro ⟨j,hj,hjm,e⟩
     by_cases e2:j=m
     ·subst e2;exact oR (by simp[e])
     ·exact oL ⟨j,hj,by omega,e⟩
  ·rw[if_neg hk,List.append_nil]
   refine ⟨h1,fun x=> ?_⟩
   rw[h2]
   constructor
   ·rintro ⟨j,hj,hjm,e⟩;exact ⟨j,hj,by omega,e⟩
   ·rintro ⟨j,hj,hjm,e⟩
    by_cases e2:j=m
    ·subst e2
     unfold keeps at hk
     have hk':¬(j=0∨d.toArray[j]! ≠ d.toArray[j-1]!):=fun k=>hk (decide_eq_true k)
     have hj0:j≠0:=fun k=>hk' (oL k)
     have hm1:j-1<d.length:=by omega
     have e1:d.toArray[j-1]! = d[j-1]:=by simp[hm1]
     have he:d[j]=d[j-1]:=by
      by_cases k:d[j]=d[j-1]
      ·exact k
      ·exact absurd (oR (by rw[em,e1];exact k)) hk'
     exact ⟨j-1,hm1,by omega,by rw[←he];exact e⟩
    ·exact ⟨j,hj,by omega,e⟩
theorem gg (l:List Int):(cN l).Pairwise (· < ·)∧∀x,x∈cN l↔x∈l:=by
 have hs:(l.mergeSort fun x y=>decide (x≤y)).Pairwise (· ≤ ·):=by
  have:=List.pairwise_mergeSort (le:=fun x y:Int=>decide (x≤y)) (by intro a b c h1 h2;simp only[decide_eq_true_eq] at *;omega) (by intro a b;simp only[Bool.or_eq_true,decide_eq_true_eq];omega) l
  exact this.imp fun h=>by simpa using h
 have h:=pD hs _ (nR _)
 refine ⟨h.1,fun x=> ?_⟩
 show x∈compactUpTo _ _↔_
 rw[h.2]
 constructor
 ·rintro ⟨j,hj,_,e⟩
  rw[←e]
  exact (List.mergeSort_perm l _).mem_iff.1 (gM hj)
 ·intro hx
  obtain ⟨j,hj,e⟩:=List.getElem_of_mem ((List.mergeSort_perm l _).mem_iff.2 hx)
  exact ⟨j,hj,hj,e⟩
theorem xt {key col:Int} {e:List Cel} {x:Int}:x∈bP key col e↔∃y∈e,dd key col y=true∧y.2.2.2=x:=by
 unfold bP
 rw[List.mem_map]
 constructor
 ·rintro ⟨y,hy,e⟩
  have:=List.mem_filter.1 hy
  exact ⟨y,this.1,this.2,e⟩
 ·rintro ⟨y,hy,hf,e⟩
  exact ⟨y,List.mem_filter.2 ⟨hy,hf⟩,e⟩
theorem dN {t:Tab} (h:am t=0) {x:Cel} (hx:x∈t.e):bj x.2.1 x.2.2.1 x.2.2.2=true:=by
 obtain ⟨j,hj,rfl⟩:=List.getElem_of_mem hx
 have hk:=(ae h).2.2 j hj
 have hg:t.e.getD j ((0,0),0,0,0)=t.e[j]:=by simp[hj]
 unfold ew at hk
 rw[hg] at hk
 simp only[Bool.and_eq_true] at hk
 exact hk.1.2

end
end Go.Proofs.YtkefkplnamkicaaGreatDoor

namespace Go.Proofs.YtkefkplnamkicaaGreatDoor

def grt (l:List Int):Int:=l.getD (l.length-1) 0
def db (e:List Cel) (key:Int):List Int:=[key,grt (cN (bP key 0 e)),grt (cN (bP key 1 e)),grt (cN (bP key 2 e))]
def ofL (t:Tab):List Zit:=(cN (ct t.e)).map fun key=>(db t.e key,1)
theorem zm (l:List Int):grt l=0∨grt l∈l:=by
 unfold grt
 by_cases h:l=[]
 ·subst h;exact oL rfl
 ·have hp:0<l.length:=List.length_pos_iff.2 h
  right
  rw[List.getD_eq_getElem?_getD,List.getElem?_eq_getElem (show l.length-1<l.length by omega)]
  exact gM _
theorem xk {t:Tab} (h:am t=0) {key:Int} (hk:key∈ct t.e):0≤key∧key≤49:=by
 unfold ct at hk
 obtain ⟨y,hy,rfl⟩:=List.mem_map.1 hk
 have:=dN h hy
 simp only[bj,inB,Bool.and_eq_true,decide_eq_true_eq] at this
 exact this.1.1
theorem sw {t:Tab} (h:am t=0) (key col:Int): -1000≤grt (cN (bP key col t.e))∧grt (cN (bP key col t.e))≤1000:=by
 rcases zm (cN (bP key col t.e)) with k|k
 ·rw[k];omega
 ·have h1:=((gg _).2 _).1 k
  obtain ⟨y,hy,_,e⟩:=xt.1 h1
  rw[←e]
  have:=dN h hy
  simp only[bj,inB,Bool.and_eq_true,decide_eq_true_eq] at this
  exact this.2
theorem pO {n:Int} (h: -1000≤n∧n≤1000):okN n=true:=by
 simp only[okN,inB,Bool.and_eq_true,decide_eq_true_eq];omega
theorem B8 {t:Tab} (h:am t=0):ax (ofL t)=0:=by
 have hp:=ae h
 refine (bI _).2 ⟨?_,?_,?_⟩
 ·have h1:=iS (ct t.e)
  have h2:=gG t.e
  unfold ofL
  rw[List.length_map];omega
 ·intro x hx
  unfold ofL at hx
  obtain ⟨key,hk,rfl⟩:=List.mem_map.1 hx
  have h1:=xk h (((gg _).2 _).1 hk)
  have h2:okN key=true:=pO (by omega)
  unfold okZ okR db
  simp[h2,pO (sw h key 0),pO (sw h key 1),pO (sw h key 2)]
  decide
 ·unfold eO ofL
  rw[List.pairwise_map]
  refine (gg (ct t.e)).1.imp fun {a b} hab=> ?_
  show (if bv a b=0 then _ else bv a b)<0
  have:=dg a b
  rw[if_neg (by omega)];omega

end Go.Proofs.YtkefkplnamkicaaGreatDoor
