/-
  node.editOf: what is to be merged with a node's table to do an edit.
  (*Node).Do: a node's edit.
  One table of four nodes, and the packets that were told of it: what edits, packets and meetings leave.
  What is told since a context brings what all would.
  A net as plain data: four nodes' tables and the packets that were sent; what happens, one by one.
  A net in memory: four nodes in one block, and the packets that were sent, which are never written any more.
-/
import Derived.Test.YtkefkplnamkicaaGreatDoorM30
set_option maxRecDepth 100000
set_option maxHeartbeats 8000000
open Go.IntKind renaming i64 → I
open Go.Obj renaming cells → H
open Go.Value renaming int → S, slice → Z, tuple → Y, agg → X
namespace Go.Proofs.YtkefkplnamkicaaGreatDoor
open Go.RowKit Go.Sort

def edE (t:Tab) (id k key col v:Int):Int:=if k=1 then de t id key col v else if k=2 then eQ t key else 1
def edT (t:Tab) (id k key col v:Int):Tab:=if k=1 then cR t id key col v else if k=2 then ⟨cJ t key,[]⟩ else ⟨⟨0,0,0,0,[]⟩,[]⟩
structure TbW (n:Nat) (w:World) (t:Tab) (A:Option Addr) (ca:Nat) (D:Option Addr) (cd:Nat):Prop where
 row:Row w A t.c.l
 cel:bw w D t.e
 nr:A=none→ca=0
 nc:D=none→cd=0
 newr:∀a,A=some a→n≤a.block
 newc:∀a,D=some a→n≤a.block
theorem TbW.below {n:Nat} {w w':World} {t:Tab} {A:Option Addr} {ca:Nat} {D:Option Addr} {cd:Nat} (h:TbW n w t A ca D cd) (k:Below w.heap.size w w'):TbW n w' t A ca D cd:=⟨h.row.below k,h.cel.below k,h.nr,h.nc,h.newr,h.newc⟩
theorem TbW.mono {n m:Nat} {w:World} {t:Tab} {A:Option Addr} {ca:Nat} {D:Option Addr} {cd:Nat} (h:TbW n w t A ca D cd) (k:m≤n):TbW m w t A ca D cd:=⟨h.row,h.cel,h.nr,h.nc,fun a ha=>nT k (h.newr a ha),fun a ha=>nT k (h.newc a ha)⟩
theorem TbW.agr {n:Nat} {w w':World} {t:Tab} {A:Option Addr} {ca:Nat} {D:Option Addr} {cd:Nat} (h:TbW n w t A ca D cd) (k:Agr (fun b=>n≤b) w w'):TbW n w' t A ca D cd:=⟨h.row.agr (fun a ha _=>h.newr a ha) k,h.cel.agr (fun a ha _=>h.newc a ha) k,h.nr,h.nc,h.newr,h.newc⟩
theorem TbW.p {n:Nat} {w:World} {t:Tab} {A:Option Addr} {ca:Nat} {D:Option Addr} {cd:Nat} (h:TbW n w t A ca D cd) (e:am t=0):TbP (fun b=>n≤b∧b<w.heap.size) w t A ca D cd :=
 ⟨h.row,h.cel,fun a ha hl=>⟨h.newr a ha,h.row.lt a ha hl⟩,fun a ha hl=>⟨h.newc a ha,h.cel.lt a ha hl⟩,h.nr,h.nc,e⟩
theorem jX {P:Nat→Prop} {w:World} {B:Nat} (h:¬P B) (u0 u1 u2 u3 u4 u5:Value):Agr P w ((((((w.setCell ⟨B,0,none⟩ u0).setCell ⟨B,1,none⟩ u1).setCell ⟨B,2,none⟩ u2).setCell ⟨B,3,none⟩ u3).setCell ⟨B,4,none⟩ u4).setCell ⟨B,5,none⟩ u5) :=
 (((((aS _ h).trans (aS _ h)).trans (aS _ h)).trans (aS _ h)).trans (aS _ h)).trans (aS _ h)

theorem m9 (t:Tab) (A:Option Addr) (ca:Nat) (D:Option Addr) (cd:Nat) (id k x2 x3 x4 x5:Int) (w:World) (hl:t.c.l.length≤maxLen) (hel:t.e.length≤maxLen) (hr:Row w A t.c.l) (hd:bw w D t.e) :
  Calls Tryz.prog 74 #[X (T6 t A ca D cd).toArray,S I id,X #[S I k,S I x2,S I x3,S I x4,S I x5]] w fun e w'=>∃(u:Tab) (C:Option Addr) (cp:Nat) (F:Option Addr) (cf:Nat),e= .returned (Y #[X (T6 u C cp F cf).toArray,S I (edE t id k x3 x4 x5)])∧u=edT t id k x3 x4 x5∧TbW w.heap.size w' u C cp F cf∧Below w.heap.size w w':=by
 obtain ⟨w1,hw1⟩:∃W,((w.alloc (H #[S I t.c.c0,S I t.c.c1,S I t.c.c2,S I t.c.c3,Z A t.c.l.length ca,Z D t.e.length cd] 41)).alloc (H #[S I k,S I x2,S I x3,S I x4,S I x5] 28)).alloc (H #[S I 0,S I 0,S I 0,S I 0,Z none 0 0,Z none 0 0] 41)=W:=⟨_,rfl⟩
 have hg1:Gr w w1:=by rw[←hw1];exact (((gR w).alloc _).alloc _).alloc _
 have hs1:w1.heap.size=w.heap.size+1+1+1:=by rw[←hw1];simp
 have hB0:Cls w1 w.heap.size (T6 t A ca D cd):=by rw[←hw1];exact (Cls.new w _ _).gr (((gR _).alloc _).alloc _)
 have hB1:Cls w1 (w.heap.size+1) [S I k,S I x2,S I x3,S I x4,S I x5]:=by
  rw[←hw1]
  have:=(Cls.new (w.alloc (H #[S I t.c.c0,S I t.c.c1,S I t.c.c2,S I t.c.c3,Z A t.c.l.length ca,Z D t.e.length cd] 41)) #[S I k,S I x2,S I x3,S I x4,S I x5] 28).gr ((gR _).alloc (H #[S I 0,S I 0,S I 0,S I 0,Z none 0 0,Z none 0 0] 41))
  rwa [show (w.alloc (H #[S I t.c.c0,S I t.c.c1,S I t.c.c2,S I t.c.c3,Z A t.c.l.length ca,Z D t.e.length cd] 41)).heap.size=w.heap.size+1 by simp] at this
 have hB2:Cls w1 (w.heap.size+1+1) Z6:=by
  rw[←hw1]
  have:=Cls.new ((w.alloc (H #[S I t.c.c0,S I t.c.c1,S I t.c.c2,S I t.c.c3,Z A t.c.l.length ca,Z D t.e.length cd] 41)).alloc (H #[S I k,S I x2,S I x3,S I x4,S I x5] 28)) #[S I 0,S I 0,S I 0,S I 0,Z none 0 0,Z none 0 0] 41
  rwa [show ((w.alloc (H #[S I t.c.c0,S I t.c.c1,S I t.c.c2,S I t.c.c3,Z A t.c.l.length ca,Z D t.e.length cd] 41)).alloc (H #[S I k,S I x2,S I x3,S I x4,S I x5] 28)).heap.size=w.heap.size+1+1 by simp] at this
 obtain ⟨a0,a1,a2,a3,a4,a5⟩:=gw hB0
 obtain ⟨b0,b1,b2,b3,b4⟩:=wg hB1
 have hH:Hid (Gr w w1∧w1.heap.size=w.heap.size+1+1+1∧Cls w1 (w.heap.size+1+1) Z6):=⟨hg1,hs1,hB2⟩
 have hP:Hid (Row w1 A t.c.l∧bw w1 D t.e∧t.c.l.length≤maxLen∧t.e.length≤maxLen):=⟨hr.gr hg1,hd.gr hg1,hl,hel⟩
 clear hg1 hs1 hB0 hB1 hB2 hr hd hl hel
 go_enter Tryz.func74,Tryz.ntmps74
 by_cases h1:k=1
 ·subst h1
  have hC0:=zE t A ca D cd id x3 x4 x5 w1 hP.out.2.2.1 hP.out.2.2.2 hP.out.1 hP.out.2.1
  obtain ⟨u,hu⟩:∃u,cR t id x3 x4 x5=u:=⟨_,rfl⟩
  obtain ⟨E,hE⟩:∃E,de t id x3 x4 x5=E:=⟨_,rfl⟩
  rw[hu,hE] at hC0
  have hC:Hid _:=hC0
  have hUE:Hid (cR t id x3 x4 x5=u∧de t id x3 x4 x5=E):=⟨hu,hE⟩
  clear hC0 hu hE
  go_wp2_with fail
  refine cM (show Calls _ _ _ _ _ from hC.out) ?_
  rintro e w2 ⟨C,cp,F,cf,rfl,f1,f2,f3,f4,f5,f6,f7⟩
  have hF:Hid (TbW w1.heap.size w2 u C cp F cf∧Below w1.heap.size w1 w2):=⟨⟨f1,f2,f3,f4,f5,f6⟩,f7⟩
  have hR2:Hid (Cls w2 (w.heap.size+1+1) Z6):=hH.out.2.2.below f7
  clear f1 f2 f3 f4 f5 f6 f7 hC
  obtain ⟨p0,p1,p2,p3,p4,p5⟩:=gw hR2.out
  obtain ⟨z0,z1,z2,z3,z4,z5⟩:=sn hR2.out
  clear hw1
  go_wp2
  have hs1:=hH.out.2.1
  have hBw:Below w.heap.size w w2:=hH.out.1.below.trans (hF.out.2.mono hH.out.1.size)
  refine bodyPost_ret (v:= Y #[X (T6 u C cp F cf).toArray,S I E]) (by simp[results,Tryz.results74,go_sem,p0,p1,p2,p3,p4,p5]) rfl ⟨u,C,cp,F,cf,by unfold edE;rw[if_pos rfl,hUE.out.2],by unfold edT;rw[if_pos rfl,hUE.out.1],?_,aq hBw (by omega) _ _ _ _ _ _⟩
  exact (hF.out.1.agr (jX (fun h=>by omega) _ _ _ _ _ _)).mono (by omega)
 ·by_cases h2:k=2
  ·subst h2
   have hC0:=yO t A ca D cd x3 w1 hP.out.2.2.1 hP.out.2.2.2 hP.out.1 hP.out.2.1
   obtain ⟨u,hu⟩:∃u,cJ t x3=u:=⟨_,rfl⟩
   obtain ⟨E,hE⟩:∃E,eQ t x3=E:=⟨_,rfl⟩
   rw[hu,hE] at hC0
   have hC:Hid _:=hC0
   have hUE:Hid (cJ t x3=u∧eQ t x3=E):=⟨hu,hE⟩
   clear hC0 hu hE h1
   go_wp2_with fail
   refine cM (show Calls _ _ _ _ _ from hC.out) ?_
   rintro e w2 ⟨C,cp,rfl,f1,f2,f3,f4⟩
   have hF:Hid (TbW w1.heap.size w2 ⟨u,[]⟩ C cp none 0∧Below w1.heap.size w1 w2):=⟨⟨f1,oL rfl,f2,fun _=>rfl,f3,(fun a h=>by cases h)⟩,f4⟩
   have hR2:Hid (Cls w2 (w.heap.size+1+1) Z6):=hH.out.2.2.below f4
   clear f1 f2 f3 f4 hC
   obtain ⟨p0,p1,p2,p3,p4,p5⟩:=gw hR2.out
   obtain ⟨z0,z1,z2,z3,z4,z5⟩:=sn hR2.out
   clear hw1
   go_wp2
   have hs1:=hH.out.2.1
   have hBw:Below w.heap.size w w2:=hH.out.1.below.trans (hF.out.2.mono hH.out.1.size)
   refine bodyPost_ret (v:= Y #[X #[S I u.c0,S I u.c1,S I u.c2,S I u.c3,Z C u.l.length cp,Z none 0 0],S I E]) (by simp[results,Tryz.results74,go_sem,p0,p1,p2,p3,p4,p5]) rfl ⟨⟨u,[]⟩,C,cp,none,0,by unfold edE;rw[if_neg (by decide),if_pos rfl,hUE.out.2];rfl,by unfold edT;rw[if_neg (by decide),if_pos rfl,hUE.out.1],?_,aq hBw (by omega) _ _ _ _ _ _⟩
   exact (hF.out.1.agr (jX (fun h=>by omega) _ _ _ _ _ _)).mono (by omega)
  ·have hk1:(k==1)=false:=by simpa using h1
   have hk2:(k==2)=false:=by simpa using h2
   have hR2:Hid (Cls w1 (w.heap.size+1+1) Z6):=hH.out.2.2
   have hfin:Hid (edE t id k x3 x4 x5=1∧edT t id k x3 x4 x5=⟨⟨0,0,0,0,[]⟩,[]⟩):=⟨by unfold edE;rw[if_neg h1,if_neg h2],by unfold edT;rw[if_neg h1,if_neg h2]⟩
   obtain ⟨p0,p1,p2,p3,p4,p5⟩:=gw hR2.out
   obtain ⟨z0,z1,z2,z3,z4,z5⟩:=sn hR2.out
   clear h1 h2
   go_wp2
   clear hw1
   have hs1:=hH.out.2.1
   refine bodyPost_ret (v:= Y #[X #[S I 0,S I 0,S I 0,S I 0,Z none 0 0,Z none 0 0],S I 1]) (by simp[results,Tryz.results74,go_sem,p0,p1,p2,p3,p4,p5]) rfl ⟨⟨⟨0,0,0,0,[]⟩,[]⟩,none,0,none,0,by rw[hfin.out.1];rfl,hfin.out.2.symm,⟨oL rfl,oL rfl,fun _=>rfl,fun _=>rfl,(fun a h=>by cases h),(fun a h=>by cases h)⟩,aq hH.out.1.below (by omega) _ _ _ _ _ _⟩

def doE (t:Tab) (id k key col v:Int):Int:=if edE t id k key col v=0 then al t (edT t id k key col v) else edE t id k key col v
def doT (t:Tab) (id k key col v:Int):Tab:=if doE t id k key col v=0 then ac t (edT t id k key col v) else t
def ndE (s t:Tab) (id k x2 key col v:Int):Int:=if x2=0 then doE s id k key col v else if x2=1 then doE t id k key col v else 1
def ndS (s:Tab) (id k x2 key col v:Int):Tab:=if x2=0 then doT s id k key col v else s
def ndT (t:Tab) (id k x2 key col v:Int):Tab:=if x2=1 then doT t id k key col v else t
theorem tE (t:Tab) (id k key col v:Int):(edT t id k key col v).c.l.length≤maxLen∧(edT t id k key col v).e.length≤maxLen:=by
 unfold edT
 by_cases h1:k=1
 ·rw[if_pos h1];exact vu t id key col v
 ·rw[if_neg h1]
  by_cases h2:k=2
  ·rw[if_pos h2];exact ⟨uw t key,nZ _⟩
  ·rw[if_neg h2];exact ⟨nZ _,nZ _⟩
def DoR (w1 wx:World) (m:Nat) (Bm:Nat) (r:Tab) (id k x3 x4 x5:Int):Prop:=∃(u:Tab) (E:Option Addr) (ce:Nat) (F:Option Addr) (cf:Nat),u=edT r id k x3 x4 x5∧Cls wx Bm (T6 u E ce F cf)∧TbW m wx u E ce F cf∧Below w1.heap.size w1 wx∧w1.heap.size≤Bm
theorem qE {w1 w2:World} {r:Tab} {id k x3 x4 x5:Int} {u:Tab} {E:Option Addr} {ce:Nat} {F:Option Addr} {cf:Nat} (hu:u=edT r id k x3 x4 x5) (hB:Cls w2 w1.heap.size Z6) (hT:TbW (w1.heap.size+1) w2 u E ce F cf) (hb:Below w1.heap.size w1 w2) :
  DoR w1 ((((((w2.setCell ⟨w1.heap.size,0,none⟩ (S I u.c.c0)).setCell ⟨w1.heap.size,1,none⟩ (S I u.c.c1)).setCell ⟨w1.heap.size,2,none⟩ (S I u.c.c2)).setCell ⟨w1.heap.size,3,none⟩ (S I u.c.c3)).setCell ⟨w1.heap.size,4,none⟩ (Z E u.c.l.length ce)).setCell ⟨w1.heap.size,5,none⟩ (Z F u.e.length cf)) w1.heap.size w1.heap.size r id k x3 x4 x5 :=
 ⟨u,E,ce,F,cf,hu,(((((hB.put 0 _).put 1 _).put 2 _).put 3 _).put 4 _).put 5 _,(hT.agr (jX (fun h=>by omega) _ _ _ _ _ _)).mono (by omega),aq hb (nR _) _ _ _ _ _ _,nR _⟩
theorem tC {w1 w2:World} {r:Tab} {id k x3 x4 x5:Int} {u:Tab} {E:Option Addr} {ce:Nat} {F:Option Addr} {cf:Nat} {T:TypeId} (hu:u=edT r id k x3 x4 x5) (hT:TbW w1.heap.size w2 u E ce F cf) (hb:Below w1.heap.size w1 w2) :
  DoR w1 (w2.alloc (H #[S I u.c.c0,S I u.c.c1,S I u.c.c2,S I u.c.c3,Z E u.c.l.length ce,Z F u.e.length cf] T)) w1.heap.size w2.heap.size r id k x3 x4 x5 :=
 ⟨u,E,ce,F,cf,hu,Cls.new w2 _ T,hT.below ((gR w2).alloc _).below,hb.alloc hb.size _,hb.size⟩

theorem uR {a b:Tab} (h0:al a b=0) (d:Int×Int):ai (ac a b).c d=true↔ai a.c d=true∨ai b.c d=true:=by
 obtain ⟨_,_,_,hj,_⟩:=bM h0
 have hk:=cY hj
 rw[aN h0]
 show ai (aA a.c b.c) d=true↔_
 rw[hk.2.2.2.1]
 exact dt hk.1 hk.2.1 d
def upd (x:Nat→Tab) (i:Nat) (t:Tab):Nat→Tab:=fun j=>if j=i then t else x j
theorem bB (x:Nat→Tab) (i:Nat) (t:Tab):upd x i t i=t:=if_pos rfl
theorem dQ (x:Nat→Tab) {i j:Nat} (t:Tab) (h:j≠i):upd x i t j=x j:=if_neg h
structure Lane (U:List Cel) (x:Nat→Tab) (ps:List Tab):Prop where
 uni:Uni U
 sub:∀i,Sub U (x i)
 own:∀i:Nat,i<4→∀y∈U,y.1.1=(i:Int)→ai (x i).c y.1=true
 pk:∀p∈ps,Sub U p
section
variable {U:List Cel} {x:Nat→Tab} {ps:List Tab}
theorem Lane.take (h:Lane U x ps) (i:Nat) {p:Tab} (hp:Sub U p):al (x i) p=0∧Lane U (upd x i (ac (x i) p)) ps:=by
 obtain ⟨h0,h1,h2,_⟩:=Sub.merge h.uni (h.sub i) hp
 refine ⟨h0,h.uni,fun j=> ?_,fun j hj y hy e=> ?_,h.pk⟩
 ·by_cases e:j=i
  ·subst e
   rw[bB]
   exact h1
  ·rw[dQ x _ e]
   exact h.sub j
 ·have hh:=h.own j hj y hy e
  by_cases e:j=i
  ·subst e
   rw[bB]
   exact (h2 _).2 (oL hh)
  ·rw[dQ x _ e]
   exact hh
theorem Lane.send (h:Lane U x ps) {p:Tab} (hp:Sub U p):Lane U x (ps++[p]) :=
 ⟨h.uni,h.sub,h.own,fun q hq=>by
  rcases List.mem_append.1 hq with k|k
  ·exact h.pk q k
  ·rw[List.mem_singleton.1 k];exact hp⟩
theorem Sub.since {t:Tab} {c:Ctx} (h:Sub U t) (h0:aT t c=0):Sub U (aB t c):=by
 have ht:=h.ok
 have hs:woE t.c (ak (aZ c) t.e)=0:=by
  unfold aT at h0
  rw[ht] at h0
  by_cases hc:aP c=0
  ·rw[hc] at h0;simpa using h0
  ·rw[if_neg (by simp),if_pos hc] at h0;exact absurd h0 hc
 have hd:=dC ht (aZ c)
 obtain ⟨_,h2,h3⟩:=yx hd.2 hs
 have hT:aB t c=⟨woC t.c (ak (aZ c) t.e),eu c t.e⟩:=by unfold aB;rw[if_pos h0]
 rw[hT]
 have hsub:∀y∈eu c t.e,y∈t.e∧aZ c y=false:=fun y hy=>by
  have:=List.mem_filter.1 hy
  exact ⟨this.1,by simpa using this.2⟩
 refine ⟨?_,fun y hy=>h.cel y (hsub y hy).1,fun d hd=>h.ctx d ((h3 d).1 hd).1⟩
 refine iK h2 (nT (List.length_filter_le _ _) (ae ht).2.1) (List.Pairwise.filter _ (dE ht)) fun y hy=> ?_
 obtain ⟨hy1,hy2⟩:=hsub y hy
 refine ⟨(h3 _).2 ⟨bS ht hy1,fun hm=> ?_⟩,dN ht hy1⟩
 rw[(gd ht hy1).1 hm] at hy2
 cases hy2
theorem Lane.edit (h:Lane U x ps) {i:Nat} (hi:i<4) (hl:U.length+1≤400) (k key col v:Int):∃U',Lane U' (upd x i (doT (x i) i k key col v)) ps∧U'.length≤U.length+1∧∀y∈U,y∈U':=by
 have same:doT (x i) i k key col v=x i→∃U',Lane U' (upd x i (doT (x i) i k key col v)) ps∧U'.length≤U.length+1∧∀y∈U,y∈U':=fun e=>by
  have hu:upd x i (doT (x i) i k key col v)=x:=by
   funext j
   by_cases ej:j=i
   ·subst ej;rw[bB,e]
   ·rw[dQ x _ ej]
  rw[hu]
  exact ⟨U,h,by omega,fun y hy=>hy⟩
 by_cases h0:doE (x i) i k key col v=0
 ·have hT:doT (x i) i k key col v=ac (x i) (edT (x i) i k key col v):=by unfold doT;rw[if_pos h0]
  have hE:edE (x i) i k key col v=0∧al (x i) (edT (x i) i k key col v)=0:=by
   unfold doE at h0
   by_cases e:edE (x i) i k key col v=0
   ·rw[if_pos e] at h0;exact ⟨e,h0⟩
   ·rw[if_neg e] at h0;exact absurd h0 e
  rw[hT]
  by_cases k1:k=1
  ·have e1:edE (x i) i k key col v=de (x i) i key col v:=by unfold edE;rw[if_pos k1]
   have e2:edT (x i) i k key col v=cR (x i) i key col v:=by unfold edT;rw[if_pos k1]
   rw[e1,e2] at hE
   rw[e2]
   obtain ⟨N,_,hN,hnew,hcel,hctx⟩:=zC hE.1 hE.2
   have hfresh:∀y∈U,y.1≠N:=fun y hy e=>by
    have:=h.own i hi y hy (by rw[e];exact hN)
    rw[e,hnew] at this
    cases this
   refine ⟨U++[(N,key,col,v)],⟨⟨?_,by simpa using hl⟩,fun j=> ?_,fun j hj y hy e=> ?_,fun p hp=>(h.pk p hp).mono fun y hy=>List.mem_append_left _ hy⟩,by simp,fun y hy=>List.mem_append_left _ hy⟩
   ·rw[List.map_append,List.nodup_append]
    refine ⟨h.uni.nd,by simp,fun a ha b hb e=> ?_⟩
    obtain ⟨y,hy,e2⟩:=List.mem_map.1 ha
    have hb':b=N:=by simpa using hb
    exact hfresh y hy (e2.trans (e.trans hb'))
   ·by_cases ej:j=i
    ·subst ej
     rw[bB]
     refine ⟨di hE.2,fun y hy=> ?_,fun d hd=> ?_⟩
     ·rcases (hcel y).1 hy with hy|hy
      ·exact List.mem_append_left _ ((h.sub j).cel y hy.1)
      ·rw[hy];exact List.mem_append_right _ (List.mem_singleton.2 rfl)
     ·rcases (hctx d).1 hd with hd|hd
      ·obtain ⟨y,hy,e⟩:=(h.sub j).ctx d hd
       exact ⟨y,List.mem_append_left _ hy,e⟩
      ·exact ⟨(N,key,col,v),List.mem_append_right _ (List.mem_singleton.2 rfl),hd.symm⟩
    ·rw[dQ x _ ej]
     exact (h.sub j).mono fun y hy=>List.mem_append_left _ hy
   ·rcases List.mem_append.1 hy with hy|hy
    ·have hh:=h.own j hj y hy e
     by_cases ej:j=i
     ·subst ej
      rw[bB]
      exact (hctx _).2 (oL hh)
     ·rw[dQ x _ ej]
      exact hh
    ·rw[List.mem_singleton.1 hy] at e ⊢
     have ej:j=i:=by
      have e':N.1=(j:Int):=e
      rw[hN] at e'
      omega
     subst ej
     rw[bB]
     exact (hctx _).2 (oR rfl)
  ·by_cases k2:k=2
   ·have e1:edE (x i) i k key col v=eQ (x i) key:=by unfold edE;rw[if_neg k1,if_pos k2]
    have e2:edT (x i) i k key col v=⟨cJ (x i) key,[]⟩:=by unfold edT;rw[if_neg k1,if_pos k2]
    rw[e1,e2] at hE
    rw[e2]
    obtain ⟨_,_,_,hcel⟩:=om hE.1
    have hctx:∀d,ai (ac (x i) ⟨cJ (x i) key,[]⟩).c d=true↔ai (x i).c d=true:=fun d=>by
     rw[uR hE.2]
     exact ⟨fun hh=>hh.elim id fun hh=>yP hE.1 d hh,oL⟩
    refine ⟨U,⟨h.uni,fun j=> ?_,fun j hj y hy e=> ?_,h.pk⟩,by omega,fun y hy=>hy⟩
    ·by_cases ej:j=i
     ·subst ej
      rw[bB]
      exact ⟨di hE.2,fun y hy=>(h.sub j).cel y ((hcel y).1 hy).1,fun d hd=>(h.sub j).ctx d ((hctx d).1 hd)⟩
     ·rw[dQ x _ ej]
      exact h.sub j
    ·have hh:=h.own j hj y hy e
     by_cases ej:j=i
     ·subst ej
      rw[bB]
      exact (hctx _).2 hh
     ·rw[dQ x _ ej]
      exact hh
   ·have e1:edE (x i) i k key col v=1:=by unfold edE;rw[if_neg k1,if_neg k2]
    rw[e1] at hE
    cases hE.1
 ·exact same (by unfold doT;rw[if_neg h0])
end
def jd (x:Nat→Tab) (p:Nat×Nat):Nat→Tab:=upd x p.2 (ac (x p.2) (x p.1))
def fL:List (Nat×Nat)→(Nat→Tab)→Nat→Tab
 | [],x=>x
 | p::l,x=>fL l (jd x p)
section
variable {U:List Cel} {x:Nat→Tab} {ps:List Tab}
theorem Lane.tell (h:Lane U x ps) (p:Nat×Nat):al (x p.2) (x p.1)=0∧Lane U (jd x p) ps:=h.take p.2 (h.sub p.1)
theorem Lane.tells:∀(l:List (Nat×Nat)) {x:Nat→Tab},Lane U x ps→Lane U (fL l x) ps
 | [],_,h=>h
 | p::l,_,h=>Lane.tells l (h.tell p).2
theorem pq (h:Lane U x ps) (p:Nat×Nat) (j:Nat):Bel (x j) (jd x p j):=by
 unfold jd
 by_cases e:j=p.2
 ·subst e
  rw[bB]
  exact Bel.left h.uni (h.sub _) (h.sub _)
 ·rw[dQ x _ e]
  exact Bel.refl (h.sub j)
theorem jz:∀(l:List (Nat×Nat)) {x:Nat→Tab},Lane U x ps→∀j,Bel (x j) (fL l x j)
 | [],_,h,j=>Bel.refl (h.sub j)
 | p::l,_,h,j=>Bel.trans h.uni (h.sub j) ((h.tell p).2.sub j) ((Lane.tells l (h.tell p).2).sub j) (pq h p j) (jz l (h.tell p).2 j)
theorem lm:∀(l:List (Nat×Nat)) {x:Nat→Tab},Lane U x ps→∀i j,(i,j)∈l→Bel (x i) (fL l x j)
 | [],_,_,_,_,hm=>by cases hm
 | p::l,x,h,i,j,hm=>by
  have h2:=(h.tell p).2
  rcases List.mem_cons.1 hm with e|hm
  ·subst e
   have h1:Bel (x i) (jd x (i,j) j):=by
    show Bel (x i) (upd x j (ac (x j) (x i)) j)
    rw[bB]
    exact Bel.right h.uni (h.sub j) (h.sub i)
   exact Bel.trans h.uni (h.sub i) (h2.sub j) ((Lane.tells l h2).sub j) h1 (jz l h2 j)
  ·exact Bel.trans h.uni (h.sub i) (h2.sub i) ((Lane.tells l h2).sub j) (pq h p i) (lm l h2 i j hm)
theorem lp {J:Tab} (hJ:Sub U J):∀(l:List (Nat×Nat)) {x:Nat→Tab},Lane U x ps→(∀p∈l,p.1<4∧p.2<4)→(∀j,j<4→Bel (x j) J)→∀j,j<4→Bel (fL l x j) J
 | [],_,_,_,hb,j,hj=>hb j hj
 | p::l,x,h,hp,hb,j,hj=>by
  refine lp hJ l (h.tell p).2 (fun q hq=>hp q (mC _ hq)) (fun i hi=> ?_) j hj
  unfold jd
  have hpp:=hp p (mS ..)
  by_cases e:i=p.2
  ·subst e
   rw[bB]
   exact Bel.both h.uni (h.sub _) (h.sub _) hJ (hb _ hpp.2) (hb _ hpp.1)
  ·rw[dQ x _ e]
   exact hb i hi
def lr (x:Nat→Tab):Tab:=ac (ac (ac (x 0) (x 1)) (x 2)) (x 3)
theorem Lane.all (h:Lane U x ps):Sub U (lr x)∧∀j,j<4→Bel (x j) (lr x):=by
 have hU:=h.uni
 have s1:=(Sub.merge hU (h.sub 0) (h.sub 1)).2.1
 have s2:=(Sub.merge hU s1 (h.sub 2)).2.1
 have s3:=(Sub.merge hU s2 (h.sub 3)).2.1
 have b2:Bel (ac (ac (x 0) (x 1)) (x 2)) (lr x):=Bel.left hU s2 (h.sub 3)
 have b1:Bel (ac (x 0) (x 1)) (lr x):=Bel.trans hU s1 s2 s3 (Bel.left hU s1 (h.sub 2)) b2
 refine ⟨s3,fun j hj=> ?_⟩
 match j,hj with
 | 0,_=>exact Bel.trans hU (h.sub 0) s1 s3 (Bel.left hU (h.sub 0) (h.sub 1)) b1
 | 1,_=>exact Bel.trans hU (h.sub 1) s1 s3 (Bel.right hU (h.sub 0) (h.sub 1)) b1
 | 2,_=>exact Bel.trans hU (h.sub 2) s2 s3 (Bel.right hU s1 (h.sub 2)) b2
 | 3,_=>exact Bel.right hU s2 (h.sub 3)
theorem Lane.least (h:Lane U x ps) {m:Tab} (hm:Sub U m) (hb:∀j,j<4→Bel (x j) m):Bel (lr x) m:=by
 have hU:=h.uni
 have s1:=(Sub.merge hU (h.sub 0) (h.sub 1)).2.1
 have s2:=(Sub.merge hU s1 (h.sub 2)).2.1
 exact Bel.both hU s2 (h.sub 3) hm (Bel.both hU s1 (h.sub 2) hm (Bel.both hU (h.sub 0) (h.sub 1) hm (hb 0 (by omega)) (hb 1 (by omega))) (hb 2 (by omega))) (hb 3 (by omega))
theorem Lane.met (h:Lane U x ps) (l:List (Nat×Nat)) (hl:∀p∈l,p.1<4∧p.2<4) (ha:∀i j,i<4→j<4→i≠j→(i,j)∈l):∀j,j<4→fL l x j=lr x:=by
 intro j hj
 have hA:=h.all
 have hL:=Lane.tells l h
 refine Bel.anti h.uni (hL.sub j) hA.1 (lp hA.1 l h hl hA.2 j hj) (h.least (hL.sub j) fun i hi=> ?_)
 by_cases e:i=j
 ·subst e
  exact jz l h i
 ·exact lm l h i j (ha i j hi hj e)
def gP (t:Tab):List Tab→Tab
 | []=>t
 | p::l=>gP (ac t p) l
theorem iW (hU:Uni U):∀(l:List Tab) {t:Tab},Sub U t→(∀p∈l,Sub U p)→Sub U (gP t l)
 | [],_,ht,_=>ht
 | p::l,_,ht,hp=>iW hU l (Sub.merge hU ht (hp p (mS ..))).2.1 fun q hq=>hp q (mC _ hq)
theorem ng (hU:Uni U):∀(l:List Tab) {t:Tab},Sub U t→(∀p∈l,Sub U p)→Bel t (gP t l)∧∀p∈l,Bel p (gP t l)
 | [],_,ht,_=>⟨Bel.refl ht,fun p hp=>by cases hp⟩
 | p::l,t,ht,hp=>by
  have h1:=hp p (mS ..)
  have hp':∀q∈l,Sub U q:=fun q hq=>hp q (mC _ hq)
  have hm:=(Sub.merge hU ht h1).2.1
  have hs:=iW hU l hm hp'
  obtain ⟨k1,k2⟩:=ng hU l hm hp'
  refine ⟨Bel.trans hU ht hm hs (Bel.left hU ht h1) k1,fun q hq=> ?_⟩
  rcases List.mem_cons.1 hq with e|hq
  ·subst e
   exact Bel.trans hU h1 hm hs (Bel.right hU ht h1) k1
  ·exact k2 q hq
theorem iD (hU:Uni U) {m:Tab} (hm:Sub U m):∀(l:List Tab) {t:Tab},Sub U t→(∀p∈l,Sub U p)→Bel t m→(∀p∈l,Bel p m)→Bel (gP t l) m
 | [],_,_,_,hb,_=>hb
 | p::l,t,ht,hp,hb,hk=>by
  have h1:=hp p (mS ..)
  exact iD hU hm l (Sub.merge hU ht h1).2.1 (fun q hq=>hp q (mC _ hq)) (Bel.both hU ht h1 hm hb (hk p (mS ..))) fun q hq=>hk q (mC _ hq)
theorem nf (hU:Uni U) {t:Tab} (ht:Sub U t) {l m:List Tab} (hl:∀p∈l,Sub U p) (hm:∀p∈m,Sub U p) (e:∀p,p∈l↔p∈m):gP t l=gP t m:=by
 have sl:=iW hU l ht hl
 have sm:=iW hU m ht hm
 obtain ⟨a1,a2⟩:=ng hU l ht hl
 obtain ⟨b1,b2⟩:=ng hU m ht hm
 exact Bel.anti hU sl sm (iD hU sm l ht hl b1 fun p hp=>b2 p ((e p).1 hp)) (iD hU sl m ht hm a1 fun p hp=>a2 p ((e p).2 hp))
end

theorem rC {t:Tab} {c:Ctx} (h:aT t c=0):am t=0∧aP c=0∧woE t.c (ak (aZ c) t.e)=0∧aB t c=⟨woC t.c (ak (aZ c) t.e),eu c t.e⟩:=by
 have hT:aB t c=⟨woC t.c (ak (aZ c) t.e),eu c t.e⟩:=by unfold aB;rw[if_pos h]
 unfold aT at h
 by_cases h1:am t=0
 ·by_cases h2:aP c=0
  ·rw[h1,h2] at h
   exact ⟨h1,h2,by simpa using h,hT⟩
  ·simp[h1,h2] at h
 ·simp[h1] at h
theorem iQ {c:Ctx} {e:List Cel} {d:Int×Int}:d∈ak (aZ c) e↔∃y∈e,y.1=d∧ai c d=true:=by
 unfold ak
 rw[List.mem_map]
 constructor
 ·rintro ⟨y,hy,rfl⟩
  have:=List.mem_filter.1 hy
  exact ⟨y,this.1,rfl,this.2⟩
 ·rintro ⟨y,hy,rfl,h⟩
  exact ⟨y,List.mem_filter.2 ⟨hy,h⟩,rfl⟩
theorem mB {c:Ctx} {e:List Cel} {x:Cel}:x∈eu c e↔x∈e∧ai c x.1=false:=by
 unfold eu
 rw[List.mem_filter]
 simp[aZ]
theorem k6 {a b:Tab} (h1:al b a=0) (h2:aT a b.c=0):am (aB a b.c)=0∧al b (aB a b.c)=0∧ac b (aB a b.c)=ac b a:=by
 obtain ⟨ha,hcb,hwo,hT⟩:=rC h2
 obtain ⟨hb,_,hcl,hj,hlen⟩:=bM h1
 have hKr:=j8 ha (aZ b.c)
 obtain ⟨_,hwc,hhas⟩:=yx hKr hwo
 have hsub:Asc (eu b.c a.e):=List.Pairwise.filter _ (dE ha)
 have hd:am (aB a b.c)=0:=by
  rw[hT]
  refine iK hwc (nT (oU _ _) (ae ha).2.1) hsub fun x hx=> ?_
  obtain ⟨hx1,hx2⟩:=mB.1 hx
  refine ⟨(hhas x.1).2 ⟨bS ha hx1,fun hk=> ?_⟩,dN ha hx1⟩
  obtain ⟨y,_,_,hy⟩:=iQ.1 hk
  rw[hx2] at hy;cases hy
 have hcan_d:=bX hwc
 have hcan_a:=bX (ae ha).1
 have hcan_b:=bX hcb
 have hF:cO b.c (woC a.c (ak (aZ b.c) a.e))=cO b.c a.c:=by
  refine pB (dU hcan_b hcan_d) (dU hcan_b hcan_a) fun x=> ?_
  rw[dt hcan_b hcan_d,dt hcan_b hcan_a,hhas]
  constructor
  ·rintro (k|k)
   ·exact oL k
   ·exact oR k.1
  ·rintro (k|k)
   ·exact oL k
   ·by_cases hx:x∈ak (aZ b.c) a.e
    ·obtain ⟨_,_,_,hy⟩:=iQ.1 hx
     exact oL hy
    ·exact oR ⟨k,hx⟩
 have hjd:aC b.c (woC a.c (ak (aZ b.c) a.e))=0:=jO hcb hwc (by rw[hF];exact (cY hj).2.2.2.2)
 have hjc:aA b.c (woC a.c (ak (aZ b.c) a.e))=aA b.c a.c:=by rw[(cY hjd).2.2.2.1,(cY hj).2.2.2.1,hF]
 have hcd:dy b (aB a b.c)=false:=noclash.2 fun x hx y hy e=>by
  rw[hT] at hy
  exact noclash.1 hcl x hx y (mB.1 hy).1 e
 have hme:mrg b (aB a b.c)=mrg b a:=by
  refine i8 (eL hb hd) (eL hb ha) fun x=> ?_
  rw[cU hcd,cU hcl]
  have e1:x∈(aB a b.c).e↔x∈a.e∧ai b.c x.1=false:=by rw[hT];exact mB
  have e2:ai (aB a b.c).c x.1=false↔ai a.c x.1=false∨x.1∈ak (aZ b.c) a.e:=by
   rw[hT]
   cases hw:ai (woC a.c (ak (aZ b.c) a.e)) x.1
   ·refine ⟨fun _=> ?_,fun _=>rfl⟩
    by_cases hk:x.1∈ak (aZ b.c) a.e
    ·exact oR hk
    ·refine oL ?_
     cases hax:ai a.c x.1
     ·rfl
     ·have:=(hhas x.1).2 ⟨hax,hk⟩
      rw[hw] at this;cases this
   ·have hp:=(hhas x.1).1 hw
    refine ⟨fun k=> ?_,fun k=> ?_⟩
    ·cases k
    ·rcases k with k|k
     ·rw[hp.1] at k;cases k
     ·exact absurd k hp.2
  rw[e1,e2]
  have hbx:x∈b.e→ai b.c x.1=true:=bS hb
  constructor
  ·rintro (⟨k1,k2,k3⟩|⟨k1,k2|k2⟩|⟨⟨k1,k2⟩,_⟩)
   ·rw[hbx k1] at k3;cases k3
   ·exact oR (oL ⟨k1,k2⟩)
   ·obtain ⟨y,hy,e,_⟩:=iQ.1 k2
    have:=noclash.1 hcl x k1 y hy e
    exact oL ⟨k1,by rw[←this];exact hy⟩
   ·exact oR (oR ⟨k1,k2⟩)
  ·rintro (⟨k1,k2⟩|⟨k1,k2⟩|⟨k1,k2⟩)
   ·exact oR (oL ⟨k1,oR (iQ.2 ⟨x,k2,rfl,hbx k1⟩)⟩)
   ·exact oR (oL ⟨k1,oL k2⟩)
   ·exact oR (oR ⟨⟨k1,k2⟩,k2⟩)
 have hjd':aC b.c (aB a b.c).c=0:=by rw[hT];exact hjd
 have h0:al b (aB a b.c)=0:=ge hb hd hcd hjd' (by rw[hme];exact hlen)
 refine ⟨hd,h0,?_⟩
 rw[aN h0,aN h1,hme]
 have:aA b.c (aB a b.c).c=aA b.c a.c:=by rw[hT];exact hjc
 rw[this]

def cH:Tab:=⟨⟨0,0,0,0,[]⟩,[]⟩
structure NetM where
 s:Nat→Tab
 t:Nat→Tab
 pk:List (Nat×Tab×Tab)
def aG:NetM:=⟨fun _=>cH,fun _=>cH,[]⟩
structure Hap where
 k:Int
 a:Int
 b:Int
 n:Int
 e1:Int
 e2:Int
 e3:Int
 e4:Int
 e5:Int
def dW (s t a b:Tab):Int:=if al s a=0 then al t b else al s a
def l8 (s t a b:Tab):Tab:=if dW s t a b=0 then ac s a else s
def oT (s t a b:Tab):Tab:=if dW s t a b=0 then ac t b else t
def f9 (N:NetM) (i:Nat) (a b:Tab):NetM:=⟨upd N.s i (l8 (N.s i) (N.t i) a b),upd N.t i (oT (N.s i) (N.t i) a b),N.pk⟩
def tF (N:NetM) (i:Nat) (h:Hap):NetM:=⟨upd N.s i (ndS (N.s i) i h.e1 h.e2 h.e3 h.e4 h.e5),upd N.t i (ndT (N.t i) i h.e1 h.e2 h.e3 h.e4 h.e5),N.pk⟩
def Bl (N:NetM) (i j:Nat):NetM:=⟨N.s,N.t,N.pk++[(j,N.s i,N.t i)]⟩
def kP (s t:Tab) (c d:Ctx):Int:=if aT s c=0 then aT t d else aT s c
def m7 (N:NetM) (i j:Nat):NetM:=if kP (N.s i) (N.t i) (N.s j).c (N.t j).c=0 then ⟨N.s,N.t,N.pk++[(j,aB (N.s i) (N.s j).c,aB (N.t i) (N.t j).c)]⟩ else N
abbrev isN (a:Int):Prop:=0≤a∧a<4
def aj (N:NetM) (h:Hap):NetM :=
 if h.k=1 then (if isN h.a then tF N h.a.toNat h else N)
 else if h.k=2 then (if isN h.a∧isN h.b∧N.pk.length<200 then Bl N h.a.toNat h.b.toNat else N)
 else if h.k=3 then (if isN h.a∧isN h.b∧N.pk.length<200 then m7 N h.a.toNat h.b.toNat else N)
 else if h.k=4 then (if 0≤h.n then (match N.pk[h.n.toNat]? with|some p=>f9 N p.1 p.2.1 p.2.2|none=>N) else N)
 else N
structure NInv (c:Nat) (N:NetM):Prop where
 ex:∃U V,Lane U N.s (N.pk.map (·.2.1))∧Lane V N.t (N.pk.map (·.2.2))∧U.length≤c∧V.length≤c
 dst:∀p∈N.pk,p.1<4
theorem rQ:am cH=0:=by decide
theorem vR (d:Int×Int):ai cH.c d=false:=by
 have hc:clk cH.c d.1=0:=by
  unfold clk cH
  simp
 unfold ai
 rw[hc]
 cases h:inB d.1 0 3<;>simp[cH]
 omega
theorem Lane.zero:Lane [] (fun _=>cH) [] :=
 ⟨⟨by simp,by simp⟩,fun _=>⟨rQ,fun y hy=>(by cases hy),fun d hd=>(by rw[vR] at hd;cases hd)⟩,fun i _ y hy=>(by cases hy),fun p hp=>(by cases hp)⟩
theorem NInv.new:NInv 0 aG:=⟨⟨[],[],Lane.zero,Lane.zero,nR _,nR _⟩,fun p hp=>by cases hp⟩
theorem NInv.mono {c d:Nat} {N:NetM} (h:NInv c N) (k:c≤d):NInv d N:=by
 obtain ⟨U,V,h1,h2,h3,h4⟩:=h.ex
 exact ⟨⟨U,V,h1,h2,nT h3 k,nT h4 k⟩,h.dst⟩
theorem gp (x:Nat→Tab) (i:Nat):upd x i (x i)=x:=by
 funext j
 by_cases e:j=i
 ·subst e;rw[bB]
 ·rw[dQ x _ e]
theorem kR {U V:List Cel} {N:NetM} {ps qs:List Tab} (h1:Lane U N.s ps) (h2:Lane V N.t qs) (i:Nat) {a b:Tab} (ha:Sub U a) (hb:Sub V b):dW (N.s i) (N.t i) a b=0∧(f9 N i a b).s=upd N.s i (ac (N.s i) a)∧(f9 N i a b).t=upd N.t i (ac (N.t i) b)∧Lane U (f9 N i a b).s ps∧Lane V (f9 N i a b).t qs:=by
 obtain ⟨e1,l1⟩:=h1.take i ha
 obtain ⟨e2,l2⟩:=h2.take i hb
 have h0:dW (N.s i) (N.t i) a b=0:=by unfold dW;rw[e1,if_pos rfl,e2]
 have hs:(f9 N i a b).s=upd N.s i (ac (N.s i) a):=by
  show upd N.s i (l8 _ _ a b)=_
  unfold l8
  rw[if_pos h0]
 have ht:(f9 N i a b).t=upd N.t i (ac (N.t i) b):=by
  show upd N.t i (oT _ _ a b)=_
  unfold oT
  rw[if_pos h0]
 rw[hs,ht]
 exact ⟨h0,rfl,rfl,l1,l2⟩
theorem NInv.take {c:Nat} {N:NetM} (h:NInv c N) (i:Nat) {a b:Tab} (hab:∀U V,Lane U N.s (N.pk.map (·.2.1))→Lane V N.t (N.pk.map (·.2.2))→Sub U a∧Sub V b):NInv c (f9 N i a b)∧dW (N.s i) (N.t i) a b=0:=by
 obtain ⟨U,V,h1,h2,h3,h4⟩:=h.ex
 obtain ⟨ha,hb⟩:=hab U V h1 h2
 obtain ⟨h0,_,_,k1,k2⟩:=kR h1 h2 i ha hb
 exact ⟨⟨⟨U,V,k1,k2,h3,h4⟩,h.dst⟩,h0⟩
theorem pT {U V:List Cel} {N:NetM} (h1:Lane U N.s (N.pk.map (·.2.1))) (h2:Lane V N.t (N.pk.map (·.2.2))) {p:Nat×Tab×Tab} (hp:p∈N.pk):Sub U p.2.1∧Sub V p.2.2 :=
 ⟨h1.pk _ (List.mem_map.2 ⟨p,hp,rfl⟩),h2.pk _ (List.mem_map.2 ⟨p,hp,rfl⟩)⟩
theorem NInv.send {c:Nat} {N:NetM} (h:NInv c N) {j:Nat} (hj:j<4) {a b:Tab} (hab:∀U V,Lane U N.s (N.pk.map (·.2.1))→Lane V N.t (N.pk.map (·.2.2))→Sub U a∧Sub V b):NInv c ⟨N.s,N.t,N.pk++[(j,a,b)]⟩:=by
 obtain ⟨U,V,h1,h2,h3,h4⟩:=h.ex
 obtain ⟨ha,hb⟩:=hab U V h1 h2
 refine ⟨⟨U,V,?_,?_,h3,h4⟩,fun p hp=> ?_⟩
 ·show Lane U N.s ((N.pk++[(j,a,b)]).map (·.2.1))
  rw[List.map_append]
  exact h1.send ha
 ·show Lane V N.t ((N.pk++[(j,a,b)]).map (·.2.2))
  rw[List.map_append]
  exact h2.send hb
 ·rcases List.mem_append.1 hp with k|k
  ·exact h.dst p k
  ·rw[List.mem_singleton.1 k];exact hj
theorem nk {a:Int} (h:isN a):a.toNat<4:=by have:=h.1;have:=h.2;omega
theorem NInv.edit {c:Nat} {N:NetM} (h:NInv c N) (hc:c+1≤400) {i:Nat} (hi:i<4) (x:Hap):NInv (c+1) (tF N i x):=by
 obtain ⟨U,V,h1,h2,h3,h4⟩:=h.ex
 by_cases e0:x.e2=0
 ·obtain ⟨U',k1,k2,k3⟩:=h1.edit hi (by omega) x.e1 x.e3 x.e4 x.e5
  refine ⟨⟨U',V,?_,?_,by omega,by omega⟩,h.dst⟩
  ·show Lane U' (upd N.s i (ndS (N.s i) i x.e1 x.e2 x.e3 x.e4 x.e5)) _
   unfold ndS
   rw[if_pos e0]
   exact k1
  ·show Lane V (upd N.t i (ndT (N.t i) i x.e1 x.e2 x.e3 x.e4 x.e5)) _
   unfold ndT
   rw[if_neg (by omega),gp]
   exact h2
 ·have hs:(tF N i x).s=N.s:=by
   show upd N.s i (ndS (N.s i) i x.e1 x.e2 x.e3 x.e4 x.e5)=_
   unfold ndS
   rw[if_neg e0,gp]
  by_cases e1:x.e2=1
  ·obtain ⟨V',k1,k2,k3⟩:=h2.edit hi (by omega) x.e1 x.e3 x.e4 x.e5
   refine ⟨⟨U,V',by rw[hs];exact h1,?_,by omega,by omega⟩,h.dst⟩
   show Lane V' (upd N.t i (ndT (N.t i) i x.e1 x.e2 x.e3 x.e4 x.e5)) _
   unfold ndT
   rw[if_pos e1]
   exact k1
  ·refine ⟨⟨U,V,by rw[hs];exact h1,?_,by omega,by omega⟩,h.dst⟩
   show Lane V (upd N.t i (ndT (N.t i) i x.e1 x.e2 x.e3 x.e4 x.e5)) _
   unfold ndT
   rw[if_neg e1,gp]
   exact h2
theorem NInv.hap {c:Nat} {N:NetM} (h:NInv c N) (hc:c+1≤400) (x:Hap):NInv (c+1) (aj N x):=by
 have h':=h.mono (Nat.le_succ c)
 unfold aj
 by_cases k1:x.k=1
 ·rw[if_pos k1]
  by_cases ha:isN x.a
  ·rw[if_pos ha]
   exact h.edit hc (nk ha) x
  ·rw[if_neg ha]
   exact h'
 ·rw[if_neg k1]
  by_cases k2:x.k=2
  ·rw[if_pos k2]
   by_cases hh:isN x.a∧isN x.b∧N.pk.length<200
   ·rw[if_pos hh]
    exact h'.send (nk hh.2.1) fun U V h1 h2=>⟨h1.sub _,h2.sub _⟩
   ·rw[if_neg hh]
    exact h'
  ·rw[if_neg k2]
   by_cases k3:x.k=3
   ·rw[if_pos k3]
    by_cases hh:isN x.a∧isN x.b∧N.pk.length<200
    ·rw[if_pos hh]
     unfold m7
     by_cases hs:kP (N.s x.a.toNat) (N.t x.a.toNat) (N.s x.b.toNat).c (N.t x.b.toNat).c=0
     ·rw[if_pos hs]
      refine h'.send (nk hh.2.1) fun U V h1 h2=> ?_
      unfold kP at hs
      by_cases h0:aT (N.s x.a.toNat) (N.s x.b.toNat).c=0
      ·rw[if_pos h0] at hs
       exact ⟨(h1.sub _).since h0,(h2.sub _).since hs⟩
      ·rw[if_neg h0] at hs
       exact absurd hs h0
     ·rw[if_neg hs]
      exact h'
    ·rw[if_neg hh]
     exact h'
   ·rw[if_neg k3]
    by_cases k4:x.k=4
    ·rw[if_pos k4]
     by_cases hn:0≤x.n
     ·rw[if_pos hn]
      cases hp:N.pk[x.n.toNat]? with
      | none=>exact h'
      | some p=>exact (h'.take p.1 fun U V h1 h2=>pT h1 h2 (List.mem_of_getElem? hp)).1
     ·rw[if_neg hn]
      exact h'
    ·rw[if_neg k4]
     exact h'
theorem NInv.play:∀(l:List Hap) {c:Nat} {N:NetM},NInv c N→c+l.length≤400→NInv (c+l.length) (l.foldl aj N)
 | [],c,N,h,_=>h
 | x::l,c,N,h,hc=>by
  simp only[List.length_cons] at hc ⊢
  rw[show c+(l.length+1)=c+1+l.length by omega]
  exact NInv.play l (h.hap (by omega) x) (by omega)
def cQ:List (Nat×Nat):=[(0,1),(0,2),(0,3),(1,0),(1,2),(1,3),(2,0),(2,1),(2,3),(3,0),(3,1),(3,2)]
def cS (N:NetM) (p:Nat×Nat):NetM:=f9 N p.2 (N.s p.1) (N.t p.1)
def d8 (N:NetM):NetM:=(cQ++cQ).foldl cS N
theorem NInv.tell {c:Nat} {N:NetM} (h:NInv c N) (p:Nat×Nat):NInv c (cS N p)∧dW (N.s p.2) (N.t p.2) (N.s p.1) (N.t p.1)=0∧(cS N p).s=jd N.s p∧(cS N p).t=jd N.t p∧(cS N p).pk=N.pk:=by
 obtain ⟨U,V,h1,h2,h3,h4⟩:=h.ex
 obtain ⟨h0,e1,e2,k1,k2⟩:=kR h1 h2 p.2 (h1.sub p.1) (h2.sub p.1)
 exact ⟨⟨⟨U,V,k1,k2,h3,h4⟩,h.dst⟩,h0,e1,e2,rfl⟩
theorem NInv.tells:∀(l:List (Nat×Nat)) {c:Nat} {N:NetM},NInv c N→NInv c (l.foldl cS N)∧(l.foldl cS N).s=fL l N.s∧(l.foldl cS N).t=fL l N.t∧(l.foldl cS N).pk=N.pk
 | [],_,_,h=>⟨h,rfl,rfl,rfl⟩
 | p::l,c,N,h=>by
  obtain ⟨k1,_,k3,k4,k5⟩:=h.tell p
  obtain ⟨m1,m2,m3,m4⟩:=NInv.tells l k1
  refine ⟨m1,?_,?_,m4.trans k5⟩
  ·show (l.foldl cS (cS N p)).s=fL l (jd N.s p)
   rw[m2,k3]
  ·show (l.foldl cS (cS N p)).t=fL l (jd N.t p)
   rw[m3,k4]
theorem rt:∀p∈cQ++cQ,p.1<4∧p.2<4:=by decide
theorem oX (i j:Nat) (hi:i<4) (hj:j<4) (h:i≠j):(i,j)∈cQ++cQ:=by
 have:∀i:Fin 4,∀j:Fin 4,i≠j→(i.1,j.1)∈cQ++cQ:=by decide
 exact this ⟨i,hi⟩ ⟨j,hj⟩ (fun e=>h (by injection e))
theorem NInv.met {c:Nat} {N:NetM} (h:NInv c N):NInv c (d8 N)∧(∀j,j<4→(d8 N).s j=lr N.s)∧(∀j,j<4→(d8 N).t j=lr N.t)∧(d8 N).pk=N.pk:=by
 obtain ⟨k1,k2,k3,k4⟩:=NInv.tells (cQ++cQ) h
 obtain ⟨U,V,h1,h2,_⟩:=h.ex
 refine ⟨k1,fun j hj=> ?_,fun j hj=> ?_,k4⟩
 ·show ((cQ++cQ).foldl cS N).s j=_
  rw[k2]
  exact h1.met _ rt oX j hj
 ·show ((cQ++cQ).foldl cS N).t j=_
  rw[k3]
  exact h2.met _ rt oX j hj

structure Pkm where
 tg:Nat
 a:Tab
 A:Option Addr
 ca:Nat
 C:Option Addr
 cc:Nat
 b:Tab
 B:Option Addr
 cb:Nat
 D:Option Addr
 cd:Nat
def Pkm.m (p:Pkm):Nat×Tab×Tab:=(p.tg,p.a,p.b)
def fq (p:Pkm):List Value:=[S I (p.tg:Int),S I p.a.c.c0,S I p.a.c.c1,S I p.a.c.c2,S I p.a.c.c3,Z p.A p.a.c.l.length p.ca,Z p.C p.a.e.length p.cc,S I p.b.c.c0,S I p.b.c.c1,S I p.b.c.c2,S I p.b.c.c3,Z p.B p.b.c.l.length p.cb,Z p.D p.b.e.length p.cd]
theorem e9 (p:Pkm):(fq p).length=13:=rfl
theorem wI (p:Pkm):∀u∈fq p,u.oneCell'=true:=by
 intro u hu
 simp only[fq,List.mem_cons,List.not_mem_nil,or_false] at hu
 rcases hu with h|h|h|h|h|h|h|h|h|h|h|h|h<;>rw[h]<;>rfl
def PkP (P:Nat→Prop) (w:World) (p:Pkm):Prop:=p.tg<4∧TbP P w p.a p.A p.ca p.C p.cc∧TbP P w p.b p.B p.cb p.D p.cd
structure Pks (w:World) (B:Nat) (P:Nat→Prop) (pk:List (Nat×Tab×Tab)) (L:List Pkm) (A:Option Addr) (c:Nat):Prop where
 cel:w.cell? ⟨B,152,none⟩=some (Z A L.length c)
 row:au fq 13 w A L
 arr:PIn P A L
 nil:A=none→c=0
 cap:L.length≤c
 eq:L.map Pkm.m=pk
 len:L.length≤200
 each:∀p∈L,PkP P w p
structure NetP (w:World) (B:Nat) (P:Nat→Prop) (M:NetM) (Q:Nat→List (List Stp)):Prop where
 blk:Blk w B 80 153
 nd:∀i,i<4→Nd w B (i*38) P i (M.s i) (M.t i) (Q i)
 pk:∃L A c,Pks w B P M.pk L A c
section
variable {w w':World} {B:Nat} {P:Nat→Prop} {M:NetM} {Q:Nat→List (List Stp)}
theorem NetP.out (h:NetP w B P M Q):¬P B:=(h.nd 0 (by omega)).out
theorem NetP.up (h:NetP w B P M Q):∀b,P b→b<w.heap.size:=(h.nd 0 (by omega)).up
theorem NetP.lt (h:NetP w B P M Q):B<w.heap.size:=h.blk.lt
theorem Pks.keep {pk:List (Nat×Tab×Tab)} {L:List Pkm} {A:Option Addr} {c:Nat} (h:Pks w B P pk L A c) (hc:w'.cell? ⟨B,152,none⟩=w.cell? ⟨B,152,none⟩) (hA:Agr P w w'):Pks w' B P pk L A c :=
 ⟨hc.trans h.cel,h.row.agr h.arr hA,h.arr,h.nil,h.cap,h.eq,h.len,fun p hp=>⟨(h.each p hp).1,(h.each p hp).2.1.agr hA,(h.each p hp).2.2.agr hA⟩⟩
theorem Pks.mono {pk:List (Nat×Tab×Tab)} {L:List Pkm} {A:Option Addr} {c:Nat} (h:Pks w B P pk L A c) {P':Nat→Prop} (k:∀b,P b→P' b):Pks w B P' pk L A c :=
 ⟨h.cel,h.row,h.arr.mono k,h.nil,h.cap,h.eq,h.len,fun p hp=>⟨(h.each p hp).1,(h.each p hp).2.1.mono k,(h.each p hp).2.2.mono k⟩⟩
theorem NetP.mono (h:NetP w B P M Q) {P':Nat→Prop} (k:∀b,P b→P' b) (h1:¬P' B) (h2:∀b,P' b→b<w.heap.size):NetP w B P' M Q:=by
 obtain ⟨L,A,c,hp⟩:=h.pk
 exact ⟨h.blk,fun i hi=>(h.nd i hi).mono k h1 h2,L,A,c,hp.mono k⟩
theorem NetP.keep (h:NetP w B P M Q) (hB:w'.heap[B]? = w.heap[B]?) (hA:Agr P w w'):NetP w' B P M Q:=by
 obtain ⟨L,A,c,hp⟩:=h.pk
 obtain ⟨cur,hc,hs⟩:=h.blk
 exact ⟨⟨cur,hB.trans hc,hs⟩,fun i hi=>(h.nd i hi).keep hB hA,L,A,c,hp.keep (World.cell?_of_block (a:=⟨B,152,none⟩) hB) hA⟩
theorem NetP.below (h:NetP w B P M Q) (k:Below w.heap.size w w'):NetP w' B P M Q:=h.keep (k.block B h.lt) (Agr.of k)
theorem Nd.wr {N O lo hi:Nat} {id:Int} {s t:Tab} {qs:List (List Stp)} (h:Nd w N O P id s t qs) (hW:Wr N lo hi w w') (hd:O+38≤lo∨hi≤O):Nd w' N O P id s t qs:=by
 have hA:Agr P w w':=hW.agr h.out
 have hb:=hW.blo h.blk
 have hl:=h.le
 have hc:∀j,O≤j→j<O+38→w'.cell? ⟨N,j,none⟩=w.cell? ⟨N,j,none⟩:=fun j h1 h2=>hW.celo h.blk (by omega)
 exact ⟨hb,h.out,fun b k=>nL (h.up b k) hA.size,(hc O (by omega) (by omega)).trans h.cid,h.ts.keep hA fun j _ _=>hc j (by omega) (by omega),h.tt.keep hA fun j _ _=>hc j (by omega) (by omega),(hc (O+37) (by omega) (by omega)).trans h.cnt,h.le,fun j hj=>(h.vs j hj).keep hA hb.lt hb.fz fun i _ _=>hc i (by omega) (by omega)⟩
def eo (Q:Nat→List (List Stp)) (i:Nat) (q:List (List Stp)):Nat→List (List Stp):=fun j=>if j=i then q else Q j
theorem NetP.wrote (h:NetP w B P M Q) {i lo hi:Nat} (hi4:i<4) {s t:Tab} {qs:List (List Stp)} (f1:Nd w' B (i*38) (ag P w.heap.size w'.heap.size) i s t qs) (f2:Wr B (i*38+lo) (i*38+hi) w w') (hh:hi≤38) :
  NetP w' B (ag P w.heap.size w'.heap.size) ⟨upd M.s i s,upd M.t i t,M.pk⟩ (eo Q i qs)∧Wr B 0 153 w w':=by
 obtain ⟨L,A,c,hp⟩:=h.pk
 refine ⟨⟨f2.block h.blk,fun j hj=> ?_,L,A,c,(hp.keep (f2.cell h.blk (oR (by omega))) (f2.agr h.out)).mono ag.old⟩,f2.mono (by omega) (by omega)⟩
 by_cases e:j=i
 ·subst e
  show Nd w' B _ _ j (upd M.s j s j) (upd M.t j t j) (eo Q j qs j)
  rw[bB,bB,show eo Q j qs j=qs from if_pos rfl]
  exact f1
 ·show Nd w' B _ _ j (upd M.s i s j) (upd M.t i t j) (eo Q i qs j)
  rw[dQ _ _ e,dQ _ _ e,show eo Q i qs j=Q j from if_neg e]
  have hn:=(h.nd j hj).wr f2 (by omega)
  exact hn.mono ag.old f1.out f1.up
theorem iX (Q:Nat→List (List Stp)) (i:Nat):eo Q i (Q i)=Q:=by
 funext j
 by_cases e:j=i
 ·subst e;exact if_pos rfl
 ·exact if_neg e
theorem NetP.sent (h:NetP w B P M Q) {P':Nat→Prop} (hPP:∀b,P b→P' b) (h1:¬P' B) (h2:∀b,P' b→b<w'.heap.size) (f2:Wr B 152 153 w w') {L:List Pkm} {p:Pkm} {A:Option Addr} {c:Nat} (hl:L.map Pkm.m=M.pk) (hL:L.length<200) (hc:w'.cell? ⟨B,152,none⟩=some (Z A (L++[p]).length c)) (hr:au fq 13 w' A (L++[p])) (ha:PIn P' A (L++[p])) (hn:A=none→c=0) (hcp:(L++[p]).length≤c) (he:∀q∈L++[p],PkP P' w' q):NetP w' B P' ⟨M.s,M.t,M.pk++[p.m]⟩ Q :=
 ⟨f2.block h.blk,fun i hi=>((h.nd i hi).wr f2 (by omega)).mono hPP h1 h2,L++[p],A,c,hc,hr,ha,hn,hcp,by rw[List.map_append,hl];rfl,by simp;omega,he⟩
end
end Go.Proofs.YtkefkplnamkicaaGreatDoor
