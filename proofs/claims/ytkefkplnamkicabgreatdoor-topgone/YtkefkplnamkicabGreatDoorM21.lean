import Derived.Test.YtkefkplnamkicabGreatDoorM20
set_option maxRecDepth 100000
set_option maxHeartbeats 8000000
open Go.Ending renaming returned → g
open Go.IntKind renaming i64 → Z
open Go.Obj renaming cells → R
open Go.Proofs.Tryz renaming prog → o
open Go.Value renaming slice → I, int → H, agg → f, tuple → ia, pointer → ib
namespace Go.Proofs.YtkefkplnamkicabGreatDoor
open Go.RowKit Go.Sort

theorem sx {q:Int} {K:List (Int×Int)}:∀ {n:Int} {d:Int×Int},d∈K→d.1=q→fW q K n≤d.2-1:=by
 induction K with
 | nil=>intro n d h;cases h
 | cons x K ih =>
  intro n d h e
  rw[fh]
  rcases List.mem_cons.1 h with rfl|h
  ·have h1:=mD q K (fq q n d)
   have h2:fq q n d≤d.2-1:=by rw[fV,if_pos e];omega
   omega
  ·exact ih h e
theorem sw {q:Int} {K:List (Int×Int)}:∀ {n:Int},fW q K n=n∨∃d∈K,d.1=q∧fW q K n=d.2-1:=by
 induction K with
 | nil=>intro n;exact oL rfl
 | cons x K ih =>
  intro n
  rw[fh]
  rcases ih (n:=fq q n x) with h|⟨d,hd,h1,h2⟩
  ·rw[h,fV]
   by_cases e:x.1=q
   ·rw[if_pos e]
    by_cases h2:n≤x.2-1
    ·exact oL (by omega)
    ·exact oR ⟨x,by simp,e,by omega⟩
   ·rw[if_neg e];exact oL rfl
  ·exact oR ⟨d,by simp[hd],h1,h2⟩

theorem qH (b:Ctx) (node top:Int):∀(n:Nat) (l:List (Int×Int)) (s:Int),l.Pairwise (fun x y=>br x y=true)→(∀x∈l,x.1<node∨(x.1=node∧x.2<s)) →
  (bY b node top n l s).Pairwise (fun x y=>br x y=true):=by
 intro n
 induction n with
 | zero=>intro l s h _;exact h
 | succ n ih =>
  intro l s h hl
  simp only[bY]
  by_cases hc:s≤top∧l.length≤400
  ·rw[if_pos hc]
   by_cases hh:ae b (node,s)=true
   ·rw[if_pos hh]
    exact ih l (s+1) h fun x hx=>by rcases hl x hx with k|k<;>omega
   ·rw[if_neg hh]
    refine ih _ (s+1) ?_ ?_
    ·rw[List.pairwise_append]
     refine ⟨h,by simp,?_⟩
     intro x hx y hy
     have hy':y=(node,s):=by simpa using hy
     subst hy'
     rw[jb]
     rcases hl x hx with k|k
     ·exact oL k
     ·exact oR k
    ·intro x hx
     rcases List.mem_append.1 hx with hx|hx
     ·rcases hl x hx with k|k<;>omega
     ·have hx':x=(node,s):=by simpa using hx
      subst hx'
      exact oR ⟨rfl,by show s<s+1;omega⟩
  ·rw[if_neg hc];exact h
theorem qJ (b:Ctx) (node:Int) (ds:List (Int×Int)):∀(l:List (Int×Int)),ds.Pairwise (fun x y=>br x y=true)→l.Pairwise (fun x y=>br x y=true)→(∀x∈l,∀y∈ds,y.1=node→br x y=true) →
  (ct b node ds l).Pairwise (fun x y=>br x y=true):=by
 induction ds with
 | nil=>intro l _ h _;exact h
 | cons d ds ih =>
  intro l hd hl hx
  show (ct b node ds (if d.1=node∧ae b d=false then l++[d] else l)).Pairwise _
  have hd2:=List.pairwise_cons.1 hd
  by_cases hc:d.1=node∧ae b d=false
  ·rw[if_pos hc]
   refine ih _ hd2.2 ?_ ?_
   ·rw[List.pairwise_append]
    refine ⟨hl,by simp,?_⟩
    intro x hx' y hy
    have hy':y=d:=by simpa using hy
    subst hy'
    exact hx x hx' y (by simp) hc.1
   ·intro x hx' y hy e
    rcases List.mem_append.1 hx' with hx'|hx'
    ·exact hx x hx' y (by simp[hy]) e
    ·have hx2:x=d:=by simpa using hx'
     subst hx2
     exact hd2.1 y hy
  ·rw[if_neg hc]
   exact ih _ hd2.2 hl fun x hx' y hy e=>hx x hx' y (by simp[hy]) e
theorem nV {a b:Ctx} {node:Int} (h0:0≤node) (h4:node<4) (hb:0≤clk b node) {l:List (Int×Int)} {x:Int×Int} (h:x∈dM a b node l):x∈l∨(x.1=node∧ae a x=true∧ae b x=false):=by
 unfold dM at h
 rcases (mV b node a.l _ x).1 h with h|h
 ·rcases kh b node _ _ _ _ x h with h|⟨h1,h2,h3,h5⟩
  ·exact oL h
  ·refine oR ⟨h1,(aG a x).2 (oR ⟨by omega,by omega,by omega,by rw[h1];exact h3⟩),h5⟩
 ·exact oR ⟨h.2.1,(aG a x).2 (oL h.1),h.2.2⟩
theorem jo {a b:Ctx} (hb:∀q:Int,0≤q→q<4→0≤clk b q):∀k,k≤4→∀x∈bn a b k,(0≤x.1∧x.1<(k:Int))∧ae a x=true∧ae b x=false:=by
 intro k
 induction k with
 | zero=>intro _ x hx;cases hx
 | succ k ih =>
  intro hk x hx
  rcases nV (by omega) (by omega) (hb k (by omega) (by omega)) (show x∈dM a b k (bn a b k) from hx) with h|h
  ·have:=ih (by omega) x h
   exact ⟨⟨this.1.1,by have:=this.1.2;omega⟩,this.2⟩
  ·exact ⟨⟨by rw[h.1];omega,by rw[h.1];omega⟩,h.2⟩
theorem qK {a b:Ctx} (ha:Can a) (hb:∀q:Int,0≤q→q<4→0≤clk b q):∀k,k≤4→(bn a b k).Pairwise (fun x y=>br x y=true):=by
 intro k
 induction k with
 | zero=>intro _;exact List.Pairwise.nil
 | succ k ih =>
  intro hk
  have ih':=ih (by omega)
  have hs:=jo (a:=a) hb k (by omega)
  show (dM a b k (bn a b k)).Pairwise _
  unfold dM
  refine qJ b k a.l _ ha.rise (qH b k _ _ _ _ ih' fun x hx=>oL (hs x hx).1.2) ?_
  intro x hx y hy e
  have hya:=ha.above y hy
  rw[e] at hya
  rw[jb]
  rcases kh b k _ _ _ _ x hx with h|h
  ·exact oL (by rw[e];exact (hs x h).1.2)
  ·exact oR ⟨by rw[h.1,e],by omega⟩

theorem xM {c:Ctx} {K:List (Int×Int)} (hK:∀x∈K,al x=true) (h:woE c K=0):aO c=0∧aO (woC c K)=0∧∀x,ae (woC c K) x=true↔ae c x=true∧x ∉ K:=by
 have hc:aO c=0:=by
  by_cases h1:aO c=0
  ·exact h1
  ·unfold woE at h;rw[if_pos h1] at h;exact h
 have hm:fF c (bV c K)=0:=by
  unfold woE at h;rw[hc] at h;simpa using h
 have hl:(bn c (bV c K) 4).length≤400:=by
  unfold fF at hm
  by_cases h4:400<(bn c (bV c K) 4).length
  ·rw[if_pos h4] at hm;cases hm
  ·omega
 have hL:gp c (bV c K)=bn c (bV c K) 4:=by unfold gp;rw[if_neg (by omega)]
 have hcan:=cO hc
 have hw:woC c K=⟨(bV c K).c0,(bV c K).c1,(bV c K).c2,(bV c K).c3,bn c (bV c K) 4⟩:=by unfold woC;rw[if_pos h,hL]
 have hok:=rM hcan.ck hK
 have hn:∀q:Int,0≤q→q<4→0≤clk (bV c K) q:=fun q h0 h4=>(cz hok q h0 h4).1
 have hck:∀q:Int,clk (woC c K) q=clk (bV c K) q:=fun q=>by rw[hw];rfl
 have hdn:∀q:Int,0≤q→q<4→clk (bV c K) q=fW q K (clk c q):=fun q h0 h4=>uj hK h0 h4
 have hsnd:=jo (a:=c) hn 4 (nR _)
 have hgt:∀x,ae (bV c K) x=false→x ∉ K∧(0≤x.1→x.1<4→1≤x.2→clk (bV c K) x.1<x.2):=by
  intro x hx
  unfold ae at hx
  rw[qC,Bool.or_eq_false_iff] at hx
  refine ⟨by simpa using hx.1,fun h0 h4 h1=> ?_⟩
  have h2:=hx.2
  by_cases h3:clk (bV c K) x.1<x.2
  ·exact h3
  ·have:(inB x.1 0 3 && decide (1≤x.2) && decide (x.2≤clk (bV c K) x.1))=true:=by
    simp[inB];omega
   rw[this] at h2;cases h2
 have hC:Can (woC c K):=by
  refine ⟨?_,?_,?_,?_⟩
  ·rw[hw];exact hok
  ·intro y hy
   rw[hw] at hy
   exact jK hcan (hsnd y hy).2.1
  ·intro y hy
   rw[hck]
   rw[hw] at hy
   have hs:=hsnd y hy
   have hr:=mM hcan hs.2.1
   have hg:=hgt y hs.2.2
   have hlt:=hg.2 hr.1 hr.2.1 hr.2.2
   have hd:=hdn y.1 hr.1 hr.2.1
   by_cases he:y.2=clk (bV c K) y.1+1
   ·exfalso
    rcases sw (q:=y.1) (K:=K) (n:=clk c y.1) with k|⟨d,hd1,hd2,hd3⟩
    ·rw[hd,k] at he
     rcases (aG c y).1 hs.2.1 with m|m
     ·have:=hcan.above y m
      omega
     ·have:=m.2.2.2
      omega
    ·rw[hd,hd3] at he
     refine hg.1 ?_
     have:y=d:=Prod.ext hd2.symm (by omega)
     rw[this];exact hd1
   ·omega
  ·rw[hw];exact qK hcan hn 4 (nR _)
 refine ⟨hc,iJ hC (by rw[hw];exact hl),fun x=> ?_⟩
 rw[aG]
 constructor
 ·rintro (k|k)
  ·rw[hw] at k
   have hs:=hsnd x k
   exact ⟨hs.2.1,(hgt x hs.2.2).1⟩
  ·rw[hck] at k
   have h4:x.1<4:=by omega
   have hd:=hdn x.1 k.1 h4
   have hle:=mD x.1 K (clk c x.1)
   refine ⟨(aG c x).2 (oR ⟨k.1,k.2.1,k.2.2.1,by omega⟩),fun hx=> ?_⟩
   have:=sx (n:=clk c x.1) hx rfl
   omega
 ·rintro ⟨h1,h2⟩
  have hr:=mM hcan h1
  by_cases hx:x.2≤clk (bV c K) x.1
  ·exact oR ⟨hr.1,by omega,hr.2.2,by rw[hck];exact hx⟩
  ·refine oL ?_
   rw[hw]
   refine sR hr.1 h1 ?_ 4 hl (by omega)
   rw[xi (by omega),oT]
   simpa using h2

set_option linter.unusedSimpArgs false

theorem mx {w1 w4:World} {B n k2 m2:Nat} {D E:List Itm} {X2 Y2:Option Addr} {a b:List Zit} (hB:Cls w4 B [I none 0 0,I none 0 0]) (g3:LvP (fun b=>n≤b∧b<w4.heap.size) w4 X2 k2 D) (g4:LvP (fun b=>n≤b∧b<w4.heap.size) w4 Y2 m2 E) (hn:B<n) (hB1:w1.heap.size≤B) (hb:Below w1.heap.size w1 w4) (e1:D.map Itm.z=a) (e2:E.map Itm.z=b) :
  ∃(L M:List Itm) (X Y:Option Addr) (k m:Nat),Cls ((w4.setCell ⟨B,0,none⟩ (I X2 D.length k2)).setCell ⟨B,1,none⟩ (I Y2 E.length m2)) B [I X L.length k,I Y M.length m]∧L.map Itm.z=a∧M.map Itm.z=b∧LvP (fun b=>w1.heap.size≤b∧b<((w4.setCell ⟨B,0,none⟩ (I X2 D.length k2)).setCell ⟨B,1,none⟩ (I Y2 E.length m2)).heap.size) ((w4.setCell ⟨B,0,none⟩ (I X2 D.length k2)).setCell ⟨B,1,none⟩ (I Y2 E.length m2)) X k L∧LvP (fun b=>w1.heap.size≤b∧b<((w4.setCell ⟨B,0,none⟩ (I X2 D.length k2)).setCell ⟨B,1,none⟩ (I Y2 E.length m2)).heap.size) ((w4.setCell ⟨B,0,none⟩ (I X2 D.length k2)).setCell ⟨B,1,none⟩ (I Y2 E.length m2)) Y m M∧w1.heap.size≤B∧Below w1.heap.size w1 ((w4.setCell ⟨B,0,none⟩ (I X2 D.length k2)).setCell ⟨B,1,none⟩ (I Y2 E.length m2)):=by
 have hs:((w4.setCell ⟨B,0,none⟩ (I X2 D.length k2)).setCell ⟨B,1,none⟩ (I Y2 E.length m2)).heap.size=w4.heap.size:=by simp
 refine ⟨D,E,X2,Y2,k2,m2,(hB.put 0 _).put 1 _,e1,e2,?_,?_,hB1,(hb.setCell hB1 _).setCell hB1 _⟩
 ·rw[hs];exact ((g3.agr (aS _ fun h=>by omega)).agr (aS _ fun h=>by omega)).mono fun b hb=>⟨by omega,hb.2⟩
 ·rw[hs];exact ((g4.agr (aS _ fun h=>by omega)).agr (aS _ fun h=>by omega)).mono fun b hb=>⟨by omega,hb.2⟩
theorem ua {w1 w4:World} {n k2 m2:Nat} {D E:List Itm} {X2 Y2:Option Addr} {a b:List Zit} {T:TypeId} (g3:LvP (fun b=>n≤b∧b<w4.heap.size) w4 X2 k2 D) (g4:LvP (fun b=>n≤b∧b<w4.heap.size) w4 Y2 m2 E) (h1:w1.heap.size≤n) (hb:Below w1.heap.size w1 w4) (e1:D.map Itm.z=a) (e2:E.map Itm.z=b) :
  ∃(L M:List Itm) (X Y:Option Addr) (k m:Nat),Cls (w4.alloc (R #[I X2 D.length k2,I Y2 E.length m2] T)) w4.heap.size [I X L.length k,I Y M.length m]∧L.map Itm.z=a∧M.map Itm.z=b∧LvP (fun b=>w1.heap.size≤b∧b<(w4.alloc (R #[I X2 D.length k2,I Y2 E.length m2] T)).heap.size) (w4.alloc (R #[I X2 D.length k2,I Y2 E.length m2] T)) X k L∧LvP (fun b=>w1.heap.size≤b∧b<(w4.alloc (R #[I X2 D.length k2,I Y2 E.length m2] T)).heap.size) (w4.alloc (R #[I X2 D.length k2,I Y2 E.length m2] T)) Y m M∧w1.heap.size≤w4.heap.size∧Below w1.heap.size w1 (w4.alloc (R #[I X2 D.length k2,I Y2 E.length m2] T)):=by
 have hg:=((gR w4).alloc (R #[I X2 D.length k2,I Y2 E.length m2] T)).below
 have hs:(w4.alloc (R #[I X2 D.length k2,I Y2 E.length m2] T)).heap.size=w4.heap.size+1:=by simp
 exact ⟨D,E,X2,Y2,k2,m2,Cls.new w4 _ T,e1,e2,(g3.below hg).mono fun b hb=>⟨by omega,by omega⟩,(g4.below hg).mono fun b hb=>⟨by omega,by omega⟩,hb.size,hb.alloc hb.size _⟩

theorem iG {w:World} {N O m0:Nat} {P:Nat→Prop} {id:Int} {s t s' t':Tab} {qs:List (List Stp)} (h:Nd w N O P id s t qs) (hm0:N<m0) (hm1:m0≤w.heap.size) {A' B' C' D':Option Addr} {ca' cb' cc' cd':Nat} (hs':TbP (ag P m0 w.heap.size) w s' A' ca' C' cc') (ht':TbP (ag P m0 w.heap.size) w t' B' cb' D' cd') :
  Calls o 49 #[ib (some ⟨N,O,none⟩),f (T2 s' A' ca' C' cc' t' B' cb' D' cd').toArray] w fun e w'=>e= g (ia #[])∧Nd w' N O (ag P m0 w'.heap.size) id s' t' qs∧Wr N (O+1) (O+37) w w':=by
 have mixed:Tryz.prog.follows .mixedOrders=true:=by kernel_rfl
 obtain ⟨A,ca,C,cc,hcs,hts⟩:=h.ts
 obtain ⟨B,cb,D,cd,hct,htt⟩:=h.tt
 obtain ⟨w1,hw1⟩:∃W,w.alloc (R #[H Z s'.c.c0,H Z s'.c.c1,H Z s'.c.c2,H Z s'.c.c3,I A' s'.c.l.length ca',I C' s'.e.length cc',H Z t'.c.c0,H Z t'.c.c1,H Z t'.c.c2,H Z t'.c.c3,I B' t'.c.l.length cb',I D' t'.e.length cd'] 64)=W:=⟨_,rfl⟩
 have hg1:Gr w w1:=by rw[←hw1];exact (gR w).alloc _
 have hBx:Hid (Cls w1 w.heap.size (T2 s' A' ca' C' cc' t' B' cb' D' cd')):=by show Cls _ _ _;rw[←hw1];exact Cls.new w _ _
 have hHl:Hid (N<w1.heap.size):=nL h.blk.lt hg1.size
 have hlt0:=h.blk.lt
 have hHc:Hid (TbC w1 N (O+1) s A ca C cc∧TbC w1 N (O+7) t B cb D cd):=⟨hcs.keep fun j _ _=>hg1.below.cell (p:=⟨N,j,none⟩) hlt0,hct.keep fun j _ _=>hg1.below.cell (p:=⟨N,j,none⟩) hlt0⟩
 have hNew:Hid (∀W,Below w1.heap.size w1 W→Calls o 58 #[f (T2 s' A' ca' C' cc' t' B' cb' D' cd').toArray] W fun e w'=>∃(L M:List Itm) (X Y:Option Addr) (k m:Nat),e= g (f #[I X L.length k,I Y M.length m])∧L.map Itm.z=ofR s'∧M.map Itm.z=ofR t'∧LvP (fun b=>W.heap.size≤b∧b<w'.heap.size) w' X k L∧LvP (fun b=>W.heap.size≤b∧b<w'.heap.size) w' Y m M∧Below W.heap.size W w'):=fun W hW=>iV s' t' A' B' C' D' ca' cb' cc' cd' W ((hs'.below hg1.below).below hW) ((ht'.below hg1.below).below hW)
 have hOld:Hid (∀W,Below w1.heap.size w1 W→Calls o 58 #[f (T2 s A ca C cc t B cb D cd).toArray] W fun e w'=>∃(L M:List Itm) (X Y:Option Addr) (k m:Nat),e= g (f #[I X L.length k,I Y M.length m])∧L.map Itm.z=ofR s∧M.map Itm.z=ofR t∧LvP (fun b=>W.heap.size≤b∧b<w'.heap.size) w' X k L∧LvP (fun b=>W.heap.size≤b∧b<w'.heap.size) w' Y m M∧Below W.heap.size W w'):=fun W hW=>iV s t A B C D ca cb cc cd W ((hts.below hg1.below).below hW) ((htt.below hg1.below).below hW)
 have hH:Hid (Nd w N O P id s t qs∧TbP (ag P m0 w.heap.size) w s' A' ca' C' cc'∧TbP (ag P m0 w.heap.size) w t' B' cb' D' cd'∧N<m0∧m0≤w.heap.size∧Gr w w1∧w1.heap.size=w.heap.size+1):=⟨h,hs',ht',hm0,hm1,hg1,by rw[←hw1];simp⟩
 have hTS:Hid (TS (ofR s)∧TS (ofR t)∧TS (ofR s')∧TS (ofR t')):=⟨TS.of hts.ok,TS.of htt.ok,TS.of hs'.ok,TS.of ht'.ok⟩
 clear h hm0 hm1 hs' ht' hts htt hcs hct hg1 hlt0
 go_enter Tryz.func49,Tryz.ntmps49
 go_upto_region 1 with fail
 clear hw1
 go_cut [4] from 6 (fun v4 wx=>∃Bm:Nat,v4= ib (some ⟨Bm,0,none⟩)∧Hid (∃(L M:List Itm) (X Y:Option Addr) (k m:Nat),Cls wx Bm [I X L.length k,I Y M.length m]∧L.map Itm.z=bf (ofR s') (ofR s)∧M.map Itm.z=bf (ofR t') (ofR t)∧LvP (fun b=>w1.heap.size≤b∧b<wx.heap.size) wx X k L∧LvP (fun b=>w1.heap.size≤b∧b<wx.heap.size) wx Y m M∧w1.heap.size≤Bm∧Below w1.heap.size w1 wx))
 case first =>
  have hN1:N<w1.heap.size:=hHl.out
  have hD0:Hid (Below w1.heap.size w1 w1.drew):=(gR w1).drew.below
  have hD1:Hid (Below w1.heap.size w1 (w1.alloc (R #[I none 0 0,I none 0 0] 71)).drew):=((gR w1).alloc _).drew.below
  have hKeep:Hid (∀W,Below w1.heap.size w1 W→(fun w'=>w'.cell? ⟨w.heap.size,0,none⟩=some (H Z s'.c.c0)∧w'.cell? ⟨w.heap.size,1,none⟩=some (H Z s'.c.c1)∧w'.cell? ⟨w.heap.size,2,none⟩=some (H Z s'.c.c2)∧w'.cell? ⟨w.heap.size,3,none⟩=some (H Z s'.c.c3)∧w'.cell? ⟨w.heap.size,4,none⟩=some (I A' s'.c.l.length ca')∧w'.cell? ⟨w.heap.size,5,none⟩=some (I C' s'.e.length cc')∧w'.cell? ⟨w.heap.size,6,none⟩=some (H Z t'.c.c0)∧w'.cell? ⟨w.heap.size,7,none⟩=some (H Z t'.c.c1)∧w'.cell? ⟨w.heap.size,8,none⟩=some (H Z t'.c.c2)∧w'.cell? ⟨w.heap.size,9,none⟩=some (H Z t'.c.c3)∧w'.cell? ⟨w.heap.size,10,none⟩=some (I B' t'.c.l.length cb')∧w'.cell? ⟨w.heap.size,11,none⟩=some (I D' t'.e.length cd')∧w'.cell? ⟨N,O+1,none⟩=some (H Z s.c.c0)∧w'.cell? ⟨N,O+2,none⟩=some (H Z s.c.c1)∧w'.cell? ⟨N,O+3,none⟩=some (H Z s.c.c2)∧w'.cell? ⟨N,O+4,none⟩=some (H Z s.c.c3)∧w'.cell? ⟨N,O+5,none⟩=some (I A s.c.l.length ca)∧w'.cell? ⟨N,O+6,none⟩=some (I C s.e.length cc)∧w'.cell? ⟨N,O+7,none⟩=some (H Z t.c.c0)∧w'.cell? ⟨N,O+8,none⟩=some (H Z t.c.c1)∧w'.cell? ⟨N,O+9,none⟩=some (H Z t.c.c2)∧w'.cell? ⟨N,O+10,none⟩=some (H Z t.c.c3)∧w'.cell? ⟨N,O+11,none⟩=some (I B t.c.l.length cb)∧w'.cell? ⟨N,O+12,none⟩=some (I D t.e.length cd)) W):=fun W hW=>⟨(hBx.out.below hW).cell (j:=0) rfl,(hBx.out.below hW).cell (j:=1) rfl,(hBx.out.below hW).cell (j:=2) rfl,(hBx.out.below hW).cell (j:=3) rfl,(hBx.out.below hW).cell (j:=4) rfl,(hBx.out.below hW).cell (j:=5) rfl,(hBx.out.below hW).cell (j:=6) rfl,(hBx.out.below hW).cell (j:=7) rfl,(hBx.out.below hW).cell (j:=8) rfl,(hBx.out.below hW).cell (j:=9) rfl,(hBx.out.below hW).cell (j:=10) rfl,(hBx.out.below hW).cell (j:=11) rfl,(hW.cell (p:=⟨N,O+1,none⟩) hHl.out).trans hHc.out.1.k0,(hW.cell (p:=⟨N,O+2,none⟩) hHl.out).trans hHc.out.1.k1,(hW.cell (p:=⟨N,O+3,none⟩) hHl.out).trans hHc.out.1.k2,(hW.cell (p:=⟨N,O+4,none⟩) hHl.out).trans hHc.out.1.k3,(hW.cell (p:=⟨N,O+5,none⟩) hHl.out).trans hHc.out.1.k4,(hW.cell (p:=⟨N,O+6,none⟩) hHl.out).trans hHc.out.1.k5,(hW.cell (p:=⟨N,O+7,none⟩) hHl.out).trans hHc.out.2.k0,(hW.cell (p:=⟨N,O+8,none⟩) hHl.out).trans hHc.out.2.k1,(hW.cell (p:=⟨N,O+9,none⟩) hHl.out).trans hHc.out.2.k2,(hW.cell (p:=⟨N,O+10,none⟩) hHl.out).trans hHc.out.2.k3,(hW.cell (p:=⟨N,O+11,none⟩) hHl.out).trans hHc.out.2.k4,(hW.cell (p:=⟨N,O+12,none⟩) hHl.out).trans hHc.out.2.k5⟩
  refine wp_region_noPanic ?_
  refine wp_region_held_drew (S:=(fun w'=>w'.cell? ⟨w.heap.size,0,none⟩=some (H Z s'.c.c0)∧w'.cell? ⟨w.heap.size,1,none⟩=some (H Z s'.c.c1)∧w'.cell? ⟨w.heap.size,2,none⟩=some (H Z s'.c.c2)∧w'.cell? ⟨w.heap.size,3,none⟩=some (H Z s'.c.c3)∧w'.cell? ⟨w.heap.size,4,none⟩=some (I A' s'.c.l.length ca')∧w'.cell? ⟨w.heap.size,5,none⟩=some (I C' s'.e.length cc')∧w'.cell? ⟨w.heap.size,6,none⟩=some (H Z t'.c.c0)∧w'.cell? ⟨w.heap.size,7,none⟩=some (H Z t'.c.c1)∧w'.cell? ⟨w.heap.size,8,none⟩=some (H Z t'.c.c2)∧w'.cell? ⟨w.heap.size,9,none⟩=some (H Z t'.c.c3)∧w'.cell? ⟨w.heap.size,10,none⟩=some (I B' t'.c.l.length cb')∧w'.cell? ⟨w.heap.size,11,none⟩=some (I D' t'.e.length cd')∧w'.cell? ⟨N,O+1,none⟩=some (H Z s.c.c0)∧w'.cell? ⟨N,O+2,none⟩=some (H Z s.c.c1)∧w'.cell? ⟨N,O+3,none⟩=some (H Z s.c.c2)∧w'.cell? ⟨N,O+4,none⟩=some (H Z s.c.c3)∧w'.cell? ⟨N,O+5,none⟩=some (I A s.c.l.length ca)∧w'.cell? ⟨N,O+6,none⟩=some (I C s.e.length cc)∧w'.cell? ⟨N,O+7,none⟩=some (H Z t.c.c0)∧w'.cell? ⟨N,O+8,none⟩=some (H Z t.c.c1)∧w'.cell? ⟨N,O+9,none⟩=some (H Z t.c.c2)∧w'.cell? ⟨N,O+10,none⟩=some (H Z t.c.c3)∧w'.cell? ⟨N,O+11,none⟩=some (I B t.c.l.length cb)∧w'.cell? ⟨N,O+12,none⟩=some (I D t.e.length cd))) (by kernel_rfl) (hKeep.out _ hD0.out) (fun hHeld=> ?_)
  show wpAnyH _ _ _ _ _ 10 _ _ _
  repeat' first
   | with_reducible exact AllReadyH.nil
   | (
    (with_reducible refine isW ?_);refine wpAnyH_done (by decide +kernel) ?_ _
    refine NoPanic.normal ?_
    go_wp2_with fail
    go_meet
    case rel=>exact ⟨_,rfl,(by first|exact ua hg3.out hg4.out (by have h1:=hF2.out.1.size;first|exact h1|(simp;omega)) hF3.out.1 hF3.out.2.1 hF3.out.2.2|exact mx hB3.out hg3.out hg4.out (by have h1:=hB2.out.lt;exact h1) hB3g.out hF3.out.1 hF3.out.2.1 hF3.out.2.2|exact mx hB3.out hg3.out hg4.out (by simp) hB3g.out hF3.out.1 hF3.out.2.1 hF3.out.2.2)⟩)
   | (
    (with_reducible refine isW ?_);first
     | refine tkk 0 [2,3,4,5] (by assumption) (v:= ?_) (by simp only[zA,z0',zS];rfl) (by decide +kernel) ?_ ?_
    rotate_left
    ·(refine oL ⟨by rfl,?_⟩;intro w hSw;(try dsimp only at hSw);go_simp<;>with_reducible rfl)
    try simp only[Act.put,yA,aE,yS]
    repeat (refine tk (v:= ?_) (by simp only[zA,z0',zS];rfl) (by kernel_rfl) ?_ ?_;rotate_left;· (refine oL ⟨by rfl,?_⟩;intro w hSw;(try dsimp only at hSw);go_simp<;>with_reducible rfl);try simp only[Act.put,yA,aE,yS])
    refine tk0 ?_)
   | ((with_reducible refine isW ?_);first
     | refine wpAnyH_ready (rs:=[1,8]) (by decide +kernel) (by simp) ?_
     | refine wpAnyH_ready (rs:=[6,8]) (by decide +kernel) (by simp) ?_
     | refine wpAnyH_ready (rs:=[7,8]) (by decide +kernel) (by simp) ?_
     | refine wpAnyH_ready (rs:=[8]) (by decide +kernel) (by simp) ?_
     | refine wpAnyH_ready (rs:=[9]) (by decide +kernel) (by simp) ?_
     | refine wpAnyH_ready (rs:=[7]) (by decide +kernel) (by simp) ?_
     | refine wpAnyH_ready (rs:=[6]) (by decide +kernel) (by simp) ?_
     | refine wpAnyH_ready (rs:=[1]) (by decide +kernel) (by simp) ?_)
   | ((with_reducible refine isR ?_);refine rdc (by simp only[zA,z0',zS];rfl) ?_ fun K hK=> ?_)
   | (
    go_simp
    first
     | ((go_at_call 58;(with_reducible refine cM (hNew.out _ (by first|exact hD0.out|exact hD1.out)) ?_);rintro e w2 ⟨L,M,X,Y,k,m,rfl,f1,f2,f3,f4,f5⟩;have hF1:Hid (Below w1.heap.size w1 w2∧Lv w2 X k L∧Lv w2 Y m M∧L.map Itm.z=ofR s'∧M.map Itm.z=ofR t'):=⟨(by first|exact hD0.out.trans (f5.mono hD0.out.size)|exact hD1.out.trans (f5.mono hD1.out.size)),f3.lv,f4.lv,f1,f2⟩;(first|(have hB1:Hid (Cls w2 w1.heap.size [I none 0 0,I none 0 0]):=((Cls.new w1 #[I none 0 0,I none 0 0] 71).gr (gR _).drew).below f5)|skip);clear f1 f2 f3 f4 f5);first|(go_wp2_with fail)|skip)
     | ((go_at_call 58;(with_reducible refine cM (hOld.out _ (by first|exact hF1.out.1|exact hF1.out.1.alloc hF1.out.1.size _)) ?_);rintro e w3 ⟨L',M',X',Y',k',m',rfl,f1,f2,f3,f4,f5⟩;have hb23:Below w2.heap.size w2 w3:=(by first|exact f5|exact ((gR w2).alloc _).below.trans (f5.mono (by simp)));have hF2:Hid (Below w1.heap.size w1 w3∧Lv w3 X k L∧Lv w3 Y m M∧Lv w3 X' k' L'∧Lv w3 Y' m' M'∧L'.map Itm.z=ofR s∧M'.map Itm.z=ofR t):=⟨hF1.out.1.trans (hb23.mono hF1.out.1.size),hF1.out.2.1.below hb23,hF1.out.2.2.1.below hb23,f3.lv,f4.lv,f1,f2⟩;(first|(have hB2:Hid (Cls w3 w1.heap.size [I none 0 0,I none 0 0]):=hB1.out.below hb23)|(have hB2:Hid (Cls w3 w2.heap.size [I none 0 0,I none 0 0]):=(Cls.new w2 #[I none 0 0,I none 0 0] 71).below f5)|skip);clear f1 f2 f3 f4 f5 hb23;have hDf:Hid (∀W,Below w3.heap.size w3 W→Calls o 70 #[f #[I X L.length k,I Y M.length m],f #[I X' L'.length k',I Y' M'.length m']] W fun e w'=>∃(D E:List Itm) (X Y:Option Addr) (k m:Nat),e= g (f #[I X D.length k,I Y E.length m])∧D.map Itm.z=bf (ofR s') (ofR s)∧E.map Itm.z=bf (ofR t') (ofR t)∧LvP (fun b=>W.heap.size≤b∧b<w'.heap.size) w' X k D∧LvP (fun b=>W.heap.size≤b∧b<w'.heap.size) w' Y m E∧Below W.heap.size W w'):=(fun W hW=>by (have:=kT L M L' M' X Y X' Y' k m k' m' W (hF2.out.2.1.below hW) (hF2.out.2.2.1.below hW) (hF2.out.2.2.2.1.below hW) (hF2.out.2.2.2.2.1.below hW) (by rw[hF1.out.2.2.2.1];exact hTS.out.2.2.1) (by rw[hF1.out.2.2.2.2];exact hTS.out.2.2.2) (by rw[hF2.out.2.2.2.2.2.1];exact hTS.out.1) (by rw[hF2.out.2.2.2.2.2.2];exact hTS.out.2.1));rwa [hF1.out.2.2.2.1,hF1.out.2.2.2.2,hF2.out.2.2.2.2.2.1,hF2.out.2.2.2.2.2.2] at this));first|(go_wp2_with fail)|skip)
     | ((go_at_call 70;(with_reducible refine cM (hDf.out _ (by first|exact bR _ _|exact ((gR w3).alloc _).below)) ?_);rintro e w4 ⟨D,E,X2,Y2,k2,m2,rfl,f1,f2,f3,f4,f5⟩;have hb34:Below w3.heap.size w3 w4:=(by first|exact f5|exact ((gR w3).alloc _).below.trans (f5.mono (by simp)));have hF3:Hid (Below w1.heap.size w1 w4∧D.map Itm.z=bf (ofR s') (ofR s)∧E.map Itm.z=bf (ofR t') (ofR t)):=⟨hF2.out.1.trans (hb34.mono hF2.out.1.size),f1,f2⟩;have hg3:Hid _:=f3;have hg4:Hid _:=f4;(first|(have hB3:Hid (Cls w4 w1.heap.size [I none 0 0,I none 0 0]):=hB2.out.below hb34;have hB3g:Hid (w1.heap.size≤w1.heap.size):=nR _)|(have hB3:Hid (Cls w4 w2.heap.size [I none 0 0,I none 0 0]):=hB2.out.below hb34;have hB3g:Hid (w1.heap.size≤w2.heap.size):=hF1.out.1.size)|(have hB3:Hid (Cls w4 w3.heap.size [I none 0 0,I none 0 0]):=(Cls.new w3 #[I none 0 0,I none 0 0] 71).below f5;have hB3g:Hid (w1.heap.size≤w3.heap.size):=hF2.out.1.size)|skip);clear f1 f2 f3 f4 f5 hb34;(first|(have q0:=hB3.out.cell (j:=0) rfl;have q1:=hB3.out.cell (j:=1) rfl;have z0:=hB3.out.fz 0;have z1:=hB3.out.fz 1)|skip));first|(go_wp2_with fail)|skip)
     | skip
    refine hK.out _ _ ?_ (fun hHeld=> ?_)
    ·(try dsimp only);exact hKeep.out _ (by first|exact hD0.out|exact hD1.out|exact hF3.out.1|exact hF3.out.1.alloc hF3.out.1.size _|exact (hF3.out.1.setCell hB3g.out _).setCell hB3g.out _|exact hF2.out.1|exact hF2.out.1.alloc hF2.out.1.size _|exact hF1.out.1|exact hF1.out.1.alloc hF1.out.1.size _)
    clear hK K
    try simp only[Act.put,yA,aE,yS])
 case rest =>
  obtain ⟨Bm,rfl,hR⟩:=hcut
  obtain ⟨L,M,X,Y,k,m,hCl,e1,e2,l1,l2,hge,hbc⟩:=hR.out
  clear hR hNew hOld
  have hg1:=hH.out.2.2.2.2.2.1
  have hbw:Below w.heap.size w wc:=hg1.below.trans (hbc.mono hg1.size)
  have hNd:Nd wc N O P id s t qs:=hH.out.1.below hbw
  have hlt:N<w.heap.size:=hH.out.1.blk.lt
  obtain ⟨b0,b1,b2,b3,b4,b5,b6,b7,b8,b9,b10,b11⟩:=gl (hBx.out.below hbc)
  have n1:=(hbc.cell (p:=⟨N,O+1,none⟩) hHl.out).trans hHc.out.1.k0
  have n2:=(hbc.cell (p:=⟨N,O+2,none⟩) hHl.out).trans hHc.out.1.k1
  have n3:=(hbc.cell (p:=⟨N,O+3,none⟩) hHl.out).trans hHc.out.1.k2
  have n4:=(hbc.cell (p:=⟨N,O+4,none⟩) hHl.out).trans hHc.out.1.k3
  have n5:=(hbc.cell (p:=⟨N,O+5,none⟩) hHl.out).trans hHc.out.1.k4
  have n6:=(hbc.cell (p:=⟨N,O+6,none⟩) hHl.out).trans hHc.out.1.k5
  have n7:=(hbc.cell (p:=⟨N,O+7,none⟩) hHl.out).trans hHc.out.2.k0
  have n8:=(hbc.cell (p:=⟨N,O+8,none⟩) hHl.out).trans hHc.out.2.k1
  have n9:=(hbc.cell (p:=⟨N,O+9,none⟩) hHl.out).trans hHc.out.2.k2
  have n10:=(hbc.cell (p:=⟨N,O+10,none⟩) hHl.out).trans hHc.out.2.k3
  have n11:=(hbc.cell (p:=⟨N,O+11,none⟩) hHl.out).trans hHc.out.2.k4
  have n12:=(hbc.cell (p:=⟨N,O+12,none⟩) hHl.out).trans hHc.out.2.k5
  have z1:=hNd.blk.fz (O+1)
  have z2:=hNd.blk.fz (O+2)
  have z3:=hNd.blk.fz (O+3)
  have z4:=hNd.blk.fz (O+4)
  have z5:=hNd.blk.fz (O+5)
  have z6:=hNd.blk.fz (O+6)
  have z7:=hNd.blk.fz (O+7)
  have z8:=hNd.blk.fz (O+8)
  have z9:=hNd.blk.fz (O+9)
  have z10:=hNd.blk.fz (O+10)
  have z11:=hNd.blk.fz (O+11)
  have z12:=hNd.blk.fz (O+12)
  have c37:=hNd.cnt
  have hR:Hid (Nd wc N O P id s t qs∧Below w.heap.size w wc∧Cls wc Bm [I X L.length k,I Y M.length m]∧L.map Itm.z=bf (ofR s') (ofR s)∧M.map Itm.z=bf (ofR t') (ofR t)∧LvP (fun b=>w1.heap.size≤b∧b<wc.heap.size) wc X k L∧LvP (fun b=>w1.heap.size≤b∧b<wc.heap.size) wc Y m M∧w1.heap.size≤Bm∧N<w.heap.size):=⟨hNd,hbw,hCl,e1,e2,l1,l2,hge,hlt⟩
  clear hCl e1 e2 l1 l2 hge hbc hg1 hbw hNd hlt
  go_wp2
  obtain ⟨w5,hw5⟩:∃W,((((((((((((wc.setCell ⟨N,O+1,none⟩ (H Z s'.c.c0)).setCell ⟨N,O+2,none⟩ (H Z s'.c.c1)).setCell ⟨N,O+3,none⟩ (H Z s'.c.c2)).setCell ⟨N,O+4,none⟩ (H Z s'.c.c3)).setCell ⟨N,O+5,none⟩ (I A' s'.c.l.length ca')).setCell ⟨N,O+6,none⟩ (I C' s'.e.length cc')).setCell ⟨N,O+7,none⟩ (H Z t'.c.c0)).setCell ⟨N,O+8,none⟩ (H Z t'.c.c1)).setCell ⟨N,O+9,none⟩ (H Z t'.c.c2)).setCell ⟨N,O+10,none⟩ (H Z t'.c.c3)).setCell ⟨N,O+11,none⟩ (I B' t'.c.l.length cb')).setCell ⟨N,O+12,none⟩ (I D' t'.e.length cd'))=W:=⟨_,rfl⟩
  rw[hw5]
  have h5:Hid (Nm w5 N O (ag P m0 w5.heap.size) id s' t' qs 0 (ofR s) (ofR t)∧Wr N (O+1) (O+37) w w5∧Cls w5 Bm [I X L.length k,I Y M.length m]∧LvP (fun b=>w1.heap.size≤b∧b<wc.heap.size) w5 X k L∧LvP (fun b=>w1.heap.size≤b∧b<wc.heap.size) w5 Y m M):=by
   have hw5':eW N wc (O+1) [H Z s'.c.c0,H Z s'.c.c1,H Z s'.c.c2,H Z s'.c.c3,I A' s'.c.l.length ca',I C' s'.e.length cc',H Z t'.c.c0,H Z t'.c.c1,H Z t'.c.c2,H Z t'.c.c3,I B' t'.c.l.length cb',I D' t'.e.length cd']=w5:=hw5
   have hs5:w5.heap.size=wc.heap.size:=by rw[←hw5'];exact fm _ _ _ _
   have hsz:=hR.out.2.1.size
   have hm0:=hH.out.2.2.2.1
   have hm1:=hH.out.2.2.2.2.1
   have hs1:=hH.out.2.2.2.2.2.2
   have hlt:=hR.out.2.2.2.2.2.2.2.2
   have hNP:¬ag P m0 w5.heap.size N:=cX hH.out.1.out hm0
   have hL:=Nd.laid (P':=ag P m0 w5.heap.size) hR.out.1 (fun b hb=>ag.old b hb) hNP (fun b hb=>by
    rcases hb with hb|hb
    ·have:=hR.out.1.up b hb;omega
    ·have:=hb.2;omega) ((hH.out.2.1.below hR.out.2.1).mono (ag.more (nR _) (by omega))) ((hH.out.2.2.1.below hR.out.2.1).mono (ag.more (nR _) (by omega))) hw5'
   have hQ:¬(w1.heap.size≤N∧N<wc.heap.size):=fun h=>by omega
   exact ⟨hL.1,(Wr.of hR.out.2.1 hlt).trans (hL.2.mono (by omega) (by omega)),hR.out.2.2.1.keep (hL.2.oth Bm hR.out.2.2.1.lt (by have:=hR.out.2.2.2.2.2.2.2.1;omega)),hR.out.2.2.2.2.2.1.agr (hL.2.agr hQ),hR.out.2.2.2.2.2.2.1.agr (hL.2.agr hQ)⟩
  clear hw5 b0 b1 b2 b3 b4 b5 b6 b7 b8 b9 b10 b11 n1 n2 n3 n4 n5 n6 n7 n8 n9 n10 n11 n12 z1 z2 z3 z4 z5 z6 z7 z8 z9 z10 z11 z12 c37
  go_loopw [22] (fun i wr=>∃j:Nat,j≤qs.length∧i= H Z j∧Hid (Nm wr N O (ag P m0 wr.heap.size) id s' t' qs j (ofR s) (ofR t)∧Wr N (O+1) (O+37) w wr∧Cls wr Bm [I X L.length k,I Y M.length m]∧LvP (fun b=>w1.heap.size≤b∧b<wc.heap.size) wr X k L∧LvP (fun b=>w1.heap.size≤b∧b<wc.heap.size) wr Y m M)) (fun i _=>qs.length-(intOf i).toNat)
  case atStart=>exact ⟨0,nZ _,rfl,h5⟩
  case round =>
   obtain ⟨j,hj,rfl,hI⟩:=hrel
   by_cases hjl:j<qs.length
   ·have hjz:(j:Int)<(qs.length:Int):=by omega
    have hle:=hI.out.1.le
    have hj4:(j:Int)<4:=by omega
    have q0:=hI.out.2.2.1.cell (j:=0) rfl
    have q1:=hI.out.2.2.1.cell (j:=1) rfl
    obtain ⟨vk,vl,hvm,tk,tl,_⟩:=hI.out.1.vs j hjl
    rw[if_neg (Nat.lt_irrefl _),if_neg (Nat.lt_irrefl _)] at hvm
    have hlt:N<w.heap.size:=hR.out.2.2.2.2.2.2.2.2
    have hTn:Hid (∀W,Gr wr W→Calls o 57 #[ib (some ⟨N,O+13+j*6,none⟩),f #[I X L.length k,I Y M.length m]] W fun e w'=>e= g (ia #[])∧VwN w' N (O+13+j*6) (ag (ag P m0 wr.heap.size) W.heap.size w'.heap.size) qs[j] (ofR s') (ofR t')∧Wr N (O+13+j*6) (O+13+j*6+6) W w'):=fun W hg=>by obtain ⟨T0,n0,hbk,_⟩:=hI.out.1.blk;exact pR (hbk.below hg.below) hI.out.1.out (fun h=>by have:=h.1;have:=hH.out.2.2.2.2.2.1.size;omega) (hvm.below hg.below) tk tl hTS.out.1 hTS.out.2.1 hTS.out.2.2.1 hTS.out.2.2.2 (hI.out.2.2.2.1.below hg.below) (hI.out.2.2.2.2.below hg.below) hR.out.2.2.2.1 hR.out.2.2.2.2.1
    clear hvm tk tl hlt hle
    go_wp2
    go_region_with (go_at_call 57;refine cM (hTn.out _ (gR wr).drew) ?_;rintro e w6 ⟨rfl,f1,f2⟩;have hF:Hid (VwN w6 N (O+13+j*6) (ag (ag P m0 wr.heap.size) wr.drew.heap.size w6.heap.size) qs[j] (ofR s') (ofR t')∧Wr N (O+13+j*6) (O+13+j*6+6) wr w6):=⟨f1,(Wr.of (gR wr).drew.below hI.out.1.blk.lt).trans f2⟩;clear f1 f2)
    have hfin:Hid (Nm w6 N O (ag P m0 w6.heap.size) id s' t' qs (j+1) (ofR s) (ofR t)∧Wr N (O+1) (O+37) w w6∧Cls w6 Bm [I X L.length k,I Y M.length m]∧LvP (fun b=>w1.heap.size≤b∧b<wc.heap.size) w6 X k L∧LvP (fun b=>w1.heap.size≤b∧b<wc.heap.size) w6 Y m M):=by
     have hW:=hF.out.2
     have hsz:=hW.size
     have hwr:=hI.out.2.1.size
     have hm1:=hH.out.2.2.2.2.1
     have hlt:=hR.out.2.2.2.2.2.2.2.2
     have hs1:=hH.out.2.2.2.2.2.1.size
     have hle:=hI.out.1.le
     have hQ:¬(w1.heap.size≤N∧N<wc.heap.size):=fun h=>by omega
     refine ⟨hI.out.1.turned hjl (ag.more (nR _) hsz) (cX hH.out.1.out hH.out.2.2.2.1) (fun b hb=> ?_) (hF.out.1.mono fun b hb=>ag.two (show m0≤wr.heap.size by omega) hsz b hb) hW,hI.out.2.1.trans (hW.mono (by omega) (by omega)),hI.out.2.2.1.keep (hW.oth Bm hI.out.2.2.1.lt (by have:=hR.out.2.2.2.2.2.2.2.1;omega)),hI.out.2.2.2.1.agr (hW.agr hQ),hI.out.2.2.2.2.agr (hW.agr hQ)⟩
     rcases hb with hb|hb
     ·have:=hH.out.1.up b hb;omega
     ·exact hb.2
    clear hF hI hTn q0 q1
    go_wp2
    go_roundw
    case rel=>exact ⟨j+1,by omega,by go_num,hfin⟩
    case measure=>simp[intOf];omega
   ·have hjz:¬(j:Int)<(qs.length:Int):=by omega
    go_wp2
    go_end0
    exact ⟨rfl,hI.out.1.done (by omega),hI.out.2.1⟩

def edE (t:Tab) (id k key col v:Int):Int:=if k=1 then cT t id key col v else if k=2 then dF t key else 1
def edT (t:Tab) (id k key col v:Int):Tab:=if k=1 then cF t id key col v else if k=2 then ⟨ch t key,[]⟩ else ⟨⟨0,0,0,0,[]⟩,[]⟩
structure TbW (n:Nat) (w:World) (t:Tab) (A:Option Addr) (ca:Nat) (D:Option Addr) (cd:Nat):Prop where
 row:Row w A t.c.l
 cel:bA w D t.e
 nr:A=none→ca=0
 nc:D=none→cd=0
 newr:∀a,A=some a→n≤a.block
 newc:∀a,D=some a→n≤a.block
theorem TbW.below {n:Nat} {w w':World} {t:Tab} {A:Option Addr} {ca:Nat} {D:Option Addr} {cd:Nat} (h:TbW n w t A ca D cd) (k:Below w.heap.size w w'):TbW n w' t A ca D cd:=⟨h.row.below k,h.cel.below k,h.nr,h.nc,h.newr,h.newc⟩
theorem TbW.mono {n m:Nat} {w:World} {t:Tab} {A:Option Addr} {ca:Nat} {D:Option Addr} {cd:Nat} (h:TbW n w t A ca D cd) (k:m≤n):TbW m w t A ca D cd:=⟨h.row,h.cel,h.nr,h.nc,fun a ha=>nT k (h.newr a ha),fun a ha=>nT k (h.newc a ha)⟩
theorem TbW.agr {n:Nat} {w w':World} {t:Tab} {A:Option Addr} {ca:Nat} {D:Option Addr} {cd:Nat} (h:TbW n w t A ca D cd) (k:Agr (fun b=>n≤b) w w'):TbW n w' t A ca D cd:=⟨h.row.agr (fun a ha _=>h.newr a ha) k,h.cel.agr (fun a ha _=>h.newc a ha) k,h.nr,h.nc,h.newr,h.newc⟩
theorem TbW.p {n:Nat} {w:World} {t:Tab} {A:Option Addr} {ca:Nat} {D:Option Addr} {cd:Nat} (h:TbW n w t A ca D cd) (e:am t=0):TbP (fun b=>n≤b∧b<w.heap.size) w t A ca D cd :=
 ⟨h.row,h.cel,fun a ha hl=>⟨h.newr a ha,h.row.lt a ha hl⟩,fun a ha hl=>⟨h.newc a ha,h.cel.lt a ha hl⟩,h.nr,h.nc,e⟩
theorem ju {P:Nat→Prop} {w:World} {B:Nat} (h:¬P B) (u0 u1 u2 u3 u4 u5:Value):Agr P w ((((((w.setCell ⟨B,0,none⟩ u0).setCell ⟨B,1,none⟩ u1).setCell ⟨B,2,none⟩ u2).setCell ⟨B,3,none⟩ u3).setCell ⟨B,4,none⟩ u4).setCell ⟨B,5,none⟩ u5) :=
 (((((aS _ h).trans (aS _ h)).trans (aS _ h)).trans (aS _ h)).trans (aS _ h)).trans (aS _ h)

theorem kU (t:Tab) (A:Option Addr) (ca:Nat) (D:Option Addr) (cd:Nat) (id k x2 x3 x4 x5:Int) (w:World) (hl:t.c.l.length≤maxLen) (hel:t.e.length≤maxLen) (hr:Row w A t.c.l) (hd:bA w D t.e) :
  Calls o 50 #[f (T6 t A ca D cd).toArray,H Z id,f #[H Z k,H Z x2,H Z x3,H Z x4,H Z x5]] w fun e w'=>∃(u:Tab) (C:Option Addr) (cp:Nat) (F:Option Addr) (cf:Nat),e= g (ia #[f (T6 u C cp F cf).toArray,H Z (edE t id k x3 x4 x5)])∧u=edT t id k x3 x4 x5∧TbW w.heap.size w' u C cp F cf∧Below w.heap.size w w':=by
 obtain ⟨w1,hw1⟩:∃W,((w.alloc (R #[H Z t.c.c0,H Z t.c.c1,H Z t.c.c2,H Z t.c.c3,I A t.c.l.length ca,I D t.e.length cd] 42)).alloc (R #[H Z k,H Z x2,H Z x3,H Z x4,H Z x5] 30)).alloc (R #[H Z 0,H Z 0,H Z 0,H Z 0,I none 0 0,I none 0 0] 42)=W:=⟨_,rfl⟩
 have hg1:Gr w w1:=by rw[←hw1];exact (((gR w).alloc _).alloc _).alloc _
 have hs1:w1.heap.size=w.heap.size+1+1+1:=by rw[←hw1];simp
 have hB0:Cls w1 w.heap.size (T6 t A ca D cd):=by rw[←hw1];exact (Cls.new w _ _).gr (((gR _).alloc _).alloc _)
 have hB1:Cls w1 (w.heap.size+1) [H Z k,H Z x2,H Z x3,H Z x4,H Z x5]:=by
  rw[←hw1]
  have:=(Cls.new (w.alloc (R #[H Z t.c.c0,H Z t.c.c1,H Z t.c.c2,H Z t.c.c3,I A t.c.l.length ca,I D t.e.length cd] 42)) #[H Z k,H Z x2,H Z x3,H Z x4,H Z x5] 30).gr ((gR _).alloc (R #[H Z 0,H Z 0,H Z 0,H Z 0,I none 0 0,I none 0 0] 42))
  rwa [show (w.alloc (R #[H Z t.c.c0,H Z t.c.c1,H Z t.c.c2,H Z t.c.c3,I A t.c.l.length ca,I D t.e.length cd] 42)).heap.size=w.heap.size+1 by simp] at this
 have hB2:Cls w1 (w.heap.size+1+1) Z6:=by
  rw[←hw1]
  have:=Cls.new ((w.alloc (R #[H Z t.c.c0,H Z t.c.c1,H Z t.c.c2,H Z t.c.c3,I A t.c.l.length ca,I D t.e.length cd] 42)).alloc (R #[H Z k,H Z x2,H Z x3,H Z x4,H Z x5] 30)) #[H Z 0,H Z 0,H Z 0,H Z 0,I none 0 0,I none 0 0] 42
  rwa [show ((w.alloc (R #[H Z t.c.c0,H Z t.c.c1,H Z t.c.c2,H Z t.c.c3,I A t.c.l.length ca,I D t.e.length cd] 42)).alloc (R #[H Z k,H Z x2,H Z x3,H Z x4,H Z x5] 30)).heap.size=w.heap.size+1+1 by simp] at this
 obtain ⟨a0,a1,a2,a3,a4,a5⟩:=fQ hB0
 obtain ⟨b0,b1,b2,b3,b4⟩:=ud hB1
 have hH:Hid (Gr w w1∧w1.heap.size=w.heap.size+1+1+1∧Cls w1 (w.heap.size+1+1) Z6):=⟨hg1,hs1,hB2⟩
 have hP:Hid (Row w1 A t.c.l∧bA w1 D t.e∧t.c.l.length≤maxLen∧t.e.length≤maxLen):=⟨hr.gr hg1,hd.gr hg1,hl,hel⟩
 clear hg1 hs1 hB0 hB1 hB2 hr hd hl hel
 go_enter Tryz.func50,Tryz.ntmps50
 by_cases h1:k=1
 ·subst h1
  have hC0:=xu t A ca D cd id x3 x4 x5 w1 hP.out.2.2.1 hP.out.2.2.2 hP.out.1 hP.out.2.1
  obtain ⟨u,hu⟩:∃u,cF t id x3 x4 x5=u:=⟨_,rfl⟩
  obtain ⟨E,hE⟩:∃E,cT t id x3 x4 x5=E:=⟨_,rfl⟩
  rw[hu,hE] at hC0
  have hC:Hid _:=hC0
  have hUE:Hid (cF t id x3 x4 x5=u∧cT t id x3 x4 x5=E):=⟨hu,hE⟩
  clear hC0 hu hE
  go_wp2_with fail
  refine cM (show Calls _ _ _ _ _ from hC.out) ?_
  rintro e w2 ⟨C,cp,F,cf,rfl,f1,f2,f3,f4,f5,f6,f7⟩
  have hF:Hid (TbW w1.heap.size w2 u C cp F cf∧Below w1.heap.size w1 w2):=⟨⟨f1,f2,f3,f4,f5,f6⟩,f7⟩
  have hR2:Hid (Cls w2 (w.heap.size+1+1) Z6):=hH.out.2.2.below f7
  clear f1 f2 f3 f4 f5 f6 f7 hC
  obtain ⟨p0,p1,p2,p3,p4,p5⟩:=fQ hR2.out
  obtain ⟨z0,z1,z2,z3,z4,z5⟩:=sB hR2.out
  clear hw1
  go_wp2
  have hs1:=hH.out.2.1
  have hBw:Below w.heap.size w w2:=hH.out.1.below.trans (hF.out.2.mono hH.out.1.size)
  refine bodyPost_ret (v:= ia #[f (T6 u C cp F cf).toArray,H Z E]) (by simp[results,Tryz.results50,go_sem,p0,p1,p2,p3,p4,p5]) rfl ⟨u,C,cp,F,cf,by unfold edE;rw[if_pos rfl,hUE.out.2],by unfold edT;rw[if_pos rfl,hUE.out.1],?_,aj hBw (by omega) _ _ _ _ _ _⟩
  exact (hF.out.1.agr (ju (fun h=>by omega) _ _ _ _ _ _)).mono (by omega)
 ·by_cases h2:k=2
  ·subst h2
   have hC0:=wM t A ca D cd x3 w1 hP.out.2.2.1 hP.out.2.2.2 hP.out.1 hP.out.2.1
   obtain ⟨u,hu⟩:∃u,ch t x3=u:=⟨_,rfl⟩
   obtain ⟨E,hE⟩:∃E,dF t x3=E:=⟨_,rfl⟩
   rw[hu,hE] at hC0
   have hC:Hid _:=hC0
   have hUE:Hid (ch t x3=u∧dF t x3=E):=⟨hu,hE⟩
   clear hC0 hu hE h1
   go_wp2_with fail
   refine cM (show Calls _ _ _ _ _ from hC.out) ?_
   rintro e w2 ⟨C,cp,rfl,f1,f2,f3,f4⟩
   have hF:Hid (TbW w1.heap.size w2 ⟨u,[]⟩ C cp none 0∧Below w1.heap.size w1 w2):=⟨⟨f1,oL rfl,f2,fun _=>rfl,f3,(fun a h=>by cases h)⟩,f4⟩
   have hR2:Hid (Cls w2 (w.heap.size+1+1) Z6):=hH.out.2.2.below f4
   clear f1 f2 f3 f4 hC
   obtain ⟨p0,p1,p2,p3,p4,p5⟩:=fQ hR2.out
   obtain ⟨z0,z1,z2,z3,z4,z5⟩:=sB hR2.out
   clear hw1
   go_wp2
   have hs1:=hH.out.2.1
   have hBw:Below w.heap.size w w2:=hH.out.1.below.trans (hF.out.2.mono hH.out.1.size)
   refine bodyPost_ret (v:= ia #[f #[H Z u.c0,H Z u.c1,H Z u.c2,H Z u.c3,I C u.l.length cp,I none 0 0],H Z E]) (by simp[results,Tryz.results50,go_sem,p0,p1,p2,p3,p4,p5]) rfl ⟨⟨u,[]⟩,C,cp,none,0,by unfold edE;rw[if_neg (by decide),if_pos rfl,hUE.out.2];rfl,by unfold edT;rw[if_neg (by decide),if_pos rfl,hUE.out.1],?_,aj hBw (by omega) _ _ _ _ _ _⟩
   exact (hF.out.1.agr (ju (fun h=>by omega) _ _ _ _ _ _)).mono (by omega)
  ·have hk1:(k==1)=false:=by simpa using h1
   have hk2:(k==2)=false:=by simpa using h2
   have hR2:Hid (Cls w1 (w.heap.size+1+1) Z6):=hH.out.2.2
   have hfin:Hid (edE t id k x3 x4 x5=1∧edT t id k x3 x4 x5=⟨⟨0,0,0,0,[]⟩,[]⟩):=⟨by unfold edE;rw[if_neg h1,if_neg h2],by unfold edT;rw[if_neg h1,if_neg h2]⟩
   obtain ⟨p0,p1,p2,p3,p4,p5⟩:=fQ hR2.out
   obtain ⟨z0,z1,z2,z3,z4,z5⟩:=sB hR2.out
   clear h1 h2
   go_wp2
   clear hw1
   have hs1:=hH.out.2.1
   refine bodyPost_ret (v:= ia #[f #[H Z 0,H Z 0,H Z 0,H Z 0,I none 0 0,I none 0 0],H Z 1]) (by simp[results,Tryz.results50,go_sem,p0,p1,p2,p3,p4,p5]) rfl ⟨⟨⟨0,0,0,0,[]⟩,[]⟩,none,0,none,0,by rw[hfin.out.1];rfl,hfin.out.2.symm,⟨oL rfl,oL rfl,fun _=>rfl,fun _=>rfl,(fun a h=>by cases h),(fun a h=>by cases h)⟩,aj hH.out.1.below (by omega) _ _ _ _ _ _⟩

def doE (t:Tab) (id k key col v:Int):Int:=if edE t id k key col v=0 then ak t (edT t id k key col v) else edE t id k key col v
def doT (t:Tab) (id k key col v:Int):Tab:=if doE t id k key col v=0 then ac t (edT t id k key col v) else t
def ndE (s t:Tab) (id k x2 key col v:Int):Int:=if x2=0 then doE s id k key col v else if x2=1 then doE t id k key col v else 1
def ndS (s:Tab) (id k x2 key col v:Int):Tab:=if x2=0 then doT s id k key col v else s
def ndT (t:Tab) (id k x2 key col v:Int):Tab:=if x2=1 then doT t id k key col v else t
theorem rA (t:Tab) (id k key col v:Int):(edT t id k key col v).c.l.length≤maxLen∧(edT t id k key col v).e.length≤maxLen:=by
 unfold edT
 by_cases h1:k=1
 ·rw[if_pos h1];exact tu t id key col v
 ·rw[if_neg h1]
  by_cases h2:k=2
  ·rw[if_pos h2];exact ⟨sr t key,nZ _⟩
  ·rw[if_neg h2];exact ⟨nZ _,nZ _⟩
def DoR (w1 wx:World) (m:Nat) (Bm:Nat) (r:Tab) (id k x3 x4 x5:Int):Prop:=∃(u:Tab) (E:Option Addr) (ce:Nat) (F:Option Addr) (cf:Nat),u=edT r id k x3 x4 x5∧Cls wx Bm (T6 u E ce F cf)∧TbW m wx u E ce F cf∧Below w1.heap.size w1 wx∧w1.heap.size≤Bm
theorem oF {w1 w2:World} {r:Tab} {id k x3 x4 x5:Int} {u:Tab} {E:Option Addr} {ce:Nat} {F:Option Addr} {cf:Nat} (hu:u=edT r id k x3 x4 x5) (hB:Cls w2 w1.heap.size Z6) (hT:TbW (w1.heap.size+1) w2 u E ce F cf) (hb:Below w1.heap.size w1 w2) :
  DoR w1 ((((((w2.setCell ⟨w1.heap.size,0,none⟩ (H Z u.c.c0)).setCell ⟨w1.heap.size,1,none⟩ (H Z u.c.c1)).setCell ⟨w1.heap.size,2,none⟩ (H Z u.c.c2)).setCell ⟨w1.heap.size,3,none⟩ (H Z u.c.c3)).setCell ⟨w1.heap.size,4,none⟩ (I E u.c.l.length ce)).setCell ⟨w1.heap.size,5,none⟩ (I F u.e.length cf)) w1.heap.size w1.heap.size r id k x3 x4 x5 :=
 ⟨u,E,ce,F,cf,hu,(((((hB.put 0 _).put 1 _).put 2 _).put 3 _).put 4 _).put 5 _,(hT.agr (ju (fun h=>by omega) _ _ _ _ _ _)).mono (by omega),aj hb (nR _) _ _ _ _ _ _,nR _⟩
theorem ry {w1 w2:World} {r:Tab} {id k x3 x4 x5:Int} {u:Tab} {E:Option Addr} {ce:Nat} {F:Option Addr} {cf:Nat} {T:TypeId} (hu:u=edT r id k x3 x4 x5) (hT:TbW w1.heap.size w2 u E ce F cf) (hb:Below w1.heap.size w1 w2) :
  DoR w1 (w2.alloc (R #[H Z u.c.c0,H Z u.c.c1,H Z u.c.c2,H Z u.c.c3,I E u.c.l.length ce,I F u.e.length cf] T)) w1.heap.size w2.heap.size r id k x3 x4 x5 :=
 ⟨u,E,ce,F,cf,hu,Cls.new w2 _ T,hT.below ((gR w2).alloc _).below,hb.alloc hb.size _,hb.size⟩

theorem mT {a b:Tab} (h0:ak a b=0) (d:Int×Int):ae (ac a b).c d=true↔ae a.c d=true∨ae b.c d=true:=by
 obtain ⟨_,_,_,hj,_⟩:=bO h0
 have hk:=dV hj
 rw[aQ h0]
 show ae (az a.c b.c) d=true↔_
 rw[hk.2.2.2.1]
 exact ei hk.1 hk.2.1 d
def upd (x:Nat→Tab) (i:Nat) (t:Tab):Nat→Tab:=fun j=>if j=i then t else x j
theorem bH (x:Nat→Tab) (i:Nat) (t:Tab):upd x i t i=t:=if_pos rfl
theorem bQ (x:Nat→Tab) {i j:Nat} (t:Tab) (h:j≠i):upd x i t j=x j:=if_neg h
structure Lane (U:List Cel) (x:Nat→Tab) (ps:List Tab):Prop where
 uni:Uni U
 sub:∀i,Sub U (x i)
 own:∀i:Nat,i<4→∀y∈U,y.1.1=(i:Int)→ae (x i).c y.1=true
 pk:∀p∈ps,Sub U p
section
variable {U:List Cel} {x:Nat→Tab} {ps:List Tab}
theorem Lane.take (h:Lane U x ps) (i:Nat) {p:Tab} (hp:Sub U p):ak (x i) p=0∧Lane U (upd x i (ac (x i) p)) ps:=by
 obtain ⟨h0,h1,h2,_⟩:=Sub.merge h.uni (h.sub i) hp
 refine ⟨h0,h.uni,fun j=> ?_,fun j hj y hy e=> ?_,h.pk⟩
 ·by_cases e:j=i
  ·subst e
   rw[bH]
   exact h1
  ·rw[bQ x _ e]
   exact h.sub j
 ·have hh:=h.own j hj y hy e
  by_cases e:j=i
  ·subst e
   rw[bH]
   exact (h2 _).2 (oL hh)
  ·rw[bQ x _ e]
   exact hh
theorem Lane.send (h:Lane U x ps) {p:Tab} (hp:Sub U p):Lane U x (ps++[p]) :=
 ⟨h.uni,h.sub,h.own,fun q hq=>by
  rcases List.mem_append.1 hq with k|k
  ·exact h.pk q k
  ·rw[List.mem_singleton.1 k];exact hp⟩
theorem Sub.since {t:Tab} {c:Ctx} (h:Sub U t) (h0:bF t c=0):Sub U (bU t c):=by
 have ht:=h.ok
 have hs:woE t.c (aq (cw c) t.e)=0:=by
  unfold bF at h0
  rw[ht] at h0
  by_cases hc:aO c=0
  ·rw[hc] at h0;simpa using h0
  ·rw[if_neg (by simp),if_pos hc] at h0;exact absurd h0 hc
 have hd:=cZ ht (cw c)
 obtain ⟨_,h2,h3⟩:=xM hd.2 hs
 have hT:bU t c=⟨woC t.c (aq (cw c) t.e),fG c t.e⟩:=by unfold bU;rw[if_pos h0]
 rw[hT]
 have hsub:∀y∈fG c t.e,y∈t.e∧cw c y=false:=fun y hy=>by
  have:=List.mem_filter.1 hy
  exact ⟨this.1,by simpa using this.2⟩
 refine ⟨?_,fun y hy=>h.cel y (hsub y hy).1,fun d hd=>h.ctx d ((h3 d).1 hd).1⟩
 refine jf h2 (nT (List.length_filter_le _ _) (af ht).2.1) (List.Pairwise.filter _ (dT ht)) fun y hy=> ?_
 obtain ⟨hy1,hy2⟩:=hsub y hy
 refine ⟨(h3 _).2 ⟨bK ht hy1,fun hm=> ?_⟩,dI ht hy1⟩
 rw[(fD ht hy1).1 hm] at hy2
 cases hy2
theorem Lane.edit (h:Lane U x ps) {i:Nat} (hi:i<4) (hl:U.length+1≤400) (k key col v:Int):∃U',Lane U' (upd x i (doT (x i) i k key col v)) ps∧U'.length≤U.length+1∧∀y∈U,y∈U':=by
 have same:doT (x i) i k key col v=x i→∃U',Lane U' (upd x i (doT (x i) i k key col v)) ps∧U'.length≤U.length+1∧∀y∈U,y∈U':=fun e=>by
  have hu:upd x i (doT (x i) i k key col v)=x:=by
   funext j
   by_cases ej:j=i
   ·subst ej;rw[bH,e]
   ·rw[bQ x _ ej]
  rw[hu]
  exact ⟨U,h,by omega,fun y hy=>hy⟩
 by_cases h0:doE (x i) i k key col v=0
 ·have hT:doT (x i) i k key col v=ac (x i) (edT (x i) i k key col v):=by unfold doT;rw[if_pos h0]
  have hE:edE (x i) i k key col v=0∧ak (x i) (edT (x i) i k key col v)=0:=by
   unfold doE at h0
   by_cases e:edE (x i) i k key col v=0
   ·rw[if_pos e] at h0;exact ⟨e,h0⟩
   ·rw[if_neg e] at h0;exact absurd h0 e
  rw[hT]
  by_cases k1:k=1
  ·have e1:edE (x i) i k key col v=cT (x i) i key col v:=by unfold edE;rw[if_pos k1]
   have e2:edT (x i) i k key col v=cF (x i) i key col v:=by unfold edT;rw[if_pos k1]
   rw[e1,e2] at hE
   rw[e2]
   obtain ⟨N,_,hN,hnew,hcel,hctx⟩:=rS hE.1 hE.2
   have hfresh:∀y∈U,y.1≠N:=fun y hy e=>by
    have:=h.own i hi y hy (by rw[e];exact hN)
    rw[e,hnew] at this
    cases this
   refine ⟨U++[(N,key,col,v)],⟨⟨?_,by simpa using hl⟩,fun j=> ?_,fun j hj y hy e=> ?_,fun p hp=>(h.pk p hp).mono fun y hy=>List.mem_append_left _ hy⟩,by simp,fun y hy=>List.mem_append_left _ hy⟩
   ·rw[List.map_append,List.nodup_append]
    refine ⟨h.uni.nd,by simp,fun a ha b hb e=> ?_⟩
    obtain ⟨y,hy,e2⟩:=List.mem_map.1 ha
    have hb':b=N:=by simpa using hb
    exact hfresh y hy (e2.trans (e.trans hb'))
   ·by_cases ej:j=i
    ·subst ej
     rw[bH]
     refine ⟨cP hE.2,fun y hy=> ?_,fun d hd=> ?_⟩
     ·rcases (hcel y).1 hy with hy|hy
      ·exact List.mem_append_left _ ((h.sub j).cel y hy.1)
      ·rw[hy];exact List.mem_append_right _ (List.mem_singleton.2 rfl)
     ·rcases (hctx d).1 hd with hd|hd
      ·obtain ⟨y,hy,e⟩:=(h.sub j).ctx d hd
       exact ⟨y,List.mem_append_left _ hy,e⟩
      ·exact ⟨(N,key,col,v),List.mem_append_right _ (List.mem_singleton.2 rfl),hd.symm⟩
    ·rw[bQ x _ ej]
     exact (h.sub j).mono fun y hy=>List.mem_append_left _ hy
   ·rcases List.mem_append.1 hy with hy|hy
    ·have hh:=h.own j hj y hy e
     by_cases ej:j=i
     ·subst ej
      rw[bH]
      exact (hctx _).2 (oL hh)
     ·rw[bQ x _ ej]
      exact hh
    ·rw[List.mem_singleton.1 hy] at e ⊢
     have ej:j=i:=by
      have e':N.1=(j:Int):=e
      rw[hN] at e'
      omega
     subst ej
     rw[bH]
     exact (hctx _).2 (oR rfl)
  ·by_cases k2:k=2
   ·have e1:edE (x i) i k key col v=dF (x i) key:=by unfold edE;rw[if_neg k1,if_pos k2]
    have e2:edT (x i) i k key col v=⟨ch (x i) key,[]⟩:=by unfold edT;rw[if_neg k1,if_pos k2]
    rw[e1,e2] at hE
    rw[e2]
    obtain ⟨_,_,_,hcel⟩:=gY hE.1
    have hctx:∀d,ae (ac (x i) ⟨ch (x i) key,[]⟩).c d=true↔ae (x i).c d=true:=fun d=>by
     rw[mT hE.2]
     exact ⟨fun hh=>hh.elim id fun hh=>rv hE.1 d hh,oL⟩
    refine ⟨U,⟨h.uni,fun j=> ?_,fun j hj y hy e=> ?_,h.pk⟩,by omega,fun y hy=>hy⟩
    ·by_cases ej:j=i
     ·subst ej
      rw[bH]
      exact ⟨cP hE.2,fun y hy=>(h.sub j).cel y ((hcel y).1 hy).1,fun d hd=>(h.sub j).ctx d ((hctx d).1 hd)⟩
     ·rw[bQ x _ ej]
      exact h.sub j
    ·have hh:=h.own j hj y hy e
     by_cases ej:j=i
     ·subst ej
      rw[bH]
      exact (hctx _).2 hh
     ·rw[bQ x _ ej]
      exact hh
   ·have e1:edE (x i) i k key col v=1:=by unfold edE;rw[if_neg k1,if_neg k2]
    rw[e1] at hE
    cases hE.1
 ·exact same (by unfold doT;rw[if_neg h0])
end
def iB (x:Nat→Tab) (p:Nat×Nat):Nat→Tab:=upd x p.2 (ac (x p.2) (x p.1))
def fr:List (Nat×Nat)→(Nat→Tab)→Nat→Tab
 | [],x=>x
 | p::l,x=>fr l (iB x p)
section
variable {U:List Cel} {x:Nat→Tab} {ps:List Tab}
theorem Lane.tell (h:Lane U x ps) (p:Nat×Nat):ak (x p.2) (x p.1)=0∧Lane U (iB x p) ps:=h.take p.2 (h.sub p.1)
theorem Lane.tells:∀(l:List (Nat×Nat)) {x:Nat→Tab},Lane U x ps→Lane U (fr l x) ps
 | [],_,h=>h
 | p::l,_,h=>Lane.tells l (h.tell p).2
theorem nD (h:Lane U x ps) (p:Nat×Nat) (j:Nat):Bel (x j) (iB x p j):=by
 unfold iB
 by_cases e:j=p.2
 ·subst e
  rw[bH]
  exact Bel.left h.uni (h.sub _) (h.sub _)
 ·rw[bQ x _ e]
  exact Bel.refl (h.sub j)
theorem j0:∀(l:List (Nat×Nat)) {x:Nat→Tab},Lane U x ps→∀j,Bel (x j) (fr l x j)
 | [],_,h,j=>Bel.refl (h.sub j)
 | p::l,_,h,j=>Bel.trans h.uni (h.sub j) ((h.tell p).2.sub j) ((Lane.tells l (h.tell p).2).sub j) (nD h p j) (j0 l (h.tell p).2 j)
theorem ko:∀(l:List (Nat×Nat)) {x:Nat→Tab},Lane U x ps→∀i j,(i,j)∈l→Bel (x i) (fr l x j)
 | [],_,_,_,_,hm=>by cases hm
 | p::l,x,h,i,j,hm=>by
  have h2:=(h.tell p).2
  rcases List.mem_cons.1 hm with e|hm
  ·subst e
   have h1:Bel (x i) (iB x (i,j) j):=by
    show Bel (x i) (upd x j (ac (x j) (x i)) j)
    rw[bH]
    exact Bel.right h.uni (h.sub j) (h.sub i)
   exact Bel.trans h.uni (h.sub i) (h2.sub j) ((Lane.tells l h2).sub j) h1 (j0 l h2 j)
  ·exact Bel.trans h.uni (h.sub i) (h2.sub i) ((Lane.tells l h2).sub j) (nD h p i) (ko l h2 i j hm)
theorem kr {J:Tab} (hJ:Sub U J):∀(l:List (Nat×Nat)) {x:Nat→Tab},Lane U x ps→(∀p∈l,p.1<4∧p.2<4)→(∀j,j<4→Bel (x j) J)→∀j,j<4→Bel (fr l x j) J
 | [],_,_,_,hb,j,hj=>hb j hj
 | p::l,x,h,hp,hb,j,hj=>by
  refine kr hJ l (h.tell p).2 (fun q hq=>hp q (mC _ hq)) (fun i hi=> ?_) j hj
  unfold iB
  have hpp:=hp p (mS ..)
  by_cases e:i=p.2
  ·subst e
   rw[bH]
   exact Bel.both h.uni (h.sub _) (h.sub _) hJ (hb _ hpp.2) (hb _ hpp.1)
  ·rw[bQ x _ e]
   exact hb i hi
def jD (x:Nat→Tab):Tab:=ac (ac (ac (x 0) (x 1)) (x 2)) (x 3)
theorem Lane.all (h:Lane U x ps):Sub U (jD x)∧∀j,j<4→Bel (x j) (jD x):=by
 have hU:=h.uni
 have s1:=(Sub.merge hU (h.sub 0) (h.sub 1)).2.1
 have s2:=(Sub.merge hU s1 (h.sub 2)).2.1
 have s3:=(Sub.merge hU s2 (h.sub 3)).2.1
 have b2:Bel (ac (ac (x 0) (x 1)) (x 2)) (jD x):=Bel.left hU s2 (h.sub 3)
 have b1:Bel (ac (x 0) (x 1)) (jD x):=Bel.trans hU s1 s2 s3 (Bel.left hU s1 (h.sub 2)) b2
 refine ⟨s3,fun j hj=> ?_⟩
 match j,hj with
 | 0,_=>exact Bel.trans hU (h.sub 0) s1 s3 (Bel.left hU (h.sub 0) (h.sub 1)) b1
 | 1,_=>exact Bel.trans hU (h.sub 1) s1 s3 (Bel.right hU (h.sub 0) (h.sub 1)) b1
 | 2,_=>exact Bel.trans hU (h.sub 2) s2 s3 (Bel.right hU s1 (h.sub 2)) b2
 | 3,_=>exact Bel.right hU s2 (h.sub 3)
theorem Lane.least (h:Lane U x ps) {m:Tab} (hm:Sub U m) (hb:∀j,j<4→Bel (x j) m):Bel (jD x) m:=by
 have hU:=h.uni
 have s1:=(Sub.merge hU (h.sub 0) (h.sub 1)).2.1
 have s2:=(Sub.merge hU s1 (h.sub 2)).2.1
 exact Bel.both hU s2 (h.sub 3) hm (Bel.both hU s1 (h.sub 2) hm (Bel.both hU (h.sub 0) (h.sub 1) hm (hb 0 (by omega)) (hb 1 (by omega))) (hb 2 (by omega))) (hb 3 (by omega))
theorem Lane.met (h:Lane U x ps) (l:List (Nat×Nat)) (hl:∀p∈l,p.1<4∧p.2<4) (ha:∀i j,i<4→j<4→i≠j→(i,j)∈l):∀j,j<4→fr l x j=jD x:=by
 intro j hj
 have hA:=h.all
 have hL:=Lane.tells l h
 refine Bel.anti h.uni (hL.sub j) hA.1 (kr hA.1 l h hl hA.2 j hj) (h.least (hL.sub j) fun i hi=> ?_)
 by_cases e:i=j
 ·subst e
  exact j0 l h i
 ·exact ko l h i j (ha i j hi hj e)
end


def dy:Tab:=⟨⟨0,0,0,0,[]⟩,[]⟩
structure NetM where
 s:Nat→Tab
 t:Nat→Tab
 pk:List (Nat×Tab×Tab)
def cW:NetM:=⟨fun _=>dy,fun _=>dy,[]⟩
structure Hap where
 k:Int
 a:Int
 b:Int
 n:Int
 e1:Int
 e2:Int
 e3:Int
 e4:Int
 e5:Int
def gJ (s t a b:Tab):Int:=if ak s a=0 then ak t b else ak s a
def vg (s t a b:Tab):Tab:=if gJ s t a b=0 then ac s a else s
def vh (s t a b:Tab):Tab:=if gJ s t a b=0 then ac t b else t
def gt (N:NetM) (i:Nat) (a b:Tab):NetM:=⟨upd N.s i (vg (N.s i) (N.t i) a b),upd N.t i (vh (N.s i) (N.t i) a b),N.pk⟩
def rB (N:NetM) (i:Nat) (h:Hap):NetM:=⟨upd N.s i (ndS (N.s i) i h.e1 h.e2 h.e3 h.e4 h.e5),upd N.t i (ndT (N.t i) i h.e1 h.e2 h.e3 h.e4 h.e5),N.pk⟩
def zz (N:NetM) (i j:Nat):NetM:=⟨N.s,N.t,N.pk++[(j,N.s i,N.t i)]⟩
def o9 (s t:Tab) (c d:Ctx):Int:=if bF s c=0 then bF t d else bF s c
def rx (N:NetM) (i j:Nat):NetM:=if o9 (N.s i) (N.t i) (N.s j).c (N.t j).c=0 then ⟨N.s,N.t,N.pk++[(j,bU (N.s i) (N.s j).c,bU (N.t i) (N.t j).c)]⟩ else N
abbrev isN (a:Int):Prop:=0≤a∧a<4
def aN (N:NetM) (h:Hap):NetM :=
 if h.k=1 then (if isN h.a then rB N h.a.toNat h else N)
 else if h.k=2 then (if isN h.a∧isN h.b∧N.pk.length<200 then zz N h.a.toNat h.b.toNat else N)
 else if h.k=3 then (if isN h.a∧isN h.b∧N.pk.length<200 then rx N h.a.toNat h.b.toNat else N)
 else if h.k=4 then (if 0≤h.n then (match N.pk[h.n.toNat]? with|some p=>gt N p.1 p.2.1 p.2.2|none=>N) else N)
 else N
structure NInv (c:Nat) (N:NetM):Prop where
 ex:∃U V,Lane U N.s (N.pk.map (·.2.1))∧Lane V N.t (N.pk.map (·.2.2))∧U.length≤c∧V.length≤c
 dst:∀p∈N.pk,p.1<4
theorem pU:am dy=0:=by decide
theorem tR (d:Int×Int):ae dy.c d=false:=by
 have hc:clk dy.c d.1=0:=by
  unfold clk dy
  simp
 unfold ae
 rw[hc]
 cases h:inB d.1 0 3<;>simp[dy]
 omega
theorem Lane.zero:Lane [] (fun _=>dy) [] :=
 ⟨⟨by simp,by simp⟩,fun _=>⟨pU,fun y hy=>(by cases hy),fun d hd=>(by rw[tR] at hd;cases hd)⟩,fun i _ y hy=>(by cases hy),fun p hp=>(by cases hp)⟩
theorem NInv.new:NInv 0 cW:=⟨⟨[],[],Lane.zero,Lane.zero,nR _,nR _⟩,fun p hp=>by cases hp⟩
theorem NInv.mono {c d:Nat} {N:NetM} (h:NInv c N) (k:c≤d):NInv d N:=by
 obtain ⟨U,V,h1,h2,h3,h4⟩:=h.ex
 exact ⟨⟨U,V,h1,h2,nT h3 k,nT h4 k⟩,h.dst⟩
theorem fM (x:Nat→Tab) (i:Nat):upd x i (x i)=x:=by
 funext j
 by_cases e:j=i
 ·subst e;rw[bH]
 ·rw[bQ x _ e]
theorem nC {U V:List Cel} {N:NetM} {ps qs:List Tab} (h1:Lane U N.s ps) (h2:Lane V N.t qs) (i:Nat) {a b:Tab} (ha:Sub U a) (hb:Sub V b):gJ (N.s i) (N.t i) a b=0∧(gt N i a b).s=upd N.s i (ac (N.s i) a)∧(gt N i a b).t=upd N.t i (ac (N.t i) b)∧Lane U (gt N i a b).s ps∧Lane V (gt N i a b).t qs:=by
 obtain ⟨e1,l1⟩:=h1.take i ha
 obtain ⟨e2,l2⟩:=h2.take i hb
 have h0:gJ (N.s i) (N.t i) a b=0:=by unfold gJ;rw[e1,if_pos rfl,e2]
 have hs:(gt N i a b).s=upd N.s i (ac (N.s i) a):=by
  show upd N.s i (vg _ _ a b)=_
  unfold vg
  rw[if_pos h0]
 have ht:(gt N i a b).t=upd N.t i (ac (N.t i) b):=by
  show upd N.t i (vh _ _ a b)=_
  unfold vh
  rw[if_pos h0]
 rw[hs,ht]
 exact ⟨h0,rfl,rfl,l1,l2⟩
theorem NInv.take {c:Nat} {N:NetM} (h:NInv c N) (i:Nat) {a b:Tab} (hab:∀U V,Lane U N.s (N.pk.map (·.2.1))→Lane V N.t (N.pk.map (·.2.2))→Sub U a∧Sub V b):NInv c (gt N i a b)∧gJ (N.s i) (N.t i) a b=0:=by
 obtain ⟨U,V,h1,h2,h3,h4⟩:=h.ex
 obtain ⟨ha,hb⟩:=hab U V h1 h2
 obtain ⟨h0,_,_,k1,k2⟩:=nC h1 h2 i ha hb
 exact ⟨⟨⟨U,V,k1,k2,h3,h4⟩,h.dst⟩,h0⟩
theorem yP {U V:List Cel} {N:NetM} (h1:Lane U N.s (N.pk.map (·.2.1))) (h2:Lane V N.t (N.pk.map (·.2.2))) {p:Nat×Tab×Tab} (hp:p∈N.pk):Sub U p.2.1∧Sub V p.2.2 :=
 ⟨h1.pk _ (List.mem_map.2 ⟨p,hp,rfl⟩),h2.pk _ (List.mem_map.2 ⟨p,hp,rfl⟩)⟩
theorem NInv.send {c:Nat} {N:NetM} (h:NInv c N) {j:Nat} (hj:j<4) {a b:Tab} (hab:∀U V,Lane U N.s (N.pk.map (·.2.1))→Lane V N.t (N.pk.map (·.2.2))→Sub U a∧Sub V b):NInv c ⟨N.s,N.t,N.pk++[(j,a,b)]⟩:=by
 obtain ⟨U,V,h1,h2,h3,h4⟩:=h.ex
 obtain ⟨ha,hb⟩:=hab U V h1 h2
 refine ⟨⟨U,V,?_,?_,h3,h4⟩,fun p hp=> ?_⟩
 ·show Lane U N.s ((N.pk++[(j,a,b)]).map (·.2.1))
  rw[List.map_append]
  exact h1.send ha
 ·show Lane V N.t ((N.pk++[(j,a,b)]).map (·.2.2))
  rw[List.map_append]
  exact h2.send hb
 ·rcases List.mem_append.1 hp with k|k
  ·exact h.dst p k
  ·rw[List.mem_singleton.1 k];exact hj
theorem lP {a:Int} (h:isN a):a.toNat<4:=by have:=h.1;have:=h.2;omega
theorem NInv.edit {c:Nat} {N:NetM} (h:NInv c N) (hc:c+1≤400) {i:Nat} (hi:i<4) (x:Hap):NInv (c+1) (rB N i x):=by
 obtain ⟨U,V,h1,h2,h3,h4⟩:=h.ex
 by_cases e0:x.e2=0
 ·obtain ⟨U',k1,k2,k3⟩:=h1.edit hi (by omega) x.e1 x.e3 x.e4 x.e5
  refine ⟨⟨U',V,?_,?_,by omega,by omega⟩,h.dst⟩
  ·show Lane U' (upd N.s i (ndS (N.s i) i x.e1 x.e2 x.e3 x.e4 x.e5)) _
   unfold ndS
   rw[if_pos e0]
   exact k1
  ·show Lane V (upd N.t i (ndT (N.t i) i x.e1 x.e2 x.e3 x.e4 x.e5)) _
   unfold ndT
   rw[if_neg (by omega),fM]
   exact h2
 ·have hs:(rB N i x).s=N.s:=by
   show upd N.s i (ndS (N.s i) i x.e1 x.e2 x.e3 x.e4 x.e5)=_
   unfold ndS
   rw[if_neg e0,fM]
  by_cases e1:x.e2=1
  ·obtain ⟨V',k1,k2,k3⟩:=h2.edit hi (by omega) x.e1 x.e3 x.e4 x.e5
   refine ⟨⟨U,V',by rw[hs];exact h1,?_,by omega,by omega⟩,h.dst⟩
   show Lane V' (upd N.t i (ndT (N.t i) i x.e1 x.e2 x.e3 x.e4 x.e5)) _
   unfold ndT
   rw[if_pos e1]
   exact k1
  ·refine ⟨⟨U,V,by rw[hs];exact h1,?_,by omega,by omega⟩,h.dst⟩
   show Lane V (upd N.t i (ndT (N.t i) i x.e1 x.e2 x.e3 x.e4 x.e5)) _
   unfold ndT
   rw[if_neg e1,fM]
   exact h2
theorem NInv.hap {c:Nat} {N:NetM} (h:NInv c N) (hc:c+1≤400) (x:Hap):NInv (c+1) (aN N x):=by
 have h':=h.mono (Nat.le_succ c)
 unfold aN
 by_cases k1:x.k=1
 ·rw[if_pos k1]
  by_cases ha:isN x.a
  ·rw[if_pos ha]
   exact h.edit hc (lP ha) x
  ·rw[if_neg ha]
   exact h'
 ·rw[if_neg k1]
  by_cases k2:x.k=2
  ·rw[if_pos k2]
   by_cases hh:isN x.a∧isN x.b∧N.pk.length<200
   ·rw[if_pos hh]
    exact h'.send (lP hh.2.1) fun U V h1 h2=>⟨h1.sub _,h2.sub _⟩
   ·rw[if_neg hh]
    exact h'
  ·rw[if_neg k2]
   by_cases k3:x.k=3
   ·rw[if_pos k3]
    by_cases hh:isN x.a∧isN x.b∧N.pk.length<200
    ·rw[if_pos hh]
     unfold rx
     by_cases hs:o9 (N.s x.a.toNat) (N.t x.a.toNat) (N.s x.b.toNat).c (N.t x.b.toNat).c=0
     ·rw[if_pos hs]
      refine h'.send (lP hh.2.1) fun U V h1 h2=> ?_
      unfold o9 at hs
      by_cases h0:bF (N.s x.a.toNat) (N.s x.b.toNat).c=0
      ·rw[if_pos h0] at hs
       exact ⟨(h1.sub _).since h0,(h2.sub _).since hs⟩
      ·rw[if_neg h0] at hs
       exact absurd hs h0
     ·rw[if_neg hs]
      exact h'
    ·rw[if_neg hh]
     exact h'
   ·rw[if_neg k3]
    by_cases k4:x.k=4
    ·rw[if_pos k4]
     by_cases hn:0≤x.n
     ·rw[if_pos hn]
      cases hp:N.pk[x.n.toNat]? with
      | none=>exact h'
      | some p=>exact (h'.take p.1 fun U V h1 h2=>yP h1 h2 (List.mem_of_getElem? hp)).1
     ·rw[if_neg hn]
      exact h'
    ·rw[if_neg k4]
     exact h'
theorem NInv.play:∀(l:List Hap) {c:Nat} {N:NetM},NInv c N→c+l.length≤400→NInv (c+l.length) (l.foldl aN N)
 | [],c,N,h,_=>h
 | x::l,c,N,h,hc=>by
  simp only[List.length_cons] at hc ⊢
  rw[show c+(l.length+1)=c+1+l.length by omega]
  exact NInv.play l (h.hap (by omega) x) (by omega)
def cK:List (Nat×Nat):=[(0,1),(0,2),(0,3),(1,0),(1,2),(1,3),(2,0),(2,1),(2,3),(3,0),(3,1),(3,2)]
def cN (N:NetM) (p:Nat×Nat):NetM:=gt N p.2 (N.s p.1) (N.t p.1)
def ci (N:NetM):NetM:=(cK++cK).foldl cN N
theorem NInv.tell {c:Nat} {N:NetM} (h:NInv c N) (p:Nat×Nat):NInv c (cN N p)∧gJ (N.s p.2) (N.t p.2) (N.s p.1) (N.t p.1)=0∧(cN N p).s=iB N.s p∧(cN N p).t=iB N.t p∧(cN N p).pk=N.pk:=by
 obtain ⟨U,V,h1,h2,h3,h4⟩:=h.ex
 obtain ⟨h0,e1,e2,k1,k2⟩:=nC h1 h2 p.2 (h1.sub p.1) (h2.sub p.1)
 exact ⟨⟨⟨U,V,k1,k2,h3,h4⟩,h.dst⟩,h0,e1,e2,rfl⟩
theorem NInv.tells:∀(l:List (Nat×Nat)) {c:Nat} {N:NetM},NInv c N→NInv c (l.foldl cN N)∧(l.foldl cN N).s=fr l N.s∧(l.foldl cN N).t=fr l N.t∧(l.foldl cN N).pk=N.pk
 | [],_,_,h=>⟨h,rfl,rfl,rfl⟩
 | p::l,c,N,h=>by
  obtain ⟨k1,_,k3,k4,k5⟩:=h.tell p
  obtain ⟨m1,m2,m3,m4⟩:=NInv.tells l k1
  refine ⟨m1,?_,?_,m4.trans k5⟩
  ·show (l.foldl cN (cN N p)).s=fr l (iB N.s p)
   rw[m2,k3]
  ·show (l.foldl cN (cN N p)).t=fr l (iB N.t p)
   rw[m3,k4]
theorem pv:∀p∈cK++cK,p.1<4∧p.2<4:=by decide
theorem ng (i j:Nat) (hi:i<4) (hj:j<4) (h:i≠j):(i,j)∈cK++cK:=by
 have:∀i:Fin 4,∀j:Fin 4,i≠j→(i.1,j.1)∈cK++cK:=by decide
 exact this ⟨i,hi⟩ ⟨j,hj⟩ (fun e=>h (by injection e))
theorem NInv.met {c:Nat} {N:NetM} (h:NInv c N):NInv c (ci N)∧(∀j,j<4→(ci N).s j=jD N.s)∧(∀j,j<4→(ci N).t j=jD N.t)∧(ci N).pk=N.pk:=by
 obtain ⟨k1,k2,k3,k4⟩:=NInv.tells (cK++cK) h
 obtain ⟨U,V,h1,h2,_⟩:=h.ex
 refine ⟨k1,fun j hj=> ?_,fun j hj=> ?_,k4⟩
 ·show ((cK++cK).foldl cN N).s j=_
  rw[k2]
  exact h1.met _ pv ng j hj
 ·show ((cK++cK).foldl cN N).t j=_
  rw[k3]
  exact h2.met _ pv ng j hj

structure Pkm where
 tg:Nat
 a:Tab
 A:Option Addr
 ca:Nat
 C:Option Addr
 cc:Nat
 b:Tab
 B:Option Addr
 cb:Nat
 D:Option Addr
 cd:Nat
def Pkm.m (p:Pkm):Nat×Tab×Tab:=(p.tg,p.a,p.b)
def f8 (p:Pkm):List Value:=[H Z (p.tg:Int),H Z p.a.c.c0,H Z p.a.c.c1,H Z p.a.c.c2,H Z p.a.c.c3,I p.A p.a.c.l.length p.ca,I p.C p.a.e.length p.cc,H Z p.b.c.c0,H Z p.b.c.c1,H Z p.b.c.c2,H Z p.b.c.c3,I p.B p.b.c.l.length p.cb,I p.D p.b.e.length p.cd]
theorem dS (p:Pkm):(f8 p).length=13:=rfl
theorem uy (p:Pkm):∀u∈f8 p,u.oneCell'=true:=by
 intro u hu
 simp only[f8,List.mem_cons,List.not_mem_nil,or_false] at hu
 rcases hu with h|h|h|h|h|h|h|h|h|h|h|h|h<;>rw[h]<;>rfl
def PkP (P:Nat→Prop) (w:World) (p:Pkm):Prop:=p.tg<4∧TbP P w p.a p.A p.ca p.C p.cc∧TbP P w p.b p.B p.cb p.D p.cd
structure Pks (w:World) (B:Nat) (P:Nat→Prop) (pk:List (Nat×Tab×Tab)) (L:List Pkm) (A:Option Addr) (c:Nat):Prop where
 cel:w.cell? ⟨B,152,none⟩=some (I A L.length c)
 row:ay f8 13 w A L
 arr:PIn P A L
 nil:A=none→c=0
 cap:L.length≤c
 eq:L.map Pkm.m=pk
 len:L.length≤200
 each:∀p∈L,PkP P w p
structure NetP (w:World) (B:Nat) (P:Nat→Prop) (M:NetM) (Q:Nat→List (List Stp)):Prop where
 blk:Blk w B 80 153
 nd:∀i,i<4→Nd w B (i*38) P i (M.s i) (M.t i) (Q i)
 pk:∃L A c,Pks w B P M.pk L A c
section
variable {w w':World} {B:Nat} {P:Nat→Prop} {M:NetM} {Q:Nat→List (List Stp)}
theorem NetP.out (h:NetP w B P M Q):¬P B:=(h.nd 0 (by omega)).out
theorem NetP.up (h:NetP w B P M Q):∀b,P b→b<w.heap.size:=(h.nd 0 (by omega)).up
theorem NetP.lt (h:NetP w B P M Q):B<w.heap.size:=h.blk.lt
theorem Pks.keep {pk:List (Nat×Tab×Tab)} {L:List Pkm} {A:Option Addr} {c:Nat} (h:Pks w B P pk L A c) (hc:w'.cell? ⟨B,152,none⟩=w.cell? ⟨B,152,none⟩) (hA:Agr P w w'):Pks w' B P pk L A c :=
 ⟨hc.trans h.cel,h.row.agr h.arr hA,h.arr,h.nil,h.cap,h.eq,h.len,fun p hp=>⟨(h.each p hp).1,(h.each p hp).2.1.agr hA,(h.each p hp).2.2.agr hA⟩⟩
theorem Pks.mono {pk:List (Nat×Tab×Tab)} {L:List Pkm} {A:Option Addr} {c:Nat} (h:Pks w B P pk L A c) {P':Nat→Prop} (k:∀b,P b→P' b):Pks w B P' pk L A c :=
 ⟨h.cel,h.row,h.arr.mono k,h.nil,h.cap,h.eq,h.len,fun p hp=>⟨(h.each p hp).1,(h.each p hp).2.1.mono k,(h.each p hp).2.2.mono k⟩⟩
theorem NetP.mono (h:NetP w B P M Q) {P':Nat→Prop} (k:∀b,P b→P' b) (h1:¬P' B) (h2:∀b,P' b→b<w.heap.size):NetP w B P' M Q:=by
 obtain ⟨L,A,c,hp⟩:=h.pk
 exact ⟨h.blk,fun i hi=>(h.nd i hi).mono k h1 h2,L,A,c,hp.mono k⟩
theorem NetP.keep (h:NetP w B P M Q) (hB:w'.heap[B]? = w.heap[B]?) (hA:Agr P w w'):NetP w' B P M Q:=by
 obtain ⟨L,A,c,hp⟩:=h.pk
 obtain ⟨cur,hc,hs⟩:=h.blk
 exact ⟨⟨cur,hB.trans hc,hs⟩,fun i hi=>(h.nd i hi).keep hB hA,L,A,c,hp.keep (World.cell?_of_block (a:=⟨B,152,none⟩) hB) hA⟩
theorem NetP.below (h:NetP w B P M Q) (k:Below w.heap.size w w'):NetP w' B P M Q:=h.keep (k.block B h.lt) (Agr.of k)
theorem Nd.wr {N O lo hi:Nat} {id:Int} {s t:Tab} {qs:List (List Stp)} (h:Nd w N O P id s t qs) (hW:Wr N lo hi w w') (hd:O+38≤lo∨hi≤O):Nd w' N O P id s t qs:=by
 have hA:Agr P w w':=hW.agr h.out
 have hb:=hW.blo h.blk
 have hl:=h.le
 have hc:∀j,O≤j→j<O+38→w'.cell? ⟨N,j,none⟩=w.cell? ⟨N,j,none⟩:=fun j h1 h2=>hW.celo h.blk (by omega)
 exact ⟨hb,h.out,fun b k=>nL (h.up b k) hA.size,(hc O (by omega) (by omega)).trans h.cid,h.ts.keep hA fun j _ _=>hc j (by omega) (by omega),h.tt.keep hA fun j _ _=>hc j (by omega) (by omega),(hc (O+37) (by omega) (by omega)).trans h.cnt,h.le,fun j hj=>(h.vs j hj).keep hA hb.lt hb.fz fun i _ _=>hc i (by omega) (by omega)⟩
def mr (Q:Nat→List (List Stp)) (i:Nat) (q:List (List Stp)):Nat→List (List Stp):=fun j=>if j=i then q else Q j
theorem NetP.wrote (h:NetP w B P M Q) {i lo hi:Nat} (hi4:i<4) {s t:Tab} {qs:List (List Stp)} (f1:Nd w' B (i*38) (ag P w.heap.size w'.heap.size) i s t qs) (f2:Wr B (i*38+lo) (i*38+hi) w w') (hh:hi≤38) :
  NetP w' B (ag P w.heap.size w'.heap.size) ⟨upd M.s i s,upd M.t i t,M.pk⟩ (mr Q i qs)∧Wr B 0 153 w w':=by
 obtain ⟨L,A,c,hp⟩:=h.pk
 refine ⟨⟨f2.block h.blk,fun j hj=> ?_,L,A,c,(hp.keep (f2.cell h.blk (oR (by omega))) (f2.agr h.out)).mono ag.old⟩,f2.mono (by omega) (by omega)⟩
 by_cases e:j=i
 ·subst e
  show Nd w' B _ _ j (upd M.s j s j) (upd M.t j t j) (mr Q j qs j)
  rw[bH,bH,show mr Q j qs j=qs from if_pos rfl]
  exact f1
 ·show Nd w' B _ _ j (upd M.s i s j) (upd M.t i t j) (mr Q i qs j)
  rw[bQ _ _ e,bQ _ _ e,show mr Q i qs j=Q j from if_neg e]
  have hn:=(h.nd j hj).wr f2 (by omega)
  exact hn.mono ag.old f1.out f1.up
theorem jV (Q:Nat→List (List Stp)) (i:Nat):mr Q i (Q i)=Q:=by
 funext j
 by_cases e:j=i
 ·subst e;exact if_pos rfl
 ·exact if_neg e
theorem NetP.sent (h:NetP w B P M Q) {P':Nat→Prop} (hPP:∀b,P b→P' b) (h1:¬P' B) (h2:∀b,P' b→b<w'.heap.size) (f2:Wr B 152 153 w w') {L:List Pkm} {p:Pkm} {A:Option Addr} {c:Nat} (hl:L.map Pkm.m=M.pk) (hL:L.length<200) (hc:w'.cell? ⟨B,152,none⟩=some (I A (L++[p]).length c)) (hr:ay f8 13 w' A (L++[p])) (ha:PIn P' A (L++[p])) (hn:A=none→c=0) (hcp:(L++[p]).length≤c) (he:∀q∈L++[p],PkP P' w' q):NetP w' B P' ⟨M.s,M.t,M.pk++[p.m]⟩ Q :=
 ⟨f2.block h.blk,fun i hi=>((h.nd i hi).wr f2 (by omega)).mono hPP h1 h2,L++[p],A,c,hc,hr,ha,hn,hcp,by rw[List.map_append,hl];rfl,by simp;omega,he⟩
end
end Go.Proofs.YtkefkplnamkicabGreatDoor
