import Derived.Test.YtkefkplnamkicabGreatDoorM13
set_option maxRecDepth 100000
set_option maxHeartbeats 8000000
open Go.IntKind renaming i64 → S
open Go.Obj renaming cells → J
open Go.Proofs.Tryz renaming prog → Z
open Go.Value renaming slice → I, int → O, agg → H
namespace Go.Proofs.YtkefkplnamkicabGreatDoor
open Go.RowKit Go.Sort

structure TbP (P:Nat→Prop) (w:World) (t:Tab) (A:Option Addr) (ca:Nat) (D:Option Addr) (cd:Nat):Prop where
 row:Row w A t.c.l
 cel:bA w D t.e
 pr:PIn P A t.c.l
 pc:PIn P D t.e
 nr:A=none→ca=0
 nc:D=none→cd=0
 ok:am t=0
theorem TbP.agr {P:Nat→Prop} {w w':World} {t:Tab} {A:Option Addr} {ca:Nat} {D:Option Addr} {cd:Nat} (h:TbP P w t A ca D cd) (q:Agr P w w'):TbP P w' t A ca D cd:=⟨h.row.agr h.pr q,h.cel.agr h.pc q,h.pr,h.pc,h.nr,h.nc,h.ok⟩
theorem TbP.below {P:Nat→Prop} {w w':World} {t:Tab} {A:Option Addr} {ca:Nat} {D:Option Addr} {cd:Nat} (h:TbP P w t A ca D cd) (q:Below w.heap.size w w'):TbP P w' t A ca D cd:=h.agr (Agr.of q)
theorem TbP.mono {P Q:Nat→Prop} {w:World} {t:Tab} {A:Option Addr} {ca:Nat} {D:Option Addr} {cd:Nat} (h:TbP P w t A ca D cd) (k:∀b,P b→Q b):TbP Q w t A ca D cd:=⟨h.row,h.cel,h.pr.mono k,h.pc.mono k,h.nr,h.nc,h.ok⟩
theorem TbP.len {P:Nat→Prop} {w:World} {t:Tab} {A:Option Addr} {ca:Nat} {D:Option Addr} {cd:Nat} (h:TbP P w t A ca D cd):t.c.l.length≤maxLen∧t.e.length≤maxLen:=by
 have h1:=(bE (af h.ok).1).2.1
 have h2:=(af h.ok).2.1
 unfold maxLen
 omega

theorem Agr.set {P:Nat→Prop} {w:World} {V j:Nat} (v:Value) (h:¬P V):Agr P w (w.setCell ⟨V,j,none⟩ v):=(Wr.set (lo:=j) (hi:=j+1) w v (nR _) (by omega)).agr h
theorem jq {W:World} {A B:Option Addr} {c d:Nat} {l r:List Itm} (h:Lv W A c l) (h':Lv W B d r) {m:List Zit} (hm:aP (l.map Itm.z) (r.map Itm.z)=m) :
  Calls Z 81 #[I A l.length c,I B r.length d] W fun e w'=>∃(L:List Itm) (C:Option Addr) (k:Nat),e= .returned (I C L.length k)∧L.map Itm.z=m∧LvP (fun b=>W.heap.size≤b∧b<w'.heap.size) w' C k L∧Below W.heap.size W w':=by
 obtain ⟨E,hE⟩:∃E,aR (l.map Itm.z) (r.map Itm.z)=E:=⟨_,rfl⟩
 have hA0:=ol h h' rfl rfl
 rw[hm,hE] at hA0
 have hA:Hid _:=hA0
 clear hA0 h h' hm hE
 go_enter Tryz.func81,Tryz.ntmps81
 go_wp2_with fail
 refine cM (show Calls _ _ _ _ _ from hA.out) ?_
 rintro e w1 ⟨L,C,k,rfl,h1,h2,h3,h4⟩
 have hfin:Hid (L.map Itm.z=m∧LvP (fun b=>W.heap.size≤b∧b<w1.heap.size) w1 C k L∧Below W.heap.size W w1):=⟨h1,LvP.new h2 h4.new,h3⟩
 clear h1 h2 h3 h4 hA
 go_wp2
 go_ret
 exact ⟨L,C,k,rfl,hfin.out⟩
theorem oU (a b c d e f g h i j k l:Value) (w:World):(Instr.index 64 (H #[a,b,c,d,e,f,g,h,i,j,k,l]) (O S 0)).run Z w= .ok (H #[a,b,c,d,e,f]) w:=by kernel_rfl
theorem rH (a b c d e f g h i j k l:Value) (w:World):(Instr.index 64 (H #[a,b,c,d,e,f,g,h,i,j,k,l]) (O S 1)).run Z w= .ok (H #[g,h,i,j,k,l]) w:=by kernel_rfl
theorem zd (x y:Value) (w:World):(Instr.index 71 (H #[x,y]) (O S 0)).run Z w= .ok x w:=by kernel_rfl
theorem ze (x y:Value) (w:World):(Instr.index 71 (H #[x,y]) (O S 1)).run Z w= .ok y w:=by kernel_rfl

theorem rZ (wa:World) (T:TypeId) {w1:World} {n:Nat} (hw:(wa.alloc (J #[I none 0 0,I none 0 0] T)).alloc (J #[I none 0 0,I none 0 0] T)=w1) (hn:wa.heap.size=n):Cls w1 n [I none 0 0,I none 0 0]∧Cls w1 (n+1) [I none 0 0,I none 0 0]:=by
 subst hn
 subst hw
 have h1:=Cls.new wa #[I none 0 0,I none 0 0] T
 have h2:=Cls.new (wa.alloc (J #[I none 0 0,I none 0 0] T)) #[I none 0 0,I none 0 0] T
 rw[show (wa.alloc (J #[I none 0 0,I none 0 0] T)).heap.size=wa.heap.size+1 by simp] at h2
 exact ⟨h1.gr ((gR _).alloc _),h2⟩
theorem pQ {L:List Itm} {t:Tab} (h:L.map Itm.z=ofR t) (e:am t=0):L.length≤maxLen:=by
 have h1:=congrArg List.length h
 rw[List.length_map] at h1
 have h2:=(TS.of e).len
 unfold maxLen
 omega
theorem iV {P:Nat→Prop} (s t:Tab) (A B C D:Option Addr) (ca cb cc cd:Nat) (w:World) (hs:TbP P w s A ca C cc) (ht:TbP P w t B cb D cd) :
  Calls Z 58 #[H (T2 s A ca C cc t B cb D cd).toArray] w fun e w'=>∃(L M:List Itm) (X Y:Option Addr) (k m:Nat),e= .returned (H #[I X L.length k,I Y M.length m])∧L.map Itm.z=ofR s∧M.map Itm.z=ofR t∧LvP (fun b=>w.heap.size≤b∧b<w'.heap.size) w' X k L∧LvP (fun b=>w.heap.size≤b∧b<w'.heap.size) w' Y m M∧Below w.heap.size w w':=by
 have hx0:=oU (O S s.c.c0) (O S s.c.c1) (O S s.c.c2) (O S s.c.c3) (I A s.c.l.length ca) (I C s.e.length cc) (O S t.c.c0) (O S t.c.c1) (O S t.c.c2) (O S t.c.c3) (I B t.c.l.length cb) (I D t.e.length cd)
 have hx1:=rH (O S s.c.c0) (O S s.c.c1) (O S s.c.c2) (O S s.c.c3) (I A s.c.l.length ca) (I C s.e.length cc) (O S t.c.c0) (O S t.c.c1) (O S t.c.c2) (O S t.c.c3) (I B t.c.l.length cb) (I D t.e.length cd)
 have hHst:Hid (TbP P w s A ca C cc∧TbP P w t B cb D cd):=⟨hs,ht⟩
 clear hs ht
 go_enter Tryz.func58,Tryz.ntmps58
 go_wp2
 obtain ⟨wa,hwa⟩:∃W,w.alloc (J #[O S s.c.c0,O S s.c.c1,O S s.c.c2,O S s.c.c3,I A s.c.l.length ca,I C s.e.length cc,O S t.c.c0,O S t.c.c1,O S t.c.c2,O S t.c.c3,I B t.c.l.length cb,I D t.e.length cd] 64)=W:=⟨_,rfl⟩
 rw[hwa]
 have hga:Gr w wa:=by rw[←hwa];exact (gR w).alloc _
 have hsa:wa.heap.size=w.heap.size+1:=by rw[←hwa];simp
 clear hwa
 obtain ⟨w1,hw1⟩:∃W,(wa.alloc (J #[I none 0 0,I none 0 0] 71)).alloc (J #[I none 0 0,I none 0 0] 71)=W:=⟨_,rfl⟩
 rw[hw1]
 have hHc:=rZ wa 71 hw1 hsa
 have hg1:Gr w w1:=by rw[←hw1];exact (hga.alloc _).alloc _
 have hs1:w1.heap.size=w.heap.size+1+1+1:=by rw[←hw1];simp[hsa]
 have hO0:=qP s A ca C cc (w1.alloc (J #[O S s.c.c0,O S s.c.c1,O S s.c.c2,O S s.c.c3,I A s.c.l.length ca,I C s.e.length cc] 42)) hHst.out.1.len.1 hHst.out.1.len.2 (hHst.out.1.row.gr (hg1.alloc _)) (hHst.out.1.cel.gr (hg1.alloc _))
 rw[hHst.out.1.ok] at hO0
 have hO:Hid _:=hO0
 have hH:Hid (Gr w w1∧Cls w1 (w.heap.size+1) [I none 0 0,I none 0 0]∧Cls w1 (w.heap.size+1+1) [I none 0 0,I none 0 0]∧w1.heap.size=w.heap.size+1+1+1):=⟨hg1,hHc.1,hHc.2,hs1⟩
 clear hO0 hg1 hs1 hHc hga hsa hw1
 refine wp_loop_rounds 3 ?_
 rw[rounds_succ]
 go_wp2_with fail
 refine cM (show Calls _ _ _ _ _ from hO.out) ?_
 rintro e w3 ⟨L,X,k,rfl,l1,l2,l3,l4,l5⟩
 have hb3:Below w1.heap.size w1 w3:=((gR w1).alloc _).below.trans (l4.mono (by simp))
 have hL3:=hH.out.2.2.1.below hb3
 have p0:=hL3.cell (j:=0) rfl
 have z0:=hL3.fz 0
 have hll:L.length≤maxLen:=pQ l1 hHst.out.1.ok
 have hLP:Hid (LvP (fun b=>w1.heap.size≤b∧b<w3.heap.size) w3 X k L∧L.map Itm.z=ofR s):=⟨(LvP.new ⟨l2,l3,hll⟩ l5).mono fun b hb=>⟨nT (by simp) hb.1,hb.2⟩,l1⟩
 have hR3:Hid (Cls w3 (w.heap.size+1) [I none 0 0,I none 0 0]∧Cls w3 (w.heap.size+1+1) [I none 0 0,I none 0 0]∧Below w1.heap.size w1 w3):=⟨hH.out.2.1.below hb3,hL3,hb3⟩
 clear l1 l2 l3 l4 l5 hO hb3 hL3 hll
 go_wp2
 clear p0 z0
 obtain ⟨w4,hw4⟩:∃W,w3.setCell ⟨w.heap.size+1+1,0,none⟩ (I X L.length k)=W:=⟨_,rfl⟩
 rw[hw4]
 have hs4:w4.heap.size=w3.heap.size:=by rw[←hw4];simp
 have h4:Hid (Cls w4 (w.heap.size+1) [I none 0 0,I none 0 0]∧Cls w4 (w.heap.size+1+1) [I X L.length k,I none 0 0]∧LvP (fun b=>w1.heap.size≤b∧b<w4.heap.size) w4 X k L∧Below w.heap.size w w4∧w1.heap.size≤w4.heap.size):=by
  have hs1:=hH.out.2.2.2
  have hb:=hH.out.1.below.trans (hR3.out.2.2.mono hH.out.1.size)
  refine ⟨?_,?_,?_,?_,?_⟩
  ·rw[←hw4];exact hR3.out.1.oth (by omega) _
  ·rw[←hw4];exact hR3.out.2.1.put 0 _
  ·rw[hs4,←hw4];exact hLP.out.1.agr (Agr.set _ fun h=>by omega)
  ·rw[←hw4];exact hb.setCell (by show _≤w.heap.size+1+1;omega) _
  ·rw[hs4];exact hR3.out.2.2.size
 clear hw4 hs4 hR3
 rw[rounds_succ]
 have hO0:=qP t B cb D cd (w4.alloc (J #[O S t.c.c0,O S t.c.c1,O S t.c.c2,O S t.c.c3,I B t.c.l.length cb,I D t.e.length cd] 42)) hHst.out.2.len.1 hHst.out.2.len.2 ((hHst.out.2.row.below h4.out.2.2.2.1).gr ((gR _).alloc _)) ((hHst.out.2.cel.below h4.out.2.2.2.1).gr ((gR _).alloc _))
 rw[hHst.out.2.ok] at hO0
 have hO:Hid _:=hO0
 clear hO0
 go_wp2_with fail
 refine cM (show Calls _ _ _ _ _ from hO.out) ?_
 rintro e w5 ⟨M,Y,m,rfl,l1,l2,l3,l4,l5⟩
 have hb5:Below w4.heap.size w4 w5:=((gR w4).alloc _).below.trans (l4.mono (by simp))
 have hL5:=h4.out.2.1.below hb5
 have p0:=hL5.cell (j:=1) rfl
 have z0:=hL5.fz 1
 have hll:M.length≤maxLen:=pQ l1 hHst.out.2.ok
 have hMP:Hid (LvP (fun b=>w1.heap.size≤b∧b<w5.heap.size) w5 X k L∧LvP (fun b=>w1.heap.size≤b∧b<w5.heap.size) w5 Y m M∧M.map Itm.z=ofR t):=⟨(h4.out.2.2.1.below hb5).mono fun b hb=>⟨hb.1,nL hb.2 hb5.size⟩,(LvP.new ⟨l2,l3,hll⟩ l5).mono fun b hb=>⟨nT h4.out.2.2.2.2 (nT (by simp) hb.1),hb.2⟩,l1⟩
 have hR5:Hid (Cls w5 (w.heap.size+1) [I none 0 0,I none 0 0]∧Cls w5 (w.heap.size+1+1) [I X L.length k,I none 0 0]∧Below w.heap.size w w5):=⟨h4.out.1.below hb5,hL5,h4.out.2.2.2.1.trans (hb5.mono h4.out.2.2.2.1.size)⟩
 clear l1 l2 l3 l4 l5 hO hb5 hL5 hll
 go_wp2
 clear p0 z0
 obtain ⟨w6,hw6⟩:∃W,w5.setCell ⟨w.heap.size+1+1,1,none⟩ (I Y M.length m)=W:=⟨_,rfl⟩
 rw[hw6]
 have hs6:w6.heap.size=w5.heap.size:=by rw[←hw6];simp
 have h6:Hid (Cls w6 (w.heap.size+1) [I none 0 0,I none 0 0]∧Cls w6 (w.heap.size+1+1) [I X L.length k,I Y M.length m]∧LvP (fun b=>w1.heap.size≤b∧b<w6.heap.size) w6 X k L∧LvP (fun b=>w1.heap.size≤b∧b<w6.heap.size) w6 Y m M∧Below w.heap.size w w6):=by
  have hs1:=hH.out.2.2.2
  refine ⟨?_,?_,?_,?_,?_⟩
  ·rw[←hw6];exact hR5.out.1.oth (by omega) _
  ·rw[←hw6];exact hR5.out.2.1.put 1 _
  ·rw[hs6,←hw6];exact hMP.out.1.agr (Agr.set _ fun h=>by omega)
  ·rw[hs6,←hw6];exact hMP.out.2.1.agr (Agr.set _ fun h=>by omega)
  ·rw[←hw6];exact hR5.out.2.2.setCell (by show _≤w.heap.size+1+1;omega) _
 clear hw6 hs6 hR5
 rw[rounds_succ]
 have q0:=h6.out.2.1.cell (j:=0) rfl
 have q1:=h6.out.2.1.cell (j:=1) rfl
 have r0:=h6.out.1.cell (j:=0) rfl
 have r1:=h6.out.1.cell (j:=1) rfl
 have z0:=h6.out.1.fz 0
 have z1:=h6.out.1.fz 1
 go_wp2
 have hs1:=hH.out.2.2.2
 have hge:w.heap.size≤w.heap.size+1:=by omega
 refine bodyPost_ret (v:= H #[I X L.length k,I Y M.length m]) (by simp[results,Tryz.results58,go_sem,r0,r1]) rfl ⟨L,M,X,Y,k,m,rfl,hLP.out.2,hMP.out.2.2,?_,?_,(h6.out.2.2.2.2.setCell hge _).setCell hge _⟩
 ·exact ((h6.out.2.2.1.agr (Agr.set _ fun h=>by omega)).agr (Agr.set _ fun h=>by omega)).mono fun b hb=>⟨by omega,by simpa using hb.2⟩
 ·exact ((h6.out.2.2.2.1.agr (Agr.set _ fun h=>by omega)).agr (Agr.set _ fun h=>by omega)).mono fun b hb=>⟨by omega,by simpa using hb.2⟩
theorem pn {W:World} {A:Option Addr} {c:Nat} {l:List Itm} (h:Lv W A c l) (hz:TS (l.map Itm.z)) :
  Calls Z 103 #[I A l.length c] W fun e w'=>∃(L:List Itm) (C:Option Addr) (k:Nat),e= .returned (.tuple #[I C L.length k,O S 0])∧L.map Itm.z=gx (l.map Itm.z)∧Lv w' C k L∧Below W.heap.size W w':=by
 have:=zj h rfl
 rw[hz.ok] at this
 exact this
theorem kT (a b c d:List Itm) (A B C D:Option Addr) (ca cb cc cd:Nat) (w:World) (ha:Lv w A ca a) (hb:Lv w B cb b) (hc:Lv w C cc c) (hd:Lv w D cd d) (ta:TS (a.map Itm.z)) (tb:TS (b.map Itm.z)) (tc:TS (c.map Itm.z)) (td:TS (d.map Itm.z)) :
  Calls Z 70 #[H #[I A a.length ca,I B b.length cb],H #[I C c.length cc,I D d.length cd]] w fun e w'=>∃(L M:List Itm) (X Y:Option Addr) (k m:Nat),e= .returned (H #[I X L.length k,I Y M.length m])∧L.map Itm.z=bf (a.map Itm.z) (c.map Itm.z)∧M.map Itm.z=bf (b.map Itm.z) (d.map Itm.z)∧LvP (fun b=>w.heap.size≤b∧b<w'.heap.size) w' X k L∧LvP (fun b=>w.heap.size≤b∧b<w'.heap.size) w' Y m M∧Below w.heap.size w w':=by
 have hHst:Hid (Lv w A ca a∧Lv w B cb b∧Lv w C cc c∧Lv w D cd d∧TS (a.map Itm.z)∧TS (b.map Itm.z)∧TS (c.map Itm.z)∧TS (d.map Itm.z)):=⟨ha,hb,hc,hd,ta,tb,tc,td⟩
 clear ha hb hc hd ta tb tc td
 go_enter Tryz.func70,Tryz.ntmps70
 go_wp2
 obtain ⟨wa,hwa⟩:∃W,(w.alloc (J #[I A a.length ca,I B b.length cb] 71)).alloc (J #[I C c.length cc,I D d.length cd] 71)=W:=⟨_,rfl⟩
 rw[hwa]
 have hga:Gr w wa:=by rw[←hwa];exact ((gR w).alloc _).alloc _
 have hsa:wa.heap.size=w.heap.size+1+1:=by rw[←hwa];simp
 have hN:Cls wa w.heap.size [I A a.length ca,I B b.length cb]:=by rw[←hwa];exact (Cls.new w _ _).gr ((gR _).alloc _)
 have hO:Cls wa (w.heap.size+1) [I C c.length cc,I D d.length cd]:=by
  have:=Cls.new (w.alloc (J #[I A a.length ca,I B b.length cb] 71)) #[I C c.length cc,I D d.length cd] 71
  rw[hwa,show (w.alloc (J #[I A a.length ca,I B b.length cb] 71)).heap.size=w.heap.size+1 by simp] at this
  exact this
 clear hwa
 obtain ⟨w1,hw1⟩:∃W,(wa.alloc (J #[I none 0 0,I none 0 0] 71)).alloc (J #[I none 0 0,I none 0 0] 71)=W:=⟨_,rfl⟩
 rw[hw1]
 have hHc:=rZ wa 71 hw1 hsa
 have hga1:Gr wa w1:=by rw[←hw1];exact ((gR _).alloc _).alloc _
 have hg1:Gr w w1:=hga.trans hga1
 have hs1:w1.heap.size=w.heap.size+1+1+1+1:=by rw[←hw1];simp[hsa]
 have hH:Hid (Gr w w1∧Cls w1 w.heap.size [I A a.length ca,I B b.length cb]∧Cls w1 (w.heap.size+1) [I C c.length cc,I D d.length cd]∧Cls w1 (w.heap.size+1+1) [I none 0 0,I none 0 0]∧Cls w1 (w.heap.size+1+1+1) [I none 0 0,I none 0 0]∧w1.heap.size=w.heap.size+1+1+1+1):=⟨hg1,hN.gr hga1,hO.gr hga1,hHc.1,hHc.2,hs1⟩
 clear hg1 hs1 hHc hga hsa hw1 hN hO hga1
 have q0:=hH.out.2.1.cell (j:=0) rfl
 have q1:=hH.out.2.2.1.cell (j:=0) rfl
 refine wp_loop_rounds 3 ?_
 rw[rounds_succ]
 have hC0:=pn (hHst.out.2.2.1.gr hH.out.1) hHst.out.2.2.2.2.2.2.1
 have hC:Hid _:=hC0
 clear hC0
 go_wp2_with fail
 clear q0 q1
 refine cM (show Calls _ _ _ _ _ from hC.out) ?_
 rintro e w2 ⟨T,TA,tk,rfl,t1,t2,t3⟩
 have hT:Hid (Lv w2 TA tk T∧T.map Itm.z=gx (c.map Itm.z)∧Below w1.heap.size w1 w2):=⟨t2,t1,t3⟩
 clear t1 t2 t3 hC
 have q0:=(hH.out.2.1.below hT.out.2.2).cell (j:=0) rfl
 have hC0:=jq ((hHst.out.1.gr hH.out.1).below hT.out.2.2) hT.out.1 (m:=bf (a.map Itm.z) (c.map Itm.z)) (by rw[hT.out.2.1];exact (mu hHst.out.2.2.2.2.1 hHst.out.2.2.2.2.2.2.1).2)
 have hC:Hid _:=hC0
 clear hC0
 go_wp2_with fail
 clear q0
 refine cM (show Calls _ _ _ _ _ from hC.out) ?_
 rintro e w3 ⟨L,X,k,rfl,l1,l2,l3⟩
 have hb3:Below w1.heap.size w1 w3:=hT.out.2.2.trans (l3.mono hT.out.2.2.size)
 have hL3:=hH.out.2.2.2.2.1.below hb3
 have p0:=hL3.cell (j:=0) rfl
 have z0:=hL3.fz 0
 have hLP:Hid (LvP (fun b=>w1.heap.size≤b∧b<w3.heap.size) w3 X k L∧L.map Itm.z=bf (a.map Itm.z) (c.map Itm.z)):=⟨l2.mono fun b hb=>⟨nT hT.out.2.2.size hb.1,hb.2⟩,l1⟩
 have hR3:Hid (Below w1.heap.size w1 w3):=hb3
 clear l1 l2 l3 hC hb3 hL3
 go_wp2
 clear p0 z0
 obtain ⟨w4,hw4⟩:∃W,w3.setCell ⟨w.heap.size+1+1+1,0,none⟩ (I X L.length k)=W:=⟨_,rfl⟩
 rw[hw4]
 have hs4:w4.heap.size=w3.heap.size:=by rw[←hw4];simp
 have h4:Hid (Cls w4 w.heap.size [I A a.length ca,I B b.length cb]∧Cls w4 (w.heap.size+1) [I C c.length cc,I D d.length cd]∧Cls w4 (w.heap.size+1+1) [I none 0 0,I none 0 0]∧Cls w4 (w.heap.size+1+1+1) [I X L.length k,I none 0 0]∧LvP (fun b=>w1.heap.size≤b∧b<w4.heap.size) w4 X k L∧Below w.heap.size w w4∧w1.heap.size≤w4.heap.size):=by
  have hs1:=hH.out.2.2.2.2.2
  have hb:=hH.out.1.below.trans (hR3.out.mono hH.out.1.size)
  refine ⟨?_,?_,?_,?_,?_,?_,?_⟩
  ·rw[←hw4];exact (hH.out.2.1.below hR3.out).oth (by omega) _
  ·rw[←hw4];exact (hH.out.2.2.1.below hR3.out).oth (by omega) _
  ·rw[←hw4];exact (hH.out.2.2.2.1.below hR3.out).oth (by omega) _
  ·rw[←hw4];exact (hH.out.2.2.2.2.1.below hR3.out).put 0 _
  ·rw[hs4,←hw4];exact hLP.out.1.agr (Agr.set _ fun h=>by omega)
  ·rw[←hw4];exact hb.setCell (by show _≤w.heap.size+1+1+1;omega) _
  ·rw[hs4];exact hR3.out.size
 clear hw4 hs4 hR3 hT
 rw[rounds_succ]
 have q0:=h4.out.1.cell (j:=1) rfl
 have q1:=h4.out.2.1.cell (j:=1) rfl
 have hC0:=pn (hHst.out.2.2.2.1.below h4.out.2.2.2.2.2.1) hHst.out.2.2.2.2.2.2.2
 have hC:Hid _:=hC0
 clear hC0
 go_wp2_with fail
 clear q0 q1
 refine cM (show Calls _ _ _ _ _ from hC.out) ?_
 rintro e w5 ⟨U,UA,uk,rfl,t1,t2,t3⟩
 have hT:Hid (Lv w5 UA uk U∧U.map Itm.z=gx (d.map Itm.z)∧Below w4.heap.size w4 w5):=⟨t2,t1,t3⟩
 clear t1 t2 t3 hC
 have q0:=(h4.out.1.below hT.out.2.2).cell (j:=1) rfl
 have hC0:=jq ((hHst.out.2.1.below h4.out.2.2.2.2.2.1).below hT.out.2.2) hT.out.1 (m:=bf (b.map Itm.z) (d.map Itm.z)) (by rw[hT.out.2.1];exact (mu hHst.out.2.2.2.2.2.1 hHst.out.2.2.2.2.2.2.2).2)
 have hC:Hid _:=hC0
 clear hC0
 go_wp2_with fail
 clear q0
 refine cM (show Calls _ _ _ _ _ from hC.out) ?_
 rintro e w6 ⟨M,Y,m,rfl,l1,l2,l3⟩
 have hb6:Below w4.heap.size w4 w6:=hT.out.2.2.trans (l3.mono hT.out.2.2.size)
 have hL6:=h4.out.2.2.2.1.below hb6
 have p0:=hL6.cell (j:=1) rfl
 have z0:=hL6.fz 1
 have hMP:Hid (LvP (fun b=>w1.heap.size≤b∧b<w6.heap.size) w6 X k L∧LvP (fun b=>w1.heap.size≤b∧b<w6.heap.size) w6 Y m M∧M.map Itm.z=bf (b.map Itm.z) (d.map Itm.z)):=⟨(h4.out.2.2.2.2.1.below hb6).mono fun b hb=>⟨hb.1,nL hb.2 hb6.size⟩,l2.mono fun b hb=>⟨nT h4.out.2.2.2.2.2.2 (nT hT.out.2.2.size hb.1),hb.2⟩,l1⟩
 have hR6:Hid (Cls w6 (w.heap.size+1+1) [I none 0 0,I none 0 0]∧Cls w6 (w.heap.size+1+1+1) [I X L.length k,I none 0 0]∧Below w.heap.size w w6):=⟨h4.out.2.2.1.below hb6,hL6,h4.out.2.2.2.2.2.1.trans (hb6.mono h4.out.2.2.2.2.2.1.size)⟩
 clear l1 l2 l3 hC hb6 hL6
 go_wp2
 clear p0 z0
 obtain ⟨w7,hw7⟩:∃W,w6.setCell ⟨w.heap.size+1+1+1,1,none⟩ (I Y M.length m)=W:=⟨_,rfl⟩
 rw[hw7]
 have hs7:w7.heap.size=w6.heap.size:=by rw[←hw7];simp
 have h7:Hid (Cls w7 (w.heap.size+1+1) [I none 0 0,I none 0 0]∧Cls w7 (w.heap.size+1+1+1) [I X L.length k,I Y M.length m]∧LvP (fun b=>w1.heap.size≤b∧b<w7.heap.size) w7 X k L∧LvP (fun b=>w1.heap.size≤b∧b<w7.heap.size) w7 Y m M∧Below w.heap.size w w7):=by
  have hs1:=hH.out.2.2.2.2.2
  refine ⟨?_,?_,?_,?_,?_⟩
  ·rw[←hw7];exact hR6.out.1.oth (by omega) _
  ·rw[←hw7];exact hR6.out.2.1.put 1 _
  ·rw[hs7,←hw7];exact hMP.out.1.agr (Agr.set _ fun h=>by omega)
  ·rw[hs7,←hw7];exact hMP.out.2.1.agr (Agr.set _ fun h=>by omega)
  ·rw[←hw7];exact hR6.out.2.2.setCell (by show _≤w.heap.size+1+1+1;omega) _
 clear hw7 hs7 hR6 hT
 rw[rounds_succ]
 have q0:=h7.out.2.1.cell (j:=0) rfl
 have q1:=h7.out.2.1.cell (j:=1) rfl
 have r0:=h7.out.1.cell (j:=0) rfl
 have r1:=h7.out.1.cell (j:=1) rfl
 have z0:=h7.out.1.fz 0
 have z1:=h7.out.1.fz 1
 go_wp2
 have hs1:=hH.out.2.2.2.2.2
 have hge:w.heap.size≤w.heap.size+1+1:=by omega
 refine bodyPost_ret (v:= H #[I X L.length k,I Y M.length m]) (by simp[results,Tryz.results70,go_sem,r0,r1]) rfl ⟨L,M,X,Y,k,m,rfl,hLP.out.2,hMP.out.2.2,?_,?_,(h7.out.2.2.2.2.setCell hge _).setCell hge _⟩
 ·exact ((h7.out.2.2.1.agr (Agr.set _ fun h=>by omega)).agr (Agr.set _ fun h=>by omega)).mono fun b hb=>⟨by omega,by simpa using hb.2⟩
 ·exact ((h7.out.2.2.2.1.agr (Agr.set _ fun h=>by omega)).agr (Agr.set _ fun h=>by omega)).mono fun b hb=>⟨by omega,by simpa using hb.2⟩
abbrev aS:=@Agr.set

theorem Vo.mono {w:World} {V o:Nat} {P P':Nat→Prop} {q:List Stp} {QA:Option Addr} {cq:Nat} {a:List Itm} {A:Option Addr} {ca:Nat} {b:List Itm} {B:Option Addr} {cb:Nat} (h:Vo w V o P q QA cq a A ca b B cb) (k:∀b,P b→P' b):Vo w V o P' q QA cq a A ca b B cb :=
 ⟨h.lt,h.fz,h.c0,h.c1,h.c2,h.st.mono k,h.len,h.la.mono k,h.lb.mono k⟩
theorem Vo.set {w:World} {V o:Nat} {P:Nat→Prop} {q:List Stp} {QA:Option Addr} {cq:Nat} {a:List Itm} {A:Option Addr} {ca:Nat} {b:List Itm} {B:Option Addr} {cb:Nat} (h:Vo w V o P q QA cq a A ca b B cb) (hV:¬P V) {j:Nat} (hj:o+3≤j) (v:Value):Vo (w.setCell ⟨V,j,none⟩ v) V o P q QA cq a A ca b B cb :=
 have hA:Agr P w (w.setCell ⟨V,j,none⟩ v):=aS v hV
 ⟨by simpa using h.lt,fun j=>by simpa using h.fz j,by rw[cD (by omega)];exact h.c0,by rw[cD (by omega)];exact h.c1,by rw[cD (by omega)];exact h.c2,h.st.agr hA,h.len,h.la.agr hA,h.lb.agr hA⟩
structure Vm (w:World) (V o:Nat) (P:Nat→Prop) (q:List Stp) (QA:Option Addr) (cq:Nat) (a:List Itm) (A:Option Addr) (ca:Nat) (b:List Itm) (B:Option Addr) (cb:Nat) (x:List Itm) (X:Option Addr) (cx:Nat) (y:List Itm) (Y:Option Addr) (cy:Nat) (e:Int):Prop where
 vo:Vo w V o P q QA cq a A ca b B cb
 c3:w.cell? ⟨V,o+3,none⟩=some (I X x.length cx)
 c4:w.cell? ⟨V,o+4,none⟩=some (I Y y.length cy)
 c5:w.cell? ⟨V,o+5,none⟩=some (O S e)
 lx:LvP P w X cx x
 ly:LvP P w Y cy y
section
variable {w w':World} {V o:Nat} {P P':Nat→Prop} {q:List Stp} {QA:Option Addr} {cq:Nat} {a:List Itm} {A:Option Addr} {ca:Nat} {b:List Itm} {B:Option Addr} {cb:Nat} {x:List Itm} {X:Option Addr} {cx:Nat} {y:List Itm} {Y:Option Addr} {cy:Nat} {e:Int}
theorem Vm.below (h:Vm w V o P q QA cq a A ca b B cb x X cx y Y cy e) (k:Below w.heap.size w w'):Vm w' V o P q QA cq a A ca b B cb x X cx y Y cy e :=
 ⟨h.vo.below k,(k.cell (p:=⟨V,o+3,none⟩) h.vo.lt).trans h.c3,(k.cell (p:=⟨V,o+4,none⟩) h.vo.lt).trans h.c4,(k.cell (p:=⟨V,o+5,none⟩) h.vo.lt).trans h.c5,h.lx.below k,h.ly.below k⟩
theorem Vm.mono (h:Vm w V o P q QA cq a A ca b B cb x X cx y Y cy e) (k:∀b,P b→P' b):Vm w V o P' q QA cq a A ca b B cb x X cx y Y cy e :=
 ⟨h.vo.mono k,h.c3,h.c4,h.c5,h.lx.mono k,h.ly.mono k⟩
theorem Vm.set3 (h:Vm w V o P q QA cq a A ca b B cb x X cx y Y cy e) (hV:¬P V) {x':List Itm} {X':Option Addr} {cx':Nat} (hx:LvP P w X' cx' x'):Vm (w.setCell ⟨V,o+3,none⟩ (I X' x'.length cx')) V o P q QA cq a A ca b B cb x' X' cx' y Y cy e :=
 ⟨h.vo.set hV (by omega) _,World.cell?_setCell_same _ _ _ h.c3,by rw[cD (by omega)];exact h.c4,by rw[cD (by omega)];exact h.c5,hx.agr (aS _ hV),h.ly.agr (aS _ hV)⟩
theorem Vm.set4 (h:Vm w V o P q QA cq a A ca b B cb x X cx y Y cy e) (hV:¬P V) {y':List Itm} {Y':Option Addr} {cy':Nat} (hy:LvP P w Y' cy' y'):Vm (w.setCell ⟨V,o+4,none⟩ (I Y' y'.length cy')) V o P q QA cq a A ca b B cb x X cx y' Y' cy' e :=
 ⟨h.vo.set hV (by omega) _,by rw[cD (by omega)];exact h.c3,World.cell?_setCell_same _ _ _ h.c4,by rw[cD (by omega)];exact h.c5,h.lx.agr (aS _ hV),hy.agr (aS _ hV)⟩
theorem Vm.set5 (h:Vm w V o P q QA cq a A ca b B cb x X cx y Y cy e) (hV:¬P V) (e':Int):Vm (w.setCell ⟨V,o+5,none⟩ (O S e')) V o P q QA cq a A ca b B cb x X cx y Y cy e' :=
 ⟨h.vo.set hV (by omega) _,by rw[cD (by omega)];exact h.c3,by rw[cD (by omega)];exact h.c4,World.cell?_setCell_same _ _ _ h.c5,h.lx.agr (aS _ hV),h.ly.agr (aS _ hV)⟩
end
def VwM (w:World) (V o:Nat) (P:Nat→Prop) (q:List Stp) (k l m n:List Zit) (e:Int):Prop :=
 ∃(q':List Stp) (QA:Option Addr) (cq:Nat) (a:List Itm) (A:Option Addr) (ca:Nat) (b:List Itm) (B:Option Addr) (cb:Nat) (x:List Itm) (X:Option Addr) (cx:Nat) (y:List Itm) (Y:Option Addr) (cy:Nat),
  Vm w V o P q' QA cq a A ca b B cb x X cx y Y cy e∧q'.map bare=q.map bare∧a.map Itm.z=k∧b.map Itm.z=l∧x.map Itm.z=m∧y.map Itm.z=n
theorem VwM.below {w w':World} {V o:Nat} {P:Nat→Prop} {q:List Stp} {k l m n:List Zit} {e:Int} (h:VwM w V o P q k l m n e) (g:Below w.heap.size w w'):VwM w' V o P q k l m n e:=by
 obtain ⟨q',QA,cq,a,A,ca,b,B,cb,x,X,cx,y,Y,cy,h1,h2⟩:=h
 exact ⟨q',QA,cq,a,A,ca,b,B,cb,x,X,cx,y,Y,cy,h1.below g,h2⟩
theorem VwM.mono {w:World} {V o:Nat} {P P':Nat→Prop} {q:List Stp} {k l m n:List Zit} {e:Int} (h:VwM w V o P q k l m n e) (g:∀b,P b→P' b):VwM w V o P' q k l m n e:=by
 obtain ⟨q',QA,cq,a,A,ca,b,B,cb,x,X,cx,y,Y,cy,h1,h2⟩:=h
 exact ⟨q',QA,cq,a,A,ca,b,B,cb,x,X,cx,y,Y,cy,h1.mono g,h2⟩
theorem VwM.keep {w w':World} {V o:Nat} {P:Nat→Prop} {q:List Stp} {k l m n:List Zit} {e:Int} (h:VwM w V o P q k l m n e) (hA:Agr P w w') (hl:V<w'.heap.size) (hf:∀j,w'.frozen? ⟨V,j,none⟩=false) (hc:∀j,o≤j→j<o+6→w'.cell? ⟨V,j,none⟩=w.cell? ⟨V,j,none⟩):VwM w' V o P q k l m n e:=by
 obtain ⟨q',QA,cq,a,A,ca,b,B,cb,x,X,cx,y,Y,cy,h1,h2⟩:=h
 exact ⟨q',QA,cq,a,A,ca,b,B,cb,x,X,cx,y,Y,cy,⟨⟨hl,hf,(hc o (by omega) (by omega)).trans h1.vo.c0,(hc (o+1) (by omega) (by omega)).trans h1.vo.c1,(hc (o+2) (by omega) (by omega)).trans h1.vo.c2,h1.vo.st.agr hA,h1.vo.len,h1.vo.la.agr hA,h1.vo.lb.agr hA⟩,(hc (o+3) (by omega) (by omega)).trans h1.c3,(hc (o+4) (by omega) (by omega)).trans h1.c4,(hc (o+5) (by omega) (by omega)).trans h1.c5,h1.lx.agr hA,h1.ly.agr hA⟩,h2⟩
def VwN (w:World) (V o:Nat) (P:Nat→Prop) (q:List Stp) (z y:List Zit):Prop :=
 ∃k l,VwM w V o P q k l (bf z k) (bf y l) (cL q z y)∧TS k∧TS l∧(cL q z y=0→k=z∧l=y)
theorem VwN.mono {w:World} {V o:Nat} {P P':Nat→Prop} {q:List Stp} {z y:List Zit} (h:VwN w V o P q z y) (g:∀b,P b→P' b):VwN w V o P' q z y:=by
 obtain ⟨k,l,h1,h2⟩:=h
 exact ⟨k,l,h1.mono g,h2⟩
theorem VwN.keep {w w':World} {V o:Nat} {P:Nat→Prop} {q:List Stp} {z y:List Zit} (h:VwN w V o P q z y) (hA:Agr P w w') (hl:V<w'.heap.size) (hf:∀j,w'.frozen? ⟨V,j,none⟩=false) (hc:∀j,o≤j→j<o+6→w'.cell? ⟨V,j,none⟩=w.cell? ⟨V,j,none⟩):VwN w' V o P q z y:=by
 obtain ⟨k,l,h1,h2⟩:=h
 exact ⟨k,l,h1.keep hA hl hf hc,h2⟩
end Go.Proofs.YtkefkplnamkicabGreatDoor
