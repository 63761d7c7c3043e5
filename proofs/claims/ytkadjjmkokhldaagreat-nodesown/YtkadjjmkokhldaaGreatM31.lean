/-
  node.sum, setsOf, difference: the sets of a node's tables.
  A node's view in memory: a kept query, what it has missed, and its error.
  (*view).turn: what came to both tables is taken, with what was missed; (*view).tell.
-/
import Derived.Test.YtkadjjmkokhldaaGreatM29
import Derived.Test.YtkadjjmkokhldaaGreatM30
namespace Go.Proofs.YtkadjjmkokhldaaGreat
open Go.RowKit Go.Sort

/-- A right table in memory, within P. -/
structure TbP (P:Nat→Prop) (w:World) (t:Tab) (A:Option Addr) (ca:Nat) (D:Option Addr) (cd:Nat):Prop where
 row:Row w A t.c.l
 cel:RowC w D t.e
 pr:PIn P A t.c.l
 pc:PIn P D t.e
 nr:A=none→ca=0
 nc:D=none→cd=0
 ok:errT t=0
theorem TbP.agr {P:Nat→Prop} {w w':World} {t:Tab} {A:Option Addr} {ca:Nat} {D:Option Addr} {cd:Nat} (h:TbP P w t A ca D cd) (q:Agr P w w'):TbP P w' t A ca D cd:=⟨h.row.agr h.pr q,h.cel.agr h.pc q,h.pr,h.pc,h.nr,h.nc,h.ok⟩
theorem TbP.below {P:Nat→Prop} {w w':World} {t:Tab} {A:Option Addr} {ca:Nat} {D:Option Addr} {cd:Nat} (h:TbP P w t A ca D cd) (q:Below w.heap.size w w'):TbP P w' t A ca D cd:=h.agr (Agr.of q)
theorem TbP.mono {P Q:Nat→Prop} {w:World} {t:Tab} {A:Option Addr} {ca:Nat} {D:Option Addr} {cd:Nat} (h:TbP P w t A ca D cd) (k:∀b,P b→Q b):TbP Q w t A ca D cd:=⟨h.row,h.cel,h.pr.mono k,h.pc.mono k,h.nr,h.nc,h.ok⟩
theorem TbP.len {P:Nat→Prop} {w:World} {t:Tab} {A:Option Addr} {ca:Nat} {D:Option Addr} {cd:Nat} (h:TbP P w t A ca D cd):t.c.l.length≤maxLen∧t.e.length≤maxLen:=by
 have h1:=(errC_parts (errT_parts h.ok).1).2.1
 have h2:=(errT_parts h.ok).2.1
 unfold maxLen
 omega

/-- A cell of a block that P doesn't name is written. -/
theorem Agr.set {P:Nat→Prop} {w:World} {V j:Nat} (v:Value) (h:¬P V):Agr P w (w.setCell ⟨V,j,none⟩ v):=(Wr.set (lo:=j) (hi:=j+1) w v (Nat.le_refl _) (by omega)).agr h
set_option maxHeartbeats 1000000 in
theorem nsum_any {W:World} {A B:Option Addr} {c d:Nat} {l r:List Itm} (h:Lv W A c l) (h':Lv W B d r) {m:List Zit} (hm:addL (l.map Itm.z) (r.map Itm.z)=m) :
  Calls Tryz.prog 45 #[.slice A l.length c,.slice B r.length d] W fun e w'=>∃(L:List Itm) (C:Option Addr) (k:Nat),e= .returned (.slice C L.length k)∧L.map Itm.z=m∧LvP (fun b=>W.heap.size≤b∧b<w'.heap.size) w' C k L∧Below W.heap.size W w':=by
 obtain ⟨E,hE⟩:∃E,addE (l.map Itm.z) (r.map Itm.z)=E:=⟨_,rfl⟩
 have hA0:=addVn h h' rfl rfl
 rw[hm,hE] at hA0
 have hA:Hid _:=hA0
 clear hA0 h h' hm hE
 go_enter Tryz.func45,Tryz.ntmps45
 go_wp2_with fail
 refine Calls.mono (show Calls _ _ _ _ _ from hA.out) ?_
 rintro e w1 ⟨L,C,k,rfl,h1,h2,h3,h4⟩
 have hfin:Hid (L.map Itm.z=m∧LvP (fun b=>W.heap.size≤b∧b<w1.heap.size) w1 C k L∧Below W.heap.size W w1):=⟨h1,LvP.new h2 h4.new,h3⟩
 clear h1 h2 h3 h4 hA
 go_wp2
 go_ret
 exact ⟨L,C,k,rfl,hfin.out⟩
theorem idxT0 (a b c d e f g h i j k l:Value) (w:World):(Instr.index 38 (.agg #[a,b,c,d,e,f,g,h,i,j,k,l]) (.int .i64 0)).run Tryz.prog w= .ok (.agg #[a,b,c,d,e,f]) w:=by kernel_rfl
theorem idxT1 (a b c d e f g h i j k l:Value) (w:World):(Instr.index 38 (.agg #[a,b,c,d,e,f,g,h,i,j,k,l]) (.int .i64 1)).run Tryz.prog w= .ok (.agg #[g,h,i,j,k,l]) w:=by kernel_rfl
theorem idxS0 (x y:Value) (w:World):(Instr.index 72 (.agg #[x,y]) (.int .i64 0)).run Tryz.prog w= .ok x w:=by kernel_rfl
theorem idxS1 (x y:Value) (w:World):(Instr.index 72 (.agg #[x,y]) (.int .i64 1)).run Tryz.prog w= .ok y w:=by kernel_rfl

/-- Two blocks of two nils, one behind the other. -/
theorem two_cls (wa:World) (T:TypeId) {w1:World} {n:Nat} (hw:(wa.alloc (.cells #[.slice none 0 0,.slice none 0 0] T)).alloc (.cells #[.slice none 0 0,.slice none 0 0] T)=w1) (hn:wa.heap.size=n):Cls w1 n [.slice none 0 0,.slice none 0 0]∧Cls w1 (n+1) [.slice none 0 0,.slice none 0 0]:=by
 subst hn
 subst hw
 have h1:=Cls.new wa #[.slice none 0 0,.slice none 0 0] T
 have h2:=Cls.new (wa.alloc (.cells #[.slice none 0 0,.slice none 0 0] T)) #[.slice none 0 0,.slice none 0 0] T
 rw[show (wa.alloc (.cells #[.slice none 0 0,.slice none 0 0] T)).heap.size=wa.heap.size+1 by simp] at h2
 exact ⟨h1.gr ((Gr.refl _).alloc _),h2⟩
theorem ts_small {L:List Itm} {t:Tab} (h:L.map Itm.z=ofR t) (e:errT t=0):L.length≤maxLen:=by
 have h1:=congrArg List.length h
 rw[List.length_map] at h1
 have h2:=(TS.of e).len
 unfold maxLen
 omega
set_option maxRecDepth 100000 in
set_option maxHeartbeats 2000000 in
theorem setsOf_any {P:Nat→Prop} (s t:Tab) (A B C D:Option Addr) (ca cb cc cd:Nat) (w:World) (hs:TbP P w s A ca C cc) (ht:TbP P w t B cb D cd) :
  Calls Tryz.prog 28 #[.agg #[.int .i64 s.c.c0,.int .i64 s.c.c1,.int .i64 s.c.c2,.int .i64 s.c.c3,.slice A s.c.l.length ca,.slice C s.e.length cc,.int .i64 t.c.c0,.int .i64 t.c.c1,.int .i64 t.c.c2,.int .i64 t.c.c3,.slice B t.c.l.length cb,.slice D t.e.length cd]] w fun e w'=>∃(L M:List Itm) (X Y:Option Addr) (k m:Nat),e= .returned (.agg #[.slice X L.length k,.slice Y M.length m])∧L.map Itm.z=ofR s∧M.map Itm.z=ofR t∧LvP (fun b=>w.heap.size≤b∧b<w'.heap.size) w' X k L∧LvP (fun b=>w.heap.size≤b∧b<w'.heap.size) w' Y m M∧Below w.heap.size w w':=by
 have hx0:=idxT0 (.int .i64 s.c.c0) (.int .i64 s.c.c1) (.int .i64 s.c.c2) (.int .i64 s.c.c3) (.slice A s.c.l.length ca) (.slice C s.e.length cc) (.int .i64 t.c.c0) (.int .i64 t.c.c1) (.int .i64 t.c.c2) (.int .i64 t.c.c3) (.slice B t.c.l.length cb) (.slice D t.e.length cd)
 have hx1:=idxT1 (.int .i64 s.c.c0) (.int .i64 s.c.c1) (.int .i64 s.c.c2) (.int .i64 s.c.c3) (.slice A s.c.l.length ca) (.slice C s.e.length cc) (.int .i64 t.c.c0) (.int .i64 t.c.c1) (.int .i64 t.c.c2) (.int .i64 t.c.c3) (.slice B t.c.l.length cb) (.slice D t.e.length cd)
 have hHst:Hid (TbP P w s A ca C cc∧TbP P w t B cb D cd):=⟨hs,ht⟩
 clear hs ht
 go_enter Tryz.func28,Tryz.ntmps28
 go_wp2
 obtain ⟨wa,hwa⟩:∃W,w.alloc (.cells #[.int .i64 s.c.c0,.int .i64 s.c.c1,.int .i64 s.c.c2,.int .i64 s.c.c3,.slice A s.c.l.length ca,.slice C s.e.length cc,.int .i64 t.c.c0,.int .i64 t.c.c1,.int .i64 t.c.c2,.int .i64 t.c.c3,.slice B t.c.l.length cb,.slice D t.e.length cd] 38)=W:=⟨_,rfl⟩
 rw[hwa]
 have hga:Gr w wa:=by rw[←hwa];exact (Gr.refl w).alloc _
 have hsa:wa.heap.size=w.heap.size+1:=by rw[←hwa];simp
 clear hwa
 obtain ⟨w1,hw1⟩:∃W,(wa.alloc (.cells #[.slice none 0 0,.slice none 0 0] 72)).alloc (.cells #[.slice none 0 0,.slice none 0 0] 72)=W:=⟨_,rfl⟩
 rw[hw1]
 have hHc:=two_cls wa 72 hw1 hsa
 have hg1:Gr w w1:=by rw[←hw1];exact (hga.alloc _).alloc _
 have hs1:w1.heap.size=w.heap.size+1+1+1:=by rw[←hw1];simp[hsa]
 have hO0:=of_new s A ca C cc (w1.alloc (.cells #[.int .i64 s.c.c0,.int .i64 s.c.c1,.int .i64 s.c.c2,.int .i64 s.c.c3,.slice A s.c.l.length ca,.slice C s.e.length cc] 37)) hHst.out.1.len.1 hHst.out.1.len.2 (hHst.out.1.row.gr (hg1.alloc _)) (hHst.out.1.cel.gr (hg1.alloc _))
 rw[hHst.out.1.ok] at hO0
 have hO:Hid _:=hO0
 have hH:Hid (Gr w w1∧Cls w1 (w.heap.size+1) [.slice none 0 0,.slice none 0 0]∧Cls w1 (w.heap.size+1+1) [.slice none 0 0,.slice none 0 0]∧w1.heap.size=w.heap.size+1+1+1):=⟨hg1,hHc.1,hHc.2,hs1⟩
 clear hO0 hg1 hs1 hHc hga hsa hw1
 refine wp_loop_rounds 3 ?_
 rw[rounds_succ]
 go_wp2_with fail
 refine Calls.mono (show Calls _ _ _ _ _ from hO.out) ?_
 rintro e w3 ⟨L,X,k,rfl,l1,l2,l3,l4,l5⟩
 have hb3:Below w1.heap.size w1 w3:=((Gr.refl w1).alloc _).below.trans (l4.mono (by simp))
 have hL3:=hH.out.2.2.1.below hb3
 have p0:=hL3.cell (j:=0) rfl
 have z0:=hL3.fz 0
 have hll:L.length≤maxLen:=ts_small l1 hHst.out.1.ok
 have hLP:Hid (LvP (fun b=>w1.heap.size≤b∧b<w3.heap.size) w3 X k L∧L.map Itm.z=ofR s):=⟨(LvP.new ⟨l2,l3,hll⟩ l5).mono fun b hb=>⟨Nat.le_trans (by simp) hb.1,hb.2⟩,l1⟩
 have hR3:Hid (Cls w3 (w.heap.size+1) [.slice none 0 0,.slice none 0 0]∧Cls w3 (w.heap.size+1+1) [.slice none 0 0,.slice none 0 0]∧Below w1.heap.size w1 w3):=⟨hH.out.2.1.below hb3,hL3,hb3⟩
 clear l1 l2 l3 l4 l5 hO hb3 hL3 hll
 go_wp2
 clear p0 z0
 obtain ⟨w4,hw4⟩:∃W,w3.setCell ⟨w.heap.size+1+1,0,none⟩ (.slice X L.length k)=W:=⟨_,rfl⟩
 rw[hw4]
 have hs4:w4.heap.size=w3.heap.size:=by rw[←hw4];simp
 have h4:Hid (Cls w4 (w.heap.size+1) [.slice none 0 0,.slice none 0 0]∧Cls w4 (w.heap.size+1+1) [.slice X L.length k,.slice none 0 0]∧LvP (fun b=>w1.heap.size≤b∧b<w4.heap.size) w4 X k L∧Below w.heap.size w w4∧w1.heap.size≤w4.heap.size):=by
  have hs1:=hH.out.2.2.2
  have hb:=hH.out.1.below.trans (hR3.out.2.2.mono hH.out.1.size)
  refine ⟨?_,?_,?_,?_,?_⟩
  ·rw[←hw4];exact hR3.out.1.oth (by omega) _
  ·rw[←hw4];exact hR3.out.2.1.put 0 _
  ·rw[hs4,←hw4];exact hLP.out.1.agr (Agr.set _ fun h=>by omega)
  ·rw[←hw4];exact hb.setCell (by show _≤w.heap.size+1+1;omega) _
  ·rw[hs4];exact hR3.out.2.2.size
 clear hw4 hs4 hR3
 rw[rounds_succ]
 have hO0:=of_new t B cb D cd (w4.alloc (.cells #[.int .i64 t.c.c0,.int .i64 t.c.c1,.int .i64 t.c.c2,.int .i64 t.c.c3,.slice B t.c.l.length cb,.slice D t.e.length cd] 37)) hHst.out.2.len.1 hHst.out.2.len.2 ((hHst.out.2.row.below h4.out.2.2.2.1).gr ((Gr.refl _).alloc _)) ((hHst.out.2.cel.below h4.out.2.2.2.1).gr ((Gr.refl _).alloc _))
 rw[hHst.out.2.ok] at hO0
 have hO:Hid _:=hO0
 clear hO0
 go_wp2_with fail
 refine Calls.mono (show Calls _ _ _ _ _ from hO.out) ?_
 rintro e w5 ⟨M,Y,m,rfl,l1,l2,l3,l4,l5⟩
 have hb5:Below w4.heap.size w4 w5:=((Gr.refl w4).alloc _).below.trans (l4.mono (by simp))
 have hL5:=h4.out.2.1.below hb5
 have p0:=hL5.cell (j:=1) rfl
 have z0:=hL5.fz 1
 have hll:M.length≤maxLen:=ts_small l1 hHst.out.2.ok
 have hMP:Hid (LvP (fun b=>w1.heap.size≤b∧b<w5.heap.size) w5 X k L∧LvP (fun b=>w1.heap.size≤b∧b<w5.heap.size) w5 Y m M∧M.map Itm.z=ofR t):=⟨(h4.out.2.2.1.below hb5).mono fun b hb=>⟨hb.1,Nat.lt_of_lt_of_le hb.2 hb5.size⟩,(LvP.new ⟨l2,l3,hll⟩ l5).mono fun b hb=>⟨Nat.le_trans h4.out.2.2.2.2 (Nat.le_trans (by simp) hb.1),hb.2⟩,l1⟩
 have hR5:Hid (Cls w5 (w.heap.size+1) [.slice none 0 0,.slice none 0 0]∧Cls w5 (w.heap.size+1+1) [.slice X L.length k,.slice none 0 0]∧Below w.heap.size w w5):=⟨h4.out.1.below hb5,hL5,h4.out.2.2.2.1.trans (hb5.mono h4.out.2.2.2.1.size)⟩
 clear l1 l2 l3 l4 l5 hO hb5 hL5 hll
 go_wp2
 clear p0 z0
 obtain ⟨w6,hw6⟩:∃W,w5.setCell ⟨w.heap.size+1+1,1,none⟩ (.slice Y M.length m)=W:=⟨_,rfl⟩
 rw[hw6]
 have hs6:w6.heap.size=w5.heap.size:=by rw[←hw6];simp
 have h6:Hid (Cls w6 (w.heap.size+1) [.slice none 0 0,.slice none 0 0]∧Cls w6 (w.heap.size+1+1) [.slice X L.length k,.slice Y M.length m]∧LvP (fun b=>w1.heap.size≤b∧b<w6.heap.size) w6 X k L∧LvP (fun b=>w1.heap.size≤b∧b<w6.heap.size) w6 Y m M∧Below w.heap.size w w6):=by
  have hs1:=hH.out.2.2.2
  refine ⟨?_,?_,?_,?_,?_⟩
  ·rw[←hw6];exact hR5.out.1.oth (by omega) _
  ·rw[←hw6];exact hR5.out.2.1.put 1 _
  ·rw[hs6,←hw6];exact hMP.out.1.agr (Agr.set _ fun h=>by omega)
  ·rw[hs6,←hw6];exact hMP.out.2.1.agr (Agr.set _ fun h=>by omega)
  ·rw[←hw6];exact hR5.out.2.2.setCell (by show _≤w.heap.size+1+1;omega) _
 clear hw6 hs6 hR5
 rw[rounds_succ]
 have q0:=h6.out.2.1.cell (j:=0) rfl
 have q1:=h6.out.2.1.cell (j:=1) rfl
 have r0:=h6.out.1.cell (j:=0) rfl
 have r1:=h6.out.1.cell (j:=1) rfl
 have z0:=h6.out.1.fz 0
 have z1:=h6.out.1.fz 1
 go_wp2
 have hs1:=hH.out.2.2.2
 have hge:w.heap.size≤w.heap.size+1:=by omega
 refine bodyPost_ret (v:= .agg #[.slice X L.length k,.slice Y M.length m]) (by simp[results,Tryz.results28,go_sem,r0,r1]) rfl ⟨L,M,X,Y,k,m,rfl,hLP.out.2,hMP.out.2.2,?_,?_,(h6.out.2.2.2.2.setCell hge _).setCell hge _⟩
 ·exact ((h6.out.2.2.1.agr (Agr.set _ fun h=>by omega)).agr (Agr.set _ fun h=>by omega)).mono fun b hb=>⟨by omega,by simpa using hb.2⟩
 ·exact ((h6.out.2.2.2.1.agr (Agr.set _ fun h=>by omega)).agr (Agr.set _ fun h=>by omega)).mono fun b hb=>⟨by omega,by simpa using hb.2⟩
/-- now less before, of both. -/
theorem negD_any {W:World} {A:Option Addr} {c:Nat} {l:List Itm} (h:Lv W A c l) (hz:TS (l.map Itm.z)) :
  Calls Tryz.prog 67 #[.slice A l.length c] W fun e w'=>∃(L:List Itm) (C:Option Addr) (k:Nat),e= .returned (.tuple #[.slice C L.length k,.int .i64 0])∧L.map Itm.z=negL (l.map Itm.z)∧Lv w' C k L∧Below W.heap.size W w':=by
 have:=negV h rfl
 rw[hz.ok] at this
 exact this
set_option maxRecDepth 100000 in
set_option maxHeartbeats 2000000 in
theorem difference_any (a b c d:List Itm) (A B C D:Option Addr) (ca cb cc cd:Nat) (w:World) (ha:Lv w A ca a) (hb:Lv w B cb b) (hc:Lv w C cc c) (hd:Lv w D cd d) (ta:TS (a.map Itm.z)) (tb:TS (b.map Itm.z)) (tc:TS (c.map Itm.z)) (td:TS (d.map Itm.z)) :
  Calls Tryz.prog 42 #[.agg #[.slice A a.length ca,.slice B b.length cb],.agg #[.slice C c.length cc,.slice D d.length cd]] w fun e w'=>∃(L M:List Itm) (X Y:Option Addr) (k m:Nat),e= .returned (.agg #[.slice X L.length k,.slice Y M.length m])∧L.map Itm.z=difL (a.map Itm.z) (c.map Itm.z)∧M.map Itm.z=difL (b.map Itm.z) (d.map Itm.z)∧LvP (fun b=>w.heap.size≤b∧b<w'.heap.size) w' X k L∧LvP (fun b=>w.heap.size≤b∧b<w'.heap.size) w' Y m M∧Below w.heap.size w w':=by
 have hHst:Hid (Lv w A ca a∧Lv w B cb b∧Lv w C cc c∧Lv w D cd d∧TS (a.map Itm.z)∧TS (b.map Itm.z)∧TS (c.map Itm.z)∧TS (d.map Itm.z)):=⟨ha,hb,hc,hd,ta,tb,tc,td⟩
 clear ha hb hc hd ta tb tc td
 go_enter Tryz.func42,Tryz.ntmps42
 go_wp2
 obtain ⟨wa,hwa⟩:∃W,(w.alloc (.cells #[.slice A a.length ca,.slice B b.length cb] 72)).alloc (.cells #[.slice C c.length cc,.slice D d.length cd] 72)=W:=⟨_,rfl⟩
 rw[hwa]
 have hga:Gr w wa:=by rw[←hwa];exact ((Gr.refl w).alloc _).alloc _
 have hsa:wa.heap.size=w.heap.size+1+1:=by rw[←hwa];simp
 have hN:Cls wa w.heap.size [.slice A a.length ca,.slice B b.length cb]:=by rw[←hwa];exact (Cls.new w _ _).gr ((Gr.refl _).alloc _)
 have hO:Cls wa (w.heap.size+1) [.slice C c.length cc,.slice D d.length cd]:=by
  have:=Cls.new (w.alloc (.cells #[.slice A a.length ca,.slice B b.length cb] 72)) #[.slice C c.length cc,.slice D d.length cd] 72
  rw[hwa,show (w.alloc (.cells #[.slice A a.length ca,.slice B b.length cb] 72)).heap.size=w.heap.size+1 by simp] at this
  exact this
 clear hwa
 obtain ⟨w1,hw1⟩:∃W,(wa.alloc (.cells #[.slice none 0 0,.slice none 0 0] 72)).alloc (.cells #[.slice none 0 0,.slice none 0 0] 72)=W:=⟨_,rfl⟩
 rw[hw1]
 have hHc:=two_cls wa 72 hw1 hsa
 have hga1:Gr wa w1:=by rw[←hw1];exact ((Gr.refl _).alloc _).alloc _
 have hg1:Gr w w1:=hga.trans hga1
 have hs1:w1.heap.size=w.heap.size+1+1+1+1:=by rw[←hw1];simp[hsa]
 have hH:Hid (Gr w w1∧Cls w1 w.heap.size [.slice A a.length ca,.slice B b.length cb]∧Cls w1 (w.heap.size+1) [.slice C c.length cc,.slice D d.length cd]∧Cls w1 (w.heap.size+1+1) [.slice none 0 0,.slice none 0 0]∧Cls w1 (w.heap.size+1+1+1) [.slice none 0 0,.slice none 0 0]∧w1.heap.size=w.heap.size+1+1+1+1):=⟨hg1,hN.gr hga1,hO.gr hga1,hHc.1,hHc.2,hs1⟩
 clear hg1 hs1 hHc hga hsa hw1 hN hO hga1
 have q0:=hH.out.2.1.cell (j:=0) rfl
 have q1:=hH.out.2.2.1.cell (j:=0) rfl
 refine wp_loop_rounds 3 ?_
 rw[rounds_succ]
 have hC0:=negD_any (hHst.out.2.2.1.gr hH.out.1) hHst.out.2.2.2.2.2.2.1
 have hC:Hid _:=hC0
 clear hC0
 go_wp2_with fail
 clear q0 q1
 refine Calls.mono (show Calls _ _ _ _ _ from hC.out) ?_
 rintro e w2 ⟨T,TA,tk,rfl,t1,t2,t3⟩
 have hT:Hid (Lv w2 TA tk T∧T.map Itm.z=negL (c.map Itm.z)∧Below w1.heap.size w1 w2):=⟨t2,t1,t3⟩
 clear t1 t2 t3 hC
 have q0:=(hH.out.2.1.below hT.out.2.2).cell (j:=0) rfl
 have hC0:=nsum_any ((hHst.out.1.gr hH.out.1).below hT.out.2.2) hT.out.1 (m:=difL (a.map Itm.z) (c.map Itm.z)) (by rw[hT.out.2.1];exact (add_minus hHst.out.2.2.2.2.1 hHst.out.2.2.2.2.2.2.1).2)
 have hC:Hid _:=hC0
 clear hC0
 go_wp2_with fail
 clear q0
 refine Calls.mono (show Calls _ _ _ _ _ from hC.out) ?_
 rintro e w3 ⟨L,X,k,rfl,l1,l2,l3⟩
 have hb3:Below w1.heap.size w1 w3:=hT.out.2.2.trans (l3.mono hT.out.2.2.size)
 have hL3:=hH.out.2.2.2.2.1.below hb3
 have p0:=hL3.cell (j:=0) rfl
 have z0:=hL3.fz 0
 have hLP:Hid (LvP (fun b=>w1.heap.size≤b∧b<w3.heap.size) w3 X k L∧L.map Itm.z=difL (a.map Itm.z) (c.map Itm.z)):=⟨l2.mono fun b hb=>⟨Nat.le_trans hT.out.2.2.size hb.1,hb.2⟩,l1⟩
 have hR3:Hid (Below w1.heap.size w1 w3):=hb3
 clear l1 l2 l3 hC hb3 hL3
 go_wp2
 clear p0 z0
 obtain ⟨w4,hw4⟩:∃W,w3.setCell ⟨w.heap.size+1+1+1,0,none⟩ (.slice X L.length k)=W:=⟨_,rfl⟩
 rw[hw4]
 have hs4:w4.heap.size=w3.heap.size:=by rw[←hw4];simp
 have h4:Hid (Cls w4 w.heap.size [.slice A a.length ca,.slice B b.length cb]∧Cls w4 (w.heap.size+1) [.slice C c.length cc,.slice D d.length cd]∧Cls w4 (w.heap.size+1+1) [.slice none 0 0,.slice none 0 0]∧Cls w4 (w.heap.size+1+1+1) [.slice X L.length k,.slice none 0 0]∧LvP (fun b=>w1.heap.size≤b∧b<w4.heap.size) w4 X k L∧Below w.heap.size w w4∧w1.heap.size≤w4.heap.size):=by
  have hs1:=hH.out.2.2.2.2.2
  have hb:=hH.out.1.below.trans (hR3.out.mono hH.out.1.size)
  refine ⟨?_,?_,?_,?_,?_,?_,?_⟩
  ·rw[←hw4];exact (hH.out.2.1.below hR3.out).oth (by omega) _
  ·rw[←hw4];exact (hH.out.2.2.1.below hR3.out).oth (by omega) _
  ·rw[←hw4];exact (hH.out.2.2.2.1.below hR3.out).oth (by omega) _
  ·rw[←hw4];exact (hH.out.2.2.2.2.1.below hR3.out).put 0 _
  ·rw[hs4,←hw4];exact hLP.out.1.agr (Agr.set _ fun h=>by omega)
  ·rw[←hw4];exact hb.setCell (by show _≤w.heap.size+1+1+1;omega) _
  ·rw[hs4];exact hR3.out.size
 clear hw4 hs4 hR3 hT
 rw[rounds_succ]
 have q0:=h4.out.1.cell (j:=1) rfl
 have q1:=h4.out.2.1.cell (j:=1) rfl
 have hC0:=negD_any (hHst.out.2.2.2.1.below h4.out.2.2.2.2.2.1) hHst.out.2.2.2.2.2.2.2
 have hC:Hid _:=hC0
 clear hC0
 go_wp2_with fail
 clear q0 q1
 refine Calls.mono (show Calls _ _ _ _ _ from hC.out) ?_
 rintro e w5 ⟨U,UA,uk,rfl,t1,t2,t3⟩
 have hT:Hid (Lv w5 UA uk U∧U.map Itm.z=negL (d.map Itm.z)∧Below w4.heap.size w4 w5):=⟨t2,t1,t3⟩
 clear t1 t2 t3 hC
 have q0:=(h4.out.1.below hT.out.2.2).cell (j:=1) rfl
 have hC0:=nsum_any ((hHst.out.2.1.below h4.out.2.2.2.2.2.1).below hT.out.2.2) hT.out.1 (m:=difL (b.map Itm.z) (d.map Itm.z)) (by rw[hT.out.2.1];exact (add_minus hHst.out.2.2.2.2.2.1 hHst.out.2.2.2.2.2.2.2).2)
 have hC:Hid _:=hC0
 clear hC0
 go_wp2_with fail
 clear q0
 refine Calls.mono (show Calls _ _ _ _ _ from hC.out) ?_
 rintro e w6 ⟨M,Y,m,rfl,l1,l2,l3⟩
 have hb6:Below w4.heap.size w4 w6:=hT.out.2.2.trans (l3.mono hT.out.2.2.size)
 have hL6:=h4.out.2.2.2.1.below hb6
 have p0:=hL6.cell (j:=1) rfl
 have z0:=hL6.fz 1
 have hMP:Hid (LvP (fun b=>w1.heap.size≤b∧b<w6.heap.size) w6 X k L∧LvP (fun b=>w1.heap.size≤b∧b<w6.heap.size) w6 Y m M∧M.map Itm.z=difL (b.map Itm.z) (d.map Itm.z)):=⟨(h4.out.2.2.2.2.1.below hb6).mono fun b hb=>⟨hb.1,Nat.lt_of_lt_of_le hb.2 hb6.size⟩,l2.mono fun b hb=>⟨Nat.le_trans h4.out.2.2.2.2.2.2 (Nat.le_trans hT.out.2.2.size hb.1),hb.2⟩,l1⟩
 have hR6:Hid (Cls w6 (w.heap.size+1+1) [.slice none 0 0,.slice none 0 0]∧Cls w6 (w.heap.size+1+1+1) [.slice X L.length k,.slice none 0 0]∧Below w.heap.size w w6):=⟨h4.out.2.2.1.below hb6,hL6,h4.out.2.2.2.2.2.1.trans (hb6.mono h4.out.2.2.2.2.2.1.size)⟩
 clear l1 l2 l3 hC hb6 hL6
 go_wp2
 clear p0 z0
 obtain ⟨w7,hw7⟩:∃W,w6.setCell ⟨w.heap.size+1+1+1,1,none⟩ (.slice Y M.length m)=W:=⟨_,rfl⟩
 rw[hw7]
 have hs7:w7.heap.size=w6.heap.size:=by rw[←hw7];simp
 have h7:Hid (Cls w7 (w.heap.size+1+1) [.slice none 0 0,.slice none 0 0]∧Cls w7 (w.heap.size+1+1+1) [.slice X L.length k,.slice Y M.length m]∧LvP (fun b=>w1.heap.size≤b∧b<w7.heap.size) w7 X k L∧LvP (fun b=>w1.heap.size≤b∧b<w7.heap.size) w7 Y m M∧Below w.heap.size w w7):=by
  have hs1:=hH.out.2.2.2.2.2
  refine ⟨?_,?_,?_,?_,?_⟩
  ·rw[←hw7];exact hR6.out.1.oth (by omega) _
  ·rw[←hw7];exact hR6.out.2.1.put 1 _
  ·rw[hs7,←hw7];exact hMP.out.1.agr (Agr.set _ fun h=>by omega)
  ·rw[hs7,←hw7];exact hMP.out.2.1.agr (Agr.set _ fun h=>by omega)
  ·rw[←hw7];exact hR6.out.2.2.setCell (by show _≤w.heap.size+1+1+1;omega) _
 clear hw7 hs7 hR6 hT
 rw[rounds_succ]
 have q0:=h7.out.2.1.cell (j:=0) rfl
 have q1:=h7.out.2.1.cell (j:=1) rfl
 have r0:=h7.out.1.cell (j:=0) rfl
 have r1:=h7.out.1.cell (j:=1) rfl
 have z0:=h7.out.1.fz 0
 have z1:=h7.out.1.fz 1
 go_wp2
 have hs1:=hH.out.2.2.2.2.2
 have hge:w.heap.size≤w.heap.size+1+1:=by omega
 refine bodyPost_ret (v:= .agg #[.slice X L.length k,.slice Y M.length m]) (by simp[results,Tryz.results42,go_sem,r0,r1]) rfl ⟨L,M,X,Y,k,m,rfl,hLP.out.2,hMP.out.2.2,?_,?_,(h7.out.2.2.2.2.setCell hge _).setCell hge _⟩
 ·exact ((h7.out.2.2.1.agr (Agr.set _ fun h=>by omega)).agr (Agr.set _ fun h=>by omega)).mono fun b hb=>⟨by omega,by simpa using hb.2⟩
 ·exact ((h7.out.2.2.2.1.agr (Agr.set _ fun h=>by omega)).agr (Agr.set _ fun h=>by omega)).mono fun b hb=>⟨by omega,by simpa using hb.2⟩
end Go.Proofs.YtkadjjmkokhldaaGreat

namespace Go.Proofs.YtkadjjmkokhldaaGreat
open Go.RowKit Go.Sort

theorem Vo.mono {w:World} {V o:Nat} {P P':Nat→Prop} {q:List Stp} {QA:Option Addr} {cq:Nat} {a:List Itm} {A:Option Addr} {ca:Nat} {b:List Itm} {B:Option Addr} {cb:Nat} (h:Vo w V o P q QA cq a A ca b B cb) (k:∀b,P b→P' b):Vo w V o P' q QA cq a A ca b B cb :=
 ⟨h.lt,h.fz,h.c0,h.c1,h.c2,h.st.mono k,h.len,h.la.mono k,h.lb.mono k⟩
theorem Vo.set {w:World} {V o:Nat} {P:Nat→Prop} {q:List Stp} {QA:Option Addr} {cq:Nat} {a:List Itm} {A:Option Addr} {ca:Nat} {b:List Itm} {B:Option Addr} {cb:Nat} (h:Vo w V o P q QA cq a A ca b B cb) (hV:¬P V) {j:Nat} (hj:o+3≤j) (v:Value):Vo (w.setCell ⟨V,j,none⟩ v) V o P q QA cq a A ca b B cb :=
 have hA:Agr P w (w.setCell ⟨V,j,none⟩ v):=Agr.set v hV
 ⟨by simpa using h.lt,fun j=>by simpa using h.fz j,by rw[cell_oth (by omega)];exact h.c0,by rw[cell_oth (by omega)];exact h.c1,by rw[cell_oth (by omega)];exact h.c2,h.st.agr hA,h.len,h.la.agr hA,h.lb.agr hA⟩
/-- A node's view in memory. -/
structure Vm (w:World) (V o:Nat) (P:Nat→Prop) (q:List Stp) (QA:Option Addr) (cq:Nat) (a:List Itm) (A:Option Addr) (ca:Nat) (b:List Itm) (B:Option Addr) (cb:Nat) (x:List Itm) (X:Option Addr) (cx:Nat) (y:List Itm) (Y:Option Addr) (cy:Nat) (e:Int):Prop where
 vo:Vo w V o P q QA cq a A ca b B cb
 c3:w.cell? ⟨V,o+3,none⟩=some (.slice X x.length cx)
 c4:w.cell? ⟨V,o+4,none⟩=some (.slice Y y.length cy)
 c5:w.cell? ⟨V,o+5,none⟩=some (.int .i64 e)
 lx:LvP P w X cx x
 ly:LvP P w Y cy y
section
variable {w w':World} {V o:Nat} {P P':Nat→Prop} {q:List Stp} {QA:Option Addr} {cq:Nat} {a:List Itm} {A:Option Addr} {ca:Nat} {b:List Itm} {B:Option Addr} {cb:Nat} {x:List Itm} {X:Option Addr} {cx:Nat} {y:List Itm} {Y:Option Addr} {cy:Nat} {e:Int}
theorem Vm.below (h:Vm w V o P q QA cq a A ca b B cb x X cx y Y cy e) (k:Below w.heap.size w w'):Vm w' V o P q QA cq a A ca b B cb x X cx y Y cy e :=
 ⟨h.vo.below k,(k.cell (p:=⟨V,o+3,none⟩) h.vo.lt).trans h.c3,(k.cell (p:=⟨V,o+4,none⟩) h.vo.lt).trans h.c4,(k.cell (p:=⟨V,o+5,none⟩) h.vo.lt).trans h.c5,h.lx.below k,h.ly.below k⟩
theorem Vm.mono (h:Vm w V o P q QA cq a A ca b B cb x X cx y Y cy e) (k:∀b,P b→P' b):Vm w V o P' q QA cq a A ca b B cb x X cx y Y cy e :=
 ⟨h.vo.mono k,h.c3,h.c4,h.c5,h.lx.mono k,h.ly.mono k⟩
theorem Vm.set3 (h:Vm w V o P q QA cq a A ca b B cb x X cx y Y cy e) (hV:¬P V) {x':List Itm} {X':Option Addr} {cx':Nat} (hx:LvP P w X' cx' x'):Vm (w.setCell ⟨V,o+3,none⟩ (.slice X' x'.length cx')) V o P q QA cq a A ca b B cb x' X' cx' y Y cy e :=
 ⟨h.vo.set hV (by omega) _,World.cell?_setCell_same _ _ _ h.c3,by rw[cell_oth (by omega)];exact h.c4,by rw[cell_oth (by omega)];exact h.c5,hx.agr (Agr.set _ hV),h.ly.agr (Agr.set _ hV)⟩
theorem Vm.set4 (h:Vm w V o P q QA cq a A ca b B cb x X cx y Y cy e) (hV:¬P V) {y':List Itm} {Y':Option Addr} {cy':Nat} (hy:LvP P w Y' cy' y'):Vm (w.setCell ⟨V,o+4,none⟩ (.slice Y' y'.length cy')) V o P q QA cq a A ca b B cb x X cx y' Y' cy' e :=
 ⟨h.vo.set hV (by omega) _,by rw[cell_oth (by omega)];exact h.c3,World.cell?_setCell_same _ _ _ h.c4,by rw[cell_oth (by omega)];exact h.c5,h.lx.agr (Agr.set _ hV),hy.agr (Agr.set _ hV)⟩
theorem Vm.set5 (h:Vm w V o P q QA cq a A ca b B cb x X cx y Y cy e) (hV:¬P V) (e':Int):Vm (w.setCell ⟨V,o+5,none⟩ (.int .i64 e')) V o P q QA cq a A ca b B cb x X cx y Y cy e' :=
 ⟨h.vo.set hV (by omega) _,by rw[cell_oth (by omega)];exact h.c3,by rw[cell_oth (by omega)];exact h.c4,World.cell?_setCell_same _ _ _ h.c5,h.lx.agr (Agr.set _ hV),h.ly.agr (Agr.set _ hV)⟩
end
/-- A view of the query q: what it keeps (k, l), what it has missed (m, n), its error. -/
def VwM (w:World) (V o:Nat) (P:Nat→Prop) (q:List Stp) (k l m n:List Zit) (e:Int):Prop :=
 ∃(q':List Stp) (QA:Option Addr) (cq:Nat) (a:List Itm) (A:Option Addr) (ca:Nat) (b:List Itm) (B:Option Addr) (cb:Nat) (x:List Itm) (X:Option Addr) (cx:Nat) (y:List Itm) (Y:Option Addr) (cy:Nat),
  Vm w V o P q' QA cq a A ca b B cb x X cx y Y cy e∧q'.map bare=q.map bare∧a.map Itm.z=k∧b.map Itm.z=l∧x.map Itm.z=m∧y.map Itm.z=n
theorem VwM.below {w w':World} {V o:Nat} {P:Nat→Prop} {q:List Stp} {k l m n:List Zit} {e:Int} (h:VwM w V o P q k l m n e) (g:Below w.heap.size w w'):VwM w' V o P q k l m n e:=by
 obtain ⟨q',QA,cq,a,A,ca,b,B,cb,x,X,cx,y,Y,cy,h1,h2⟩:=h
 exact ⟨q',QA,cq,a,A,ca,b,B,cb,x,X,cx,y,Y,cy,h1.below g,h2⟩
theorem VwM.mono {w:World} {V o:Nat} {P P':Nat→Prop} {q:List Stp} {k l m n:List Zit} {e:Int} (h:VwM w V o P q k l m n e) (g:∀b,P b→P' b):VwM w V o P' q k l m n e:=by
 obtain ⟨q',QA,cq,a,A,ca,b,B,cb,x,X,cx,y,Y,cy,h1,h2⟩:=h
 exact ⟨q',QA,cq,a,A,ca,b,B,cb,x,X,cx,y,Y,cy,h1.mono g,h2⟩
/-- All that a view reads is as it was. -/
theorem VwM.keep {w w':World} {V o:Nat} {P:Nat→Prop} {q:List Stp} {k l m n:List Zit} {e:Int} (h:VwM w V o P q k l m n e) (hA:Agr P w w') (hl:V<w'.heap.size) (hf:∀j,w'.frozen? ⟨V,j,none⟩=false) (hc:∀j,o≤j→j<o+6→w'.cell? ⟨V,j,none⟩=w.cell? ⟨V,j,none⟩):VwM w' V o P q k l m n e:=by
 obtain ⟨q',QA,cq,a,A,ca,b,B,cb,x,X,cx,y,Y,cy,h1,h2⟩:=h
 exact ⟨q',QA,cq,a,A,ca,b,B,cb,x,X,cx,y,Y,cy,⟨⟨hl,hf,(hc o (by omega) (by omega)).trans h1.vo.c0,(hc (o+1) (by omega) (by omega)).trans h1.vo.c1,(hc (o+2) (by omega) (by omega)).trans h1.vo.c2,h1.vo.st.agr hA,h1.vo.len,h1.vo.la.agr hA,h1.vo.lb.agr hA⟩,(hc (o+3) (by omega) (by omega)).trans h1.c3,(hc (o+4) (by omega) (by omega)).trans h1.c4,(hc (o+5) (by omega) (by omega)).trans h1.c5,h1.lx.agr hA,h1.ly.agr hA⟩,h2⟩
/-- A view of the query q over the sets z and y. -/
def VwN (w:World) (V o:Nat) (P:Nat→Prop) (q:List Stp) (z y:List Zit):Prop :=
 ∃k l,VwM w V o P q k l (difL z k) (difL y l) (plnE q z y)∧TS k∧TS l∧(plnE q z y=0→k=z∧l=y)
theorem VwN.mono {w:World} {V o:Nat} {P P':Nat→Prop} {q:List Stp} {z y:List Zit} (h:VwN w V o P q z y) (g:∀b,P b→P' b):VwN w V o P' q z y:=by
 obtain ⟨k,l,h1,h2⟩:=h
 exact ⟨k,l,h1.mono g,h2⟩
theorem VwN.keep {w w':World} {V o:Nat} {P:Nat→Prop} {q:List Stp} {z y:List Zit} (h:VwN w V o P q z y) (hA:Agr P w w') (hl:V<w'.heap.size) (hf:∀j,w'.frozen? ⟨V,j,none⟩=false) (hc:∀j,o≤j→j<o+6→w'.cell? ⟨V,j,none⟩=w.cell? ⟨V,j,none⟩):VwN w' V o P q z y:=by
 obtain ⟨k,l,h1,h2⟩:=h
 exact ⟨k,l,h1.keep hA hl hf hc,h2⟩
end Go.Proofs.YtkadjjmkokhldaaGreat

namespace Go.Proofs.YtkadjjmkokhldaaGreat
open Go.RowKit Go.Sort

/-- What Feed leaves of a node's view. -/
theorem turn_fed {w w5 w6:World} {V o:Nat} {P:Nat→Prop} {q:List Stp} {QA:Option Addr} {cq:Nat} {a a':List Itm} {A A':Option Addr} {ca ca':Nat} {b b':List Itm} {B B':Option Addr} {cb cb':Nat} {x:List Itm} {X:Option Addr} {cx:Nat} {y:List Itm} {Y:Option Addr} {cy:Nat} {e:Int} {k l:List Zit} {T:TypeId} {n:Nat} (hB:Blk w V T n) (h:Vm w5 V o (plusP P w.heap.size w5.heap.size) q QA cq a A ca b B cb x X cx y Y cy e) (hw:Wr V o (o+6) w w5) (hlt:V<w.heap.size) (hV:¬P V) (f1:a'.map Itm.z=k) (f2:b'.map Itm.z=l) (f3:Vo w6 V o (plusP (plusP P w.heap.size w5.heap.size) w5.drew.heap.size w6.heap.size) q QA cq a' A' ca' b' B' cb') (f4:Wr V (o+1) (o+3) w5.drew w6) :
  a'.map Itm.z=k∧b'.map Itm.z=l∧Vm w6 V o (plusP P w.heap.size w6.heap.size) q QA cq a' A' ca' b' B' cb' x X cx y Y cy e∧Wr V o (o+6) w w6:=by
 have hs:w5.heap.size≤w6.heap.size:=f4.size
 have hPV:¬plusP P w.heap.size w5.heap.size V:=fun k=>k.elim hV fun k=>by omega
 have hA:Agr (plusP P w.heap.size w5.heap.size) w5 w6:=(Agr.of (Gr.refl w5).drew.below).trans (f4.agr hPV)
 have hm:=plusP.more (P:=P) (m:=w.heap.size) (n:=w5.heap.size) (Nat.le_refl w.heap.size) hs
 have hc:∀j,o+3≤j→w6.cell? ⟨V,j,none⟩=w5.cell? ⟨V,j,none⟩:=fun j hj=>by
  have hb5:Blk w5.drew V T n:=hw.block hB
  exact f4.cell hb5 (Or.inr hj)
 exact ⟨f1,f2,⟨f3.mono (fun b hb=>plusP.two hw.size hs b hb),(hc _ (by omega)).trans h.c3,(hc _ (by omega)).trans h.c4,(hc _ (by omega)).trans h.c5,(h.lx.agr hA).mono hm,(h.ly.agr hA).mono hm⟩,hw.trans ((Wr.of (Gr.refl w5).drew.below h.vo.lt).trans (f4.mono (by omega) (by omega)))⟩
set_option maxRecDepth 100000 in
set_option maxHeartbeats 4000000 in
theorem turn_any {w:World} {V o:Nat} {P Q:Nat→Prop} {q:List Stp} {k l z y z' y':List Zit} {e0:Int} {T:TypeId} {nB:Nat} (hBk:Blk w V T nB) (hV:¬P V) (hQ:¬Q V) (h:VwM w V o P q k l (difL z k) (difL y l) e0) (hk:TS k) (hl:TS l) (hz:TS z) (hy:TS y) (hz':TS z') (hy':TS y') {m n:List Itm} {M N:Option Addr} {cm cn:Nat} (hm:LvP Q w M cm m) (hn:LvP Q w N cn n) (em:m.map Itm.z=difL z' z) (en:n.map Itm.z=difL y' y) :
  Calls Tryz.prog 27 #[.pointer (some ⟨V,o,none⟩),.agg #[.slice M m.length cm,.slice N n.length cn]] w fun e w'=>e= .returned (.tuple #[])∧VwN w' V o (plusP P w.heap.size w'.heap.size) q z' y'∧Wr V o (o+6) w w':=by
 obtain ⟨q',QA,cq,a,A,ca,b,B,cb,x,X,cx,u,U,cu,h1,hq,ha,hb,hx,hu⟩:=h
 have hi0:=idxS0 (.slice M m.length cm) (.slice N n.length cn)
 have hi1:=idxS1 (.slice M m.length cm) (.slice N n.length cn)
 have mixed:Tryz.prog.follows .mixedOrders=true:=by kernel_rfl
 have hT:Hid (TS k∧TS l∧TS z∧TS y∧TS z'∧TS y'):=⟨hk,hl,hz,hy,hz',hy'⟩
 have hE:Hid (q'.map bare=q.map bare∧a.map Itm.z=k∧b.map Itm.z=l∧m.map Itm.z=difL z' z∧n.map Itm.z=difL y' y∧x.map Itm.z=difL z k∧u.map Itm.z=difL y l):=⟨hq,ha,hb,em,en,hx,hu⟩
 have hP:Hid (¬P V∧¬Q V):=⟨hV,hQ⟩
 have hBH:Hid (Blk w V T nB):=hBk
 clear hBk
 obtain ⟨w1,hw1⟩:∃W,(w.alloc (.cells #[.slice M m.length cm,.slice N n.length cn] 72))=W:=⟨_,rfl⟩
 have s0:w1.cell? ⟨w.heap.size,0,none⟩=some (.slice M m.length cm):=by rw[←hw1];exact box1 (w:=w) (Gr.refl _) rfl
 have s1:w1.cell? ⟨w.heap.size,1,none⟩=some (.slice N n.length cn):=by rw[←hw1];exact box1 (w:=w) (Gr.refl _) rfl
 have hb1:Below w.heap.size w w1:=by rw[←hw1];exact ((Gr.refl w).alloc _).below
 have hH:Hid (Vm w1 V o P q' QA cq a A ca b B cb x X cx u U cu e0∧LvP Q w1 M cm m∧LvP Q w1 N cn n∧Below w.heap.size w w1∧V<w.heap.size):=⟨h1.below hb1,hm.below hb1,hn.below hb1,hb1,h1.vo.lt⟩
 have c3:=hH.out.1.c3
 have hS0:Hid (∀W,Gr w1 W→Calls Tryz.prog 45 #[.slice X x.length cx,.slice M m.length cm] W fun e w'=>∃(L:List Itm) (C:Option Addr) (k':Nat),e= .returned (.slice C L.length k')∧L.map Itm.z=difL z' k∧LvP (fun b=>W.heap.size≤b∧b<w'.heap.size) w' C k' L∧Below W.heap.size W w'):=fun W hg=>nsum_any (hH.out.1.lx.lv.gr hg) (hH.out.2.1.lv.gr hg) (by rw[hx,em];exact (add_missed hk hz hz').2)
 clear h1 hm hn hb1 hk hl hz hy hz' hy' hq ha hb em en hx hu hV hQ
 go_enter Tryz.func27,Tryz.ntmps27
 go_wp2
 clear hw1 s0 s1
 refine wp_loop_rounds 3 ?_
 rw[rounds_succ]
 go_wp2
 go_region_with (go_at_call 45;refine Calls.mono (hS0.out _ (Gr.refl w1).drew) ?_;rintro e w2 ⟨L,C,k',rfl,h1,h2,h3⟩;have hb2:Below w1.heap.size w1 w2:=(Gr.refl w1).drew.below.trans h3;have hHH:Hid (Below w1.heap.size w1 w2∧LvP (fun b=>w1.heap.size≤b∧b<w2.heap.size) w2 C k' L∧L.map Itm.z=difL z' k):=⟨hb2,h2,h1⟩;clear h1 h2 h3;have p0:=(hH.out.1.below hb2).c3;have z0:=(hH.out.1.below hb2).vo.fz (o+3);clear hb2)
 clear p0 z0 c3 hS0 hi0
 obtain ⟨w3,hw3⟩:∃W,w2.setCell ⟨V,o+3,none⟩ (.slice C L.length k')=W:=⟨_,rfl⟩
 rw[hw3]
 have h3:Hid (Vm w3 V o (plusP P w.heap.size w3.heap.size) q' QA cq a A ca b B cb L C k' u U cu e0∧L.map Itm.z=difL z' k∧Wr V o (o+6) w w3∧LvP Q w3 N cn n):=by
  have hb2:=hHH.out.1
  have hs3:w3.heap.size=w2.heap.size:=by rw[←hw3];simp
  have hlt:=hH.out.2.2.2.2
  have hsz:=hH.out.2.2.2.1.size
  have hPV:¬plusP P w.heap.size w2.heap.size V:=fun k=>k.elim hP.out.1 fun k=>by omega
  refine ⟨?_,hHH.out.2.2,?_,?_⟩
  ·rw[hs3,←hw3]
   exact ((hH.out.1.below hb2).mono fun b hb=>plusP.old b hb).set3 hPV (hHH.out.2.1.mono fun b hb=>plusP.new (m:=w.heap.size) (n:=w2.heap.size) hsz (Nat.le_refl _) b hb)
  ·rw[←hw3]
   exact ((Wr.of (hH.out.2.2.2.1.trans (hb2.mono hsz)) hlt).trans (Wr.set _ _ (by omega) (by omega)))
  ·rw[←hw3]
   exact (hH.out.2.2.1.below hb2).agr (Agr.set _ hP.out.2)
 have hlt0:Hid (V<w.heap.size):=hH.out.2.2.2.2
 clear hw3 hHH hH
 go_wp2
 rw[rounds_succ]
 have c4:=h3.out.1.c4
 have hS0:Hid (∀W,Gr w3 W→Calls Tryz.prog 45 #[.slice U u.length cu,.slice N n.length cn] W fun e w'=>∃(L:List Itm) (C:Option Addr) (k':Nat),e= .returned (.slice C L.length k')∧L.map Itm.z=difL y' l∧LvP (fun b=>W.heap.size≤b∧b<w'.heap.size) w' C k' L∧Below W.heap.size W w'):=fun W hg=>nsum_any (h3.out.1.ly.lv.gr hg) (h3.out.2.2.2.lv.gr hg) (by rw[hE.out.2.2.2.2.2.2,hE.out.2.2.2.2.1];exact (add_missed hT.out.2.1 hT.out.2.2.2.1 hT.out.2.2.2.2.2).2)
 go_wp2
 go_region_with (go_at_call 45;refine Calls.mono (hS0.out _ (Gr.refl w3).drew) ?_;rintro e w4 ⟨L2,C2,k2,rfl,h1,h2,h4⟩;have hb4:Below w3.heap.size w3 w4:=(Gr.refl w3).drew.below.trans h4;have hHH:Hid (Below w3.heap.size w3 w4∧LvP (fun b=>w3.heap.size≤b∧b<w4.heap.size) w4 C2 k2 L2∧L2.map Itm.z=difL y' l):=⟨hb4,h2,h1⟩;clear h1 h2 h4;have p0:=(h3.out.1.below hb4).c4;have z0:=(h3.out.1.below hb4).vo.fz (o+4);clear hb4)
 clear p0 z0 c4 hS0 hi1
 obtain ⟨w5,hw5⟩:∃W,w4.setCell ⟨V,o+3+1,none⟩ (.slice C2 L2.length k2)=W:=⟨_,rfl⟩
 rw[hw5]
 have h5:Hid (Vm w5 V o (plusP P w.heap.size w5.heap.size) q' QA cq a A ca b B cb L C k' L2 C2 k2 e0∧L2.map Itm.z=difL y' l∧Wr V o (o+6) w w5∧V<w.heap.size):=by
  have hb4:=hHH.out.1
  have hs5:w5.heap.size=w4.heap.size:=by rw[←hw5];simp
  have hsz:=h3.out.2.2.1.size
  have hlt:=hlt0.out
  have hPV:¬plusP P w.heap.size w4.heap.size V:=fun k=>k.elim hP.out.1 fun k=>by omega
  refine ⟨?_,hHH.out.2.2,?_,hlt⟩
  ·rw[hs5,←hw5]
   exact ((h3.out.1.below hb4).mono (plusP.more (Nat.le_refl _) hb4.size)).set4 hPV (hHH.out.2.1.mono fun b hb=>plusP.new (m:=w.heap.size) (n:=w4.heap.size) hsz (Nat.le_refl _) b hb)
  ·rw[←hw5]
   exact h3.out.2.2.1.trans ((Wr.of hb4 (by omega)).trans (Wr.set _ _ (by omega) (by omega)))
 have h3z:Hid (L.map Itm.z=difL z' k):=h3.out.2.1
 clear hw5 hHH h3
 go_wp2
 rw[rounds_succ]
 have c3:=h5.out.1.c3
 have c4:=h5.out.1.c4
 have hF:Hid (fedE q' (a.map Itm.z) (b.map Itm.z) (L.map Itm.z) (L2.map Itm.z)=plnE q z' y'):=by
  show _=_
  rw[h3z.out,h5.out.2.1,hE.out.2.1,hE.out.2.2.1,fed_missed hT.out.1 hT.out.2.1 hT.out.2.2.2.2.1 hT.out.2.2.2.2.2]
  exact same_plnE hE.out.1 _ _
 by_cases h0:plnE q z' y'=0
 ·have hFd:Hid (∀W,Gr w5 W→Calls Tryz.prog 46 #[.pointer (some ⟨V,o,none⟩),.slice C L.length k',.slice C2 L2.length k2] W fun e w'=>∃(n:Nat) (C:Option Addr) (k:Nat) (a':List Itm) (A':Option Addr) (ca':Nat) (b':List Itm) (B':Option Addr) (cb':Nat),e= .returned (.tuple #[.slice C n k,.int .i64 0])∧a'.map Itm.z=addL (a.map Itm.z) (L.map Itm.z)∧b'.map Itm.z=addL (b.map Itm.z) (L2.map Itm.z)∧Vo w' V o (plusP (plusP P w.heap.size w5.heap.size) W.heap.size w'.heap.size) q' QA cq a' A' ca' b' B' cb'∧Wr V (o+1) (o+3) W w'):=fun W hg=>feed_ok W V o (plusP P w.heap.size w5.heap.size) q' QA cq a A ca b B cb (h5.out.1.vo.gr hg) (fun k=>k.elim hP.out.1 fun k=>by have:=h5.out.2.2.2;omega) L L2 C C2 k' k2 (h5.out.1.lx.lv.gr hg) (h5.out.1.ly.lv.gr hg) (by rw[hF.out];exact h0)
  have h0H:Hid (plnE q z' y'=0):=h0
  clear h0
  go_wp2
  go_region_with (go_at_call 46;refine Calls.mono (hFd.out _ (Gr.refl w5).drew) ?_;rintro e w6 ⟨r1,r2,r3,a',A',ca',b',B',cb',rfl,f1,f2,f3,f4⟩;have hHH:Hid (a'.map Itm.z=addL (a.map Itm.z) (L.map Itm.z)∧b'.map Itm.z=addL (b.map Itm.z) (L2.map Itm.z)∧Vm w6 V o (plusP P w.heap.size w6.heap.size) q' QA cq a' A' ca' b' B' cb' L C k' L2 C2 k2 e0∧Wr V o (o+6) w w6):=turn_fed hBH.out h5.out.1 h5.out.2.2.1 h5.out.2.2.2 hP.out.1 f1 f2 f3 f4;clear f1 f2 f3 f4;have p0:=hHH.out.2.2.1.c5;have z0:=hHH.out.2.2.1.vo.fz (o+5))
  all_goals
   clear p0 z0 hFd c3 c4
   obtain ⟨w7,hw7⟩:∃W,w6.setCell ⟨V,o+5,none⟩ (.int .i64 0)=W:=⟨_,rfl⟩
   rw[hw7]
   have h7:Hid (Vm w7 V o (plusP P w.heap.size w7.heap.size) q' QA cq a' A' ca' b' B' cb' L C k' L2 C2 k2 0∧Wr V o (o+6) w w7):=by
    have hs7:w7.heap.size=w6.heap.size:=by rw[←hw7];simp
    have hlt:=h5.out.2.2.2
    refine ⟨?_,?_⟩
    ·rw[hs7,←hw7]
     exact hHH.out.2.2.1.set5 (fun k=>k.elim hP.out.1 fun k=>by omega) 0
    ·rw[←hw7]
     exact hHH.out.2.2.2.trans (Wr.set _ _ (by omega) (by omega))
   clear hw7
   have c5:=h7.out.1.c5
   have c3:=h7.out.1.c3
   have c4:=h7.out.1.c4
   have z3:=h7.out.1.vo.fz (o+3)
   have z4:=h7.out.1.vo.fz (o+4)
   go_wp2
   clear c5 c3 c4 z3 z4
   go_end0
   have hlt:=h5.out.2.2.2
   have hPV:¬plusP P w.heap.size w7.heap.size V:=fun k=>k.elim hP.out.1 fun k=>by omega
   have h8:=(h7.out.1.set3 hPV (LvP.none _ _)).set4 hPV (LvP.none _ _)
   have ez:a'.map Itm.z=z':=by rw[hHH.out.1,hE.out.2.1,h3z.out];exact (add_kept hT.out.1 hT.out.2.2.2.2.1).2
   have ey:b'.map Itm.z=y':=by rw[hHH.out.2.1,hE.out.2.2.1,h5.out.2.1];exact (add_kept hT.out.2.1 hT.out.2.2.2.2.2).2
   refine ⟨rfl,⟨z',y',⟨q',QA,cq,a',A',ca',b',B',cb',[],none,0,[],none,0,?_,hE.out.1,ez,ey,by rw[dif_self];rfl,by rw[dif_self];rfl⟩,hT.out.2.2.2.2.1,hT.out.2.2.2.2.2,fun _=>⟨rfl,rfl⟩⟩,h7.out.2.trans ((Wr.set _ _ (by omega) (by omega)).trans (Wr.set _ _ (by omega) (by omega)))⟩
   rw[h0H.out]
   simpa using h8
 ·have hFd:Hid (∀W,Gr w5 W→Calls Tryz.prog 46 #[.pointer (some ⟨V,o,none⟩),.slice C L.length k',.slice C2 L2.length k2] W fun e w'=>∃E,e= .returned (.tuple #[.slice none 0 0,.int .i64 E])∧E=plnE q z' y'∧Below W.heap.size W w'):=fun W hg=>by
   have:=feed_bad W V o (plusP P w.heap.size w5.heap.size) q' QA cq a A ca b B cb (h5.out.1.vo.gr hg) L L2 C C2 k' k2 (h5.out.1.lx.lv.gr hg) (h5.out.1.ly.lv.gr hg) (by rw[hF.out];exact h0)
   rwa [hF.out] at this
  have h0H:Hid (¬plnE q z' y'=0):=h0
  clear h0
  go_wp2
  go_region_with (go_at_call 46;refine Calls.mono (hFd.out _ (Gr.refl w5).drew) ?_;rintro e w6 ⟨E,rfl,hEE,f3⟩;have hHH:Hid (E=plnE q z' y'∧Below w5.heap.size w5 w6):=⟨hEE,(Gr.refl w5).drew.below.trans f3⟩;clear hEE f3;have p0:=(h5.out.1.below hHH.out.2).c5;have z0:=(h5.out.1.below hHH.out.2).vo.fz (o+5))
  all_goals
   clear p0 z0 hFd c3 c4
   have hEn:(E==0)=false:=by
    have:=h0H.out
    rw[←hHH.out.1] at this
    simpa using this
   obtain ⟨w7,hw7⟩:∃W,w6.setCell ⟨V,o+5,none⟩ (.int .i64 E)=W:=⟨_,rfl⟩
   rw[hw7]
   have h7:Hid (Vm w7 V o (plusP P w.heap.size w7.heap.size) q' QA cq a A ca b B cb L C k' L2 C2 k2 E∧Wr V o (o+6) w w7):=by
    have hs7:w7.heap.size=w6.heap.size:=by rw[←hw7];simp
    have hlt:=h5.out.2.2.2
    have hsz:=h5.out.2.2.1.size
    refine ⟨?_,?_⟩
    ·rw[hs7,←hw7]
     exact ((h5.out.1.below hHH.out.2).mono (plusP.more (Nat.le_refl _) hHH.out.2.size)).set5 (fun k=>k.elim hP.out.1 fun k=>by omega) E
    ·rw[←hw7]
     exact h5.out.2.2.1.trans ((Wr.of hHH.out.2 (by omega)).trans (Wr.set _ _ (by omega) (by omega)))
   clear hw7
   have c5:=h7.out.1.c5
   go_wp2
   clear c5
   go_end0
   refine ⟨rfl,⟨k,l,⟨q',QA,cq,a,A,ca,b,B,cb,L,C,k',L2,C2,k2,?_,hE.out.1,hE.out.2.1,hE.out.2.2.1,h3z.out,h5.out.2.1⟩,hT.out.1,hT.out.2.1,fun h=>absurd h h0H.out⟩,h7.out.2⟩
   rw[←hHH.out.1]
   exact h7.out.1
end Go.Proofs.YtkadjjmkokhldaaGreat
