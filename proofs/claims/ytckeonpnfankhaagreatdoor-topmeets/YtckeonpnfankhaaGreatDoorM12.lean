/-
  plain.itemsOfOne, plain.minus.
  Where, pick, union and minus of two sets together are those of both, together: whole queries, on plain lists.
  plain.tell.
  Views: what is told of what is fed, on plain lists.
  plain.CheckTables.
  plain.tell at a step that may stand in a query (but join, distinct, sum); lists of sets in memory.
-/
import Derived.Test.YtckeonpnfankhaaGreatDoorM11
set_option maxRecDepth 100000
set_option maxHeartbeats 8000000
namespace Go.Proofs.YtckeonpnfankhaaGreatDoor
open Go.RowKit Go.Sort Go.Maps

structure OneOk (s:Stp) (l:List Itm):Prop where
 len:l.length≤400
 ok:∀x∈l,okR x.r=true∧okW x.n=true
 k2:s.k=2→inB s.o 1 3=true∧∀x∈l,inB s.c 0 ((x.r.length:Int)-1)=true
 k3:s.k=3→s.l.length≤8∧∀x∈l,∀c∈s.l,inB c 0 ((x.r.length:Int)-1)=true
 k8:s.k=8→∀x∈l,inB s.c 0 ((x.r.length:Int)-1)=true
 k9:s.k=9→∀x∈l,inB s.c 0 ((x.r.length:Int)-1)=true∧inB s.v 0 ((x.r.length:Int)-1)=true

theorem wd (s:Stp) (l:List Itm) (A:Option Addr) (cap:Nat) (w:World) (hk:s.k=2∨s.k=3∨s.k=8∨s.k=7∨s.k=9) (ho:OneOk s l) (hr:Items w A l) (hs:ay w s.p s.l) :
  Calls Tryz.prog 100 #[.agg #[.int .i64 s.k,.int .i64 s.a,.int .i64 s.b,.int .i64 s.c,.int .i64 s.o,.int .i64 s.v,.slice s.p s.l.length s.n],.slice A l.length cap] w fun e w'=>∃(L:List Itm) (C:Option Addr) (k:Nat),e= .returned (.slice C L.length k)∧L.map Itm.z=dV s (l.map Itm.z)∧Lv w' C k L∧L.length≤400∧Below w.heap.size w w':=by
 have hgX:Hid (Gr w (w.alloc (.cells #[.int .i64 s.k,.int .i64 s.a,.int .i64 s.b,.int .i64 s.c,.int .i64 s.o,.int .i64 s.v,.slice s.p s.l.length s.n] 105))):=(gR _).alloc _
 have hH:Hid (OneOk s l∧Items w A l∧ay w s.p s.l):=⟨ho,hr,hs⟩
 clear ho hr hs
 rcases hk with hk|hk|hk|hk|hk
 ·have hC0:=rP l A cap s.c s.o s.v (w.alloc (.cells #[.int .i64 2,.int .i64 s.a,.int .i64 s.b,.int .i64 s.c,.int .i64 s.o,.int .i64 s.v,.slice s.p s.l.length s.n] 105)) hH.out.1.len (hH.out.2.1.gr ((gR _).alloc _)) (hH.out.1.k2 hk).2 (hH.out.1.k2 hk).1
  have hC:Hid _:=hC0
  have hF:Hid (dV s (l.map Itm.z)=da (l.map Itm.z) s.c s.o s.v):=by show _=_;unfold dV;rw[if_pos hk]
  clear hC0
  rw[hk]
  clear hk
  go_enter Tryz.func100,Tryz.ntmps100
  go_wp2_with fail
  refine cM (show Calls _ _ _ _ _ from hC.out) ?_
  rintro e w2 ⟨L,C,k,rfl,h1,h2,h3,h4⟩
  have hfin:Hid (L.map Itm.z=dV s (l.map Itm.z)∧Lv w2 C k L∧Below w.heap.size w w2):=⟨by rw[hF.out];exact h1,h2,((gR _).alloc _).below.trans (h4.mono (by simp))⟩
  clear h1 h2 h4
  go_wp2
  go_ret
  exact ⟨L,C,k,rfl,hfin.out.1,hfin.out.2.1,h3,hfin.out.2.2⟩
 ·have hC0:=vD l A s.p cap s.n s.l (w.alloc (.cells #[.int .i64 3,.int .i64 s.a,.int .i64 s.b,.int .i64 s.c,.int .i64 s.o,.int .i64 s.v,.slice s.p s.l.length s.n] 105)) hH.out.1.len (hH.out.1.k3 hk).1 (hH.out.2.1.gr ((gR _).alloc _)) (hH.out.2.2.gr ((gR _).alloc _)) (hH.out.1.k3 hk).2
  have hC:Hid _:=hC0
  have hF:Hid (dV s (l.map Itm.z)=fB (l.map Itm.z) s.l):=by show _=_;unfold dV;rw[if_neg (by omega),if_pos hk]
  clear hC0
  rw[hk]
  clear hk
  go_enter Tryz.func100,Tryz.ntmps100
  go_wp2_with fail
  refine cM (show Calls _ _ _ _ _ from hC.out) ?_
  rintro e w2 ⟨L,C,k,rfl,h1,h2,h3,h4⟩
  have hfin:Hid (L.map Itm.z=dV s (l.map Itm.z)∧Lv w2 C k L∧Below w.heap.size w w2):=⟨by rw[hF.out];exact h1,h2,((gR _).alloc _).below.trans (h4.mono (by simp))⟩
  clear h1 h2 h4
  go_wp2
  go_ret
  exact ⟨L,C,k,rfl,hfin.out.1,hfin.out.2.1,h3,hfin.out.2.2⟩
 ·have hC0:=si l A cap s.c (w.alloc (.cells #[.int .i64 8,.int .i64 s.a,.int .i64 s.b,.int .i64 s.c,.int .i64 s.o,.int .i64 s.v,.slice s.p s.l.length s.n] 105)) hH.out.1.len (hH.out.2.1.gr ((gR _).alloc _)) (hH.out.1.k8 hk) hH.out.1.ok
  have hC:Hid _:=hC0
  have hF:Hid (dV s (l.map Itm.z)=lJ (l.map Itm.z) s.c):=by show _=_;unfold dV;rw[if_neg (by omega),if_neg (by omega),if_neg (by omega),if_pos hk]
  clear hC0
  rw[hk]
  clear hk
  go_enter Tryz.func100,Tryz.ntmps100
  go_wp2_with fail
  refine cM (show Calls _ _ _ _ _ from hC.out) ?_
  rintro e w2 ⟨L,C,k,rfl,h1,h2,h3,h4⟩
  have hfin:Hid (L.map Itm.z=dV s (l.map Itm.z)∧Lv w2 C k L∧Below w.heap.size w w2):=⟨by rw[hF.out];exact h1,h2,((gR _).alloc _).below.trans (h4.mono (by simp))⟩
  clear h1 h2 h4
  go_wp2
  go_ret
  exact ⟨L,C,k,rfl,hfin.out.1,hfin.out.2.1,h3,hfin.out.2.2⟩
 ·have hC0:=uT l A cap (w.alloc (.cells #[.int .i64 7,.int .i64 s.a,.int .i64 s.b,.int .i64 s.c,.int .i64 s.o,.int .i64 s.v,.slice s.p s.l.length s.n] 105)) hH.out.1.len (hH.out.2.1.gr ((gR _).alloc _))
  have hC:Hid _:=hC0
  have hF:Hid (dV s (l.map Itm.z)=fw (l.map Itm.z)):=by show _=_;unfold dV;rw[if_neg (by omega),if_neg (by omega),if_pos hk]
  clear hC0
  rw[hk]
  clear hk
  go_enter Tryz.func100,Tryz.ntmps100
  go_wp2_with fail
  refine cM (show Calls _ _ _ _ _ from hC.out) ?_
  rintro e w2 ⟨L,C,k,rfl,h1,h2,h3,h4⟩
  have hfin:Hid (L.map Itm.z=dV s (l.map Itm.z)∧Lv w2 C k L∧Below w.heap.size w w2):=⟨by rw[hF.out];exact h1,h2,((gR _).alloc _).below.trans (h4.mono (by simp))⟩
  clear h1 h2 h4
  go_wp2
  go_ret
  exact ⟨L,C,k,rfl,hfin.out.1,hfin.out.2.1,h3,hfin.out.2.2⟩
 ·have hC0:=tD l A cap s.c s.v (w.alloc (.cells #[.int .i64 9,.int .i64 s.a,.int .i64 s.b,.int .i64 s.c,.int .i64 s.o,.int .i64 s.v,.slice s.p s.l.length s.n] 105)) hH.out.1.len (hH.out.2.1.gr ((gR _).alloc _)) (fun x hx=>(hH.out.1.k9 hk x hx).1) (fun x hx=>(hH.out.1.k9 hk x hx).2) hH.out.1.ok
  have hC:Hid _:=hC0
  have hF:Hid (dV s (l.map Itm.z)=vb (l.map Itm.z) s.c s.v):=by show _=_;unfold dV;rw[if_neg (by omega),if_neg (by omega),if_neg (by omega),if_neg (by omega)]
  clear hC0
  rw[hk]
  clear hk
  go_enter Tryz.func100,Tryz.ntmps100
  go_wp2_with fail
  refine cM (show Calls _ _ _ _ _ from hC.out) ?_
  rintro e w2 ⟨L,C,k,rfl,h1,h2,h3,h4⟩
  have hfin:Hid (L.map Itm.z=dV s (l.map Itm.z)∧Lv w2 C k L∧Below w.heap.size w w2):=⟨by rw[hF.out];exact h1,h2,((gR _).alloc _).below.trans (h4.mono (by simp))⟩
  clear h1 h2 h4
  go_wp2
  go_ret
  exact ⟨L,C,k,rfl,hfin.out.1,hfin.out.2.1,h3,hfin.out.2.2⟩

theorem tW {b:List Zit} (h:av b=0):gm b=eX b:=by unfold gm;rw[if_pos h];rfl
theorem qz (a b:List Itm) (A B:Option Addr) (ca cb:Nat) (w:World) (ha:Lv w A ca a) (hb:Lv w B cb b) (he:av (b.map Itm.z)=0) :
  Calls Tryz.prog 99 #[.slice A a.length ca,.slice B b.length cb] w fun e w'=>∃(L:List Itm) (C:Option Addr) (k:Nat),e= .returned (.tuple #[.slice C L.length k,.int .i64 (lQ (a.map Itm.z) (b.map Itm.z))])∧L.map Itm.z=pY (a.map Itm.z) (b.map Itm.z)∧Lv w' C k L∧Below w.heap.size w w'∧NwT w' k w.heap.size C L:=by
 have hN0:=yJ hb (m:=b.map Itm.z) rfl
 have hN:Hid _:=hN0
 have hH:Hid (Lv w A ca a∧av (b.map Itm.z)=0):=⟨ha,he⟩
 clear hN0 ha hb
 rw[he] at hN
 clear he
 go_enter Tryz.func99,Tryz.ntmps99
 go_wp2_with fail
 refine cM (show Calls _ _ _ _ _ from hN.out) ?_
 rintro e w1 ⟨L1,C1,k1,rfl,h1,h2,h3⟩
 have hA0:=pj (hH.out.1.below h3) h2 (m:=a.map Itm.z) (n:=eX (b.map Itm.z)) rfl (by rw[h1,tW hH.out.2])
 have hA:Hid _:=hA0
 have hB:Hid (Below w.heap.size w w1):=h3
 clear hA0 h1 h2 h3 hN
 go_wp2_with fail
 refine cM (show Calls _ _ _ _ _ from hA.out) ?_
 rintro e w2 ⟨L,C,k,rfl,h1,h2,h3,h4⟩
 have hNw:Hid (NwT w2 k w.heap.size C L):=h4.mono hB.out.size
 have hfin:Hid (aP (a.map Itm.z) (eX (b.map Itm.z))=lQ (a.map Itm.z) (b.map Itm.z)∧L.map Itm.z=pY (a.map Itm.z) (b.map Itm.z)∧Lv w2 C k L∧Below w.heap.size w w2):=by
  have hm:lQ (a.map Itm.z) (b.map Itm.z)=aP (a.map Itm.z) (eX (b.map Itm.z)):=by unfold lQ;rw[if_pos hH.out.2]
  refine ⟨hm.symm,?_,h2,hB.out.trans (h3.mono hB.out.size)⟩
  rw[h1]
  unfold pY
  rw[hm]
  by_cases e:aP (a.map Itm.z) (eX (b.map Itm.z))=0
  ·rw[if_pos e]
  ·rw[if_neg e];unfold aN;rw[if_neg e]
 clear h1 h2 h3 h4 hA
 go_wp2
 go_ret2
 exact ⟨L,C,k,by rw[hfin.out.1];rfl,hfin.out.2.1,hfin.out.2.2.1,hfin.out.2.2.2,hNw.out⟩
theorem xU {W:World} {A B:Option Addr} {c d:Nat} {l r:List Itm} (h:Lv W A c l) (h':Lv W B d r) (he:av (r.map Itm.z)=0) {m n:List Zit} (hm:l.map Itm.z=m) (hn:r.map Itm.z=n) :
  Calls Tryz.prog 99 #[.slice A l.length c,.slice B r.length d] W fun e w'=>∃(L:List Itm) (C:Option Addr) (k:Nat),e= .returned (.tuple #[.slice C L.length k,.int .i64 (lQ m n)])∧L.map Itm.z=pY m n∧Lv w' C k L∧Below W.heap.size W w'∧NwT w' k W.heap.size C L:=by
 subst hm hn
 exact qz l r A B c d W h h' he
structure JoinOk (c v:Int) (l r:List Itm):Prop where
 la:l.length≤400
 lb:r.length≤400
 c:∀x∈l,inB c 0 ((x.r.length:Int)-1)=true
 v:∀x∈r,inB v 0 ((x.r.length:Int)-1)=true
 oa:∀x∈l,okR x.r=true∧okW x.n=true
 ob:∀x∈r,okR x.r=true∧okW x.n=true
theorem zy {W:World} {A B:Option Addr} {c d:Nat} {l r:List Itm} {cc v:Int} (h:Lv W A c l) (h':Lv W B d r) (hJ:JoinOk cc v l r) {m n:List Zit} (hm:l.map Itm.z=m) (hn:r.map Itm.z=n) :
  Calls Tryz.prog 97 #[.slice A l.length c,.slice B r.length d,.int .i64 cc,.int .i64 v] W fun e w'=>∃(L:List Itm) (C:Option Addr) (k:Nat),e= .returned (.tuple #[.slice C L.length k,.int .i64 (jC m n cc v)])∧L.map Itm.z=kM m n cc v∧Lv w' C k L∧Below W.heap.size W w'∧NwT w' k W.heap.size C L:=by
 subst hm hn
 exact sH l r A B c d cc v W hJ.la hJ.lb h h' hJ.c hJ.v hJ.oa hJ.ob
end Go.Proofs.YtckeonpnfankhaaGreatDoor

namespace Go.Proofs.YtckeonpnfankhaaGreatDoor

theorem iw {s:Stp} {t:List Stp} {ah:List Int} (h:(dm (s::t) ah).isSome=true):aH s ah≠0∧(dm t (ah++[aH s ah])).isSome=true:=by
 have h':(if aH s ah=0 then none else dm t (ah++[aH s ah])).isSome=true:=h
 by_cases e:aH s ah=0
 ·rw[if_pos e] at h';cases h'
 ·rw[if_neg e] at h';exact ⟨e,h'⟩
theorem eK {q:List Stp} (h:bS q=0):q≠[]∧q.length≤8∧(dm q []).isSome=true:=by
 unfold bS at h
 by_cases h0:q.length=0
 ·rw[if_pos h0] at h;cases h
 ·rw[if_neg h0] at h
  by_cases h8:8<q.length
  ·rw[if_pos h8] at h;cases h
  ·rw[if_neg h8] at h
   by_cases hs:(dm q []).isSome=true
   ·exact ⟨fun e=>h0 (by rw[e];rfl),by omega,hs⟩
   ·rw[if_neg hs] at h;cases h
theorem sA {a b:List Zit} {s:Stp} {t:List Stp} {S:List (List Zit)} (h:iN a b (s::t) S=0):aQ s a b S=0∧iN a b t (S++[aT s a b S])=0∧kj a b (s::t) S=kj a b t (S++[aT s a b S]):=by
 have h':(if aQ s a b S=0 then iN a b t (S++[aT s a b S]) else aQ s a b S)=0:=h
 by_cases e:aQ s a b S=0
 ·rw[if_pos e] at h'
  refine ⟨e,h',?_⟩
  show (if aQ s a b S=0 then _ else [])=_
  rw[if_pos e]
 ·rw[if_neg e] at h';exact absurd h' e
theorem jK {a b:List Zit} (ha:cQ 4 a) (hb:cQ 4 b):∀(q:List Stp) (ah:List Int) (S:List (List Zit)),(dm q ah).isSome=true→Ahd S ah→iN a b q S=0→∃ah',Ahd (kj a b q S) ah'∧(kj a b q S).length=S.length+q.length
 | [],ah,S,_,hS,_=>⟨ah,hS,by simp[kj]⟩
 | s::t,ah,S,hw,hS,he=>by
  obtain ⟨h1,h2⟩:=iw hw
  obtain ⟨e1,e2,e3⟩:=sA he
  obtain ⟨r1,r2⟩:=kL h1 hS ha hb e1
  obtain ⟨ah',k1,k2⟩:=jK ha hb t _ _ h2 (hS.snoc r1 r2) e2
  rw[e3]
  exact ⟨ah',k1,by rw[k2];simp;omega⟩
def iI (q:List Stp) (a b:List Zit):List Zit:=(iF q a b).getD (q.length-1) []
theorem iP {q:List Stp} {a b:List Zit} (h:cH q a b=0):mj q a b=0∧iN a b q []=0∧iF q a b=kj a b q []:=by
 have h':=h
 unfold cH at h
 by_cases e:mj q a b=0
 ·rw[if_pos e] at h
  exact ⟨e,h,by unfold iF;rw[if_pos h']⟩
 ·rw[if_neg e] at h;exact absurd h e
theorem dC {q:List Stp} {a b:List Zit} (h:mj q a b=0):bS q=0∧av a=0∧av b=0∧cQ 4 a∧cQ 4 b:=by
 unfold mj at h
 by_cases h1:bS q=0
 ·rw[if_pos h1] at h
  by_cases h2:av a=0
  ·rw[if_pos h2] at h
   by_cases h3:av b=0
   ·rw[if_pos h3] at h
    by_cases h4:(a++b).all (fun x=>decide (x.1.length=4))=true
    ·have h5:∀x∈a++b,x.1.length=4:=fun x hx=>by simpa using List.all_eq_true.1 h4 x hx
     exact ⟨h1,h2,h3,fun x hx=>by rw[h5 x (List.mem_append.2 (Or.inl hx))];rfl,fun x hx=>by rw[h5 x (List.mem_append.2 (Or.inr hx))];rfl⟩
    ·rw[if_neg h4] at h;cases h
   ·rw[if_neg h3] at h;exact absurd h h3
  ·rw[if_neg h2] at h;exact absurd h h2
 ·rw[if_neg h1] at h;exact absurd h h1
theorem s8 {q:List Stp} {a b:List Zit} (h:cH q a b=0):av (iI q a b)=0:=by
 obtain ⟨h1,h2,h3⟩:=iP h
 obtain ⟨k1,_,_,k4,k5⟩:=dC h1
 obtain ⟨q1,_,q3⟩:=eK k1
 obtain ⟨ah',m1,m2⟩:=jK k4 k5 q [] [] q3 Ahd.nil h2
 have hq:0<q.length:=List.length_pos_iff.2 q1
 unfold iI
 rw[h3]
 exact (m1.ok _ (by rw[m2];simp;omega)).1
end Go.Proofs.YtckeonpnfankhaaGreatDoor

namespace Go.Proofs.YtckeonpnfankhaaGreatDoor
open Go.RowKit Go.Sort Go.Maps

structure Sts (w:World) (A:Option Addr) (ss:List Sl) (S:List (List Zit)):Prop where
 row:ax eB 1 w A ss
 each:∀s∈ss,Lv w s.A s.cap s.l
 z:ss.map (fun s=>s.l.map Itm.z)=S
theorem Sts.below {w w':World} {A:Option Addr} {ss:List Sl} {S:List (List Zit)} (h:Sts w A ss S) (q:Below w.heap.size w w'):Sts w' A ss S:=⟨h.row.below q,fun s hs=>(h.each s hs).below q,h.z⟩
theorem Sts.gr {w w':World} {A:Option Addr} {ss:List Sl} {S:List (List Zit)} (h:Sts w A ss S) (q:Gr w w'):Sts w' A ss S:=h.below q.below
theorem Sts.at {w:World} {A:Option Addr} {ss:List Sl} {S:List (List Zit)} (h:Sts w A ss S) {i:Int} (h0:0≤i) (hi:i.toNat<S.length):∃(b off n:Nat) (x:Sl),A=some ⟨b,off,none⟩∧b<w.heap.size∧i=n∧n<ss.length∧w.cell? ⟨b,off+n,none⟩=some (.slice x.A x.l.length x.cap)∧Lv w x.A x.cap x.l∧x.l.map Itm.z=bD S i:=by
 have hl:i.toNat<ss.length:=by
  have:=congrArg List.length h.z
  simp at this
  omega
 obtain ⟨b,off,hA,hb,hc⟩:=h.row.at hl
 refine ⟨b,off,i.toNat,ss[i.toNat],hA,hb,by omega,hl,?_,h.each _ (gM hl),?_⟩
 ·have:=hc i.toNat hl 0 (by omega)
  simpa[eB] using this
 ·unfold bD
  rw[←h.z,List.getD_eq_getElem?_getD,List.getElem?_map,List.getElem?_eq_getElem hl]
  rfl
theorem zg (s:Stp) (a b:List Itm) (A B:Option Addr) (ca cb:Nat) (SA:Option Addr) (sc:Nat) (ss:List Sl) (S:List (List Zit)) (w:World) (hk:s.k=1) (hp:s.a=0∨s.a=1) (ha:Lv w A ca a) (hb:Lv w B cb b) :
  Calls Tryz.prog 70 #[.agg #[.int .i64 s.k,.int .i64 s.a,.int .i64 s.b,.int .i64 s.c,.int .i64 s.o,.int .i64 s.v,.slice s.p s.l.length s.n],.agg #[.slice A a.length ca,.slice B b.length cb],.slice SA ss.length sc] w fun e w'=>∃(L:List Itm) (C:Option Addr) (k:Nat),e= .returned (.tuple #[.slice C L.length k,.int .i64 (aQ s (a.map Itm.z) (b.map Itm.z) S)])∧L.map Itm.z=aT s (a.map Itm.z) (b.map Itm.z) S∧Lv w' C k L∧Below w.heap.size w w'∧NwT w' k w.heap.size C L:=by
 have hH:Hid (Lv w A ca a∧Lv w B cb b):=⟨ha,hb⟩
 clear ha hb
 have hE:Hid (aQ s (a.map Itm.z) (b.map Itm.z) S=bW (nJ s (a.map Itm.z) (b.map Itm.z))∧aT s (a.map Itm.z) (b.map Itm.z) S=df (nJ s (a.map Itm.z) (b.map Itm.z))):=⟨by unfold aQ;rw[if_pos hk],by unfold aT;rw[if_pos hk]⟩
 rcases hp with hp|hp
 ·have hT:Hid (nJ s (a.map Itm.z) (b.map Itm.z)=a.map Itm.z):=by show _=_;unfold nJ;rw[if_pos hp]
  have hN0:=nA (hH.out.1.gr (((gR _).alloc _).alloc _)) (W:=((w.alloc (.cells #[.int .i64 1,.int .i64 0,.int .i64 s.b,.int .i64 s.c,.int .i64 s.o,.int .i64 s.v,.slice s.p s.l.length s.n] 105)).alloc (.cells #[.slice A a.length ca,.slice B b.length cb] 68))) (m:=a.map Itm.z) rfl
  have hN:Hid _:=hN0
  clear hN0
  obtain ⟨E,hE2⟩:∃E,aQ s (a.map Itm.z) (b.map Itm.z) S=E:=⟨_,rfl⟩
  have hE3:Hid (bW (a.map Itm.z)=E):=by show _=_;rw[←hE2,hE.out.1,hT.out]
  rw[hE2,hk,hp]
  clear hk hp hE2
  go_enter Tryz.func70,Tryz.ntmps70
  go_wp2_with fail
  refine cM (show Calls _ _ _ _ _ from hN.out) ?_
  rintro e w2 ⟨L,C,k,rfl,h1,h2,h3,h4⟩
  rw[hE3.out]
  have hfin:Hid (L.map Itm.z=aT s (a.map Itm.z) (b.map Itm.z) S∧Lv w2 C k L∧Below w.heap.size w w2∧NwT w2 k w.heap.size C L):=⟨by rw[hE.out.2,hT.out];exact h1,h2,(((gR w).alloc _).alloc _).below.trans (h3.mono (by simp;omega)),h4.mono (by simp;omega)⟩
  clear h1 h2 h3 h4 hN
  go_wp2
  go_ret2
  exact ⟨L,C,k,rfl,hfin.out.1,hfin.out.2.1,hfin.out.2.2⟩
 ·have hT:Hid (nJ s (a.map Itm.z) (b.map Itm.z)=b.map Itm.z):=by show _=_;unfold nJ;rw[if_neg (by omega)]
  have hN0:=nA (hH.out.2.gr (((gR _).alloc _).alloc _)) (W:=((w.alloc (.cells #[.int .i64 1,.int .i64 1,.int .i64 s.b,.int .i64 s.c,.int .i64 s.o,.int .i64 s.v,.slice s.p s.l.length s.n] 105)).alloc (.cells #[.slice A a.length ca,.slice B b.length cb] 68))) (m:=b.map Itm.z) rfl
  have hN:Hid _:=hN0
  clear hN0
  obtain ⟨E,hE2⟩:∃E,aQ s (a.map Itm.z) (b.map Itm.z) S=E:=⟨_,rfl⟩
  have hE3:Hid (bW (b.map Itm.z)=E):=by show _=_;rw[←hE2,hE.out.1,hT.out]
  rw[hE2,hk,hp]
  clear hk hp hE2
  go_enter Tryz.func70,Tryz.ntmps70
  go_wp2_with fail
  refine cM (show Calls _ _ _ _ _ from hN.out) ?_
  rintro e w2 ⟨L,C,k,rfl,h1,h2,h3,h4⟩
  rw[hE3.out]
  have hfin:Hid (L.map Itm.z=aT s (a.map Itm.z) (b.map Itm.z) S∧Lv w2 C k L∧Below w.heap.size w w2∧NwT w2 k w.heap.size C L):=⟨by rw[hE.out.2,hT.out];exact h1,h2,(((gR w).alloc _).alloc _).below.trans (h3.mono (by simp;omega)),h4.mono (by simp;omega)⟩
  clear h1 h2 h3 h4 hN
  go_wp2
  go_ret2
  exact ⟨L,C,k,rfl,hfin.out.1,hfin.out.2.1,hfin.out.2.2⟩
theorem zu (s:Stp) (a b:List Itm) (A B:Option Addr) (ca cb:Nat) (SA:Option Addr) (sc:Nat) (ss:List Sl) (S:List (List Zit)) (w:World) (hk:s.k=5) (ha0:0≤s.a) (ha1:s.a.toNat<S.length) (hb0:0≤s.b) (hb1:s.b.toNat<S.length) (hS:Sts w SA ss S) :
  Calls Tryz.prog 70 #[.agg #[.int .i64 s.k,.int .i64 s.a,.int .i64 s.b,.int .i64 s.c,.int .i64 s.o,.int .i64 s.v,.slice s.p s.l.length s.n],.agg #[.slice A a.length ca,.slice B b.length cb],.slice SA ss.length sc] w fun e w'=>∃(L:List Itm) (C:Option Addr) (k:Nat),e= .returned (.tuple #[.slice C L.length k,.int .i64 (aQ s (a.map Itm.z) (b.map Itm.z) S)])∧L.map Itm.z=aT s (a.map Itm.z) (b.map Itm.z) S∧Lv w' C k L∧Below w.heap.size w w'∧NwT w' k w.heap.size C L:=by
 have hE:Hid (aQ s (a.map Itm.z) (b.map Itm.z) S=aP (bD S s.a) (bD S s.b)∧aT s (a.map Itm.z) (b.map Itm.z) S=aN (bD S s.a) (bD S s.b)):=⟨by unfold aQ;rw[if_neg (by omega),if_neg (by omega),if_pos hk],by unfold aT;rw[if_neg (by omega),if_neg (by omega),if_pos hk]⟩
 obtain ⟨bb,off,na,x,hA,hbb,hna,hnal,hxc,hxl,hxz⟩:=hS.at ha0 ha1
 obtain ⟨bb',off',nb,y,hA',_,hnb,hnbl,hyc,hyl,hyz⟩:=hS.at hb0 hb1
 subst hA
 cases hA'
 obtain ⟨E,hE2⟩:∃E,aQ s (a.map Itm.z) (b.map Itm.z) S=E:=⟨_,rfl⟩
 have hE3:Hid (aP (bD S s.a) (bD S s.b)=E):=by show _=_;rw[←hE2,hE.out.1]
 have hgW:Hid (Gr w ((w.alloc (.cells #[.int .i64 5,.int .i64 (na:Int),.int .i64 (nb:Int),.int .i64 s.c,.int .i64 s.o,.int .i64 s.v,.slice s.p s.l.length s.n] 105)).alloc (.cells #[.slice A a.length ca,.slice B b.length cb] 68))):=((gR _).alloc _).alloc _
 obtain ⟨WX,hWX⟩:∃WX,((w.alloc (.cells #[.int .i64 5,.int .i64 (na:Int),.int .i64 (nb:Int),.int .i64 s.c,.int .i64 s.o,.int .i64 s.v,.slice s.p s.l.length s.n] 105)).alloc (.cells #[.slice A a.length ca,.slice B b.length cb] 68))=WX:=⟨_,rfl⟩
 have q0:WX.cell? ⟨w.heap.size,0,none⟩=some (.int .i64 5):=by rw[←hWX];exact aa (w:=w) ((gR _).alloc _) rfl
 have q1:WX.cell? ⟨w.heap.size,1,none⟩=some (.int .i64 (na:Int)):=by rw[←hWX];exact aa (w:=w) ((gR _).alloc _) rfl
 have q2:WX.cell? ⟨w.heap.size,2,none⟩=some (.int .i64 (nb:Int)):=by rw[←hWX];exact aa (w:=w) ((gR _).alloc _) rfl
 have hsb:w.heap.size<WX.heap.size:=by rw[←hWX];simp;omega
 rw[hWX] at hgW
 have hC0:=pj ((hxl.gr hgW.out).gr (gR _).drew) ((hyl.gr hgW.out).gr (gR _).drew) hxz hyz (W:=WX.drew)
 have hC:Hid _:=hC0
 clear hC0
 have hKeep:Hid (∀W',Below WX.heap.size WX W'→(fun w'=>w'.cell? ⟨w.heap.size,1,none⟩=some (.int .i64 (na:Int))∧w'.cell? ⟨w.heap.size,2,none⟩=some (.int .i64 (nb:Int))∧w'.cell? ⟨bb,off+na,none⟩=some (.slice x.A x.l.length x.cap)∧w'.cell? ⟨bb,off+nb,none⟩=some (.slice y.A y.l.length y.cap)) W'):=fun W' h=>⟨(h.cell (p:=⟨w.heap.size,1,none⟩) hsb).trans q1,(h.cell (p:=⟨w.heap.size,2,none⟩) hsb).trans q2,(h.cell (p:=⟨bb,off+na,none⟩) (nL hbb hgW.out.size)).trans ((hgW.out.below.cell (p:=⟨bb,off+na,none⟩) hbb).trans hxc),(h.cell (p:=⟨bb,off+nb,none⟩) (nL hbb hgW.out.size)).trans ((hgW.out.below.cell (p:=⟨bb,off+nb,none⟩) hbb).trans hyc)⟩
 have hbD:Hid (Below WX.heap.size WX WX.drew):=(bR _ _).drew
 have hnaz:(na:Int)<(ss.length:Int):=by omega
 have hnbz:(nb:Int)<(ss.length:Int):=by omega
 rw[hE2,hk,hna,hnb]
 clear hk hE2 hxc hyc hxl hyl hxz hyz hna hnb ha0 ha1 hb0 hb1 hnal hnbl hbb q1 q2 hS
 go_enter Tryz.func70,Tryz.ntmps70
 go_wp2_with fail
 clear hWX
 refine wp_region_noPanic ?_
 refine wp_region_held_drew (S:=(fun w'=>w'.cell? ⟨w.heap.size,1,none⟩=some (.int .i64 (na:Int))∧w'.cell? ⟨w.heap.size,2,none⟩=some (.int .i64 (nb:Int))∧w'.cell? ⟨bb,off+na,none⟩=some (.slice x.A x.l.length x.cap)∧w'.cell? ⟨bb,off+nb,none⟩=some (.slice y.A y.l.length y.cap))) (by kernel_rfl) (hKeep.out _ hbD.out) (fun hHeld=> ?_)
 refine tks [0,1,2,3,4,5,6,7,8,9] (by assumption) ?_
 iterate 10 (refine tk (v:= ?_) (by rfl) (by kernel_rfl) ?_ ?_;rotate_left;· (refine oL ⟨by rfl,?_⟩;intro w hSw;(try dsimp only at hSw);go_simp<;>with_reducible rfl);try simp only[Act.put,yA,aC,yS])
 refine tk0 ?_
 refine wpAnyH_ready (rs:=[10]) (by kernel_rfl) (by simp) ?_
 refine AllReadyH.cons (o:= ?oitell511) ?hoptell511 (fun K hK=> ?steptell511) ?moretell511
 case hoptell511=>(simp only[zA,z0',zS];rfl)
 case moretell511=>exact AllReadyH.nil
 go_simp
 (go_at_call 98;(refine cM (show Calls _ _ _ _ _ from hC.out) ?_);rintro e w2 ⟨L,C,k,rfl,h1,h2,h3,h4⟩;rw[hE3.out];have hb2:Hid (Below WX.heap.size WX w2):=hbD.out.trans (h3.mono hbD.out.size);have hfin:Hid (L.map Itm.z=aT s (a.map Itm.z) (b.map Itm.z) S∧Lv w2 C k L∧Below w.heap.size w w2∧NwT w2 k w.heap.size C L):=⟨by rw[hE.out.2];exact h1,h2,hgW.out.below.trans (hb2.out.mono hgW.out.size),h4.mono (nT hgW.out.size hbD.out.size)⟩;clear h1 h2 h3 h4)
 first|(go_wp2_with fail)|skip
 refine hK.out _ _ ?_ (fun hHeld=> ?_)
 ·(try dsimp only);first|with_reducible exact hKeep.out _ hbD.out|with_reducible exact hKeep.out _ hb2.out
 clear hK K
 try simp only[Act.put,yA,aC,yS]
 refine tks [11,12,13,14] (by assumption) ?_
 iterate 4 (refine tk (v:= ?_) (by rfl) (by kernel_rfl) ?_ ?_;rotate_left;· (refine oL ⟨by rfl,?_⟩;intro w hSw;(try dsimp only at hSw);go_simp<;>with_reducible rfl);try simp only[Act.put,yA,aC,yS])
 refine tk0 ?_
 refine wpAnyH_done (by kernel_rfl) ?_ _
 refine NoPanic.normal ?_
 go_wp2
 go_ret2
 exact ⟨L,C,k,rfl,hfin.out.1,hfin.out.2.1,hfin.out.2.2⟩
theorem yy (s:Stp) (a b:List Itm) (A B:Option Addr) (ca cb:Nat) (SA:Option Addr) (sc:Nat) (ss:List Sl) (S:List (List Zit)) (w:World) (hk:s.k=6) (ha0:0≤s.a) (ha1:s.a.toNat<S.length) (hb0:0≤s.b) (hb1:s.b.toNat<S.length) (hS:Sts w SA ss S) (hey:av (bD S s.b)=0) :
  Calls Tryz.prog 70 #[.agg #[.int .i64 s.k,.int .i64 s.a,.int .i64 s.b,.int .i64 s.c,.int .i64 s.o,.int .i64 s.v,.slice s.p s.l.length s.n],.agg #[.slice A a.length ca,.slice B b.length cb],.slice SA ss.length sc] w fun e w'=>∃(L:List Itm) (C:Option Addr) (k:Nat),e= .returned (.tuple #[.slice C L.length k,.int .i64 (aQ s (a.map Itm.z) (b.map Itm.z) S)])∧L.map Itm.z=aT s (a.map Itm.z) (b.map Itm.z) S∧Lv w' C k L∧Below w.heap.size w w'∧NwT w' k w.heap.size C L:=by
 have hE:Hid (aQ s (a.map Itm.z) (b.map Itm.z) S=lQ (bD S s.a) (bD S s.b)∧aT s (a.map Itm.z) (b.map Itm.z) S=pY (bD S s.a) (bD S s.b)):=⟨by unfold aQ;rw[if_neg (by omega),if_neg (by omega),if_neg (by omega),if_pos hk],by unfold aT;rw[if_neg (by omega),if_neg (by omega),if_neg (by omega),if_pos hk]⟩
 obtain ⟨bb,off,na,x,hA,hbb,hna,hnal,hxc,hxl,hxz⟩:=hS.at ha0 ha1
 obtain ⟨bb',off',nb,y,hA',_,hnb,hnbl,hyc,hyl,hyz⟩:=hS.at hb0 hb1
 subst hA
 cases hA'
 obtain ⟨E,hE2⟩:∃E,aQ s (a.map Itm.z) (b.map Itm.z) S=E:=⟨_,rfl⟩
 have hE3:Hid (lQ (bD S s.a) (bD S s.b)=E):=by show _=_;rw[←hE2,hE.out.1]
 have hgW:Hid (Gr w ((w.alloc (.cells #[.int .i64 6,.int .i64 (na:Int),.int .i64 (nb:Int),.int .i64 s.c,.int .i64 s.o,.int .i64 s.v,.slice s.p s.l.length s.n] 105)).alloc (.cells #[.slice A a.length ca,.slice B b.length cb] 68))):=((gR _).alloc _).alloc _
 obtain ⟨WX,hWX⟩:∃WX,((w.alloc (.cells #[.int .i64 6,.int .i64 (na:Int),.int .i64 (nb:Int),.int .i64 s.c,.int .i64 s.o,.int .i64 s.v,.slice s.p s.l.length s.n] 105)).alloc (.cells #[.slice A a.length ca,.slice B b.length cb] 68))=WX:=⟨_,rfl⟩
 have q0:WX.cell? ⟨w.heap.size,0,none⟩=some (.int .i64 6):=by rw[←hWX];exact aa (w:=w) ((gR _).alloc _) rfl
 have q1:WX.cell? ⟨w.heap.size,1,none⟩=some (.int .i64 (na:Int)):=by rw[←hWX];exact aa (w:=w) ((gR _).alloc _) rfl
 have q2:WX.cell? ⟨w.heap.size,2,none⟩=some (.int .i64 (nb:Int)):=by rw[←hWX];exact aa (w:=w) ((gR _).alloc _) rfl
 have hsb:w.heap.size<WX.heap.size:=by rw[←hWX];simp;omega
 rw[hWX] at hgW
 have hC0:=xU ((hxl.gr hgW.out).gr (gR _).drew) ((hyl.gr hgW.out).gr (gR _).drew) (by rw[hyz];exact hey) hxz hyz (W:=WX.drew)
 have hC:Hid _:=hC0
 clear hC0
 have hKeep:Hid (∀W',Below WX.heap.size WX W'→(fun w'=>w'.cell? ⟨w.heap.size,1,none⟩=some (.int .i64 (na:Int))∧w'.cell? ⟨w.heap.size,2,none⟩=some (.int .i64 (nb:Int))∧w'.cell? ⟨bb,off+na,none⟩=some (.slice x.A x.l.length x.cap)∧w'.cell? ⟨bb,off+nb,none⟩=some (.slice y.A y.l.length y.cap)) W'):=fun W' h=>⟨(h.cell (p:=⟨w.heap.size,1,none⟩) hsb).trans q1,(h.cell (p:=⟨w.heap.size,2,none⟩) hsb).trans q2,(h.cell (p:=⟨bb,off+na,none⟩) (nL hbb hgW.out.size)).trans ((hgW.out.below.cell (p:=⟨bb,off+na,none⟩) hbb).trans hxc),(h.cell (p:=⟨bb,off+nb,none⟩) (nL hbb hgW.out.size)).trans ((hgW.out.below.cell (p:=⟨bb,off+nb,none⟩) hbb).trans hyc)⟩
 have hbD:Hid (Below WX.heap.size WX WX.drew):=(bR _ _).drew
 have hnaz:(na:Int)<(ss.length:Int):=by omega
 have hnbz:(nb:Int)<(ss.length:Int):=by omega
 rw[hE2,hk,hna,hnb]
 clear hk hE2 hxc hyc hxl hyl hxz hyz hna hnb ha0 ha1 hb0 hb1 hnal hnbl hbb q1 q2 hS
 go_enter Tryz.func70,Tryz.ntmps70
 go_wp2_with fail
 clear hWX
 refine wp_region_noPanic ?_
 refine wp_region_held_drew (S:=(fun w'=>w'.cell? ⟨w.heap.size,1,none⟩=some (.int .i64 (na:Int))∧w'.cell? ⟨w.heap.size,2,none⟩=some (.int .i64 (nb:Int))∧w'.cell? ⟨bb,off+na,none⟩=some (.slice x.A x.l.length x.cap)∧w'.cell? ⟨bb,off+nb,none⟩=some (.slice y.A y.l.length y.cap))) (by kernel_rfl) (hKeep.out _ hbD.out) (fun hHeld=> ?_)
 refine tks [0,1,2,3,4,5,6,7,8,9] (by assumption) ?_
 iterate 10 (refine tk (v:= ?_) (by rfl) (by kernel_rfl) ?_ ?_;rotate_left;· (refine oL ⟨by rfl,?_⟩;intro w hSw;(try dsimp only at hSw);go_simp<;>with_reducible rfl);try simp only[Act.put,yA,aC,yS])
 refine tk0 ?_
 refine wpAnyH_ready (rs:=[10]) (by kernel_rfl) (by simp) ?_
 refine AllReadyH.cons (o:= ?oitell611) ?hoptell611 (fun K hK=> ?steptell611) ?moretell611
 case hoptell611=>(simp only[zA,z0',zS];rfl)
 case moretell611=>exact AllReadyH.nil
 go_simp
 (go_at_call 99;(refine cM (show Calls _ _ _ _ _ from hC.out) ?_);rintro e w2 ⟨L,C,k,rfl,h1,h2,h3,h4⟩;rw[hE3.out];have hb2:Hid (Below WX.heap.size WX w2):=hbD.out.trans (h3.mono hbD.out.size);have hfin:Hid (L.map Itm.z=aT s (a.map Itm.z) (b.map Itm.z) S∧Lv w2 C k L∧Below w.heap.size w w2∧NwT w2 k w.heap.size C L):=⟨by rw[hE.out.2];exact h1,h2,hgW.out.below.trans (hb2.out.mono hgW.out.size),h4.mono (nT hgW.out.size hbD.out.size)⟩;clear h1 h2 h3 h4)
 first|(go_wp2_with fail)|skip
 refine hK.out _ _ ?_ (fun hHeld=> ?_)
 ·(try dsimp only);first|with_reducible exact hKeep.out _ hbD.out|with_reducible exact hKeep.out _ hb2.out
 clear hK K
 try simp only[Act.put,yA,aC,yS]
 refine tks [11,12,13,14] (by assumption) ?_
 iterate 4 (refine tk (v:= ?_) (by rfl) (by kernel_rfl) ?_ ?_;rotate_left;· (refine oL ⟨by rfl,?_⟩;intro w hSw;(try dsimp only at hSw);go_simp<;>with_reducible rfl);try simp only[Act.put,yA,aC,yS])
 refine tk0 ?_
 refine wpAnyH_done (by kernel_rfl) ?_ _
 refine NoPanic.normal ?_
 go_wp2
 go_ret2
 exact ⟨L,C,k,rfl,hfin.out.1,hfin.out.2.1,hfin.out.2.2⟩
theorem zc (s:Stp) (a b:List Itm) (A B:Option Addr) (ca cb:Nat) (SA:Option Addr) (sc:Nat) (ss:List Sl) (S:List (List Zit)) (w:World) (hk:s.k=4) (ha0:0≤s.a) (ha1:s.a.toNat<S.length) (hb0:0≤s.b) (hb1:s.b.toNat<S.length) (hS:Sts w SA ss S) (hJo:∀l r:List Itm,l.map Itm.z=bD S s.a→r.map Itm.z=bD S s.b→JoinOk s.c s.v l r) :
  Calls Tryz.prog 70 #[.agg #[.int .i64 s.k,.int .i64 s.a,.int .i64 s.b,.int .i64 s.c,.int .i64 s.o,.int .i64 s.v,.slice s.p s.l.length s.n],.agg #[.slice A a.length ca,.slice B b.length cb],.slice SA ss.length sc] w fun e w'=>∃(L:List Itm) (C:Option Addr) (k:Nat),e= .returned (.tuple #[.slice C L.length k,.int .i64 (aQ s (a.map Itm.z) (b.map Itm.z) S)])∧L.map Itm.z=aT s (a.map Itm.z) (b.map Itm.z) S∧Lv w' C k L∧Below w.heap.size w w'∧NwT w' k w.heap.size C L:=by
 have hE:Hid (aQ s (a.map Itm.z) (b.map Itm.z) S=jC (bD S s.a) (bD S s.b) s.c s.v∧aT s (a.map Itm.z) (b.map Itm.z) S=kM (bD S s.a) (bD S s.b) s.c s.v):=⟨by unfold aQ;rw[if_neg (by omega),if_pos hk],by unfold aT;rw[if_neg (by omega),if_pos hk]⟩
 obtain ⟨bb,off,na,x,hA,hbb,hna,hnal,hxc,hxl,hxz⟩:=hS.at ha0 ha1
 obtain ⟨bb',off',nb,y,hA',_,hnb,hnbl,hyc,hyl,hyz⟩:=hS.at hb0 hb1
 subst hA
 cases hA'
 obtain ⟨E,hE2⟩:∃E,aQ s (a.map Itm.z) (b.map Itm.z) S=E:=⟨_,rfl⟩
 have hE3:Hid (jC (bD S s.a) (bD S s.b) s.c s.v=E):=by show _=_;rw[←hE2,hE.out.1]
 have hgW:Hid (Gr w ((w.alloc (.cells #[.int .i64 4,.int .i64 (na:Int),.int .i64 (nb:Int),.int .i64 s.c,.int .i64 s.o,.int .i64 s.v,.slice s.p s.l.length s.n] 105)).alloc (.cells #[.slice A a.length ca,.slice B b.length cb] 68))):=((gR _).alloc _).alloc _
 obtain ⟨WX,hWX⟩:∃WX,((w.alloc (.cells #[.int .i64 4,.int .i64 (na:Int),.int .i64 (nb:Int),.int .i64 s.c,.int .i64 s.o,.int .i64 s.v,.slice s.p s.l.length s.n] 105)).alloc (.cells #[.slice A a.length ca,.slice B b.length cb] 68))=WX:=⟨_,rfl⟩
 have q0:WX.cell? ⟨w.heap.size,0,none⟩=some (.int .i64 4):=by rw[←hWX];exact aa (w:=w) ((gR _).alloc _) rfl
 have q1:WX.cell? ⟨w.heap.size,1,none⟩=some (.int .i64 (na:Int)):=by rw[←hWX];exact aa (w:=w) ((gR _).alloc _) rfl
 have q2:WX.cell? ⟨w.heap.size,2,none⟩=some (.int .i64 (nb:Int)):=by rw[←hWX];exact aa (w:=w) ((gR _).alloc _) rfl
 have q3:WX.cell? ⟨w.heap.size,3,none⟩=some (.int .i64 s.c):=by rw[←hWX];exact aa (w:=w) ((gR _).alloc _) rfl
 have q5:WX.cell? ⟨w.heap.size,5,none⟩=some (.int .i64 s.v):=by rw[←hWX];exact aa (w:=w) ((gR _).alloc _) rfl
 have hsb:w.heap.size<WX.heap.size:=by rw[←hWX];simp;omega
 rw[hWX] at hgW
 have hC0:=zy ((hxl.gr hgW.out).gr (gR _).drew) ((hyl.gr hgW.out).gr (gR _).drew) (hJo x.l y.l hxz hyz) hxz hyz (W:=WX.drew)
 have hC:Hid _:=hC0
 clear hC0
 have hKeep:Hid (∀W',Below WX.heap.size WX W'→(fun w'=>w'.cell? ⟨w.heap.size,1,none⟩=some (.int .i64 (na:Int))∧w'.cell? ⟨w.heap.size,2,none⟩=some (.int .i64 (nb:Int))∧w'.cell? ⟨bb,off+na,none⟩=some (.slice x.A x.l.length x.cap)∧w'.cell? ⟨bb,off+nb,none⟩=some (.slice y.A y.l.length y.cap)∧w'.cell? ⟨w.heap.size,3,none⟩=some (.int .i64 s.c)∧w'.cell? ⟨w.heap.size,5,none⟩=some (.int .i64 s.v)) W'):=fun W' h=>⟨(h.cell (p:=⟨w.heap.size,1,none⟩) hsb).trans q1,(h.cell (p:=⟨w.heap.size,2,none⟩) hsb).trans q2,(h.cell (p:=⟨bb,off+na,none⟩) (nL hbb hgW.out.size)).trans ((hgW.out.below.cell (p:=⟨bb,off+na,none⟩) hbb).trans hxc),(h.cell (p:=⟨bb,off+nb,none⟩) (nL hbb hgW.out.size)).trans ((hgW.out.below.cell (p:=⟨bb,off+nb,none⟩) hbb).trans hyc),(h.cell (p:=⟨w.heap.size,3,none⟩) hsb).trans q3,(h.cell (p:=⟨w.heap.size,5,none⟩) hsb).trans q5⟩
 have hbD:Hid (Below WX.heap.size WX WX.drew):=(bR _ _).drew
 have hnaz:(na:Int)<(ss.length:Int):=by omega
 have hnbz:(nb:Int)<(ss.length:Int):=by omega
 rw[hE2,hk,hna,hnb]
 clear hk hE2 hxc hyc hxl hyl hxz hyz hna hnb ha0 ha1 hb0 hb1 hnal hnbl hbb q1 q2 q3 q5 hS
 go_enter Tryz.func70,Tryz.ntmps70
 go_wp2_with fail
 clear hWX
 refine wp_region_noPanic ?_
 refine wp_region_held_drew (S:=(fun w'=>w'.cell? ⟨w.heap.size,1,none⟩=some (.int .i64 (na:Int))∧w'.cell? ⟨w.heap.size,2,none⟩=some (.int .i64 (nb:Int))∧w'.cell? ⟨bb,off+na,none⟩=some (.slice x.A x.l.length x.cap)∧w'.cell? ⟨bb,off+nb,none⟩=some (.slice y.A y.l.length y.cap)∧w'.cell? ⟨w.heap.size,3,none⟩=some (.int .i64 s.c)∧w'.cell? ⟨w.heap.size,5,none⟩=some (.int .i64 s.v))) (by kernel_rfl) (hKeep.out _ hbD.out) (fun hHeld=> ?_)
 refine tks [0,1,2,3,4,5,6,7,8,9,10,11,12,13] (by assumption) ?_
 iterate 14 (refine tk (v:= ?_) (by rfl) (by kernel_rfl) ?_ ?_;rotate_left;· (refine oL ⟨by rfl,?_⟩;intro w hSw;(try dsimp only at hSw);go_simp<;>with_reducible rfl);try simp only[Act.put,yA,aC,yS])
 refine tk0 ?_
 refine wpAnyH_ready (rs:=[14]) (by kernel_rfl) (by simp) ?_
 refine AllReadyH.cons (o:= ?oitell415) ?hoptell415 (fun K hK=> ?steptell415) ?moretell415
 case hoptell415=>(simp only[zA,z0',zS];rfl)
 case moretell415=>exact AllReadyH.nil
 go_simp
 (go_at_call 97;(refine cM (show Calls _ _ _ _ _ from hC.out) ?_);rintro e w2 ⟨L,C,k,rfl,h1,h2,h3,h4⟩;rw[hE3.out];have hb2:Hid (Below WX.heap.size WX w2):=hbD.out.trans (h3.mono hbD.out.size);have hfin:Hid (L.map Itm.z=aT s (a.map Itm.z) (b.map Itm.z) S∧Lv w2 C k L∧Below w.heap.size w w2∧NwT w2 k w.heap.size C L):=⟨by rw[hE.out.2];exact h1,h2,hgW.out.below.trans (hb2.out.mono hgW.out.size),h4.mono (nT hgW.out.size hbD.out.size)⟩;clear h1 h2 h3 h4)
 first|(go_wp2_with fail)|skip
 refine hK.out _ _ ?_ (fun hHeld=> ?_)
 ·(try dsimp only);first|with_reducible exact hKeep.out _ hbD.out|with_reducible exact hKeep.out _ hb2.out
 clear hK K
 try simp only[Act.put,yA,aC,yS]
 refine tks [15,16,17,18] (by assumption) ?_
 iterate 4 (refine tk (v:= ?_) (by rfl) (by kernel_rfl) ?_ ?_;rotate_left;· (refine oL ⟨by rfl,?_⟩;intro w hSw;(try dsimp only at hSw);go_simp<;>with_reducible rfl);try simp only[Act.put,yA,aC,yS])
 refine tk0 ?_
 refine wpAnyH_done (by kernel_rfl) ?_ _
 refine NoPanic.normal ?_
 go_wp2
 go_ret2
 exact ⟨L,C,k,rfl,hfin.out.1,hfin.out.2.1,hfin.out.2.2⟩
theorem jp (s:Stp) (a b:List Itm) (A B:Option Addr) (ca cb:Nat) (SA:Option Addr) (sc:Nat) (ss:List Sl) (S:List (List Zit)) (w:World) (kz:Int) (hkz:s.k=kz) (hk:kz=2∨kz=3∨kz=8∨kz=7∨kz=9) (ha0:0≤s.a) (ha1:s.a.toNat<S.length) (hS:Sts w SA ss S) (hs:ay w s.p s.l) (hO:∀l:List Itm,l.map Itm.z=bD S s.a→OneOk s l) :
  Calls Tryz.prog 70 #[.agg #[.int .i64 s.k,.int .i64 s.a,.int .i64 s.b,.int .i64 s.c,.int .i64 s.o,.int .i64 s.v,.slice s.p s.l.length s.n],.agg #[.slice A a.length ca,.slice B b.length cb],.slice SA ss.length sc] w fun e w'=>∃(L:List Itm) (C:Option Addr) (k:Nat),e= .returned (.tuple #[.slice C L.length k,.int .i64 (aQ s (a.map Itm.z) (b.map Itm.z) S)])∧L.map Itm.z=aT s (a.map Itm.z) (b.map Itm.z) S∧Lv w' C k L∧Below w.heap.size w w'∧NwT w' k w.heap.size C L:=by
 have hE:Hid (aQ s (a.map Itm.z) (b.map Itm.z) S=bW (dV s (bD S s.a))∧aT s (a.map Itm.z) (b.map Itm.z) S=df (dV s (bD S s.a))):=⟨by unfold aQ;rw[if_neg (by omega),if_neg (by omega),if_neg (by omega),if_neg (by omega)],by unfold aT;rw[if_neg (by omega),if_neg (by omega),if_neg (by omega),if_neg (by omega)]⟩
 obtain ⟨bb,off,na,x,hA,hbb,hna,hnal,hxc,hxl,hxz⟩:=hS.at ha0 ha1
 subst hA
 obtain ⟨E,hE2⟩:∃E,aQ s (a.map Itm.z) (b.map Itm.z) S=E:=⟨_,rfl⟩
 have hE3:Hid (bW (dV s (bD S s.a))=E):=by show _=_;rw[←hE2,hE.out.1]
 have hgW:Hid (Gr w ((w.alloc (.cells #[.int .i64 kz,.int .i64 (na:Int),.int .i64 s.b,.int .i64 s.c,.int .i64 s.o,.int .i64 s.v,.slice s.p s.l.length s.n] 105)).alloc (.cells #[.slice A a.length ca,.slice B b.length cb] 68))):=((gR _).alloc _).alloc _
 obtain ⟨WX,hWX⟩:∃WX,((w.alloc (.cells #[.int .i64 kz,.int .i64 (na:Int),.int .i64 s.b,.int .i64 s.c,.int .i64 s.o,.int .i64 s.v,.slice s.p s.l.length s.n] 105)).alloc (.cells #[.slice A a.length ca,.slice B b.length cb] 68))=WX:=⟨_,rfl⟩
 have q0:WX.cell? ⟨w.heap.size,0,none⟩=some (.int .i64 kz):=by rw[←hWX];exact aa (w:=w) ((gR _).alloc _) rfl
 have q1:WX.cell? ⟨w.heap.size,1,none⟩=some (.int .i64 (na:Int)):=by rw[←hWX];exact aa (w:=w) ((gR _).alloc _) rfl
 have q2:WX.cell? ⟨w.heap.size,2,none⟩=some (.int .i64 s.b):=by rw[←hWX];exact aa (w:=w) ((gR _).alloc _) rfl
 have q3:WX.cell? ⟨w.heap.size,3,none⟩=some (.int .i64 s.c):=by rw[←hWX];exact aa (w:=w) ((gR _).alloc _) rfl
 have q4:WX.cell? ⟨w.heap.size,4,none⟩=some (.int .i64 s.o):=by rw[←hWX];exact aa (w:=w) ((gR _).alloc _) rfl
 have q5:WX.cell? ⟨w.heap.size,5,none⟩=some (.int .i64 s.v):=by rw[←hWX];exact aa (w:=w) ((gR _).alloc _) rfl
 have q6:WX.cell? ⟨w.heap.size,6,none⟩=some (.slice s.p s.l.length s.n):=by rw[←hWX];exact aa (w:=w) ((gR _).alloc _) rfl
 have hsb:w.heap.size<WX.heap.size:=by rw[←hWX];simp;omega
 rw[hWX] at hgW
 have hk2:s.k=2∨s.k=3∨s.k=8∨s.k=7∨s.k=9:=by omega
 have hC0:=wd s x.l x.A x.cap WX.drew hk2 (hO x.l hxz) ((hxl.items.gr hgW.out).gr (gR _).drew) ((hs.gr hgW.out).gr (gR _).drew)
 rw[hkz,hna] at hC0
 have hC:Hid _:=hC0
 clear hC0
 have hxzH:Hid (x.l.map Itm.z=bD S s.a):=hxz
 have hKeep:Hid (∀W',Below WX.heap.size WX W'→(fun w'=>w'.cell? ⟨w.heap.size,0,none⟩=some (.int .i64 kz)∧w'.cell? ⟨w.heap.size,1,none⟩=some (.int .i64 (na:Int))∧w'.cell? ⟨w.heap.size,2,none⟩=some (.int .i64 s.b)∧w'.cell? ⟨w.heap.size,3,none⟩=some (.int .i64 s.c)∧w'.cell? ⟨w.heap.size,4,none⟩=some (.int .i64 s.o)∧w'.cell? ⟨w.heap.size,5,none⟩=some (.int .i64 s.v)∧w'.cell? ⟨w.heap.size,6,none⟩=some (.slice s.p s.l.length s.n)∧w'.cell? ⟨bb,off+na,none⟩=some (.slice x.A x.l.length x.cap)) W'):=fun W' h=>⟨(h.cell (p:=⟨w.heap.size,0,none⟩) hsb).trans q0,(h.cell (p:=⟨w.heap.size,1,none⟩) hsb).trans q1,(h.cell (p:=⟨w.heap.size,2,none⟩) hsb).trans q2,(h.cell (p:=⟨w.heap.size,3,none⟩) hsb).trans q3,(h.cell (p:=⟨w.heap.size,4,none⟩) hsb).trans q4,(h.cell (p:=⟨w.heap.size,5,none⟩) hsb).trans q5,(h.cell (p:=⟨w.heap.size,6,none⟩) hsb).trans q6,(h.cell (p:=⟨bb,off+na,none⟩) (nL hbb hgW.out.size)).trans ((hgW.out.below.cell (p:=⟨bb,off+na,none⟩) hbb).trans hxc)⟩
 have hbD:Hid (Below WX.heap.size WX WX.drew):=(bR _ _).drew
 have hnaz:(na:Int)<(ss.length:Int):=by omega
 have kz1:(kz==1)=false:=by rcases hk with h|h|h|h|h<;>rw[h]<;>rfl
 have kz4:(kz==4)=false:=by rcases hk with h|h|h|h|h<;>rw[h]<;>rfl
 have kz5:(kz==5)=false:=by rcases hk with h|h|h|h|h<;>rw[h]<;>rfl
 have kz6:(kz==6)=false:=by rcases hk with h|h|h|h|h<;>rw[h]<;>rfl
 rw[hE2,hkz,hna]
 clear hk hk2 hE2 hxc hxl hxz hna ha0 ha1 hnal hbb q1 q2 q3 q4 q5 q6 hS hs hO hkz
 go_enter Tryz.func70,Tryz.ntmps70
 go_wp2_with fail
 clear hWX q0
 refine wp_region_noPanic ?_
 refine wp_region_held_drew (S:=(fun w'=>w'.cell? ⟨w.heap.size,0,none⟩=some (.int .i64 kz)∧w'.cell? ⟨w.heap.size,1,none⟩=some (.int .i64 (na:Int))∧w'.cell? ⟨w.heap.size,2,none⟩=some (.int .i64 s.b)∧w'.cell? ⟨w.heap.size,3,none⟩=some (.int .i64 s.c)∧w'.cell? ⟨w.heap.size,4,none⟩=some (.int .i64 s.o)∧w'.cell? ⟨w.heap.size,5,none⟩=some (.int .i64 s.v)∧w'.cell? ⟨w.heap.size,6,none⟩=some (.slice s.p s.l.length s.n)∧w'.cell? ⟨bb,off+na,none⟩=some (.slice x.A x.l.length x.cap))) (by kernel_rfl) (hKeep.out _ hbD.out) (fun hHeld=> ?_)
 refine tks [0,1,2,3,4,5] (by assumption) ?_
 iterate 6 (refine tk (v:= ?_) (by rfl) (by kernel_rfl) ?_ ?_;rotate_left;· (refine oL ⟨by rfl,?_⟩;intro w hSw;(try dsimp only at hSw);go_simp<;>with_reducible rfl);try simp only[Act.put,yA,aC,yS])
 refine tk0 ?_
 refine wpAnyH_ready (rs:=[6]) (by kernel_rfl) (by simp) ?_
 refine AllReadyH.cons (o:= ?oitellOne7) ?hoptellOne7 (fun K hK=> ?steptellOne7) ?moretellOne7
 case hoptellOne7=>(simp only[zA,z0',zS];rfl)
 case moretellOne7=>exact AllReadyH.nil
 go_simp
 (go_at_call 100;(refine cM (show Calls _ _ _ _ _ from hC.out) ?_);rintro e w1 ⟨L1,C1,k1,rfl,g1,g2,g3,g4⟩;have hb1:Hid (Below WX.heap.size WX w1):=hbD.out.trans (g4.mono hbD.out.size);have hN0:=nA g2 (m:=dV s (bD S s.a)) (by rw[g1,hxzH.out]);have hN:Hid _:=hN0;clear hN0 g1 g2 g3 g4)
 first|(go_wp2_with fail)|skip
 refine hK.out _ _ ?_ (fun hHeld=> ?_)
 ·(try dsimp only);first|with_reducible exact hKeep.out _ hbD.out|with_reducible exact hKeep.out _ hb2.out|with_reducible exact hKeep.out _ hb1.out
 clear hK K
 try simp only[Act.put,yA,aC,yS]
 refine wpAnyH_ready (rs:=[7]) (by kernel_rfl) (by simp) ?_
 refine AllReadyH.cons (o:= ?oitellOne8) ?hoptellOne8 (fun K hK=> ?steptellOne8) ?moretellOne8
 case hoptellOne8=>(simp only[zA,z0',zS];rfl)
 case moretellOne8=>exact AllReadyH.nil
 go_simp
 (go_at_call 96;(refine cM (show Calls _ _ _ _ _ from hN.out) ?_);rintro e w2 ⟨L,C,k,rfl,h1,h2,h3,h4⟩;rw[hE3.out];have hb2:Hid (Below WX.heap.size WX w2):=hb1.out.trans (h3.mono hb1.out.size);have hfin:Hid (L.map Itm.z=aT s (a.map Itm.z) (b.map Itm.z) S∧Lv w2 C k L∧Below w.heap.size w w2∧NwT w2 k w.heap.size C L):=⟨by rw[hE.out.2];exact h1,h2,hgW.out.below.trans (hb2.out.mono hgW.out.size),h4.mono (nT hgW.out.size hb1.out.size)⟩;clear h1 h2 h3 h4)
 first|(go_wp2_with fail)|skip
 refine hK.out _ _ ?_ (fun hHeld=> ?_)
 ·(try dsimp only);first|with_reducible exact hKeep.out _ hbD.out|with_reducible exact hKeep.out _ hb2.out|with_reducible exact hKeep.out _ hb1.out
 clear hK K
 try simp only[Act.put,yA,aC,yS]
 refine tks [8,9,10,11] (by assumption) ?_
 iterate 4 (refine tk (v:= ?_) (by rfl) (by kernel_rfl) ?_ ?_;rotate_left;· (refine oL ⟨by rfl,?_⟩;intro w hSw;(try dsimp only at hSw);go_simp<;>with_reducible rfl);try simp only[Act.put,yA,aC,yS])
 refine tk0 ?_
 refine wpAnyH_done (by kernel_rfl) ?_ _
 refine NoPanic.normal ?_
 go_wp2
 go_ret2
 exact ⟨L,C,k,rfl,hfin.out.1,hfin.out.2.1,hfin.out.2.2⟩
end Go.Proofs.YtckeonpnfankhaaGreatDoor

namespace Go.Proofs.YtckeonpnfankhaaGreatDoor

theorem lq {l m:List Zit} {x:Zit} (hx:x.2≠0) (hlt:∀y∈m,aB x.1 y.1<0) (hw:∀r,wt l r=(if x.1=r then x.2 else 0)+wt m r):cK l=x::cK m:=by
 refine (aZ l).uniq (m:=l) (T:=x::cK m) ⟨?_,?_,?_⟩ (fun _=>rfl)
 ·unfold eC
  rw[List.pairwise_cons]
  exact ⟨fun y hy=>by
   obtain ⟨z,hz,e⟩:=(aZ m).row hy
   rw[←e];exact hlt z hz,(aZ m).rise⟩
 ·intro y hy
  rcases List.mem_cons.1 hy with e|e
  ·rw[e];exact hx
  ·exact (aZ m).noz y e
 ·intro r
  show (if x.1=r then x.2 else 0)+wt (cK m) r=_
  rw[(aZ m).same,hw]
def aX (a b:List Zit):List Zit:=cK (a++eX b)
theorem fM (a b:List Zit) (r:List Int):wt (a++eX b) r=wt a r-wt b r:=by
 rw[ci]
 have:=uJ b r
 unfold eX
 omega
theorem kw {b:List Zit} {z:Zit} (h:z∈eX b):∃y∈b,y.1=z.1:=by
 obtain ⟨y,hy,rfl⟩:=List.mem_map.1 h
 exact ⟨y,hy,rfl⟩
theorem xh:aX [] []=[]:=rfl
theorem yi {x:Zit} {t b:List Zit} (ha:eC (x::t)) (hx:x.2≠0) (hb:∀y∈b,aB x.1 y.1<0):aX (x::t) b=x::aX t b:=by
 refine lq hx (fun z hz=> ?_) (fun r=> ?_)
 ·rcases List.mem_append.1 hz with e|e
  ·exact (List.pairwise_cons.1 ha).1 z e
  ·obtain ⟨y,hy,e2⟩:=kw e
   rw[←e2];exact hb y hy
 ·rw[fM,fM]
  simp only[wt]
  omega
theorem xZ {y:Zit} {a u:List Zit} (hb:eC (y::u)) (hy:y.2≠0) (ha:∀x∈a,aB y.1 x.1<0):aX a (y::u)=(y.1,-y.2)::aX a u:=by
 refine lq (x:=(y.1,-y.2)) (by show -y.2≠0;omega) (fun z hz=> ?_) (fun r=> ?_)
 ·rcases List.mem_append.1 hz with e|e
  ·exact ha z e
  ·obtain ⟨v,hv,e2⟩:=kw e
   rw[←e2];exact (List.pairwise_cons.1 hb).1 v hv
 ·rw[fM,fM]
  simp only[wt]
  by_cases e:y.1=r
  ·simp only[if_pos e];omega
  ·simp only[if_neg e];omega
theorem yv {x y:Zit} {t u:List Zit} (ha:eC (x::t)) (hb:eC (y::u)) (h:x.1=y.1):aX (x::t) (y::u)=if x.2-y.2=0 then aX t u else (y.1,x.2-y.2)::aX t u:=by
 have hw:∀r,wt ((x::t)++eX (y::u)) r=(if y.1=r then x.2-y.2 else 0)+wt (t++eX u) r:=fun r=>by
  rw[fM,fM]
  simp only[wt,h]
  by_cases e:y.1=r
  ·rw[if_pos e,if_pos e];simp only[if_pos e];omega
  ·rw[if_neg e,if_neg e];simp only[if_neg e];omega
 by_cases h0:x.2-y.2=0
 ·rw[if_pos h0]
  refine fo fun r=> ?_
  rw[hw r,h0]
  by_cases e:y.1=r
  ·rw[if_pos e];omega
  ·rw[if_neg e];omega
 ·rw[if_neg h0]
  refine lq (x:=(y.1,x.2-y.2)) h0 (fun z hz=> ?_) hw
  rcases List.mem_append.1 hz with e|e
  ·show aB y.1 z.1<0
   rw[←h];exact (List.pairwise_cons.1 ha).1 z e
  ·obtain ⟨v,hv,e2⟩:=kw e
   rw[←e2];exact (List.pairwise_cons.1 hb).1 v hv
theorem uQ {a:List Zit} (ha:av a=0):cK a=a:=by
 have h:=(bx a).1 ha
 exact (aZ _).uniq (⟨h.2.2,ru h.2.1,fun _=>rfl⟩:IsTot a a) fun _=>rfl
def fW (a b:List Zit):Int:=if av a=0 then (if av b=0 then (if (a++b).all (fun x=>decide (x.1.length=4))=true then 0 else 5) else av b) else av a
theorem js (q:List Stp) (a b:List Zit):mj q a b=if bS q=0 then fW a b else bS q:=rfl
theorem wP {a b:List Zit} (h1:av a=0) (h2:av b=0) (h3:cQ 4 a) (h4:cQ 4 b):fW a b=0:=by
 unfold fW
 rw[if_pos h1,if_pos h2,if_pos]
 rw[List.all_eq_true]
 intro x hx
 rcases List.mem_append.1 hx with e|e
 ·exact decide_eq_true (by have:=h3 x e;omega)
 ·exact decide_eq_true (by have:=h4 x e;omega)
def il (q:List Stp) (s t a b:List Zit):Int:=if fW a b=0 then (if aP s a=0 then (if aP t b=0 then cH q (aN s a) (aN t b) else aP t b) else aP s a) else fW a b
theorem pW {q:List Stp} {s t a b:List Zit} (h:il q s t a b=0):fW a b=0∧aP s a=0∧aP t b=0∧cH q (aN s a) (aN t b)=0:=by
 unfold il at h
 by_cases h1:fW a b=0
 ·rw[if_pos h1] at h
  by_cases h2:aP s a=0
  ·rw[if_pos h2] at h
   by_cases h3:aP t b=0
   ·rw[if_pos h3] at h;exact ⟨h1,h2,h3,h⟩
   ·rw[if_neg h3] at h;exact absurd h h3
  ·rw[if_neg h2] at h;exact absurd h h2
 ·rw[if_neg h1] at h;exact absurd h h1
def bare (s:Stp):Stp:={ s with p:=none,n:=0 }
theorem uM (s:Stp) (ah:List Int):aH (bare s) ah=aH s ah:=rfl
theorem mY:∀(q:List Stp) (ah:List Int),dm (q.map bare) ah=dm q ah
 | [],_=>rfl
 | s::q,ah=>by
  show (if aH (bare s) ah=0 then none else dm (q.map bare) (ah++[aH (bare s) ah]))=_
  rw[uM,mY q]
  rfl
theorem sw (q:List Stp):bS (q.map bare)=bS q:=by
 unfold bS
 rw[List.length_map,mY]
theorem qt (s:Stp) (a b:List Zit) (S:List (List Zit)):aQ (bare s) a b S=aQ s a b S:=rfl
theorem qO (s:Stp) (a b:List Zit) (S:List (List Zit)):aT (bare s) a b S=aT s a b S:=rfl
theorem mM (a b:List Zit):∀(q:List Stp) (S:List (List Zit)),iN a b (q.map bare) S=iN a b q S
 | [],_=>rfl
 | s::q,S=>by
  show (if aQ (bare s) a b S=0 then iN a b (q.map bare) (S++[aT (bare s) a b S]) else aQ (bare s) a b S)=_
  rw[qt,qO,mM a b q]
  rfl
theorem mU (q:List Stp) (a b:List Zit):cH (q.map bare) a b=cH q a b:=by
 unfold cH
 rw[js,js,sw,mM]
theorem s9 {q r:List Stp} (h:q.map bare=r.map bare) (a b:List Zit):cH q a b=cH r a b:=by rw[←mU q,h,mU]
end Go.Proofs.YtckeonpnfankhaaGreatDoor

namespace Go.Proofs.YtckeonpnfankhaaGreatDoor
open Go.RowKit Go.Sort Go.Maps

theorem nW {q:List Stp} {A:Option Addr} {ca:Nat} {w:World} {E:Int} (hE:bS q=E) (hl:q.length≤maxLen) (hq:Stps w A q) :
  Calls Tryz.prog 42 #[.slice A q.length ca] w fun e w'=>e= .returned (.int .i64 E)∧Below w.heap.size w w':=by rw[←hE];exact kD q A ca w hl hq
theorem zB (x y:Value) (w:World):(Instr.index 68 (.agg #[x,y]) (.int .i64 0)).run Tryz.prog w= .ok x w:=by kernel_rfl
theorem zM (x y:Value) (w:World):(Instr.index 68 (.agg #[x,y]) (.int .i64 1)).run Tryz.prog w= .ok y w:=by kernel_rfl
theorem iO (a b:List Itm) (A B:Option Addr) (ca cb:Nat) (w:World) (ha:Lv w A ca a) (hb:Lv w B cb b) :
  Calls Tryz.prog 69 #[.slice A a.length ca,.slice B b.length cb] w fun e w'=>e= .returned (.int .i64 (fW (a.map Itm.z) (b.map Itm.z)))∧Gr w w':=by
 have hgX:Hid (Gr w (w.alloc (.cells #[.slice A a.length ca,.slice B b.length cb] 68))):=(gR _).alloc _
 obtain ⟨w1,hWX⟩:∃WX,(w.alloc (.cells #[.slice A a.length ca,.slice B b.length cb] 68))=WX:=⟨_,rfl⟩
 have s0:w1.cell? ⟨w.heap.size,0,none⟩=some (.slice A a.length ca):=by rw[←hWX];exact aa (w:=w) (gR _) rfl
 have s1:w1.cell? ⟨w.heap.size,1,none⟩=some (.slice B b.length cb):=by rw[←hWX];exact aa (w:=w) (gR _) rfl
 have hst1:w.heap.size<w1.heap.size:=by rw[←hWX];simp
 rw[hWX] at hgX
 obtain ⟨E2,hE2⟩:∃E,av (a.map Itm.z)=E:=⟨_,rfl⟩
 obtain ⟨E3,hE3⟩:∃E,av (b.map Itm.z)=E:=⟨_,rfl⟩
 obtain ⟨E,hE⟩:∃E,fW (a.map Itm.z) (b.map Itm.z)=E:=⟨_,rfl⟩
 have hEs:Hid (fW (a.map Itm.z) (b.map Itm.z)=E∧True∧av (a.map Itm.z)=E2∧av (b.map Itm.z)=E3):=⟨hE,trivial,hE2,hE3⟩
 rw[hE]
 have hbW:Hid (Gr w w1∧Lv w1 A ca a∧Lv w1 B cb b):=⟨hgX.out,ha.gr hgX.out,hb.gr hgX.out⟩
 clear ha hb hE2 hE3 hE hgX
 have i0:=zB (.slice A a.length ca) (.slice B b.length cb)
 have i1:=zM (.slice A a.length ca) (.slice B b.length cb)
 go_enter Tryz.func69,Tryz.ntmps69
 go_wp2
 clear hWX
 refine wp_loop_rounds 3 ?_
 rw[rounds_succ]
 have hZa:Hid (∀W,Gr w1 W→Calls Tryz.prog 95 #[.slice A a.length ca] W fun e w'=>e= .returned (.int .i64 E2)∧Gr W w'):=fun W h=>by rw[←hEs.out.2.2.1];exact vH (hbW.out.2.1.gr h) rfl
 have hZb:Hid (∀W,Gr w1 W→Calls Tryz.prog 95 #[.slice B b.length cb] W fun e w'=>e= .returned (.int .i64 E3)∧Gr W w'):=fun W h=>by rw[←hEs.out.2.2.2];exact vH (hbW.out.2.2.gr h) rfl
 cases h2:(E2 != 0)
 ·have hE20:E2=0:=by simpa using h2
  go_wp2_with (go_at_call 95;refine cM (hZa.out w1 (gR _)) ?_;rintro e w2 ⟨rfl,hg2⟩)
  rw[rounds_succ]
  cases h3:(E3 != 0)
  ·have hE30:E3=0:=by simpa using h3
   go_wp2_with (go_at_call 95;refine cM (hZb.out w2 hg2) ?_;rintro e w3 ⟨rfl,hg3⟩)
   rw[rounds_succ]
   have hg3':Hid (Gr w1 w3):=hg2.trans hg3
   have z0:w3.cell? ⟨w.heap.size,0,none⟩=some (.slice A a.length ca):=(hg3'.out.below.cell (p:=⟨w.heap.size,0,none⟩) hst1).trans s0
   have z1:w3.cell? ⟨w.heap.size,1,none⟩=some (.slice B b.length cb):=(hg3'.out.below.cell (p:=⟨w.heap.size,1,none⟩) hst1).trans s1
   clear hg2 hg3 hZa hZb
   go_wp2
   refine wp_loop_rounds 3 ?_
   rw[rounds_succ]
   go_wp2
   have hB3:Hid (Gr w w3∧Lv w3 A ca a∧Lv w3 B cb b):=⟨hbW.out.1.trans hg3'.out,hbW.out.2.1.gr hg3'.out,hbW.out.2.2.gr hg3'.out⟩
   have hla:a.length≤400:=(fy (by rw[hEs.out.2.2.1];exact hE20)).1
   have hlb:b.length≤400:=(fy (by rw[hEs.out.2.2.2];exact hE30)).1
   have hahd:Hid (E=if (a.map Itm.z++b.map Itm.z).all (fun x=>decide (x.1.length=4))=true then 0 else 5):=by
    show _=_;rw[←hEs.out.1];unfold fW;rw[if_pos (by rw[hEs.out.2.2.1];exact hE20),if_pos (by rw[hEs.out.2.2.2];exact hE30)]
   have hbad:Hid (∀x∈a++b,¬x.r.length=4→E=5):=fun x hx hn=>by
    rw[hahd.out,if_neg]
    intro h
    rw[←List.map_append] at h
    have:=List.all_eq_true.1 h x.z (List.mem_map.2 ⟨x,hx,rfl⟩)
    exact hn (of_decide_eq_true this)
   have hgood:Hid ((∀x∈a,x.r.length=4)→(∀x∈b,x.r.length=4)→E=0):=fun ha hb=>by
    rw[hahd.out,if_pos]
    rw[←List.map_append,List.all_eq_true]
    intro y hy
    obtain ⟨x,hx,rfl⟩:=List.mem_map.1 hy
    rcases List.mem_append.1 hx with e|e
    ·exact decide_eq_true (ha x e)
    ·exact decide_eq_true (hb x e)
   clear z0 z1 s0 s1
   go_loopw [32] (fun i wr=>∃k:Nat,k≤a.length∧i= .int .i64 k∧Hid ((∀x∈a.take k,x.r.length=4)∧Gr w3 wr)) (fun i _=>a.length-(intOf i).toNat)
   case atStart=>exact ⟨0,nZ _,rfl,fun x hx=>(by simp at hx),gR _⟩
   case round =>
    obtain ⟨k,hk,rfl,hR⟩:=hrel
    by_cases hlt:k<a.length
    ·have hltz:(k:Int)<(a.length:Int):=by omega
     obtain ⟨bb,off,rfl,hb,hcs⟩:=(hB3.out.2.1.gr hR.out.2).items.at hlt
     obtain ⟨x,hx⟩:∃x,a[k]=x:=⟨_,rfl⟩
     obtain ⟨e0,e1⟩:=hcs k hlt
     rw[hx] at e0 e1
     have hxm:Hid (x∈a):=by show _∈_;rw[←hx];exact gM hlt
     have htk:Hid (a.take (k+1)=a.take k++[x]):=by show _=_;rw[List.take_succ_eq_append_getElem hlt,hx]
     clear hcs hx
     cases h4:((x.r.length:Int) != 4)
     ·have h4':x.r.length=4:=by have:(x.r.length:Int)=4:=(by simpa using h4);omega
      have hfin:Hid ((∀y∈a.take (k+1),y.r.length=4)∧Gr w3 (wr.alloc (.cells #[.slice x.p x.r.length x.c,.int .i64 x.n] 101))):=⟨fun y hy=>by
       rw[htk.out] at hy
       rcases List.mem_append.1 hy with e|e
       ·exact hR.out.1 y e
       ·rw[List.mem_singleton.1 e];exact h4',hR.out.2.alloc _⟩
      clear h4'
      go_wp2
      go_roundw
      case rel=>exact ⟨k+1,by omega,by go_num,hfin⟩
      case measure=>simp[intOf];omega
     ·have h4':¬x.r.length=4:=by have:¬(x.r.length:Int)=4:=(by simpa using h4);omega
      have hfin:Hid (E=5):=hbad.out x (by simp[hxm.out]) h4'
      have hfB:Hid (Gr w (wr.alloc (.cells #[.slice x.p x.r.length x.c,.int .i64 x.n] 101))):=hB3.out.1.trans (hR.out.2.alloc _)
      clear h4'
      go_wp2
      go_ret
      exact ⟨by rw[hfin.out];rfl,hfB.out⟩
    ·have hltz:¬(k:Int)<(a.length:Int):=by omega
     have hall:Hid (∀x∈a,x.r.length=4):=by
      have:=hR.out.1
      rw[List.take_of_length_le (by omega)] at this
      exact this
     go_wp2
     rw[rounds_succ]
     have hallA:Hid (∀x∈a,x.r.length=4):=hall
     have hB4:Hid (Gr w wr∧Lv wr B cb b):=⟨hB3.out.1.trans hR.out.2,hB3.out.2.2.gr hR.out.2⟩
     clear hall hR hB3
     go_wp2
     generalize wr=w5 at hB4 ⊢
     go_loopw [32] (fun i wr=>∃k:Nat,k≤b.length∧i= .int .i64 k∧Hid ((∀x∈b.take k,x.r.length=4)∧Gr w5 wr)) (fun i _=>b.length-(intOf i).toNat)
     case atStart=>exact ⟨0,nZ _,rfl,fun x hx=>(by simp at hx),gR _⟩
     case round =>
      obtain ⟨k,hk,rfl,hR⟩:=hrel
      by_cases hlt:k<b.length
      ·have hltz:(k:Int)<(b.length:Int):=by omega
       obtain ⟨bb,off,rfl,hb,hcs⟩:=(hB4.out.2.gr hR.out.2).items.at hlt
       obtain ⟨x,hx⟩:∃x,b[k]=x:=⟨_,rfl⟩
       obtain ⟨e0,e1⟩:=hcs k hlt
       rw[hx] at e0 e1
       have hxm:Hid (x∈b):=by show _∈_;rw[←hx];exact gM hlt
       have htk:Hid (b.take (k+1)=b.take k++[x]):=by show _=_;rw[List.take_succ_eq_append_getElem hlt,hx]
       clear hcs hx
       cases h4:((x.r.length:Int) != 4)
       ·have h4':x.r.length=4:=by have:(x.r.length:Int)=4:=(by simpa using h4);omega
        have hfin:Hid ((∀y∈b.take (k+1),y.r.length=4)∧Gr w5 (wr.alloc (.cells #[.slice x.p x.r.length x.c,.int .i64 x.n] 101))):=⟨fun y hy=>by
         rw[htk.out] at hy
         rcases List.mem_append.1 hy with e|e
         ·exact hR.out.1 y e
         ·rw[List.mem_singleton.1 e];exact h4',hR.out.2.alloc _⟩
        clear h4'
        go_wp2
        go_roundw
        case rel=>exact ⟨k+1,by omega,by go_num,hfin⟩
        case measure=>simp[intOf];omega
       ·have h4':¬x.r.length=4:=by have:¬(x.r.length:Int)=4:=(by simpa using h4);omega
        have hfin:Hid (E=5):=hbad.out x (by simp[hxm.out]) h4'
        have hfB:Hid (Gr w (wr.alloc (.cells #[.slice x.p x.r.length x.c,.int .i64 x.n] 101))):=hB4.out.1.trans (hR.out.2.alloc _)
        clear h4'
        go_wp2
        go_ret
        exact ⟨by rw[hfin.out];rfl,hfB.out⟩
      ·have hltz:¬(k:Int)<(b.length:Int):=by omega
       have hallB:Hid (∀x∈b,x.r.length=4):=by
        have:=hR.out.1
        rw[List.take_of_length_le (by omega)] at this
        exact this
       go_wp2
       rw[rounds_succ]
       go_wp2
       go_ret
       exact ⟨by rw[hgood.out hallA.out hallB.out];rfl,hB4.out.1.trans hR.out.2⟩
  ·have hfin:Hid (E3=E):=by
    have hn:¬av (b.map Itm.z)=0:=by rw[hEs.out.2.2.2];simpa using h3
    show _=_;rw[←hEs.out.1];unfold fW;rw[if_pos (by rw[hEs.out.2.2.1];exact hE20),if_neg hn];exact hEs.out.2.2.2.symm
   go_wp2_with (go_at_call 95;refine cM (hZb.out w2 hg2) ?_;rintro e w3 ⟨rfl,hg3⟩)
   go_ret
   exact ⟨by rw[←hfin.out];rfl,hbW.out.1.trans (hg2.trans hg3)⟩
 ·have hfin:Hid (E2=E):=by
   have hn:¬av (a.map Itm.z)=0:=by rw[hEs.out.2.2.1];simpa using h2
   show _=_;rw[←hEs.out.1];unfold fW;rw[if_neg hn];exact hEs.out.2.2.1.symm
  go_wp2_with (go_at_call 95;refine cM (hZa.out w1 (gR _)) ?_;rintro e w2 ⟨rfl,hg2⟩)
  go_ret
  exact ⟨by rw[←hfin.out];rfl,hbW.out.1.trans hg2⟩

theorem oW {s:Stp} {ah:List Int} {S:List (List Zit)} (h:aH s ah≠0) (hS:Ahd S ah) (hk:s.k=2∨s.k=3∨s.k=8∨s.k=7∨s.k=9):0≤s.a∧s.a.toNat<S.length∧∀l:List Itm,l.map Itm.z=bD S s.a→OneOk s l:=by
 have hin:inB s.a 0 ((ah.length:Int)-1)=true:=by
  rcases hk with k|k|k|k|k
  ·exact (xx h k).1
  ·exact (xD h k).1
  ·exact (xT h k).1
  ·exact (zx h k).1
  ·exact (yh h k).1
 obtain ⟨h0,h1,h2,h3⟩:=hS.at hin
 refine ⟨h0,h1,fun l hl=> ?_⟩
 have hz:=(bx (bD S s.a)).1 h2
 have hlen:l.length≤400:=by have:=congrArg List.length hl;simp at this;omega
 have hmem:∀x∈l,x.z∈bD S s.a:=fun x hx=>by rw[←hl];exact List.mem_map.2 ⟨x,hx,rfl⟩
 have hw:∀x∈l,(x.r.length:Int)=ah.getD s.a.toNat 0:=fun x hx=>h3 x.z (hmem x hx)
 refine ⟨hlen,fun x hx=> ?_,fun k=> ?_,fun k=> ?_,fun k=> ?_,fun k=> ?_⟩
 ·have:=bH (hz.2.1 x.z (hmem x hx))
  exact ⟨this.1,this.2.1⟩
 ·obtain ⟨_,p2,p3,_⟩:=xx h k
  exact ⟨p2,fun x hx=>by rw[hw x hx];exact p3⟩
 ·obtain ⟨_,p2,p3,_⟩:=xD h k
  exact ⟨p2,fun x hx c hc=>by rw[hw x hx];exact p3 c hc⟩
 ·obtain ⟨_,p2,_⟩:=xT h k
  exact fun x hx=>by rw[hw x hx];exact p2
 ·obtain ⟨_,p2,p3,_⟩:=yh h k
  exact fun x hx=>by rw[hw x hx];exact ⟨p3,p2⟩
theorem yj {s:Stp} {ah:List Int} {S:List (List Zit)} (h:aH s ah≠0) (hS:Ahd S ah) (hk:s.k=4) (l r:List Itm) (hl:l.map Itm.z=bD S s.a) (hr:r.map Itm.z=bD S s.b):JoinOk s.c s.v l r:=by
 obtain ⟨p1,p2,p3,p4,_⟩:=xW h hk
 obtain ⟨_,_,a2,a3⟩:=hS.at p1
 obtain ⟨_,_,b2,b3⟩:=hS.at p2
 have za:=(bx (bD S s.a)).1 a2
 have zb:=(bx (bD S s.b)).1 b2
 have ma:∀x∈l,x.z∈bD S s.a:=fun x hx=>by rw[←hl];exact List.mem_map.2 ⟨x,hx,rfl⟩
 have mb:∀x∈r,x.z∈bD S s.b:=fun x hx=>by rw[←hr];exact List.mem_map.2 ⟨x,hx,rfl⟩
 have wa:∀x∈l,(x.r.length:Int)=ah.getD s.a.toNat 0:=fun x hx=>a3 x.z (ma x hx)
 have wb:∀x∈r,(x.r.length:Int)=ah.getD s.b.toNat 0:=fun x hx=>b3 x.z (mb x hx)
 exact ⟨by have:=congrArg List.length hl;simp at this;omega,by have:=congrArg List.length hr;simp at this;omega,fun x hx=>by rw[wa x hx];exact p4,fun x hx=>by rw[wb x hx];exact p3,fun x hx=>⟨(bH (za.2.1 x.z (ma x hx))).1,(bH (za.2.1 x.z (ma x hx))).2.1⟩,fun x hx=>⟨(bH (zb.2.1 x.z (mb x hx))).1,(bH (zb.2.1 x.z (mb x hx))).2.1⟩⟩
theorem yR {s:Stp} {ah:List Int} {S:List (List Zit)} {a b:List Itm} {A B:Option Addr} {ca cb:Nat} {SA:Option Addr} {sc:Nat} {ss:List Sl} {w:World} (h:aH s ah≠0) (hS:Ahd S ah) (hs:Sts w SA ss S) (ha:Lv w A ca a) (hb:Lv w B cb b) (hl:ay w s.p s.l) :
  Calls Tryz.prog 70 #[.agg #[.int .i64 s.k,.int .i64 s.a,.int .i64 s.b,.int .i64 s.c,.int .i64 s.o,.int .i64 s.v,.slice s.p s.l.length s.n],.agg #[.slice A a.length ca,.slice B b.length cb],.slice SA ss.length sc] w fun e w'=>∃(L:List Itm) (C:Option Addr) (k:Nat),e= .returned (.tuple #[.slice C L.length k,.int .i64 (aQ s (a.map Itm.z) (b.map Itm.z) S)])∧L.map Itm.z=aT s (a.map Itm.z) (b.map Itm.z) S∧Lv w' C k L∧Below w.heap.size w w'∧NwT w' k w.heap.size C L:=by
 rcases kinds h with k|k|k|k|k|k|k|k|k
 ·exact zg s a b A B ca cb SA sc ss S w k (yz h k).1 ha hb
 ·obtain ⟨h0,h1,h2⟩:=oW h hS (oL k)
  exact jp s a b A B ca cb SA sc ss S w 2 k (oL rfl) h0 h1 hs hl h2
 ·obtain ⟨h0,h1,h2⟩:=oW h hS (oR (oL k))
  exact jp s a b A B ca cb SA sc ss S w 3 k (oR (oL rfl)) h0 h1 hs hl h2
 ·obtain ⟨p1,p2,_,_,_⟩:=xW h k
  exact zc s a b A B ca cb SA sc ss S w k (hS.at p1).1 (hS.at p1).2.1 (hS.at p2).1 (hS.at p2).2.1 hs (yj h hS k)
 ·obtain ⟨p1,p2,_,_⟩:=yC h k
  exact zu s a b A B ca cb SA sc ss S w k (hS.at p1).1 (hS.at p1).2.1 (hS.at p2).1 (hS.at p2).2.1 hs
 ·obtain ⟨p1,p2,_,_⟩:=zk h k
  exact yy s a b A B ca cb SA sc ss S w k (hS.at p1).1 (hS.at p1).2.1 (hS.at p2).1 (hS.at p2).2.1 hs (hS.at p2).2.2.1
 ·obtain ⟨h0,h1,h2⟩:=oW h hS (oR (oR (oR (oL k))))
  exact jp s a b A B ca cb SA sc ss S w 7 k (oR (oR (oR (oL rfl)))) h0 h1 hs hl h2
 ·obtain ⟨h0,h1,h2⟩:=oW h hS (oR (oR (oL k)))
  exact jp s a b A B ca cb SA sc ss S w 8 k (oR (oR (oL rfl))) h0 h1 hs hl h2
 ·obtain ⟨h0,h1,h2⟩:=oW h hS (oR (oR (oR (oR k))))
  exact jp s a b A B ca cb SA sc ss S w 9 k (oR (oR (oR (oR rfl)))) h0 h1 hs hl h2

theorem ax.grown {α : Type} {enc: α → List Value} {k:Nat} {w w':World} {A:Option Addr} {l:List α} {row:Option Nat} (h:ax enc k w A l) (hg:w.grownBy w' row) (hne:∀a,A=some a→l≠[]→some a.block≠row):ax enc k w' A l:=by
 rcases h with h|⟨b,off,hA,hb,hc⟩
 ·exact oL h
 ·by_cases hl:l=[]
  ·exact oL hl
  ·refine oR ⟨b,off,hA,nL hb hg.size,fun j hj i hi=> ?_⟩
   rw[World.cell?_of_block (a:=⟨b,off+j*k+i,none⟩) (hg.block b hb (hne _ hA hl))]
   exact hc j hj i hi
def Far (row:Option Nat) (s:Sl):Prop:=(∀a,s.A=some a→s.l≠[]→some a.block≠row)∧∀x∈s.l,∀a,x.p=some a→x.r≠[]→some a.block≠row
theorem Lv.grown {w w':World} {s:Sl} {row:Option Nat} (h:Lv w s.A s.cap s.l) (hg:w.grownBy w' row) (hf:Far row s):Lv w' s.A s.cap s.l :=
 ⟨⟨h.items.row.grown hg hf.1,fun x hx=>⟨(h.items.each x hx).1.grown hg (hf.2 x hx),(h.items.each x hx).2⟩⟩,h.nilc,h.len⟩
theorem Far.top {w:World} {s:Sl} (h:Lv w s.A s.cap s.l) {n:Nat} (hn:w.heap.size≤n):Far (some n) s :=
 ⟨fun a ha hl e=>by have:=h.items.row.lt a ha hl;simp at e;omega,fun x hx a ha hr e=>by have:=(h.items.each x hx).1.lt a ha hr;simp at e;omega⟩
theorem Far.new {s:Sl} {n:Nat} {row:Option Nat} (h:iA n s.A s.l) (hr:∀g,row=some g→g<n):Far row s :=
 ⟨fun a ha _ e=>by have:=h.1 a ha;have:=hr _ e.symm;omega,fun x hx a ha _ e=>by have:=h.2 x hx a ha;have:=hr _ e.symm;omega⟩
theorem lL (s:Sl):(eB s).length=1:=rfl
theorem tQ (s:Sl):∀u∈eB s,u.oneCell'=true:=by
 intro u hu
 simp[eB] at hu
 rw[hu];rfl
theorem Tryz.infoS:(Tryz.prog.info? 58).map (fun i=>(i.zero,i.size,i.bytes))=some (some (.slice none 0 0),1,24):=by kernel_rfl
theorem kl (w:World) {ops:Array Oper} {rest:List Oper} {o:Oper} {a:Act} {Q:Exit→Act→World→Prop} (hgd:o.guard=none) (s z:Operand)
  (ho:o.op= .call { callee:= .builtin .append,args:= #[s,z],argTypes:= #[112,112] })
  (base:Nat) (v:Value) (l:List Sl) (x:Sl) (A:Addr) (cap:Nat) (hs:a.eval s=v) (hz:a.eval z= .slice (some A) 1 cap) (hown:ai eB 1 58 w base v l) (hr:ax eB 1 w (some A) [x])
  (hml:l.length+1≤maxLen) (hb:(l.length+1)*24≤140737488355328) (hbase:base≤w.heap.size)
  (h:∀v' w',ai eB 1 58 w' base v' (l++[x])→w.grownBy w' v.ownBlock→(v'.ownBlock=v.ownBlock∨v'.ownBlock=some w.heap.size)→wpList Tryz.prog ops Q rest (a.put o.dst v') w'):wpList Tryz.prog ops Q (o::rest) a w :=
 wpList_plain hgd fun _ hK=>by
  obtain ⟨i0,hi,hz0,hz1,hz2⟩:=info_parts Tryz.infoS
  obtain ⟨v',w',g1,g2,g3,_,g5⟩:=run_append_own_at (P:=Tryz.prog) w base 112 o.type 58 i0 (.slice none 0 0) 1 24 Tryz.underlying112 hi hz0 hz1 hz2 rfl (by omega) v l.length (aM eB l) hown A 1 cap (aM eB [x]) (br lL [x]) (hr.cells lL (by omega)) (fun u hu=>dH tQ u [x] hu) hml hb hbase
  have h2:ai eB 1 58 w' base v' (l++[x]):=by
   show w'.ownsRow base _ 1 v' (l++[x]).length (aM eB (l++[x]))
   rw[List.length_append,co]
   exact g2
  unfold Oper.wp execOp
  simp only[ho,resolve,invoke,builtin,Sem.run_bind,Sem.run_pure,Result.andThen_ok,List.map_toArray,List.map_cons,List.map_nil,hs,hz,g1]
  exact hK _ _ (h v' w' h2 g3 g5)
end Go.Proofs.YtckeonpnfankhaaGreatDoor
