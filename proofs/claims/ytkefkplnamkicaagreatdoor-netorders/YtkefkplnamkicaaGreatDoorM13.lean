/-
  plain.tell.
  Views: what is told of what is fed, on plain lists.
-/
import Derived.Test.YtkefkplnamkicaaGreatDoorM12
set_option maxRecDepth 100000
set_option maxHeartbeats 8000000
open Go.IntKind renaming i64 → I
open Go.Obj renaming cells → J
open Go.Value renaming int → V, slice → O, agg → Z, tuple → H
namespace Go.Proofs.YtkefkplnamkicaaGreatDoor
open Go.RowKit Go.Sort Go.Maps

structure Sts (w:World) (A:Option Addr) (ss:List Sl) (S:List (List Zit)):Prop where
 row:au eR 1 w A ss
 each:∀s∈ss,Lv w s.A s.cap s.l
 z:ss.map (fun s=>s.l.map Itm.z)=S
theorem Sts.below {w w':World} {A:Option Addr} {ss:List Sl} {S:List (List Zit)} (h:Sts w A ss S) (q:Below w.heap.size w w'):Sts w' A ss S:=⟨h.row.below q,fun s hs=>(h.each s hs).below q,h.z⟩
theorem Sts.gr {w w':World} {A:Option Addr} {ss:List Sl} {S:List (List Zit)} (h:Sts w A ss S) (q:Gr w w'):Sts w' A ss S:=h.below q.below
theorem Sts.at {w:World} {A:Option Addr} {ss:List Sl} {S:List (List Zit)} (h:Sts w A ss S) {i:Int} (h0:0≤i) (hi:i.toNat<S.length):∃(b off n:Nat) (x:Sl),A=some ⟨b,off,none⟩∧b<w.heap.size∧i=n∧n<ss.length∧w.cell? ⟨b,off+n,none⟩=some (O x.A x.l.length x.cap)∧Lv w x.A x.cap x.l∧x.l.map Itm.z=bO S i:=by
 have hl:i.toNat<ss.length:=by
  have:=congrArg List.length h.z
  simp at this
  omega
 obtain ⟨b,off,hA,hb,hc⟩:=h.row.at hl
 refine ⟨b,off,i.toNat,ss[i.toNat],hA,hb,by omega,hl,?_,h.each _ (gM hl),?_⟩
 ·have:=hc i.toNat hl 0 (by omega)
  simpa[eR] using this
 ·unfold bO
  rw[←h.z,List.getD_eq_getElem?_getD,List.getElem?_map,List.getElem?_eq_getElem hl]
  rfl
theorem Bt (s:Stp) (a b:List Itm) (A B:Option Addr) (ca cb:Nat) (SA:Option Addr) (sc:Nat) (ss:List Sl) (S:List (List Zit)) (w:World) (hk:s.k=1) (hp:s.a=0∨s.a=1) (ha:Lv w A ca a) (hb:Lv w B cb b) :
  Calls Tryz.prog 70 #[Z #[V I s.k,V I s.a,V I s.b,V I s.c,V I s.o,V I s.v,O s.p s.l.length s.n],Z #[O A a.length ca,O B b.length cb],O SA ss.length sc] w fun e w'=>∃(L:List Itm) (C:Option Addr) (k:Nat),e= .returned (H #[O C L.length k,V I (aX s (a.map Itm.z) (b.map Itm.z) S)])∧L.map Itm.z=bf s (a.map Itm.z) (b.map Itm.z) S∧Lv w' C k L∧Below w.heap.size w w'∧NwT w' k w.heap.size C L:=by
 have hH:Hid (Lv w A ca a∧Lv w B cb b):=⟨ha,hb⟩
 clear ha hb
 have hE:Hid (aX s (a.map Itm.z) (b.map Itm.z) S=cw (pV s (a.map Itm.z) (b.map Itm.z))∧bf s (a.map Itm.z) (b.map Itm.z) S=dm (pV s (a.map Itm.z) (b.map Itm.z))):=⟨by unfold aX;rw[if_pos hk],by unfold bf;rw[if_pos hk]⟩
 rcases hp with hp|hp
 ·have hT:Hid (pV s (a.map Itm.z) (b.map Itm.z)=a.map Itm.z):=by show _=_;unfold pV;rw[if_pos hp]
  have hN0:=pN (hH.out.1.gr (((gR _).alloc _).alloc _)) (W:=((w.alloc (J #[V I 1,V I 0,V I s.b,V I s.c,V I s.o,V I s.v,O s.p s.l.length s.n] 105)).alloc (J #[O A a.length ca,O B b.length cb] 68))) (m:=a.map Itm.z) rfl
  have hN:Hid _:=hN0
  clear hN0
  obtain ⟨E,hE2⟩:∃E,aX s (a.map Itm.z) (b.map Itm.z) S=E:=⟨_,rfl⟩
  have hE3:Hid (cw (a.map Itm.z)=E):=by show _=_;rw[←hE2,hE.out.1,hT.out]
  rw[hE2,hk,hp]
  clear hk hp hE2
  go_enter Tryz.func70,Tryz.ntmps70
  go_wp2_with fail
  refine cM (show Calls _ _ _ _ _ from hN.out) ?_
  rintro e w2 ⟨L,C,k,rfl,h1,h2,h3,h4⟩
  rw[hE3.out]
  have hfin:Hid (L.map Itm.z=bf s (a.map Itm.z) (b.map Itm.z) S∧Lv w2 C k L∧Below w.heap.size w w2∧NwT w2 k w.heap.size C L):=⟨by rw[hE.out.2,hT.out];exact h1,h2,(((gR w).alloc _).alloc _).below.trans (h3.mono (by simp;omega)),h4.mono (by simp;omega)⟩
  clear h1 h2 h3 h4 hN
  go_wp2
  go_ret2
  exact ⟨L,C,k,rfl,hfin.out.1,hfin.out.2.1,hfin.out.2.2⟩
 ·have hT:Hid (pV s (a.map Itm.z) (b.map Itm.z)=b.map Itm.z):=by show _=_;unfold pV;rw[if_neg (by omega)]
  have hN0:=pN (hH.out.2.gr (((gR _).alloc _).alloc _)) (W:=((w.alloc (J #[V I 1,V I 1,V I s.b,V I s.c,V I s.o,V I s.v,O s.p s.l.length s.n] 105)).alloc (J #[O A a.length ca,O B b.length cb] 68))) (m:=b.map Itm.z) rfl
  have hN:Hid _:=hN0
  clear hN0
  obtain ⟨E,hE2⟩:∃E,aX s (a.map Itm.z) (b.map Itm.z) S=E:=⟨_,rfl⟩
  have hE3:Hid (cw (b.map Itm.z)=E):=by show _=_;rw[←hE2,hE.out.1,hT.out]
  rw[hE2,hk,hp]
  clear hk hp hE2
  go_enter Tryz.func70,Tryz.ntmps70
  go_wp2_with fail
  refine cM (show Calls _ _ _ _ _ from hN.out) ?_
  rintro e w2 ⟨L,C,k,rfl,h1,h2,h3,h4⟩
  rw[hE3.out]
  have hfin:Hid (L.map Itm.z=bf s (a.map Itm.z) (b.map Itm.z) S∧Lv w2 C k L∧Below w.heap.size w w2∧NwT w2 k w.heap.size C L):=⟨by rw[hE.out.2,hT.out];exact h1,h2,(((gR w).alloc _).alloc _).below.trans (h3.mono (by simp;omega)),h4.mono (by simp;omega)⟩
  clear h1 h2 h3 h4 hN
  go_wp2
  go_ret2
  exact ⟨L,C,k,rfl,hfin.out.1,hfin.out.2.1,hfin.out.2.2⟩
theorem Bv (s:Stp) (a b:List Itm) (A B:Option Addr) (ca cb:Nat) (SA:Option Addr) (sc:Nat) (ss:List Sl) (S:List (List Zit)) (w:World) (hk:s.k=5) (ha0:0≤s.a) (ha1:s.a.toNat<S.length) (hb0:0≤s.b) (hb1:s.b.toNat<S.length) (hS:Sts w SA ss S) :
  Calls Tryz.prog 70 #[Z #[V I s.k,V I s.a,V I s.b,V I s.c,V I s.o,V I s.v,O s.p s.l.length s.n],Z #[O A a.length ca,O B b.length cb],O SA ss.length sc] w fun e w'=>∃(L:List Itm) (C:Option Addr) (k:Nat),e= .returned (H #[O C L.length k,V I (aX s (a.map Itm.z) (b.map Itm.z) S)])∧L.map Itm.z=bf s (a.map Itm.z) (b.map Itm.z) S∧Lv w' C k L∧Below w.heap.size w w'∧NwT w' k w.heap.size C L:=by
 have hE:Hid (aX s (a.map Itm.z) (b.map Itm.z) S=aW (bO S s.a) (bO S s.b)∧bf s (a.map Itm.z) (b.map Itm.z) S=aU (bO S s.a) (bO S s.b)):=⟨by unfold aX;rw[if_neg (by omega),if_neg (by omega),if_pos hk],by unfold bf;rw[if_neg (by omega),if_neg (by omega),if_pos hk]⟩
 obtain ⟨bb,off,na,x,hA,hbb,hna,hnal,hxc,hxl,hxz⟩:=hS.at ha0 ha1
 obtain ⟨bb',off',nb,y,hA',_,hnb,hnbl,hyc,hyl,hyz⟩:=hS.at hb0 hb1
 subst hA
 cases hA'
 obtain ⟨E,hE2⟩:∃E,aX s (a.map Itm.z) (b.map Itm.z) S=E:=⟨_,rfl⟩
 have hE3:Hid (aW (bO S s.a) (bO S s.b)=E):=by show _=_;rw[←hE2,hE.out.1]
 have hgW:Hid (Gr w ((w.alloc (J #[V I 5,V I (na:Int),V I (nb:Int),V I s.c,V I s.o,V I s.v,O s.p s.l.length s.n] 105)).alloc (J #[O A a.length ca,O B b.length cb] 68))):=((gR _).alloc _).alloc _
 obtain ⟨WX,hWX⟩:∃WX,((w.alloc (J #[V I 5,V I (na:Int),V I (nb:Int),V I s.c,V I s.o,V I s.v,O s.p s.l.length s.n] 105)).alloc (J #[O A a.length ca,O B b.length cb] 68))=WX:=⟨_,rfl⟩
 have q0:WX.cell? ⟨w.heap.size,0,none⟩=some (V I 5):=by rw[←hWX];exact ab (w:=w) ((gR _).alloc _) rfl
 have q1:WX.cell? ⟨w.heap.size,1,none⟩=some (V I (na:Int)):=by rw[←hWX];exact ab (w:=w) ((gR _).alloc _) rfl
 have q2:WX.cell? ⟨w.heap.size,2,none⟩=some (V I (nb:Int)):=by rw[←hWX];exact ab (w:=w) ((gR _).alloc _) rfl
 have hsb:w.heap.size<WX.heap.size:=by rw[←hWX];simp;omega
 rw[hWX] at hgW
 have hC0:=qn ((hxl.gr hgW.out).gr (gR _).drew) ((hyl.gr hgW.out).gr (gR _).drew) hxz hyz (W:=WX.drew)
 have hC:Hid _:=hC0
 clear hC0
 have hKeep:Hid (∀W',Below WX.heap.size WX W'→(fun w'=>w'.cell? ⟨w.heap.size,1,none⟩=some (V I (na:Int))∧w'.cell? ⟨w.heap.size,2,none⟩=some (V I (nb:Int))∧w'.cell? ⟨bb,off+na,none⟩=some (O x.A x.l.length x.cap)∧w'.cell? ⟨bb,off+nb,none⟩=some (O y.A y.l.length y.cap)) W'):=fun W' h=>⟨(h.cell (p:=⟨w.heap.size,1,none⟩) hsb).trans q1,(h.cell (p:=⟨w.heap.size,2,none⟩) hsb).trans q2,(h.cell (p:=⟨bb,off+na,none⟩) (nL hbb hgW.out.size)).trans ((hgW.out.below.cell (p:=⟨bb,off+na,none⟩) hbb).trans hxc),(h.cell (p:=⟨bb,off+nb,none⟩) (nL hbb hgW.out.size)).trans ((hgW.out.below.cell (p:=⟨bb,off+nb,none⟩) hbb).trans hyc)⟩
 have hbD:Hid (Below WX.heap.size WX WX.drew):=(bR _ _).drew
 have hnaz:(na:Int)<(ss.length:Int):=by omega
 have hnbz:(nb:Int)<(ss.length:Int):=by omega
 rw[hE2,hk,hna,hnb]
 clear hk hE2 hxc hyc hxl hyl hxz hyz hna hnb ha0 ha1 hb0 hb1 hnal hnbl hbb q1 q2 hS
 go_enter Tryz.func70,Tryz.ntmps70
 go_wp2_with fail
 clear hWX
 refine wp_region_noPanic ?_
 refine wp_region_held_drew (S:=(fun w'=>w'.cell? ⟨w.heap.size,1,none⟩=some (V I (na:Int))∧w'.cell? ⟨w.heap.size,2,none⟩=some (V I (nb:Int))∧w'.cell? ⟨bb,off+na,none⟩=some (O x.A x.l.length x.cap)∧w'.cell? ⟨bb,off+nb,none⟩=some (O y.A y.l.length y.cap))) (by kernel_rfl) (hKeep.out _ hbD.out) (fun hHeld=> ?_)
 refine tks [0,1,2,3,4,5,6,7,8,9] (by assumption) ?_
 iterate 10 (refine tk (v:= ?_) (by rfl) (by kernel_rfl) ?_ ?_;rotate_left;· (refine oL ⟨by rfl,?_⟩;intro w hSw;(try dsimp only at hSw);go_simp<;>with_reducible rfl);try simp only[Act.put,yA,aD,yS])
 refine tk0 ?_
 refine wpAnyH_ready (rs:=[10]) (by kernel_rfl) (by simp) ?_
 refine AllReadyH.cons (o:= ?oitell511) ?hoptell511 (fun K hK=> ?steptell511) ?moretell511
 case hoptell511=>(simp only[zA,z0',zS];rfl)
 case moretell511=>exact AllReadyH.nil
 go_simp
 (go_at_call 98;(refine cM (show Calls _ _ _ _ _ from hC.out) ?_);rintro e w2 ⟨L,C,k,rfl,h1,h2,h3,h4⟩;rw[hE3.out];have hb2:Hid (Below WX.heap.size WX w2):=hbD.out.trans (h3.mono hbD.out.size);have hfin:Hid (L.map Itm.z=bf s (a.map Itm.z) (b.map Itm.z) S∧Lv w2 C k L∧Below w.heap.size w w2∧NwT w2 k w.heap.size C L):=⟨by rw[hE.out.2];exact h1,h2,hgW.out.below.trans (hb2.out.mono hgW.out.size),h4.mono (nT hgW.out.size hbD.out.size)⟩;clear h1 h2 h3 h4)
 first|(go_wp2_with fail)|skip
 refine hK.out _ _ ?_ (fun hHeld=> ?_)
 ·(try dsimp only);first|with_reducible exact hKeep.out _ hbD.out|with_reducible exact hKeep.out _ hb2.out
 clear hK K
 try simp only[Act.put,yA,aD,yS]
 refine tks [11,12,13,14] (by assumption) ?_
 iterate 4 (refine tk (v:= ?_) (by rfl) (by kernel_rfl) ?_ ?_;rotate_left;· (refine oL ⟨by rfl,?_⟩;intro w hSw;(try dsimp only at hSw);go_simp<;>with_reducible rfl);try simp only[Act.put,yA,aD,yS])
 refine tk0 ?_
 refine wpAnyH_done (by kernel_rfl) ?_ _
 refine NoPanic.normal ?_
 go_wp2
 go_ret2
 exact ⟨L,C,k,rfl,hfin.out.1,hfin.out.2.1,hfin.out.2.2⟩
theorem Bw (s:Stp) (a b:List Itm) (A B:Option Addr) (ca cb:Nat) (SA:Option Addr) (sc:Nat) (ss:List Sl) (S:List (List Zit)) (w:World) (hk:s.k=6) (ha0:0≤s.a) (ha1:s.a.toNat<S.length) (hb0:0≤s.b) (hb1:s.b.toNat<S.length) (hS:Sts w SA ss S) (hey:ax (bO S s.b)=0) :
  Calls Tryz.prog 70 #[Z #[V I s.k,V I s.a,V I s.b,V I s.c,V I s.o,V I s.v,O s.p s.l.length s.n],Z #[O A a.length ca,O B b.length cb],O SA ss.length sc] w fun e w'=>∃(L:List Itm) (C:Option Addr) (k:Nat),e= .returned (H #[O C L.length k,V I (aX s (a.map Itm.z) (b.map Itm.z) S)])∧L.map Itm.z=bf s (a.map Itm.z) (b.map Itm.z) S∧Lv w' C k L∧Below w.heap.size w w'∧NwT w' k w.heap.size C L:=by
 have hE:Hid (aX s (a.map Itm.z) (b.map Itm.z) S=nF (bO S s.a) (bO S s.b)∧bf s (a.map Itm.z) (b.map Itm.z) S=sK (bO S s.a) (bO S s.b)):=⟨by unfold aX;rw[if_neg (by omega),if_neg (by omega),if_neg (by omega),if_pos hk],by unfold bf;rw[if_neg (by omega),if_neg (by omega),if_neg (by omega),if_pos hk]⟩
 obtain ⟨bb,off,na,x,hA,hbb,hna,hnal,hxc,hxl,hxz⟩:=hS.at ha0 ha1
 obtain ⟨bb',off',nb,y,hA',_,hnb,hnbl,hyc,hyl,hyz⟩:=hS.at hb0 hb1
 subst hA
 cases hA'
 obtain ⟨E,hE2⟩:∃E,aX s (a.map Itm.z) (b.map Itm.z) S=E:=⟨_,rfl⟩
 have hE3:Hid (nF (bO S s.a) (bO S s.b)=E):=by show _=_;rw[←hE2,hE.out.1]
 have hgW:Hid (Gr w ((w.alloc (J #[V I 6,V I (na:Int),V I (nb:Int),V I s.c,V I s.o,V I s.v,O s.p s.l.length s.n] 105)).alloc (J #[O A a.length ca,O B b.length cb] 68))):=((gR _).alloc _).alloc _
 obtain ⟨WX,hWX⟩:∃WX,((w.alloc (J #[V I 6,V I (na:Int),V I (nb:Int),V I s.c,V I s.o,V I s.v,O s.p s.l.length s.n] 105)).alloc (J #[O A a.length ca,O B b.length cb] 68))=WX:=⟨_,rfl⟩
 have q0:WX.cell? ⟨w.heap.size,0,none⟩=some (V I 6):=by rw[←hWX];exact ab (w:=w) ((gR _).alloc _) rfl
 have q1:WX.cell? ⟨w.heap.size,1,none⟩=some (V I (na:Int)):=by rw[←hWX];exact ab (w:=w) ((gR _).alloc _) rfl
 have q2:WX.cell? ⟨w.heap.size,2,none⟩=some (V I (nb:Int)):=by rw[←hWX];exact ab (w:=w) ((gR _).alloc _) rfl
 have hsb:w.heap.size<WX.heap.size:=by rw[←hWX];simp;omega
 rw[hWX] at hgW
 have hC0:=Az ((hxl.gr hgW.out).gr (gR _).drew) ((hyl.gr hgW.out).gr (gR _).drew) (by rw[hyz];exact hey) hxz hyz (W:=WX.drew)
 have hC:Hid _:=hC0
 clear hC0
 have hKeep:Hid (∀W',Below WX.heap.size WX W'→(fun w'=>w'.cell? ⟨w.heap.size,1,none⟩=some (V I (na:Int))∧w'.cell? ⟨w.heap.size,2,none⟩=some (V I (nb:Int))∧w'.cell? ⟨bb,off+na,none⟩=some (O x.A x.l.length x.cap)∧w'.cell? ⟨bb,off+nb,none⟩=some (O y.A y.l.length y.cap)) W'):=fun W' h=>⟨(h.cell (p:=⟨w.heap.size,1,none⟩) hsb).trans q1,(h.cell (p:=⟨w.heap.size,2,none⟩) hsb).trans q2,(h.cell (p:=⟨bb,off+na,none⟩) (nL hbb hgW.out.size)).trans ((hgW.out.below.cell (p:=⟨bb,off+na,none⟩) hbb).trans hxc),(h.cell (p:=⟨bb,off+nb,none⟩) (nL hbb hgW.out.size)).trans ((hgW.out.below.cell (p:=⟨bb,off+nb,none⟩) hbb).trans hyc)⟩
 have hbD:Hid (Below WX.heap.size WX WX.drew):=(bR _ _).drew
 have hnaz:(na:Int)<(ss.length:Int):=by omega
 have hnbz:(nb:Int)<(ss.length:Int):=by omega
 rw[hE2,hk,hna,hnb]
 clear hk hE2 hxc hyc hxl hyl hxz hyz hna hnb ha0 ha1 hb0 hb1 hnal hnbl hbb q1 q2 hS
 go_enter Tryz.func70,Tryz.ntmps70
 go_wp2_with fail
 clear hWX
 refine wp_region_noPanic ?_
 refine wp_region_held_drew (S:=(fun w'=>w'.cell? ⟨w.heap.size,1,none⟩=some (V I (na:Int))∧w'.cell? ⟨w.heap.size,2,none⟩=some (V I (nb:Int))∧w'.cell? ⟨bb,off+na,none⟩=some (O x.A x.l.length x.cap)∧w'.cell? ⟨bb,off+nb,none⟩=some (O y.A y.l.length y.cap))) (by kernel_rfl) (hKeep.out _ hbD.out) (fun hHeld=> ?_)
 refine tks [0,1,2,3,4,5,6,7,8,9] (by assumption) ?_
 iterate 10 (refine tk (v:= ?_) (by rfl) (by kernel_rfl) ?_ ?_;rotate_left;· (refine oL ⟨by rfl,?_⟩;intro w hSw;(try dsimp only at hSw);go_simp<;>with_reducible rfl);try simp only[Act.put,yA,aD,yS])
 refine tk0 ?_
 refine wpAnyH_ready (rs:=[10]) (by kernel_rfl) (by simp) ?_
 refine AllReadyH.cons (o:= ?oitell611) ?hoptell611 (fun K hK=> ?steptell611) ?moretell611
 case hoptell611=>(simp only[zA,z0',zS];rfl)
 case moretell611=>exact AllReadyH.nil
 go_simp
 (go_at_call 99;(refine cM (show Calls _ _ _ _ _ from hC.out) ?_);rintro e w2 ⟨L,C,k,rfl,h1,h2,h3,h4⟩;rw[hE3.out];have hb2:Hid (Below WX.heap.size WX w2):=hbD.out.trans (h3.mono hbD.out.size);have hfin:Hid (L.map Itm.z=bf s (a.map Itm.z) (b.map Itm.z) S∧Lv w2 C k L∧Below w.heap.size w w2∧NwT w2 k w.heap.size C L):=⟨by rw[hE.out.2];exact h1,h2,hgW.out.below.trans (hb2.out.mono hgW.out.size),h4.mono (nT hgW.out.size hbD.out.size)⟩;clear h1 h2 h3 h4)
 first|(go_wp2_with fail)|skip
 refine hK.out _ _ ?_ (fun hHeld=> ?_)
 ·(try dsimp only);first|with_reducible exact hKeep.out _ hbD.out|with_reducible exact hKeep.out _ hb2.out
 clear hK K
 try simp only[Act.put,yA,aD,yS]
 refine tks [11,12,13,14] (by assumption) ?_
 iterate 4 (refine tk (v:= ?_) (by rfl) (by kernel_rfl) ?_ ?_;rotate_left;· (refine oL ⟨by rfl,?_⟩;intro w hSw;(try dsimp only at hSw);go_simp<;>with_reducible rfl);try simp only[Act.put,yA,aD,yS])
 refine tk0 ?_
 refine wpAnyH_done (by kernel_rfl) ?_ _
 refine NoPanic.normal ?_
 go_wp2
 go_ret2
 exact ⟨L,C,k,rfl,hfin.out.1,hfin.out.2.1,hfin.out.2.2⟩
theorem Bu (s:Stp) (a b:List Itm) (A B:Option Addr) (ca cb:Nat) (SA:Option Addr) (sc:Nat) (ss:List Sl) (S:List (List Zit)) (w:World) (hk:s.k=4) (ha0:0≤s.a) (ha1:s.a.toNat<S.length) (hb0:0≤s.b) (hb1:s.b.toNat<S.length) (hS:Sts w SA ss S) (hJo:∀l r:List Itm,l.map Itm.z=bO S s.a→r.map Itm.z=bO S s.b→JoinOk s.c s.v l r) :
  Calls Tryz.prog 70 #[Z #[V I s.k,V I s.a,V I s.b,V I s.c,V I s.o,V I s.v,O s.p s.l.length s.n],Z #[O A a.length ca,O B b.length cb],O SA ss.length sc] w fun e w'=>∃(L:List Itm) (C:Option Addr) (k:Nat),e= .returned (H #[O C L.length k,V I (aX s (a.map Itm.z) (b.map Itm.z) S)])∧L.map Itm.z=bf s (a.map Itm.z) (b.map Itm.z) S∧Lv w' C k L∧Below w.heap.size w w'∧NwT w' k w.heap.size C L:=by
 have hE:Hid (aX s (a.map Itm.z) (b.map Itm.z) S=kF (bO S s.a) (bO S s.b) s.c s.v∧bf s (a.map Itm.z) (b.map Itm.z) S=mT (bO S s.a) (bO S s.b) s.c s.v):=⟨by unfold aX;rw[if_neg (by omega),if_pos hk],by unfold bf;rw[if_neg (by omega),if_pos hk]⟩
 obtain ⟨bb,off,na,x,hA,hbb,hna,hnal,hxc,hxl,hxz⟩:=hS.at ha0 ha1
 obtain ⟨bb',off',nb,y,hA',_,hnb,hnbl,hyc,hyl,hyz⟩:=hS.at hb0 hb1
 subst hA
 cases hA'
 obtain ⟨E,hE2⟩:∃E,aX s (a.map Itm.z) (b.map Itm.z) S=E:=⟨_,rfl⟩
 have hE3:Hid (kF (bO S s.a) (bO S s.b) s.c s.v=E):=by show _=_;rw[←hE2,hE.out.1]
 have hgW:Hid (Gr w ((w.alloc (J #[V I 4,V I (na:Int),V I (nb:Int),V I s.c,V I s.o,V I s.v,O s.p s.l.length s.n] 105)).alloc (J #[O A a.length ca,O B b.length cb] 68))):=((gR _).alloc _).alloc _
 obtain ⟨WX,hWX⟩:∃WX,((w.alloc (J #[V I 4,V I (na:Int),V I (nb:Int),V I s.c,V I s.o,V I s.v,O s.p s.l.length s.n] 105)).alloc (J #[O A a.length ca,O B b.length cb] 68))=WX:=⟨_,rfl⟩
 have q0:WX.cell? ⟨w.heap.size,0,none⟩=some (V I 4):=by rw[←hWX];exact ab (w:=w) ((gR _).alloc _) rfl
 have q1:WX.cell? ⟨w.heap.size,1,none⟩=some (V I (na:Int)):=by rw[←hWX];exact ab (w:=w) ((gR _).alloc _) rfl
 have q2:WX.cell? ⟨w.heap.size,2,none⟩=some (V I (nb:Int)):=by rw[←hWX];exact ab (w:=w) ((gR _).alloc _) rfl
 have q3:WX.cell? ⟨w.heap.size,3,none⟩=some (V I s.c):=by rw[←hWX];exact ab (w:=w) ((gR _).alloc _) rfl
 have q5:WX.cell? ⟨w.heap.size,5,none⟩=some (V I s.v):=by rw[←hWX];exact ab (w:=w) ((gR _).alloc _) rfl
 have hsb:w.heap.size<WX.heap.size:=by rw[←hWX];simp;omega
 rw[hWX] at hgW
 have hC0:=B4 ((hxl.gr hgW.out).gr (gR _).drew) ((hyl.gr hgW.out).gr (gR _).drew) (hJo x.l y.l hxz hyz) hxz hyz (W:=WX.drew)
 have hC:Hid _:=hC0
 clear hC0
 have hKeep:Hid (∀W',Below WX.heap.size WX W'→(fun w'=>w'.cell? ⟨w.heap.size,1,none⟩=some (V I (na:Int))∧w'.cell? ⟨w.heap.size,2,none⟩=some (V I (nb:Int))∧w'.cell? ⟨bb,off+na,none⟩=some (O x.A x.l.length x.cap)∧w'.cell? ⟨bb,off+nb,none⟩=some (O y.A y.l.length y.cap)∧w'.cell? ⟨w.heap.size,3,none⟩=some (V I s.c)∧w'.cell? ⟨w.heap.size,5,none⟩=some (V I s.v)) W'):=fun W' h=>⟨(h.cell (p:=⟨w.heap.size,1,none⟩) hsb).trans q1,(h.cell (p:=⟨w.heap.size,2,none⟩) hsb).trans q2,(h.cell (p:=⟨bb,off+na,none⟩) (nL hbb hgW.out.size)).trans ((hgW.out.below.cell (p:=⟨bb,off+na,none⟩) hbb).trans hxc),(h.cell (p:=⟨bb,off+nb,none⟩) (nL hbb hgW.out.size)).trans ((hgW.out.below.cell (p:=⟨bb,off+nb,none⟩) hbb).trans hyc),(h.cell (p:=⟨w.heap.size,3,none⟩) hsb).trans q3,(h.cell (p:=⟨w.heap.size,5,none⟩) hsb).trans q5⟩
 have hbD:Hid (Below WX.heap.size WX WX.drew):=(bR _ _).drew
 have hnaz:(na:Int)<(ss.length:Int):=by omega
 have hnbz:(nb:Int)<(ss.length:Int):=by omega
 rw[hE2,hk,hna,hnb]
 clear hk hE2 hxc hyc hxl hyl hxz hyz hna hnb ha0 ha1 hb0 hb1 hnal hnbl hbb q1 q2 q3 q5 hS
 go_enter Tryz.func70,Tryz.ntmps70
 go_wp2_with fail
 clear hWX
 refine wp_region_noPanic ?_
 refine wp_region_held_drew (S:=(fun w'=>w'.cell? ⟨w.heap.size,1,none⟩=some (V I (na:Int))∧w'.cell? ⟨w.heap.size,2,none⟩=some (V I (nb:Int))∧w'.cell? ⟨bb,off+na,none⟩=some (O x.A x.l.length x.cap)∧w'.cell? ⟨bb,off+nb,none⟩=some (O y.A y.l.length y.cap)∧w'.cell? ⟨w.heap.size,3,none⟩=some (V I s.c)∧w'.cell? ⟨w.heap.size,5,none⟩=some (V I s.v))) (by kernel_rfl) (hKeep.out _ hbD.out) (fun hHeld=> ?_)
 refine tks [0,1,2,3,4,5,6,7,8,9,10,11,12,13] (by assumption) ?_
 iterate 14 (refine tk (v:= ?_) (by rfl) (by kernel_rfl) ?_ ?_;rotate_left;· (refine oL ⟨by rfl,?_⟩;intro w hSw;(try dsimp only at hSw);go_simp<;>with_reducible rfl);try simp only[Act.put,yA,aD,yS])
 refine tk0 ?_
 refine wpAnyH_ready (rs:=[14]) (by kernel_rfl) (by simp) ?_
 refine AllReadyH.cons (o:= ?oitell415) ?hoptell415 (fun K hK=> ?steptell415) ?moretell415
 case hoptell415=>(simp only[zA,z0',zS];rfl)
 case moretell415=>exact AllReadyH.nil
 go_simp
 (go_at_call 97;(refine cM (show Calls _ _ _ _ _ from hC.out) ?_);rintro e w2 ⟨L,C,k,rfl,h1,h2,h3,h4⟩;rw[hE3.out];have hb2:Hid (Below WX.heap.size WX w2):=hbD.out.trans (h3.mono hbD.out.size);have hfin:Hid (L.map Itm.z=bf s (a.map Itm.z) (b.map Itm.z) S∧Lv w2 C k L∧Below w.heap.size w w2∧NwT w2 k w.heap.size C L):=⟨by rw[hE.out.2];exact h1,h2,hgW.out.below.trans (hb2.out.mono hgW.out.size),h4.mono (nT hgW.out.size hbD.out.size)⟩;clear h1 h2 h3 h4)
 first|(go_wp2_with fail)|skip
 refine hK.out _ _ ?_ (fun hHeld=> ?_)
 ·(try dsimp only);first|with_reducible exact hKeep.out _ hbD.out|with_reducible exact hKeep.out _ hb2.out
 clear hK K
 try simp only[Act.put,yA,aD,yS]
 refine tks [15,16,17,18] (by assumption) ?_
 iterate 4 (refine tk (v:= ?_) (by rfl) (by kernel_rfl) ?_ ?_;rotate_left;· (refine oL ⟨by rfl,?_⟩;intro w hSw;(try dsimp only at hSw);go_simp<;>with_reducible rfl);try simp only[Act.put,yA,aD,yS])
 refine tk0 ?_
 refine wpAnyH_done (by kernel_rfl) ?_ _
 refine NoPanic.normal ?_
 go_wp2
 go_ret2
 exact ⟨L,C,k,rfl,hfin.out.1,hfin.out.2.1,hfin.out.2.2⟩
theorem ke (s:Stp) (a b:List Itm) (A B:Option Addr) (ca cb:Nat) (SA:Option Addr) (sc:Nat) (ss:List Sl) (S:List (List Zit)) (w:World) (kz:Int) (hkz:s.k=kz) (hk:kz=2∨kz=3∨kz=8∨kz=7∨kz=9) (ha0:0≤s.a) (ha1:s.a.toNat<S.length) (hS:Sts w SA ss S) (hs:ay w s.p s.l) (hO:∀l:List Itm,l.map Itm.z=bO S s.a→OneOk s l) :
  Calls Tryz.prog 70 #[Z #[V I s.k,V I s.a,V I s.b,V I s.c,V I s.o,V I s.v,O s.p s.l.length s.n],Z #[O A a.length ca,O B b.length cb],O SA ss.length sc] w fun e w'=>∃(L:List Itm) (C:Option Addr) (k:Nat),e= .returned (H #[O C L.length k,V I (aX s (a.map Itm.z) (b.map Itm.z) S)])∧L.map Itm.z=bf s (a.map Itm.z) (b.map Itm.z) S∧Lv w' C k L∧Below w.heap.size w w'∧NwT w' k w.heap.size C L:=by
 have hE:Hid (aX s (a.map Itm.z) (b.map Itm.z) S=cw (el s (bO S s.a))∧bf s (a.map Itm.z) (b.map Itm.z) S=dm (el s (bO S s.a))):=⟨by unfold aX;rw[if_neg (by omega),if_neg (by omega),if_neg (by omega),if_neg (by omega)],by unfold bf;rw[if_neg (by omega),if_neg (by omega),if_neg (by omega),if_neg (by omega)]⟩
 obtain ⟨bb,off,na,x,hA,hbb,hna,hnal,hxc,hxl,hxz⟩:=hS.at ha0 ha1
 subst hA
 obtain ⟨E,hE2⟩:∃E,aX s (a.map Itm.z) (b.map Itm.z) S=E:=⟨_,rfl⟩
 have hE3:Hid (cw (el s (bO S s.a))=E):=by show _=_;rw[←hE2,hE.out.1]
 have hgW:Hid (Gr w ((w.alloc (J #[V I kz,V I (na:Int),V I s.b,V I s.c,V I s.o,V I s.v,O s.p s.l.length s.n] 105)).alloc (J #[O A a.length ca,O B b.length cb] 68))):=((gR _).alloc _).alloc _
 obtain ⟨WX,hWX⟩:∃WX,((w.alloc (J #[V I kz,V I (na:Int),V I s.b,V I s.c,V I s.o,V I s.v,O s.p s.l.length s.n] 105)).alloc (J #[O A a.length ca,O B b.length cb] 68))=WX:=⟨_,rfl⟩
 have q0:WX.cell? ⟨w.heap.size,0,none⟩=some (V I kz):=by rw[←hWX];exact ab (w:=w) ((gR _).alloc _) rfl
 have q1:WX.cell? ⟨w.heap.size,1,none⟩=some (V I (na:Int)):=by rw[←hWX];exact ab (w:=w) ((gR _).alloc _) rfl
 have q2:WX.cell? ⟨w.heap.size,2,none⟩=some (V I s.b):=by rw[←hWX];exact ab (w:=w) ((gR _).alloc _) rfl
 have q3:WX.cell? ⟨w.heap.size,3,none⟩=some (V I s.c):=by rw[←hWX];exact ab (w:=w) ((gR _).alloc _) rfl
 have q4:WX.cell? ⟨w.heap.size,4,none⟩=some (V I s.o):=by rw[←hWX];exact ab (w:=w) ((gR _).alloc _) rfl
 have q5:WX.cell? ⟨w.heap.size,5,none⟩=some (V I s.v):=by rw[←hWX];exact ab (w:=w) ((gR _).alloc _) rfl
 have q6:WX.cell? ⟨w.heap.size,6,none⟩=some (O s.p s.l.length s.n):=by rw[←hWX];exact ab (w:=w) ((gR _).alloc _) rfl
 have hsb:w.heap.size<WX.heap.size:=by rw[←hWX];simp;omega
 rw[hWX] at hgW
 have hk2:s.k=2∨s.k=3∨s.k=8∨s.k=7∨s.k=9:=by omega
 have hC0:=zz s x.l x.A x.cap WX.drew hk2 (hO x.l hxz) ((hxl.items.gr hgW.out).gr (gR _).drew) ((hs.gr hgW.out).gr (gR _).drew)
 rw[hkz,hna] at hC0
 have hC:Hid _:=hC0
 clear hC0
 have hxzH:Hid (x.l.map Itm.z=bO S s.a):=hxz
 have hKeep:Hid (∀W',Below WX.heap.size WX W'→(fun w'=>w'.cell? ⟨w.heap.size,0,none⟩=some (V I kz)∧w'.cell? ⟨w.heap.size,1,none⟩=some (V I (na:Int))∧w'.cell? ⟨w.heap.size,2,none⟩=some (V I s.b)∧w'.cell? ⟨w.heap.size,3,none⟩=some (V I s.c)∧w'.cell? ⟨w.heap.size,4,none⟩=some (V I s.o)∧w'.cell? ⟨w.heap.size,5,none⟩=some (V I s.v)∧w'.cell? ⟨w.heap.size,6,none⟩=some (O s.p s.l.length s.n)∧w'.cell? ⟨bb,off+na,none⟩=some (O x.A x.l.length x.cap)) W'):=fun W' h=>⟨(h.cell (p:=⟨w.heap.size,0,none⟩) hsb).trans q0,(h.cell (p:=⟨w.heap.size,1,none⟩) hsb).trans q1,(h.cell (p:=⟨w.heap.size,2,none⟩) hsb).trans q2,(h.cell (p:=⟨w.heap.size,3,none⟩) hsb).trans q3,(h.cell (p:=⟨w.heap.size,4,none⟩) hsb).trans q4,(h.cell (p:=⟨w.heap.size,5,none⟩) hsb).trans q5,(h.cell (p:=⟨w.heap.size,6,none⟩) hsb).trans q6,(h.cell (p:=⟨bb,off+na,none⟩) (nL hbb hgW.out.size)).trans ((hgW.out.below.cell (p:=⟨bb,off+na,none⟩) hbb).trans hxc)⟩
 have hbD:Hid (Below WX.heap.size WX WX.drew):=(bR _ _).drew
 have hnaz:(na:Int)<(ss.length:Int):=by omega
 have kz1:(kz==1)=false:=by rcases hk with h|h|h|h|h<;>rw[h]<;>rfl
 have kz4:(kz==4)=false:=by rcases hk with h|h|h|h|h<;>rw[h]<;>rfl
 have kz5:(kz==5)=false:=by rcases hk with h|h|h|h|h<;>rw[h]<;>rfl
 have kz6:(kz==6)=false:=by rcases hk with h|h|h|h|h<;>rw[h]<;>rfl
 rw[hE2,hkz,hna]
 clear hk hk2 hE2 hxc hxl hxz hna ha0 ha1 hnal hbb q1 q2 q3 q4 q5 q6 hS hs hO hkz
 go_enter Tryz.func70,Tryz.ntmps70
 go_wp2_with fail
 clear hWX q0
 refine wp_region_noPanic ?_
 refine wp_region_held_drew (S:=(fun w'=>w'.cell? ⟨w.heap.size,0,none⟩=some (V I kz)∧w'.cell? ⟨w.heap.size,1,none⟩=some (V I (na:Int))∧w'.cell? ⟨w.heap.size,2,none⟩=some (V I s.b)∧w'.cell? ⟨w.heap.size,3,none⟩=some (V I s.c)∧w'.cell? ⟨w.heap.size,4,none⟩=some (V I s.o)∧w'.cell? ⟨w.heap.size,5,none⟩=some (V I s.v)∧w'.cell? ⟨w.heap.size,6,none⟩=some (O s.p s.l.length s.n)∧w'.cell? ⟨bb,off+na,none⟩=some (O x.A x.l.length x.cap))) (by kernel_rfl) (hKeep.out _ hbD.out) (fun hHeld=> ?_)
 refine tks [0,1,2,3,4,5] (by assumption) ?_
 iterate 6 (refine tk (v:= ?_) (by rfl) (by kernel_rfl) ?_ ?_;rotate_left;· (refine oL ⟨by rfl,?_⟩;intro w hSw;(try dsimp only at hSw);go_simp<;>with_reducible rfl);try simp only[Act.put,yA,aD,yS])
 refine tk0 ?_
 refine wpAnyH_ready (rs:=[6]) (by kernel_rfl) (by simp) ?_
 refine AllReadyH.cons (o:= ?oitellOne7) ?hoptellOne7 (fun K hK=> ?steptellOne7) ?moretellOne7
 case hoptellOne7=>(simp only[zA,z0',zS];rfl)
 case moretellOne7=>exact AllReadyH.nil
 go_simp
 (go_at_call 100;(refine cM (show Calls _ _ _ _ _ from hC.out) ?_);rintro e w1 ⟨L1,C1,k1,rfl,g1,g2,g3,g4⟩;have hb1:Hid (Below WX.heap.size WX w1):=hbD.out.trans (g4.mono hbD.out.size);have hN0:=pN g2 (m:=el s (bO S s.a)) (by rw[g1,hxzH.out]);have hN:Hid _:=hN0;clear hN0 g1 g2 g3 g4)
 first|(go_wp2_with fail)|skip
 refine hK.out _ _ ?_ (fun hHeld=> ?_)
 ·(try dsimp only);first|with_reducible exact hKeep.out _ hbD.out|with_reducible exact hKeep.out _ hb2.out|with_reducible exact hKeep.out _ hb1.out
 clear hK K
 try simp only[Act.put,yA,aD,yS]
 refine wpAnyH_ready (rs:=[7]) (by kernel_rfl) (by simp) ?_
 refine AllReadyH.cons (o:= ?oitellOne8) ?hoptellOne8 (fun K hK=> ?steptellOne8) ?moretellOne8
 case hoptellOne8=>(simp only[zA,z0',zS];rfl)
 case moretellOne8=>exact AllReadyH.nil
 go_simp
 (go_at_call 96;(refine cM (show Calls _ _ _ _ _ from hN.out) ?_);rintro e w2 ⟨L,C,k,rfl,h1,h2,h3,h4⟩;rw[hE3.out];have hb2:Hid (Below WX.heap.size WX w2):=hb1.out.trans (h3.mono hb1.out.size);have hfin:Hid (L.map Itm.z=bf s (a.map Itm.z) (b.map Itm.z) S∧Lv w2 C k L∧Below w.heap.size w w2∧NwT w2 k w.heap.size C L):=⟨by rw[hE.out.2];exact h1,h2,hgW.out.below.trans (hb2.out.mono hgW.out.size),h4.mono (nT hgW.out.size hb1.out.size)⟩;clear h1 h2 h3 h4)
 first|(go_wp2_with fail)|skip
 refine hK.out _ _ ?_ (fun hHeld=> ?_)
 ·(try dsimp only);first|with_reducible exact hKeep.out _ hbD.out|with_reducible exact hKeep.out _ hb2.out|with_reducible exact hKeep.out _ hb1.out
 clear hK K
 try simp only[Act.put,yA,aD,yS]
 refine tks [8,9,10,11] (by assumption) ?_
 iterate 4 (refine tk (v:= ?_) (by rfl) (by kernel_rfl) ?_ ?_;rotate_left;· (refine oL ⟨by rfl,?_⟩;intro w hSw;(try dsimp only at hSw);go_simp<;>with_reducible rfl);try simp only[Act.put,yA,aD,yS])
 refine tk0 ?_
 refine wpAnyH_done (by kernel_rfl) ?_ _
 refine NoPanic.normal ?_
 go_wp2
 go_ret2
 exact ⟨L,C,k,rfl,hfin.out.1,hfin.out.2.1,hfin.out.2.2⟩
end Go.Proofs.YtkefkplnamkicaaGreatDoor

namespace Go.Proofs.YtkefkplnamkicaaGreatDoor

theorem nt {l m:List Zit} {x:Zit} (hx:x.2≠0) (hlt:∀y∈m,aF x.1 y.1<0) (hw:∀r,wt l r=(if x.1=r then x.2 else 0)+wt m r):cW l=x::cW m:=by
 refine (bu l).uniq (m:=l) (T:=x::cW m) ⟨?_,?_,?_⟩ (fun _=>rfl)
 ·unfold eO
  rw[List.pairwise_cons]
  exact ⟨fun y hy=>by
   obtain ⟨z,hz,e⟩:=(bu m).row hy
   rw[←e];exact hlt z hz,(bu m).rise⟩
 ·intro y hy
  rcases List.mem_cons.1 hy with e|e
  ·rw[e];exact hx
  ·exact (bu m).noz y e
 ·intro r
  show (if x.1=r then x.2 else 0)+wt (cW m) r=_
  rw[(bu m).same,hw]
def bn (a b:List Zit):List Zit:=cW (a++fs b)
theorem gS (a b:List Zit) (r:List Int):wt (a++fs b) r=wt a r-wt b r:=by
 rw[cF]
 have:=yz b r
 unfold fs
 omega
theorem lI {b:List Zit} {z:Zit} (h:z∈fs b):∃y∈b,y.1=z.1:=by
 obtain ⟨y,hy,rfl⟩:=List.mem_map.1 h
 exact ⟨y,hy,rfl⟩
theorem yR:bn [] []=[]:=rfl
theorem Ap {x:Zit} {t b:List Zit} (ha:eO (x::t)) (hx:x.2≠0) (hb:∀y∈b,aF x.1 y.1<0):bn (x::t) b=x::bn t b:=by
 refine nt hx (fun z hz=> ?_) (fun r=> ?_)
 ·rcases List.mem_append.1 hz with e|e
  ·exact (List.pairwise_cons.1 ha).1 z e
  ·obtain ⟨y,hy,e2⟩:=lI e
   rw[←e2];exact hb y hy
 ·rw[gS,gS]
  simp only[wt]
  omega
theorem Ao {y:Zit} {a u:List Zit} (hb:eO (y::u)) (hy:y.2≠0) (ha:∀x∈a,aF y.1 x.1<0):bn a (y::u)=(y.1,-y.2)::bn a u:=by
 refine nt (x:=(y.1,-y.2)) (by show -y.2≠0;omega) (fun z hz=> ?_) (fun r=> ?_)
 ·rcases List.mem_append.1 hz with e|e
  ·exact ha z e
  ·obtain ⟨v,hv,e2⟩:=lI e
   rw[←e2];exact (List.pairwise_cons.1 hb).1 v hv
 ·rw[gS,gS]
  simp only[wt]
  by_cases e:y.1=r
  ·simp only[if_pos e];omega
  ·simp only[if_neg e];omega
theorem An {x y:Zit} {t u:List Zit} (ha:eO (x::t)) (hb:eO (y::u)) (h:x.1=y.1):bn (x::t) (y::u)=if x.2-y.2=0 then bn t u else (y.1,x.2-y.2)::bn t u:=by
 have hw:∀r,wt ((x::t)++fs (y::u)) r=(if y.1=r then x.2-y.2 else 0)+wt (t++fs u) r:=fun r=>by
  rw[gS,gS]
  simp only[wt,h]
  by_cases e:y.1=r
  ·rw[if_pos e,if_pos e];simp only[if_pos e];omega
  ·rw[if_neg e,if_neg e];simp only[if_neg e];omega
 by_cases h0:x.2-y.2=0
 ·rw[if_pos h0]
  refine gn fun r=> ?_
  rw[hw r,h0]
  by_cases e:y.1=r
  ·rw[if_pos e];omega
  ·rw[if_neg e];omega
 ·rw[if_neg h0]
  refine nt (x:=(y.1,x.2-y.2)) h0 (fun z hz=> ?_) hw
  rcases List.mem_append.1 hz with e|e
  ·show aF y.1 z.1<0
   rw[←h];exact (List.pairwise_cons.1 ha).1 z e
  ·obtain ⟨v,hv,e2⟩:=lI e
   rw[←e2];exact (List.pairwise_cons.1 hb).1 v hv
theorem yo {a:List Zit} (ha:ax a=0):cW a=a:=by
 have h:=(bI a).1 ha
 exact (bu _).uniq (⟨h.2.2,tU h.2.1,fun _=>rfl⟩:IsTot a a) fun _=>rfl
def gQ (a b:List Zit):Int:=if ax a=0 then (if ax b=0 then (if (a++b).all (fun x=>decide (x.1.length=4))=true then 0 else 5) else ax b) else ax a
theorem jC (q:List Stp) (a b:List Zit):ny q a b=if bV q=0 then gQ a b else bV q:=rfl
theorem zR {a b:List Zit} (h1:ax a=0) (h2:ax b=0) (h3:cX 4 a) (h4:cX 4 b):gQ a b=0:=by
 unfold gQ
 rw[if_pos h1,if_pos h2,if_pos]
 rw[List.all_eq_true]
 intro x hx
 rcases List.mem_append.1 hx with e|e
 ·exact decide_eq_true (by have:=h3 x e;omega)
 ·exact decide_eq_true (by have:=h4 x e;omega)
def j0 (q:List Stp) (s t a b:List Zit):Int:=if gQ a b=0 then (if aW s a=0 then (if aW t b=0 then bY q (aU s a) (aU t b) else aW t b) else aW s a) else gQ a b
theorem sp {q:List Stp} {s t a b:List Zit} (h:j0 q s t a b=0):gQ a b=0∧aW s a=0∧aW t b=0∧bY q (aU s a) (aU t b)=0:=by
 unfold j0 at h
 by_cases h1:gQ a b=0
 ·rw[if_pos h1] at h
  by_cases h2:aW s a=0
  ·rw[if_pos h2] at h
   by_cases h3:aW t b=0
   ·rw[if_pos h3] at h;exact ⟨h1,h2,h3,h⟩
   ·rw[if_neg h3] at h;exact absurd h h3
  ·rw[if_neg h2] at h;exact absurd h h2
 ·rw[if_neg h1] at h;exact absurd h h1
def bare (s:Stp):Stp:={ s with p:=none,n:=0 }
theorem yw (s:Stp) (ah:List Int):aO (bare s) ah=aO s ah:=rfl
theorem pw:∀(q:List Stp) (ah:List Int),dw (q.map bare) ah=dw q ah
 | [],_=>rfl
 | s::q,ah=>by
  show (if aO (bare s) ah=0 then none else dw (q.map bare) (ah++[aO (bare s) ah]))=_
  rw[yw,pw q]
  rfl
theorem kt (q:List Stp):bV (q.map bare)=bV q:=by
 unfold bV
 rw[List.length_map,pw]
theorem nh (s:Stp) (a b:List Zit) (S:List (List Zit)):aX (bare s) a b S=aX s a b S:=rfl
theorem ni (s:Stp) (a b:List Zit) (S:List (List Zit)):bf (bare s) a b S=bf s a b S:=rfl
theorem o8 (a b:List Zit):∀(q:List Stp) (S:List (List Zit)),jg a b (q.map bare) S=jg a b q S
 | [],_=>rfl
 | s::q,S=>by
  show (if aX (bare s) a b S=0 then jg a b (q.map bare) (S++[bf (bare s) a b S]) else aX (bare s) a b S)=_
  rw[nh,ni,o8 a b q]
  rfl
theorem o9 (a b:List Zit):∀(q:List Stp) (S:List (List Zit)),jh a b (q.map bare) S=jh a b q S
 | [],_=>rfl
 | s::q,S=>by
  show (if aX (bare s) a b S=0 then jh a b (q.map bare) (S++[bf (bare s) a b S]) else [])=_
  rw[nh,ni,o9 a b q]
  rfl
theorem kH (q:List Stp) (a b:List Zit):bY (q.map bare) a b=bY q a b:=by
 unfold bY
 rw[jC,jC,kt,o8]
theorem ou (q:List Stp) (a b:List Zit):e7 (q.map bare) a b=e7 q a b:=by
 unfold e7 j6
 rw[kH,o9,List.length_map]
theorem kM {q r:List Stp} (h:q.map bare=r.map bare) (a b:List Zit):bY q a b=bY r a b:=by rw[←kH q,h,kH]
theorem kL {q r:List Stp} (h:q.map bare=r.map bare) (a b:List Zit):e7 q a b=e7 r a b:=by rw[←ou q,h,ou]
end Go.Proofs.YtkefkplnamkicaaGreatDoor
