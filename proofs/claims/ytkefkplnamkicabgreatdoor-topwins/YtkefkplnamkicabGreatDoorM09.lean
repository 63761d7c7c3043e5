import Derived.Test.YtkefkplnamkicabGreatDoorM08
import Derived.Shelf.Strconv.Itoa3
set_option maxRecDepth 100000
set_option maxHeartbeats 8000000
open Go.Ending renaming returned → H
open Go.IntKind renaming i64 → V
open Go.Obj renaming cells → J
open Go.Proofs.Tryz renaming prog → Z
open Go.Value renaming slice → I, int → O, agg → Y, tuple → X
namespace Go.Proofs.YtkefkplnamkicabGreatDoor

theorem j6 {s:Stp} {t:List Stp} {ah:List Int} (h:(dr (s::t) ah).isSome=true):aJ s ah≠0∧(dr t (ah++[aJ s ah])).isSome=true:=by
 have h':(if aJ s ah=0 then none else dr t (ah++[aJ s ah])).isSome=true:=h
 by_cases e:aJ s ah=0
 ·rw[if_pos e] at h';cases h'
 ·rw[if_neg e] at h';exact ⟨e,h'⟩
theorem eP {q:List Stp} (h:bX q=0):q≠[]∧q.length≤8∧(dr q []).isSome=true:=by
 unfold bX at h
 by_cases h0:q.length=0
 ·rw[if_pos h0] at h;cases h
 ·rw[if_neg h0] at h
  by_cases h8:8<q.length
  ·rw[if_pos h8] at h;cases h
  ·rw[if_neg h8] at h
   by_cases hs:(dr q []).isSome=true
   ·exact ⟨fun e=>h0 (by rw[e];rfl),by omega,hs⟩
   ·rw[if_neg hs] at h;cases h
theorem sd {a b:List Zit} {s:Stp} {t:List Stp} {S:List (List Zit)} (h:iF a b (s::t) S=0):aV s a b S=0∧iF a b t (S++[aY s a b S])=0∧ku a b (s::t) S=ku a b t (S++[aY s a b S]):=by
 have h':(if aV s a b S=0 then iF a b t (S++[aY s a b S]) else aV s a b S)=0:=h
 by_cases e:aV s a b S=0
 ·rw[if_pos e] at h'
  refine ⟨e,h',?_⟩
  show (if aV s a b S=0 then _ else [])=_
  rw[if_pos e]
 ·rw[if_neg e] at h';exact absurd h' e
theorem jE {a b:List Zit} (ha:cV 4 a) (hb:cV 4 b):∀(q:List Stp) (ah:List Int) (S:List (List Zit)),(dr q ah).isSome=true→Ahd S ah→iF a b q S=0→∃ah',Ahd (ku a b q S) ah'∧(ku a b q S).length=S.length+q.length
 | [],ah,S,_,hS,_=>⟨ah,hS,by simp[ku]⟩
 | s::t,ah,S,hw,hS,he=>by
  obtain ⟨h1,h2⟩:=j6 hw
  obtain ⟨e1,e2,e3⟩:=sd he
  obtain ⟨r1,r2⟩:=lO h1 hS ha hb e1
  obtain ⟨ah',k1,k2⟩:=jE ha hb t _ _ h2 (hS.snoc r1 r2) e2
  rw[e3]
  exact ⟨ah',k1,by rw[k2];simp;omega⟩
def iK (q:List Stp) (a b:List Zit):List Zit:=(iS q a b).getD (q.length-1) []
theorem iR {q:List Stp} {a b:List Zit} (h:cL q a b=0):lW q a b=0∧iF a b q []=0∧iS q a b=ku a b q []:=by
 have h':=h
 unfold cL at h
 by_cases e:lW q a b=0
 ·rw[if_pos e] at h
  exact ⟨e,h,by unfold iS;rw[if_pos h']⟩
 ·rw[if_neg e] at h;exact absurd h e
theorem dB {q:List Stp} {a b:List Zit} (h:lW q a b=0):bX q=0∧aw a=0∧aw b=0∧cV 4 a∧cV 4 b:=by
 unfold lW at h
 by_cases h1:bX q=0
 ·rw[if_pos h1] at h
  by_cases h2:aw a=0
  ·rw[if_pos h2] at h
   by_cases h3:aw b=0
   ·rw[if_pos h3] at h
    by_cases h4:(a++b).all (fun x=>decide (x.1.length=4))=true
    ·have h5:∀x∈a++b,x.1.length=4:=fun x hx=>by simpa using List.all_eq_true.1 h4 x hx
     exact ⟨h1,h2,h3,fun x hx=>by rw[h5 x (List.mem_append.2 (Or.inl hx))];rfl,fun x hx=>by rw[h5 x (List.mem_append.2 (Or.inr hx))];rfl⟩
    ·rw[if_neg h4] at h;cases h
   ·rw[if_neg h3] at h;exact absurd h h3
  ·rw[if_neg h2] at h;exact absurd h h2
 ·rw[if_neg h1] at h;exact absurd h h1
theorem sA {q:List Stp} {a b:List Zit} (h:cL q a b=0):aw (iK q a b)=0:=by
 obtain ⟨h1,h2,h3⟩:=iR h
 obtain ⟨k1,_,_,k4,k5⟩:=dB h1
 obtain ⟨q1,_,q3⟩:=eP k1
 obtain ⟨ah',m1,m2⟩:=jE k4 k5 q [] [] q3 Ahd.nil h2
 have hq:0<q.length:=List.length_pos_iff.2 q1
 unfold iK
 rw[h3]
 exact (m1.ok _ (by rw[m2];simp;omega)).1
end Go.Proofs.YtkefkplnamkicabGreatDoor

namespace Go.Proofs.YtkefkplnamkicabGreatDoor
open Go.RowKit Go.Sort Go.Maps

structure Sts (w:World) (A:Option Addr) (ss:List Sl) (S:List (List Zit)):Prop where
 row:ay eD 1 w A ss
 each:∀s∈ss,Lv w s.A s.cap s.l
 z:ss.map (fun s=>s.l.map Itm.z)=S
theorem Sts.below {w w':World} {A:Option Addr} {ss:List Sl} {S:List (List Zit)} (h:Sts w A ss S) (q:Below w.heap.size w w'):Sts w' A ss S:=⟨h.row.below q,fun s hs=>(h.each s hs).below q,h.z⟩
theorem Sts.gr {w w':World} {A:Option Addr} {ss:List Sl} {S:List (List Zit)} (h:Sts w A ss S) (q:Gr w w'):Sts w' A ss S:=h.below q.below
theorem Sts.at {w:World} {A:Option Addr} {ss:List Sl} {S:List (List Zit)} (h:Sts w A ss S) {i:Int} (h0:0≤i) (hi:i.toNat<S.length):∃(b off n:Nat) (x:Sl),A=some ⟨b,off,none⟩∧b<w.heap.size∧i=n∧n<ss.length∧w.cell? ⟨b,off+n,none⟩=some (I x.A x.l.length x.cap)∧Lv w x.A x.cap x.l∧x.l.map Itm.z=bI S i:=by
 have hl:i.toNat<ss.length:=by
  have:=congrArg List.length h.z
  simp at this
  omega
 obtain ⟨b,off,hA,hb,hc⟩:=h.row.at hl
 refine ⟨b,off,i.toNat,ss[i.toNat],hA,hb,by omega,hl,?_,h.each _ (gM hl),?_⟩
 ·have:=hc i.toNat hl 0 (by omega)
  simpa[eD] using this
 ·unfold bI
  rw[←h.z,List.getD_eq_getElem?_getD,List.getElem?_map,List.getElem?_eq_getElem hl]
  rfl
theorem zH (s:Stp) (a b:List Itm) (A B:Option Addr) (ca cb:Nat) (SA:Option Addr) (sc:Nat) (ss:List Sl) (S:List (List Zit)) (w:World) (hk:s.k=1) (hp:s.a=0∨s.a=1) (ha:Lv w A ca a) (hb:Lv w B cb b) :
  Calls Z 182 #[Y #[O V s.k,O V s.a,O V s.b,O V s.c,O V s.o,O V s.v,I s.p s.l.length s.n],Y #[I A a.length ca,I B b.length cb],I SA ss.length sc] w fun e w'=>∃(L:List Itm) (C:Option Addr) (k:Nat),e= H (X #[I C L.length k,O V (aV s (a.map Itm.z) (b.map Itm.z) S)])∧L.map Itm.z=aY s (a.map Itm.z) (b.map Itm.z) S∧Lv w' C k L∧Below w.heap.size w w'∧NwT w' k w.heap.size C L:=by
 have hH:Hid (Lv w A ca a∧Lv w B cb b):=⟨ha,hb⟩
 clear ha hb
 have hE:Hid (aV s (a.map Itm.z) (b.map Itm.z) S=bZ (od s (a.map Itm.z) (b.map Itm.z))∧aY s (a.map Itm.z) (b.map Itm.z) S=dh (od s (a.map Itm.z) (b.map Itm.z))):=⟨by unfold aV;rw[if_pos hk],by unfold aY;rw[if_pos hk]⟩
 rcases hp with hp|hp
 ·have hT:Hid (od s (a.map Itm.z) (b.map Itm.z)=a.map Itm.z):=by show _=_;unfold od;rw[if_pos hp]
  have hN0:=nW (hH.out.1.gr (((gR _).alloc _).alloc _)) (W:=((w.alloc (J #[O V 1,O V 0,O V s.b,O V s.c,O V s.o,O V s.v,I s.p s.l.length s.n] 121)).alloc (J #[I A a.length ca,I B b.length cb] 68))) (m:=a.map Itm.z) rfl
  have hN:Hid _:=hN0
  clear hN0
  obtain ⟨E,hE2⟩:∃E,aV s (a.map Itm.z) (b.map Itm.z) S=E:=⟨_,rfl⟩
  have hE3:Hid (bZ (a.map Itm.z)=E):=by show _=_;rw[←hE2,hE.out.1,hT.out]
  rw[hE2,hk,hp]
  clear hk hp hE2
  go_enter Tryz.func182,Tryz.ntmps182
  go_wp2_with fail
  refine cM (show Calls _ _ _ _ _ from hN.out) ?_
  rintro e w2 ⟨L,C,k,rfl,h1,h2,h3,h4⟩
  rw[hE3.out]
  have hfin:Hid (L.map Itm.z=aY s (a.map Itm.z) (b.map Itm.z) S∧Lv w2 C k L∧Below w.heap.size w w2∧NwT w2 k w.heap.size C L):=⟨by rw[hE.out.2,hT.out];exact h1,h2,(((gR w).alloc _).alloc _).below.trans (h3.mono (by simp;omega)),h4.mono (by simp;omega)⟩
  clear h1 h2 h3 h4 hN
  go_wp2
  go_ret2
  exact ⟨L,C,k,rfl,hfin.out.1,hfin.out.2.1,hfin.out.2.2⟩
 ·have hT:Hid (od s (a.map Itm.z) (b.map Itm.z)=b.map Itm.z):=by show _=_;unfold od;rw[if_neg (by omega)]
  have hN0:=nW (hH.out.2.gr (((gR _).alloc _).alloc _)) (W:=((w.alloc (J #[O V 1,O V 1,O V s.b,O V s.c,O V s.o,O V s.v,I s.p s.l.length s.n] 121)).alloc (J #[I A a.length ca,I B b.length cb] 68))) (m:=b.map Itm.z) rfl
  have hN:Hid _:=hN0
  clear hN0
  obtain ⟨E,hE2⟩:∃E,aV s (a.map Itm.z) (b.map Itm.z) S=E:=⟨_,rfl⟩
  have hE3:Hid (bZ (b.map Itm.z)=E):=by show _=_;rw[←hE2,hE.out.1,hT.out]
  rw[hE2,hk,hp]
  clear hk hp hE2
  go_enter Tryz.func182,Tryz.ntmps182
  go_wp2_with fail
  refine cM (show Calls _ _ _ _ _ from hN.out) ?_
  rintro e w2 ⟨L,C,k,rfl,h1,h2,h3,h4⟩
  rw[hE3.out]
  have hfin:Hid (L.map Itm.z=aY s (a.map Itm.z) (b.map Itm.z) S∧Lv w2 C k L∧Below w.heap.size w w2∧NwT w2 k w.heap.size C L):=⟨by rw[hE.out.2,hT.out];exact h1,h2,(((gR w).alloc _).alloc _).below.trans (h3.mono (by simp;omega)),h4.mono (by simp;omega)⟩
  clear h1 h2 h3 h4 hN
  go_wp2
  go_ret2
  exact ⟨L,C,k,rfl,hfin.out.1,hfin.out.2.1,hfin.out.2.2⟩
theorem zJ (s:Stp) (a b:List Itm) (A B:Option Addr) (ca cb:Nat) (SA:Option Addr) (sc:Nat) (ss:List Sl) (S:List (List Zit)) (w:World) (hk:s.k=5) (ha0:0≤s.a) (ha1:s.a.toNat<S.length) (hb0:0≤s.b) (hb1:s.b.toNat<S.length) (hS:Sts w SA ss S) :
  Calls Z 182 #[Y #[O V s.k,O V s.a,O V s.b,O V s.c,O V s.o,O V s.v,I s.p s.l.length s.n],Y #[I A a.length ca,I B b.length cb],I SA ss.length sc] w fun e w'=>∃(L:List Itm) (C:Option Addr) (k:Nat),e= H (X #[I C L.length k,O V (aV s (a.map Itm.z) (b.map Itm.z) S)])∧L.map Itm.z=aY s (a.map Itm.z) (b.map Itm.z) S∧Lv w' C k L∧Below w.heap.size w w'∧NwT w' k w.heap.size C L:=by
 have hE:Hid (aV s (a.map Itm.z) (b.map Itm.z) S=aR (bI S s.a) (bI S s.b)∧aY s (a.map Itm.z) (b.map Itm.z) S=aP (bI S s.a) (bI S s.b)):=⟨by unfold aV;rw[if_neg (by omega),if_neg (by omega),if_pos hk],by unfold aY;rw[if_neg (by omega),if_neg (by omega),if_pos hk]⟩
 obtain ⟨bb,off,na,x,hA,hbb,hna,hnal,hxc,hxl,hxz⟩:=hS.at ha0 ha1
 obtain ⟨bb',off',nb,y,hA',_,hnb,hnbl,hyc,hyl,hyz⟩:=hS.at hb0 hb1
 subst hA
 cases hA'
 obtain ⟨E,hE2⟩:∃E,aV s (a.map Itm.z) (b.map Itm.z) S=E:=⟨_,rfl⟩
 have hE3:Hid (aR (bI S s.a) (bI S s.b)=E):=by show _=_;rw[←hE2,hE.out.1]
 have hgW:Hid (Gr w ((w.alloc (J #[O V 5,O V (na:Int),O V (nb:Int),O V s.c,O V s.o,O V s.v,I s.p s.l.length s.n] 121)).alloc (J #[I A a.length ca,I B b.length cb] 68))):=((gR _).alloc _).alloc _
 obtain ⟨WX,hWX⟩:∃WX,((w.alloc (J #[O V 5,O V (na:Int),O V (nb:Int),O V s.c,O V s.o,O V s.v,I s.p s.l.length s.n] 121)).alloc (J #[I A a.length ca,I B b.length cb] 68))=WX:=⟨_,rfl⟩
 have q0:WX.cell? ⟨w.heap.size,0,none⟩=some (O V 5):=by rw[←hWX];exact ab (w:=w) ((gR _).alloc _) rfl
 have q1:WX.cell? ⟨w.heap.size,1,none⟩=some (O V (na:Int)):=by rw[←hWX];exact ab (w:=w) ((gR _).alloc _) rfl
 have q2:WX.cell? ⟨w.heap.size,2,none⟩=some (O V (nb:Int)):=by rw[←hWX];exact ab (w:=w) ((gR _).alloc _) rfl
 have hsb:w.heap.size<WX.heap.size:=by rw[←hWX];simp;omega
 rw[hWX] at hgW
 have hC0:=ol ((hxl.gr hgW.out).gr (gR _).drew) ((hyl.gr hgW.out).gr (gR _).drew) hxz hyz (W:=WX.drew)
 have hC:Hid _:=hC0
 clear hC0
 have hKeep:Hid (∀W',Below WX.heap.size WX W'→(fun w'=>w'.cell? ⟨w.heap.size,1,none⟩=some (O V (na:Int))∧w'.cell? ⟨w.heap.size,2,none⟩=some (O V (nb:Int))∧w'.cell? ⟨bb,off+na,none⟩=some (I x.A x.l.length x.cap)∧w'.cell? ⟨bb,off+nb,none⟩=some (I y.A y.l.length y.cap)) W'):=fun W' h=>⟨(h.cell (p:=⟨w.heap.size,1,none⟩) hsb).trans q1,(h.cell (p:=⟨w.heap.size,2,none⟩) hsb).trans q2,(h.cell (p:=⟨bb,off+na,none⟩) (nL hbb hgW.out.size)).trans ((hgW.out.below.cell (p:=⟨bb,off+na,none⟩) hbb).trans hxc),(h.cell (p:=⟨bb,off+nb,none⟩) (nL hbb hgW.out.size)).trans ((hgW.out.below.cell (p:=⟨bb,off+nb,none⟩) hbb).trans hyc)⟩
 have hbD:Hid (Below WX.heap.size WX WX.drew):=(bR _ _).drew
 have hnaz:(na:Int)<(ss.length:Int):=by omega
 have hnbz:(nb:Int)<(ss.length:Int):=by omega
 rw[hE2,hk,hna,hnb]
 clear hk hE2 hxc hyc hxl hyl hxz hyz hna hnb ha0 ha1 hb0 hb1 hnal hnbl hbb q1 q2 hS
 go_enter Tryz.func182,Tryz.ntmps182
 go_wp2_with fail
 clear hWX
 refine wp_region_noPanic ?_
 refine wp_region_held_drew (S:=(fun w'=>w'.cell? ⟨w.heap.size,1,none⟩=some (O V (na:Int))∧w'.cell? ⟨w.heap.size,2,none⟩=some (O V (nb:Int))∧w'.cell? ⟨bb,off+na,none⟩=some (I x.A x.l.length x.cap)∧w'.cell? ⟨bb,off+nb,none⟩=some (I y.A y.l.length y.cap))) (by kernel_rfl) (hKeep.out _ hbD.out) (fun hHeld=> ?_)
 refine tks [0,1,2,3,4,5,6,7,8,9] (by assumption) ?_
 iterate 10 (refine tk (v:= ?_) (by rfl) (by kernel_rfl) ?_ ?_;rotate_left;· (refine oL ⟨by rfl,?_⟩;intro w hSw;(try dsimp only at hSw);go_simp<;>with_reducible rfl);try simp only[Act.put,yA,aE,yS])
 refine tk0 ?_
 refine wpAnyH_ready (rs:=[10]) (by kernel_rfl) (by simp) ?_
 refine AllReadyH.cons (o:= ?oitell511) ?hoptell511 (fun K hK=> ?steptell511) ?moretell511
 case hoptell511=>(simp only[zA,z0',zS];rfl)
 case moretell511=>exact AllReadyH.nil
 go_simp
 (go_at_call 117;(refine cM (show Calls _ _ _ _ _ from hC.out) ?_);rintro e w2 ⟨L,C,k,rfl,h1,h2,h3,h4⟩;rw[hE3.out];have hb2:Hid (Below WX.heap.size WX w2):=hbD.out.trans (h3.mono hbD.out.size);have hfin:Hid (L.map Itm.z=aY s (a.map Itm.z) (b.map Itm.z) S∧Lv w2 C k L∧Below w.heap.size w w2∧NwT w2 k w.heap.size C L):=⟨by rw[hE.out.2];exact h1,h2,hgW.out.below.trans (hb2.out.mono hgW.out.size),h4.mono (nT hgW.out.size hbD.out.size)⟩;clear h1 h2 h3 h4)
 first|(go_wp2_with fail)|skip
 refine hK.out _ _ ?_ (fun hHeld=> ?_)
 ·(try dsimp only);first|with_reducible exact hKeep.out _ hbD.out|with_reducible exact hKeep.out _ hb2.out
 clear hK K
 try simp only[Act.put,yA,aE,yS]
 refine tks [11,12,13,14] (by assumption) ?_
 iterate 4 (refine tk (v:= ?_) (by rfl) (by kernel_rfl) ?_ ?_;rotate_left;· (refine oL ⟨by rfl,?_⟩;intro w hSw;(try dsimp only at hSw);go_simp<;>with_reducible rfl);try simp only[Act.put,yA,aE,yS])
 refine tk0 ?_
 refine wpAnyH_done (by kernel_rfl) ?_ _
 refine NoPanic.normal ?_
 go_wp2
 go_ret2
 exact ⟨L,C,k,rfl,hfin.out.1,hfin.out.2.1,hfin.out.2.2⟩
theorem zK (s:Stp) (a b:List Itm) (A B:Option Addr) (ca cb:Nat) (SA:Option Addr) (sc:Nat) (ss:List Sl) (S:List (List Zit)) (w:World) (hk:s.k=6) (ha0:0≤s.a) (ha1:s.a.toNat<S.length) (hb0:0≤s.b) (hb1:s.b.toNat<S.length) (hS:Sts w SA ss S) (hey:aw (bI S s.b)=0) :
  Calls Z 182 #[Y #[O V s.k,O V s.a,O V s.b,O V s.c,O V s.o,O V s.v,I s.p s.l.length s.n],Y #[I A a.length ca,I B b.length cb],I SA ss.length sc] w fun e w'=>∃(L:List Itm) (C:Option Addr) (k:Nat),e= H (X #[I C L.length k,O V (aV s (a.map Itm.z) (b.map Itm.z) S)])∧L.map Itm.z=aY s (a.map Itm.z) (b.map Itm.z) S∧Lv w' C k L∧Below w.heap.size w w'∧NwT w' k w.heap.size C L:=by
 have hE:Hid (aV s (a.map Itm.z) (b.map Itm.z) S=mf (bI S s.a) (bI S s.b)∧aY s (a.map Itm.z) (b.map Itm.z) S=qG (bI S s.a) (bI S s.b)):=⟨by unfold aV;rw[if_neg (by omega),if_neg (by omega),if_neg (by omega),if_pos hk],by unfold aY;rw[if_neg (by omega),if_neg (by omega),if_neg (by omega),if_pos hk]⟩
 obtain ⟨bb,off,na,x,hA,hbb,hna,hnal,hxc,hxl,hxz⟩:=hS.at ha0 ha1
 obtain ⟨bb',off',nb,y,hA',_,hnb,hnbl,hyc,hyl,hyz⟩:=hS.at hb0 hb1
 subst hA
 cases hA'
 obtain ⟨E,hE2⟩:∃E,aV s (a.map Itm.z) (b.map Itm.z) S=E:=⟨_,rfl⟩
 have hE3:Hid (mf (bI S s.a) (bI S s.b)=E):=by show _=_;rw[←hE2,hE.out.1]
 have hgW:Hid (Gr w ((w.alloc (J #[O V 6,O V (na:Int),O V (nb:Int),O V s.c,O V s.o,O V s.v,I s.p s.l.length s.n] 121)).alloc (J #[I A a.length ca,I B b.length cb] 68))):=((gR _).alloc _).alloc _
 obtain ⟨WX,hWX⟩:∃WX,((w.alloc (J #[O V 6,O V (na:Int),O V (nb:Int),O V s.c,O V s.o,O V s.v,I s.p s.l.length s.n] 121)).alloc (J #[I A a.length ca,I B b.length cb] 68))=WX:=⟨_,rfl⟩
 have q0:WX.cell? ⟨w.heap.size,0,none⟩=some (O V 6):=by rw[←hWX];exact ab (w:=w) ((gR _).alloc _) rfl
 have q1:WX.cell? ⟨w.heap.size,1,none⟩=some (O V (na:Int)):=by rw[←hWX];exact ab (w:=w) ((gR _).alloc _) rfl
 have q2:WX.cell? ⟨w.heap.size,2,none⟩=some (O V (nb:Int)):=by rw[←hWX];exact ab (w:=w) ((gR _).alloc _) rfl
 have hsb:w.heap.size<WX.heap.size:=by rw[←hWX];simp;omega
 rw[hWX] at hgW
 have hC0:=yz ((hxl.gr hgW.out).gr (gR _).drew) ((hyl.gr hgW.out).gr (gR _).drew) (by rw[hyz];exact hey) hxz hyz (W:=WX.drew)
 have hC:Hid _:=hC0
 clear hC0
 have hKeep:Hid (∀W',Below WX.heap.size WX W'→(fun w'=>w'.cell? ⟨w.heap.size,1,none⟩=some (O V (na:Int))∧w'.cell? ⟨w.heap.size,2,none⟩=some (O V (nb:Int))∧w'.cell? ⟨bb,off+na,none⟩=some (I x.A x.l.length x.cap)∧w'.cell? ⟨bb,off+nb,none⟩=some (I y.A y.l.length y.cap)) W'):=fun W' h=>⟨(h.cell (p:=⟨w.heap.size,1,none⟩) hsb).trans q1,(h.cell (p:=⟨w.heap.size,2,none⟩) hsb).trans q2,(h.cell (p:=⟨bb,off+na,none⟩) (nL hbb hgW.out.size)).trans ((hgW.out.below.cell (p:=⟨bb,off+na,none⟩) hbb).trans hxc),(h.cell (p:=⟨bb,off+nb,none⟩) (nL hbb hgW.out.size)).trans ((hgW.out.below.cell (p:=⟨bb,off+nb,none⟩) hbb).trans hyc)⟩
 have hbD:Hid (Below WX.heap.size WX WX.drew):=(bR _ _).drew
 have hnaz:(na:Int)<(ss.length:Int):=by omega
 have hnbz:(nb:Int)<(ss.length:Int):=by omega
 rw[hE2,hk,hna,hnb]
 clear hk hE2 hxc hyc hxl hyl hxz hyz hna hnb ha0 ha1 hb0 hb1 hnal hnbl hbb q1 q2 hS
 go_enter Tryz.func182,Tryz.ntmps182
 go_wp2_with fail
 clear hWX
 refine wp_region_noPanic ?_
 refine wp_region_held_drew (S:=(fun w'=>w'.cell? ⟨w.heap.size,1,none⟩=some (O V (na:Int))∧w'.cell? ⟨w.heap.size,2,none⟩=some (O V (nb:Int))∧w'.cell? ⟨bb,off+na,none⟩=some (I x.A x.l.length x.cap)∧w'.cell? ⟨bb,off+nb,none⟩=some (I y.A y.l.length y.cap))) (by kernel_rfl) (hKeep.out _ hbD.out) (fun hHeld=> ?_)
 refine tks [0,1,2,3,4,5,6,7,8,9] (by assumption) ?_
 iterate 10 (refine tk (v:= ?_) (by rfl) (by kernel_rfl) ?_ ?_;rotate_left;· (refine oL ⟨by rfl,?_⟩;intro w hSw;(try dsimp only at hSw);go_simp<;>with_reducible rfl);try simp only[Act.put,yA,aE,yS])
 refine tk0 ?_
 refine wpAnyH_ready (rs:=[10]) (by kernel_rfl) (by simp) ?_
 refine AllReadyH.cons (o:= ?oitell611) ?hoptell611 (fun K hK=> ?steptell611) ?moretell611
 case hoptell611=>(simp only[zA,z0',zS];rfl)
 case moretell611=>exact AllReadyH.nil
 go_simp
 (go_at_call 207;(refine cM (show Calls _ _ _ _ _ from hC.out) ?_);rintro e w2 ⟨L,C,k,rfl,h1,h2,h3,h4⟩;rw[hE3.out];have hb2:Hid (Below WX.heap.size WX w2):=hbD.out.trans (h3.mono hbD.out.size);have hfin:Hid (L.map Itm.z=aY s (a.map Itm.z) (b.map Itm.z) S∧Lv w2 C k L∧Below w.heap.size w w2∧NwT w2 k w.heap.size C L):=⟨by rw[hE.out.2];exact h1,h2,hgW.out.below.trans (hb2.out.mono hgW.out.size),h4.mono (nT hgW.out.size hbD.out.size)⟩;clear h1 h2 h3 h4)
 first|(go_wp2_with fail)|skip
 refine hK.out _ _ ?_ (fun hHeld=> ?_)
 ·(try dsimp only);first|with_reducible exact hKeep.out _ hbD.out|with_reducible exact hKeep.out _ hb2.out
 clear hK K
 try simp only[Act.put,yA,aE,yS]
 refine tks [11,12,13,14] (by assumption) ?_
 iterate 4 (refine tk (v:= ?_) (by rfl) (by kernel_rfl) ?_ ?_;rotate_left;· (refine oL ⟨by rfl,?_⟩;intro w hSw;(try dsimp only at hSw);go_simp<;>with_reducible rfl);try simp only[Act.put,yA,aE,yS])
 refine tk0 ?_
 refine wpAnyH_done (by kernel_rfl) ?_ _
 refine NoPanic.normal ?_
 go_wp2
 go_ret2
 exact ⟨L,C,k,rfl,hfin.out.1,hfin.out.2.1,hfin.out.2.2⟩
theorem zI (s:Stp) (a b:List Itm) (A B:Option Addr) (ca cb:Nat) (SA:Option Addr) (sc:Nat) (ss:List Sl) (S:List (List Zit)) (w:World) (hk:s.k=4) (ha0:0≤s.a) (ha1:s.a.toNat<S.length) (hb0:0≤s.b) (hb1:s.b.toNat<S.length) (hS:Sts w SA ss S) (hJo:∀l r:List Itm,l.map Itm.z=bI S s.a→r.map Itm.z=bI S s.b→JoinOk s.c s.v l r) :
  Calls Z 182 #[Y #[O V s.k,O V s.a,O V s.b,O V s.c,O V s.o,O V s.v,I s.p s.l.length s.n],Y #[I A a.length ca,I B b.length cb],I SA ss.length sc] w fun e w'=>∃(L:List Itm) (C:Option Addr) (k:Nat),e= H (X #[I C L.length k,O V (aV s (a.map Itm.z) (b.map Itm.z) S)])∧L.map Itm.z=aY s (a.map Itm.z) (b.map Itm.z) S∧Lv w' C k L∧Below w.heap.size w w'∧NwT w' k w.heap.size C L:=by
 have hE:Hid (aV s (a.map Itm.z) (b.map Itm.z) S=jR (bI S s.a) (bI S s.b) s.c s.v∧aY s (a.map Itm.z) (b.map Itm.z) S=lI (bI S s.a) (bI S s.b) s.c s.v):=⟨by unfold aV;rw[if_neg (by omega),if_pos hk],by unfold aY;rw[if_neg (by omega),if_pos hk]⟩
 obtain ⟨bb,off,na,x,hA,hbb,hna,hnal,hxc,hxl,hxz⟩:=hS.at ha0 ha1
 obtain ⟨bb',off',nb,y,hA',_,hnb,hnbl,hyc,hyl,hyz⟩:=hS.at hb0 hb1
 subst hA
 cases hA'
 obtain ⟨E,hE2⟩:∃E,aV s (a.map Itm.z) (b.map Itm.z) S=E:=⟨_,rfl⟩
 have hE3:Hid (jR (bI S s.a) (bI S s.b) s.c s.v=E):=by show _=_;rw[←hE2,hE.out.1]
 have hgW:Hid (Gr w ((w.alloc (J #[O V 4,O V (na:Int),O V (nb:Int),O V s.c,O V s.o,O V s.v,I s.p s.l.length s.n] 121)).alloc (J #[I A a.length ca,I B b.length cb] 68))):=((gR _).alloc _).alloc _
 obtain ⟨WX,hWX⟩:∃WX,((w.alloc (J #[O V 4,O V (na:Int),O V (nb:Int),O V s.c,O V s.o,O V s.v,I s.p s.l.length s.n] 121)).alloc (J #[I A a.length ca,I B b.length cb] 68))=WX:=⟨_,rfl⟩
 have q0:WX.cell? ⟨w.heap.size,0,none⟩=some (O V 4):=by rw[←hWX];exact ab (w:=w) ((gR _).alloc _) rfl
 have q1:WX.cell? ⟨w.heap.size,1,none⟩=some (O V (na:Int)):=by rw[←hWX];exact ab (w:=w) ((gR _).alloc _) rfl
 have q2:WX.cell? ⟨w.heap.size,2,none⟩=some (O V (nb:Int)):=by rw[←hWX];exact ab (w:=w) ((gR _).alloc _) rfl
 have q3:WX.cell? ⟨w.heap.size,3,none⟩=some (O V s.c):=by rw[←hWX];exact ab (w:=w) ((gR _).alloc _) rfl
 have q5:WX.cell? ⟨w.heap.size,5,none⟩=some (O V s.v):=by rw[←hWX];exact ab (w:=w) ((gR _).alloc _) rfl
 have hsb:w.heap.size<WX.heap.size:=by rw[←hWX];simp;omega
 rw[hWX] at hgW
 have hC0:=zh ((hxl.gr hgW.out).gr (gR _).drew) ((hyl.gr hgW.out).gr (gR _).drew) (hJo x.l y.l hxz hyz) hxz hyz (W:=WX.drew)
 have hC:Hid _:=hC0
 clear hC0
 have hKeep:Hid (∀W',Below WX.heap.size WX W'→(fun w'=>w'.cell? ⟨w.heap.size,1,none⟩=some (O V (na:Int))∧w'.cell? ⟨w.heap.size,2,none⟩=some (O V (nb:Int))∧w'.cell? ⟨bb,off+na,none⟩=some (I x.A x.l.length x.cap)∧w'.cell? ⟨bb,off+nb,none⟩=some (I y.A y.l.length y.cap)∧w'.cell? ⟨w.heap.size,3,none⟩=some (O V s.c)∧w'.cell? ⟨w.heap.size,5,none⟩=some (O V s.v)) W'):=fun W' h=>⟨(h.cell (p:=⟨w.heap.size,1,none⟩) hsb).trans q1,(h.cell (p:=⟨w.heap.size,2,none⟩) hsb).trans q2,(h.cell (p:=⟨bb,off+na,none⟩) (nL hbb hgW.out.size)).trans ((hgW.out.below.cell (p:=⟨bb,off+na,none⟩) hbb).trans hxc),(h.cell (p:=⟨bb,off+nb,none⟩) (nL hbb hgW.out.size)).trans ((hgW.out.below.cell (p:=⟨bb,off+nb,none⟩) hbb).trans hyc),(h.cell (p:=⟨w.heap.size,3,none⟩) hsb).trans q3,(h.cell (p:=⟨w.heap.size,5,none⟩) hsb).trans q5⟩
 have hbD:Hid (Below WX.heap.size WX WX.drew):=(bR _ _).drew
 have hnaz:(na:Int)<(ss.length:Int):=by omega
 have hnbz:(nb:Int)<(ss.length:Int):=by omega
 rw[hE2,hk,hna,hnb]
 clear hk hE2 hxc hyc hxl hyl hxz hyz hna hnb ha0 ha1 hb0 hb1 hnal hnbl hbb q1 q2 q3 q5 hS
 go_enter Tryz.func182,Tryz.ntmps182
 go_wp2_with fail
 clear hWX
 refine wp_region_noPanic ?_
 refine wp_region_held_drew (S:=(fun w'=>w'.cell? ⟨w.heap.size,1,none⟩=some (O V (na:Int))∧w'.cell? ⟨w.heap.size,2,none⟩=some (O V (nb:Int))∧w'.cell? ⟨bb,off+na,none⟩=some (I x.A x.l.length x.cap)∧w'.cell? ⟨bb,off+nb,none⟩=some (I y.A y.l.length y.cap)∧w'.cell? ⟨w.heap.size,3,none⟩=some (O V s.c)∧w'.cell? ⟨w.heap.size,5,none⟩=some (O V s.v))) (by kernel_rfl) (hKeep.out _ hbD.out) (fun hHeld=> ?_)
 refine tks [0,1,2,3,4,5,6,7,8,9,10,11,12,13] (by assumption) ?_
 iterate 14 (refine tk (v:= ?_) (by rfl) (by kernel_rfl) ?_ ?_;rotate_left;· (refine oL ⟨by rfl,?_⟩;intro w hSw;(try dsimp only at hSw);go_simp<;>with_reducible rfl);try simp only[Act.put,yA,aE,yS])
 refine tk0 ?_
 refine wpAnyH_ready (rs:=[14]) (by kernel_rfl) (by simp) ?_
 refine AllReadyH.cons (o:= ?oitell415) ?hoptell415 (fun K hK=> ?steptell415) ?moretell415
 case hoptell415=>(simp only[zA,z0',zS];rfl)
 case moretell415=>exact AllReadyH.nil
 go_simp
 (go_at_call 206;(refine cM (show Calls _ _ _ _ _ from hC.out) ?_);rintro e w2 ⟨L,C,k,rfl,h1,h2,h3,h4⟩;rw[hE3.out];have hb2:Hid (Below WX.heap.size WX w2):=hbD.out.trans (h3.mono hbD.out.size);have hfin:Hid (L.map Itm.z=aY s (a.map Itm.z) (b.map Itm.z) S∧Lv w2 C k L∧Below w.heap.size w w2∧NwT w2 k w.heap.size C L):=⟨by rw[hE.out.2];exact h1,h2,hgW.out.below.trans (hb2.out.mono hgW.out.size),h4.mono (nT hgW.out.size hbD.out.size)⟩;clear h1 h2 h3 h4)
 first|(go_wp2_with fail)|skip
 refine hK.out _ _ ?_ (fun hHeld=> ?_)
 ·(try dsimp only);first|with_reducible exact hKeep.out _ hbD.out|with_reducible exact hKeep.out _ hb2.out
 clear hK K
 try simp only[Act.put,yA,aE,yS]
 refine tks [15,16,17,18] (by assumption) ?_
 iterate 4 (refine tk (v:= ?_) (by rfl) (by kernel_rfl) ?_ ?_;rotate_left;· (refine oL ⟨by rfl,?_⟩;intro w hSw;(try dsimp only at hSw);go_simp<;>with_reducible rfl);try simp only[Act.put,yA,aE,yS])
 refine tk0 ?_
 refine wpAnyH_done (by kernel_rfl) ?_ _
 refine NoPanic.normal ?_
 go_wp2
 go_ret2
 exact ⟨L,C,k,rfl,hfin.out.1,hfin.out.2.1,hfin.out.2.2⟩
theorem jz (s:Stp) (a b:List Itm) (A B:Option Addr) (ca cb:Nat) (SA:Option Addr) (sc:Nat) (ss:List Sl) (S:List (List Zit)) (w:World) (kz:Int) (hkz:s.k=kz) (hk:kz=2∨kz=3∨kz=8∨kz=7∨kz=9) (ha0:0≤s.a) (ha1:s.a.toNat<S.length) (hS:Sts w SA ss S) (hs:ar w s.p s.l) (hO:∀l:List Itm,l.map Itm.z=bI S s.a→OneOk s l) :
  Calls Z 182 #[Y #[O V s.k,O V s.a,O V s.b,O V s.c,O V s.o,O V s.v,I s.p s.l.length s.n],Y #[I A a.length ca,I B b.length cb],I SA ss.length sc] w fun e w'=>∃(L:List Itm) (C:Option Addr) (k:Nat),e= H (X #[I C L.length k,O V (aV s (a.map Itm.z) (b.map Itm.z) S)])∧L.map Itm.z=aY s (a.map Itm.z) (b.map Itm.z) S∧Lv w' C k L∧Below w.heap.size w w'∧NwT w' k w.heap.size C L:=by
 have hE:Hid (aV s (a.map Itm.z) (b.map Itm.z) S=bZ (e8 s (bI S s.a))∧aY s (a.map Itm.z) (b.map Itm.z) S=dh (e8 s (bI S s.a))):=⟨by unfold aV;rw[if_neg (by omega),if_neg (by omega),if_neg (by omega),if_neg (by omega)],by unfold aY;rw[if_neg (by omega),if_neg (by omega),if_neg (by omega),if_neg (by omega)]⟩
 obtain ⟨bb,off,na,x,hA,hbb,hna,hnal,hxc,hxl,hxz⟩:=hS.at ha0 ha1
 subst hA
 obtain ⟨E,hE2⟩:∃E,aV s (a.map Itm.z) (b.map Itm.z) S=E:=⟨_,rfl⟩
 have hE3:Hid (bZ (e8 s (bI S s.a))=E):=by show _=_;rw[←hE2,hE.out.1]
 have hgW:Hid (Gr w ((w.alloc (J #[O V kz,O V (na:Int),O V s.b,O V s.c,O V s.o,O V s.v,I s.p s.l.length s.n] 121)).alloc (J #[I A a.length ca,I B b.length cb] 68))):=((gR _).alloc _).alloc _
 obtain ⟨WX,hWX⟩:∃WX,((w.alloc (J #[O V kz,O V (na:Int),O V s.b,O V s.c,O V s.o,O V s.v,I s.p s.l.length s.n] 121)).alloc (J #[I A a.length ca,I B b.length cb] 68))=WX:=⟨_,rfl⟩
 have q0:WX.cell? ⟨w.heap.size,0,none⟩=some (O V kz):=by rw[←hWX];exact ab (w:=w) ((gR _).alloc _) rfl
 have q1:WX.cell? ⟨w.heap.size,1,none⟩=some (O V (na:Int)):=by rw[←hWX];exact ab (w:=w) ((gR _).alloc _) rfl
 have q2:WX.cell? ⟨w.heap.size,2,none⟩=some (O V s.b):=by rw[←hWX];exact ab (w:=w) ((gR _).alloc _) rfl
 have q3:WX.cell? ⟨w.heap.size,3,none⟩=some (O V s.c):=by rw[←hWX];exact ab (w:=w) ((gR _).alloc _) rfl
 have q4:WX.cell? ⟨w.heap.size,4,none⟩=some (O V s.o):=by rw[←hWX];exact ab (w:=w) ((gR _).alloc _) rfl
 have q5:WX.cell? ⟨w.heap.size,5,none⟩=some (O V s.v):=by rw[←hWX];exact ab (w:=w) ((gR _).alloc _) rfl
 have q6:WX.cell? ⟨w.heap.size,6,none⟩=some (I s.p s.l.length s.n):=by rw[←hWX];exact ab (w:=w) ((gR _).alloc _) rfl
 have hsb:w.heap.size<WX.heap.size:=by rw[←hWX];simp;omega
 rw[hWX] at hgW
 have hk2:s.k=2∨s.k=3∨s.k=8∨s.k=7∨s.k=9:=by omega
 have hC0:=xr s x.l x.A x.cap WX.drew hk2 (hO x.l hxz) ((hxl.items.gr hgW.out).gr (gR _).drew) ((hs.gr hgW.out).gr (gR _).drew)
 rw[hkz,hna] at hC0
 have hC:Hid _:=hC0
 clear hC0
 have hxzH:Hid (x.l.map Itm.z=bI S s.a):=hxz
 have hKeep:Hid (∀W',Below WX.heap.size WX W'→(fun w'=>w'.cell? ⟨w.heap.size,0,none⟩=some (O V kz)∧w'.cell? ⟨w.heap.size,1,none⟩=some (O V (na:Int))∧w'.cell? ⟨w.heap.size,2,none⟩=some (O V s.b)∧w'.cell? ⟨w.heap.size,3,none⟩=some (O V s.c)∧w'.cell? ⟨w.heap.size,4,none⟩=some (O V s.o)∧w'.cell? ⟨w.heap.size,5,none⟩=some (O V s.v)∧w'.cell? ⟨w.heap.size,6,none⟩=some (I s.p s.l.length s.n)∧w'.cell? ⟨bb,off+na,none⟩=some (I x.A x.l.length x.cap)) W'):=fun W' h=>⟨(h.cell (p:=⟨w.heap.size,0,none⟩) hsb).trans q0,(h.cell (p:=⟨w.heap.size,1,none⟩) hsb).trans q1,(h.cell (p:=⟨w.heap.size,2,none⟩) hsb).trans q2,(h.cell (p:=⟨w.heap.size,3,none⟩) hsb).trans q3,(h.cell (p:=⟨w.heap.size,4,none⟩) hsb).trans q4,(h.cell (p:=⟨w.heap.size,5,none⟩) hsb).trans q5,(h.cell (p:=⟨w.heap.size,6,none⟩) hsb).trans q6,(h.cell (p:=⟨bb,off+na,none⟩) (nL hbb hgW.out.size)).trans ((hgW.out.below.cell (p:=⟨bb,off+na,none⟩) hbb).trans hxc)⟩
 have hbD:Hid (Below WX.heap.size WX WX.drew):=(bR _ _).drew
 have hnaz:(na:Int)<(ss.length:Int):=by omega
 have kz1:(kz==1)=false:=by rcases hk with h|h|h|h|h<;>rw[h]<;>rfl
 have kz4:(kz==4)=false:=by rcases hk with h|h|h|h|h<;>rw[h]<;>rfl
 have kz5:(kz==5)=false:=by rcases hk with h|h|h|h|h<;>rw[h]<;>rfl
 have kz6:(kz==6)=false:=by rcases hk with h|h|h|h|h<;>rw[h]<;>rfl
 rw[hE2,hkz,hna]
 clear hk hk2 hE2 hxc hxl hxz hna ha0 ha1 hnal hbb q1 q2 q3 q4 q5 q6 hS hs hO hkz
 go_enter Tryz.func182,Tryz.ntmps182
 go_wp2_with fail
 clear hWX q0
 refine wp_region_noPanic ?_
 refine wp_region_held_drew (S:=(fun w'=>w'.cell? ⟨w.heap.size,0,none⟩=some (O V kz)∧w'.cell? ⟨w.heap.size,1,none⟩=some (O V (na:Int))∧w'.cell? ⟨w.heap.size,2,none⟩=some (O V s.b)∧w'.cell? ⟨w.heap.size,3,none⟩=some (O V s.c)∧w'.cell? ⟨w.heap.size,4,none⟩=some (O V s.o)∧w'.cell? ⟨w.heap.size,5,none⟩=some (O V s.v)∧w'.cell? ⟨w.heap.size,6,none⟩=some (I s.p s.l.length s.n)∧w'.cell? ⟨bb,off+na,none⟩=some (I x.A x.l.length x.cap))) (by kernel_rfl) (hKeep.out _ hbD.out) (fun hHeld=> ?_)
 refine tks [0,1,2,3,4,5] (by assumption) ?_
 iterate 6 (refine tk (v:= ?_) (by rfl) (by kernel_rfl) ?_ ?_;rotate_left;· (refine oL ⟨by rfl,?_⟩;intro w hSw;(try dsimp only at hSw);go_simp<;>with_reducible rfl);try simp only[Act.put,yA,aE,yS])
 refine tk0 ?_
 refine wpAnyH_ready (rs:=[6]) (by kernel_rfl) (by simp) ?_
 refine AllReadyH.cons (o:= ?oitellOne7) ?hoptellOne7 (fun K hK=> ?steptellOne7) ?moretellOne7
 case hoptellOne7=>(simp only[zA,z0',zS];rfl)
 case moretellOne7=>exact AllReadyH.nil
 go_simp
 (go_at_call 208;(refine cM (show Calls _ _ _ _ _ from hC.out) ?_);rintro e w1 ⟨L1,C1,k1,rfl,g1,g2,g3,g4⟩;have hb1:Hid (Below WX.heap.size WX w1):=hbD.out.trans (g4.mono hbD.out.size);have hN0:=nW g2 (m:=e8 s (bI S s.a)) (by rw[g1,hxzH.out]);have hN:Hid _:=hN0;clear hN0 g1 g2 g3 g4)
 first|(go_wp2_with fail)|skip
 refine hK.out _ _ ?_ (fun hHeld=> ?_)
 ·(try dsimp only);first|with_reducible exact hKeep.out _ hbD.out|with_reducible exact hKeep.out _ hb2.out|with_reducible exact hKeep.out _ hb1.out
 clear hK K
 try simp only[Act.put,yA,aE,yS]
 refine wpAnyH_ready (rs:=[7]) (by kernel_rfl) (by simp) ?_
 refine AllReadyH.cons (o:= ?oitellOne8) ?hoptellOne8 (fun K hK=> ?steptellOne8) ?moretellOne8
 case hoptellOne8=>(simp only[zA,z0',zS];rfl)
 case moretellOne8=>exact AllReadyH.nil
 go_simp
 (go_at_call 205;(refine cM (show Calls _ _ _ _ _ from hN.out) ?_);rintro e w2 ⟨L,C,k,rfl,h1,h2,h3,h4⟩;rw[hE3.out];have hb2:Hid (Below WX.heap.size WX w2):=hb1.out.trans (h3.mono hb1.out.size);have hfin:Hid (L.map Itm.z=aY s (a.map Itm.z) (b.map Itm.z) S∧Lv w2 C k L∧Below w.heap.size w w2∧NwT w2 k w.heap.size C L):=⟨by rw[hE.out.2];exact h1,h2,hgW.out.below.trans (hb2.out.mono hgW.out.size),h4.mono (nT hgW.out.size hb1.out.size)⟩;clear h1 h2 h3 h4)
 first|(go_wp2_with fail)|skip
 refine hK.out _ _ ?_ (fun hHeld=> ?_)
 ·(try dsimp only);first|with_reducible exact hKeep.out _ hbD.out|with_reducible exact hKeep.out _ hb2.out|with_reducible exact hKeep.out _ hb1.out
 clear hK K
 try simp only[Act.put,yA,aE,yS]
 refine tks [8,9,10,11] (by assumption) ?_
 iterate 4 (refine tk (v:= ?_) (by rfl) (by kernel_rfl) ?_ ?_;rotate_left;· (refine oL ⟨by rfl,?_⟩;intro w hSw;(try dsimp only at hSw);go_simp<;>with_reducible rfl);try simp only[Act.put,yA,aE,yS])
 refine tk0 ?_
 refine wpAnyH_done (by kernel_rfl) ?_ _
 refine NoPanic.normal ?_
 go_wp2
 go_ret2
 exact ⟨L,C,k,rfl,hfin.out.1,hfin.out.2.1,hfin.out.2.2⟩
end Go.Proofs.YtkefkplnamkicabGreatDoor

namespace Go.Proofs.YtkefkplnamkicabGreatDoor

theorem lU {l m:List Zit} {x:Zit} (hx:x.2≠0) (hlt:∀y∈m,aB x.1 y.1<0) (hw:∀r,wt l r=(if x.1=r then x.2 else 0)+wt m r):cU l=x::cU m:=by
 refine (bi l).uniq (m:=l) (T:=x::cU m) ⟨?_,?_,?_⟩ (fun _=>rfl)
 ·unfold eB
  rw[List.pairwise_cons]
  exact ⟨fun y hy=>by
   obtain ⟨z,hz,e⟩:=(bi m).row hy
   rw[←e];exact hlt z hz,(bi m).rise⟩
 ·intro y hy
  rcases List.mem_cons.1 hy with e|e
  ·rw[e];exact hx
  ·exact (bi m).noz y e
 ·intro r
  show (if x.1=r then x.2 else 0)+wt (cU m) r=_
  rw[(bi m).same,hw]
def bf (a b:List Zit):List Zit:=cU (a++f9 b)
theorem gk (a b:List Zit) (r:List Int):wt (a++f9 b) r=wt a r-wt b r:=by
 rw[cC]
 have:=ww b r
 unfold f9
 omega
theorem kD {b:List Zit} {z:Zit} (h:z∈f9 b):∃y∈b,y.1=z.1:=by
 obtain ⟨y,hy,rfl⟩:=List.mem_map.1 h
 exact ⟨y,hy,rfl⟩
theorem wO:bf [] []=[]:=rfl
theorem yp {x:Zit} {t b:List Zit} (ha:eB (x::t)) (hx:x.2≠0) (hb:∀y∈b,aB x.1 y.1<0):bf (x::t) b=x::bf t b:=by
 refine lU hx (fun z hz=> ?_) (fun r=> ?_)
 ·rcases List.mem_append.1 hz with e|e
  ·exact (List.pairwise_cons.1 ha).1 z e
  ·obtain ⟨y,hy,e2⟩:=kD e
   rw[←e2];exact hb y hy
 ·rw[gk,gk]
  simp only[wt]
  omega
theorem yo {y:Zit} {a u:List Zit} (hb:eB (y::u)) (hy:y.2≠0) (ha:∀x∈a,aB y.1 x.1<0):bf a (y::u)=(y.1,-y.2)::bf a u:=by
 refine lU (x:=(y.1,-y.2)) (by show -y.2≠0;omega) (fun z hz=> ?_) (fun r=> ?_)
 ·rcases List.mem_append.1 hz with e|e
  ·exact ha z e
  ·obtain ⟨v,hv,e2⟩:=kD e
   rw[←e2];exact (List.pairwise_cons.1 hb).1 v hv
 ·rw[gk,gk]
  simp only[wt]
  by_cases e:y.1=r
  ·simp only[if_pos e];omega
  ·simp only[if_neg e];omega
theorem yn {x y:Zit} {t u:List Zit} (ha:eB (x::t)) (hb:eB (y::u)) (h:x.1=y.1):bf (x::t) (y::u)=if x.2-y.2=0 then bf t u else (y.1,x.2-y.2)::bf t u:=by
 have hw:∀r,wt ((x::t)++f9 (y::u)) r=(if y.1=r then x.2-y.2 else 0)+wt (t++f9 u) r:=fun r=>by
  rw[gk,gk]
  simp only[wt,h]
  by_cases e:y.1=r
  ·rw[if_pos e,if_pos e];simp only[if_pos e];omega
  ·rw[if_neg e,if_neg e];simp only[if_neg e];omega
 by_cases h0:x.2-y.2=0
 ·rw[if_pos h0]
  refine fL fun r=> ?_
  rw[hw r,h0]
  by_cases e:y.1=r
  ·rw[if_pos e];omega
  ·rw[if_neg e];omega
 ·rw[if_neg h0]
  refine lU (x:=(y.1,x.2-y.2)) h0 (fun z hz=> ?_) hw
  rcases List.mem_append.1 hz with e|e
  ·show aB y.1 z.1<0
   rw[←h];exact (List.pairwise_cons.1 ha).1 z e
  ·obtain ⟨v,hv,e2⟩:=kD e
   rw[←e2];exact (List.pairwise_cons.1 hb).1 v hv
theorem vZ {a:List Zit} (ha:aw a=0):cU a=a:=by
 have h:=(bx a).1 ha
 exact (bi _).uniq (⟨h.2.2,rP h.2.1,fun _=>rfl⟩:IsTot a a) fun _=>rfl
def gi (a b:List Zit):Int:=if aw a=0 then (if aw b=0 then (if (a++b).all (fun x=>decide (x.1.length=4))=true then 0 else 5) else aw b) else aw a
theorem j7 (q:List Stp) (a b:List Zit):lW q a b=if bX q=0 then gi a b else bX q:=rfl
theorem xI {a b:List Zit} (h1:aw a=0) (h2:aw b=0) (h3:cV 4 a) (h4:cV 4 b):gi a b=0:=by
 unfold gi
 rw[if_pos h1,if_pos h2,if_pos]
 rw[List.all_eq_true]
 intro x hx
 rcases List.mem_append.1 hx with e|e
 ·exact decide_eq_true (by have:=h3 x e;omega)
 ·exact decide_eq_true (by have:=h4 x e;omega)
def ir (q:List Stp) (s t a b:List Zit):Int:=if gi a b=0 then (if aR s a=0 then (if aR t b=0 then cL q (aP s a) (aP t b) else aR t b) else aR s a) else gi a b
theorem qn {q:List Stp} {s t a b:List Zit} (h:ir q s t a b=0):gi a b=0∧aR s a=0∧aR t b=0∧cL q (aP s a) (aP t b)=0:=by
 unfold ir at h
 by_cases h1:gi a b=0
 ·rw[if_pos h1] at h
  by_cases h2:aR s a=0
  ·rw[if_pos h2] at h
   by_cases h3:aR t b=0
   ·rw[if_pos h3] at h;exact ⟨h1,h2,h3,h⟩
   ·rw[if_neg h3] at h;exact absurd h h3
  ·rw[if_neg h2] at h;exact absurd h h2
 ·rw[if_neg h1] at h;exact absurd h h1
def bare (s:Stp):Stp:={ s with p:=none,n:=0 }
theorem wm (s:Stp) (ah:List Int):aJ (bare s) ah=aJ s ah:=rfl
theorem nH:∀(q:List Stp) (ah:List Int),dr (q.map bare) ah=dr q ah
 | [],_=>rfl
 | s::q,ah=>by
  show (if aJ (bare s) ah=0 then none else dr (q.map bare) (ah++[aJ (bare s) ah]))=_
  rw[wm,nH q]
  rfl
theorem sy (q:List Stp):bX (q.map bare)=bX q:=by
 unfold bX
 rw[List.length_map,nH]
theorem rg (s:Stp) (a b:List Zit) (S:List (List Zit)):aV (bare s) a b S=aV s a b S:=rfl
theorem rh (s:Stp) (a b:List Zit) (S:List (List Zit)):aY (bare s) a b S=aY s a b S:=rfl
theorem mw (a b:List Zit):∀(q:List Stp) (S:List (List Zit)),iF a b (q.map bare) S=iF a b q S
 | [],_=>rfl
 | s::q,S=>by
  show (if aV (bare s) a b S=0 then iF a b (q.map bare) (S++[aY (bare s) a b S]) else aV (bare s) a b S)=_
  rw[rg,rh,mw a b q]
  rfl
theorem nh (q:List Stp) (a b:List Zit):cL (q.map bare) a b=cL q a b:=by
 unfold cL
 rw[j7,j7,sy,mw]
theorem tz {q r:List Stp} (h:q.map bare=r.map bare) (a b:List Zit):cL q a b=cL r a b:=by rw[←nh q,h,nh]
end Go.Proofs.YtkefkplnamkicabGreatDoor

namespace Go.Proofs.YtkefkplnamkicabGreatDoor
open Go.RowKit Go.Sort Go.Maps

theorem nM {q:List Stp} {A:Option Addr} {ca:Nat} {w:World} {E:Int} (hE:bX q=E) (hl:q.length≤maxLen) (hq:Stps w A q) :
  Calls Z 55 #[I A q.length ca] w fun e w'=>e= H (O V E)∧Below w.heap.size w w':=by rw[←hE];exact kN q A ca w hl hq
theorem A6 (x y:Value) (w:World):(Instr.index 68 (Y #[x,y]) (O V 0)).run Z w= .ok x w:=by kernel_rfl
theorem A7 (x y:Value) (w:World):(Instr.index 68 (Y #[x,y]) (O V 1)).run Z w= .ok y w:=by kernel_rfl
theorem iZ (a b:List Itm) (A B:Option Addr) (ca cb:Nat) (w:World) (ha:Lv w A ca a) (hb:Lv w B cb b) :
  Calls Z 118 #[I A a.length ca,I B b.length cb] w fun e w'=>e= H (O V (gi (a.map Itm.z) (b.map Itm.z)))∧Gr w w':=by
 have hgX:Hid (Gr w (w.alloc (J #[I A a.length ca,I B b.length cb] 68))):=(gR _).alloc _
 obtain ⟨w1,hWX⟩:∃WX,(w.alloc (J #[I A a.length ca,I B b.length cb] 68))=WX:=⟨_,rfl⟩
 have s0:w1.cell? ⟨w.heap.size,0,none⟩=some (I A a.length ca):=by rw[←hWX];exact ab (w:=w) (gR _) rfl
 have s1:w1.cell? ⟨w.heap.size,1,none⟩=some (I B b.length cb):=by rw[←hWX];exact ab (w:=w) (gR _) rfl
 have hst1:w.heap.size<w1.heap.size:=by rw[←hWX];simp
 rw[hWX] at hgX
 obtain ⟨E2,hE2⟩:∃E,aw (a.map Itm.z)=E:=⟨_,rfl⟩
 obtain ⟨E3,hE3⟩:∃E,aw (b.map Itm.z)=E:=⟨_,rfl⟩
 obtain ⟨E,hE⟩:∃E,gi (a.map Itm.z) (b.map Itm.z)=E:=⟨_,rfl⟩
 have hEs:Hid (gi (a.map Itm.z) (b.map Itm.z)=E∧True∧aw (a.map Itm.z)=E2∧aw (b.map Itm.z)=E3):=⟨hE,trivial,hE2,hE3⟩
 rw[hE]
 have hbW:Hid (Gr w w1∧Lv w1 A ca a∧Lv w1 B cb b):=⟨hgX.out,ha.gr hgX.out,hb.gr hgX.out⟩
 clear ha hb hE2 hE3 hE hgX
 have i0:=A6 (I A a.length ca) (I B b.length cb)
 have i1:=A7 (I A a.length ca) (I B b.length cb)
 go_enter Tryz.func118,Tryz.ntmps118
 go_wp2
 clear hWX
 refine wp_loop_rounds 3 ?_
 rw[rounds_succ]
 have hZa:Hid (∀W,Gr w1 W→Calls Z 131 #[I A a.length ca] W fun e w'=>e= H (O V E2)∧Gr W w'):=fun W h=>by rw[←hEs.out.2.2.1];exact ug (hbW.out.2.1.gr h) rfl
 have hZb:Hid (∀W,Gr w1 W→Calls Z 131 #[I B b.length cb] W fun e w'=>e= H (O V E3)∧Gr W w'):=fun W h=>by rw[←hEs.out.2.2.2];exact ug (hbW.out.2.2.gr h) rfl
 cases h2:(E2 != 0)
 ·have hE20:E2=0:=by simpa using h2
  go_wp2_with (go_at_call 131;refine cM (hZa.out w1 (gR _)) ?_;rintro e w2 ⟨rfl,hg2⟩)
  rw[rounds_succ]
  cases h3:(E3 != 0)
  ·have hE30:E3=0:=by simpa using h3
   go_wp2_with (go_at_call 131;refine cM (hZb.out w2 hg2) ?_;rintro e w3 ⟨rfl,hg3⟩)
   rw[rounds_succ]
   have hg3':Hid (Gr w1 w3):=hg2.trans hg3
   have z0:w3.cell? ⟨w.heap.size,0,none⟩=some (I A a.length ca):=(hg3'.out.below.cell (p:=⟨w.heap.size,0,none⟩) hst1).trans s0
   have z1:w3.cell? ⟨w.heap.size,1,none⟩=some (I B b.length cb):=(hg3'.out.below.cell (p:=⟨w.heap.size,1,none⟩) hst1).trans s1
   clear hg2 hg3 hZa hZb
   go_wp2
   refine wp_loop_rounds 3 ?_
   rw[rounds_succ]
   go_wp2
   have hB3:Hid (Gr w w3∧Lv w3 A ca a∧Lv w3 B cb b):=⟨hbW.out.1.trans hg3'.out,hbW.out.2.1.gr hg3'.out,hbW.out.2.2.gr hg3'.out⟩
   have hla:a.length≤400:=(fx (by rw[hEs.out.2.2.1];exact hE20)).1
   have hlb:b.length≤400:=(fx (by rw[hEs.out.2.2.2];exact hE30)).1
   have hahd:Hid (E=if (a.map Itm.z++b.map Itm.z).all (fun x=>decide (x.1.length=4))=true then 0 else 5):=by
    show _=_;rw[←hEs.out.1];unfold gi;rw[if_pos (by rw[hEs.out.2.2.1];exact hE20),if_pos (by rw[hEs.out.2.2.2];exact hE30)]
   have hbad:Hid (∀x∈a++b,¬x.r.length=4→E=5):=fun x hx hn=>by
    rw[hahd.out,if_neg]
    intro h
    rw[←List.map_append] at h
    have:=List.all_eq_true.1 h x.z (List.mem_map.2 ⟨x,hx,rfl⟩)
    exact hn (of_decide_eq_true this)
   have hgood:Hid ((∀x∈a,x.r.length=4)→(∀x∈b,x.r.length=4)→E=0):=fun ha hb=>by
    rw[hahd.out,if_pos]
    rw[←List.map_append,List.all_eq_true]
    intro y hy
    obtain ⟨x,hx,rfl⟩:=List.mem_map.1 hy
    rcases List.mem_append.1 hx with e|e
    ·exact decide_eq_true (ha x e)
    ·exact decide_eq_true (hb x e)
   clear z0 z1 s0 s1
   go_loopw [32] (fun i wr=>∃k:Nat,k≤a.length∧i= O V k∧Hid ((∀x∈a.take k,x.r.length=4)∧Gr w3 wr)) (fun i _=>a.length-(intOf i).toNat)
   case atStart=>exact ⟨0,nZ _,rfl,fun x hx=>(by simp at hx),gR _⟩
   case round =>
    obtain ⟨k,hk,rfl,hR⟩:=hrel
    by_cases hlt:k<a.length
    ·have hltz:(k:Int)<(a.length:Int):=by omega
     obtain ⟨bb,off,rfl,hb,hcs⟩:=(hB3.out.2.1.gr hR.out.2).items.at hlt
     obtain ⟨x,hx⟩:∃x,a[k]=x:=⟨_,rfl⟩
     obtain ⟨e0,e1⟩:=hcs k hlt
     rw[hx] at e0 e1
     have hxm:Hid (x∈a):=by show _∈_;rw[←hx];exact gM hlt
     have htk:Hid (a.take (k+1)=a.take k++[x]):=by show _=_;rw[List.take_succ_eq_append_getElem hlt,hx]
     clear hcs hx
     cases h4:((x.r.length:Int) != 4)
     ·have h4':x.r.length=4:=by have:(x.r.length:Int)=4:=(by simpa using h4);omega
      have hfin:Hid ((∀y∈a.take (k+1),y.r.length=4)∧Gr w3 (wr.alloc (J #[I x.p x.r.length x.c,O V x.n] 58))):=⟨fun y hy=>by
       rw[htk.out] at hy
       rcases List.mem_append.1 hy with e|e
       ·exact hR.out.1 y e
       ·rw[List.mem_singleton.1 e];exact h4',hR.out.2.alloc _⟩
      clear h4'
      go_wp2
      go_roundw
      case rel=>exact ⟨k+1,by omega,by go_num,hfin⟩
      case measure=>simp[intOf];omega
     ·have h4':¬x.r.length=4:=by have:¬(x.r.length:Int)=4:=(by simpa using h4);omega
      have hfin:Hid (E=5):=hbad.out x (by simp[hxm.out]) h4'
      have hfB:Hid (Gr w (wr.alloc (J #[I x.p x.r.length x.c,O V x.n] 58))):=hB3.out.1.trans (hR.out.2.alloc _)
      clear h4'
      go_wp2
      go_ret
      exact ⟨by rw[hfin.out];rfl,hfB.out⟩
    ·have hltz:¬(k:Int)<(a.length:Int):=by omega
     have hall:Hid (∀x∈a,x.r.length=4):=by
      have:=hR.out.1
      rw[List.take_of_length_le (by omega)] at this
      exact this
     go_wp2
     rw[rounds_succ]
     have hallA:Hid (∀x∈a,x.r.length=4):=hall
     have hB4:Hid (Gr w wr∧Lv wr B cb b):=⟨hB3.out.1.trans hR.out.2,hB3.out.2.2.gr hR.out.2⟩
     clear hall hR hB3
     go_wp2
     generalize wr=w5 at hB4 ⊢
     go_loopw [32] (fun i wr=>∃k:Nat,k≤b.length∧i= O V k∧Hid ((∀x∈b.take k,x.r.length=4)∧Gr w5 wr)) (fun i _=>b.length-(intOf i).toNat)
     case atStart=>exact ⟨0,nZ _,rfl,fun x hx=>(by simp at hx),gR _⟩
     case round =>
      obtain ⟨k,hk,rfl,hR⟩:=hrel
      by_cases hlt:k<b.length
      ·have hltz:(k:Int)<(b.length:Int):=by omega
       obtain ⟨bb,off,rfl,hb,hcs⟩:=(hB4.out.2.gr hR.out.2).items.at hlt
       obtain ⟨x,hx⟩:∃x,b[k]=x:=⟨_,rfl⟩
       obtain ⟨e0,e1⟩:=hcs k hlt
       rw[hx] at e0 e1
       have hxm:Hid (x∈b):=by show _∈_;rw[←hx];exact gM hlt
       have htk:Hid (b.take (k+1)=b.take k++[x]):=by show _=_;rw[List.take_succ_eq_append_getElem hlt,hx]
       clear hcs hx
       cases h4:((x.r.length:Int) != 4)
       ·have h4':x.r.length=4:=by have:(x.r.length:Int)=4:=(by simpa using h4);omega
        have hfin:Hid ((∀y∈b.take (k+1),y.r.length=4)∧Gr w5 (wr.alloc (J #[I x.p x.r.length x.c,O V x.n] 58))):=⟨fun y hy=>by
         rw[htk.out] at hy
         rcases List.mem_append.1 hy with e|e
         ·exact hR.out.1 y e
         ·rw[List.mem_singleton.1 e];exact h4',hR.out.2.alloc _⟩
        clear h4'
        go_wp2
        go_roundw
        case rel=>exact ⟨k+1,by omega,by go_num,hfin⟩
        case measure=>simp[intOf];omega
       ·have h4':¬x.r.length=4:=by have:¬(x.r.length:Int)=4:=(by simpa using h4);omega
        have hfin:Hid (E=5):=hbad.out x (by simp[hxm.out]) h4'
        have hfB:Hid (Gr w (wr.alloc (J #[I x.p x.r.length x.c,O V x.n] 58))):=hB4.out.1.trans (hR.out.2.alloc _)
        clear h4'
        go_wp2
        go_ret
        exact ⟨by rw[hfin.out];rfl,hfB.out⟩
      ·have hltz:¬(k:Int)<(b.length:Int):=by omega
       have hallB:Hid (∀x∈b,x.r.length=4):=by
        have:=hR.out.1
        rw[List.take_of_length_le (by omega)] at this
        exact this
       go_wp2
       rw[rounds_succ]
       go_wp2
       go_ret
       exact ⟨by rw[hgood.out hallA.out hallB.out];rfl,hB4.out.1.trans hR.out.2⟩
  ·have hfin:Hid (E3=E):=by
    have hn:¬aw (b.map Itm.z)=0:=by rw[hEs.out.2.2.2];simpa using h3
    show _=_;rw[←hEs.out.1];unfold gi;rw[if_pos (by rw[hEs.out.2.2.1];exact hE20),if_neg hn];exact hEs.out.2.2.2.symm
   go_wp2_with (go_at_call 131;refine cM (hZb.out w2 hg2) ?_;rintro e w3 ⟨rfl,hg3⟩)
   go_ret
   exact ⟨by rw[←hfin.out];rfl,hbW.out.1.trans (hg2.trans hg3)⟩
 ·have hfin:Hid (E2=E):=by
   have hn:¬aw (a.map Itm.z)=0:=by rw[hEs.out.2.2.1];simpa using h2
   show _=_;rw[←hEs.out.1];unfold gi;rw[if_neg hn];exact hEs.out.2.2.1.symm
  go_wp2_with (go_at_call 131;refine cM (hZa.out w1 (gR _)) ?_;rintro e w2 ⟨rfl,hg2⟩)
  go_ret
  exact ⟨by rw[←hfin.out];rfl,hbW.out.1.trans hg2⟩

theorem pq {s:Stp} {ah:List Int} {S:List (List Zit)} (h:aJ s ah≠0) (hS:Ahd S ah) (hk:s.k=2∨s.k=3∨s.k=8∨s.k=7∨s.k=9):0≤s.a∧s.a.toNat<S.length∧∀l:List Itm,l.map Itm.z=bI S s.a→OneOk s l:=by
 have hin:inB s.a 0 ((ah.length:Int)-1)=true:=by
  rcases hk with k|k|k|k|k
  ·exact (yI h k).1
  ·exact (yJ h k).1
  ·exact (yL h k).1
  ·exact (zs h k).1
  ·exact (yM h k).1
 obtain ⟨h0,h1,h2,h3⟩:=hS.at hin
 refine ⟨h0,h1,fun l hl=> ?_⟩
 have hz:=(bx (bI S s.a)).1 h2
 have hlen:l.length≤400:=by have:=congrArg List.length hl;simp at this;omega
 have hmem:∀x∈l,x.z∈bI S s.a:=fun x hx=>by rw[←hl];exact List.mem_map.2 ⟨x,hx,rfl⟩
 have hw:∀x∈l,(x.r.length:Int)=ah.getD s.a.toNat 0:=fun x hx=>h3 x.z (hmem x hx)
 refine ⟨hlen,fun x hx=> ?_,fun k=> ?_,fun k=> ?_,fun k=> ?_,fun k=> ?_⟩
 ·have:=bL (hz.2.1 x.z (hmem x hx))
  exact ⟨this.1,this.2.1⟩
 ·obtain ⟨_,p2,p3,_⟩:=yI h k
  exact ⟨p2,fun x hx=>by rw[hw x hx];exact p3⟩
 ·obtain ⟨_,p2,p3,_⟩:=yJ h k
  exact ⟨p2,fun x hx c hc=>by rw[hw x hx];exact p3 c hc⟩
 ·obtain ⟨_,p2,_⟩:=yL h k
  exact fun x hx=>by rw[hw x hx];exact p2
 ·obtain ⟨_,p2,p3,_⟩:=yM h k
  exact fun x hx=>by rw[hw x hx];exact ⟨p3,p2⟩
theorem yx {s:Stp} {ah:List Int} {S:List (List Zit)} (h:aJ s ah≠0) (hS:Ahd S ah) (hk:s.k=4) (l r:List Itm) (hl:l.map Itm.z=bI S s.a) (hr:r.map Itm.z=bI S s.b):JoinOk s.c s.v l r:=by
 obtain ⟨p1,p2,p3,p4,_⟩:=yK h hk
 obtain ⟨_,_,a2,a3⟩:=hS.at p1
 obtain ⟨_,_,b2,b3⟩:=hS.at p2
 have za:=(bx (bI S s.a)).1 a2
 have zb:=(bx (bI S s.b)).1 b2
 have ma:∀x∈l,x.z∈bI S s.a:=fun x hx=>by rw[←hl];exact List.mem_map.2 ⟨x,hx,rfl⟩
 have mb:∀x∈r,x.z∈bI S s.b:=fun x hx=>by rw[←hr];exact List.mem_map.2 ⟨x,hx,rfl⟩
 have wa:∀x∈l,(x.r.length:Int)=ah.getD s.a.toNat 0:=fun x hx=>a3 x.z (ma x hx)
 have wb:∀x∈r,(x.r.length:Int)=ah.getD s.b.toNat 0:=fun x hx=>b3 x.z (mb x hx)
 exact ⟨by have:=congrArg List.length hl;simp at this;omega,by have:=congrArg List.length hr;simp at this;omega,fun x hx=>by rw[wa x hx];exact p4,fun x hx=>by rw[wb x hx];exact p3,fun x hx=>⟨(bL (za.2.1 x.z (ma x hx))).1,(bL (za.2.1 x.z (ma x hx))).2.1⟩,fun x hx=>⟨(bL (zb.2.1 x.z (mb x hx))).1,(bL (zb.2.1 x.z (mb x hx))).2.1⟩⟩
theorem zL {s:Stp} {ah:List Int} {S:List (List Zit)} {a b:List Itm} {A B:Option Addr} {ca cb:Nat} {SA:Option Addr} {sc:Nat} {ss:List Sl} {w:World} (h:aJ s ah≠0) (hS:Ahd S ah) (hs:Sts w SA ss S) (ha:Lv w A ca a) (hb:Lv w B cb b) (hl:ar w s.p s.l) :
  Calls Z 182 #[Y #[O V s.k,O V s.a,O V s.b,O V s.c,O V s.o,O V s.v,I s.p s.l.length s.n],Y #[I A a.length ca,I B b.length cb],I SA ss.length sc] w fun e w'=>∃(L:List Itm) (C:Option Addr) (k:Nat),e= H (X #[I C L.length k,O V (aV s (a.map Itm.z) (b.map Itm.z) S)])∧L.map Itm.z=aY s (a.map Itm.z) (b.map Itm.z) S∧Lv w' C k L∧Below w.heap.size w w'∧NwT w' k w.heap.size C L:=by
 rcases kinds h with k|k|k|k|k|k|k|k|k
 ·exact zH s a b A B ca cb SA sc ss S w k (zp h k).1 ha hb
 ·obtain ⟨h0,h1,h2⟩:=pq h hS (oL k)
  exact jz s a b A B ca cb SA sc ss S w 2 k (oL rfl) h0 h1 hs hl h2
 ·obtain ⟨h0,h1,h2⟩:=pq h hS (oR (oL k))
  exact jz s a b A B ca cb SA sc ss S w 3 k (oR (oL rfl)) h0 h1 hs hl h2
 ·obtain ⟨p1,p2,_,_,_⟩:=yK h k
  exact zI s a b A B ca cb SA sc ss S w k (hS.at p1).1 (hS.at p1).2.1 (hS.at p2).1 (hS.at p2).2.1 hs (yx h hS k)
 ·obtain ⟨p1,p2,_,_⟩:=zq h k
  exact zJ s a b A B ca cb SA sc ss S w k (hS.at p1).1 (hS.at p1).2.1 (hS.at p2).1 (hS.at p2).2.1 hs
 ·obtain ⟨p1,p2,_,_⟩:=zr h k
  exact zK s a b A B ca cb SA sc ss S w k (hS.at p1).1 (hS.at p1).2.1 (hS.at p2).1 (hS.at p2).2.1 hs (hS.at p2).2.2.1
 ·obtain ⟨h0,h1,h2⟩:=pq h hS (oR (oR (oR (oL k))))
  exact jz s a b A B ca cb SA sc ss S w 7 k (oR (oR (oR (oL rfl)))) h0 h1 hs hl h2
 ·obtain ⟨h0,h1,h2⟩:=pq h hS (oR (oR (oL k)))
  exact jz s a b A B ca cb SA sc ss S w 8 k (oR (oR (oL rfl))) h0 h1 hs hl h2
 ·obtain ⟨h0,h1,h2⟩:=pq h hS (oR (oR (oR (oR k))))
  exact jz s a b A B ca cb SA sc ss S w 9 k (oR (oR (oR (oR rfl)))) h0 h1 hs hl h2

theorem ay.grown {α : Type} {enc: α → List Value} {k:Nat} {w w':World} {A:Option Addr} {l:List α} {row:Option Nat} (h:ay enc k w A l) (hg:w.grownBy w' row) (hne:∀a,A=some a→l≠[]→some a.block≠row):ay enc k w' A l:=by
 rcases h with h|⟨b,off,hA,hb,hc⟩
 ·exact oL h
 ·by_cases hl:l=[]
  ·exact oL hl
  ·refine oR ⟨b,off,hA,nL hb hg.size,fun j hj i hi=> ?_⟩
   rw[World.cell?_of_block (a:=⟨b,off+j*k+i,none⟩) (hg.block b hb (hne _ hA hl))]
   exact hc j hj i hi
def Far (row:Option Nat) (s:Sl):Prop:=(∀a,s.A=some a→s.l≠[]→some a.block≠row)∧∀x∈s.l,∀a,x.p=some a→x.r≠[]→some a.block≠row
theorem Lv.grown {w w':World} {s:Sl} {row:Option Nat} (h:Lv w s.A s.cap s.l) (hg:w.grownBy w' row) (hf:Far row s):Lv w' s.A s.cap s.l :=
 ⟨⟨h.items.row.grown hg hf.1,fun x hx=>⟨(h.items.each x hx).1.grown hg (hf.2 x hx),(h.items.each x hx).2⟩⟩,h.nilc,h.len⟩
theorem Far.top {w:World} {s:Sl} (h:Lv w s.A s.cap s.l) {n:Nat} (hn:w.heap.size≤n):Far (some n) s :=
 ⟨fun a ha hl e=>by have:=h.items.row.lt a ha hl;simp at e;omega,fun x hx a ha hr e=>by have:=(h.items.each x hx).1.lt a ha hr;simp at e;omega⟩
theorem Far.new {s:Sl} {n:Nat} {row:Option Nat} (h:iE n s.A s.l) (hr:∀g,row=some g→g<n):Far row s :=
 ⟨fun a ha _ e=>by have:=h.1 a ha;have:=hr _ e.symm;omega,fun x hx a ha _ e=>by have:=h.2 x hx a ha;have:=hr _ e.symm;omega⟩
theorem kX (s:Sl):(eD s).length=1:=rfl
theorem uB (s:Sl):∀u∈eD s,u.oneCell'=true:=by
 intro u hu
 simp[eD] at hu
 rw[hu];rfl
theorem Tryz.infoS:(Tryz.prog.info? 53).map (fun i=>(i.zero,i.size,i.bytes))=some (some (I none 0 0),1,24):=by kernel_rfl
theorem kB (w:World) {ops:Array Oper} {rest:List Oper} {o:Oper} {a:Act} {Q:Exit→Act→World→Prop} (hgd:o.guard=none) (s z:Operand)
  (ho:o.op= .call { callee:= .builtin .append,args:= #[s,z],argTypes:= #[220,220] })
  (base:Nat) (v:Value) (l:List Sl) (x:Sl) (A:Addr) (cap:Nat) (hs:a.eval s=v) (hz:a.eval z= I (some A) 1 cap) (hown:ai eD 1 53 w base v l) (hr:ay eD 1 w (some A) [x])
  (hml:l.length+1≤maxLen) (hb:(l.length+1)*24≤140737488355328) (hbase:base≤w.heap.size)
  (h:∀v' w',ai eD 1 53 w' base v' (l++[x])→w.grownBy w' v.ownBlock→(v'.ownBlock=v.ownBlock∨v'.ownBlock=some w.heap.size)→wpList Z ops Q rest (a.put o.dst v') w'):wpList Z ops Q (o::rest) a w :=
 wpList_plain hgd fun _ hK=>by
  obtain ⟨i0,hi,hz0,hz1,hz2⟩:=info_parts Tryz.infoS
  obtain ⟨v',w',g1,g2,g3,_,g5⟩:=run_append_own_at (P:=Z) w base 220 o.type 53 i0 (I none 0 0) 1 24 Tryz.underlying220 hi hz0 hz1 hz2 rfl (by omega) v l.length (aI eD l) hown A 1 cap (aI eD [x]) (bu kX [x]) (hr.cells kX (by omega)) (fun u hu=>dL uB u [x] hu) hml hb hbase
  have h2:ai eD 1 53 w' base v' (l++[x]):=by
   show w'.ownsRow base _ 1 v' (l++[x]).length (aI eD (l++[x]))
   rw[List.length_append,cE]
   exact g2
  unfold Oper.wp execOp
  simp only[ho,resolve,invoke,builtin,Sem.run_bind,Sem.run_pure,Result.andThen_ok,List.map_toArray,List.map_cons,List.map_nil,hs,hz,g1]
  exact hK _ _ (h v' w' h2 g3 g5)
end Go.Proofs.YtkefkplnamkicabGreatDoor

namespace Go.Proofs.YtkefkplnamkicabGreatDoor

def Small (n:Int):Prop:= -1073741824≤n∧n≤1073741824
structure Fine (s:Stp):Prop where
 a:Small s.a
 b:Small s.b
 c:Small s.c
 o:Small s.o
 v:Small s.v
 l:s.l.length≤8∧∀x∈s.l,Small x
theorem bq {n lo hi:Int} (h:inB n lo hi=true) (h1: -1073741824≤lo) (h2:hi≤1073741824):Small n:=by
 simp only[inB,Bool.and_eq_true,decide_eq_true_eq] at h
 exact ⟨by omega,by omega⟩
theorem ax {n:Int} (h:decide (n=0)=true):Small n:=by
 have:n=0:=by simpa using h
 exact ⟨by omega,by omega⟩
theorem eE {l:List Int} (h:l.isEmpty=true):l.length≤8∧∀x∈l,Small x:=by
 have:l=[]:=by simpa using h
 subst this
 exact ⟨by simp,fun x hx=>by cases hx⟩
theorem tO {s:Stp} {ah:List Int} (h:aJ s ah≠0) (hl:ah.length≤8) (hah:∀x∈ah,0≤x∧x≤8):Fine s:=by
 have ga:=l8 hah s.a.toNat
 have gb:=l8 hah s.b.toNat
 by_cases h9:1≤s.k∧s.k≤9
 ·have hk:s.k=1∨s.k=2∨s.k=3∨s.k=4∨s.k=5∨s.k=6∨s.k=7∨s.k=8∨s.k=9:=by omega
  rcases hk with hk|hk|hk|hk|hk|hk|hk|hk|hk
  ·rw[zM hk] at h
   have t:=Classical.not_not.1 (fun e=>h (if_neg e))
   simp only[Bool.and_eq_true] at t
   obtain ⟨⟨⟨⟨⟨t1,t2⟩,t3⟩,t4⟩,t5⟩,t6⟩:=t
   exact ⟨bq t1 (by omega) (by omega),ax t2,ax t3,ax t4,ax t5,eE t6⟩
  ·rw[zN hk] at h
   have t:=Classical.not_not.1 (fun e=>h (if_neg e))
   simp only[Bool.and_eq_true] at t
   obtain ⟨⟨⟨⟨⟨t1,t2⟩,t3⟩,t4⟩,t5⟩,t6⟩:=t
   exact ⟨bq t1 (by omega) (by omega),ax t2,bq t6 (by omega) (by omega),bq t4 (by omega) (by omega),bq t5 (by omega) (by omega),eE t3⟩
  ·rw[zO hk] at h
   have t:=Classical.not_not.1 (fun e=>h (if_neg e))
   simp only[Bool.and_eq_true] at t
   obtain ⟨⟨⟨⟨⟨⟨t1,t2⟩,t3⟩,t4⟩,t5⟩,t6⟩,t7⟩:=t
   exact ⟨bq t1 (by omega) (by omega),ax t2,ax t5,ax t6,ax t7,⟨by simp only[inB,Bool.and_eq_true,decide_eq_true_eq] at t3;omega,fun x hx=>bq (List.all_eq_true.1 t4 x hx) (by omega) (by omega)⟩⟩
  ·rw[zP hk] at h
   have t:=Classical.not_not.1 (fun e=>h (if_neg e))
   simp only[Bool.and_eq_true] at t
   obtain ⟨⟨⟨⟨⟨⟨t1,t2⟩,t3⟩,t4⟩,t5⟩,t6⟩,t7⟩:=t
   exact ⟨bq t1 (by omega) (by omega),bq t2 (by omega) (by omega),bq t6 (by omega) (by omega),ax t7,bq t5 (by omega) (by omega),eE t3⟩
  ·rw[zQ hk] at h
   have t:=Classical.not_not.1 (fun e=>h (if_neg e))
   simp only[Bool.and_eq_true] at t
   obtain ⟨⟨⟨⟨⟨⟨t1,t2⟩,t3⟩,t4⟩,t5⟩,t6⟩,t7⟩:=t
   exact ⟨bq t1 (by omega) (by omega),bq t2 (by omega) (by omega),ax t5,ax t6,ax t7,eE t3⟩
  ·rw[zR hk] at h
   have t:=Classical.not_not.1 (fun e=>h (if_neg e))
   simp only[Bool.and_eq_true] at t
   obtain ⟨⟨⟨⟨⟨⟨t1,t2⟩,t3⟩,t4⟩,t5⟩,t6⟩,t7⟩:=t
   exact ⟨bq t1 (by omega) (by omega),bq t2 (by omega) (by omega),ax t5,ax t6,ax t7,eE t3⟩
  ·rw[zT hk] at h
   have t:=Classical.not_not.1 (fun e=>h (if_neg e))
   simp only[Bool.and_eq_true] at t
   obtain ⟨⟨⟨⟨⟨t1,t2⟩,t3⟩,t4⟩,t5⟩,t6⟩:=t
   exact ⟨bq t1 (by omega) (by omega),ax t2,ax t4,ax t5,ax t6,eE t3⟩
  ·rw[zU hk] at h
   have t:=Classical.not_not.1 (fun e=>h (if_neg e))
   simp only[Bool.and_eq_true] at t
   obtain ⟨⟨⟨⟨⟨t1,t2⟩,t3⟩,t4⟩,t5⟩,t6⟩:=t
   exact ⟨bq t1 (by omega) (by omega),ax t2,bq t4 (by omega) (by omega),ax t5,ax t6,eE t3⟩
  ·rw[zV hk] at h
   have t:=Classical.not_not.1 (fun e=>h (if_neg e))
   simp only[Bool.and_eq_true] at t
   obtain ⟨⟨⟨⟨⟨t1,t2⟩,t3⟩,t4⟩,t5⟩,t6⟩:=t
   exact ⟨bq t1 (by omega) (by omega),ax t2,bq t5 (by omega) (by omega),ax t6,bq t4 (by omega) (by omega),eE t3⟩
 ·exact absurd (xV h9) h

end Go.Proofs.YtkefkplnamkicabGreatDoor

namespace Go.Proofs
open Go.Shelf
def Tryz.lays171_ren:Go.Shelf.Ren:=⟨fun|171=>144|243=>174|246=>202|283=>216|284=>217|285=>218|286=>219|129=>93|317=>238|318=>239|319=>240|320=>241|337=>248|338=>249|n=>n,fun|3=>3|9=>9|2=>2|4=>4|171=>278|0=>0|53=>169|37=>254|5=>5|173=>280|212=>306|51=>167|20=>20|213=>307|46=>132|232=>313|233=>314|n=>n,fun|17=>5|18=>6|19=>7|n=>n⟩
theorem Tryz.lays171:Go.Proofs.LaysM.n171 Z Tryz.lays171_ren:={
 mixed:=by kernel_rfl
 f129:=Tryz.func93.trans (congrArg some (by kernel_rfl))
 f171:=Tryz.func144.trans (congrArg some (by kernel_rfl))
 f243:=Tryz.func174.trans (congrArg some (by kernel_rfl))
 f246:=Tryz.func202.trans (congrArg some (by kernel_rfl))
 f283:=Tryz.func216.trans (congrArg some (by kernel_rfl))
 f284:=Tryz.func217.trans (congrArg some (by kernel_rfl))
 f285:=Tryz.func218.trans (congrArg some (by kernel_rfl))
 f286:=Tryz.func219.trans (congrArg some (by kernel_rfl))
 f317:=Tryz.func238.trans (congrArg some (by kernel_rfl))
 f318:=Tryz.func239.trans (congrArg some (by kernel_rfl))
 f319:=Tryz.func240.trans (congrArg some (by kernel_rfl))
 f320:=Tryz.func241.trans (congrArg some (by kernel_rfl))
 f337:=Tryz.func248.trans (congrArg some (by kernel_rfl))
 f338:=Tryz.func249.trans (congrArg some (by kernel_rfl))
 t0:=Tryz.underlying0
 a0:=Tryz.isAgg0
 z0:=Tryz.sizeOf0
 v0:=Tryz.zeroValue0
 t2:=Tryz.underlying2
 a2:=Tryz.isAgg2
 z2:=Tryz.sizeOf2
 v2:=Tryz.zeroValue2
 t3:=Tryz.underlying3
 a3:=Tryz.isAgg3
 z3:=Tryz.sizeOf3
 v3:=Tryz.zeroValue3
 t4:=Tryz.underlying4
 a4:=Tryz.isAgg4
 z4:=Tryz.sizeOf4
 v4:=Tryz.zeroValue4
 t5:=Tryz.underlying5
 a5:=Tryz.isAgg5
 z5:=Tryz.sizeOf5
 v5:=Tryz.zeroValue5
 t9:=Tryz.underlying9
 a9:=Tryz.isAgg9
 z9:=Tryz.sizeOf9
 v9:=Tryz.zeroValue9
 t20:=Tryz.underlying20
 a20:=Tryz.isAgg20
 z20:=Tryz.sizeOf20
 v20:=Tryz.zeroValue20
 t37:=Tryz.underlying254
 a37:=Tryz.isAgg254
 z37:=Tryz.sizeOf254
 v37:=Tryz.zeroValue254
 t46:=Tryz.underlying132
 a46:=Tryz.isAgg132
 z46:=Tryz.sizeOf132
 v46:=Tryz.zeroValue132
 t51:=Tryz.underlying167
 a51:=Tryz.isAgg167
 z51:=Tryz.sizeOf167
 v51:=Tryz.zeroValue167
 t53:=Tryz.underlying169
 a53:=Tryz.isAgg169
 z53:=Tryz.sizeOf169
 v53:=Tryz.zeroValue169
 t171:=Tryz.underlying278
 a171:=Tryz.isAgg278
 z171:=Tryz.sizeOf278
 v171:=Tryz.zeroValue278
 t173:=Tryz.underlying280
 a173:=Tryz.isAgg280
 z173:=Tryz.sizeOf280
 v173:=Tryz.zeroValue280
 t212:=Tryz.underlying306
 a212:=Tryz.isAgg306
 z212:=Tryz.sizeOf306
 v212:=Tryz.zeroValue306
 t213:=Tryz.underlying307
 a213:=Tryz.isAgg307
 z213:=Tryz.sizeOf307
 t232:=Tryz.underlying313
 a232:=Tryz.isAgg313
 z232:=Tryz.sizeOf313
 v232:=Tryz.zeroValue313
 t233:=Tryz.underlying314
 a233:=Tryz.isAgg314
 z233:=Tryz.sizeOf314
 v233:=Tryz.zeroValue314
 g17:=by kernel_rfl
 g18:=by kernel_rfl
 g19:=by kernel_rfl
 i0:=by kernel_rfl
 i2:=by kernel_rfl
 i3:=by kernel_rfl
 i4:=by kernel_rfl
 i5:=by kernel_rfl
 i9:=by kernel_rfl
 i20:=by kernel_rfl
 i37:=by kernel_rfl
 i46:=by kernel_rfl
 i51:=by kernel_rfl
 i53:=by kernel_rfl
 i171:=by kernel_rfl
 i173:=by kernel_rfl
 i212:=by kernel_rfl
 i232:=by kernel_rfl
 i233:=by kernel_rfl
 m17:=by kernel_rfl
 m18:=by kernel_rfl
 m19:=by kernel_rfl }
end Go.Proofs
