/-
  Where, pick, union and minus of two sets together are those of both, together: whole queries, on plain lists.
  plain.tell.
  Views: what is told of what is fed, on plain lists.
-/
import Derived.Test.YtkadjjmkokhldaaGreatM18
import Derived.Test.YtkadjjmkokhldaaGreatM22
namespace Go.Proofs.YtkadjjmkokhldaaGreat

theorem widsF_cons {s:Stp} {t:List Stp} {ah:List Int} (h:(widsF (s::t) ah).isSome=true):widW s ah≠0∧(widsF t (ah++[widW s ah])).isSome=true:=by
 have h':(if widW s ah=0 then none else widsF t (ah++[widW s ah])).isSome=true:=h
 by_cases e:widW s ah=0
 ·rw[if_pos e] at h';cases h'
 ·rw[if_neg e] at h';exact ⟨e,h'⟩
theorem errQ_wids {q:List Stp} (h:errQ q=0):q≠[]∧q.length≤8∧(widsF q []).isSome=true:=by
 unfold errQ at h
 by_cases h0:q.length=0
 ·rw[if_pos h0] at h;cases h
 ·rw[if_neg h0] at h
  by_cases h8:8<q.length
  ·rw[if_pos h8] at h;cases h
  ·rw[if_neg h8] at h
   by_cases hs:(widsF q []).isSome=true
   ·exact ⟨fun e=>h0 (by rw[e];rfl),by omega,hs⟩
   ·rw[if_neg hs] at h;cases h
theorem allE_cons {a b:List Zit} {s:Stp} {t:List Stp} {S:List (List Zit)} (h:allE a b (s::t) S=0):tellE s a b S=0∧allE a b t (S++[tellF s a b S])=0∧allF a b (s::t) S=allF a b t (S++[tellF s a b S]):=by
 have h':(if tellE s a b S=0 then allE a b t (S++[tellF s a b S]) else tellE s a b S)=0:=h
 by_cases e:tellE s a b S=0
 ·rw[if_pos e] at h'
  refine ⟨e,h',?_⟩
  show (if tellE s a b S=0 then _ else [])=_
  rw[if_pos e]
 ·rw[if_neg e] at h';exact absurd h' e
theorem all_right {a b:List Zit} (ha:Wide 4 a) (hb:Wide 4 b):∀(q:List Stp) (ah:List Int) (S:List (List Zit)),(widsF q ah).isSome=true→Ahd S ah→allE a b q S=0→∃ah',Ahd (allF a b q S) ah'∧(allF a b q S).length=S.length+q.length
 | [],ah,S,_,hS,_=>⟨ah,hS,by simp[allF]⟩
 | s::t,ah,S,hw,hS,he=>by
  obtain ⟨h1,h2⟩:=widsF_cons hw
  obtain ⟨e1,e2,e3⟩:=allE_cons he
  obtain ⟨r1,r2⟩:=tell_right h1 hS ha hb e1
  obtain ⟨ah',k1,k2⟩:=all_right ha hb t _ _ h2 (hS.snoc r1 r2) e2
  rw[e3]
  exact ⟨ah',k1,by rw[k2];simp;omega⟩
/-- What Eval tells. -/
def evlF (q:List Stp) (a b:List Zit):List Zit:=(plnF q a b).getD (q.length-1) []
theorem plnE_parts {q:List Stp} {a b:List Zit} (h:plnE q a b=0):ahdE q a b=0∧allE a b q []=0∧plnF q a b=allF a b q []:=by
 have h':=h
 unfold plnE at h
 by_cases e:ahdE q a b=0
 ·rw[if_pos e] at h
  exact ⟨e,h,by unfold plnF;rw[if_pos h']⟩
 ·rw[if_neg e] at h;exact absurd h e
theorem ahdE_parts {q:List Stp} {a b:List Zit} (h:ahdE q a b=0):errQ q=0∧errZ a=0∧errZ b=0∧Wide 4 a∧Wide 4 b:=by
 unfold ahdE at h
 by_cases h1:errQ q=0
 ·rw[if_pos h1] at h
  by_cases h2:errZ a=0
  ·rw[if_pos h2] at h
   by_cases h3:errZ b=0
   ·rw[if_pos h3] at h
    by_cases h4:(a++b).all (fun x=>decide (x.1.length=4))=true
    ·have h5:∀x∈a++b,x.1.length=4:=fun x hx=>by simpa using List.all_eq_true.1 h4 x hx
     exact ⟨h1,h2,h3,fun x hx=>by rw[h5 x (List.mem_append.2 (Or.inl hx))];rfl,fun x hx=>by rw[h5 x (List.mem_append.2 (Or.inr hx))];rfl⟩
    ·rw[if_neg h4] at h;cases h
   ·rw[if_neg h3] at h;exact absurd h h3
  ·rw[if_neg h2] at h;exact absurd h h2
 ·rw[if_neg h1] at h;exact absurd h h1
theorem evl_right {q:List Stp} {a b:List Zit} (h:plnE q a b=0):errZ (evlF q a b)=0:=by
 obtain ⟨h1,h2,h3⟩:=plnE_parts h
 obtain ⟨k1,_,_,k4,k5⟩:=ahdE_parts h1
 obtain ⟨q1,_,q3⟩:=errQ_wids k1
 obtain ⟨ah',m1,m2⟩:=all_right k4 k5 q [] [] q3 Ahd.nil h2
 have hq:0<q.length:=List.length_pos_iff.2 q1
 unfold evlF
 rw[h3]
 exact (m1.ok _ (by rw[m2];simp;omega)).1
end Go.Proofs.YtkadjjmkokhldaaGreat

namespace Go.Proofs.YtkadjjmkokhldaaGreat
open Go.RowKit Go.Sort Go.Maps

/-- The sets of the steps ahead, in memory. -/
structure Sts (w:World) (A:Option Addr) (ss:List Sl) (S:List (List Zit)):Prop where
 row:RowG encS 1 w A ss
 each:∀s∈ss,Lv w s.A s.cap s.l
 z:ss.map (fun s=>s.l.map Itm.z)=S
theorem Sts.below {w w':World} {A:Option Addr} {ss:List Sl} {S:List (List Zit)} (h:Sts w A ss S) (q:Below w.heap.size w w'):Sts w' A ss S:=⟨h.row.below q,fun s hs=>(h.each s hs).below q,h.z⟩
theorem Sts.gr {w w':World} {A:Option Addr} {ss:List Sl} {S:List (List Zit)} (h:Sts w A ss S) (q:Gr w w'):Sts w' A ss S:=h.below q.below
theorem Sts.at {w:World} {A:Option Addr} {ss:List Sl} {S:List (List Zit)} (h:Sts w A ss S) {i:Int} (h0:0≤i) (hi:i.toNat<S.length):∃(b off n:Nat) (x:Sl),A=some ⟨b,off,none⟩∧b<w.heap.size∧i=n∧n<ss.length∧w.cell? ⟨b,off+n,none⟩=some (.slice x.A x.l.length x.cap)∧Lv w x.A x.cap x.l∧x.l.map Itm.z=getS S i:=by
 have hl:i.toNat<ss.length:=by
  have:=congrArg List.length h.z
  simp at this
  omega
 obtain ⟨b,off,hA,hb,hc⟩:=h.row.at hl
 refine ⟨b,off,i.toNat,ss[i.toNat],hA,hb,by omega,hl,?_,h.each _ (List.getElem_mem hl),?_⟩
 ·have:=hc i.toNat hl 0 (by omega)
  simpa[encS] using this
 ·unfold getS
  rw[←h.z,List.getD_eq_getElem?_getD,List.getElem?_map,List.getElem?_eq_getElem hl]
  rfl
set_option maxRecDepth 100000 in
set_option maxHeartbeats 1000000 in
theorem tell1 (s:Stp) (a b:List Itm) (A B:Option Addr) (ca cb:Nat) (SA:Option Addr) (sc:Nat) (ss:List Sl) (S:List (List Zit)) (w:World) (hk:s.k=1) (hp:s.a=0∨s.a=1) (ha:Lv w A ca a) (hb:Lv w B cb b) :
  Calls Tryz.prog 114 #[.agg #[.int .i64 s.k,.int .i64 s.a,.int .i64 s.b,.int .i64 s.c,.int .i64 s.o,.int .i64 s.v,.slice s.p s.l.length s.n],.agg #[.slice A a.length ca,.slice B b.length cb],.slice SA ss.length sc] w fun e w'=>∃(L:List Itm) (C:Option Addr) (k:Nat),e= .returned (.tuple #[.slice C L.length k,.int .i64 (tellE s (a.map Itm.z) (b.map Itm.z) S)])∧L.map Itm.z=tellF s (a.map Itm.z) (b.map Itm.z) S∧Lv w' C k L∧Below w.heap.size w w'∧NwT w' k w.heap.size C L:=by
 have hH:Hid (Lv w A ca a∧Lv w B cb b):=⟨ha,hb⟩
 clear ha hb
 have hE:Hid (tellE s (a.map Itm.z) (b.map Itm.z) S=normE (tabF s (a.map Itm.z) (b.map Itm.z))∧tellF s (a.map Itm.z) (b.map Itm.z) S=normL (tabF s (a.map Itm.z) (b.map Itm.z))):=⟨by unfold tellE;rw[if_pos hk],by unfold tellF;rw[if_pos hk]⟩
 rcases hp with hp|hp
 ·have hT:Hid (tabF s (a.map Itm.z) (b.map Itm.z)=a.map Itm.z):=by show _=_;unfold tabF;rw[if_pos hp]
  have hN0:=normVn (hH.out.1.gr (((Gr.refl _).alloc _).alloc _)) (W:=((w.alloc (.cells #[.int .i64 1,.int .i64 0,.int .i64 s.b,.int .i64 s.c,.int .i64 s.o,.int .i64 s.v,.slice s.p s.l.length s.n] 48)).alloc (.cells #[.slice A a.length ca,.slice B b.length cb] 69))) (m:=a.map Itm.z) rfl
  have hN:Hid _:=hN0
  clear hN0
  obtain ⟨E,hE2⟩:∃E,tellE s (a.map Itm.z) (b.map Itm.z) S=E:=⟨_,rfl⟩
  have hE3:Hid (normE (a.map Itm.z)=E):=by show _=_;rw[←hE2,hE.out.1,hT.out]
  rw[hE2,hk,hp]
  clear hk hp hE2
  go_enter Tryz.func114,Tryz.ntmps114
  go_wp2_with fail
  refine Calls.mono (show Calls _ _ _ _ _ from hN.out) ?_
  rintro e w2 ⟨L,C,k,rfl,h1,h2,h3,h4⟩
  rw[hE3.out]
  have hfin:Hid (L.map Itm.z=tellF s (a.map Itm.z) (b.map Itm.z) S∧Lv w2 C k L∧Below w.heap.size w w2∧NwT w2 k w.heap.size C L):=⟨by rw[hE.out.2,hT.out];exact h1,h2,(((Gr.refl w).alloc _).alloc _).below.trans (h3.mono (by simp;omega)),h4.mono (by simp;omega)⟩
  clear h1 h2 h3 h4 hN
  go_wp2
  go_ret2
  exact ⟨L,C,k,rfl,hfin.out.1,hfin.out.2.1,hfin.out.2.2⟩
 ·have hT:Hid (tabF s (a.map Itm.z) (b.map Itm.z)=b.map Itm.z):=by show _=_;unfold tabF;rw[if_neg (by omega)]
  have hN0:=normVn (hH.out.2.gr (((Gr.refl _).alloc _).alloc _)) (W:=((w.alloc (.cells #[.int .i64 1,.int .i64 1,.int .i64 s.b,.int .i64 s.c,.int .i64 s.o,.int .i64 s.v,.slice s.p s.l.length s.n] 48)).alloc (.cells #[.slice A a.length ca,.slice B b.length cb] 69))) (m:=b.map Itm.z) rfl
  have hN:Hid _:=hN0
  clear hN0
  obtain ⟨E,hE2⟩:∃E,tellE s (a.map Itm.z) (b.map Itm.z) S=E:=⟨_,rfl⟩
  have hE3:Hid (normE (b.map Itm.z)=E):=by show _=_;rw[←hE2,hE.out.1,hT.out]
  rw[hE2,hk,hp]
  clear hk hp hE2
  go_enter Tryz.func114,Tryz.ntmps114
  go_wp2_with fail
  refine Calls.mono (show Calls _ _ _ _ _ from hN.out) ?_
  rintro e w2 ⟨L,C,k,rfl,h1,h2,h3,h4⟩
  rw[hE3.out]
  have hfin:Hid (L.map Itm.z=tellF s (a.map Itm.z) (b.map Itm.z) S∧Lv w2 C k L∧Below w.heap.size w w2∧NwT w2 k w.heap.size C L):=⟨by rw[hE.out.2,hT.out];exact h1,h2,(((Gr.refl w).alloc _).alloc _).below.trans (h3.mono (by simp;omega)),h4.mono (by simp;omega)⟩
  clear h1 h2 h3 h4 hN
  go_wp2
  go_ret2
  exact ⟨L,C,k,rfl,hfin.out.1,hfin.out.2.1,hfin.out.2.2⟩
set_option maxRecDepth 100000 in
set_option maxHeartbeats 1000000 in
theorem tell5 (s:Stp) (a b:List Itm) (A B:Option Addr) (ca cb:Nat) (SA:Option Addr) (sc:Nat) (ss:List Sl) (S:List (List Zit)) (w:World) (hk:s.k=5) (ha0:0≤s.a) (ha1:s.a.toNat<S.length) (hb0:0≤s.b) (hb1:s.b.toNat<S.length) (hS:Sts w SA ss S) :
  Calls Tryz.prog 114 #[.agg #[.int .i64 s.k,.int .i64 s.a,.int .i64 s.b,.int .i64 s.c,.int .i64 s.o,.int .i64 s.v,.slice s.p s.l.length s.n],.agg #[.slice A a.length ca,.slice B b.length cb],.slice SA ss.length sc] w fun e w'=>∃(L:List Itm) (C:Option Addr) (k:Nat),e= .returned (.tuple #[.slice C L.length k,.int .i64 (tellE s (a.map Itm.z) (b.map Itm.z) S)])∧L.map Itm.z=tellF s (a.map Itm.z) (b.map Itm.z) S∧Lv w' C k L∧Below w.heap.size w w'∧NwT w' k w.heap.size C L:=by
 have hE:Hid (tellE s (a.map Itm.z) (b.map Itm.z) S=addE (getS S s.a) (getS S s.b)∧tellF s (a.map Itm.z) (b.map Itm.z) S=addL (getS S s.a) (getS S s.b)):=⟨by unfold tellE;rw[if_neg (by omega),if_neg (by omega),if_pos hk],by unfold tellF;rw[if_neg (by omega),if_neg (by omega),if_pos hk]⟩
 obtain ⟨bb,off,na,x,hA,hbb,hna,hnal,hxc,hxl,hxz⟩:=hS.at ha0 ha1
 obtain ⟨bb',off',nb,y,hA',_,hnb,hnbl,hyc,hyl,hyz⟩:=hS.at hb0 hb1
 subst hA
 cases hA'
 obtain ⟨E,hE2⟩:∃E,tellE s (a.map Itm.z) (b.map Itm.z) S=E:=⟨_,rfl⟩
 have hE3:Hid (addE (getS S s.a) (getS S s.b)=E):=by show _=_;rw[←hE2,hE.out.1]
 have hgW:Hid (Gr w ((w.alloc (.cells #[.int .i64 5,.int .i64 (na:Int),.int .i64 (nb:Int),.int .i64 s.c,.int .i64 s.o,.int .i64 s.v,.slice s.p s.l.length s.n] 48)).alloc (.cells #[.slice A a.length ca,.slice B b.length cb] 69))):=((Gr.refl _).alloc _).alloc _
 obtain ⟨WX,hWX⟩:∃WX,((w.alloc (.cells #[.int .i64 5,.int .i64 (na:Int),.int .i64 (nb:Int),.int .i64 s.c,.int .i64 s.o,.int .i64 s.v,.slice s.p s.l.length s.n] 48)).alloc (.cells #[.slice A a.length ca,.slice B b.length cb] 69))=WX:=⟨_,rfl⟩
 have q0:WX.cell? ⟨w.heap.size,0,none⟩=some (.int .i64 5):=by rw[←hWX];exact box1 (w:=w) ((Gr.refl _).alloc _) rfl
 have q1:WX.cell? ⟨w.heap.size,1,none⟩=some (.int .i64 (na:Int)):=by rw[←hWX];exact box1 (w:=w) ((Gr.refl _).alloc _) rfl
 have q2:WX.cell? ⟨w.heap.size,2,none⟩=some (.int .i64 (nb:Int)):=by rw[←hWX];exact box1 (w:=w) ((Gr.refl _).alloc _) rfl
 have hsb:w.heap.size<WX.heap.size:=by rw[←hWX];simp;omega
 rw[hWX] at hgW
 have hC0:=addVn ((hxl.gr hgW.out).gr (Gr.refl _).drew) ((hyl.gr hgW.out).gr (Gr.refl _).drew) hxz hyz (W:=WX.drew)
 have hC:Hid _:=hC0
 clear hC0
 have hKeep:Hid (∀W',Below WX.heap.size WX W'→(fun w'=>w'.cell? ⟨w.heap.size,1,none⟩=some (.int .i64 (na:Int))∧w'.cell? ⟨w.heap.size,2,none⟩=some (.int .i64 (nb:Int))∧w'.cell? ⟨bb,off+na,none⟩=some (.slice x.A x.l.length x.cap)∧w'.cell? ⟨bb,off+nb,none⟩=some (.slice y.A y.l.length y.cap)) W'):=fun W' h=>⟨(h.cell (p:=⟨w.heap.size,1,none⟩) hsb).trans q1,(h.cell (p:=⟨w.heap.size,2,none⟩) hsb).trans q2,(h.cell (p:=⟨bb,off+na,none⟩) (Nat.lt_of_lt_of_le hbb hgW.out.size)).trans ((hgW.out.below.cell (p:=⟨bb,off+na,none⟩) hbb).trans hxc),(h.cell (p:=⟨bb,off+nb,none⟩) (Nat.lt_of_lt_of_le hbb hgW.out.size)).trans ((hgW.out.below.cell (p:=⟨bb,off+nb,none⟩) hbb).trans hyc)⟩
 have hbD:Hid (Below WX.heap.size WX WX.drew):=(Below.refl _ _).drew
 have hnaz:(na:Int)<(ss.length:Int):=by omega
 have hnbz:(nb:Int)<(ss.length:Int):=by omega
 rw[hE2,hk,hna,hnb]
 clear hk hE2 hxc hyc hxl hyl hxz hyz hna hnb ha0 ha1 hb0 hb1 hnal hnbl hbb q1 q2 hS
 go_enter Tryz.func114,Tryz.ntmps114
 go_wp2_with fail
 clear hWX
 refine wp_region_noPanic ?_
 refine wp_region_held_drew (S:=(fun w'=>w'.cell? ⟨w.heap.size,1,none⟩=some (.int .i64 (na:Int))∧w'.cell? ⟨w.heap.size,2,none⟩=some (.int .i64 (nb:Int))∧w'.cell? ⟨bb,off+na,none⟩=some (.slice x.A x.l.length x.cap)∧w'.cell? ⟨bb,off+nb,none⟩=some (.slice y.A y.l.length y.cap))) (by kernel_rfl) (hKeep.out _ hbD.out) (fun hHeld=> ?_)
 refine wpAnyH_take (i:=0) (oi:= ?oitell51) (v:= ?vtell51) ?hoptell51 ?hstell51 ?hftell51 ?hrtell51 ?hQtell51 ?hytell51 (by assumption) ?resttell51
 case hoptell51=>(simp only[List.getElem?_toArray,List.getElem?_cons_zero];rfl)
 case hstell51=>kernel_rfl
 case hftell51=>kernel_rfl
 case hrtell51=>kernel_rfl
 case hQtell51=>exact fun _ _ _ h=>h
 case hytell51=>(refine Or.inl ⟨by rfl,?_⟩;intro w hSw;(try dsimp only at hSw);go_simp<;>with_reducible rfl)
 try simp only[Act.put,List.setIfInBounds_toArray,List.set_cons_zero,List.set_cons_succ]
 refine wpAnyH_take (i:=1) (oi:= ?oitell52) (v:= ?vtell52) ?hoptell52 ?hstell52 ?hftell52 ?hrtell52 ?hQtell52 ?hytell52 (by assumption) ?resttell52
 case hoptell52=>(simp only[List.getElem?_toArray,List.getElem?_cons_zero,List.getElem?_cons_succ];rfl)
 case hstell52=>kernel_rfl
 case hftell52=>kernel_rfl
 case hrtell52=>kernel_rfl
 case hQtell52=>exact fun _ _ _ h=>h
 case hytell52=>(refine Or.inl ⟨by rfl,?_⟩;intro w hSw;(try dsimp only at hSw);go_simp<;>with_reducible rfl)
 try simp only[Act.put,List.setIfInBounds_toArray,List.set_cons_zero,List.set_cons_succ]
 refine wpAnyH_take (i:=2) (oi:= ?oitell53) (v:= ?vtell53) ?hoptell53 ?hstell53 ?hftell53 ?hrtell53 ?hQtell53 ?hytell53 (by assumption) ?resttell53
 case hoptell53=>(simp only[List.getElem?_toArray,List.getElem?_cons_zero,List.getElem?_cons_succ];rfl)
 case hstell53=>kernel_rfl
 case hftell53=>kernel_rfl
 case hrtell53=>kernel_rfl
 case hQtell53=>exact fun _ _ _ h=>h
 case hytell53=>(refine Or.inl ⟨by rfl,?_⟩;intro w hSw;(try dsimp only at hSw);go_simp<;>with_reducible rfl)
 try simp only[Act.put,List.setIfInBounds_toArray,List.set_cons_zero,List.set_cons_succ]
 refine wpAnyH_take (i:=3) (oi:= ?oitell54) (v:= ?vtell54) ?hoptell54 ?hstell54 ?hftell54 ?hrtell54 ?hQtell54 ?hytell54 (by assumption) ?resttell54
 case hoptell54=>(simp only[List.getElem?_toArray,List.getElem?_cons_zero,List.getElem?_cons_succ];rfl)
 case hstell54=>kernel_rfl
 case hftell54=>kernel_rfl
 case hrtell54=>kernel_rfl
 case hQtell54=>exact fun _ _ _ h=>h
 case hytell54=>(refine Or.inl ⟨by rfl,?_⟩;intro w hSw;(try dsimp only at hSw);go_simp<;>with_reducible rfl)
 try simp only[Act.put,List.setIfInBounds_toArray,List.set_cons_zero,List.set_cons_succ]
 refine wpAnyH_take (i:=4) (oi:= ?oitell55) (v:= ?vtell55) ?hoptell55 ?hstell55 ?hftell55 ?hrtell55 ?hQtell55 ?hytell55 (by assumption) ?resttell55
 case hoptell55=>(simp only[List.getElem?_toArray,List.getElem?_cons_zero,List.getElem?_cons_succ];rfl)
 case hstell55=>kernel_rfl
 case hftell55=>kernel_rfl
 case hrtell55=>kernel_rfl
 case hQtell55=>exact fun _ _ _ h=>h
 case hytell55=>(refine Or.inl ⟨by rfl,?_⟩;intro w hSw;(try dsimp only at hSw);go_simp<;>with_reducible rfl)
 try simp only[Act.put,List.setIfInBounds_toArray,List.set_cons_zero,List.set_cons_succ]
 refine wpAnyH_take (i:=5) (oi:= ?oitell56) (v:= ?vtell56) ?hoptell56 ?hstell56 ?hftell56 ?hrtell56 ?hQtell56 ?hytell56 (by assumption) ?resttell56
 case hoptell56=>(simp only[List.getElem?_toArray,List.getElem?_cons_zero,List.getElem?_cons_succ];rfl)
 case hstell56=>kernel_rfl
 case hftell56=>kernel_rfl
 case hrtell56=>kernel_rfl
 case hQtell56=>exact fun _ _ _ h=>h
 case hytell56=>(refine Or.inl ⟨by rfl,?_⟩;intro w hSw;(try dsimp only at hSw);go_simp<;>with_reducible rfl)
 try simp only[Act.put,List.setIfInBounds_toArray,List.set_cons_zero,List.set_cons_succ]
 refine wpAnyH_take (i:=6) (oi:= ?oitell57) (v:= ?vtell57) ?hoptell57 ?hstell57 ?hftell57 ?hrtell57 ?hQtell57 ?hytell57 (by assumption) ?resttell57
 case hoptell57=>(simp only[List.getElem?_toArray,List.getElem?_cons_zero,List.getElem?_cons_succ];rfl)
 case hstell57=>kernel_rfl
 case hftell57=>kernel_rfl
 case hrtell57=>kernel_rfl
 case hQtell57=>exact fun _ _ _ h=>h
 case hytell57=>(refine Or.inl ⟨by rfl,?_⟩;intro w hSw;(try dsimp only at hSw);go_simp<;>with_reducible rfl)
 try simp only[Act.put,List.setIfInBounds_toArray,List.set_cons_zero,List.set_cons_succ]
 refine wpAnyH_take (i:=7) (oi:= ?oitell58) (v:= ?vtell58) ?hoptell58 ?hstell58 ?hftell58 ?hrtell58 ?hQtell58 ?hytell58 (by assumption) ?resttell58
 case hoptell58=>(simp only[List.getElem?_toArray,List.getElem?_cons_zero,List.getElem?_cons_succ];rfl)
 case hstell58=>kernel_rfl
 case hftell58=>kernel_rfl
 case hrtell58=>kernel_rfl
 case hQtell58=>exact fun _ _ _ h=>h
 case hytell58=>(refine Or.inl ⟨by rfl,?_⟩;intro w hSw;(try dsimp only at hSw);go_simp<;>with_reducible rfl)
 try simp only[Act.put,List.setIfInBounds_toArray,List.set_cons_zero,List.set_cons_succ]
 refine wpAnyH_take (i:=8) (oi:= ?oitell59) (v:= ?vtell59) ?hoptell59 ?hstell59 ?hftell59 ?hrtell59 ?hQtell59 ?hytell59 (by assumption) ?resttell59
 case hoptell59=>(simp only[List.getElem?_toArray,List.getElem?_cons_zero,List.getElem?_cons_succ];rfl)
 case hstell59=>kernel_rfl
 case hftell59=>kernel_rfl
 case hrtell59=>kernel_rfl
 case hQtell59=>exact fun _ _ _ h=>h
 case hytell59=>(refine Or.inl ⟨by rfl,?_⟩;intro w hSw;(try dsimp only at hSw);go_simp<;>with_reducible rfl)
 try simp only[Act.put,List.setIfInBounds_toArray,List.set_cons_zero,List.set_cons_succ]
 refine wpAnyH_take (i:=9) (oi:= ?oitell510) (v:= ?vtell510) ?hoptell510 ?hstell510 ?hftell510 ?hrtell510 ?hQtell510 ?hytell510 (by assumption) ?resttell510
 case hoptell510=>(simp only[List.getElem?_toArray,List.getElem?_cons_zero,List.getElem?_cons_succ];rfl)
 case hstell510=>kernel_rfl
 case hftell510=>kernel_rfl
 case hrtell510=>kernel_rfl
 case hQtell510=>exact fun _ _ _ h=>h
 case hytell510=>(refine Or.inl ⟨by rfl,?_⟩;intro w hSw;(try dsimp only at hSw);go_simp<;>with_reducible rfl)
 try simp only[Act.put,List.setIfInBounds_toArray,List.set_cons_zero,List.set_cons_succ]
 refine wpAnyH_ready (rs:=[10]) (by kernel_rfl) (by simp) ?_
 refine AllReadyH.cons (o:= ?oitell511) ?hoptell511 (fun K hK=> ?steptell511) ?moretell511
 case hoptell511=>(simp only[List.getElem?_toArray,List.getElem?_cons_zero,List.getElem?_cons_succ];rfl)
 case moretell511=>exact AllReadyH.nil
 go_simp
 (go_at_call 69;(refine Calls.mono (show Calls _ _ _ _ _ from hC.out) ?_);rintro e w2 ⟨L,C,k,rfl,h1,h2,h3,h4⟩;rw[hE3.out];have hb2:Hid (Below WX.heap.size WX w2):=hbD.out.trans (h3.mono hbD.out.size);have hfin:Hid (L.map Itm.z=tellF s (a.map Itm.z) (b.map Itm.z) S∧Lv w2 C k L∧Below w.heap.size w w2∧NwT w2 k w.heap.size C L):=⟨by rw[hE.out.2];exact h1,h2,hgW.out.below.trans (hb2.out.mono hgW.out.size),h4.mono (Nat.le_trans hgW.out.size hbD.out.size)⟩;clear h1 h2 h3 h4)
 first|(go_wp2_with fail)|skip
 refine hK.out _ _ ?_ (fun hHeld=> ?_)
 ·(try dsimp only);first|with_reducible exact hKeep.out _ hbD.out|with_reducible exact hKeep.out _ hb2.out
 clear hK K
 try simp only[Act.put,List.setIfInBounds_toArray,List.set_cons_zero,List.set_cons_succ]
 refine wpAnyH_take (i:=11) (oi:= ?oitell512) (v:= ?vtell512) ?hoptell512 ?hstell512 ?hftell512 ?hrtell512 ?hQtell512 ?hytell512 (by assumption) ?resttell512
 case hoptell512=>(simp only[List.getElem?_toArray,List.getElem?_cons_zero,List.getElem?_cons_succ];rfl)
 case hstell512=>kernel_rfl
 case hftell512=>kernel_rfl
 case hrtell512=>kernel_rfl
 case hQtell512=>exact fun _ _ _ h=>h
 case hytell512=>(refine Or.inl ⟨by rfl,?_⟩;intro w hSw;(try dsimp only at hSw);go_simp<;>with_reducible rfl)
 try simp only[Act.put,List.setIfInBounds_toArray,List.set_cons_zero,List.set_cons_succ]
 refine wpAnyH_take (i:=12) (oi:= ?oitell513) (v:= ?vtell513) ?hoptell513 ?hstell513 ?hftell513 ?hrtell513 ?hQtell513 ?hytell513 (by assumption) ?resttell513
 case hoptell513=>(simp only[List.getElem?_toArray,List.getElem?_cons_zero,List.getElem?_cons_succ];rfl)
 case hstell513=>kernel_rfl
 case hftell513=>kernel_rfl
 case hrtell513=>kernel_rfl
 case hQtell513=>exact fun _ _ _ h=>h
 case hytell513=>(refine Or.inl ⟨by rfl,?_⟩;intro w hSw;(try dsimp only at hSw);go_simp<;>with_reducible rfl)
 try simp only[Act.put,List.setIfInBounds_toArray,List.set_cons_zero,List.set_cons_succ]
 refine wpAnyH_take (i:=13) (oi:= ?oitell514) (v:= ?vtell514) ?hoptell514 ?hstell514 ?hftell514 ?hrtell514 ?hQtell514 ?hytell514 (by assumption) ?resttell514
 case hoptell514=>(simp only[List.getElem?_toArray,List.getElem?_cons_zero,List.getElem?_cons_succ];rfl)
 case hstell514=>kernel_rfl
 case hftell514=>kernel_rfl
 case hrtell514=>kernel_rfl
 case hQtell514=>exact fun _ _ _ h=>h
 case hytell514=>(refine Or.inl ⟨by rfl,?_⟩;intro w hSw;(try dsimp only at hSw);go_simp<;>with_reducible rfl)
 try simp only[Act.put,List.setIfInBounds_toArray,List.set_cons_zero,List.set_cons_succ]
 refine wpAnyH_take (i:=14) (oi:= ?oitell515) (v:= ?vtell515) ?hoptell515 ?hstell515 ?hftell515 ?hrtell515 ?hQtell515 ?hytell515 (by assumption) ?resttell515
 case hoptell515=>(simp only[List.getElem?_toArray,List.getElem?_cons_zero,List.getElem?_cons_succ];rfl)
 case hstell515=>kernel_rfl
 case hftell515=>kernel_rfl
 case hrtell515=>kernel_rfl
 case hQtell515=>exact fun _ _ _ h=>h
 case hytell515=>(refine Or.inl ⟨by rfl,?_⟩;intro w hSw;(try dsimp only at hSw);go_simp<;>with_reducible rfl)
 try simp only[Act.put,List.setIfInBounds_toArray,List.set_cons_zero,List.set_cons_succ]
 refine wpAnyH_done (by kernel_rfl) ?_ _
 refine NoPanic.normal ?_
 go_wp2
 go_ret2
 exact ⟨L,C,k,rfl,hfin.out.1,hfin.out.2.1,hfin.out.2.2⟩
set_option maxRecDepth 100000 in
set_option maxHeartbeats 1000000 in
theorem tell6 (s:Stp) (a b:List Itm) (A B:Option Addr) (ca cb:Nat) (SA:Option Addr) (sc:Nat) (ss:List Sl) (S:List (List Zit)) (w:World) (hk:s.k=6) (ha0:0≤s.a) (ha1:s.a.toNat<S.length) (hb0:0≤s.b) (hb1:s.b.toNat<S.length) (hS:Sts w SA ss S) (hey:errZ (getS S s.b)=0) :
  Calls Tryz.prog 114 #[.agg #[.int .i64 s.k,.int .i64 s.a,.int .i64 s.b,.int .i64 s.c,.int .i64 s.o,.int .i64 s.v,.slice s.p s.l.length s.n],.agg #[.slice A a.length ca,.slice B b.length cb],.slice SA ss.length sc] w fun e w'=>∃(L:List Itm) (C:Option Addr) (k:Nat),e= .returned (.tuple #[.slice C L.length k,.int .i64 (tellE s (a.map Itm.z) (b.map Itm.z) S)])∧L.map Itm.z=tellF s (a.map Itm.z) (b.map Itm.z) S∧Lv w' C k L∧Below w.heap.size w w'∧NwT w' k w.heap.size C L:=by
 have hE:Hid (tellE s (a.map Itm.z) (b.map Itm.z) S=minE (getS S s.a) (getS S s.b)∧tellF s (a.map Itm.z) (b.map Itm.z) S=minF (getS S s.a) (getS S s.b)):=⟨by unfold tellE;rw[if_neg (by omega),if_neg (by omega),if_neg (by omega),if_pos hk],by unfold tellF;rw[if_neg (by omega),if_neg (by omega),if_neg (by omega),if_pos hk]⟩
 obtain ⟨bb,off,na,x,hA,hbb,hna,hnal,hxc,hxl,hxz⟩:=hS.at ha0 ha1
 obtain ⟨bb',off',nb,y,hA',_,hnb,hnbl,hyc,hyl,hyz⟩:=hS.at hb0 hb1
 subst hA
 cases hA'
 obtain ⟨E,hE2⟩:∃E,tellE s (a.map Itm.z) (b.map Itm.z) S=E:=⟨_,rfl⟩
 have hE3:Hid (minE (getS S s.a) (getS S s.b)=E):=by show _=_;rw[←hE2,hE.out.1]
 have hgW:Hid (Gr w ((w.alloc (.cells #[.int .i64 6,.int .i64 (na:Int),.int .i64 (nb:Int),.int .i64 s.c,.int .i64 s.o,.int .i64 s.v,.slice s.p s.l.length s.n] 48)).alloc (.cells #[.slice A a.length ca,.slice B b.length cb] 69))):=((Gr.refl _).alloc _).alloc _
 obtain ⟨WX,hWX⟩:∃WX,((w.alloc (.cells #[.int .i64 6,.int .i64 (na:Int),.int .i64 (nb:Int),.int .i64 s.c,.int .i64 s.o,.int .i64 s.v,.slice s.p s.l.length s.n] 48)).alloc (.cells #[.slice A a.length ca,.slice B b.length cb] 69))=WX:=⟨_,rfl⟩
 have q0:WX.cell? ⟨w.heap.size,0,none⟩=some (.int .i64 6):=by rw[←hWX];exact box1 (w:=w) ((Gr.refl _).alloc _) rfl
 have q1:WX.cell? ⟨w.heap.size,1,none⟩=some (.int .i64 (na:Int)):=by rw[←hWX];exact box1 (w:=w) ((Gr.refl _).alloc _) rfl
 have q2:WX.cell? ⟨w.heap.size,2,none⟩=some (.int .i64 (nb:Int)):=by rw[←hWX];exact box1 (w:=w) ((Gr.refl _).alloc _) rfl
 have hsb:w.heap.size<WX.heap.size:=by rw[←hWX];simp;omega
 rw[hWX] at hgW
 have hC0:=minusV ((hxl.gr hgW.out).gr (Gr.refl _).drew) ((hyl.gr hgW.out).gr (Gr.refl _).drew) (by rw[hyz];exact hey) hxz hyz (W:=WX.drew)
 have hC:Hid _:=hC0
 clear hC0
 have hKeep:Hid (∀W',Below WX.heap.size WX W'→(fun w'=>w'.cell? ⟨w.heap.size,1,none⟩=some (.int .i64 (na:Int))∧w'.cell? ⟨w.heap.size,2,none⟩=some (.int .i64 (nb:Int))∧w'.cell? ⟨bb,off+na,none⟩=some (.slice x.A x.l.length x.cap)∧w'.cell? ⟨bb,off+nb,none⟩=some (.slice y.A y.l.length y.cap)) W'):=fun W' h=>⟨(h.cell (p:=⟨w.heap.size,1,none⟩) hsb).trans q1,(h.cell (p:=⟨w.heap.size,2,none⟩) hsb).trans q2,(h.cell (p:=⟨bb,off+na,none⟩) (Nat.lt_of_lt_of_le hbb hgW.out.size)).trans ((hgW.out.below.cell (p:=⟨bb,off+na,none⟩) hbb).trans hxc),(h.cell (p:=⟨bb,off+nb,none⟩) (Nat.lt_of_lt_of_le hbb hgW.out.size)).trans ((hgW.out.below.cell (p:=⟨bb,off+nb,none⟩) hbb).trans hyc)⟩
 have hbD:Hid (Below WX.heap.size WX WX.drew):=(Below.refl _ _).drew
 have hnaz:(na:Int)<(ss.length:Int):=by omega
 have hnbz:(nb:Int)<(ss.length:Int):=by omega
 rw[hE2,hk,hna,hnb]
 clear hk hE2 hxc hyc hxl hyl hxz hyz hna hnb ha0 ha1 hb0 hb1 hnal hnbl hbb q1 q2 hS
 go_enter Tryz.func114,Tryz.ntmps114
 go_wp2_with fail
 clear hWX
 refine wp_region_noPanic ?_
 refine wp_region_held_drew (S:=(fun w'=>w'.cell? ⟨w.heap.size,1,none⟩=some (.int .i64 (na:Int))∧w'.cell? ⟨w.heap.size,2,none⟩=some (.int .i64 (nb:Int))∧w'.cell? ⟨bb,off+na,none⟩=some (.slice x.A x.l.length x.cap)∧w'.cell? ⟨bb,off+nb,none⟩=some (.slice y.A y.l.length y.cap))) (by kernel_rfl) (hKeep.out _ hbD.out) (fun hHeld=> ?_)
 refine wpAnyH_take (i:=0) (oi:= ?oitell61) (v:= ?vtell61) ?hoptell61 ?hstell61 ?hftell61 ?hrtell61 ?hQtell61 ?hytell61 (by assumption) ?resttell61
 case hoptell61=>(simp only[List.getElem?_toArray,List.getElem?_cons_zero];rfl)
 case hstell61=>kernel_rfl
 case hftell61=>kernel_rfl
 case hrtell61=>kernel_rfl
 case hQtell61=>exact fun _ _ _ h=>h
 case hytell61=>(refine Or.inl ⟨by rfl,?_⟩;intro w hSw;(try dsimp only at hSw);go_simp<;>with_reducible rfl)
 try simp only[Act.put,List.setIfInBounds_toArray,List.set_cons_zero,List.set_cons_succ]
 refine wpAnyH_take (i:=1) (oi:= ?oitell62) (v:= ?vtell62) ?hoptell62 ?hstell62 ?hftell62 ?hrtell62 ?hQtell62 ?hytell62 (by assumption) ?resttell62
 case hoptell62=>(simp only[List.getElem?_toArray,List.getElem?_cons_zero,List.getElem?_cons_succ];rfl)
 case hstell62=>kernel_rfl
 case hftell62=>kernel_rfl
 case hrtell62=>kernel_rfl
 case hQtell62=>exact fun _ _ _ h=>h
 case hytell62=>(refine Or.inl ⟨by rfl,?_⟩;intro w hSw;(try dsimp only at hSw);go_simp<;>with_reducible rfl)
 try simp only[Act.put,List.setIfInBounds_toArray,List.set_cons_zero,List.set_cons_succ]
 refine wpAnyH_take (i:=2) (oi:= ?oitell63) (v:= ?vtell63) ?hoptell63 ?hstell63 ?hftell63 ?hrtell63 ?hQtell63 ?hytell63 (by assumption) ?resttell63
 case hoptell63=>(simp only[List.getElem?_toArray,List.getElem?_cons_zero,List.getElem?_cons_succ];rfl)
 case hstell63=>kernel_rfl
 case hftell63=>kernel_rfl
 case hrtell63=>kernel_rfl
 case hQtell63=>exact fun _ _ _ h=>h
 case hytell63=>(refine Or.inl ⟨by rfl,?_⟩;intro w hSw;(try dsimp only at hSw);go_simp<;>with_reducible rfl)
 try simp only[Act.put,List.setIfInBounds_toArray,List.set_cons_zero,List.set_cons_succ]
 refine wpAnyH_take (i:=3) (oi:= ?oitell64) (v:= ?vtell64) ?hoptell64 ?hstell64 ?hftell64 ?hrtell64 ?hQtell64 ?hytell64 (by assumption) ?resttell64
 case hoptell64=>(simp only[List.getElem?_toArray,List.getElem?_cons_zero,List.getElem?_cons_succ];rfl)
 case hstell64=>kernel_rfl
 case hftell64=>kernel_rfl
 case hrtell64=>kernel_rfl
 case hQtell64=>exact fun _ _ _ h=>h
 case hytell64=>(refine Or.inl ⟨by rfl,?_⟩;intro w hSw;(try dsimp only at hSw);go_simp<;>with_reducible rfl)
 try simp only[Act.put,List.setIfInBounds_toArray,List.set_cons_zero,List.set_cons_succ]
 refine wpAnyH_take (i:=4) (oi:= ?oitell65) (v:= ?vtell65) ?hoptell65 ?hstell65 ?hftell65 ?hrtell65 ?hQtell65 ?hytell65 (by assumption) ?resttell65
 case hoptell65=>(simp only[List.getElem?_toArray,List.getElem?_cons_zero,List.getElem?_cons_succ];rfl)
 case hstell65=>kernel_rfl
 case hftell65=>kernel_rfl
 case hrtell65=>kernel_rfl
 case hQtell65=>exact fun _ _ _ h=>h
 case hytell65=>(refine Or.inl ⟨by rfl,?_⟩;intro w hSw;(try dsimp only at hSw);go_simp<;>with_reducible rfl)
 try simp only[Act.put,List.setIfInBounds_toArray,List.set_cons_zero,List.set_cons_succ]
 refine wpAnyH_take (i:=5) (oi:= ?oitell66) (v:= ?vtell66) ?hoptell66 ?hstell66 ?hftell66 ?hrtell66 ?hQtell66 ?hytell66 (by assumption) ?resttell66
 case hoptell66=>(simp only[List.getElem?_toArray,List.getElem?_cons_zero,List.getElem?_cons_succ];rfl)
 case hstell66=>kernel_rfl
 case hftell66=>kernel_rfl
 case hrtell66=>kernel_rfl
 case hQtell66=>exact fun _ _ _ h=>h
 case hytell66=>(refine Or.inl ⟨by rfl,?_⟩;intro w hSw;(try dsimp only at hSw);go_simp<;>with_reducible rfl)
 try simp only[Act.put,List.setIfInBounds_toArray,List.set_cons_zero,List.set_cons_succ]
 refine wpAnyH_take (i:=6) (oi:= ?oitell67) (v:= ?vtell67) ?hoptell67 ?hstell67 ?hftell67 ?hrtell67 ?hQtell67 ?hytell67 (by assumption) ?resttell67
 case hoptell67=>(simp only[List.getElem?_toArray,List.getElem?_cons_zero,List.getElem?_cons_succ];rfl)
 case hstell67=>kernel_rfl
 case hftell67=>kernel_rfl
 case hrtell67=>kernel_rfl
 case hQtell67=>exact fun _ _ _ h=>h
 case hytell67=>(refine Or.inl ⟨by rfl,?_⟩;intro w hSw;(try dsimp only at hSw);go_simp<;>with_reducible rfl)
 try simp only[Act.put,List.setIfInBounds_toArray,List.set_cons_zero,List.set_cons_succ]
 refine wpAnyH_take (i:=7) (oi:= ?oitell68) (v:= ?vtell68) ?hoptell68 ?hstell68 ?hftell68 ?hrtell68 ?hQtell68 ?hytell68 (by assumption) ?resttell68
 case hoptell68=>(simp only[List.getElem?_toArray,List.getElem?_cons_zero,List.getElem?_cons_succ];rfl)
 case hstell68=>kernel_rfl
 case hftell68=>kernel_rfl
 case hrtell68=>kernel_rfl
 case hQtell68=>exact fun _ _ _ h=>h
 case hytell68=>(refine Or.inl ⟨by rfl,?_⟩;intro w hSw;(try dsimp only at hSw);go_simp<;>with_reducible rfl)
 try simp only[Act.put,List.setIfInBounds_toArray,List.set_cons_zero,List.set_cons_succ]
 refine wpAnyH_take (i:=8) (oi:= ?oitell69) (v:= ?vtell69) ?hoptell69 ?hstell69 ?hftell69 ?hrtell69 ?hQtell69 ?hytell69 (by assumption) ?resttell69
 case hoptell69=>(simp only[List.getElem?_toArray,List.getElem?_cons_zero,List.getElem?_cons_succ];rfl)
 case hstell69=>kernel_rfl
 case hftell69=>kernel_rfl
 case hrtell69=>kernel_rfl
 case hQtell69=>exact fun _ _ _ h=>h
 case hytell69=>(refine Or.inl ⟨by rfl,?_⟩;intro w hSw;(try dsimp only at hSw);go_simp<;>with_reducible rfl)
 try simp only[Act.put,List.setIfInBounds_toArray,List.set_cons_zero,List.set_cons_succ]
 refine wpAnyH_take (i:=9) (oi:= ?oitell610) (v:= ?vtell610) ?hoptell610 ?hstell610 ?hftell610 ?hrtell610 ?hQtell610 ?hytell610 (by assumption) ?resttell610
 case hoptell610=>(simp only[List.getElem?_toArray,List.getElem?_cons_zero,List.getElem?_cons_succ];rfl)
 case hstell610=>kernel_rfl
 case hftell610=>kernel_rfl
 case hrtell610=>kernel_rfl
 case hQtell610=>exact fun _ _ _ h=>h
 case hytell610=>(refine Or.inl ⟨by rfl,?_⟩;intro w hSw;(try dsimp only at hSw);go_simp<;>with_reducible rfl)
 try simp only[Act.put,List.setIfInBounds_toArray,List.set_cons_zero,List.set_cons_succ]
 refine wpAnyH_ready (rs:=[10]) (by kernel_rfl) (by simp) ?_
 refine AllReadyH.cons (o:= ?oitell611) ?hoptell611 (fun K hK=> ?steptell611) ?moretell611
 case hoptell611=>(simp only[List.getElem?_toArray,List.getElem?_cons_zero,List.getElem?_cons_succ];rfl)
 case moretell611=>exact AllReadyH.nil
 go_simp
 (go_at_call 142;(refine Calls.mono (show Calls _ _ _ _ _ from hC.out) ?_);rintro e w2 ⟨L,C,k,rfl,h1,h2,h3,h4⟩;rw[hE3.out];have hb2:Hid (Below WX.heap.size WX w2):=hbD.out.trans (h3.mono hbD.out.size);have hfin:Hid (L.map Itm.z=tellF s (a.map Itm.z) (b.map Itm.z) S∧Lv w2 C k L∧Below w.heap.size w w2∧NwT w2 k w.heap.size C L):=⟨by rw[hE.out.2];exact h1,h2,hgW.out.below.trans (hb2.out.mono hgW.out.size),h4.mono (Nat.le_trans hgW.out.size hbD.out.size)⟩;clear h1 h2 h3 h4)
 first|(go_wp2_with fail)|skip
 refine hK.out _ _ ?_ (fun hHeld=> ?_)
 ·(try dsimp only);first|with_reducible exact hKeep.out _ hbD.out|with_reducible exact hKeep.out _ hb2.out
 clear hK K
 try simp only[Act.put,List.setIfInBounds_toArray,List.set_cons_zero,List.set_cons_succ]
 refine wpAnyH_take (i:=11) (oi:= ?oitell612) (v:= ?vtell612) ?hoptell612 ?hstell612 ?hftell612 ?hrtell612 ?hQtell612 ?hytell612 (by assumption) ?resttell612
 case hoptell612=>(simp only[List.getElem?_toArray,List.getElem?_cons_zero,List.getElem?_cons_succ];rfl)
 case hstell612=>kernel_rfl
 case hftell612=>kernel_rfl
 case hrtell612=>kernel_rfl
 case hQtell612=>exact fun _ _ _ h=>h
 case hytell612=>(refine Or.inl ⟨by rfl,?_⟩;intro w hSw;(try dsimp only at hSw);go_simp<;>with_reducible rfl)
 try simp only[Act.put,List.setIfInBounds_toArray,List.set_cons_zero,List.set_cons_succ]
 refine wpAnyH_take (i:=12) (oi:= ?oitell613) (v:= ?vtell613) ?hoptell613 ?hstell613 ?hftell613 ?hrtell613 ?hQtell613 ?hytell613 (by assumption) ?resttell613
 case hoptell613=>(simp only[List.getElem?_toArray,List.getElem?_cons_zero,List.getElem?_cons_succ];rfl)
 case hstell613=>kernel_rfl
 case hftell613=>kernel_rfl
 case hrtell613=>kernel_rfl
 case hQtell613=>exact fun _ _ _ h=>h
 case hytell613=>(refine Or.inl ⟨by rfl,?_⟩;intro w hSw;(try dsimp only at hSw);go_simp<;>with_reducible rfl)
 try simp only[Act.put,List.setIfInBounds_toArray,List.set_cons_zero,List.set_cons_succ]
 refine wpAnyH_take (i:=13) (oi:= ?oitell614) (v:= ?vtell614) ?hoptell614 ?hstell614 ?hftell614 ?hrtell614 ?hQtell614 ?hytell614 (by assumption) ?resttell614
 case hoptell614=>(simp only[List.getElem?_toArray,List.getElem?_cons_zero,List.getElem?_cons_succ];rfl)
 case hstell614=>kernel_rfl
 case hftell614=>kernel_rfl
 case hrtell614=>kernel_rfl
 case hQtell614=>exact fun _ _ _ h=>h
 case hytell614=>(refine Or.inl ⟨by rfl,?_⟩;intro w hSw;(try dsimp only at hSw);go_simp<;>with_reducible rfl)
 try simp only[Act.put,List.setIfInBounds_toArray,List.set_cons_zero,List.set_cons_succ]
 refine wpAnyH_take (i:=14) (oi:= ?oitell615) (v:= ?vtell615) ?hoptell615 ?hstell615 ?hftell615 ?hrtell615 ?hQtell615 ?hytell615 (by assumption) ?resttell615
 case hoptell615=>(simp only[List.getElem?_toArray,List.getElem?_cons_zero,List.getElem?_cons_succ];rfl)
 case hstell615=>kernel_rfl
 case hftell615=>kernel_rfl
 case hrtell615=>kernel_rfl
 case hQtell615=>exact fun _ _ _ h=>h
 case hytell615=>(refine Or.inl ⟨by rfl,?_⟩;intro w hSw;(try dsimp only at hSw);go_simp<;>with_reducible rfl)
 try simp only[Act.put,List.setIfInBounds_toArray,List.set_cons_zero,List.set_cons_succ]
 refine wpAnyH_done (by kernel_rfl) ?_ _
 refine NoPanic.normal ?_
 go_wp2
 go_ret2
 exact ⟨L,C,k,rfl,hfin.out.1,hfin.out.2.1,hfin.out.2.2⟩
set_option maxRecDepth 100000 in
set_option maxHeartbeats 1000000 in
theorem tell4 (s:Stp) (a b:List Itm) (A B:Option Addr) (ca cb:Nat) (SA:Option Addr) (sc:Nat) (ss:List Sl) (S:List (List Zit)) (w:World) (hk:s.k=4) (ha0:0≤s.a) (ha1:s.a.toNat<S.length) (hb0:0≤s.b) (hb1:s.b.toNat<S.length) (hS:Sts w SA ss S) (hJo:∀l r:List Itm,l.map Itm.z=getS S s.a→r.map Itm.z=getS S s.b→JoinOk s.c s.v l r) :
  Calls Tryz.prog 114 #[.agg #[.int .i64 s.k,.int .i64 s.a,.int .i64 s.b,.int .i64 s.c,.int .i64 s.o,.int .i64 s.v,.slice s.p s.l.length s.n],.agg #[.slice A a.length ca,.slice B b.length cb],.slice SA ss.length sc] w fun e w'=>∃(L:List Itm) (C:Option Addr) (k:Nat),e= .returned (.tuple #[.slice C L.length k,.int .i64 (tellE s (a.map Itm.z) (b.map Itm.z) S)])∧L.map Itm.z=tellF s (a.map Itm.z) (b.map Itm.z) S∧Lv w' C k L∧Below w.heap.size w w'∧NwT w' k w.heap.size C L:=by
 have hE:Hid (tellE s (a.map Itm.z) (b.map Itm.z) S=pjnE (getS S s.a) (getS S s.b) s.c s.v∧tellF s (a.map Itm.z) (b.map Itm.z) S=pjnF (getS S s.a) (getS S s.b) s.c s.v):=⟨by unfold tellE;rw[if_neg (by omega),if_pos hk],by unfold tellF;rw[if_neg (by omega),if_pos hk]⟩
 obtain ⟨bb,off,na,x,hA,hbb,hna,hnal,hxc,hxl,hxz⟩:=hS.at ha0 ha1
 obtain ⟨bb',off',nb,y,hA',_,hnb,hnbl,hyc,hyl,hyz⟩:=hS.at hb0 hb1
 subst hA
 cases hA'
 obtain ⟨E,hE2⟩:∃E,tellE s (a.map Itm.z) (b.map Itm.z) S=E:=⟨_,rfl⟩
 have hE3:Hid (pjnE (getS S s.a) (getS S s.b) s.c s.v=E):=by show _=_;rw[←hE2,hE.out.1]
 have hgW:Hid (Gr w ((w.alloc (.cells #[.int .i64 4,.int .i64 (na:Int),.int .i64 (nb:Int),.int .i64 s.c,.int .i64 s.o,.int .i64 s.v,.slice s.p s.l.length s.n] 48)).alloc (.cells #[.slice A a.length ca,.slice B b.length cb] 69))):=((Gr.refl _).alloc _).alloc _
 obtain ⟨WX,hWX⟩:∃WX,((w.alloc (.cells #[.int .i64 4,.int .i64 (na:Int),.int .i64 (nb:Int),.int .i64 s.c,.int .i64 s.o,.int .i64 s.v,.slice s.p s.l.length s.n] 48)).alloc (.cells #[.slice A a.length ca,.slice B b.length cb] 69))=WX:=⟨_,rfl⟩
 have q0:WX.cell? ⟨w.heap.size,0,none⟩=some (.int .i64 4):=by rw[←hWX];exact box1 (w:=w) ((Gr.refl _).alloc _) rfl
 have q1:WX.cell? ⟨w.heap.size,1,none⟩=some (.int .i64 (na:Int)):=by rw[←hWX];exact box1 (w:=w) ((Gr.refl _).alloc _) rfl
 have q2:WX.cell? ⟨w.heap.size,2,none⟩=some (.int .i64 (nb:Int)):=by rw[←hWX];exact box1 (w:=w) ((Gr.refl _).alloc _) rfl
 have q3:WX.cell? ⟨w.heap.size,3,none⟩=some (.int .i64 s.c):=by rw[←hWX];exact box1 (w:=w) ((Gr.refl _).alloc _) rfl
 have q5:WX.cell? ⟨w.heap.size,5,none⟩=some (.int .i64 s.v):=by rw[←hWX];exact box1 (w:=w) ((Gr.refl _).alloc _) rfl
 have hsb:w.heap.size<WX.heap.size:=by rw[←hWX];simp;omega
 rw[hWX] at hgW
 have hC0:=joinV ((hxl.gr hgW.out).gr (Gr.refl _).drew) ((hyl.gr hgW.out).gr (Gr.refl _).drew) (hJo x.l y.l hxz hyz) hxz hyz (W:=WX.drew)
 have hC:Hid _:=hC0
 clear hC0
 have hKeep:Hid (∀W',Below WX.heap.size WX W'→(fun w'=>w'.cell? ⟨w.heap.size,1,none⟩=some (.int .i64 (na:Int))∧w'.cell? ⟨w.heap.size,2,none⟩=some (.int .i64 (nb:Int))∧w'.cell? ⟨bb,off+na,none⟩=some (.slice x.A x.l.length x.cap)∧w'.cell? ⟨bb,off+nb,none⟩=some (.slice y.A y.l.length y.cap)∧w'.cell? ⟨w.heap.size,3,none⟩=some (.int .i64 s.c)∧w'.cell? ⟨w.heap.size,5,none⟩=some (.int .i64 s.v)) W'):=fun W' h=>⟨(h.cell (p:=⟨w.heap.size,1,none⟩) hsb).trans q1,(h.cell (p:=⟨w.heap.size,2,none⟩) hsb).trans q2,(h.cell (p:=⟨bb,off+na,none⟩) (Nat.lt_of_lt_of_le hbb hgW.out.size)).trans ((hgW.out.below.cell (p:=⟨bb,off+na,none⟩) hbb).trans hxc),(h.cell (p:=⟨bb,off+nb,none⟩) (Nat.lt_of_lt_of_le hbb hgW.out.size)).trans ((hgW.out.below.cell (p:=⟨bb,off+nb,none⟩) hbb).trans hyc),(h.cell (p:=⟨w.heap.size,3,none⟩) hsb).trans q3,(h.cell (p:=⟨w.heap.size,5,none⟩) hsb).trans q5⟩
 have hbD:Hid (Below WX.heap.size WX WX.drew):=(Below.refl _ _).drew
 have hnaz:(na:Int)<(ss.length:Int):=by omega
 have hnbz:(nb:Int)<(ss.length:Int):=by omega
 rw[hE2,hk,hna,hnb]
 clear hk hE2 hxc hyc hxl hyl hxz hyz hna hnb ha0 ha1 hb0 hb1 hnal hnbl hbb q1 q2 q3 q5 hS
 go_enter Tryz.func114,Tryz.ntmps114
 go_wp2_with fail
 clear hWX
 refine wp_region_noPanic ?_
 refine wp_region_held_drew (S:=(fun w'=>w'.cell? ⟨w.heap.size,1,none⟩=some (.int .i64 (na:Int))∧w'.cell? ⟨w.heap.size,2,none⟩=some (.int .i64 (nb:Int))∧w'.cell? ⟨bb,off+na,none⟩=some (.slice x.A x.l.length x.cap)∧w'.cell? ⟨bb,off+nb,none⟩=some (.slice y.A y.l.length y.cap)∧w'.cell? ⟨w.heap.size,3,none⟩=some (.int .i64 s.c)∧w'.cell? ⟨w.heap.size,5,none⟩=some (.int .i64 s.v))) (by kernel_rfl) (hKeep.out _ hbD.out) (fun hHeld=> ?_)
 refine wpAnyH_take (i:=0) (oi:= ?oitell41) (v:= ?vtell41) ?hoptell41 ?hstell41 ?hftell41 ?hrtell41 ?hQtell41 ?hytell41 (by assumption) ?resttell41
 case hoptell41=>(simp only[List.getElem?_toArray,List.getElem?_cons_zero];rfl)
 case hstell41=>kernel_rfl
 case hftell41=>kernel_rfl
 case hrtell41=>kernel_rfl
 case hQtell41=>exact fun _ _ _ h=>h
 case hytell41=>(refine Or.inl ⟨by rfl,?_⟩;intro w hSw;(try dsimp only at hSw);go_simp<;>with_reducible rfl)
 try simp only[Act.put,List.setIfInBounds_toArray,List.set_cons_zero,List.set_cons_succ]
 refine wpAnyH_take (i:=1) (oi:= ?oitell42) (v:= ?vtell42) ?hoptell42 ?hstell42 ?hftell42 ?hrtell42 ?hQtell42 ?hytell42 (by assumption) ?resttell42
 case hoptell42=>(simp only[List.getElem?_toArray,List.getElem?_cons_zero,List.getElem?_cons_succ];rfl)
 case hstell42=>kernel_rfl
 case hftell42=>kernel_rfl
 case hrtell42=>kernel_rfl
 case hQtell42=>exact fun _ _ _ h=>h
 case hytell42=>(refine Or.inl ⟨by rfl,?_⟩;intro w hSw;(try dsimp only at hSw);go_simp<;>with_reducible rfl)
 try simp only[Act.put,List.setIfInBounds_toArray,List.set_cons_zero,List.set_cons_succ]
 refine wpAnyH_take (i:=2) (oi:= ?oitell43) (v:= ?vtell43) ?hoptell43 ?hstell43 ?hftell43 ?hrtell43 ?hQtell43 ?hytell43 (by assumption) ?resttell43
 case hoptell43=>(simp only[List.getElem?_toArray,List.getElem?_cons_zero,List.getElem?_cons_succ];rfl)
 case hstell43=>kernel_rfl
 case hftell43=>kernel_rfl
 case hrtell43=>kernel_rfl
 case hQtell43=>exact fun _ _ _ h=>h
 case hytell43=>(refine Or.inl ⟨by rfl,?_⟩;intro w hSw;(try dsimp only at hSw);go_simp<;>with_reducible rfl)
 try simp only[Act.put,List.setIfInBounds_toArray,List.set_cons_zero,List.set_cons_succ]
 refine wpAnyH_take (i:=3) (oi:= ?oitell44) (v:= ?vtell44) ?hoptell44 ?hstell44 ?hftell44 ?hrtell44 ?hQtell44 ?hytell44 (by assumption) ?resttell44
 case hoptell44=>(simp only[List.getElem?_toArray,List.getElem?_cons_zero,List.getElem?_cons_succ];rfl)
 case hstell44=>kernel_rfl
 case hftell44=>kernel_rfl
 case hrtell44=>kernel_rfl
 case hQtell44=>exact fun _ _ _ h=>h
 case hytell44=>(refine Or.inl ⟨by rfl,?_⟩;intro w hSw;(try dsimp only at hSw);go_simp<;>with_reducible rfl)
 try simp only[Act.put,List.setIfInBounds_toArray,List.set_cons_zero,List.set_cons_succ]
 refine wpAnyH_take (i:=4) (oi:= ?oitell45) (v:= ?vtell45) ?hoptell45 ?hstell45 ?hftell45 ?hrtell45 ?hQtell45 ?hytell45 (by assumption) ?resttell45
 case hoptell45=>(simp only[List.getElem?_toArray,List.getElem?_cons_zero,List.getElem?_cons_succ];rfl)
 case hstell45=>kernel_rfl
 case hftell45=>kernel_rfl
 case hrtell45=>kernel_rfl
 case hQtell45=>exact fun _ _ _ h=>h
 case hytell45=>(refine Or.inl ⟨by rfl,?_⟩;intro w hSw;(try dsimp only at hSw);go_simp<;>with_reducible rfl)
 try simp only[Act.put,List.setIfInBounds_toArray,List.set_cons_zero,List.set_cons_succ]
 refine wpAnyH_take (i:=5) (oi:= ?oitell46) (v:= ?vtell46) ?hoptell46 ?hstell46 ?hftell46 ?hrtell46 ?hQtell46 ?hytell46 (by assumption) ?resttell46
 case hoptell46=>(simp only[List.getElem?_toArray,List.getElem?_cons_zero,List.getElem?_cons_succ];rfl)
 case hstell46=>kernel_rfl
 case hftell46=>kernel_rfl
 case hrtell46=>kernel_rfl
 case hQtell46=>exact fun _ _ _ h=>h
 case hytell46=>(refine Or.inl ⟨by rfl,?_⟩;intro w hSw;(try dsimp only at hSw);go_simp<;>with_reducible rfl)
 try simp only[Act.put,List.setIfInBounds_toArray,List.set_cons_zero,List.set_cons_succ]
 refine wpAnyH_take (i:=6) (oi:= ?oitell47) (v:= ?vtell47) ?hoptell47 ?hstell47 ?hftell47 ?hrtell47 ?hQtell47 ?hytell47 (by assumption) ?resttell47
 case hoptell47=>(simp only[List.getElem?_toArray,List.getElem?_cons_zero,List.getElem?_cons_succ];rfl)
 case hstell47=>kernel_rfl
 case hftell47=>kernel_rfl
 case hrtell47=>kernel_rfl
 case hQtell47=>exact fun _ _ _ h=>h
 case hytell47=>(refine Or.inl ⟨by rfl,?_⟩;intro w hSw;(try dsimp only at hSw);go_simp<;>with_reducible rfl)
 try simp only[Act.put,List.setIfInBounds_toArray,List.set_cons_zero,List.set_cons_succ]
 refine wpAnyH_take (i:=7) (oi:= ?oitell48) (v:= ?vtell48) ?hoptell48 ?hstell48 ?hftell48 ?hrtell48 ?hQtell48 ?hytell48 (by assumption) ?resttell48
 case hoptell48=>(simp only[List.getElem?_toArray,List.getElem?_cons_zero,List.getElem?_cons_succ];rfl)
 case hstell48=>kernel_rfl
 case hftell48=>kernel_rfl
 case hrtell48=>kernel_rfl
 case hQtell48=>exact fun _ _ _ h=>h
 case hytell48=>(refine Or.inl ⟨by rfl,?_⟩;intro w hSw;(try dsimp only at hSw);go_simp<;>with_reducible rfl)
 try simp only[Act.put,List.setIfInBounds_toArray,List.set_cons_zero,List.set_cons_succ]
 refine wpAnyH_take (i:=8) (oi:= ?oitell49) (v:= ?vtell49) ?hoptell49 ?hstell49 ?hftell49 ?hrtell49 ?hQtell49 ?hytell49 (by assumption) ?resttell49
 case hoptell49=>(simp only[List.getElem?_toArray,List.getElem?_cons_zero,List.getElem?_cons_succ];rfl)
 case hstell49=>kernel_rfl
 case hftell49=>kernel_rfl
 case hrtell49=>kernel_rfl
 case hQtell49=>exact fun _ _ _ h=>h
 case hytell49=>(refine Or.inl ⟨by rfl,?_⟩;intro w hSw;(try dsimp only at hSw);go_simp<;>with_reducible rfl)
 try simp only[Act.put,List.setIfInBounds_toArray,List.set_cons_zero,List.set_cons_succ]
 refine wpAnyH_take (i:=9) (oi:= ?oitell410) (v:= ?vtell410) ?hoptell410 ?hstell410 ?hftell410 ?hrtell410 ?hQtell410 ?hytell410 (by assumption) ?resttell410
 case hoptell410=>(simp only[List.getElem?_toArray,List.getElem?_cons_zero,List.getElem?_cons_succ];rfl)
 case hstell410=>kernel_rfl
 case hftell410=>kernel_rfl
 case hrtell410=>kernel_rfl
 case hQtell410=>exact fun _ _ _ h=>h
 case hytell410=>(refine Or.inl ⟨by rfl,?_⟩;intro w hSw;(try dsimp only at hSw);go_simp<;>with_reducible rfl)
 try simp only[Act.put,List.setIfInBounds_toArray,List.set_cons_zero,List.set_cons_succ]
 refine wpAnyH_take (i:=10) (oi:= ?oitell411) (v:= ?vtell411) ?hoptell411 ?hstell411 ?hftell411 ?hrtell411 ?hQtell411 ?hytell411 (by assumption) ?resttell411
 case hoptell411=>(simp only[List.getElem?_toArray,List.getElem?_cons_zero,List.getElem?_cons_succ];rfl)
 case hstell411=>kernel_rfl
 case hftell411=>kernel_rfl
 case hrtell411=>kernel_rfl
 case hQtell411=>exact fun _ _ _ h=>h
 case hytell411=>(refine Or.inl ⟨by rfl,?_⟩;intro w hSw;(try dsimp only at hSw);go_simp<;>with_reducible rfl)
 try simp only[Act.put,List.setIfInBounds_toArray,List.set_cons_zero,List.set_cons_succ]
 refine wpAnyH_take (i:=11) (oi:= ?oitell412) (v:= ?vtell412) ?hoptell412 ?hstell412 ?hftell412 ?hrtell412 ?hQtell412 ?hytell412 (by assumption) ?resttell412
 case hoptell412=>(simp only[List.getElem?_toArray,List.getElem?_cons_zero,List.getElem?_cons_succ];rfl)
 case hstell412=>kernel_rfl
 case hftell412=>kernel_rfl
 case hrtell412=>kernel_rfl
 case hQtell412=>exact fun _ _ _ h=>h
 case hytell412=>(refine Or.inl ⟨by rfl,?_⟩;intro w hSw;(try dsimp only at hSw);go_simp<;>with_reducible rfl)
 try simp only[Act.put,List.setIfInBounds_toArray,List.set_cons_zero,List.set_cons_succ]
 refine wpAnyH_take (i:=12) (oi:= ?oitell413) (v:= ?vtell413) ?hoptell413 ?hstell413 ?hftell413 ?hrtell413 ?hQtell413 ?hytell413 (by assumption) ?resttell413
 case hoptell413=>(simp only[List.getElem?_toArray,List.getElem?_cons_zero,List.getElem?_cons_succ];rfl)
 case hstell413=>kernel_rfl
 case hftell413=>kernel_rfl
 case hrtell413=>kernel_rfl
 case hQtell413=>exact fun _ _ _ h=>h
 case hytell413=>(refine Or.inl ⟨by rfl,?_⟩;intro w hSw;(try dsimp only at hSw);go_simp<;>with_reducible rfl)
 try simp only[Act.put,List.setIfInBounds_toArray,List.set_cons_zero,List.set_cons_succ]
 refine wpAnyH_take (i:=13) (oi:= ?oitell414) (v:= ?vtell414) ?hoptell414 ?hstell414 ?hftell414 ?hrtell414 ?hQtell414 ?hytell414 (by assumption) ?resttell414
 case hoptell414=>(simp only[List.getElem?_toArray,List.getElem?_cons_zero,List.getElem?_cons_succ];rfl)
 case hstell414=>kernel_rfl
 case hftell414=>kernel_rfl
 case hrtell414=>kernel_rfl
 case hQtell414=>exact fun _ _ _ h=>h
 case hytell414=>(refine Or.inl ⟨by rfl,?_⟩;intro w hSw;(try dsimp only at hSw);go_simp<;>with_reducible rfl)
 try simp only[Act.put,List.setIfInBounds_toArray,List.set_cons_zero,List.set_cons_succ]
 refine wpAnyH_ready (rs:=[14]) (by kernel_rfl) (by simp) ?_
 refine AllReadyH.cons (o:= ?oitell415) ?hoptell415 (fun K hK=> ?steptell415) ?moretell415
 case hoptell415=>(simp only[List.getElem?_toArray,List.getElem?_cons_zero,List.getElem?_cons_succ];rfl)
 case moretell415=>exact AllReadyH.nil
 go_simp
 (go_at_call 141;(refine Calls.mono (show Calls _ _ _ _ _ from hC.out) ?_);rintro e w2 ⟨L,C,k,rfl,h1,h2,h3,h4⟩;rw[hE3.out];have hb2:Hid (Below WX.heap.size WX w2):=hbD.out.trans (h3.mono hbD.out.size);have hfin:Hid (L.map Itm.z=tellF s (a.map Itm.z) (b.map Itm.z) S∧Lv w2 C k L∧Below w.heap.size w w2∧NwT w2 k w.heap.size C L):=⟨by rw[hE.out.2];exact h1,h2,hgW.out.below.trans (hb2.out.mono hgW.out.size),h4.mono (Nat.le_trans hgW.out.size hbD.out.size)⟩;clear h1 h2 h3 h4)
 first|(go_wp2_with fail)|skip
 refine hK.out _ _ ?_ (fun hHeld=> ?_)
 ·(try dsimp only);first|with_reducible exact hKeep.out _ hbD.out|with_reducible exact hKeep.out _ hb2.out
 clear hK K
 try simp only[Act.put,List.setIfInBounds_toArray,List.set_cons_zero,List.set_cons_succ]
 refine wpAnyH_take (i:=15) (oi:= ?oitell416) (v:= ?vtell416) ?hoptell416 ?hstell416 ?hftell416 ?hrtell416 ?hQtell416 ?hytell416 (by assumption) ?resttell416
 case hoptell416=>(simp only[List.getElem?_toArray,List.getElem?_cons_zero,List.getElem?_cons_succ];rfl)
 case hstell416=>kernel_rfl
 case hftell416=>kernel_rfl
 case hrtell416=>kernel_rfl
 case hQtell416=>exact fun _ _ _ h=>h
 case hytell416=>(refine Or.inl ⟨by rfl,?_⟩;intro w hSw;(try dsimp only at hSw);go_simp<;>with_reducible rfl)
 try simp only[Act.put,List.setIfInBounds_toArray,List.set_cons_zero,List.set_cons_succ]
 refine wpAnyH_take (i:=16) (oi:= ?oitell417) (v:= ?vtell417) ?hoptell417 ?hstell417 ?hftell417 ?hrtell417 ?hQtell417 ?hytell417 (by assumption) ?resttell417
 case hoptell417=>(simp only[List.getElem?_toArray,List.getElem?_cons_zero,List.getElem?_cons_succ];rfl)
 case hstell417=>kernel_rfl
 case hftell417=>kernel_rfl
 case hrtell417=>kernel_rfl
 case hQtell417=>exact fun _ _ _ h=>h
 case hytell417=>(refine Or.inl ⟨by rfl,?_⟩;intro w hSw;(try dsimp only at hSw);go_simp<;>with_reducible rfl)
 try simp only[Act.put,List.setIfInBounds_toArray,List.set_cons_zero,List.set_cons_succ]
 refine wpAnyH_take (i:=17) (oi:= ?oitell418) (v:= ?vtell418) ?hoptell418 ?hstell418 ?hftell418 ?hrtell418 ?hQtell418 ?hytell418 (by assumption) ?resttell418
 case hoptell418=>(simp only[List.getElem?_toArray,List.getElem?_cons_zero,List.getElem?_cons_succ];rfl)
 case hstell418=>kernel_rfl
 case hftell418=>kernel_rfl
 case hrtell418=>kernel_rfl
 case hQtell418=>exact fun _ _ _ h=>h
 case hytell418=>(refine Or.inl ⟨by rfl,?_⟩;intro w hSw;(try dsimp only at hSw);go_simp<;>with_reducible rfl)
 try simp only[Act.put,List.setIfInBounds_toArray,List.set_cons_zero,List.set_cons_succ]
 refine wpAnyH_take (i:=18) (oi:= ?oitell419) (v:= ?vtell419) ?hoptell419 ?hstell419 ?hftell419 ?hrtell419 ?hQtell419 ?hytell419 (by assumption) ?resttell419
 case hoptell419=>(simp only[List.getElem?_toArray,List.getElem?_cons_zero,List.getElem?_cons_succ];rfl)
 case hstell419=>kernel_rfl
 case hftell419=>kernel_rfl
 case hrtell419=>kernel_rfl
 case hQtell419=>exact fun _ _ _ h=>h
 case hytell419=>(refine Or.inl ⟨by rfl,?_⟩;intro w hSw;(try dsimp only at hSw);go_simp<;>with_reducible rfl)
 try simp only[Act.put,List.setIfInBounds_toArray,List.set_cons_zero,List.set_cons_succ]
 refine wpAnyH_done (by kernel_rfl) ?_ _
 refine NoPanic.normal ?_
 go_wp2
 go_ret2
 exact ⟨L,C,k,rfl,hfin.out.1,hfin.out.2.1,hfin.out.2.2⟩
set_option maxRecDepth 100000 in
set_option maxHeartbeats 1000000 in
theorem tellOne (s:Stp) (a b:List Itm) (A B:Option Addr) (ca cb:Nat) (SA:Option Addr) (sc:Nat) (ss:List Sl) (S:List (List Zit)) (w:World) (kz:Int) (hkz:s.k=kz) (hk:kz=2∨kz=3∨kz=8∨kz=7∨kz=9) (ha0:0≤s.a) (ha1:s.a.toNat<S.length) (hS:Sts w SA ss S) (hs:RowI w s.p s.l) (hO:∀l:List Itm,l.map Itm.z=getS S s.a→OneOk s l) :
  Calls Tryz.prog 114 #[.agg #[.int .i64 s.k,.int .i64 s.a,.int .i64 s.b,.int .i64 s.c,.int .i64 s.o,.int .i64 s.v,.slice s.p s.l.length s.n],.agg #[.slice A a.length ca,.slice B b.length cb],.slice SA ss.length sc] w fun e w'=>∃(L:List Itm) (C:Option Addr) (k:Nat),e= .returned (.tuple #[.slice C L.length k,.int .i64 (tellE s (a.map Itm.z) (b.map Itm.z) S)])∧L.map Itm.z=tellF s (a.map Itm.z) (b.map Itm.z) S∧Lv w' C k L∧Below w.heap.size w w'∧NwT w' k w.heap.size C L:=by
 have hE:Hid (tellE s (a.map Itm.z) (b.map Itm.z) S=normE (oneF s (getS S s.a))∧tellF s (a.map Itm.z) (b.map Itm.z) S=normL (oneF s (getS S s.a))):=⟨by unfold tellE;rw[if_neg (by omega),if_neg (by omega),if_neg (by omega),if_neg (by omega)],by unfold tellF;rw[if_neg (by omega),if_neg (by omega),if_neg (by omega),if_neg (by omega)]⟩
 obtain ⟨bb,off,na,x,hA,hbb,hna,hnal,hxc,hxl,hxz⟩:=hS.at ha0 ha1
 subst hA
 obtain ⟨E,hE2⟩:∃E,tellE s (a.map Itm.z) (b.map Itm.z) S=E:=⟨_,rfl⟩
 have hE3:Hid (normE (oneF s (getS S s.a))=E):=by show _=_;rw[←hE2,hE.out.1]
 have hgW:Hid (Gr w ((w.alloc (.cells #[.int .i64 kz,.int .i64 (na:Int),.int .i64 s.b,.int .i64 s.c,.int .i64 s.o,.int .i64 s.v,.slice s.p s.l.length s.n] 48)).alloc (.cells #[.slice A a.length ca,.slice B b.length cb] 69))):=((Gr.refl _).alloc _).alloc _
 obtain ⟨WX,hWX⟩:∃WX,((w.alloc (.cells #[.int .i64 kz,.int .i64 (na:Int),.int .i64 s.b,.int .i64 s.c,.int .i64 s.o,.int .i64 s.v,.slice s.p s.l.length s.n] 48)).alloc (.cells #[.slice A a.length ca,.slice B b.length cb] 69))=WX:=⟨_,rfl⟩
 have q0:WX.cell? ⟨w.heap.size,0,none⟩=some (.int .i64 kz):=by rw[←hWX];exact box1 (w:=w) ((Gr.refl _).alloc _) rfl
 have q1:WX.cell? ⟨w.heap.size,1,none⟩=some (.int .i64 (na:Int)):=by rw[←hWX];exact box1 (w:=w) ((Gr.refl _).alloc _) rfl
 have q2:WX.cell? ⟨w.heap.size,2,none⟩=some (.int .i64 s.b):=by rw[←hWX];exact box1 (w:=w) ((Gr.refl _).alloc _) rfl
 have q3:WX.cell? ⟨w.heap.size,3,none⟩=some (.int .i64 s.c):=by rw[←hWX];exact box1 (w:=w) ((Gr.refl _).alloc _) rfl
 have q4:WX.cell? ⟨w.heap.size,4,none⟩=some (.int .i64 s.o):=by rw[←hWX];exact box1 (w:=w) ((Gr.refl _).alloc _) rfl
 have q5:WX.cell? ⟨w.heap.size,5,none⟩=some (.int .i64 s.v):=by rw[←hWX];exact box1 (w:=w) ((Gr.refl _).alloc _) rfl
 have q6:WX.cell? ⟨w.heap.size,6,none⟩=some (.slice s.p s.l.length s.n):=by rw[←hWX];exact box1 (w:=w) ((Gr.refl _).alloc _) rfl
 have hsb:w.heap.size<WX.heap.size:=by rw[←hWX];simp;omega
 rw[hWX] at hgW
 have hk2:s.k=2∨s.k=3∨s.k=8∨s.k=7∨s.k=9:=by omega
 have hC0:=one_any s x.l x.A x.cap WX.drew hk2 (hO x.l hxz) ((hxl.items.gr hgW.out).gr (Gr.refl _).drew) ((hs.gr hgW.out).gr (Gr.refl _).drew)
 rw[hkz,hna] at hC0
 have hC:Hid _:=hC0
 clear hC0
 have hxzH:Hid (x.l.map Itm.z=getS S s.a):=hxz
 have hKeep:Hid (∀W',Below WX.heap.size WX W'→(fun w'=>w'.cell? ⟨w.heap.size,0,none⟩=some (.int .i64 kz)∧w'.cell? ⟨w.heap.size,1,none⟩=some (.int .i64 (na:Int))∧w'.cell? ⟨w.heap.size,2,none⟩=some (.int .i64 s.b)∧w'.cell? ⟨w.heap.size,3,none⟩=some (.int .i64 s.c)∧w'.cell? ⟨w.heap.size,4,none⟩=some (.int .i64 s.o)∧w'.cell? ⟨w.heap.size,5,none⟩=some (.int .i64 s.v)∧w'.cell? ⟨w.heap.size,6,none⟩=some (.slice s.p s.l.length s.n)∧w'.cell? ⟨bb,off+na,none⟩=some (.slice x.A x.l.length x.cap)) W'):=fun W' h=>⟨(h.cell (p:=⟨w.heap.size,0,none⟩) hsb).trans q0,(h.cell (p:=⟨w.heap.size,1,none⟩) hsb).trans q1,(h.cell (p:=⟨w.heap.size,2,none⟩) hsb).trans q2,(h.cell (p:=⟨w.heap.size,3,none⟩) hsb).trans q3,(h.cell (p:=⟨w.heap.size,4,none⟩) hsb).trans q4,(h.cell (p:=⟨w.heap.size,5,none⟩) hsb).trans q5,(h.cell (p:=⟨w.heap.size,6,none⟩) hsb).trans q6,(h.cell (p:=⟨bb,off+na,none⟩) (Nat.lt_of_lt_of_le hbb hgW.out.size)).trans ((hgW.out.below.cell (p:=⟨bb,off+na,none⟩) hbb).trans hxc)⟩
 have hbD:Hid (Below WX.heap.size WX WX.drew):=(Below.refl _ _).drew
 have hnaz:(na:Int)<(ss.length:Int):=by omega
 have kz1:(kz==1)=false:=by rcases hk with h|h|h|h|h<;>rw[h]<;>rfl
 have kz4:(kz==4)=false:=by rcases hk with h|h|h|h|h<;>rw[h]<;>rfl
 have kz5:(kz==5)=false:=by rcases hk with h|h|h|h|h<;>rw[h]<;>rfl
 have kz6:(kz==6)=false:=by rcases hk with h|h|h|h|h<;>rw[h]<;>rfl
 rw[hE2,hkz,hna]
 clear hk hk2 hE2 hxc hxl hxz hna ha0 ha1 hnal hbb q1 q2 q3 q4 q5 q6 hS hs hO hkz
 go_enter Tryz.func114,Tryz.ntmps114
 go_wp2_with fail
 clear hWX q0
 refine wp_region_noPanic ?_
 refine wp_region_held_drew (S:=(fun w'=>w'.cell? ⟨w.heap.size,0,none⟩=some (.int .i64 kz)∧w'.cell? ⟨w.heap.size,1,none⟩=some (.int .i64 (na:Int))∧w'.cell? ⟨w.heap.size,2,none⟩=some (.int .i64 s.b)∧w'.cell? ⟨w.heap.size,3,none⟩=some (.int .i64 s.c)∧w'.cell? ⟨w.heap.size,4,none⟩=some (.int .i64 s.o)∧w'.cell? ⟨w.heap.size,5,none⟩=some (.int .i64 s.v)∧w'.cell? ⟨w.heap.size,6,none⟩=some (.slice s.p s.l.length s.n)∧w'.cell? ⟨bb,off+na,none⟩=some (.slice x.A x.l.length x.cap))) (by kernel_rfl) (hKeep.out _ hbD.out) (fun hHeld=> ?_)
 refine wpAnyH_take (i:=0) (oi:= ?oitellOne1) (v:= ?vtellOne1) ?hoptellOne1 ?hstellOne1 ?hftellOne1 ?hrtellOne1 ?hQtellOne1 ?hytellOne1 (by assumption) ?resttellOne1
 case hoptellOne1=>(simp only[List.getElem?_toArray,List.getElem?_cons_zero];rfl)
 case hstellOne1=>kernel_rfl
 case hftellOne1=>kernel_rfl
 case hrtellOne1=>kernel_rfl
 case hQtellOne1=>exact fun _ _ _ h=>h
 case hytellOne1=>(refine Or.inl ⟨by rfl,?_⟩;intro w hSw;(try dsimp only at hSw);go_simp<;>with_reducible rfl)
 try simp only[Act.put,List.setIfInBounds_toArray,List.set_cons_zero,List.set_cons_succ]
 refine wpAnyH_take (i:=1) (oi:= ?oitellOne2) (v:= ?vtellOne2) ?hoptellOne2 ?hstellOne2 ?hftellOne2 ?hrtellOne2 ?hQtellOne2 ?hytellOne2 (by assumption) ?resttellOne2
 case hoptellOne2=>(simp only[List.getElem?_toArray,List.getElem?_cons_zero,List.getElem?_cons_succ];rfl)
 case hstellOne2=>kernel_rfl
 case hftellOne2=>kernel_rfl
 case hrtellOne2=>kernel_rfl
 case hQtellOne2=>exact fun _ _ _ h=>h
 case hytellOne2=>(refine Or.inl ⟨by rfl,?_⟩;intro w hSw;(try dsimp only at hSw);go_simp<;>with_reducible rfl)
 try simp only[Act.put,List.setIfInBounds_toArray,List.set_cons_zero,List.set_cons_succ]
 refine wpAnyH_take (i:=2) (oi:= ?oitellOne3) (v:= ?vtellOne3) ?hoptellOne3 ?hstellOne3 ?hftellOne3 ?hrtellOne3 ?hQtellOne3 ?hytellOne3 (by assumption) ?resttellOne3
 case hoptellOne3=>(simp only[List.getElem?_toArray,List.getElem?_cons_zero,List.getElem?_cons_succ];rfl)
 case hstellOne3=>kernel_rfl
 case hftellOne3=>kernel_rfl
 case hrtellOne3=>kernel_rfl
 case hQtellOne3=>exact fun _ _ _ h=>h
 case hytellOne3=>(refine Or.inl ⟨by rfl,?_⟩;intro w hSw;(try dsimp only at hSw);go_simp<;>with_reducible rfl)
 try simp only[Act.put,List.setIfInBounds_toArray,List.set_cons_zero,List.set_cons_succ]
 refine wpAnyH_take (i:=3) (oi:= ?oitellOne4) (v:= ?vtellOne4) ?hoptellOne4 ?hstellOne4 ?hftellOne4 ?hrtellOne4 ?hQtellOne4 ?hytellOne4 (by assumption) ?resttellOne4
 case hoptellOne4=>(simp only[List.getElem?_toArray,List.getElem?_cons_zero,List.getElem?_cons_succ];rfl)
 case hstellOne4=>kernel_rfl
 case hftellOne4=>kernel_rfl
 case hrtellOne4=>kernel_rfl
 case hQtellOne4=>exact fun _ _ _ h=>h
 case hytellOne4=>(refine Or.inl ⟨by rfl,?_⟩;intro w hSw;(try dsimp only at hSw);go_simp<;>with_reducible rfl)
 try simp only[Act.put,List.setIfInBounds_toArray,List.set_cons_zero,List.set_cons_succ]
 refine wpAnyH_take (i:=4) (oi:= ?oitellOne5) (v:= ?vtellOne5) ?hoptellOne5 ?hstellOne5 ?hftellOne5 ?hrtellOne5 ?hQtellOne5 ?hytellOne5 (by assumption) ?resttellOne5
 case hoptellOne5=>(simp only[List.getElem?_toArray,List.getElem?_cons_zero,List.getElem?_cons_succ];rfl)
 case hstellOne5=>kernel_rfl
 case hftellOne5=>kernel_rfl
 case hrtellOne5=>kernel_rfl
 case hQtellOne5=>exact fun _ _ _ h=>h
 case hytellOne5=>(refine Or.inl ⟨by rfl,?_⟩;intro w hSw;(try dsimp only at hSw);go_simp<;>with_reducible rfl)
 try simp only[Act.put,List.setIfInBounds_toArray,List.set_cons_zero,List.set_cons_succ]
 refine wpAnyH_take (i:=5) (oi:= ?oitellOne6) (v:= ?vtellOne6) ?hoptellOne6 ?hstellOne6 ?hftellOne6 ?hrtellOne6 ?hQtellOne6 ?hytellOne6 (by assumption) ?resttellOne6
 case hoptellOne6=>(simp only[List.getElem?_toArray,List.getElem?_cons_zero,List.getElem?_cons_succ];rfl)
 case hstellOne6=>kernel_rfl
 case hftellOne6=>kernel_rfl
 case hrtellOne6=>kernel_rfl
 case hQtellOne6=>exact fun _ _ _ h=>h
 case hytellOne6=>(refine Or.inl ⟨by rfl,?_⟩;intro w hSw;(try dsimp only at hSw);go_simp<;>with_reducible rfl)
 try simp only[Act.put,List.setIfInBounds_toArray,List.set_cons_zero,List.set_cons_succ]
 refine wpAnyH_ready (rs:=[6]) (by kernel_rfl) (by simp) ?_
 refine AllReadyH.cons (o:= ?oitellOne7) ?hoptellOne7 (fun K hK=> ?steptellOne7) ?moretellOne7
 case hoptellOne7=>(simp only[List.getElem?_toArray,List.getElem?_cons_zero,List.getElem?_cons_succ];rfl)
 case moretellOne7=>exact AllReadyH.nil
 go_simp
 (go_at_call 143;(refine Calls.mono (show Calls _ _ _ _ _ from hC.out) ?_);rintro e w1 ⟨L1,C1,k1,rfl,g1,g2,g3,g4⟩;have hb1:Hid (Below WX.heap.size WX w1):=hbD.out.trans (g4.mono hbD.out.size);have hN0:=normVn g2 (m:=oneF s (getS S s.a)) (by rw[g1,hxzH.out]);have hN:Hid _:=hN0;clear hN0 g1 g2 g3 g4)
 first|(go_wp2_with fail)|skip
 refine hK.out _ _ ?_ (fun hHeld=> ?_)
 ·(try dsimp only);first|with_reducible exact hKeep.out _ hbD.out|with_reducible exact hKeep.out _ hb2.out|with_reducible exact hKeep.out _ hb1.out
 clear hK K
 try simp only[Act.put,List.setIfInBounds_toArray,List.set_cons_zero,List.set_cons_succ]
 refine wpAnyH_ready (rs:=[7]) (by kernel_rfl) (by simp) ?_
 refine AllReadyH.cons (o:= ?oitellOne8) ?hoptellOne8 (fun K hK=> ?steptellOne8) ?moretellOne8
 case hoptellOne8=>(simp only[List.getElem?_toArray,List.getElem?_cons_zero,List.getElem?_cons_succ];rfl)
 case moretellOne8=>exact AllReadyH.nil
 go_simp
 (go_at_call 140;(refine Calls.mono (show Calls _ _ _ _ _ from hN.out) ?_);rintro e w2 ⟨L,C,k,rfl,h1,h2,h3,h4⟩;rw[hE3.out];have hb2:Hid (Below WX.heap.size WX w2):=hb1.out.trans (h3.mono hb1.out.size);have hfin:Hid (L.map Itm.z=tellF s (a.map Itm.z) (b.map Itm.z) S∧Lv w2 C k L∧Below w.heap.size w w2∧NwT w2 k w.heap.size C L):=⟨by rw[hE.out.2];exact h1,h2,hgW.out.below.trans (hb2.out.mono hgW.out.size),h4.mono (Nat.le_trans hgW.out.size hb1.out.size)⟩;clear h1 h2 h3 h4)
 first|(go_wp2_with fail)|skip
 refine hK.out _ _ ?_ (fun hHeld=> ?_)
 ·(try dsimp only);first|with_reducible exact hKeep.out _ hbD.out|with_reducible exact hKeep.out _ hb2.out|with_reducible exact hKeep.out _ hb1.out
 clear hK K
 try simp only[Act.put,List.setIfInBounds_toArray,List.set_cons_zero,List.set_cons_succ]
 refine wpAnyH_take (i:=8) (oi:= ?oitellOne9) (v:= ?vtellOne9) ?hoptellOne9 ?hstellOne9 ?hftellOne9 ?hrtellOne9 ?hQtellOne9 ?hytellOne9 (by assumption) ?resttellOne9
 case hoptellOne9=>(simp only[List.getElem?_toArray,List.getElem?_cons_zero,List.getElem?_cons_succ];rfl)
 case hstellOne9=>kernel_rfl
 case hftellOne9=>kernel_rfl
 case hrtellOne9=>kernel_rfl
 case hQtellOne9=>exact fun _ _ _ h=>h
 case hytellOne9=>(refine Or.inl ⟨by rfl,?_⟩;intro w hSw;(try dsimp only at hSw);go_simp<;>with_reducible rfl)
 try simp only[Act.put,List.setIfInBounds_toArray,List.set_cons_zero,List.set_cons_succ]
 refine wpAnyH_take (i:=9) (oi:= ?oitellOne10) (v:= ?vtellOne10) ?hoptellOne10 ?hstellOne10 ?hftellOne10 ?hrtellOne10 ?hQtellOne10 ?hytellOne10 (by assumption) ?resttellOne10
 case hoptellOne10=>(simp only[List.getElem?_toArray,List.getElem?_cons_zero,List.getElem?_cons_succ];rfl)
 case hstellOne10=>kernel_rfl
 case hftellOne10=>kernel_rfl
 case hrtellOne10=>kernel_rfl
 case hQtellOne10=>exact fun _ _ _ h=>h
 case hytellOne10=>(refine Or.inl ⟨by rfl,?_⟩;intro w hSw;(try dsimp only at hSw);go_simp<;>with_reducible rfl)
 try simp only[Act.put,List.setIfInBounds_toArray,List.set_cons_zero,List.set_cons_succ]
 refine wpAnyH_take (i:=10) (oi:= ?oitellOne11) (v:= ?vtellOne11) ?hoptellOne11 ?hstellOne11 ?hftellOne11 ?hrtellOne11 ?hQtellOne11 ?hytellOne11 (by assumption) ?resttellOne11
 case hoptellOne11=>(simp only[List.getElem?_toArray,List.getElem?_cons_zero,List.getElem?_cons_succ];rfl)
 case hstellOne11=>kernel_rfl
 case hftellOne11=>kernel_rfl
 case hrtellOne11=>kernel_rfl
 case hQtellOne11=>exact fun _ _ _ h=>h
 case hytellOne11=>(refine Or.inl ⟨by rfl,?_⟩;intro w hSw;(try dsimp only at hSw);go_simp<;>with_reducible rfl)
 try simp only[Act.put,List.setIfInBounds_toArray,List.set_cons_zero,List.set_cons_succ]
 refine wpAnyH_take (i:=11) (oi:= ?oitellOne12) (v:= ?vtellOne12) ?hoptellOne12 ?hstellOne12 ?hftellOne12 ?hrtellOne12 ?hQtellOne12 ?hytellOne12 (by assumption) ?resttellOne12
 case hoptellOne12=>(simp only[List.getElem?_toArray,List.getElem?_cons_zero,List.getElem?_cons_succ];rfl)
 case hstellOne12=>kernel_rfl
 case hftellOne12=>kernel_rfl
 case hrtellOne12=>kernel_rfl
 case hQtellOne12=>exact fun _ _ _ h=>h
 case hytellOne12=>(refine Or.inl ⟨by rfl,?_⟩;intro w hSw;(try dsimp only at hSw);go_simp<;>with_reducible rfl)
 try simp only[Act.put,List.setIfInBounds_toArray,List.set_cons_zero,List.set_cons_succ]
 refine wpAnyH_done (by kernel_rfl) ?_ _
 refine NoPanic.normal ?_
 go_wp2
 go_ret2
 exact ⟨L,C,k,rfl,hfin.out.1,hfin.out.2.1,hfin.out.2.2⟩
end Go.Proofs.YtkadjjmkokhldaaGreat

namespace Go.Proofs.YtkadjjmkokhldaaGreat

theorem tot_cons {l m:List Zit} {x:Zit} (hx:x.2≠0) (hlt:∀y∈m,cmpL x.1 y.1<0) (hw:∀r,wt l r=(if x.1=r then x.2 else 0)+wt m r):totL l=x::totL m:=by
 refine (totL_is l).uniq (m:=l) (T:=x::totL m) ⟨?_,?_,?_⟩ (fun _=>rfl)
 ·unfold Rise
  rw[List.pairwise_cons]
  exact ⟨fun y hy=>by
   obtain ⟨z,hz,e⟩:=(totL_is m).row hy
   rw[←e];exact hlt z hz,(totL_is m).rise⟩
 ·intro y hy
  rcases List.mem_cons.1 hy with e|e
  ·rw[e];exact hx
  ·exact (totL_is m).noz y e
 ·intro r
  show (if x.1=r then x.2 else 0)+wt (totL m) r=_
  rw[(totL_is m).same,hw]
/-- What is to be added to b to have a. -/
def difL (a b:List Zit):List Zit:=totL (a++negP b)
theorem wt_dif (a b:List Zit) (r:List Int):wt (a++negP b) r=wt a r-wt b r:=by
 rw[wt_append]
 have:=wt_neg b r
 unfold negP
 omega
theorem mem_neg {b:List Zit} {z:Zit} (h:z∈negP b):∃y∈b,y.1=z.1:=by
 obtain ⟨y,hy,rfl⟩:=List.mem_map.1 h
 exact ⟨y,hy,rfl⟩
theorem dif_nil:difL [] []=[]:=rfl
/-- The first of a is ahead. -/
theorem dif_lt {x:Zit} {t b:List Zit} (ha:Rise (x::t)) (hx:x.2≠0) (hb:∀y∈b,cmpL x.1 y.1<0):difL (x::t) b=x::difL t b:=by
 refine tot_cons hx (fun z hz=> ?_) (fun r=> ?_)
 ·rcases List.mem_append.1 hz with e|e
  ·exact (List.pairwise_cons.1 ha).1 z e
  ·obtain ⟨y,hy,e2⟩:=mem_neg e
   rw[←e2];exact hb y hy
 ·rw[wt_dif,wt_dif]
  simp only[wt]
  omega
/-- The first of b is ahead. -/
theorem dif_gt {y:Zit} {a u:List Zit} (hb:Rise (y::u)) (hy:y.2≠0) (ha:∀x∈a,cmpL y.1 x.1<0):difL a (y::u)=(y.1,-y.2)::difL a u:=by
 refine tot_cons (x:=(y.1,-y.2)) (by show -y.2≠0;omega) (fun z hz=> ?_) (fun r=> ?_)
 ·rcases List.mem_append.1 hz with e|e
  ·exact ha z e
  ·obtain ⟨v,hv,e2⟩:=mem_neg e
   rw[←e2];exact (List.pairwise_cons.1 hb).1 v hv
 ·rw[wt_dif,wt_dif]
  simp only[wt]
  by_cases e:y.1=r
  ·simp only[if_pos e];omega
  ·simp only[if_neg e];omega
/-- Both begin with one row. -/
theorem dif_eq {x y:Zit} {t u:List Zit} (ha:Rise (x::t)) (hb:Rise (y::u)) (h:x.1=y.1):difL (x::t) (y::u)=if x.2-y.2=0 then difL t u else (y.1,x.2-y.2)::difL t u:=by
 have hw:∀r,wt ((x::t)++negP (y::u)) r=(if y.1=r then x.2-y.2 else 0)+wt (t++negP u) r:=fun r=>by
  rw[wt_dif,wt_dif]
  simp only[wt,h]
  by_cases e:y.1=r
  ·rw[if_pos e,if_pos e];simp only[if_pos e];omega
  ·rw[if_neg e,if_neg e];simp only[if_neg e];omega
 by_cases h0:x.2-y.2=0
 ·rw[if_pos h0]
  refine totL_same fun r=> ?_
  rw[hw r,h0]
  by_cases e:y.1=r
  ·rw[if_pos e];omega
  ·rw[if_neg e];omega
 ·rw[if_neg h0]
  refine tot_cons (x:=(y.1,x.2-y.2)) h0 (fun z hz=> ?_) hw
  rcases List.mem_append.1 hz with e|e
  ·show cmpL y.1 z.1<0
   rw[←h];exact (List.pairwise_cons.1 ha).1 z e
  ·obtain ⟨v,hv,e2⟩:=mem_neg e
   rw[←e2];exact (List.pairwise_cons.1 hb).1 v hv
theorem tot_self {a:List Zit} (ha:errZ a=0):totL a=a:=by
 have h:=(errZ_iff a).1 ha
 exact (totL_is _).uniq (⟨h.2.2,okZ_noz h.2.1,fun _=>rfl⟩:IsTot a a) fun _=>rfl
/-- What is wrong with the sets of both tables. -/
def tblE (a b:List Zit):Int:=if errZ a=0 then (if errZ b=0 then (if (a++b).all (fun x=>decide (x.1.length=4))=true then 0 else 5) else errZ b) else errZ a
theorem ahd_tbl (q:List Stp) (a b:List Zit):ahdE q a b=if errQ q=0 then tblE a b else errQ q:=rfl
theorem tblE_ok {a b:List Zit} (h1:errZ a=0) (h2:errZ b=0) (h3:Wide 4 a) (h4:Wide 4 b):tblE a b=0:=by
 unfold tblE
 rw[if_pos h1,if_pos h2,if_pos]
 rw[List.all_eq_true]
 intro x hx
 rcases List.mem_append.1 hx with e|e
 ·exact decide_eq_true (by have:=h3 x e;omega)
 ·exact decide_eq_true (by have:=h4 x e;omega)
/-- What Feed's error is: the query q, the tables s and t, what comes a and b. -/
def fedE (q:List Stp) (s t a b:List Zit):Int:=if tblE a b=0 then (if addE s a=0 then (if addE t b=0 then plnE q (addL s a) (addL t b) else addE t b) else addE s a) else tblE a b
theorem fedE_parts {q:List Stp} {s t a b:List Zit} (h:fedE q s t a b=0):tblE a b=0∧addE s a=0∧addE t b=0∧plnE q (addL s a) (addL t b)=0:=by
 unfold fedE at h
 by_cases h1:tblE a b=0
 ·rw[if_pos h1] at h
  by_cases h2:addE s a=0
  ·rw[if_pos h2] at h
   by_cases h3:addE t b=0
   ·rw[if_pos h3] at h;exact ⟨h1,h2,h3,h⟩
   ·rw[if_neg h3] at h;exact absurd h h3
  ·rw[if_neg h2] at h;exact absurd h h2
 ·rw[if_neg h1] at h;exact absurd h h1
/-- A step, but for where its list lies. -/
def bare (s:Stp):Stp:={ s with p:=none,n:=0 }
theorem wid_bare (s:Stp) (ah:List Int):widW (bare s) ah=widW s ah:=rfl
theorem wids_bare:∀(q:List Stp) (ah:List Int),widsF (q.map bare) ah=widsF q ah
 | [],_=>rfl
 | s::q,ah=>by
  show (if widW (bare s) ah=0 then none else widsF (q.map bare) (ah++[widW (bare s) ah]))=_
  rw[wid_bare,wids_bare q]
  rfl
theorem errQ_bare (q:List Stp):errQ (q.map bare)=errQ q:=by
 unfold errQ
 rw[List.length_map,wids_bare]
theorem tellE_bare (s:Stp) (a b:List Zit) (S:List (List Zit)):tellE (bare s) a b S=tellE s a b S:=rfl
theorem tellF_bare (s:Stp) (a b:List Zit) (S:List (List Zit)):tellF (bare s) a b S=tellF s a b S:=rfl
theorem allE_bare (a b:List Zit):∀(q:List Stp) (S:List (List Zit)),allE a b (q.map bare) S=allE a b q S
 | [],_=>rfl
 | s::q,S=>by
  show (if tellE (bare s) a b S=0 then allE a b (q.map bare) (S++[tellF (bare s) a b S]) else tellE (bare s) a b S)=_
  rw[tellE_bare,tellF_bare,allE_bare a b q]
  rfl
theorem allF_bare (a b:List Zit):∀(q:List Stp) (S:List (List Zit)),allF a b (q.map bare) S=allF a b q S
 | [],_=>rfl
 | s::q,S=>by
  show (if tellE (bare s) a b S=0 then allF a b (q.map bare) (S++[tellF (bare s) a b S]) else [])=_
  rw[tellE_bare,tellF_bare,allF_bare a b q]
  rfl
theorem plnE_bare (q:List Stp) (a b:List Zit):plnE (q.map bare) a b=plnE q a b:=by
 unfold plnE
 rw[ahd_tbl,ahd_tbl,errQ_bare,allE_bare]
theorem evlF_bare (q:List Stp) (a b:List Zit):evlF (q.map bare) a b=evlF q a b:=by
 unfold evlF plnF
 rw[plnE_bare,allF_bare,List.length_map]
theorem same_plnE {q r:List Stp} (h:q.map bare=r.map bare) (a b:List Zit):plnE q a b=plnE r a b:=by rw[←plnE_bare q,h,plnE_bare]
theorem same_evlF {q r:List Stp} (h:q.map bare=r.map bare) (a b:List Zit):evlF q a b=evlF r a b:=by rw[←evlF_bare q,h,evlF_bare]
end Go.Proofs.YtkadjjmkokhldaaGreat
