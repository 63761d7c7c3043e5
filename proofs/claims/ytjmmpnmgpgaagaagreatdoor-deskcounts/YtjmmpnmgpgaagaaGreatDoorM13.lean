import Derived.Test.YtjmmpnmgpgaagaaGreatDoorM12
import Derived.Test.YtjmmpnmgpgaagaaGreatDoorM11
set_option maxRecDepth 100000
set_option maxHeartbeats 8000000
open Go renaming World → I, Value → S, Addr → J, Calls → d
open Go.Ending renaming returned → D
open Go.IntKind renaming i64 → H
open Go.Obj renaming cells → K
open Go.Proofs.Tryz renaming prog → Q
open Go.RowKit renaming Hid → Z, Below → s
open Go.Value renaming slice → O, int → U, tuple → t, pointer → ia, agg → ib
namespace Go.Proofs.YtjmmpnmgpgaagaaGreatDoor

end Go.Proofs.YtjmmpnmgpgaagaaGreatDoor

namespace Go.Proofs.YtjmmpnmgpgaagaaGreatDoor
open Go.RowKit Go.Sort Go.Maps

theorem rL (q:List Stp) (a b:List Zit):aq (ei q a b)=0:=by
 by_cases h:bM q a b=0
 ·exact wU h
 ·rw[tO h];decide
structure Vo (w:I) (V o:Nat) (P:Nat->Prop) (q:List Stp) (QA:Option J) (cq:Nat) (a:List Itm) (A:Option J) (ca:Nat) (b:List Itm) (B:Option J) (cb:Nat):Prop where
 lt:V<w.heap.size
 fz:∀j,w.frozen? ⟨V,j,none⟩=false
 c0:w.cell? ⟨V,o,none⟩=some (O QA q.length cq)
 c1:w.cell? ⟨V,o+1,none⟩=some (O A a.length ca)
 c2:w.cell? ⟨V,o+2,none⟩=some (O B b.length cb)
 st:StP P w QA q
 len:q.length<=8
 la:LvP P w A ca a
 lb:LvP P w B cb b
theorem Vo.below {w w':I} {V o:Nat} {P:Nat->Prop} {q:List Stp} {QA:Option J} {cq:Nat} {a:List Itm} {A:Option J} {ca:Nat} {b:List Itm} {B:Option J} {cb:Nat} (h:Vo w V o P q QA cq a A ca b B cb) (k:s w.heap.size w w'):Vo w' V o P q QA cq a A ca b B cb :=
 ⟨nL h.lt k.size,fun j=>(k.frozen (p:=⟨V,j,none⟩) h.lt).trans (h.fz j),(k.cell (p:=⟨V,o,none⟩) h.lt).trans h.c0,(k.cell (p:=⟨V,o+1,none⟩) h.lt).trans h.c1,(k.cell (p:=⟨V,o+2,none⟩) h.lt).trans h.c2,h.st.below k,h.len,h.la.below k,h.lb.below k⟩
theorem Vo.gr {w w':I} {V o:Nat} {P:Nat->Prop} {q:List Stp} {QA:Option J} {cq:Nat} {a:List Itm} {A:Option J} {ca:Nat} {b:List Itm} {B:Option J} {cb:Nat} (h:Vo w V o P q QA cq a A ca b B cb) (k:Gr w w'):Vo w' V o P q QA cq a A ca b B cb:=h.below k.below

theorem BL (q:List Stp) (QA:Option J) (cq:Nat) (w:I) (r:q.length<=maxLen) (u:Stps w QA q) (j:¬bu q=0) :
  d Q 134 #[O QA q.length cq] w fun e w'=>e= D (t #[ia none,U H (bu q)])/\s w.heap.size w w':=by
 have f:=qw (A:=QA) (ca:=cq) rfl r u
 obtain ⟨E,n⟩:∃E,bu q=E:=⟨_,rfl⟩
 rw[n] at f j ⊢
 have C:(E != 0)=true:=by simpa using j
 have k:Z _:=f
 clear f u r j n
 go_enter Tryz.func134,Tryz.ntmps134
 go_wp2_with fail
 refine ja0 k ?_
 rintro e w1 ⟨rfl,g⟩
 have h:=ja1 g
 clear g k
 go_wp2
 go_ret2
 exact ⟨rfl,h.out⟩

theorem Ds (q:List Stp) (QA:Option J) (cq:Nat) (w:I) (hl:q.length<=maxLen) (hq:Stps w QA q) (he:bu q=0) :
  d Q 134 #[O QA q.length cq] w fun e w'=>∃(V:Nat) (g:List Stp) (QB:Option J) (cr:Nat),e= D (t #[ia (some ⟨V,0,none⟩),U H 0])/\g.map bare=q.map bare/\Vo w' V 0 (fun b=>w.heap.size<=b/\b<V) g QB cr [] none 0 [] none 0/\w.heap.size<=V/\s w.heap.size w w':=by
 have u:=qw (A:=QA) (ca:=cq) he hl hq
 have hC:Z _:=u
 have hs:=tM he
 have R:=ja3 hq hs.1 hs.2
 clear u hq hl he hs
 go_enter Tryz.func134,Tryz.ntmps134
 go_wp2_with fail
 refine ja0 hC ?_
 rintro e w1 ⟨rfl,h⟩
 have E:=wE q QA cq w1 R.out.2.1 R.out.2.2 (R.out.1.below h)
 have hD:Z _:=E
 have n:=ja1 h
 clear h hC E
 go_wp2_with fail
 refine ja0 hD ?_
 rintro e f ⟨g,C,k,rfl,h1,h2,h3,h4,h5⟩
 have F:Z (g.map bare=q.map bare/\Vo (f.alloc (K #[O C g.length k,O none 0 0,O none 0 0] 62)) f.heap.size 0 (fun b=>w.heap.size<=b/\b<f.heap.size) g C k [] none 0 [] none 0/\w.heap.size<=f.heap.size/\s w.heap.size w (f.alloc (K #[O C g.length k,O none 0 0,O none 0 0] 62))):=by
  have hg:Gr f (f.alloc (K #[O C g.length k,O none 0 0,O none 0 0] 62)):=(gR _).alloc _
  have r:=n.out.trans (h5.mono n.out.size)
  have L:g.length=q.length:=by have:=congrArg List.length h1;simpa using this
  refine ⟨h1,⟨by simp,fun j=>f9 (w:=f) (gR _) j,aa (w:=f) (gR _) rfl,aa (w:=f) (gR _) rfl,aa (w:=f) (gR _) rfl,((StP.new h2 h4).mono fun b hb=>⟨nT n.out.size hb.1,hb.2⟩).below hg.below,by rw[L];exact R.out.2.1,LvP.none _ _,LvP.none _ _⟩,r.size,r.trans (hg.below.mono r.size)⟩
 clear h1 h2 h3 h4 h5 hD
 go_wp2
 go_ret2
 exact ⟨f.heap.size,g,C,k,rfl,F.out⟩

theorem rq (w:I) (V o:Nat) (P:Nat->Prop) (q:List Stp) (QA:Option J) (cq:Nat) (a:List Itm) (A:Option J) (ca:Nat) (b:List Itm) (B:Option J) (cb:Nat) (h:Vo w V o P q QA cq a A ca b B cb) :
  d Q 161 #[ia (some ⟨V,o,none⟩)] w fun e w'=>∃(L:List Itm) (C:Option J) (k:Nat),e= D (O C L.length k)/\L.map Itm.z=ei q (a.map Itm.z) (b.map Itm.z)/\Lv w' C k L/\s w.heap.size w w'/\NwT w' k w.heap.size C L:=by
 have r:Tryz.prog.follows .mixedOrders=true:=by kernel_rfl
 have n:=h.len
 have g:Z (∀W,Gr w W->d Q 187 #[O QA q.length cq,O A a.length ca,O B b.length cb] W fun e w'=>∃(L:List Itm) (C:Option J) (k:Nat),e= D (t #[O C L.length k,U H (bM q (a.map Itm.z) (b.map Itm.z))])/\L.map Itm.z=ei q (a.map Itm.z) (b.map Itm.z)/\Lv w' C k L/\s W.heap.size W w'/\NwT w' k W.heap.size C L):=fun W j=>nf q QA cq a b A B ca cb W (by unfold maxLen;omega) (h.st.st.gr j) (h.la.lv.gr j) (h.lb.lv.gr j)
 have c0:=h.c0
 have c1:=h.c1
 have c2:=h.c2
 clear h n
 go_enter Tryz.func161,Tryz.ntmps161
 go_wp2
 go_region_with (go_at_call 187;refine cM (g.out _ (gR w).drew) ?_;rintro e w1 ⟨L,C,k,rfl,u,E,F,R⟩)
 all_goals
  have f:=ja4 u E ((gR w).drew.below.trans F) R
  clear u E F R
  go_wp2
  go_ret
  exact ⟨L,C,k,rfl,f.out⟩

theorem Vo.tabs {w w':I} {V o:Nat} {P P':Nat->Prop} {q:List Stp} {QA:Option J} {cq:Nat} {a r:List Itm} {A k:Option J} {ca f:Nat} {b C:List Itm} {B n:Option J} {cb g:Nat} (h:Vo w V o P q QA cq a A ca b B cb) (ha:LvP P' w k f r) (hb:LvP P' w n g C) (hw:(w.setCell ⟨V,o+1,none⟩ (O k r.length f)).setCell ⟨V,o+2,none⟩ (O n C.length g)=w') (F:∀b,P b->P' b) (R:¬P' V) :
  Vo w' V o P' q QA cq r k f C n g/\Wr V (o+1) (o+3) w w':=by
 subst hw
 have L:Wr V (o+1) (o+3) w ((w.setCell ⟨V,o+1,none⟩ (O k r.length f)).setCell ⟨V,o+2,none⟩ (O n C.length g)):=(Wr.set w _ (by omega) (by omega)).trans (Wr.set _ _ (by omega) (by omega))
 have E:=L.agr R
 refine ⟨⟨by simpa using h.lt,fun j=>by simpa using h.fz j,?_,?_,?_,(h.st.mono F).agr E,h.len,ha.agr E,hb.agr E⟩,L⟩
 ·rw[cG (by omega),cG (by omega)];exact h.c0
 ·rw[cG (by omega)];exact World.cell?_setCell_same _ _ _ h.c1
 ·exact World.cell?_setCell_same _ _ _ (u:= O B b.length cb) (by rw[cG (by omega)];exact h.c2)

theorem zs (w:I) (V o:Nat) (P:Nat->Prop) (q:List Stp) (QA:Option J) (cq:Nat) (a:List Itm) (A:Option J) (ca:Nat) (b:List Itm) (B:Option J) (cb:Nat) (h:Vo w V o P q QA cq a A ca b B cb) (x y:List Itm) (X Y:Option J) (cx cy:Nat) (hx:Lv w X cx x) (hy:Lv w Y cy y) (he:¬jC q (a.map Itm.z) (b.map Itm.z) (x.map Itm.z) (y.map Itm.z)=0) :
  d Q 171 #[ia (some ⟨V,o,none⟩),O X x.length cx,O Y y.length cy] w fun e w'=>∃E,e= D (t #[O none 0 0,U H E])/\E=jC q (a.map Itm.z) (b.map Itm.z) (x.map Itm.z) (y.map Itm.z)/\s w.heap.size w w':=by
 obtain ⟨E1,ah⟩:∃E,iq (x.map Itm.z) (y.map Itm.z)=E:=⟨_,rfl⟩
 have ad:=km x y X Y cx cy w hx hy
 rw[ah] at ad
 have hC:Z _:=ad
 have hH:=ja5 h hx hy ah he
 have hU:Z (∀E,jC q (a.map Itm.z) (b.map Itm.z) (x.map Itm.z) (y.map Itm.z)=E->True):=fun _ _=>trivial
 obtain ⟨F,hF⟩:∃F,jC q (a.map Itm.z) (b.map Itm.z) (x.map Itm.z) (y.map Itm.z)=F:=⟨_,rfl⟩
 have C:=ja1 hF
 rw[hF]
 clear ad h hx hy ah he hF hU
 go_enter Tryz.func171,Tryz.ntmps171
 go_wp2_with fail
 refine ja0 hC ?_
 rintro e w1 ⟨rfl,L⟩
 have k:=ja4 (hH.out.1.gr L) (hH.out.2.1.gr L) (hH.out.2.2.1.gr L) L.below
 clear hC L
 cases h1:(E1 != 0)
 rotate_left
 focus
  have f:Z (E1=F):=by
   have hn:¬iq (x.map Itm.z) (y.map Itm.z)=0:=by rw[hH.out.2.2.2.1];simpa using h1
   show _=_;rw[<-C.out];unfold jC;rw[if_neg hn];exact hH.out.2.2.2.1.symm
  go_wp2
  go_ret2
  exact ⟨E1,rfl,f.out,k.out.2.2.2⟩
 have ap:Z (iq (x.map Itm.z) (y.map Itm.z)=0):=by show _=_;rw[hH.out.2.2.2.1];simpa using h1
 have c1:=k.out.1.c1
 obtain ⟨E2,an⟩:∃E,aY (a.map Itm.z) (x.map Itm.z)=E:=⟨_,rfl⟩
 have n:=DK k.out.1.la.lv k.out.2.1 rfl rfl
 rw[an] at n
 have hA:Z _:=n
 have r:=ja1 an
 clear n an
 go_wp2_with fail
 refine ja0 hA ?_
 rintro e w2 ⟨a6,PA,pc,rfl,p1,p2,p3⟩
 have g:=ja5 (k.out.1.below p3) (k.out.2.2.1.below p3) (k.out.2.2.2.trans (p3.mono k.out.2.2.2.size)) p2 p1
 clear hA p1 p2 p3 c1 k
 cases h2:(E2 != 0)
 rotate_left
 focus
  have f:Z (E2=F):=by
   have hn:¬aY (a.map Itm.z) (x.map Itm.z)=0:=by rw[r.out];simpa using h2
   show _=_;rw[<-C.out];unfold jC;rw[if_pos ap.out,if_neg hn];exact r.out.symm
  go_wp2
  go_ret2
  exact ⟨E2,rfl,f.out,g.out.2.2.1⟩
 have a1:Z (aY (a.map Itm.z) (x.map Itm.z)=0):=by show _=_;rw[r.out];simpa using h2
 have c2:=g.out.1.c2
 obtain ⟨E3,ao⟩:∃E,aY (b.map Itm.z) (y.map Itm.z)=E:=⟨_,rfl⟩
 have n:=DK g.out.1.lb.lv g.out.2.1 rfl rfl
 rw[ao] at n
 have hA:Z _:=n
 have u:=ja1 ao
 clear n ao
 go_wp2_with fail
 refine ja0 hA ?_
 rintro e w3 ⟨R,RA,rc,rfl,p1,p2,p3⟩
 have j:=ja6 (g.out.1.below p3) (g.out.2.2.1.trans (p3.mono g.out.2.2.1.size)) (g.out.2.2.2.1.below p3) g.out.2.2.2.2 p2 p1
 clear hA p1 p2 p3 c2 g
 cases h3:(E3 != 0)
 rotate_left
 focus
  have f:Z (E3=F):=by
   have hn:¬aY (b.map Itm.z) (y.map Itm.z)=0:=by rw[u.out];simpa using h3
   show _=_;rw[<-C.out];unfold jC;rw[if_pos ap.out,if_pos a1.out,if_neg hn];exact u.out.symm
  go_wp2
  go_ret2
  exact ⟨E3,rfl,f.out,j.out.2.1⟩
 have a3:Z (aY (b.map Itm.z) (y.map Itm.z)=0):=by show _=_;rw[u.out];simpa using h3
 have c0:=j.out.1.c0
 have a4:=j.out.1.len
 have a0:=zr q QA cq a6 R PA RA pc rc w3 (by unfold maxLen;omega) j.out.1.st.st j.out.2.2.1 j.out.2.2.2.2.1
 have a2:Z (bM q (a6.map Itm.z) (R.map Itm.z)=F):=by
  show _=_
  rw[j.out.2.2.2.1,j.out.2.2.2.2.2,<-C.out]
  unfold jC
  rw[if_pos ap.out,if_pos a1.out,if_pos a3.out]
 rw[a2.out] at a0
 have hV:Z _:=a0
 have a5:(F != 0)=true:=by have:=hH.out.2.2.2.2;rw[C.out] at this;simpa using this
 clear a0 a4
 go_wp2_with fail
 refine ja0 hV ?_
 rintro e w4 ⟨N,NA,nc,rfl,n1,n2,n3⟩
 have f:=ja1 (j.out.2.1.trans (n3.mono j.out.2.1.size))
 clear hV n1 n2 n3 c0
 go_wp2
 go_ret2
 exact ⟨F,rfl,rfl,f.out⟩

theorem Bw (w:I) (V o:Nat) (P:Nat->Prop) (q:List Stp) (QA:Option J) (cq:Nat) (a:List Itm) (A:Option J) (ca:Nat) (b:List Itm) (B:Option J) (cb:Nat) (h:Vo w V o P q QA cq a A ca b B cb) (hV:¬P V) (x y:List Itm) (X Y:Option J) (cx cy:Nat) (hx:Lv w X cx x) (hy:Lv w Y cy y) (he:jC q (a.map Itm.z) (b.map Itm.z) (x.map Itm.z) (y.map Itm.z)=0) :
  d Q 171 #[ia (some ⟨V,o,none⟩),O X x.length cx,O Y y.length cy] w fun e w'=>∃(n:Nat) (C:Option J) (k:Nat) (a':List Itm) (A':Option J) (a9:Nat) (b':List Itm) (B':Option J) (ba:Nat),e= D (t #[O C n k,U H 0])/\a'.map Itm.z=bw (a.map Itm.z) (x.map Itm.z)/\b'.map Itm.z=bw (b.map Itm.z) (y.map Itm.z)/\Vo w' V o (af P w.heap.size w'.heap.size) q QA cq a' A' a9 b' B' ba/\Wr V (o+1) (o+3) w w':=by
 obtain ⟨f1,f2,f3,f4⟩:=tQ he
 have a0:=km x y X Y cx cy w hx hy
 rw[f1] at a0
 have hC:Z _:=a0
 have hH:=ja3 h hx hy
 have hF:=ja3 f2 f3 f4
 have bb:=ja1 hV
 clear a0 h hx hy he f1 f2 f3 f4 hV
 go_enter Tryz.func171,Tryz.ntmps171
 go_wp2_with fail
 refine ja0 hC ?_
 rintro e w1 ⟨rfl,ao⟩
 have u:=ja4 (hH.out.1.gr ao) (hH.out.2.1.gr ao) (hH.out.2.2.gr ao) ao.below
 clear hC ao
 have c1:=u.out.1.c1
 have ad:=rm u.out.1.la.lv u.out.2.1 rfl rfl
 rw[hF.out.1] at ad
 have hA:Z _:=ad
 clear ad
 go_wp2_with fail
 refine ja0 hA ?_
 rintro e w2 ⟨be,PA,pc,rfl,p1,p2,p3,p4⟩
 have r:=ja5 (u.out.1.below p3) (u.out.2.2.1.below p3) (u.out.2.2.2.trans (p3.mono u.out.2.2.2.size)) ((LvP.new p2 (p4.new.mono u.out.2.2.2.size))) p1
 clear hA p1 p2 p3 p4 c1 u
 have c2:=r.out.1.c2
 have ad:=rm r.out.1.lb.lv r.out.2.1 rfl rfl
 rw[hF.out.2.1] at ad
 have hA:Z _:=ad
 clear ad
 go_wp2_with fail
 refine ja0 hA ?_
 rintro e w3 ⟨R,RA,rc,rfl,p1,p2,p3,p4⟩
 have f:Z (Vo w3 V o P q QA cq a A ca b B cb/\s w.heap.size w w3/\LvP (fun b=>w.heap.size<=b/\b<w3.heap.size) w3 PA pc be/\be.map Itm.z=bw (a.map Itm.z) (x.map Itm.z)/\LvP (fun b=>w.heap.size<=b/\b<w3.heap.size) w3 RA rc R/\R.map Itm.z=bw (b.map Itm.z) (y.map Itm.z)):=⟨r.out.1.below p3,r.out.2.2.1.trans (p3.mono r.out.2.2.1.size),(r.out.2.2.2.1.below p3).mono fun b E=>⟨E.1,nL E.2 p3.size⟩,r.out.2.2.2.2,LvP.new p2 (p4.new.mono r.out.2.2.1.size),p1⟩
 clear hA p1 p2 p3 p4 c2 r
 have c0:=f.out.1.c0
 have bd:=f.out.1.len
 have a1:=nf q QA cq be R PA RA pc rc w3 (by unfold maxLen;omega) f.out.1.st.st f.out.2.2.1.lv f.out.2.2.2.2.1.lv
 have a5:bM q (be.map Itm.z) (R.map Itm.z)=0:=by rw[f.out.2.2.2.1,f.out.2.2.2.2.2];exact hF.out.2.2
 rw[a5] at a1
 have hV:Z _:=a1
 clear a1 bd a5
 go_wp2_with fail
 refine ja0 hV ?_
 rintro e w4 ⟨N,NA,nc,rfl,n1,n2,n3,n4⟩
 have j:Z (Vo w4 V o P q QA cq a A ca b B cb/\s w.heap.size w w4/\LvP (fun b=>w.heap.size<=b/\b<w4.heap.size) w4 PA pc be/\be.map Itm.z=bw (a.map Itm.z) (x.map Itm.z)/\LvP (fun b=>w.heap.size<=b/\b<w4.heap.size) w4 RA rc R/\R.map Itm.z=bw (b.map Itm.z) (y.map Itm.z)/\LvP (fun b=>w.heap.size<=b/\b<w4.heap.size) w4 NA nc N/\N.map Itm.z=ei q (be.map Itm.z) (R.map Itm.z)):=⟨f.out.1.below n3,f.out.2.1.trans (n3.mono f.out.2.1.size),(f.out.2.2.1.below n3).mono fun b E=>⟨E.1,nL E.2 n3.size⟩,f.out.2.2.2.1,(f.out.2.2.2.2.1.below n3).mono fun b E=>⟨E.1,nL E.2 n3.size⟩,f.out.2.2.2.2.2,LvP.new n2 (n4.new.mono f.out.2.1.size),n1⟩
 clear hV n1 n2 n3 n4 c0 f
 have a4:=rq w4 V o P q QA cq a A ca b B cb j.out.1
 have hO:Z _:=a4
 clear a4
 go_wp2_with fail
 refine ja0 hO ?_
 rintro e F ⟨M,MA,mc,rfl,m1,m2,m3,m4⟩
 have g:Z (Vo F V o P q QA cq a A ca b B cb/\s w.heap.size w F/\LvP (af P w.heap.size F.heap.size) F PA pc be/\be.map Itm.z=bw (a.map Itm.z) (x.map Itm.z)/\LvP (af P w.heap.size F.heap.size) F RA rc R/\R.map Itm.z=bw (b.map Itm.z) (y.map Itm.z)/\LvP (fun b=>w.heap.size<=b/\b<F.heap.size) F NA nc N/\N.map Itm.z=ei q (be.map Itm.z) (R.map Itm.z)/\LvP (fun b=>w.heap.size<=b/\b<F.heap.size) F MA mc M/\M.map Itm.z=ei q (a.map Itm.z) (b.map Itm.z)):=⟨j.out.1.below m3,j.out.2.1.trans (m3.mono j.out.2.1.size),(j.out.2.2.1.below m3).mono fun b E=>af.new (nR _) m3.size b E,j.out.2.2.2.1,(j.out.2.2.2.2.1.below m3).mono fun b E=>af.new (nR _) m3.size b E,j.out.2.2.2.2.2.1,(j.out.2.2.2.2.2.2.1.below m3).mono fun b E=>⟨E.1,nL E.2 m3.size⟩,j.out.2.2.2.2.2.2.2,LvP.new m2 (m4.new.mono j.out.2.1.size),m1⟩
 clear hO m1 m2 m3 m4 j
 have c1:=g.out.1.c1
 have c2:=g.out.1.c2
 have z1:=g.out.1.fz (o+1)
 have z2:=g.out.1.fz (o+2)
 obtain ⟨w6,a2⟩:∃W,(F.setCell ⟨V,o+1,none⟩ (O PA be.length pc)).setCell ⟨V,o+2,none⟩ (O RA R.length rc)=W:=⟨_,rfl⟩
 have an:V<w.heap.size:=hH.out.1.lt
 have a6:¬af P w.heap.size F.heap.size V:=fun k=>k.elim bb.out fun k=>by omega
 have hS:=Vo.tabs g.out.1 g.out.2.2.1 g.out.2.2.2.2.1 a2 (fun b E=>af.old b E) a6
 have ap:w6.heap.size=F.heap.size:=by rw[<-a2];simp
 have ah:Z (Vo w6 V o (af P w.heap.size F.heap.size) q QA cq be PA pc R RA rc/\Wr V (o+1) (o+3) w w6/\Lv w6 NA nc N/\Lv w6 MA mc M/\w6.heap.size=F.heap.size):=by
  have E:=g.out.2.1
  have a7:Agr (fun b=>w.heap.size<=b/\b<F.heap.size) F w6:=hS.2.agr fun k=>by omega
  exact ⟨hS.1,(Wr.of E an).trans hS.2,(g.out.2.2.2.2.2.2.1.agr a7).lv,(g.out.2.2.2.2.2.2.2.2.1.agr a7).lv,ap⟩
 have a3:=yZ N M NA MA nc mc w6 ah.out.2.2.1.items ah.out.2.2.2.1.items ah.out.2.2.1.nilc.cap ah.out.2.2.2.1.nilc.cap (by rw[g.out.2.2.2.2.2.2.2.1];exact rL _ _ _) (by rw[g.out.2.2.2.2.2.2.2.2.2];exact rL _ _ _)
 have hD:Z _:=a3
 have bc:=ja1 an
 clear hS a3 a6 ap an
 go_wp2_with fail
 clear a2 c1 c2 z1 z2
 refine ja0 hD ?_
 rintro e w7 ⟨L,C,k,rfl,d1,d2,d3,d4,d5⟩
 have a8:Z (be.map Itm.z=bw (a.map Itm.z) (x.map Itm.z)/\R.map Itm.z=bw (b.map Itm.z) (y.map Itm.z)/\Vo w7 V o (af P w.heap.size w7.heap.size) q QA cq be PA pc R RA rc/\Wr V (o+1) (o+3) w w7):=by
  have hg:=ah.out.2.1
  have h7:=ah.out.1.below d5
  have hm:∀b,af P w.heap.size F.heap.size b->af P w.heap.size w7.heap.size b:=af.more (nR _) (by rw[<-ah.out.2.2.2.2];exact d5.size)
  exact ⟨g.out.2.2.2.1,g.out.2.2.2.2.2.1,⟨h7.lt,h7.fz,h7.c0,h7.c1,h7.c2,h7.st.mono hm,h7.len,h7.la.mono hm,h7.lb.mono hm⟩,hg.trans (Wr.of d5 (nL bc.out hg.size))⟩
 clear d1 d2 d3 d4 d5 hD
 go_wp2
 go_ret2
 exact ⟨_,C,k,be,PA,pc,R,RA,rc,rfl,a8.out⟩

def Cls (w:I) (B:Nat) (l:List S):Prop:=∃T,w.heap[B]? = some (K l.toArray T (0,0))
theorem Cls.new (w:I) (C:Array S) (T:TypeId):Cls (w.alloc (K C T)) w.heap.size C.toList:=by
 refine ⟨T,?_⟩
 show (w.heap.push _)[w.heap.size]? = _
 rw[Array.getElem?_push_size,Array.toArray_toList]
theorem Cls.lt {w:I} {B:Nat} {l:List S} (h:Cls w B l):B<w.heap.size:=by
 obtain ⟨f,h⟩:=h
 exact (Array.getElem?_eq_some_iff.1 h).1
theorem Cls.cell {w:I} {B:Nat} {l:List S} (h:Cls w B l) {j:Nat} {v:S} (f:l[j]? = some v):w.cell? ⟨B,j,none⟩=some v:=by
 obtain ⟨g,h⟩:=h
 simp[World.cell?,h,f]
theorem Cls.fz {w:I} {B:Nat} {l:List S} (h:Cls w B l) (j:Nat):w.frozen? ⟨B,j,none⟩=false:=by
 obtain ⟨f,h⟩:=h
 simp[World.frozen?,h]
theorem Cls.keep {w w':I} {B:Nat} {l:List S} (h:Cls w B l) (k:w'.heap[B]? = w.heap[B]?):Cls w' B l:=by
 obtain ⟨f,h⟩:=h
 exact ⟨f,k.trans h⟩
theorem Cls.below {w w':I} {B:Nat} {l:List S} (h:Cls w B l) (k:s w.heap.size w w'):Cls w' B l:=h.keep (k.block B h.lt)
theorem Cls.gr {w w':I} {B:Nat} {l:List S} (h:Cls w B l) (k:Gr w w'):Cls w' B l:=h.below k.below
theorem Cls.oth {w:I} {B f j:Nat} {l:List S} (h:Cls w B l) (g:B≠f) (v:S):Cls (w.setCell ⟨f,j,none⟩ v) B l:=h.keep (Below.heap_setCell _ _ _ _ g)
theorem Cls.put {w:I} {B:Nat} {l:List S} (h:Cls w B l) (j:Nat) (v:S):Cls (w.setCell ⟨B,j,none⟩ v) B (l.set j v):=by
 obtain ⟨f,h⟩:=h
 refine ⟨f,?_⟩
 show (w.heap.modify B _)[B]? = _
 rw[Array.getElem?_modify,if_pos rfl,h]
 simp
theorem yK {w:I} {B:Nat} {f g j k n:S} {l:List S} (h:Cls w B (f::g::j::k::n::l)):w.cell? ⟨B,0,none⟩=some f/\w.cell? ⟨B,1,none⟩=some g/\w.cell? ⟨B,2,none⟩=some j/\w.cell? ⟨B,3,none⟩=some k/\w.cell? ⟨B,4,none⟩=some n:=⟨h.cell rfl,h.cell rfl,h.cell rfl,h.cell rfl,h.cell rfl⟩
theorem iJ {w:I} {B:Nat} {f g j k n r:S} {l:List S} (h:Cls w B (f::g::j::k::n::r::l)):w.cell? ⟨B,0,none⟩=some f/\w.cell? ⟨B,1,none⟩=some g/\w.cell? ⟨B,2,none⟩=some j/\w.cell? ⟨B,3,none⟩=some k/\w.cell? ⟨B,4,none⟩=some n/\w.cell? ⟨B,5,none⟩=some r:=⟨h.cell rfl,h.cell rfl,h.cell rfl,h.cell rfl,h.cell rfl,h.cell rfl⟩
theorem gj {w:I} {B:Nat} {f g j k n r u C E F:S} {l:List S} (h:Cls w B (f::g::j::k::n::r::u::C::E::F::l)):w.cell? ⟨B,0,none⟩=some f/\w.cell? ⟨B,1,none⟩=some g/\w.cell? ⟨B,2,none⟩=some j/\w.cell? ⟨B,3,none⟩=some k/\w.cell? ⟨B,4,none⟩=some n/\w.cell? ⟨B,5,none⟩=some r/\w.cell? ⟨B,6,none⟩=some u/\w.cell? ⟨B,7,none⟩=some C/\w.cell? ⟨B,8,none⟩=some E/\w.cell? ⟨B,9,none⟩=some F:=⟨h.cell rfl,h.cell rfl,h.cell rfl,h.cell rfl,h.cell rfl,h.cell rfl,h.cell rfl,h.cell rfl,h.cell rfl,h.cell rfl⟩
theorem iv {w:I} {B:Nat} {j k n r u C E F L R f g:S} {l:List S} (h:Cls w B (j::k::n::r::u::C::E::F::L::R::f::g::l)):w.cell? ⟨B,0,none⟩=some j/\w.cell? ⟨B,1,none⟩=some k/\w.cell? ⟨B,2,none⟩=some n/\w.cell? ⟨B,3,none⟩=some r/\w.cell? ⟨B,4,none⟩=some u/\w.cell? ⟨B,5,none⟩=some C/\w.cell? ⟨B,6,none⟩=some E/\w.cell? ⟨B,7,none⟩=some F/\w.cell? ⟨B,8,none⟩=some L/\w.cell? ⟨B,9,none⟩=some R/\w.cell? ⟨B,10,none⟩=some f/\w.cell? ⟨B,11,none⟩=some g:=⟨h.cell rfl,h.cell rfl,h.cell rfl,h.cell rfl,h.cell rfl,h.cell rfl,h.cell rfl,h.cell rfl,h.cell rfl,h.cell rfl,h.cell rfl,h.cell rfl⟩
theorem DO {w:I} {B:Nat} {k n r u C E F L R x9 f g j:S} {l:List S} (h:Cls w B (k::n::r::u::C::E::F::L::R::x9::f::g::j::l)):w.cell? ⟨B,0,none⟩=some k/\w.cell? ⟨B,1,none⟩=some n/\w.cell? ⟨B,2,none⟩=some r/\w.cell? ⟨B,3,none⟩=some u/\w.cell? ⟨B,4,none⟩=some C/\w.cell? ⟨B,5,none⟩=some E/\w.cell? ⟨B,6,none⟩=some F/\w.cell? ⟨B,7,none⟩=some L/\w.cell? ⟨B,8,none⟩=some R/\w.cell? ⟨B,9,none⟩=some x9/\w.cell? ⟨B,10,none⟩=some f/\w.cell? ⟨B,11,none⟩=some g/\w.cell? ⟨B,12,none⟩=some j:=⟨h.cell rfl,h.cell rfl,h.cell rfl,h.cell rfl,h.cell rfl,h.cell rfl,h.cell rfl,h.cell rfl,h.cell rfl,h.cell rfl,h.cell rfl,h.cell rfl,h.cell rfl⟩
theorem ER {w:I} {B:Nat} {r u C E F f g j k n:S} {l:List S} (h:Cls w B (r::u::C::E::F::f::g::j::k::n::l)):w.cell? ⟨B,5,none⟩=some f/\w.cell? ⟨B,6,none⟩=some g/\w.cell? ⟨B,7,none⟩=some j/\w.cell? ⟨B,8,none⟩=some k/\w.cell? ⟨B,9,none⟩=some n:=⟨h.cell rfl,h.cell rfl,h.cell rfl,h.cell rfl,h.cell rfl⟩
theorem CZ {w:I} {B:Nat} {u C E F L R j k n r f g:S} {l:List S} (h:Cls w B (u::C::E::F::L::R::j::k::n::r::f::g::l)):w.cell? ⟨B,6,none⟩=some j/\w.cell? ⟨B,7,none⟩=some k/\w.cell? ⟨B,8,none⟩=some n/\w.cell? ⟨B,9,none⟩=some r/\w.cell? ⟨B,10,none⟩=some f/\w.cell? ⟨B,11,none⟩=some g:=⟨h.cell rfl,h.cell rfl,h.cell rfl,h.cell rfl,h.cell rfl,h.cell rfl⟩
theorem ET {w:I} {B:Nat} {l:List S} (h:Cls w B l):w.frozen? ⟨B,0,none⟩=false/\w.frozen? ⟨B,1,none⟩=false/\w.frozen? ⟨B,2,none⟩=false/\w.frozen? ⟨B,3,none⟩=false/\w.frozen? ⟨B,4,none⟩=false:=⟨h.fz _,h.fz _,h.fz _,h.fz _,h.fz _⟩
theorem rO {w:I} {B:Nat} {l:List S} (h:Cls w B l):w.frozen? ⟨B,0,none⟩=false/\w.frozen? ⟨B,1,none⟩=false/\w.frozen? ⟨B,2,none⟩=false/\w.frozen? ⟨B,3,none⟩=false/\w.frozen? ⟨B,4,none⟩=false/\w.frozen? ⟨B,5,none⟩=false:=⟨h.fz _,h.fz _,h.fz _,h.fz _,h.fz _,h.fz _⟩
theorem pz {w:I} {B:Nat} {l:List S} (h:Cls w B l):w.frozen? ⟨B,0,none⟩=false/\w.frozen? ⟨B,1,none⟩=false/\w.frozen? ⟨B,2,none⟩=false/\w.frozen? ⟨B,3,none⟩=false/\w.frozen? ⟨B,4,none⟩=false/\w.frozen? ⟨B,5,none⟩=false/\w.frozen? ⟨B,6,none⟩=false/\w.frozen? ⟨B,7,none⟩=false/\w.frozen? ⟨B,8,none⟩=false/\w.frozen? ⟨B,9,none⟩=false:=⟨h.fz _,h.fz _,h.fz _,h.fz _,h.fz _,h.fz _,h.fz _,h.fz _,h.fz _,h.fz _⟩
theorem rN {w:I} {B:Nat} {l:List S} (h:Cls w B l):w.frozen? ⟨B,0,none⟩=false/\w.frozen? ⟨B,1,none⟩=false/\w.frozen? ⟨B,2,none⟩=false/\w.frozen? ⟨B,3,none⟩=false/\w.frozen? ⟨B,4,none⟩=false/\w.frozen? ⟨B,5,none⟩=false/\w.frozen? ⟨B,6,none⟩=false/\w.frozen? ⟨B,7,none⟩=false/\w.frozen? ⟨B,8,none⟩=false/\w.frozen? ⟨B,9,none⟩=false/\w.frozen? ⟨B,10,none⟩=false/\w.frozen? ⟨B,11,none⟩=false:=⟨h.fz _,h.fz _,h.fz _,h.fz _,h.fz _,h.fz _,h.fz _,h.fz _,h.fz _,h.fz _,h.fz _,h.fz _⟩
theorem EU {w:I} {B:Nat} {l:List S} (h:Cls w B l):w.frozen? ⟨B,5,none⟩=false/\w.frozen? ⟨B,6,none⟩=false/\w.frozen? ⟨B,7,none⟩=false/\w.frozen? ⟨B,8,none⟩=false/\w.frozen? ⟨B,9,none⟩=false:=⟨h.fz _,h.fz _,h.fz _,h.fz _,h.fz _⟩
theorem DS {w:I} {B:Nat} {l:List S} (h:Cls w B l):w.frozen? ⟨B,6,none⟩=false/\w.frozen? ⟨B,7,none⟩=false/\w.frozen? ⟨B,8,none⟩=false/\w.frozen? ⟨B,9,none⟩=false/\w.frozen? ⟨B,10,none⟩=false/\w.frozen? ⟨B,11,none⟩=false:=⟨h.fz _,h.fz _,h.fz _,h.fz _,h.fz _,h.fz _⟩

def leD (x y:Int×Int):Prop:=br y x=false
theorem i6 (x y:Int×Int):leD x y↔x.1<y.1\/(x.1=y.1/\x.2<=y.2):=by
 unfold leD
 rw[mH]
 omega
theorem zP (x:Int×Int):leD x x:=by rw[i6];omega
theorem jo {x y z:Int×Int} (h:leD x y) (k:leD y z):leD x z:=by rw[i6] at *;omega
theorem zO {x y:Int×Int} (h:leD x y) (k:leD y x):x=y:=by rw[i6] at *;exact Prod.ext (by omega) (by omega)
theorem pL (x y:Int×Int):leD x y\/leD y x:=by rw[i6,i6];omega

theorem oc (l:List (Int×Int)):(srt l).Pairwise leD:=by
 unfold srt
 have h:=List.pairwise_mergeSort (le:=fun x y:Int×Int=> !ltOf eA y x) (by
  intro a b c g j
  simp only[ltD,Bool.not_eq_true'] at *
  exact jo (x:=a) (y:=b) (z:=c) g j) (by
  intro a b
  simp only[ltD,Bool.or_eq_true,Bool.not_eq_true']
  exact pL a b) l
 refine h.imp ?_
 intro a b f
 simp only[ltD,Bool.not_eq_true'] at f
 exact f
theorem AD (l:List (Int×Int)):(srt l).Perm l:=List.mergeSort_perm l _
def kD (c:Ctx) (p:Option (Int×Int)):List (Int×Int)->Ctx
 | []=>c
 | x::r=>kD (step c p x) (some x) r

theorem tS (l:List (Int×Int)):∀(c:Ctx) (p:Option (Int×Int)) (x:Int×Int),kD c p (l++[x])=step (kD c p l) (l.getLast?.or p) x:=by
 induction l with
 | nil=>intro c p x;rfl
 | cons y l ih =>
  intro c p x
  show kD (step c p y) (some y) (l++[x])=_
  rw[ih]
  show _=step (kD (step c p y) (some y) l) ((y::l).getLast?.or p) x
  congr 1
  cases h:l.getLast? with
  | none =>
   obtain rfl:l=[]:=by simpa using h
   rfl
  | some z=>simp[List.getLast?_cons,h]

theorem rT (c:Ctx) (l:List (Int×Int)):∀k,k<=l.length->ax c l k=kD c none (l.take k):=by
 intro k
 induction k with
 | zero=>intro _;rfl
 | succ k ih =>
  intro r
  have f:k<l.length:=by omega
  rw[List.take_succ_eq_append_getElem f,tS,<-ih (by omega)]
  show step (ax c l k) _ _=_
  have h:l.getD k (0,0)=l[k]:=by simp[f]
  have j:(if k=0 then none else some (l.getD (k-1) (0,0)))=(l.take k).getLast?.or none:=by
   cases k with
   | zero=>rfl
   | succ m =>
    have g:m<l.length:=by omega
    have n:(l.take (m+1)).getLast? = some l[m]:=by rw[List.take_succ_eq_append_getElem g];exact List.getLast?_concat
    rw[n]
    simp[g]
  rw[h,j]
theorem tT (c:Ctx) (l:List (Int×Int)):ax c l l.length=kD c none l:=by
 rw[rT c l l.length (Nat.le_refl _),List.take_length]

def db (c:Ctx) (x:Int×Int):Ctx:=if ai c x=true then c else if x.2=clk c x.1+1 then setClk c x.1 x.2 else { c with l:=c.l++[x] }

structure Mid (c:Ctx) (p:Option (Int×Int)) (r:List (Int×Int)):Prop where
 above:∀y∈c.l,clk c y.1+1<y.2
 node:∀y∈c.l,0<=y.1/\y.1<4
 last:∀y∈c.l,∃q,p=some q/\leD y q
 has:∀q,p=some q->ai c q=true
 rest:∀q,p=some q->∀x∈r,leD q x

theorem aG (c:Ctx) (x:Int×Int):ai c x=true↔x∈c.l\/(0<=x.1/\x.1<=3/\1<=x.2/\x.2<=clk c x.1):=by
 simp[ai,inB,and_assoc]

theorem nE {c:Ctx} {p:Option (Int×Int)} {x:Int×Int} {r:List (Int×Int)} (h:Mid c p (x::r)) (hx:am x=true) (hs:∀y∈r,leD x y):db c x=step c p x/\Mid (step c p x) (some x) r:=by
 have j:=ef hx
 have k:∀y∈c.l,leD y x:=fun y f=>by
  obtain ⟨q,g,ap⟩:=h.last y f
  exact jo ap (h.rest q g x (mS ..))
 by_cases L:x.2<=clk c x.1
 ·have u:ai c x=true:=(aG c x).2 (oR ⟨j.1,by omega,j.2.2.1,L⟩)
  have E:db c x=c:=by simp[db,u]
  have F:step c p x=c:=by simp[step,L]
  rw[E,F]
  exact ⟨rfl,h.above,h.node,fun y f=>⟨x,rfl,k y f⟩,fun q g=>by cases g;exact u,fun q g y f=>by cases g;exact hs y f⟩
 ·by_cases R:x.2=clk c x.1+1
  ·have n:x ∉ c.l:=fun C=>by have:=h.above x C;omega
   have u:¬ai c x=true:=by
    rw[aG]
    rintro (C|C)
    ·exact n C
    ·omega
   have E:db c x=setClk c x.1 x.2:=by unfold db;rw[if_neg u,if_pos R]
   have F:step c p x=setClk c x.1 x.2:=by unfold step;rw[if_neg L,if_pos R]
   rw[E,F]
   refine ⟨rfl,?_,?_,?_,?_,fun q g y f=>by cases g;exact hs y f⟩
   ·intro y f
    rw[eB] at f
    have an:=h.node y f
    rw[dV c x.1 x.2 y.1 j.1 j.2.1 an.1 an.2]
    have ah:=h.above y f
    split
    ·rename_i hyx
     have hl:=(i6 y x).1 (k y f)
     rw[hyx] at ah
     omega
    ·exact ah
   ·intro y f;rw[eB] at f;exact h.node y f
   ·intro y f;rw[eB] at f;exact ⟨x,rfl,k y f⟩
   ·intro q g
    cases g
    refine (aG _ _).2 (oR ⟨j.1,by omega,j.2.2.1,?_⟩)
    rw[dV c x.1 x.2 x.1 j.1 j.2.1 j.1 j.2.1,if_pos rfl]
    exact Int.le_refl _
  ·by_cases h3:p=some x
   ·have u:ai c x=true:=h.has x h3
    have E:db c x=c:=by simp[db,u]
    have F:step c p x=c:=by unfold step;rw[if_neg L,if_neg R,if_pos h3]
    rw[E,F]
    exact ⟨rfl,h.above,h.node,fun y f=>⟨x,rfl,k y f⟩,fun q g=>by cases g;exact u,fun q g y f=>by cases g;exact hs y f⟩
   ·have n:x ∉ c.l:=fun C=>by
     obtain ⟨q,g,ao⟩:=h.last x C
     have:=zO ao (h.rest q g x (mS ..))
     exact h3 (by rw[g,this])
    have u:¬ai c x=true:=by
     rw[aG]
     rintro (C|C)
     ·exact n C
     ·omega
    have E:db c x={ c with l:=c.l++[x] }:=by unfold db;rw[if_neg u,if_neg R]
    have F:step c p x={ c with l:=c.l++[x] }:=by unfold step;rw[if_neg L,if_neg R,if_neg h3]
    rw[E,F]
    have ad:∀a,clk { c with l:=c.l++[x] } a=clk c a:=fun _=>rfl
    refine ⟨rfl,?_,?_,?_,?_,fun q g y f=>by cases g;exact hs y f⟩
    ·intro y f
     rw[ad]
     rcases List.mem_append.1 f with f|f
     ·exact h.above y f
     ·obtain rfl:y=x:=by simpa using f
      omega
    ·intro y f
     rcases List.mem_append.1 f with f|f
     ·exact h.node y f
     ·obtain rfl:y=x:=by simpa using f
      exact ⟨j.1,j.2.1⟩
    ·intro y f
     rcases List.mem_append.1 f with f|f
     ·exact ⟨x,rfl,k y f⟩
     ·obtain rfl:y=x:=by simpa using f
      exact ⟨y,rfl,zP y⟩
    ·intro q g
     cases g
     exact (aG _ _).2 (oL (List.mem_append.2 (oR (by simp))))

theorem rS (l:List (Int×Int)):∀(c:Ctx) (p:Option (Int×Int)),Mid c p l->l.Pairwise leD->(∀x∈l,am x=true)->l.foldl db c=kD c p l:=by
 induction l with
 | nil=>intro c p _ _ _;rfl
 | cons x l ih =>
  intro c p h k j
  have g:=List.pairwise_cons.1 k
  have f:=nE h (j x (mS ..)) g.1
  show l.foldl db (db c x)=kD (step c p x) (some x) l
  rw[f.1]
  exact ih _ _ f.2 g.2 (fun y n=>j y (mC _ n))

theorem pO {c:Ctx} (f:c.l=[]) (l:List (Int×Int)):Mid c none l where
 above y hy:=by rw[f] at hy;cases hy
 node y hy:=by rw[f] at hy;cases hy
 last y hy:=by rw[f] at hy;cases hy
 has q hq:=by cases hq
 rest q hq:=by cases hq

theorem lW {c:Ctx} (f:c.l=[]) {l:List (Int×Int)} (g:∀x∈l,am x=true):gp c l=(srt l).foldl db c:=by
 unfold gp
 rw[tT]
 exact (rS (srt l) c none (pO f _) (oc l) (fun x h=>g x (kT h))).symm


theorem mX {c:Ctx} (h:aN c=0):bv c=true:=by
 unfold aN at h
 cases f:bv c
 ·simp[f] at h
 ·rfl

def bi (c:Ctx) (n:Int):(Int×Int)×Int:=if aN c=0 then (if inB n 0 3=true then (kL c n,m8 c n) else ((0,0),1)) else ((0,0),aN c)

theorem A9 (c:Ctx) (A:Option J) (cap:Nat) (n:Int) (w:I) (hl:c.l.length<=maxLen) (hr:Row w A c.l) :
  d Q 196 #[ib (ja7 c A cap),U H n] w fun e w'=>e= D (t #[ib #[U H (bi c n).1.1,U H (bi c n).1.2],U H (bi c n).2])/\Gr w w':=by
 have C:=fs c A cap ((w.alloc (K (ja7 c A cap) 53)).alloc (K #[U H 0,U H 0] 185)) hl (hr.gr (((gR _).alloc _).alloc _))
 have g:Z _:=C
 clear C
 unfold maxLen at hl
 go_enter Tryz.func196,Tryz.ntmps196
 go_wp2_with fail
 refine ja0 g ?_
 rintro e w1 ⟨rfl,f⟩
 clear g
 have r0:=l9 f (j:=0) rfl
 have r1:=l9 f (j:=1) rfl
 have ao:=rA f 0
 have ap:=rA f 1
 by_cases he:aN c=0
 ·have L:=ja1 he
  rw[he]
  clear he
  cases h:inB n 0 3
  ·have R:Z (bi c n=((0,0),1)):=by show bi c n=_;simp[bi,L.out,h]
   go_wp2_with (go_at_call 151;refine (gt h _).mono ?_;rintro e w' ⟨rfl,rfl⟩)
   rw[R.out]
   exact bodyPost_ret (v:= t #[ib #[U H 0,U H 0],U H 1]) (by simp[results,Tryz.results196,go_sem,r0,r1]) rfl ⟨rfl,(((cC (cC f)).setCell (by simp) _).setCell (by simp) _)⟩
  ·have hn:0<=n/\n<4:=by simp[inB] at h;omega
   have R:Z (bi c n=(kL c n,m8 c n)):=by show bi c n=_;simp[bi,L.out,h]
   have kc:=aa (j9 f) (jh (c:=c) hn.1 hn.2)
   have k4:=aa (j9 f) (j:=4) rfl
   have a2:=cE (mX L.out) n hn.1 hn.2
   go_wp2_with (go_at_call 151;refine (gt h _).mono ?_;rintro e w' ⟨rfl,rfl⟩)
   clear kc k4 r0 r1 ao ap
   go_loopw [7,27] (fun m i wr=>∃k:Nat,k<=c.l.length/\i= U H k/\m= U H (fc c n (c.l.take k))/\Gr ((w.alloc (K (ja7 c A cap) 53)).alloc (K #[U H 0,U H 0] 185)) wr) (fun _ i _=>c.l.length-(intOf i).toNat)
   case atStart=>exact ⟨0,by omega,rfl,rfl,f⟩
   case round =>
    clear f
    obtain ⟨k,hk,rfl,rfl,f⟩:=hrel
    have r0:=l9 f (j:=0) rfl
    have r1:=l9 f (j:=1) rfl
    have ao:=rA f 0
    have ap:=rA f 1
    have a0:=vP c n (c.l.take k)
    by_cases r:k<c.l.length
    ·have ah:(k:Int)<(c.l.length:Int):=by omega
     obtain ⟨b,a5,rfl,hb,F⟩:=(hr.gr (cC (cC f))).at r
     obtain ⟨x,y,hx⟩:∃x y,c.l[k]=(x,y):=⟨_,_,rfl⟩
     have e0:=(F k r).1
     have e1:=(F k r).2
     rw[hx] at e0 e1
     have an:=ja1 (yj c n k r hx)
     clear F hx
     by_cases u:x=n
     ·subst u
      go_wp2
      go_roundw
      case rel=>exact ⟨k+1,by omega,by go_num,by rw[an.out,if_pos rfl],f.alloc _⟩
      case measure=>simp[intOf];omega
     ·have a4:(x==n)=false:=by simpa using u
      have a1:=ja1 u
      clear u
      go_wp2
      go_roundw
      case rel=>exact ⟨k+1,by omega,by go_num,by rw[an.out,if_neg a1.out],f.alloc _⟩
      case measure=>simp[intOf];omega
    ·have ah:¬(k:Int)<(c.l.length:Int):=by omega
     have ad:c.l.take k=c.l:=List.take_of_length_le (by omega)
     rw[ad] at a0 ⊢
     clear ad
     by_cases E:1099511627776<=fc c n c.l
     ·have hD:Z (kL c n=(0,0)/\m8 c n=2):=by
       show _/\_
       simp[kL,m8,E]
      go_wp2
      rw[R.out,hD.out.1,hD.out.2]
      exact bodyPost_ret (v:= t #[ib #[U H 0,U H 0],U H 2]) (by simp[results,Tryz.results196,go_sem,r0,r1]) rfl ⟨rfl,(((cC (cC f)).setCell (by simp) _).setCell (by simp) _)⟩
     ·have hD:Z (kL c n=(n,fc c n c.l+1)/\m8 c n=0):=by
       show _/\_
       simp[kL,m8,E]
      go_wp2
      rw[R.out,hD.out.1,hD.out.2]
      exact bodyPost_ret (v:= t #[ib #[U H n,U H (fc c n c.l+1)],U H 0]) (by simp[results,Tryz.results196,go_sem,r0,r1]) rfl ⟨rfl,(((cC (cC f)).setCell (by simp) _).setCell (by simp) _)⟩
 ·have R:Z (bi c n=((0,0),aN c)):=by show bi c n=_;simp[bi,he]
  have a3:(aN c != 0)=true:=by simpa using he
  clear he
  go_wp2
  rw[R.out]
  exact bodyPost_ret (v:= t #[ib #[U H 0,U H 0],U H (aN c)]) (by simp[results,Tryz.results196,go_sem,r0,r1]) rfl ⟨rfl,(((cC (cC f)).setCell (by simp) _).setCell (by simp) _)⟩

def fD (a b:Ctx):Int:=if aN a=0 then aN b else aN a

theorem oD (a b:Ctx) (A B:Option J) (ca cb:Nat) (w:I) (n:a.l.length<=maxLen) (u:b.l.length<=maxLen) (F:Row w A a.l) (L:Row w B b.l) :
  d Q 191 #[ib (ja7 a A ca),ib (ja7 b B cb)] w fun e w'=>e= D (U H (fD a b))/\Gr w w':=by
 have f:Gr w ((w.alloc (K (ja7 a A ca) 53)).alloc (K (ja7 b B cb) 53)):=((gR w).alloc _).alloc _
 have r:CtxAt ((w.alloc (K (ja7 a A ca) 53)).alloc (K (ja7 b B cb) 53)) (w.heap.size+1) b B cb:=CtxAt.new 53 (L.gr ((gR _).alloc _)) (by simp)
 go_enter Tryz.func191,Tryz.ntmps191
 go_wp2_with fail
 refine (fs a A ca _ n (F.gr f)).mono ?_
 rintro e w1 ⟨rfl,g⟩
 by_cases h:aN a=0
 ·have k:Z (fD a b=aN b):=by show fD a b=_;simp[fD,h]
  have C:(aN a != 0)=false:=by simpa using h
  clear h
  obtain ⟨R,k1,k2,k3,k4,_,j⟩:=r.gr g
  go_wp2_with fail
  refine (fs b B cb _ u j).mono ?_
  rintro e w2 ⟨rfl,E⟩
  go_wp2
  go_ret
  rw[k.out]
  exact ⟨rfl,(f.trans g).trans E⟩
 ·have k:Z (fD a b=aN a):=by show fD a b=_;simp[fD,h]
  have C:(aN a != 0)=true:=by simpa using h
  clear h
  go_wp2
  go_ret
  rw[k.out]
  exact ⟨rfl,f.trans g⟩

theorem mw {a b:Ctx} (h:fD a b=0):aN a=0/\aN b=0:=by
 unfold fD at h
 by_cases f:aN a=0
 ·rw[if_pos f] at h;exact ⟨f,h⟩
 ·rw[if_neg f] at h;exact absurd h f
theorem bx {c:Ctx} (h:aN c=0):bv c=true/\c.l.length<=400/\∀k,k<c.l.length->jD c k=true:=by
 have g:=mX h
 unfold aN at h
 rw[g] at h
 by_cases j:400<c.l.length
 ·simp[j] at h
 ·refine ⟨g,by omega,?_⟩
  cases f:(List.range c.l.length).all (jD c)
  ·simp[j,f] at h
  ·intro k n
   rw[List.all_eq_true] at f
   exact f k (by simpa using n)
theorem jU {c:Ctx} (h:aN c=0):∀x∈c.l,am x=true:=by
 intro x g
 obtain ⟨j,f,rfl⟩:=List.getElem_of_mem g
 have:=(bx h).2.2 j f
 cases j with
 | zero=>rw[fw f rfl] at this;simp at this;exact this.1
 | succ m=>rw[ee f rfl rfl] at this;simp at this;exact this.1.1
end Go.Proofs.YtjmmpnmgpgaagaaGreatDoor
