/-
  table.Del: the table that deletes a row.
-/
import Derived.Test.YtkefkplnamkicaaGreatDoorM04
set_option maxRecDepth 100000
set_option maxHeartbeats 8000000
open Go.IntKind renaming i64 → I
open Go.Obj renaming cells → J
open Go.Value renaming int → S, slice → O, tuple → Z, agg → H
namespace Go.Proofs.YtkefkplnamkicaaGreatDoor
open Go.RowKit Go.Sort

def eQ (t:Tab) (key:Int):Int:=if am t≠0 then am t else if inB key 0 49=false then 1 else if t.e.any (eF key)=false then 4 else bU (ak (eF key) t.e)
def cJ (t:Tab) (key:Int):Ctx:=if eQ t key=0 then aE (ak (eF key) t.e) else aM

structure Six (w:World) (B:Nat) (u0 u1 u2 u3 u4 u5:Value):Prop where
 k0:w.cell? ⟨B,0,none⟩=some u0
 k1:w.cell? ⟨B,1,none⟩=some u1
 k2:w.cell? ⟨B,2,none⟩=some u2
 k3:w.cell? ⟨B,3,none⟩=some u3
 k4:w.cell? ⟨B,4,none⟩=some u4
 k5:w.cell? ⟨B,5,none⟩=some u5
 fz:∀j,w.frozen? ⟨B,j,none⟩=false
 lt:B<w.heap.size
theorem Six.new (w:World) (u0 u1 u2 u3 u4 u5:Value) (T:TypeId) {B:Nat} (hB:B=w.heap.size):Six (w.alloc (J #[u0,u1,u2,u3,u4,u5] T)) B u0 u1 u2 u3 u4 u5:=by
 subst hB
 exact ⟨ab (gR _) rfl,ab (gR _) rfl,ab (gR _) rfl,ab (gR _) rfl,ab (gR _) rfl,ab (gR _) rfl,fun j=>eP (gR _) j,by simp⟩
theorem Six.belowB {w w':World} {B N:Nat} {u0 u1 u2 u3 u4 u5:Value} (h:Six w B u0 u1 u2 u3 u4 u5) (k:Below N w w') (hB:B<N):Six w' B u0 u1 u2 u3 u4 u5 :=
 ⟨(k.cell (p:=⟨B,0,none⟩) hB).trans h.k0,(k.cell (p:=⟨B,1,none⟩) hB).trans h.k1,(k.cell (p:=⟨B,2,none⟩) hB).trans h.k2,(k.cell (p:=⟨B,3,none⟩) hB).trans h.k3,(k.cell (p:=⟨B,4,none⟩) hB).trans h.k4,(k.cell (p:=⟨B,5,none⟩) hB).trans h.k5,fun j=>(k.frozen (p:=⟨B,j,none⟩) hB).trans (h.fz j),nL h.lt k.size⟩
theorem Six.below {w w':World} {B:Nat} {u0 u1 u2 u3 u4 u5:Value} (h:Six w B u0 u1 u2 u3 u4 u5) (k:Below w.heap.size w w'):Six w' B u0 u1 u2 u3 u4 u5:=h.belowB k h.lt
theorem Six.gr {w w':World} {B:Nat} {u0 u1 u2 u3 u4 u5:Value} (h:Six w B u0 u1 u2 u3 u4 u5) (k:Gr w w'):Six w' B u0 u1 u2 u3 u4 u5:=h.below k.below
theorem Six.set {w:World} {B:Nat} {u0 u1 u2 u3 u4 u5:Value} (h:Six w B u0 u1 u2 u3 u4 u5) (v0 v1 v2 v3 v4 v5:Value):Six ((((((w.setCell ⟨B,0,none⟩ v0).setCell ⟨B,1,none⟩ v1).setCell ⟨B,2,none⟩ v2).setCell ⟨B,3,none⟩ v3).setCell ⟨B,4,none⟩ v4).setCell ⟨B,5,none⟩ v5) B v0 v1 v2 v3 v4 v5:=by
 have e0:=h.k0
 have e1:=h.k1
 have e2:=h.k2
 have e3:=h.k3
 have e4:=h.k4
 have e5:=h.k5
 refine ⟨?_,?_,?_,?_,?_,?_,fun j=> ?_,by simpa[World.setCell] using h.lt⟩
 ·exact aa (aa (aa (aa (aa (aa e0)))))
 ·exact aa (aa (aa (aa (aa (aa e1)))))
 ·exact aa (aa (aa (aa (aa (aa e2)))))
 ·exact aa (aa (aa (aa (aa (aa e3)))))
 ·exact aa (aa (aa (aa (aa (aa e4)))))
 ·exact aa (aa (aa (aa (aa (aa e5)))))
 ·simp only[World.frozen?_setCell];exact h.fz j
abbrev yC (w:World) (B:Nat):Prop:=Six w B (S I 0) (S I 0) (S I 0) (S I 0) (O none 0 0) (O none 0 0)

theorem aq {n:Nat} {w W:World} (h:Below n w W) {B:Nat} (hB:n≤B) (u0 u1 u2 u3 u4 u5:Value):Below n w ((((((W.setCell ⟨B,0,none⟩ u0).setCell ⟨B,1,none⟩ u1).setCell ⟨B,2,none⟩ u2).setCell ⟨B,3,none⟩ u3).setCell ⟨B,4,none⟩ u4).setCell ⟨B,5,none⟩ u5):=(bm h hB u0 u1 u2 u3 u4).setCell hB u5
theorem au.setCell {α : Type} {enc: α → List Value} {k:Nat} {w:World} {A:Option Addr} {l:List α} (h:au enc k w A l) {B m:Nat} (u:Value) (hA:∀x,A=some x→x.block≠B):au enc k (w.setCell ⟨B,m,none⟩ u) A l:=by
 rcases h with h|⟨b,off,rfl,hb,hc⟩
 ·exact oL h
 ·have hne:=hA _ rfl
  refine oR ⟨b,off,rfl,by simpa[World.setCell] using hb,fun j hj i hi=> ?_⟩
  rw[←hc j hj i hi]
  exact World.cell?_setCell_other _ _ _ _ (by intro e;injection e with e1;exact hne e1.symm)

theorem yO (t:Tab) (A:Option Addr) (ca:Nat) (D:Option Addr) (cd:Nat) (key:Int) (w:World) (hl:t.c.l.length≤maxLen) (hel:t.e.length≤maxLen) (hr:Row w A t.c.l) (hd:bw w D t.e) :
  Calls Tryz.prog 105 #[H (T6 t A ca D cd).toArray,S I key] w fun e w'=>∃C cp,e= .returned (Z #[H #[S I (cJ t key).c0,S I (cJ t key).c1,S I (cJ t key).c2,S I (cJ t key).c3,O C (cJ t key).l.length cp,O none 0 0],S I (eQ t key)])∧Row w' C (cJ t key).l∧(C=none→cp=0)∧(∀a,C=some a→w.heap.size≤a.block)∧Below w.heap.size w w':=by
 have hg0:Gr w (((w.alloc (J #[S I t.c.c0,S I t.c.c1,S I t.c.c2,S I t.c.c3,O A t.c.l.length ca,O D t.e.length cd] 41)).alloc (J #[S I key] 3)).alloc (J #[S I 0,S I 0,S I 0,S I 0,O none 0 0,O none 0 0] 41)):=(((gR w).alloc _).alloc _).alloc _
 have ht0:TabAt (((w.alloc (J #[S I t.c.c0,S I t.c.c1,S I t.c.c2,S I t.c.c3,O A t.c.l.length ca,O D t.e.length cd] 41)).alloc (J #[S I key] 3)).alloc (J #[S I 0,S I 0,S I 0,S I 0,O none 0 0,O none 0 0] 41)) w.heap.size t A ca D cd:=(TabAt.new 41 hr hd rfl).gr (((gR _).alloc _).alloc _)
 have hk0:(((w.alloc (J #[S I t.c.c0,S I t.c.c1,S I t.c.c2,S I t.c.c3,O A t.c.l.length ca,O D t.e.length cd] 41)).alloc (J #[S I key] 3)).alloc (J #[S I 0,S I 0,S I 0,S I 0,O none 0 0,O none 0 0] 41)).cell? ⟨w.heap.size+1,0,none⟩=some (S I key):=nA ((gR _).alloc _) rfl
 have hz0:yC (((w.alloc (J #[S I t.c.c0,S I t.c.c1,S I t.c.c2,S I t.c.c3,O A t.c.l.length ca,O D t.e.length cd] 41)).alloc (J #[S I key] 3)).alloc (J #[S I 0,S I 0,S I 0,S I 0,O none 0 0,O none 0 0] 41)) (w.heap.size+1+1):=Six.new _ _ _ _ _ _ _ 41 (by simp)
 have hck:=eE t A ca D cd (((w.alloc (J #[S I t.c.c0,S I t.c.c1,S I t.c.c2,S I t.c.c3,O A t.c.l.length ca,O D t.e.length cd] 41)).alloc (J #[S I key] 3)).alloc (J #[S I 0,S I 0,S I 0,S I 0,O none 0 0,O none 0 0] 41)) hl hel ht0.row ht0.rowC
 have hckH:Hid _:=hck
 clear hck
 go_enter Tryz.func105,Tryz.ntmps105
 go_wp2_with fail
 refine cM (show Calls _ _ _ _ _ from hckH.out) ?_
 rintro e w1 ⟨rfl,hg1⟩
 clear hckH
 have hs0:w.heap.size+1+1<w1.heap.size:=(hz0.gr hg1).lt
 have ht1:=ht0.gr hg1
 have hz1:=hz0.gr hg1
 have hk1:=(hg1.cell (p:=⟨w.heap.size+1,0,none⟩) (by simp)).trans hk0
 have hgw1:Gr w w1:=hg0.trans hg1
 clear hg0 ht0 hk0 hz0 hg1
 obtain ⟨z0,z1,z2,z3,z4,z5,zf,zlt⟩:=(show Six _ _ _ _ _ _ _ _ from hz1)
 by_cases he:am t=0
 ·have heb:(am t != 0)=false:=by simpa using he
  have heH:Hid (am t=0):=he
  have hel4:t.e.length≤400:=(ae he).2.1
  clear he
  cases hky:inB key 0 49
  ·have hfin:Hid (eQ t key=1∧cJ t key=aM):=by
    have h1:eQ t key=1:=by simp[eQ,heH.out,hky]
    exact ⟨h1,by simp[cJ,h1]⟩
   go_wp2_with (go_at_call 94;refine (tM hky _).mono ?_;rintro e w1 ⟨rfl,rfl⟩)
   rw[hfin.out.1,hfin.out.2]
   exact bodyPost_ret (v:= Z #[H #[S I 0,S I 0,S I 0,S I 0,O none 0 0,O none 0 0],S I 1]) (by simp[results,Tryz.results105,go_sem,z0,z1,z2,z3,z4,z5]) rfl ⟨none,0,rfl,oL rfl,fun _=>rfl,(fun x hx=>by cases hx),aq hgw1.below (by omega) _ _ _ _ _ _⟩
  ·have k5:=ht1.k5
   have eg:∀args w,(callFunc 158 args).run Tryz.prog w= .ok (.enter 158 args) w:=enters_of Tryz.func158 (by kernel_rfl) rfl
   have hcf:=fx (eF key) 158 #[.pointer (some ⟨w.heap.size+1,0,none⟩)] eg t.e D cd w1 hel ht1.rowC (Bg key (w.heap.size+1) w1 (by omega) hk1)
   have hcfH:Hid _:=hcf
   clear hcf
   go_wp2_with (first|(go_at_call 94;refine (tM hky _).mono ?_;rintro e w1 ⟨rfl,rfl⟩)|fail)
   refine cM (show Calls _ _ _ _ _ from hcfH.out) ?_
   rintro e w2 ⟨rfl,hg2⟩
   clear hcfH z0 z1 z2 z3 z4 z5 zf zlt k5
   have ht2:=ht1.gr hg2
   have k5:=ht2.k5
   have hk2:=(hg2.cell (p:=⟨w.heap.size+1,0,none⟩) (show w.heap.size+1<_ by omega)).trans hk1
   have hs2:w.heap.size+1+1<w2.heap.size:=(hz1.gr hg2).lt
   obtain ⟨z0,z1,z2,z3,z4,z5,zf,zlt⟩:=(show Six _ _ _ _ _ _ _ _ from hz1.gr hg2)
   have hgw2:Gr w w2:=hgw1.trans hg2
   cases han:t.e.any (eF key)
   ·have hfin:Hid (eQ t key=4∧cJ t key=aM):=by
     have h1:eQ t key=4:=by unfold eQ;rw[if_neg (by simpa using heH.out),if_neg (by simp[hky]),if_pos han]
     exact ⟨h1,by simp[cJ,h1]⟩
    go_wp2
    rw[hfin.out.1,hfin.out.2]
    exact bodyPost_ret (v:= Z #[H #[S I 0,S I 0,S I 0,S I 0,O none 0 0,O none 0 0],S I 4]) (by simp[results,Tryz.results105,go_sem,z0,z1,z2,z3,z4,z5]) rfl ⟨none,0,rfl,oL rfl,fun _=>rfl,(fun x hx=>by cases hx),aq hgw2.below (by omega) _ _ _ _ _ _⟩
   ·have hco:=j7 (eF key) 158 #[.pointer (some ⟨w.heap.size+1,0,none⟩)] eg t.e D cd w2 hel4 ht2.rowC (fun W hW x=>qI key (w.heap.size+1) x W (by have:=hW.size;omega) ((hW.cell (p:=⟨w.heap.size+1,0,none⟩) (show w.heap.size+1<_ by omega)).trans hk2))
    have hcoH:Hid _:=hco
    clear hco
    go_wp2_with fail
    refine cM (show Calls _ _ _ _ _ from hcoH.out) ?_
    rintro e w3 ⟨C,cp,rfl,hrow3,hC,hCb,hb3⟩
    clear hcoH z0 z1 z2 z3 z4 z5 zf zlt k5
    have hz3:=(hz1.gr hg2).below hb3
    obtain ⟨z0,z1,z2,z3,z4,z5,zf,zlt⟩:=(show Six _ _ _ _ _ _ _ _ from hz3)
    have hs3:w2.heap.size≤w3.heap.size:=hb3.size
    have hbw3:Hid (Below w.heap.size w w3):=hgw2.below.trans (hb3.mono (by omega))
    have hmD:Hid (eQ t key=bU (ak (eF key) t.e)):=by
     show eQ t key=_
     unfold eQ
     rw[if_neg (by simpa using heH.out),if_neg (by simp[hky]),if_neg (by simp[han])]
    have hmE:Hid (bU (ak (eF key) t.e)=0→cJ t key=aE (ak (eF key) t.e)):=fun h0=>by
     unfold cJ
     rw[hmD.out,if_pos h0]
    have hmZ:Hid (bU (ak (eF key) t.e)≠0→cJ t key=aM):=fun h0=>by
     unfold cJ
     rw[hmD.out,if_neg h0]
    obtain ⟨F,hF⟩:∃F,aE (ak (eF key) t.e)=F:=⟨_,rfl⟩
    obtain ⟨E,hE⟩:∃E,bU (ak (eF key) t.e)=E:=⟨_,rfl⟩
    rw[hF] at hrow3 hmE ⊢
    rw[hE] at hmE hmZ hmD ⊢
    clear hF hE han
    have hCn:∀a,C=some a→a.block≠w.heap.size+1+1:=fun a ha=>by have:=hCb a ha;omega
    by_cases hE0:E=0
    ·have hfin:Hid (eQ t key=0∧cJ t key=F):=⟨hmD.out.trans hE0,hmE.out hE0⟩
     subst hE0
     have hV:=(hz3.set (S I F.c0) (S I F.c1) (S I F.c2) (S I F.c3) (O C F.l.length cp) (O none 0 0)).gr ((gR _).alloc (J #[S I F.c0,S I F.c1,S I F.c2,S I F.c3,O C F.l.length cp] 38))
     have hrV:Row _ C F.l:=(((((((hrow3.setCell (B:=w.heap.size+1+1) (j:=0) (S I F.c0) hCn).setCell (j:=1) (S I F.c1) hCn).setCell (j:=2) (S I F.c2) hCn).setCell (j:=3) (S I F.c3) hCn).setCell (j:=4) (O C F.l.length cp) hCn).setCell (j:=5) (O none 0 0) hCn)).gr ((gR _).alloc (J #[S I F.c0,S I F.c1,S I F.c2,S I F.c3,O C F.l.length cp] 38))
     have hbV:=(aq hbw3.out (B:=w.heap.size+1+1) (by omega) (S I F.c0) (S I F.c1) (S I F.c2) (S I F.c3) (O C F.l.length cp) (O none 0 0)).alloc (by simp;omega) (J #[S I F.c0,S I F.c1,S I F.c2,S I F.c3,O C F.l.length cp] 38)
     have hVH:Hid _:=hV
     have hbVH:Hid _:=hbV
     have hrVH:Hid _:=hrV
     clear hV hbV hrV
     go_wp2
     obtain ⟨v0,v1,v2,v3,v4,v5,vf,vlt⟩:=(show Six _ _ _ _ _ _ _ _ from hVH.out)
     have hbV:=hbVH.out
     have hrV:=hrVH.out
     rw[hfin.out.1,hfin.out.2]
     generalize World.alloc _ _=V at v0 v1 v2 v3 v4 v5 hbV hrV ⊢
     exact bodyPost_ret (v:= Z #[H #[S I F.c0,S I F.c1,S I F.c2,S I F.c3,O C F.l.length cp,O none 0 0],S I 0]) (by simp[results,Tryz.results105,go_sem,v0,v1,v2,v3,v4,v5]) rfl ⟨C,cp,rfl,hrV,hC,fun a ha=>nT (by omega) (hCb a ha),hbV⟩
    ·have hfin:Hid (eQ t key=E∧cJ t key=aM):=⟨hmD.out,hmZ.out hE0⟩
     have hEb:(E != 0)=true:=by simpa using hE0
     clear hE0
     have hV:=(hz3.set (S I 0) (S I 0) (S I 0) (S I 0) (O none 0 0) (O none 0 0)).gr ((gR _).alloc (J #[S I F.c0,S I F.c1,S I F.c2,S I F.c3,O C F.l.length cp] 38))
     have hbV:=(aq hbw3.out (B:=w.heap.size+1+1) (by omega) (S I 0) (S I 0) (S I 0) (S I 0) (O none 0 0) (O none 0 0)).alloc (by simp;omega) (J #[S I F.c0,S I F.c1,S I F.c2,S I F.c3,O C F.l.length cp] 38)
     have hVH:Hid _:=hV
     have hbVH:Hid _:=hbV
     clear hV hbV
     go_wp2
     obtain ⟨v0,v1,v2,v3,v4,v5,vf,vlt⟩:=(show Six _ _ _ _ _ _ _ _ from hVH.out)
     have hbV:=hbVH.out
     rw[hfin.out.1,hfin.out.2]
     generalize World.alloc _ _=V at v0 v1 v2 v3 v4 v5 hbV ⊢
     exact bodyPost_ret (v:= Z #[H #[S I 0,S I 0,S I 0,S I 0,O none 0 0,O none 0 0],S I E]) (by simp[results,Tryz.results105,go_sem,v0,v1,v2,v3,v4,v5]) rfl ⟨none,0,rfl,oL rfl,fun _=>rfl,(fun x hx=>by cases hx),hbV⟩
 ·have hfin:Hid (eQ t key=am t∧cJ t key=aM):=by
   have h1:eQ t key=am t:=by simp[eQ,he]
   exact ⟨h1,by simp[cJ,h1,he]⟩
  have heb:(am t != 0)=true:=by simpa using he
  clear he
  go_wp2
  rw[hfin.out.1,hfin.out.2]
  exact bodyPost_ret (v:= Z #[H #[S I 0,S I 0,S I 0,S I 0,O none 0 0,O none 0 0],S I (am t)]) (by simp[results,Tryz.results105,go_sem,z0,z1,z2,z3,z4,z5]) rfl ⟨none,0,rfl,oL rfl,fun _=>rfl,(fun x hx=>by cases hx),aq hgw1.below (by omega) _ _ _ _ _ _⟩

end Go.Proofs.YtkefkplnamkicaaGreatDoor
