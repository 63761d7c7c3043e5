/-
  table.Del: the table that deletes a row.
  dot.Join: the context that has what one of both has.
  Plain facts: a right context is told by the dots that it has; what fold makes has just what went in.
-/
import Derived.Test.YtkadjjmkokhldaaGreatM06
import Derived.Test.YtkadjjmkokhldaaGreatM30
import Derived.Deep.RegionHeld
namespace Go.Proofs.YtkadjjmkokhldaaGreat
open Go.RowKit Go.Sort

/-- The error that Del tells. -/
def delE (t:Tab) (key:Int):Int:=if errT t≠0 then errT t else if inB key 0 49=false then 1 else if t.e.any (fitD key)=false then 4 else makeE (dotsOf (fitD key) t.e)
/-- The context of the table that it tells; it has no cells. -/
def delC (t:Tab) (key:Int):Ctx:=if delE t key=0 then makeC (dotsOf (fitD key) t.e) else zeroC

/-- Block B holds six values, of a table. -/
structure Six (w:World) (B:Nat) (u0 u1 u2 u3 u4 u5:Value):Prop where
 k0:w.cell? ⟨B,0,none⟩=some u0
 k1:w.cell? ⟨B,1,none⟩=some u1
 k2:w.cell? ⟨B,2,none⟩=some u2
 k3:w.cell? ⟨B,3,none⟩=some u3
 k4:w.cell? ⟨B,4,none⟩=some u4
 k5:w.cell? ⟨B,5,none⟩=some u5
 fz:∀j,w.frozen? ⟨B,j,none⟩=false
 lt:B<w.heap.size
theorem Six.new (w:World) (u0 u1 u2 u3 u4 u5:Value) (T:TypeId) {B:Nat} (hB:B=w.heap.size):Six (w.alloc (.cells #[u0,u1,u2,u3,u4,u5] T)) B u0 u1 u2 u3 u4 u5:=by
 subst hB
 exact ⟨box1 (Gr.refl _) rfl,box1 (Gr.refl _) rfl,box1 (Gr.refl _) rfl,box1 (Gr.refl _) rfl,box1 (Gr.refl _) rfl,box1 (Gr.refl _) rfl,fun j=>box1f (Gr.refl _) j,by simp⟩
theorem Six.belowB {w w':World} {B N:Nat} {u0 u1 u2 u3 u4 u5:Value} (h:Six w B u0 u1 u2 u3 u4 u5) (k:Below N w w') (hB:B<N):Six w' B u0 u1 u2 u3 u4 u5 :=
 ⟨(k.cell (p:=⟨B,0,none⟩) hB).trans h.k0,(k.cell (p:=⟨B,1,none⟩) hB).trans h.k1,(k.cell (p:=⟨B,2,none⟩) hB).trans h.k2,(k.cell (p:=⟨B,3,none⟩) hB).trans h.k3,(k.cell (p:=⟨B,4,none⟩) hB).trans h.k4,(k.cell (p:=⟨B,5,none⟩) hB).trans h.k5,fun j=>(k.frozen (p:=⟨B,j,none⟩) hB).trans (h.fz j),Nat.lt_of_lt_of_le h.lt k.size⟩
theorem Six.below {w w':World} {B:Nat} {u0 u1 u2 u3 u4 u5:Value} (h:Six w B u0 u1 u2 u3 u4 u5) (k:Below w.heap.size w w'):Six w' B u0 u1 u2 u3 u4 u5:=h.belowB k h.lt
theorem Six.gr {w w':World} {B:Nat} {u0 u1 u2 u3 u4 u5:Value} (h:Six w B u0 u1 u2 u3 u4 u5) (k:Gr w w'):Six w' B u0 u1 u2 u3 u4 u5:=h.below k.below
theorem Six.set {w:World} {B:Nat} {u0 u1 u2 u3 u4 u5:Value} (h:Six w B u0 u1 u2 u3 u4 u5) (v0 v1 v2 v3 v4 v5:Value):Six ((((((w.setCell ⟨B,0,none⟩ v0).setCell ⟨B,1,none⟩ v1).setCell ⟨B,2,none⟩ v2).setCell ⟨B,3,none⟩ v3).setCell ⟨B,4,none⟩ v4).setCell ⟨B,5,none⟩ v5) B v0 v1 v2 v3 v4 v5:=by
 have e0:=h.k0
 have e1:=h.k1
 have e2:=h.k2
 have e3:=h.k3
 have e4:=h.k4
 have e5:=h.k5
 refine ⟨?_,?_,?_,?_,?_,?_,fun j=> ?_,by simpa[World.setCell] using h.lt⟩
 ·exact cell_set (cell_set (cell_set (cell_set (cell_set (cell_set e0)))))
 ·exact cell_set (cell_set (cell_set (cell_set (cell_set (cell_set e1)))))
 ·exact cell_set (cell_set (cell_set (cell_set (cell_set (cell_set e2)))))
 ·exact cell_set (cell_set (cell_set (cell_set (cell_set (cell_set e3)))))
 ·exact cell_set (cell_set (cell_set (cell_set (cell_set (cell_set e4)))))
 ·exact cell_set (cell_set (cell_set (cell_set (cell_set (cell_set e5)))))
 ·simp only[World.frozen?_setCell];exact h.fz j
/-- A table of nothing, as it lies in a block. -/
abbrev ZTab (w:World) (B:Nat):Prop:=Six w B (.int .i64 0) (.int .i64 0) (.int .i64 0) (.int .i64 0) (.slice none 0 0) (.slice none 0 0)

/-- Six cells of a block that is new are set: what was there stays. -/
theorem below_set6 {n:Nat} {w W:World} (h:Below n w W) {B:Nat} (hB:n≤B) (u0 u1 u2 u3 u4 u5:Value):Below n w ((((((W.setCell ⟨B,0,none⟩ u0).setCell ⟨B,1,none⟩ u1).setCell ⟨B,2,none⟩ u2).setCell ⟨B,3,none⟩ u3).setCell ⟨B,4,none⟩ u4).setCell ⟨B,5,none⟩ u5):=(below_set5 h hB u0 u1 u2 u3 u4).setCell hB u5
theorem RowG.setCell {α : Type} {enc: α → List Value} {k:Nat} {w:World} {A:Option Addr} {l:List α} (h:RowG enc k w A l) {B m:Nat} (u:Value) (hA:∀x,A=some x→x.block≠B):RowG enc k (w.setCell ⟨B,m,none⟩ u) A l:=by
 rcases h with h|⟨b,off,rfl,hb,hc⟩
 ·exact Or.inl h
 ·have hne:=hA _ rfl
  refine Or.inr ⟨b,off,rfl,by simpa[World.setCell] using hb,fun j hj i hi=> ?_⟩
  rw[←hc j hj i hi]
  exact World.cell?_setCell_other _ _ _ _ (by intro e;injection e with e1;exact hne e1.symm)

set_option maxHeartbeats 1000000 in
theorem del_any (t:Tab) (A:Option Addr) (ca:Nat) (D:Option Addr) (cd:Nat) (key:Int) (w:World) (hl:t.c.l.length≤maxLen) (hel:t.e.length≤maxLen) (hr:Row w A t.c.l) (hd:RowC w D t.e) :
  Calls Tryz.prog 37 #[.agg #[.int .i64 t.c.c0,.int .i64 t.c.c1,.int .i64 t.c.c2,.int .i64 t.c.c3,.slice A t.c.l.length ca,.slice D t.e.length cd],.int .i64 key] w fun e w'=>∃C cp,e= .returned (.tuple #[.agg #[.int .i64 (delC t key).c0,.int .i64 (delC t key).c1,.int .i64 (delC t key).c2,.int .i64 (delC t key).c3,.slice C (delC t key).l.length cp,.slice none 0 0],.int .i64 (delE t key)])∧Row w' C (delC t key).l∧(C=none→cp=0)∧(∀a,C=some a→w.heap.size≤a.block)∧Below w.heap.size w w':=by
 have hg0:Gr w (((w.alloc (.cells #[.int .i64 t.c.c0,.int .i64 t.c.c1,.int .i64 t.c.c2,.int .i64 t.c.c3,.slice A t.c.l.length ca,.slice D t.e.length cd] 37)).alloc (.cells #[.int .i64 key] 3)).alloc (.cells #[.int .i64 0,.int .i64 0,.int .i64 0,.int .i64 0,.slice none 0 0,.slice none 0 0] 37)):=(((Gr.refl w).alloc _).alloc _).alloc _
 have ht0:TabAt (((w.alloc (.cells #[.int .i64 t.c.c0,.int .i64 t.c.c1,.int .i64 t.c.c2,.int .i64 t.c.c3,.slice A t.c.l.length ca,.slice D t.e.length cd] 37)).alloc (.cells #[.int .i64 key] 3)).alloc (.cells #[.int .i64 0,.int .i64 0,.int .i64 0,.int .i64 0,.slice none 0 0,.slice none 0 0] 37)) w.heap.size t A ca D cd:=(TabAt.new 37 hr hd rfl).gr (((Gr.refl _).alloc _).alloc _)
 have hk0:(((w.alloc (.cells #[.int .i64 t.c.c0,.int .i64 t.c.c1,.int .i64 t.c.c2,.int .i64 t.c.c3,.slice A t.c.l.length ca,.slice D t.e.length cd] 37)).alloc (.cells #[.int .i64 key] 3)).alloc (.cells #[.int .i64 0,.int .i64 0,.int .i64 0,.int .i64 0,.slice none 0 0,.slice none 0 0] 37)).cell? ⟨w.heap.size+1,0,none⟩=some (.int .i64 key):=box2 ((Gr.refl _).alloc _) rfl
 have hz0:ZTab (((w.alloc (.cells #[.int .i64 t.c.c0,.int .i64 t.c.c1,.int .i64 t.c.c2,.int .i64 t.c.c3,.slice A t.c.l.length ca,.slice D t.e.length cd] 37)).alloc (.cells #[.int .i64 key] 3)).alloc (.cells #[.int .i64 0,.int .i64 0,.int .i64 0,.int .i64 0,.slice none 0 0,.slice none 0 0] 37)) (w.heap.size+1+1):=Six.new _ _ _ _ _ _ _ 37 (by simp)
 have hck:=checkT_any t A ca D cd (((w.alloc (.cells #[.int .i64 t.c.c0,.int .i64 t.c.c1,.int .i64 t.c.c2,.int .i64 t.c.c3,.slice A t.c.l.length ca,.slice D t.e.length cd] 37)).alloc (.cells #[.int .i64 key] 3)).alloc (.cells #[.int .i64 0,.int .i64 0,.int .i64 0,.int .i64 0,.slice none 0 0,.slice none 0 0] 37)) hl hel ht0.row ht0.rowC
 have hckH:Hid _:=hck
 clear hck
 go_enter Tryz.func37,Tryz.ntmps37
 go_wp2_with fail
 refine Calls.mono (show Calls _ _ _ _ _ from hckH.out) ?_
 rintro e w1 ⟨rfl,hg1⟩
 clear hckH
 have hs0:w.heap.size+1+1<w1.heap.size:=(hz0.gr hg1).lt
 have ht1:=ht0.gr hg1
 have hz1:=hz0.gr hg1
 have hk1:=(hg1.cell (p:=⟨w.heap.size+1,0,none⟩) (by simp)).trans hk0
 have hgw1:Gr w w1:=hg0.trans hg1
 clear hg0 ht0 hk0 hz0 hg1
 obtain ⟨z0,z1,z2,z3,z4,z5,zf,zlt⟩:=(show Six _ _ _ _ _ _ _ _ from hz1)
 by_cases he:errT t=0
 ·have heb:(errT t != 0)=false:=by simpa using he
  have heH:Hid (errT t=0):=he
  have hel4:t.e.length≤400:=(errT_parts he).2.1
  clear he
  cases hky:inB key 0 49
  ·have hfin:Hid (delE t key=1∧delC t key=zeroC):=by
    have h1:delE t key=1:=by simp[delE,heH.out,hky]
    exact ⟨h1,by simp[delC,h1]⟩
   go_wp2_with (go_at_call 55;refine (isKey_g hky _).mono ?_;rintro e w1 ⟨rfl,rfl⟩)
   rw[hfin.out.1,hfin.out.2]
   exact bodyPost_ret (v:= .tuple #[.agg #[.int .i64 0,.int .i64 0,.int .i64 0,.int .i64 0,.slice none 0 0,.slice none 0 0],.int .i64 1]) (by simp[results,Tryz.results37,go_sem,z0,z1,z2,z3,z4,z5]) rfl ⟨none,0,rfl,Or.inl rfl,fun _=>rfl,(fun x hx=>by cases hx),below_set6 hgw1.below (by omega) _ _ _ _ _ _⟩
  ·have k5:=ht1.k5
   have eg:∀args w,(callFunc 56 args).run Tryz.prog w= .ok (.enter 56 args) w:=enters_of Tryz.func56 (by kernel_rfl) rfl
   have hcf:=containsFuncC_any (fitD key) 56 #[.pointer (some ⟨w.heap.size+1,0,none⟩)] eg t.e D cd w1 hel ht1.rowC (predD key (w.heap.size+1) w1 (by omega) hk1)
   have hcfH:Hid _:=hcf
   clear hcf
   go_wp2_with (first|(go_at_call 55;refine (isKey_g hky _).mono ?_;rintro e w1 ⟨rfl,rfl⟩)|fail)
   refine Calls.mono (show Calls _ _ _ _ _ from hcfH.out) ?_
   rintro e w2 ⟨rfl,hg2⟩
   clear hcfH z0 z1 z2 z3 z4 z5 zf zlt k5
   have ht2:=ht1.gr hg2
   have k5:=ht2.k5
   have hk2:=(hg2.cell (p:=⟨w.heap.size+1,0,none⟩) (show w.heap.size+1<_ by omega)).trans hk1
   have hs2:w.heap.size+1+1<w2.heap.size:=(hz1.gr hg2).lt
   obtain ⟨z0,z1,z2,z3,z4,z5,zf,zlt⟩:=(show Six _ _ _ _ _ _ _ _ from hz1.gr hg2)
   have hgw2:Gr w w2:=hgw1.trans hg2
   cases han:t.e.any (fitD key)
   ·have hfin:Hid (delE t key=4∧delC t key=zeroC):=by
     have h1:delE t key=4:=by unfold delE;rw[if_neg (by simpa using heH.out),if_neg (by simp[hky]),if_pos han]
     exact ⟨h1,by simp[delC,h1]⟩
    go_wp2
    rw[hfin.out.1,hfin.out.2]
    exact bodyPost_ret (v:= .tuple #[.agg #[.int .i64 0,.int .i64 0,.int .i64 0,.int .i64 0,.slice none 0 0,.slice none 0 0],.int .i64 4]) (by simp[results,Tryz.results37,go_sem,z0,z1,z2,z3,z4,z5]) rfl ⟨none,0,rfl,Or.inl rfl,fun _=>rfl,(fun x hx=>by cases hx),below_set6 hgw2.below (by omega) _ _ _ _ _ _⟩
   ·have hco:=contextOf_any (fitD key) 56 #[.pointer (some ⟨w.heap.size+1,0,none⟩)] eg t.e D cd w2 hel4 ht2.rowC (fun W hW x=>fitD_any key (w.heap.size+1) x W (by have:=hW.size;omega) ((hW.cell (p:=⟨w.heap.size+1,0,none⟩) (show w.heap.size+1<_ by omega)).trans hk2))
    have hcoH:Hid _:=hco
    clear hco
    go_wp2_with fail
    refine Calls.mono (show Calls _ _ _ _ _ from hcoH.out) ?_
    rintro e w3 ⟨C,cp,rfl,hrow3,hC,hCb,hb3⟩
    clear hcoH z0 z1 z2 z3 z4 z5 zf zlt k5
    have hz3:=(hz1.gr hg2).below hb3
    obtain ⟨z0,z1,z2,z3,z4,z5,zf,zlt⟩:=(show Six _ _ _ _ _ _ _ _ from hz3)
    have hs3:w2.heap.size≤w3.heap.size:=hb3.size
    have hbw3:Hid (Below w.heap.size w w3):=hgw2.below.trans (hb3.mono (by omega))
    have hmD:Hid (delE t key=makeE (dotsOf (fitD key) t.e)):=by
     show delE t key=_
     unfold delE
     rw[if_neg (by simpa using heH.out),if_neg (by simp[hky]),if_neg (by simp[han])]
    have hmE:Hid (makeE (dotsOf (fitD key) t.e)=0→delC t key=makeC (dotsOf (fitD key) t.e)):=fun h0=>by
     unfold delC
     rw[hmD.out,if_pos h0]
    have hmZ:Hid (makeE (dotsOf (fitD key) t.e)≠0→delC t key=zeroC):=fun h0=>by
     unfold delC
     rw[hmD.out,if_neg h0]
    obtain ⟨F,hF⟩:∃F,makeC (dotsOf (fitD key) t.e)=F:=⟨_,rfl⟩
    obtain ⟨E,hE⟩:∃E,makeE (dotsOf (fitD key) t.e)=E:=⟨_,rfl⟩
    rw[hF] at hrow3 hmE ⊢
    rw[hE] at hmE hmZ hmD ⊢
    clear hF hE han
    have hCn:∀a,C=some a→a.block≠w.heap.size+1+1:=fun a ha=>by have:=hCb a ha;omega
    by_cases hE0:E=0
    ·have hfin:Hid (delE t key=0∧delC t key=F):=⟨hmD.out.trans hE0,hmE.out hE0⟩
     subst hE0
     have hV:=(hz3.set (.int .i64 F.c0) (.int .i64 F.c1) (.int .i64 F.c2) (.int .i64 F.c3) (.slice C F.l.length cp) (.slice none 0 0)).gr ((Gr.refl _).alloc (.cells #[.int .i64 F.c0,.int .i64 F.c1,.int .i64 F.c2,.int .i64 F.c3,.slice C F.l.length cp] 34))
     have hrV:Row _ C F.l:=(((((((hrow3.setCell (B:=w.heap.size+1+1) (j:=0) (.int .i64 F.c0) hCn).setCell (j:=1) (.int .i64 F.c1) hCn).setCell (j:=2) (.int .i64 F.c2) hCn).setCell (j:=3) (.int .i64 F.c3) hCn).setCell (j:=4) (.slice C F.l.length cp) hCn).setCell (j:=5) (.slice none 0 0) hCn)).gr ((Gr.refl _).alloc (.cells #[.int .i64 F.c0,.int .i64 F.c1,.int .i64 F.c2,.int .i64 F.c3,.slice C F.l.length cp] 34))
     have hbV:=(below_set6 hbw3.out (B:=w.heap.size+1+1) (by omega) (.int .i64 F.c0) (.int .i64 F.c1) (.int .i64 F.c2) (.int .i64 F.c3) (.slice C F.l.length cp) (.slice none 0 0)).alloc (by simp;omega) (.cells #[.int .i64 F.c0,.int .i64 F.c1,.int .i64 F.c2,.int .i64 F.c3,.slice C F.l.length cp] 34)
     have hVH:Hid _:=hV
     have hbVH:Hid _:=hbV
     have hrVH:Hid _:=hrV
     clear hV hbV hrV
     go_wp2
     obtain ⟨v0,v1,v2,v3,v4,v5,vf,vlt⟩:=(show Six _ _ _ _ _ _ _ _ from hVH.out)
     have hbV:=hbVH.out
     have hrV:=hrVH.out
     rw[hfin.out.1,hfin.out.2]
     generalize World.alloc _ _=V at v0 v1 v2 v3 v4 v5 hbV hrV ⊢
     exact bodyPost_ret (v:= .tuple #[.agg #[.int .i64 F.c0,.int .i64 F.c1,.int .i64 F.c2,.int .i64 F.c3,.slice C F.l.length cp,.slice none 0 0],.int .i64 0]) (by simp[results,Tryz.results37,go_sem,v0,v1,v2,v3,v4,v5]) rfl ⟨C,cp,rfl,hrV,hC,fun a ha=>Nat.le_trans (by omega) (hCb a ha),hbV⟩
    ·have hfin:Hid (delE t key=E∧delC t key=zeroC):=⟨hmD.out,hmZ.out hE0⟩
     have hEb:(E != 0)=true:=by simpa using hE0
     clear hE0
     have hV:=(hz3.set (.int .i64 0) (.int .i64 0) (.int .i64 0) (.int .i64 0) (.slice none 0 0) (.slice none 0 0)).gr ((Gr.refl _).alloc (.cells #[.int .i64 F.c0,.int .i64 F.c1,.int .i64 F.c2,.int .i64 F.c3,.slice C F.l.length cp] 34))
     have hbV:=(below_set6 hbw3.out (B:=w.heap.size+1+1) (by omega) (.int .i64 0) (.int .i64 0) (.int .i64 0) (.int .i64 0) (.slice none 0 0) (.slice none 0 0)).alloc (by simp;omega) (.cells #[.int .i64 F.c0,.int .i64 F.c1,.int .i64 F.c2,.int .i64 F.c3,.slice C F.l.length cp] 34)
     have hVH:Hid _:=hV
     have hbVH:Hid _:=hbV
     clear hV hbV
     go_wp2
     obtain ⟨v0,v1,v2,v3,v4,v5,vf,vlt⟩:=(show Six _ _ _ _ _ _ _ _ from hVH.out)
     have hbV:=hbVH.out
     rw[hfin.out.1,hfin.out.2]
     generalize World.alloc _ _=V at v0 v1 v2 v3 v4 v5 hbV ⊢
     exact bodyPost_ret (v:= .tuple #[.agg #[.int .i64 0,.int .i64 0,.int .i64 0,.int .i64 0,.slice none 0 0,.slice none 0 0],.int .i64 E]) (by simp[results,Tryz.results37,go_sem,v0,v1,v2,v3,v4,v5]) rfl ⟨none,0,rfl,Or.inl rfl,fun _=>rfl,(fun x hx=>by cases hx),hbV⟩
 ·have hfin:Hid (delE t key=errT t∧delC t key=zeroC):=by
   have h1:delE t key=errT t:=by simp[delE,he]
   exact ⟨h1,by simp[delC,h1,he]⟩
  have heb:(errT t != 0)=true:=by simpa using he
  clear he
  go_wp2
  rw[hfin.out.1,hfin.out.2]
  exact bodyPost_ret (v:= .tuple #[.agg #[.int .i64 0,.int .i64 0,.int .i64 0,.int .i64 0,.slice none 0 0,.slice none 0 0],.int .i64 (errT t)]) (by simp[results,Tryz.results37,go_sem,z0,z1,z2,z3,z4,z5]) rfl ⟨none,0,rfl,Or.inl rfl,fun _=>rfl,(fun x hx=>by cases hx),below_set6 hgw1.below (by omega) _ _ _ _ _ _⟩

end Go.Proofs.YtkadjjmkokhldaaGreat

namespace Go.Proofs.YtkadjjmkokhldaaGreat
open Go.RowKit Go.Sort

/-- The greater clocks of both. -/
def joinK (a b:Ctx):Ctx:=⟨max a.c0 b.c0,max a.c1 b.c1,max a.c2 b.c2,max a.c3 b.c3,[]⟩
/-- The context that has what one of both has. -/
def joinF (a b:Ctx):Ctx:=foldS (joinK a b) (a.l++b.l)
/-- The error that Join tells. -/
def joinE (a b:Ctx):Int:=if errB a b=0 then (if 400<(joinF a b).l.length then 2 else 0) else errB a b
/-- The context that Join tells. -/
def joinC (a b:Ctx):Ctx:=if joinE a b=0 then joinF a b else zeroC

theorem clk_joinK (a b:Ctx) (x:Int):clk (joinK a b) x=max (clk a x) (clk b x):=by
 unfold clk joinK
 by_cases h0:x=0
 ·simp[h0]
 ·by_cases h1:x=1
  ·simp[h1]
  ·by_cases h2:x=2
   ·simp[h2]
   ·simp[h0,h1,h2]
theorem joinK_ok {a b:Ctx} (ha:okClk a=true) (hb:okClk b=true):okClk (joinK a b)=true:=by
 refine okClk_of fun x h0 h4=> ?_
 have h1:=clk_of_ok ha x h0 h4
 have h2:=clk_of_ok hb x h0 h4
 rw[clk_joinK]
 simp only[inB,Bool.and_eq_true,decide_eq_true_eq]
 omega

/-- Block B holds four clocks. -/
structure ClkAt (w:World) (B:Nat) (x0 x1 x2 x3:Int):Prop where
 k0:w.cell? ⟨B,0,none⟩=some (.int .i64 x0)
 k1:w.cell? ⟨B,1,none⟩=some (.int .i64 x1)
 k2:w.cell? ⟨B,2,none⟩=some (.int .i64 x2)
 k3:w.cell? ⟨B,3,none⟩=some (.int .i64 x3)
 fz:∀j,w.frozen? ⟨B,j,none⟩=false
 lt:B<w.heap.size

/-- The clocks behind k rounds. -/
def mixK (a b:Ctx) (k:Nat):Int×Int×Int×Int:=(if 0<k then max a.c0 b.c0 else a.c0,if 1<k then max a.c1 b.c1 else a.c1,if 2<k then max a.c2 b.c2 else a.c2,if 3<k then max a.c3 b.c3 else a.c3)

theorem ClkAt.set {w:World} {B:Nat} {x0 x1 x2 x3:Int} (h:ClkAt w B x0 x1 x2 x3) (j:Nat) (u:Int):ClkAt (w.setCell ⟨B,j,none⟩ (.int .i64 u)) B (if 0=j then u else x0) (if 1=j then u else x1) (if 2=j then u else x2) (if 3=j then u else x3):=by
 refine ⟨?_,?_,?_,?_,fun i=>by rw[World.frozen?_setCell];exact h.fz i,by simpa[World.setCell] using h.lt⟩
 ·rw[cell_set h.k0];split<;>rfl
 ·rw[cell_set h.k1];split<;>rfl
 ·rw[cell_set h.k2];split<;>rfl
 ·rw[cell_set h.k3];split<;>rfl

set_option maxHeartbeats 16000000 in
theorem join_any (a b:Ctx) (A B:Option Addr) (ca cb:Nat) (w:World) (hal:a.l.length≤maxLen) (hbl:b.l.length≤maxLen) (hra:Row w A a.l) (hrb:Row w B b.l) (hA:A=none→ca=0) (hB:B=none→cb=0) :
  Calls Tryz.prog 40 #[.agg #[.int .i64 a.c0,.int .i64 a.c1,.int .i64 a.c2,.int .i64 a.c3,.slice A a.l.length ca],.agg #[.int .i64 b.c0,.int .i64 b.c1,.int .i64 b.c2,.int .i64 b.c3,.slice B b.l.length cb]] w fun e w'=>∃C cp,e= .returned (.tuple #[.agg #[.int .i64 (joinC a b).c0,.int .i64 (joinC a b).c1,.int .i64 (joinC a b).c2,.int .i64 (joinC a b).c3,.slice C (joinC a b).l.length cp],.int .i64 (joinE a b)])∧Row w' C (joinC a b).l∧(C=none→cp=0)∧(∀x,C=some x→w.heap.size≤x.block)∧Below w.heap.size w w':=by
 have hg0:Gr w (((w.alloc (.cells #[.int .i64 a.c0,.int .i64 a.c1,.int .i64 a.c2,.int .i64 a.c3,.slice A a.l.length ca] 34)).alloc (.cells #[.int .i64 b.c0,.int .i64 b.c1,.int .i64 b.c2,.int .i64 b.c3,.slice B b.l.length cb] 34)).alloc (.cells #[.int .i64 0,.int .i64 0,.int .i64 0,.int .i64 0,.slice none 0 0] 34)):=(((Gr.refl w).alloc _).alloc _).alloc _
 have ha0:CtxAt (((w.alloc (.cells #[.int .i64 a.c0,.int .i64 a.c1,.int .i64 a.c2,.int .i64 a.c3,.slice A a.l.length ca] 34)).alloc (.cells #[.int .i64 b.c0,.int .i64 b.c1,.int .i64 b.c2,.int .i64 b.c3,.slice B b.l.length cb] 34)).alloc (.cells #[.int .i64 0,.int .i64 0,.int .i64 0,.int .i64 0,.slice none 0 0] 34)) w.heap.size a A ca:=(CtxAt.new 34 hra rfl).gr (((Gr.refl _).alloc _).alloc _)
 have hb0:CtxAt (((w.alloc (.cells #[.int .i64 a.c0,.int .i64 a.c1,.int .i64 a.c2,.int .i64 a.c3,.slice A a.l.length ca] 34)).alloc (.cells #[.int .i64 b.c0,.int .i64 b.c1,.int .i64 b.c2,.int .i64 b.c3,.slice B b.l.length cb] 34)).alloc (.cells #[.int .i64 0,.int .i64 0,.int .i64 0,.int .i64 0,.slice none 0 0] 34)) (w.heap.size+1) b B cb:=(CtxAt.new 34 (hrb.gr ((Gr.refl _).alloc _)) (by simp)).gr ((Gr.refl _).alloc _)
 have hz0:CtxAt (((w.alloc (.cells #[.int .i64 a.c0,.int .i64 a.c1,.int .i64 a.c2,.int .i64 a.c3,.slice A a.l.length ca] 34)).alloc (.cells #[.int .i64 b.c0,.int .i64 b.c1,.int .i64 b.c2,.int .i64 b.c3,.slice B b.l.length cb] 34)).alloc (.cells #[.int .i64 0,.int .i64 0,.int .i64 0,.int .i64 0,.slice none 0 0] 34)) (w.heap.size+1+1) zeroC none 0:=CtxAt.new (c:=zeroC) (A:=none) (cap:=0) 34 (Or.inl rfl) (by simp)
 have hzf0:∀j,(((w.alloc (.cells #[.int .i64 a.c0,.int .i64 a.c1,.int .i64 a.c2,.int .i64 a.c3,.slice A a.l.length ca] 34)).alloc (.cells #[.int .i64 b.c0,.int .i64 b.c1,.int .i64 b.c2,.int .i64 b.c3,.slice B b.l.length cb] 34)).alloc (.cells #[.int .i64 0,.int .i64 0,.int .i64 0,.int .i64 0,.slice none 0 0] 34)).frozen? ⟨w.heap.size+1+1,j,none⟩=false:=fun j=>by
  have:=box1f (w:=(w.alloc (.cells #[.int .i64 a.c0,.int .i64 a.c1,.int .i64 a.c2,.int .i64 a.c3,.slice A a.l.length ca] 34)).alloc (.cells #[.int .i64 b.c0,.int .i64 b.c1,.int .i64 b.c2,.int .i64 b.c3,.slice B b.l.length cb] 34)) (Gr.refl (((w.alloc (.cells #[.int .i64 a.c0,.int .i64 a.c1,.int .i64 a.c2,.int .i64 a.c3,.slice A a.l.length ca] 34)).alloc (.cells #[.int .i64 b.c0,.int .i64 b.c1,.int .i64 b.c2,.int .i64 b.c3,.slice B b.l.length cb] 34)).alloc (.cells #[.int .i64 0,.int .i64 0,.int .i64 0,.int .i64 0,.slice none 0 0] 34))) j
  simpa using this
 have hck:=checkBoth_any a b A B ca cb (((w.alloc (.cells #[.int .i64 a.c0,.int .i64 a.c1,.int .i64 a.c2,.int .i64 a.c3,.slice A a.l.length ca] 34)).alloc (.cells #[.int .i64 b.c0,.int .i64 b.c1,.int .i64 b.c2,.int .i64 b.c3,.slice B b.l.length cb] 34)).alloc (.cells #[.int .i64 0,.int .i64 0,.int .i64 0,.int .i64 0,.slice none 0 0] 34)) hal hbl (hra.gr hg0) (hrb.gr hg0)
 have hckH:Hid _:=hck
 clear hck
 unfold maxLen at hal hbl
 go_enter Tryz.func40,Tryz.ntmps40
 go_wp2_with fail
 refine Calls.mono (show Calls _ _ _ _ _ from hckH.out) ?_
 rintro e w1 ⟨rfl,hg1⟩
 clear hckH
 have ha1:=ha0.gr hg1
 have hb1:=hb0.gr hg1
 have hz1:=hz0.gr hg1
 have hzf1:∀j,w1.frozen? ⟨w.heap.size+1+1,j,none⟩=false:=fun j=>(hg1.below.frozen (p:=⟨w.heap.size+1+1,j,none⟩) hz0.lt).trans (hzf0 j)
 have hbw1:Hid (Below w.heap.size w w1):=(hg0.trans hg1).below
 clear ha0 hb0 hz0 hzf0 hg1 hg0
 obtain ⟨z0,z1,z2,z3,z4,zlt,_⟩:=(show CtxAt _ _ _ _ _ from hz1)
 by_cases he:errB a b=0
 ·have heb:(errB a b != 0)=false:=by simpa using he
  have heH:Hid (errB a b=0):=he
  clear he
  have hab:=errB_ok heH.out
  have hpa:=errC_parts hab.1
  have hpb:=errC_parts hab.2
  have hal4:a.l.length≤400:=hpa.2.1
  have hbl4:b.l.length≤400:=hpb.2.1
  have hHH:Hid (okClk (joinK a b)=true∧(∀x∈srt (a.l++b.l),rightB x=true)):=⟨joinK_ok hpa.1 hpb.1,fun x hx=>by
   rcases List.mem_append.1 (srt_mem hx) with h|h
   ·exact errC_right hab.1 x h
   ·exact errC_right hab.2 x h⟩
  clear hpa hpb hab
  obtain ⟨a0,a1,a2,a3,a4,alt,_⟩:=(show CtxAt _ _ _ _ _ from ha1)
  obtain ⟨b0,b1,b2,b3,b4,blt,_⟩:=(show CtxAt _ _ _ _ _ from hb1)
  have i0:∀w,(Instr.index 31 (.agg #[.int .i64 b.c0,.int .i64 b.c1,.int .i64 b.c2,.int .i64 b.c3]) (.int .i64 0)).run Tryz.prog w= .ok (.int .i64 b.c0) w:=fun _=>by kernel_rfl
  have i1:∀w,(Instr.index 31 (.agg #[.int .i64 b.c0,.int .i64 b.c1,.int .i64 b.c2,.int .i64 b.c3]) (.int .i64 1)).run Tryz.prog w= .ok (.int .i64 b.c1) w:=fun _=>by kernel_rfl
  have i2:∀w,(Instr.index 31 (.agg #[.int .i64 b.c0,.int .i64 b.c1,.int .i64 b.c2,.int .i64 b.c3]) (.int .i64 2)).run Tryz.prog w= .ok (.int .i64 b.c2) w:=fun _=>by kernel_rfl
  have i3:∀w,(Instr.index 31 (.agg #[.int .i64 b.c0,.int .i64 b.c1,.int .i64 b.c2,.int .i64 b.c3]) (.int .i64 3)).run Tryz.prog w= .ok (.int .i64 b.c3) w:=fun _=>by kernel_rfl
  have hk0:ClkAt (w1.alloc (.cells #[.int .i64 a.c0,.int .i64 a.c1,.int .i64 a.c2,.int .i64 a.c3] 31)) w1.heap.size a.c0 a.c1 a.c2 a.c3:=⟨box1 (Gr.refl _) rfl,box1 (Gr.refl _) rfl,box1 (Gr.refl _) rfl,box1 (Gr.refl _) rfl,fun j=>box1f (Gr.refl _) j,by simp⟩
  go_wp2
  clear a0 a1 a2 a3 a4 b0 b1 b2 b3 b4
  go_loopw [22] (fun i wr=>∃k:Nat,k≤4∧i= .int .i64 k∧ClkAt wr w1.heap.size (mixK a b k).1 (mixK a b k).2.1 (mixK a b k).2.2.1 (mixK a b k).2.2.2∧Below w1.heap.size w1 wr) (fun i _=>4-(intOf i).toNat)
  case atStart=>exact ⟨0,by omega,rfl,hk0,(Below.refl _ _).alloc (Nat.le_refl _) _⟩
  case round =>
   obtain ⟨k,hk,rfl,hck,hbel⟩:=hrel
   have hf0:=hck.fz 0
   have hf1:=hck.fz 1
   have hf2:=hck.fz 2
   have hf3:=hck.fz 3
   by_cases hlt:k<4
   ·have h4:k=0∨k=1∨k=2∨k=3:=by omega
    obtain ⟨c0,c1,c2,c3,cf,clt⟩:=(show ClkAt _ _ _ _ _ _ from hck)
    rcases h4 with rfl|rfl|rfl|rfl
    ·simp only[mixK] at c0 c1 c2 c3 hck
     go_wp2
     go_roundw
     case rel=>exact ⟨1,by omega,by go_num,by have:=hck.set 0 (max a.c0 b.c0);simpa[mixK] using this,hbel.setCell (Nat.le_refl _) _⟩
     case measure=>simp[intOf]
    ·simp only[mixK] at c0 c1 c2 c3 hck
     go_wp2
     go_roundw
     case rel=>exact ⟨2,by omega,by go_num,by have:=hck.set 1 (max a.c1 b.c1);simpa[mixK] using this,hbel.setCell (Nat.le_refl _) _⟩
     case measure=>simp[intOf]
    ·simp only[mixK] at c0 c1 c2 c3 hck
     go_wp2
     go_roundw
     case rel=>exact ⟨3,by omega,by go_num,by have:=hck.set 2 (max a.c2 b.c2);simpa[mixK] using this,hbel.setCell (Nat.le_refl _) _⟩
     case measure=>simp[intOf]
    ·simp only[mixK] at c0 c1 c2 c3 hck
     go_wp2
     go_roundw
     case rel=>exact ⟨4,by omega,by go_num,by have:=hck.set 3 (max a.c3 b.c3);simpa[mixK] using this,hbel.setCell (Nat.le_refl _) _⟩
     case measure=>simp[intOf]
   ·obtain rfl:k=4:=by omega
    simp only[mixK] at hck
    simp only[show (0<4)=True from by simp,show (1<4)=True from by simp,show (2<4)=True from by simp,show (3<4)=True from by simp,if_true] at hck
    have haR:=ha1.below hbel
    have hbR:=hb1.below hbel
    have hzR:=hz1.below hbel
    have hzfR:∀j,wr.frozen? ⟨w.heap.size+1+1,j,none⟩=false:=fun j=>(hbel.frozen (p:=⟨w.heap.size+1+1,j,none⟩) zlt).trans (hzf1 j)
    have hbwR:Hid (Below w.heap.size w wr):=hbw1.out.trans (hbel.mono hbw1.out.size)
    obtain ⟨F,hF⟩:∃F,foldTo (joinK a b) (srt (a.l++b.l)) (srt (a.l++b.l)).length=F:=⟨_,rfl⟩
    have hris:∀(W:World),Below wr.heap.size wr W→Calls Tryz.prog 65 #[.slice A a.l.length ca,.slice B b.l.length cb] W fun e w'=>∃C1 cp1,e= .returned (.slice C1 (srt (a.l++b.l)).length cp1)∧Row w' C1 (srt (a.l++b.l))∧Below wr.heap.size wr w'∧Below W.heap.size W w':=fun W hb =>
     (rising_any a.l b.l A B ca cb W (haR.row.below hb) (hbR.row.below hb) hA hB hal4 hbl4).mono fun e w' ⟨C1,cp1,h1,h2,h3⟩=>⟨C1,cp1,h1,h2,hb.trans (h3.mono hb.size),h3⟩
    have hfold:∀(W:World) (C1:Option Addr) (cp1:Nat),Row W C1 (srt (a.l++b.l))→Below wr.heap.size wr W→Calls Tryz.prog 64 #[.agg #[.int .i64 (max a.c0 b.c0),.int .i64 (max a.c1 b.c1),.int .i64 (max a.c2 b.c2),.int .i64 (max a.c3 b.c3)],.slice C1 (srt (a.l++b.l)).length cp1] W fun e w'=>∃C2 cp2,e= .returned (.agg #[.int .i64 F.c0,.int .i64 F.c1,.int .i64 F.c2,.int .i64 F.c3,.slice C2 F.l.length cp2])∧Row w' C2 F.l∧(C2=none→cp2=0)∧(∀x,C2=some x→W.heap.size≤x.block)∧Below wr.heap.size wr w'∧Below W.heap.size W w':=fun W C1 cp1 hr1 hb=>by
     have h:=fold_any (joinK a b) (srt (a.l++b.l)) C1 cp1 W rfl hHH.out.1 (by rw[srt_length,List.length_append];omega) hHH.out.2 hr1
     rw[hF] at h
     exact h.mono fun e w' ⟨C2,cp2,h1,h2,h3,h4,h5⟩=>⟨C2,cp2,h1,h2,h3,h4,hb.trans (h5.mono hb.size),h5⟩
    have hFF:Hid (joinF a b=F):=hF
    have hrisH:Hid (∀(W:World),Below wr.heap.size wr W→_):=hris
    have hfoldH:Hid (∀(W:World) (C1:Option Addr) (cp1:Nat),Row W C1 (srt (a.l++b.l))→Below wr.heap.size wr W→_):=hfold
    clear hris hfold i0 i1 i2 i3 hF
    obtain ⟨c0,c1,c2,c3,cf,clt⟩:=(show ClkAt _ _ _ _ _ _ from hck)
    obtain ⟨a0,a1,a2,a3,a4,alt',_⟩:=(show CtxAt _ _ _ _ _ from haR)
    obtain ⟨b0,b1,b2,b3,b4,blt',_⟩:=(show CtxAt _ _ _ _ _ from hbR)
    have hKeep:Hid (∀w':World,Below wr.heap.size wr w'→(fun w'=>w'.cell? ⟨w1.heap.size,0,none⟩=some (.int .i64 (max a.c0 b.c0))∧w'.cell? ⟨w1.heap.size,1,none⟩=some (.int .i64 (max a.c1 b.c1))∧w'.cell? ⟨w1.heap.size,2,none⟩=some (.int .i64 (max a.c2 b.c2))∧w'.cell? ⟨w1.heap.size,3,none⟩=some (.int .i64 (max a.c3 b.c3))∧w'.cell? ⟨w.heap.size,4,none⟩=some (.slice A a.l.length ca)∧w'.cell? ⟨w.heap.size+1,4,none⟩=some (.slice B b.l.length cb)) w'):=fun w' hb=>⟨(hb.cell (p:=⟨w1.heap.size,0,none⟩) clt).trans c0,(hb.cell (p:=⟨w1.heap.size,1,none⟩) clt).trans c1,(hb.cell (p:=⟨w1.heap.size,2,none⟩) clt).trans c2,(hb.cell (p:=⟨w1.heap.size,3,none⟩) clt).trans c3,(hb.cell (p:=⟨w.heap.size,4,none⟩) alt').trans a4,(hb.cell (p:=⟨w.heap.size+1,4,none⟩) blt').trans b4⟩
    have hZR:Hid (ZAt wr (w.heap.size+1+1)):=⟨hzR.k0,hzR.k1,hzR.k2,hzR.k3,hzR.k4,hzfR,hzR.lt⟩
    go_wp2
    have hbd:Below wr.heap.size wr wr.drew:=(Below.refl _ _).drew
    have hbdA:Hid (Below wr.heap.size wr (wr.drew.alloc (.cells #[.int .i64 0,.int .i64 0,.int .i64 0,.int .i64 0,.slice none 0 0] 34))):=hbd.alloc (Nat.le_refl _) _
    clear a0 a1 a2 a3 a4 b0 b1 b2 b3 b4 c0 c1 c2 c3 cf hck haR hbR hzR z0 z1 z2 z3 z4 hf0 hf1 hf2 hf3 hk0 hzf1 hzfR ha1 hb1 hz1
    go_region_held (fun w'=>w'.cell? ⟨w1.heap.size,0,none⟩=some (.int .i64 (max a.c0 b.c0))∧w'.cell? ⟨w1.heap.size,1,none⟩=some (.int .i64 (max a.c1 b.c1))∧w'.cell? ⟨w1.heap.size,2,none⟩=some (.int .i64 (max a.c2 b.c2))∧w'.cell? ⟨w1.heap.size,3,none⟩=some (.int .i64 (max a.c3 b.c3))∧w'.cell? ⟨w.heap.size,4,none⟩=some (.slice A a.l.length ca)∧w'.cell? ⟨w.heap.size+1,4,none⟩=some (.slice B b.l.length cb)) (first|exact hKeep.out _ hbd|exact hKeep.out _ hbdA.out|exact hKeep.out _ hbX.out|exact hKeep.out _ (hbX.out.alloc hbX.out.size _)|exact hKeep.out _ hbY.out|exact hKeep.out _ (hbY.out.alloc hbY.out.size _)|exact hKeep.out _ (below_set5 hbY.out (by first|exact Nat.le_refl _|exact hbX.out.size) _ _ _ _ _)) (first|(go_at_call 65;(first|refine Calls.mono (show Calls _ _ _ _ _ from hrisH.out _ hbd) ?_|refine Calls.mono (show Calls _ _ _ _ _ from hrisH.out _ hbdA.out) ?_);rintro e wX ⟨C1,cp1,rfl,hrowX,hbX0,hX0⟩;have hbX:Hid (Below wr.heap.size wr wX):=hbX0;have hrX:Hid (Row wX C1 (srt (a.l++b.l))):=hrowX;clear hbX0 hrowX;first|(have hzX:Hid (ZAt wX wr.heap.size):=(ZAt.new wr.drew 34 rfl).below hX0;clear hX0)|clear hX0)|(go_at_call 64;(first|refine Calls.mono (show Calls _ _ _ _ _ from hfoldH.out _ C1 cp1 hrX.out hbX.out) ?_|refine Calls.mono (show Calls _ _ _ _ _ from hfoldH.out _ C1 cp1 (hrX.out.gr ((Gr.refl _).alloc _)) (hbX.out.alloc hbX.out.size _)) ?_);rintro e wY ⟨C2,cp2,rfl,hrowY,hCY,hCbY0,hbY0,hY0⟩;have hbY:Hid (Below wr.heap.size wr wY):=hbY0;have hrY:Hid (Row wY C2 F.l):=hrowY;have hCbY:Hid (∀x,C2=some x→_):=hCbY0;clear hbY0 hrowY hCbY0;first|(have hzY:Hid (ZAt wY wr.heap.size):=hzX.out.below hY0;obtain ⟨y0,y1,y2,y3,y4,yf,ylt⟩:=hzY.out)|(have hzY:Hid (ZAt wY wX.heap.size):=(ZAt.new wX 34 rfl).below hY0;obtain ⟨y0,y1,y2,y3,y4,yf,ylt⟩:=hzY.out)|skip))
    ·have hwr:w.heap.size+1+1<wr.heap.size:=hZR.out.lt
     have hFV:CtxAt (wY.alloc (.cells #[.int .i64 F.c0,.int .i64 F.c1,.int .i64 F.c2,.int .i64 F.c3,.slice C2 F.l.length cp2] 34)) wY.heap.size F C2 cp2:=CtxAt.new 34 hrY.out rfl
     have hZV:ZAt (wY.alloc (.cells #[.int .i64 F.c0,.int .i64 F.c1,.int .i64 F.c2,.int .i64 F.c3,.slice C2 F.l.length cp2] 34)) (w.heap.size+1+1):=(hZR.out.below hbY.out).below ((Below.refl _ _).alloc (Nat.le_refl _) _)
     have hbV:Hid (Below w.heap.size w (wY.alloc (.cells #[.int .i64 F.c0,.int .i64 F.c1,.int .i64 F.c2,.int .i64 F.c3,.slice C2 F.l.length cp2] 34))):=(hbwR.out.trans (hbY.out.mono hbwR.out.size)).alloc (Nat.le_trans hbwR.out.size hbY.out.size) _
     have hC2:Hid (∀x,C2=some x→w.heap.size+1+1<x.block):=fun x hx=>by have h1:=hCbY.out x hx;have h2:=hbX.out.size;first|omega|(simp at h1;omega)
     generalize (wY.alloc (.cells #[.int .i64 F.c0,.int .i64 F.c1,.int .i64 F.c2,.int .i64 F.c3,.slice C2 F.l.length cp2] 34))=V at hFV hZV hbV ⊢
     obtain ⟨f0,f1,f2,f3,f4,flt,frow⟩:=(show CtxAt _ _ _ _ _ from hFV)
     obtain ⟨z0,z1,z2,z3,z4,zf,zl⟩:=(show ZAt _ _ from hZV)
     by_cases h400:400<F.l.length
     ·have h400z:(400:Int)<(F.l.length:Int):=by omega
      have hfin:Hid (joinE a b=2∧joinC a b=zeroC):=by
       have h1:joinE a b=2:=by unfold joinE;rw[if_pos heH.out,hFF.out,if_pos h400]
       exact ⟨h1,by simp[joinC,h1]⟩
      go_wp2
      rw[hfin.out.1,hfin.out.2]
      exact bodyPost_ret (v:= .tuple #[.agg #[.int .i64 0,.int .i64 0,.int .i64 0,.int .i64 0,.slice none 0 0],.int .i64 2]) (by simp[results,Tryz.results40,go_sem,z0,z1,z2,z3,z4]) rfl ⟨none,0,rfl,Or.inl rfl,fun _=>rfl,(fun x hx=>by cases hx),below_set5 hbV.out (by omega) _ _ _ _ _⟩
     ·have h400z:¬(400:Int)<(F.l.length:Int):=by omega
      have hfin:Hid (joinE a b=0∧joinC a b=F):=by
       have h1:joinE a b=0:=by unfold joinE;rw[if_pos heH.out,hFF.out,if_neg h400]
       exact ⟨h1,by simp[joinC,h1,hFF.out]⟩
      have hCn:∀x,C2=some x→x.block≠w.heap.size+1+1:=fun x hx=>by have:=hC2.out x hx;omega
      go_wp2
      rw[hfin.out.1,hfin.out.2]
      refine bodyPost_ret (v:= .tuple #[.agg #[.int .i64 F.c0,.int .i64 F.c1,.int .i64 F.c2,.int .i64 F.c3,.slice C2 F.l.length cp2],.int .i64 0]) (by simp[results,Tryz.results40,go_sem,z0,z1,z2,z3,z4]) rfl ⟨C2,cp2,rfl,?_,hCY,fun x hx=>by have:=hC2.out x hx;omega,below_set5 hbV.out (by omega) _ _ _ _ _⟩
      exact ((((frow.setCell _ hCn).setCell _ hCn).setCell _ hCn).setCell _ hCn).setCell _ hCn
    ·have hwr:w.heap.size+1+1<wr.heap.size:=hZR.out.lt
     have hFV:CtxAt (((((wY.setCell ⟨wX.heap.size,0,none⟩ (.int .i64 F.c0)).setCell ⟨wX.heap.size,1,none⟩ (.int .i64 F.c1)).setCell ⟨wX.heap.size,2,none⟩ (.int .i64 F.c2)).setCell ⟨wX.heap.size,3,none⟩ (.int .i64 F.c3)).setCell ⟨wX.heap.size,4,none⟩ (.slice C2 F.l.length cp2)) wX.heap.size F C2 cp2:=(hzY.out.ctx).set hrY.out (fun x hx=>by have:=hCbY.out x hx;first|omega|(simp at this;omega))
     have hZV:ZAt (((((wY.setCell ⟨wX.heap.size,0,none⟩ (.int .i64 F.c0)).setCell ⟨wX.heap.size,1,none⟩ (.int .i64 F.c1)).setCell ⟨wX.heap.size,2,none⟩ (.int .i64 F.c2)).setCell ⟨wX.heap.size,3,none⟩ (.int .i64 F.c3)).setCell ⟨wX.heap.size,4,none⟩ (.slice C2 F.l.length cp2)) (w.heap.size+1+1):=(hZR.out.below hbY.out).other5 _ _ _ _ _ (by have:=hbX.out.size;omega)
     have hbV:Hid (Below w.heap.size w (((((wY.setCell ⟨wX.heap.size,0,none⟩ (.int .i64 F.c0)).setCell ⟨wX.heap.size,1,none⟩ (.int .i64 F.c1)).setCell ⟨wX.heap.size,2,none⟩ (.int .i64 F.c2)).setCell ⟨wX.heap.size,3,none⟩ (.int .i64 F.c3)).setCell ⟨wX.heap.size,4,none⟩ (.slice C2 F.l.length cp2))):=below_set5 (hbwR.out.trans (hbY.out.mono hbwR.out.size)) (by have:=hbX.out.size;omega) _ _ _ _ _
     have hC2:Hid (∀x,C2=some x→w.heap.size+1+1<x.block):=fun x hx=>by have h1:=hCbY.out x hx;have h2:=hbX.out.size;first|omega|(simp at h1;omega)
     generalize (((((wY.setCell ⟨wX.heap.size,0,none⟩ (.int .i64 F.c0)).setCell ⟨wX.heap.size,1,none⟩ (.int .i64 F.c1)).setCell ⟨wX.heap.size,2,none⟩ (.int .i64 F.c2)).setCell ⟨wX.heap.size,3,none⟩ (.int .i64 F.c3)).setCell ⟨wX.heap.size,4,none⟩ (.slice C2 F.l.length cp2))=V at hFV hZV hbV ⊢
     obtain ⟨f0,f1,f2,f3,f4,flt,frow⟩:=(show CtxAt _ _ _ _ _ from hFV)
     obtain ⟨z0,z1,z2,z3,z4,zf,zl⟩:=(show ZAt _ _ from hZV)
     by_cases h400:400<F.l.length
     ·have h400z:(400:Int)<(F.l.length:Int):=by omega
      have hfin:Hid (joinE a b=2∧joinC a b=zeroC):=by
       have h1:joinE a b=2:=by unfold joinE;rw[if_pos heH.out,hFF.out,if_pos h400]
       exact ⟨h1,by simp[joinC,h1]⟩
      go_wp2
      rw[hfin.out.1,hfin.out.2]
      exact bodyPost_ret (v:= .tuple #[.agg #[.int .i64 0,.int .i64 0,.int .i64 0,.int .i64 0,.slice none 0 0],.int .i64 2]) (by simp[results,Tryz.results40,go_sem,z0,z1,z2,z3,z4]) rfl ⟨none,0,rfl,Or.inl rfl,fun _=>rfl,(fun x hx=>by cases hx),below_set5 hbV.out (by omega) _ _ _ _ _⟩
     ·have h400z:¬(400:Int)<(F.l.length:Int):=by omega
      have hfin:Hid (joinE a b=0∧joinC a b=F):=by
       have h1:joinE a b=0:=by unfold joinE;rw[if_pos heH.out,hFF.out,if_neg h400]
       exact ⟨h1,by simp[joinC,h1,hFF.out]⟩
      have hCn:∀x,C2=some x→x.block≠w.heap.size+1+1:=fun x hx=>by have:=hC2.out x hx;omega
      go_wp2
      rw[hfin.out.1,hfin.out.2]
      refine bodyPost_ret (v:= .tuple #[.agg #[.int .i64 F.c0,.int .i64 F.c1,.int .i64 F.c2,.int .i64 F.c3,.slice C2 F.l.length cp2],.int .i64 0]) (by simp[results,Tryz.results40,go_sem,z0,z1,z2,z3,z4]) rfl ⟨C2,cp2,rfl,?_,hCY,fun x hx=>by have:=hC2.out x hx;omega,below_set5 hbV.out (by omega) _ _ _ _ _⟩
      exact ((((frow.setCell _ hCn).setCell _ hCn).setCell _ hCn).setCell _ hCn).setCell _ hCn
    ·have hwr:w.heap.size+1+1<wr.heap.size:=hZR.out.lt
     have hFV:CtxAt (((((wY.setCell ⟨wr.heap.size,0,none⟩ (.int .i64 F.c0)).setCell ⟨wr.heap.size,1,none⟩ (.int .i64 F.c1)).setCell ⟨wr.heap.size,2,none⟩ (.int .i64 F.c2)).setCell ⟨wr.heap.size,3,none⟩ (.int .i64 F.c3)).setCell ⟨wr.heap.size,4,none⟩ (.slice C2 F.l.length cp2)) wr.heap.size F C2 cp2:=(hzY.out.ctx).set hrY.out (fun x hx=>by have:=hCbY.out x hx;have:=hzX.out.lt;omega)
     have hZV:ZAt (((((wY.setCell ⟨wr.heap.size,0,none⟩ (.int .i64 F.c0)).setCell ⟨wr.heap.size,1,none⟩ (.int .i64 F.c1)).setCell ⟨wr.heap.size,2,none⟩ (.int .i64 F.c2)).setCell ⟨wr.heap.size,3,none⟩ (.int .i64 F.c3)).setCell ⟨wr.heap.size,4,none⟩ (.slice C2 F.l.length cp2)) (w.heap.size+1+1):=(hZR.out.below hbY.out).other5 _ _ _ _ _ (by omega)
     have hbV:Hid (Below w.heap.size w (((((wY.setCell ⟨wr.heap.size,0,none⟩ (.int .i64 F.c0)).setCell ⟨wr.heap.size,1,none⟩ (.int .i64 F.c1)).setCell ⟨wr.heap.size,2,none⟩ (.int .i64 F.c2)).setCell ⟨wr.heap.size,3,none⟩ (.int .i64 F.c3)).setCell ⟨wr.heap.size,4,none⟩ (.slice C2 F.l.length cp2))):=below_set5 (hbwR.out.trans (hbY.out.mono hbwR.out.size)) (by omega) _ _ _ _ _
     have hC2:Hid (∀x,C2=some x→w.heap.size+1+1<x.block):=fun x hx=>by have h1:=hCbY.out x hx;have h2:=hbX.out.size;first|omega|(simp at h1;omega)
     generalize (((((wY.setCell ⟨wr.heap.size,0,none⟩ (.int .i64 F.c0)).setCell ⟨wr.heap.size,1,none⟩ (.int .i64 F.c1)).setCell ⟨wr.heap.size,2,none⟩ (.int .i64 F.c2)).setCell ⟨wr.heap.size,3,none⟩ (.int .i64 F.c3)).setCell ⟨wr.heap.size,4,none⟩ (.slice C2 F.l.length cp2))=V at hFV hZV hbV ⊢
     obtain ⟨f0,f1,f2,f3,f4,flt,frow⟩:=(show CtxAt _ _ _ _ _ from hFV)
     obtain ⟨z0,z1,z2,z3,z4,zf,zl⟩:=(show ZAt _ _ from hZV)
     by_cases h400:400<F.l.length
     ·have h400z:(400:Int)<(F.l.length:Int):=by omega
      have hfin:Hid (joinE a b=2∧joinC a b=zeroC):=by
       have h1:joinE a b=2:=by unfold joinE;rw[if_pos heH.out,hFF.out,if_pos h400]
       exact ⟨h1,by simp[joinC,h1]⟩
      go_wp2
      rw[hfin.out.1,hfin.out.2]
      exact bodyPost_ret (v:= .tuple #[.agg #[.int .i64 0,.int .i64 0,.int .i64 0,.int .i64 0,.slice none 0 0],.int .i64 2]) (by simp[results,Tryz.results40,go_sem,z0,z1,z2,z3,z4]) rfl ⟨none,0,rfl,Or.inl rfl,fun _=>rfl,(fun x hx=>by cases hx),below_set5 hbV.out (by omega) _ _ _ _ _⟩
     ·have h400z:¬(400:Int)<(F.l.length:Int):=by omega
      have hfin:Hid (joinE a b=0∧joinC a b=F):=by
       have h1:joinE a b=0:=by unfold joinE;rw[if_pos heH.out,hFF.out,if_neg h400]
       exact ⟨h1,by simp[joinC,h1,hFF.out]⟩
      have hCn:∀x,C2=some x→x.block≠w.heap.size+1+1:=fun x hx=>by have:=hC2.out x hx;omega
      go_wp2
      rw[hfin.out.1,hfin.out.2]
      refine bodyPost_ret (v:= .tuple #[.agg #[.int .i64 F.c0,.int .i64 F.c1,.int .i64 F.c2,.int .i64 F.c3,.slice C2 F.l.length cp2],.int .i64 0]) (by simp[results,Tryz.results40,go_sem,z0,z1,z2,z3,z4]) rfl ⟨C2,cp2,rfl,?_,hCY,fun x hx=>by have:=hC2.out x hx;omega,below_set5 hbV.out (by omega) _ _ _ _ _⟩
      exact ((((frow.setCell _ hCn).setCell _ hCn).setCell _ hCn).setCell _ hCn).setCell _ hCn
 ·have hfin:Hid (joinE a b=errB a b∧joinC a b=zeroC):=by
   have h1:joinE a b=errB a b:=by simp[joinE,he]
   exact ⟨h1,by simp[joinC,h1,he]⟩
  have heb:(errB a b != 0)=true:=by simpa using he
  clear he
  go_wp2
  rw[hfin.out.1,hfin.out.2]
  exact bodyPost_ret (v:= .tuple #[.agg #[.int .i64 0,.int .i64 0,.int .i64 0,.int .i64 0,.slice none 0 0],.int .i64 (errB a b)]) (by simp[results,Tryz.results40,go_sem,z0,z1,z2,z3,z4]) rfl ⟨none,0,rfl,Or.inl rfl,fun _=>rfl,(fun x hx=>by cases hx),below_set5 hbw1.out (by omega) _ _ _ _ _⟩
end Go.Proofs.YtkadjjmkokhldaaGreat

namespace Go.Proofs.YtkadjjmkokhldaaGreat
open Go.RowKit Go.Sort

/-- A right context, but for its size. -/
structure Can (c:Ctx):Prop where
 ck:okClk c=true
 right:∀y∈c.l,rightB y=true
 above:∀y∈c.l,clk c y.1+1<y.2
 rise:c.l.Pairwise fun x y=>befB x y=true

theorem bef_trans {x y z:Int×Int} (h:befB x y=true) (k:befB y z=true):befB x z=true:=by rw[befB_iff] at *;omega
theorem bef_of {x y:Int×Int} (h:leD x y) (k:x≠y):befB x y=true:=by
 rw[befB_iff]
 rw[leD_iff] at h
 by_cases h1:x.1=y.1
 ·have:x.2≠y.2:=fun h2=>k (Prod.ext h1 h2)
  omega
 ·omega

theorem can_of_err {c:Ctx} (h:errC c=0):Can c:=by
 have hp:=errC_parts h
 have hr:=errC_right h
 refine ⟨hp.1,hr,?_,?_⟩
 ·intro y hy
  obtain ⟨j,hj,rfl⟩:=List.getElem_of_mem hy
  have:=hp.2.2 j hj
  cases j with
  | zero=>rw[okAt_zero hj rfl] at this;simp at this;omega
  | succ m=>rw[okAt_succ hj rfl rfl] at this;simp at this;omega
 ·have step:∀m (hm:m+1<c.l.length),befB c.l[m] c.l[m+1]=true:=by
   intro m hm
   have:=hp.2.2 (m+1) hm
   rw[okAt_succ hm rfl rfl] at this
   simp at this
   exact this.1.2
  rw[List.pairwise_iff_getElem]
  intro i j hi hj hij
  obtain ⟨d,rfl⟩:∃d,j=i+d+1:=⟨j-i-1,by omega⟩
  clear hij
  induction d with
  | zero=>exact step i hj
  | succ d ih=>exact bef_trans (ih (by omega)) (step (i+d+1) hj)

theorem err_of_can {c:Ctx} (h:Can c) (hl:c.l.length≤400):errC c=0:=by
 refine errC_ok h.ck hl fun k hk=> ?_
 have hr:=h.right _ (List.getElem_mem hk)
 have ha:=h.above _ (List.getElem_mem hk)
 cases k with
 | zero=>rw[okAt_zero hk rfl,hr];simp;omega
 | succ m =>
  have hb:=(List.pairwise_iff_getElem.1 h.rise) m (m+1) (by omega) hk (by omega)
  rw[okAt_succ hk rfl rfl,hr,hb];simp;omega

/-- One dot more: it has that dot more. -/
theorem has_pstep {c:Ctx} {x:Int×Int} (hx:rightB x=true) (z:Int×Int):hasB (pstep c x) z=true↔hasB c z=true∨z=x:=by
 have hn:=rightB_node hx
 unfold pstep
 by_cases hh:hasB c x=true
 ·rw[if_pos hh]
  constructor
  ·exact Or.inl
  ·rintro (h|rfl)
   ·exact h
   ·exact hh
 ·rw[if_neg hh]
  by_cases h2:x.2=clk c x.1+1
  ·rw[if_pos h2,hasB_iff,hasB_iff,setClk_l]
   constructor
   ·rintro (h|h)
    ·exact Or.inl (Or.inl h)
    ·rw[clk_setClk c x.1 x.2 z.1 hn.1 hn.2.1 h.1 (by omega)] at h
     by_cases hz:z.1=x.1
     ·rw[if_pos hz] at h
      by_cases hz2:z.2=x.2
      ·exact Or.inr (Prod.ext hz hz2)
      ·exact Or.inl (Or.inr ⟨h.1,h.2.1,h.2.2.1,by rw[hz];omega⟩)
     ·rw[if_neg hz] at h
      exact Or.inl (Or.inr h)
   ·rintro ((h|h)|rfl)
    ·exact Or.inl h
    ·refine Or.inr ⟨h.1,h.2.1,h.2.2.1,?_⟩
     rw[clk_setClk c x.1 x.2 z.1 hn.1 hn.2.1 h.1 (by omega)]
     by_cases hz:z.1=x.1
     ·rw[if_pos hz]
      have:=h.2.2.2
      rw[hz] at this
      omega
     ·rw[if_neg hz];exact h.2.2.2
    ·refine Or.inr ⟨hn.1,by omega,hn.2.2.1,?_⟩
     rw[clk_setClk c z.1 z.2 z.1 hn.1 hn.2.1 hn.1 hn.2.1,if_pos rfl]
     exact Int.le_refl _
  ·rw[if_neg h2,hasB_iff,hasB_iff]
   show (z∈c.l++[x]∨_)↔_
   rw[List.mem_append]
   constructor
   ·rintro ((h|h)|h)
    ·exact Or.inl (Or.inl h)
    ·exact Or.inr (by simpa using h)
    ·exact Or.inl (Or.inr h)
   ·rintro ((h|h)|h)
    ·exact Or.inl (Or.inl h)
    ·exact Or.inr h
    ·exact Or.inl (Or.inr (by simp[h]))

theorem has_fold (l:List (Int×Int)):∀(c:Ctx),(∀x∈l,rightB x=true)→∀z,hasB (l.foldl pstep c) z=true↔hasB c z=true∨z∈l:=by
 induction l with
 | nil=>intro c _ z;simp
 | cons x l ih =>
  intro c hr z
  show hasB (l.foldl pstep (pstep c x)) z=true↔_
  rw[ih (pstep c x) (fun y hy=>hr y (List.mem_cons_of_mem _ hy)) z,has_pstep (hr x (List.mem_cons_self ..)),List.mem_cons]
  constructor
  ·rintro ((h|h)|h)
   ·exact Or.inl h
   ·exact Or.inr (Or.inl h)
   ·exact Or.inr (Or.inr h)
  ·rintro (h|h|h)
   ·exact Or.inl (Or.inl h)
   ·exact Or.inl (Or.inr h)
   ·exact Or.inr h

theorem can_pstep {c:Ctx} {p:Option (Int×Int)} {x:Int×Int} {r:List (Int×Int)} (hc:Can c) (h:Mid c p (x::r)) (hx:rightB x=true) (hs:∀y∈r,leD x y):Can (pstep c x):=by
 have hm:=mid_step h hx hs
 have hle:∀y∈c.l,leD y x:=fun y hy=>by
  obtain ⟨q,hq,hyq⟩:=h.last y hy
  exact leD_trans hyq (h.rest q hq x (List.mem_cons_self ..))
 have hmid:=hm.2
 rw[←hm.1] at hmid
 have hclk:okClk (pstep c x)=true:=by rw[hm.1];exact step_clk hc.ck hx
 refine ⟨hclk,?_,hmid.above,?_⟩
 ·unfold pstep
  by_cases hh:hasB c x=true
  ·rw[if_pos hh];exact hc.right
  ·rw[if_neg hh]
   by_cases h2:x.2=clk c x.1+1
   ·rw[if_pos h2,setClk_l];exact hc.right
   ·rw[if_neg h2]
    intro y hy
    rcases List.mem_append.1 hy with hy|hy
    ·exact hc.right y hy
    ·obtain rfl:y=x:=by simpa using hy
     exact hx
 ·unfold pstep
  by_cases hh:hasB c x=true
  ·rw[if_pos hh];exact hc.rise
  ·rw[if_neg hh]
   by_cases h2:x.2=clk c x.1+1
   ·rw[if_pos h2,setClk_l];exact hc.rise
   ·rw[if_neg h2]
    refine List.pairwise_append.2 ⟨hc.rise,List.pairwise_singleton _ _,?_⟩
    intro y hy z hz
    obtain rfl:z=x:=by simpa using hz
    exact bef_of (hle y hy) fun e=>hh ((hasB_iff _ _).2 (Or.inl (by rw[←e];exact hy)))

theorem can_fold (l:List (Int×Int)):∀(c:Ctx) (p:Option (Int×Int)),Can c→Mid c p l→l.Pairwise leD→(∀x∈l,rightB x=true)→Can (l.foldl pstep c):=by
 induction l with
 | nil=>intro c p hc _ _ _;exact hc
 | cons x l ih =>
  intro c p hc h hs hr
  have hp:=List.pairwise_cons.1 hs
  have hm:=mid_step h (hr x (List.mem_cons_self ..)) hp.1
  have hmid:=hm.2
  rw[←hm.1] at hmid
  exact ih (pstep c x) (some x) (can_pstep hc h (hr x (List.mem_cons_self ..)) hp.1) hmid hp.2 (fun y hy=>hr y (List.mem_cons_of_mem _ hy))

theorem can_none {c:Ctx} (hc:c.l=[]) (hk:okClk c=true):Can c :=
 ⟨hk,(fun y hy=>by rw[hc] at hy;cases hy),(fun y hy=>by rw[hc] at hy;cases hy),by rw[hc];exact List.Pairwise.nil⟩

theorem foldS_can {c:Ctx} (hc:c.l=[]) (hk:okClk c=true) {l:List (Int×Int)} (hr:∀x∈l,rightB x=true):Can (foldS c l):=by
 rw[foldS_pstep hc hr]
 exact can_fold (srt l) c none (can_none hc hk) (mid_start hc _) (srt_sorted l) (fun x hx=>hr x (srt_mem hx))
theorem foldS_has {c:Ctx} (hc:c.l=[]) {l:List (Int×Int)} (hr:∀x∈l,rightB x=true) (z:Int×Int):hasB (foldS c l) z=true↔hasB c z=true∨z∈l:=by
 rw[foldS_pstep hc hr,has_fold (srt l) c (fun x hx=>hr x (srt_mem hx)) z,(srt_perm l).mem_iff]

theorem joinF_can {a b:Ctx} (ha:Can a) (hb:Can b):Can (joinF a b) :=
 foldS_can rfl (joinK_ok ha.ck hb.ck) fun x hx=>by
  rcases List.mem_append.1 hx with h|h
  ·exact ha.right x h
  ·exact hb.right x h
theorem joinF_has {a b:Ctx} (ha:Can a) (hb:Can b) (z:Int×Int):hasB (joinF a b) z=true↔hasB a z=true∨hasB b z=true:=by
 unfold joinF
 rw[foldS_has rfl (fun x hx=>by
  rcases List.mem_append.1 hx with h|h
  ·exact ha.right x h
  ·exact hb.right x h) z,List.mem_append]
 have hz:hasB (joinK a b) z=true↔0≤z.1∧z.1≤3∧1≤z.2∧z.2≤max (clk a z.1) (clk b z.1):=by
  rw[hasB_iff,clk_joinK]
  constructor
  ·rintro (h|h)
   ·cases h
   ·exact h
  ·exact Or.inr
 rw[hz,hasB_iff,hasB_iff]
 constructor
 ·rintro (h|h|h)
  ·by_cases h1:z.2≤clk a z.1
   ·exact Or.inl (Or.inr ⟨h.1,h.2.1,h.2.2.1,h1⟩)
   ·exact Or.inr (Or.inr ⟨h.1,h.2.1,h.2.2.1,by omega⟩)
  ·exact Or.inl (Or.inl h)
  ·exact Or.inr (Or.inl h)
 ·rintro ((h|h)|(h|h))
  ·exact Or.inr (Or.inl h)
  ·exact Or.inl ⟨h.1,h.2.1,h.2.2.1,by omega⟩
  ·exact Or.inr (Or.inr h)
  ·exact Or.inl ⟨h.1,h.2.1,h.2.2.1,by omega⟩

theorem joinE_ok {a b:Ctx} (h:joinE a b=0):Can a∧Can b∧errB a b=0∧joinC a b=joinF a b∧(joinF a b).l.length≤400:=by
 have he:errB a b=0:=by
  unfold joinE at h
  by_cases he:errB a b=0
  ·exact he
  ·rw[if_neg he] at h;exact absurd h he
 have hl:(joinF a b).l.length≤400:=by
  unfold joinE at h
  rw[if_pos he] at h
  by_cases hl:400<(joinF a b).l.length
  ·rw[if_pos hl] at h;cases h
  ·omega
 exact ⟨can_of_err (errB_ok he).1,can_of_err (errB_ok he).2,he,by simp[joinC,h],hl⟩
end Go.Proofs.YtkadjjmkokhldaaGreat
