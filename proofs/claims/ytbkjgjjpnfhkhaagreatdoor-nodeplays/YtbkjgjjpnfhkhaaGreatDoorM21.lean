import Derived.Test.YtbkjgjjpnfhkhaaGreatDoorM04
set_option maxRecDepth 100000
set_option maxHeartbeats 8000000
open Go renaming Value → Z, World → H
open Go.IntKind renaming i64 → I
open Go.Obj renaming cells → J
open Go.Value renaming int → S, slice → O, tuple → Y, agg → X
namespace Go.Proofs.YtbkjgjjpnfhkhaaGreatDoor
open Go.RowKit Go.Sort

def dN (t:Tab) (key:Int):Int:=if ay t≠0 then ay t else if inB key 0 49=false then 1 else if t.e.any (dQ key)=false then 4 else cJ (ag (dQ key) t.e)
def du (t:Tab) (key:Int):Ctx:=if dN t key=0 then aM (ag (dQ key) t.e) else ar

structure Six (w:H) (B:Nat) (u0 u1 u2 u3 u4 u5:Z):Prop where
 k0:w.cell? ⟨B,0,none⟩=some u0
 k1:w.cell? ⟨B,1,none⟩=some u1
 k2:w.cell? ⟨B,2,none⟩=some u2
 k3:w.cell? ⟨B,3,none⟩=some u3
 k4:w.cell? ⟨B,4,none⟩=some u4
 k5:w.cell? ⟨B,5,none⟩=some u5
 fz:∀j,w.frozen? ⟨B,j,none⟩=false
 lt:B<w.heap.size
theorem Six.new (w:H) (u0 u1 u2 u3 u4 u5:Z) (T:TypeId) {B:Nat} (c:B=w.heap.size):Six (w.alloc (J #[u0,u1,u2,u3,u4,u5] T)) B u0 u1 u2 u3 u4 u5:=by subst c;exact ⟨ab (gR _) rfl,ab (gR _) rfl,ab (gR _) rfl,ab (gR _) rfl,ab (gR _) rfl,ab (gR _) rfl,fun j=>ee (gR _) j,by simp⟩
theorem Six.belowB {w w':H} {B N:Nat} {u0 u1 u2 u3 u4 u5:Z} (h:Six w B u0 u1 u2 u3 u4 u5) (k:Below N w w') (c:B<N):Six w' B u0 u1 u2 u3 u4 u5 :=
 ⟨(k.cell (p:=(jb5 B 0)) c).trans h.k0,(k.cell (p:=(jb5 B 1)) c).trans h.k1,(k.cell (p:=(jb5 B 2)) c).trans h.k2,(k.cell (p:=(jb5 B 3)) c).trans h.k3,(k.cell (p:=(jb5 B 4)) c).trans h.k4,(k.cell (p:=(jb5 B 5)) c).trans h.k5,fun j=>(k.frozen (p:=(jb5 B j)) c).trans (h.fz j),nL h.lt k.size⟩
theorem Six.below {w w':H} {B:Nat} {u0 u1 u2 u3 u4 u5:Z} (h:Six w B u0 u1 u2 u3 u4 u5) (k:jb2 w w'):Six w' B u0 u1 u2 u3 u4 u5:=h.belowB k h.lt
theorem Six.gr {w w':H} {B:Nat} {u0 u1 u2 u3 u4 u5:Z} (h:Six w B u0 u1 u2 u3 u4 u5) (k:Gr w w'):Six w' B u0 u1 u2 u3 u4 u5:=h.below k.below
theorem Six.set {w:H} {B:Nat} {u0 u1 u2 u3 u4 u5:Z} (h:Six w B u0 u1 u2 u3 u4 u5) (v0 v1 v2 v3 v4 v5:Z):Six ((((((w.jb3 B 0 v0).jb3 B 1 v1).jb3 B 2 v2).jb3 B 3 v3).jb3 B 4 v4).jb3 B 5 v5) B v0 v1 v2 v3 v4 v5:=by
 have c:=h.k0;have d:=h.k1;have f:=h.k2;have g:=h.k3;have k:=h.k4;have l:=h.k5;refine ⟨?_,?_,?_,?_,?_,?_,fun j=> ?_,by simpa[World.setCell] using h.lt⟩
 ·exact aa (aa (aa (aa (aa (aa c)))))
 ·exact aa (aa (aa (aa (aa (aa d)))))
 ·exact aa (aa (aa (aa (aa (aa f)))))
 ·exact aa (aa (aa (aa (aa (aa g)))))
 ·exact aa (aa (aa (aa (aa (aa k)))))
 ·exact aa (aa (aa (aa (aa (aa l)))))
 ·simp only[World.frozen?_setCell];exact h.fz j
abbrev qD (w:H) (B:Nat):Prop:=Six w B (S I 0) (S I 0) (S I 0) (S I 0) (O none 0 0) (O none 0 0)

theorem ac {n:Nat} {w W:H} (h:Below n w W) {B:Nat} (c:n<=B) (u0 u1 u2 u3 u4 u5:Z):Below n w ((((((W.jb3 B 0 u0).jb3 B 1 u1).jb3 B 2 u2).jb3 B 3 u3).jb3 B 4 u4).jb3 B 5 u5):=(au h c u0 u1 u2 u3 u4).setCell c u5
theorem aC.setCell {α : Type} {enc: α -> List Z} {k:Nat} {w:H} {A:Option Addr} {l:List α} (h:aC enc k w A l) {B m:Nat} (u:Z) (d:∀x,A=some x->x.block≠B):aC enc k (w.jb3 B m u) A l:=by
 rcases h with h|⟨b,off,rfl,hb,hc⟩
 ·exact oL h
 ·have c:=d _ rfl;refine oR ⟨b,off,rfl,by simpa[World.setCell] using hb,fun j f i hi=> ?_⟩;rw[<-hc j f i hi];exact World.cell?_setCell_other _ _ _ _ (by intro e;injection e with e1;exact c e1.symm)

theorem ye (t:Tab) (A:Option Addr) (ca:Nat) (D:Option Addr) (cd:Nat) (key:Int) (w:H) (hl:t.c.l.length<=maxLen) (bc:t.e.length<=maxLen) (hr:Row w A t.c.l) (hd:av w D t.e) :
  Calls Tryz.prog 45 #[X (T6 t A ca D cd).toArray,S I key] w fun e w'=>∃C g,e= .returned (Y #[X #[S I (du t key).c0,S I (du t key).c1,S I (du t key).c2,S I (du t key).c3,O C (du t key).l.length g,O none 0 0],S I (dN t key)])/\Row w' C (du t key).l/\(C=none->g=0)/\(∀a,C=some a->w.heap.size<=a.block)/\jb2 w w':=by
 have bG:Gr w (((w.alloc (J #[S I t.c.c0,S I t.c.c1,S I t.c.c2,S I t.c.c3,O A t.c.l.length ca,O D t.e.length cd] 35)).alloc (J #[S I key] 3)).alloc (J #[S I 0,S I 0,S I 0,S I 0,O none 0 0,O none 0 0] 35)):=(((gR w).alloc _).alloc _).alloc _;have a2:TabAt (((w.alloc (J #[S I t.c.c0,S I t.c.c1,S I t.c.c2,S I t.c.c3,O A t.c.l.length ca,O D t.e.length cd] 35)).alloc (J #[S I key] 3)).alloc (J #[S I 0,S I 0,S I 0,S I 0,O none 0 0,O none 0 0] 35)) w.heap.size t A ca D cd:=(TabAt.new 35 hr hd rfl).gr (((gR _).alloc _).alloc _);have bN:jb1 (((w.alloc (J #[S I t.c.c0,S I t.c.c1,S I t.c.c2,S I t.c.c3,O A t.c.l.length ca,O D t.e.length cd] 35)).alloc (J #[S I key] 3)).alloc (J #[S I 0,S I 0,S I 0,S I 0,O none 0 0,O none 0 0] 35)) (w.heap.size+1) 0 (S I key):=jf ((gR _).alloc _) rfl;have b1:qD (((w.alloc (J #[S I t.c.c0,S I t.c.c1,S I t.c.c2,S I t.c.c3,O A t.c.l.length ca,O D t.e.length cd] 35)).alloc (J #[S I key] 3)).alloc (J #[S I 0,S I 0,S I 0,S I 0,O none 0 0,O none 0 0] 35)) (w.heap.size+1+1):=Six.new _ _ _ _ _ _ _ 35 (by simp);have bt:=eE t A ca D cd (((w.alloc (J #[S I t.c.c0,S I t.c.c1,S I t.c.c2,S I t.c.c3,O A t.c.l.length ca,O D t.e.length cd] 35)).alloc (J #[S I key] 3)).alloc (J #[S I 0,S I 0,S I 0,S I 0,O none 0 0,O none 0 0] 35)) hl bc a2.row a2.rowC;have ba:Hid _:=bt;go_enter Tryz.func45,Tryz.ntmps45;go_wp2_with fail;refine ja0 ba ?_;rintro e w1 ⟨rfl,ah⟩;have a3:=a2.gr ah;have a4:=b1.gr ah;have be:=(ah.cell (p:=(jb5 (w.heap.size+1) 0)) (by simp)).trans bN;have n:Gr w w1:=bG.trans ah;obtain ⟨z0,z1,z2,z3,z4,z5,zf,bp⟩:=(show Six _ _ _ _ _ _ _ _ from a4);by_cases he:ay t=0
 ·have bC:(ay t != 0)=false:=by simpa using he
  have a0:=ja1 he;have bd:t.e.length<=400:=(af he).2.1;cases r:inB key 0 49
  ·have d:Hid (dN t key=1/\du t key=ar):=(by have h1:dN t key=1:=(by simp[dN,a0.out,r]);exact ⟨h1,by simp[du,h1]⟩);go_wp2_with (go_at_call 83;refine (sb r _).mono ?_;rintro e w1 ⟨rfl,rfl⟩);rw[d.out.1,d.out.2];exact bodyPost_ret (v:= Y #[X #[S I 0,S I 0,S I 0,S I 0,O none 0 0,O none 0 0],S I 1]) (by simp[results,Tryz.results45,go_sem,z0,z1,z2,z3,z4,z5]) rfl ⟨none,0,rfl,oL rfl,fun _=>rfl,(fun x hx=>by cases hx),ac n.below (by omega) _ _ _ _ _ _⟩
  ·have k5:=a3.k5;have eg:∀an w,(callFunc 84 an).run Tryz.prog w= .ok (.enter 84 an) w:=enters_of Tryz.func84 (by kernel_rfl) rfl;have bs:=fG (dQ key) 84 #[.pointer (jb4 (w.heap.size+1) 0)] eg t.e D cd w1 bc a3.rowC (AY key (w.heap.size+1) w1 (by omega) be);have a9:Hid _:=bs;go_wp2_with (first|(go_at_call 83;refine (sb r _).mono ?_;rintro e w1 ⟨rfl,rfl⟩)|fail);refine ja0 a9 ?_;rintro e w2 ⟨rfl,m⟩;have bo:=a3.gr m;have k5:=bo.k5;have b0:=(m.cell (p:=(jb5 (w.heap.size+1) 0)) (show w.heap.size+1<_ by omega)).trans be;obtain ⟨z0,z1,z2,z3,z4,z5,zf,bp⟩:=(show Six _ _ _ _ _ _ _ _ from a4.gr m);have ap:Gr w w2:=n.trans m;cases a7:t.e.any (dQ key)
   ·have d:Hid (dN t key=4/\du t key=ar):=(by have h1:dN t key=4:=(by unfold dN;rw[if_neg (by simpa using a0.out),if_neg (by simp[r]),if_pos a7]);exact ⟨h1,by simp[du,h1]⟩);go_wp2;rw[d.out.1,d.out.2];exact bodyPost_ret (v:= Y #[X #[S I 0,S I 0,S I 0,S I 0,O none 0 0,O none 0 0],S I 4]) (by simp[results,Tryz.results45,go_sem,z0,z1,z2,z3,z4,z5]) rfl ⟨none,0,rfl,oL rfl,fun _=>rfl,(fun x hx=>by cases hx),ac ap.below (by omega) _ _ _ _ _ _⟩
   ·have bv:=iN (dQ key) 84 #[.pointer (jb4 (w.heap.size+1) 0)] eg t.e D cd w2 bd bo.rowC (fun W hW x=>pA key (w.heap.size+1) x W (by have:=hW.size;omega) ((hW.cell (p:=(jb5 (w.heap.size+1) 0)) (show w.heap.size+1<_ by omega)).trans b0));have bb:Hid _:=bv;go_wp2_with fail;refine ja0 bb ?_;rintro e w3 ⟨C,g,rfl,R,hC,a6,a8⟩;have a5:=(a4.gr m).below a8;obtain ⟨z0,z1,z2,z3,z4,z5,zf,bp⟩:=(show Six _ _ _ _ _ _ _ _ from a5);have ao:Hid (jb2 w w3):=ap.below.trans (a8.mono (by omega));have u:Hid (dN t key=cJ (ag (dQ key) t.e)):=by show dN t key=_;unfold dN;rw[if_neg (by simpa using a0.out),if_neg (by simp[r]),if_neg (by simp[a7])]
    have a1:Hid (cJ (ag (dQ key) t.e)=0->du t key=aM (ag (dQ key) t.e)):=(fun h0=>by unfold du;rw[u.out,if_pos h0]);have bh:Hid (cJ (ag (dQ key) t.e)≠0->du t key=ar):=fun h0=>by unfold du;rw[u.out,if_neg h0]
    obtain ⟨F,hF⟩:=jb0 (aM (ag (dQ key) t.e));obtain ⟨E,hE⟩:=jb0 (cJ (ag (dQ key) t.e));rw[hF] at R a1 ⊢;rw[hE] at a1 bh u ⊢;have h:∀a,C=some a->a.block≠w.heap.size+1+1:=fun a ha=>by have:=a6 a ha;omega
    by_cases ad:E=0
    ·have d:=ja2 (u.out.trans ad) (a1.out ad);subst ad;have hV:=(a5.set (S I F.c0) (S I F.c1) (S I F.c2) (S I F.c3) (O C F.l.length g) (O none 0 0)).gr ((gR _).alloc (J (ja7 F C g) 32));have ak:Row _ C F.l:=(((((((R.setCell (B:=w.heap.size+1+1) (j:=0) (S I F.c0) h).setCell (j:=1) (S I F.c1) h).setCell (j:=2) (S I F.c2) h).setCell (j:=3) (S I F.c3) h).setCell (j:=4) (O C F.l.length g) h).setCell (j:=5) (O none 0 0) h)).gr ((gR _).alloc (J (ja7 F C g) 32));have f:=(ac ao.out (B:=w.heap.size+1+1) (by omega) (S I F.c0) (S I F.c1) (S I F.c2) (S I F.c3) (O C F.l.length g) (O none 0 0)).alloc (by simp;omega) (J (ja7 F C g) 32);have aL:Hid _:=hV;have k:Hid _:=f;have bl:Hid _:=ak;go_wp2;obtain ⟨v0,v1,v2,v3,v4,v5,vf,b2⟩:=(show Six _ _ _ _ _ _ _ _ from aL.out);have f:=k.out;have ak:=bl.out;rw[d.out.1,d.out.2];generalize World.alloc _ _=V at v0 v1 v2 v3 v4 v5 f ak ⊢;exact bodyPost_ret (v:= Y #[X #[S I F.c0,S I F.c1,S I F.c2,S I F.c3,O C F.l.length g,O none 0 0],S I 0]) (by simp[results,Tryz.results45,go_sem,v0,v1,v2,v3,v4,v5]) rfl ⟨C,g,rfl,ak,hC,fun a ha=>nT (by omega) (a6 a ha),f⟩
    ·have d:=ja2 u.out (bh.out ad);have hV:=(a5.set (S I 0) (S I 0) (S I 0) (S I 0) (O none 0 0) (O none 0 0)).gr ((gR _).alloc (J (ja7 F C g) 32));have f:=(ac ao.out (B:=w.heap.size+1+1) (by omega) (S I 0) (S I 0) (S I 0) (S I 0) (O none 0 0) (O none 0 0)).alloc (by simp;omega) (J (ja7 F C g) 32);have aL:Hid _:=hV;have k:Hid _:=f;go_wp2;obtain ⟨v0,v1,v2,v3,v4,v5,vf,b2⟩:=(show Six _ _ _ _ _ _ _ _ from aL.out);have f:=k.out;rw[d.out.1,d.out.2];generalize World.alloc _ _=V at v0 v1 v2 v3 v4 v5 f ⊢;exact bodyPost_ret (v:= Y #[X #[S I 0,S I 0,S I 0,S I 0,O none 0 0,O none 0 0],S I E]) (by simp[results,Tryz.results45,go_sem,v0,v1,v2,v3,v4,v5]) rfl ⟨none,0,rfl,oL rfl,fun _=>rfl,(fun x hx=>by cases hx),f⟩
 ·have d:Hid (dN t key=ay t/\du t key=ar):=by have h1:dN t key=ay t:=(by simp[dN,he]);exact ⟨h1,by simp[du,h1,he]⟩
  have bC:(ay t != 0)=true:=by simpa using he
  go_wp2;rw[d.out.1,d.out.2];exact bodyPost_ret (v:= Y #[X #[S I 0,S I 0,S I 0,S I 0,O none 0 0,O none 0 0],S I (ay t)]) (by simp[results,Tryz.results45,go_sem,z0,z1,z2,z3,z4,z5]) rfl ⟨none,0,rfl,oL rfl,fun _=>rfl,(fun x hx=>by cases hx),ac n.below (by omega) _ _ _ _ _ _⟩

end Go.Proofs.YtbkjgjjpnfhkhaaGreatDoor
