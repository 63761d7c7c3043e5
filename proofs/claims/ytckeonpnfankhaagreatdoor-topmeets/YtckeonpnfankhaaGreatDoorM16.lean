/-
  inc.copySteps: the same steps, in memory of their own.
  Memory that a node keeps: the blocks that it lies in (P), what writing one block leaves, and a block's cells.
  Numbers in order, each once; the cells of a right table are in range.
  The rows of a table: what zset.Of tells, and that it is a right set.
  zset.greatest: the last number of a list.
  zset.Of: the rows of a table.
-/
import Derived.Test.YtckeonpnfankhaaGreatDoorM15
import Derived.Test.YtckeonpnfankhaaGreatDoorM12
set_option maxRecDepth 100000
set_option maxHeartbeats 8000000
namespace Go.Proofs.YtckeonpnfankhaaGreatDoor
open Go.RowKit Go.Sort

theorem jT:∀(q:List Stp) (ah:List Int),(∀x∈ah,0≤x∧x≤8)→ah.length+q.length≤8→(dm q ah).isSome=true→∀s∈q,s.l.length≤8
 | [],_,_,_,_=>fun s hs=>by cases hs
 | s::t,ah,h1,h2,h3=>by
  have h3':(if aH s ah=0 then none else dm t (ah++[aH s ah])).isSome=true:=h3
  by_cases e:aH s ah=0
  ·rw[if_pos e] at h3';cases h3'
  ·rw[if_neg e] at h3'
   have hb:=uv s h1
   have ih:=jT t (ah++[aH s ah]) (fun x hx=>by
    rcases List.mem_append.1 hx with k|k
    ·exact h1 x k
    ·rw[List.mem_singleton.1 k];exact hb) (by simp at h2 ⊢;omega) h3'
   intro u hu
   rcases List.mem_cons.1 hu with k|k
   ·subst k
    simp at h2
    exact (sj e (by omega) h1).l.1
   ·exact ih u k
theorem qP {q:List Stp} (h:bS q=0):q.length≤8∧∀s∈q,s.l.length≤8:=by
 obtain ⟨h1,h2,h3⟩:=eK h
 exact ⟨h2,jT q [] (fun x hx=>by cases hx) (by simpa using h2) h3⟩
def ya (n m:Nat) (C:Option Addr) (q:List Stp):Prop:=(∀a,C=some a→n≤a.block∧a.block<m)∧∀s∈q,∀a,s.p=some a→n≤a.block∧a.block<m
theorem uf {W:World} {s:Stp} {C:Option Addr} {c:Nat}:ax iB 7 (W.alloc (.cells #[.int .i64 s.k,.int .i64 s.a,.int .i64 s.b,.int .i64 s.c,.int .i64 s.o,.int .i64 s.v,.slice C s.l.length c] 105)) (some ⟨W.heap.size,0,none⟩) [{ s with p:=C,n:=c }]:=by
 refine oR ⟨W.heap.size,0,rfl,by simp,fun j hj i hi=> ?_⟩
 obtain rfl:j=0:=by simp at hj;omega
 rw[show 0+0*7+i=i by omega]
 match i,hi with
 | 0,_=>exact aa (w:=W) (gR _) rfl
 | 1,_=>exact aa (w:=W) (gR _) rfl
 | 2,_=>exact aa (w:=W) (gR _) rfl
 | 3,_=>exact aa (w:=W) (gR _) rfl
 | 4,_=>exact aa (w:=W) (gR _) rfl
 | 5,_=>exact aa (w:=W) (gR _) rfl
 | 6,_=>exact aa (w:=W) (gR _) rfl
theorem sU {q:List Stp} {k:Nat} (h:k<q.length) {s s':Stp} (hs:q[k]=s) {r:List Stp} (hr:r.map bare=(q.take k).map bare) (hb:bare s'=bare s):(r++[s']).map bare=(q.take (k+1)).map bare:=by
 rw[List.take_succ_eq_append_getElem h,List.map_append,List.map_append,hr,hs]
 simp[hb]

theorem rW (q:List Stp) (A:Option Addr) (ca:Nat) (w:World) (hl:q.length≤8) (hs:∀s∈q,s.l.length≤8) (hq:Stps w A q) :
  Calls Tryz.prog 111 #[.slice A q.length ca] w fun e w'=>∃(q':List Stp) (C:Option Addr) (k:Nat),e= .returned (.slice C q'.length k)∧q'.map bare=q.map bare∧Stps w' C q'∧(C=none→k=0)∧ya w.heap.size w'.heap.size C q'∧Below w.heap.size w w':=by
 have hH:Hid (Stps w A q∧∀s∈q,s.l.length≤8):=⟨hq,hs⟩
 clear hq hs
 go_enter Tryz.func111,Tryz.ntmps111
 go_wp2
 go_loopw [3,8] (fun u i wr=>∃(k:Nat) (r:List Stp),k≤q.length∧i= .int .i64 k∧Hid (r.map bare=(q.take k).map bare∧OwnS wr w.heap.size u r∧Below w.heap.size w wr)) (fun _ i _=>q.length-(intOf i).toNat)
 case atStart=>exact ⟨0,[],nZ _,rfl,rfl,OwnS.nil _ _,bR _ _⟩
 case round =>
  obtain ⟨k,r,hk,rfl,hR⟩:=hrel
  have hrl:Hid (r.length=k):=by
   have:=congrArg List.length hR.out.1
   simp at this
   show _=_
   omega
  by_cases hlt:k<q.length
  ·have hltz:(k:Int)<(q.length:Int):=by omega
   have hI:Hid (Stps wr A q):=hH.out.1.below hR.out.2.2
   obtain ⟨bb,off,rfl,hb,hcs⟩:=hI.out.at hlt
   obtain ⟨s,hs⟩:∃s,q[k]=s:=⟨_,rfl⟩
   have hsm:s∈q:=by rw[←hs];exact gM hlt
   have hs8:s.l.length≤8:=hH.out.2 s hsm
   have hse:Hid (ay wr s.p s.l∧s.l.length≤maxLen∧(s.p=none→s.n=0)):=hI.out.each s hsm
   have htk:Hid (∀s',bare s'=bare s→(r++[s']).map bare=(q.take (k+1)).map bare):=fun s' h=>sU hlt hs hR.out.1 h
   rw[hs] at hcs
   have m0:wr.cell? ⟨bb,off+k*7,none⟩=some (.int .i64 s.k):=hcs 0 (by omega)
   have m1:wr.cell? ⟨bb,off+k*7+1,none⟩=some (.int .i64 s.a):=hcs 1 (by omega)
   have m2:wr.cell? ⟨bb,off+k*7+2,none⟩=some (.int .i64 s.b):=hcs 2 (by omega)
   have m3:wr.cell? ⟨bb,off+k*7+3,none⟩=some (.int .i64 s.c):=hcs 3 (by omega)
   have m4:wr.cell? ⟨bb,off+k*7+4,none⟩=some (.int .i64 s.o):=hcs 4 (by omega)
   have m5:wr.cell? ⟨bb,off+k*7+5,none⟩=some (.int .i64 s.v):=hcs 5 (by omega)
   have m6:wr.cell? ⟨bb,off+k*7+6,none⟩=some (.slice s.p s.l.length s.n):=hcs 6 (by omega)
   obtain ⟨WX,hWX⟩:∃WX,(wr.alloc (.cells #[.int .i64 s.k,.int .i64 s.a,.int .i64 s.b,.int .i64 s.c,.int .i64 s.o,.int .i64 s.v,.slice s.p s.l.length s.n] 105))=WX:=⟨_,rfl⟩
   have hgX:Hid (Gr wr WX):=by show Gr _ _;rw[←hWX];exact (gR _).alloc _
   have hXs:Hid (wr.heap.size<WX.heap.size):=by show _<_;rw[←hWX];simp
   have x0:WX.cell? ⟨wr.heap.size,0,none⟩=some (.int .i64 s.k):=by rw[←hWX];exact aa (w:=wr) (gR _) rfl
   have x1:WX.cell? ⟨wr.heap.size,1,none⟩=some (.int .i64 s.a):=by rw[←hWX];exact aa (w:=wr) (gR _) rfl
   have x2:WX.cell? ⟨wr.heap.size,2,none⟩=some (.int .i64 s.b):=by rw[←hWX];exact aa (w:=wr) (gR _) rfl
   have x3:WX.cell? ⟨wr.heap.size,3,none⟩=some (.int .i64 s.c):=by rw[←hWX];exact aa (w:=wr) (gR _) rfl
   have x4:WX.cell? ⟨wr.heap.size,4,none⟩=some (.int .i64 s.o):=by rw[←hWX];exact aa (w:=wr) (gR _) rfl
   have x5:WX.cell? ⟨wr.heap.size,5,none⟩=some (.int .i64 s.v):=by rw[←hWX];exact aa (w:=wr) (gR _) rfl
   have x6:WX.cell? ⟨wr.heap.size,6,none⟩=some (.slice s.p s.l.length s.n):=by rw[←hWX];exact aa (w:=wr) (gR _) rfl
   have f6:WX.frozen? ⟨wr.heap.size,6,none⟩=false:=by rw[←hWX];exact ew (w:=wr) (gR _) 6
   have hap:Hid (ay WX s.p s.l∧(s.p=none→s.n=0)∧0+s.l.length≤maxLen∧(0+s.l.length)*8≤140737488355328):=⟨hse.out.1.gr hgX.out,hse.out.2.2,by unfold maxLen;omega,by omega⟩
   clear hcs hs hsm
   have hX6:Hid (∀w3,Below WX.heap.size WX w3→∀v,(w3.setCell ⟨wr.heap.size,6,none⟩ v).cell? ⟨wr.heap.size,0,none⟩=some (.int .i64 s.k)∧(w3.setCell ⟨wr.heap.size,6,none⟩ v).cell? ⟨wr.heap.size,1,none⟩=some (.int .i64 s.a)∧(w3.setCell ⟨wr.heap.size,6,none⟩ v).cell? ⟨wr.heap.size,2,none⟩=some (.int .i64 s.b)∧(w3.setCell ⟨wr.heap.size,6,none⟩ v).cell? ⟨wr.heap.size,3,none⟩=some (.int .i64 s.c)∧(w3.setCell ⟨wr.heap.size,6,none⟩ v).cell? ⟨wr.heap.size,4,none⟩=some (.int .i64 s.o)∧(w3.setCell ⟨wr.heap.size,6,none⟩ v).cell? ⟨wr.heap.size,5,none⟩=some (.int .i64 s.v)∧(w3.setCell ⟨wr.heap.size,6,none⟩ v).cell? ⟨wr.heap.size,6,none⟩=some v):=fun w3 h v=>by
    have hc:∀i u,WX.cell? ⟨wr.heap.size,i,none⟩=some u→w3.cell? ⟨wr.heap.size,i,none⟩=some u:=fun i u e=>(h.cell (p:=⟨wr.heap.size,i,none⟩) hXs.out).trans e
    have ho:∀i:Nat,i<6→(w3.setCell ⟨wr.heap.size,6,none⟩ v).cell? ⟨wr.heap.size,i,none⟩=w3.cell? ⟨wr.heap.size,i,none⟩:=fun i hi=>World.cell?_setCell_other _ _ _ _ (by intro e;injection e with _ e;omega)
    exact ⟨(ho 0 (by omega)).trans (hc 0 _ x0),(ho 1 (by omega)).trans (hc 1 _ x1),(ho 2 (by omega)).trans (hc 2 _ x2),(ho 3 (by omega)).trans (hc 3 _ x3),(ho 4 (by omega)).trans (hc 4 _ x4),(ho 5 (by omega)).trans (hc 5 _ x5),World.cell?_setCell_same _ _ _ (hc 6 _ x6)⟩
   have hoF:Hid (∀w3 C c,Below WX.heap.size WX w3→ay w3 C s.l→(C=none→c=0)→(∀a,C=some a→WX.heap.size≤a.block∧a.block<w3.heap.size)→∀w4,w3.setCell ⟨wr.heap.size,6,none⟩ (.slice C s.l.length c)=w4 →
     OwnS (w4.alloc (.cells #[.int .i64 s.k,.int .i64 s.a,.int .i64 s.b,.int .i64 s.c,.int .i64 s.o,.int .i64 s.v,.slice C s.l.length c] 105)) w.heap.size u3 r∧ax iB 7 (w4.alloc (.cells #[.int .i64 s.k,.int .i64 s.a,.int .i64 s.b,.int .i64 s.c,.int .i64 s.o,.int .i64 s.v,.slice C s.l.length c] 105)) (some ⟨w4.heap.size,0,none⟩) [{ s with p:=C,n:=c }]∧ApartS (w4.alloc (.cells #[.int .i64 s.k,.int .i64 s.a,.int .i64 s.b,.int .i64 s.c,.int .i64 s.o,.int .i64 s.v,.slice C s.l.length c] 105)) w.heap.size u3.ownBlock { s with p:=C,n:=c }∧(r.length+1≤maxLen∧(r.length+1)*72≤140737488355328)∧Below w.heap.size w (w4.alloc (.cells #[.int .i64 s.k,.int .i64 s.a,.int .i64 s.b,.int .i64 s.c,.int .i64 s.o,.int .i64 s.v,.slice C s.l.length c] 105))):=fun w3 C c hb3 hrow hC hlt w4 hw4=>by
    subst hw4
    have hb4:Below wr.heap.size wr (w3.setCell ⟨wr.heap.size,6,none⟩ (.slice C s.l.length c)):=(hgX.out.below.trans (hb3.mono hgX.out.size)).setCell (nR _) _
    have hbA:=hb4.alloc hb4.size (.cells #[.int .i64 s.k,.int .i64 s.a,.int .i64 s.b,.int .i64 s.c,.int .i64 s.o,.int .i64 s.v,.slice C s.l.length c] 105)
    have hrowA:ay (w3.setCell ⟨wr.heap.size,6,none⟩ (.slice C s.l.length c)) C s.l:=by
     rcases hrow with e|⟨b,o,hA,hb,hc⟩
     ·exact oL e
     ·refine oR ⟨b,o,hA,by simpa using hb,fun j hj i hi=> ?_⟩
      have h1:=(hlt _ hA).1
      have h2:=hXs.out
      have h3:b≠wr.heap.size:=fun e=>by simp only at h1;omega
      rw[World.cell?_setCell_other _ _ _ _ (by intro e;injection e with e _;exact h3 e.symm)]
      exact hc j hj i hi
    have hrl:=hrl.out
    have hsz:=hR.out.2.2.size
    have h2:=hXs.out
    refine ⟨hR.out.2.1.below hbA,uf,⟨hrowA.gr ((gR _).alloc _),by show s.l.length≤_;unfold maxLen;omega,hC,fun a ha=>⟨?_,?_,?_⟩⟩,⟨by unfold maxLen;omega,by omega⟩,hR.out.2.2.trans (hbA.mono hR.out.2.2.size)⟩
    ·have h1:=(hlt a ha).1;omega
    ·have h1:=(hlt a ha).2;simp;omega
    ·intro e
     have h1:=(hlt a ha).1
     have h3:=(World.ownsRow.lt hR.out.2.1.own a.block e).2
     omega
   go_wp2_with (first|(at_builtin;refine aR _ rfl (.const (.slice none 0 0)) (.tmp 13) rfl WX.heap.size (.slice none 0 0) [] s.l s.p s.n rfl rfl (ai.nil _ _ _ _ _) hap.out.1 hap.out.2.1 hap.out.2.2.1 hap.out.2.2.2 (nR _) ?_;intro v1 w3 hown1 hgr1;obtain ⟨C,c,rfl,hC,hrow,hlt⟩:=ai.row bV hown1;have hb3:Below WX.heap.size WX w3:=dF hgr1;have y6:w3.cell? ⟨wr.heap.size,6,none⟩=some (.slice s.p s.l.length s.n):=(hb3.cell (p:=⟨wr.heap.size,6,none⟩) hXs.out).trans x6;have g6:w3.frozen? ⟨wr.heap.size,6,none⟩=false:=(hb3.frozen (p:=⟨wr.heap.size,6,none⟩) hXs.out).trans f6;obtain ⟨w4,hw4⟩:∃W,w3.setCell ⟨wr.heap.size,6,none⟩ (.slice C s.l.length c)=W:=⟨_,rfl⟩;have hoX:=hoF.out w3 C c hb3 (by simpa using hrow) hC hlt w4 hw4;have hoXH:Hid _:=hoX;obtain ⟨z0,z1,z2,z3,z4,z5,z6⟩:=hX6.out w3 hb3 (.slice C s.l.length c);rw[hw4] at z0 z1 z2 z3 z4 z5 z6;clear hown1 hgr1 hC hrow hlt hb3 hoX)|(at_builtin;refine fx _ rfl (.tmp 16) (.tmp 18) rfl w.heap.size u3 r { s with p:=C,n:=c } ⟨w4.heap.size,0,none⟩ 1 rfl rfl hoXH.out.1 hoXH.out.2.1 hoXH.out.2.2.1 hoXH.out.2.2.2.1.1 hoXH.out.2.2.2.1.2 hoXH.out.2.2.2.2.size ?_;intro v5 w5 hown5 hb5))
   have hfin:Hid ((r++[{ s with p:=C,n:=c }]).map bare=(q.take (k+1)).map bare∧OwnS w5 w.heap.size v5 (r++[{ s with p:=C,n:=c }])∧Below w.heap.size w w5):=⟨htk.out _ rfl,hown5,hoXH.out.2.2.2.2.trans hb5⟩
   clear hown5 hb5
   go_roundw
   case rel=>exact ⟨k+1,r++[{ s with p:=C,n:=c }],by omega,by go_num,hfin⟩
   case measure=>simp[intOf];omega
  ·have hltz:¬(k:Int)<(q.length:Int):=by omega
   have hke:q.take k=q:=List.take_of_length_le (by omega)
   obtain ⟨C,cap,hv,hC,hst⟩:=hR.out.2.1.stps
   obtain ⟨C',cap',hv',_,_,hab⟩:=hR.out.2.1.own.row iW
   have hfin:Hid (r.map bare=q.map bare∧Stps wr C r∧(C=none→cap=0)∧ya w.heap.size wr.heap.size C r∧Below w.heap.size w wr):=by
    have h1:=hR.out.1
    rw[hke] at h1
    have hCC:C=C':=by rw[hv] at hv';injection hv'
    exact ⟨h1,hst,hC,⟨fun a ha=>hab a (by rw[←hCC];exact ha),fun x hx a ha=>⟨((hR.out.2.1.each x hx).own a ha).1,((hR.out.2.1.each x hx).own a ha).2.1⟩⟩,hR.out.2.2⟩
   subst hv
   clear hke hC hst hv' hab
   go_wp2
   go_ret
   exact ⟨r,C,cap,rfl,hfin.out⟩

def PIn {α : Type} (P:Nat→Prop) (A:Option Addr) (l:List α):Prop:=∀a,A=some a→l≠[]→P a.block
theorem PIn.mono {α : Type} {P Q:Nat→Prop} {A:Option Addr} {l:List α} (h:PIn P A l) (k:∀b,P b→Q b):PIn Q A l:=fun a ha hl=>k _ (h a ha hl)
structure Agr (P:Nat→Prop) (w w':World):Prop where
 size:w.heap.size≤w'.heap.size
 block:∀b,P b→b<w.heap.size→w'.heap[b]? = w.heap[b]?
theorem Agr.refl (P:Nat→Prop) (w:World):Agr P w w:=⟨nR _,fun _ _ _=>rfl⟩
theorem Agr.trans {P:Nat→Prop} {a b c:World} (h:Agr P a b) (k:Agr P b c):Agr P a c:=⟨nT h.size k.size,fun g hg hl=>(k.block g hg (nL hl h.size)).trans (h.block g hg hl)⟩
theorem Agr.of {P:Nat→Prop} {w w':World} (h:Below w.heap.size w w'):Agr P w w':=⟨h.size,fun b _ hb=>h.block b hb⟩
theorem Agr.mono {P Q:Nat→Prop} {w w':World} (h:Agr Q w w') (k:∀b,P b→Q b):Agr P w w':=⟨h.size,fun b hb=>h.block b (k b hb)⟩
theorem ax.agr {α : Type} {enc: α → List Value} {k:Nat} {P:Nat→Prop} {w w':World} {A:Option Addr} {l:List α} (h:ax enc k w A l) (hP:PIn P A l) (q:Agr P w w'):ax enc k w' A l:=by
 rcases h with h|⟨b,off,hA,hb,hc⟩
 ·exact oL h
 ·by_cases hl:l=[]
  ·exact oL hl
  ·refine oR ⟨b,off,hA,nL hb q.size,fun j hj i hi=> ?_⟩
   rw[World.cell?_of_block (a:=⟨b,off+j*k+i,none⟩) (q.block b (hP _ hA hl) hb)]
   exact hc j hj i hi
theorem Row.agr {P:Nat→Prop} {w w':World} {A:Option Addr} {l:List (Int×Int)} (h:Row w A l) (hP:PIn P A l) (q:Agr P w w'):Row w' A l:=by
 rcases h with h|⟨b,off,hA,hb,hc⟩
 ·exact oL h
 ·by_cases hl:l=[]
  ·exact oL hl
  ·refine oR ⟨b,off,hA,nL hb q.size,fun j hj=> ?_⟩
   rw[World.cell?_of_block (a:=⟨b,off+j*2,none⟩) (q.block b (hP _ hA hl) hb),World.cell?_of_block (a:=⟨b,off+j*2+1,none⟩) (q.block b (hP _ hA hl) hb)]
   exact hc j hj
structure LvP (P:Nat→Prop) (w:World) (A:Option Addr) (c:Nat) (l:List Itm):Prop where
 lv:Lv w A c l
 arr:PIn P A l
 rows:∀x∈l,PIn P x.p x.r
theorem LvP.agr {P:Nat→Prop} {w w':World} {A:Option Addr} {c:Nat} {l:List Itm} (h:LvP P w A c l) (q:Agr P w w'):LvP P w' A c l :=
 ⟨⟨⟨h.lv.items.row.agr h.arr q,fun x hx=>⟨(h.lv.items.each x hx).1.agr (h.rows x hx) q,(h.lv.items.each x hx).2⟩⟩,h.lv.nilc,h.lv.len⟩,h.arr,h.rows⟩
theorem LvP.below {P:Nat→Prop} {w w':World} {A:Option Addr} {c:Nat} {l:List Itm} (h:LvP P w A c l) (q:Below w.heap.size w w'):LvP P w' A c l:=h.agr (Agr.of q)
theorem LvP.mono {P Q:Nat→Prop} {w:World} {A:Option Addr} {c:Nat} {l:List Itm} (h:LvP P w A c l) (k:∀b,P b→Q b):LvP Q w A c l:=⟨h.lv,h.arr.mono k,fun x hx=>(h.rows x hx).mono k⟩
theorem LvP.none (P:Nat→Prop) (w:World):LvP P w none 0 []:=⟨⟨⟨oL rfl,fun x hx=>(by cases hx)⟩,dx.mk (fun _=>rfl) (nZ _),nZ _⟩,fun a ha=>(by cases ha),fun x hx=>(by cases hx)⟩
theorem LvP.new {w:World} {A:Option Addr} {c n:Nat} {l:List Itm} (h:Lv w A c l) (k:iA n A l):LvP (fun b=>n≤b∧b<w.heap.size) w A c l :=
 ⟨h,fun a ha hl=>⟨k.1 a ha,h.items.row.lt a ha hl⟩,fun x hx a ha hl=>⟨k.2 x hx a ha,(h.items.each x hx).1.lt a ha hl⟩⟩
theorem LvP.all {w:World} {A:Option Addr} {c:Nat} {l:List Itm} (h:Lv w A c l):LvP (fun b=>b<w.heap.size) w A c l :=
 ⟨h,fun a ha hl=>h.items.row.lt a ha hl,fun x hx a ha hl=>(h.items.each x hx).1.lt a ha hl⟩
structure StP (P:Nat→Prop) (w:World) (A:Option Addr) (q:List Stp):Prop where
 st:Stps w A q
 arr:PIn P A q
 rows:∀s∈q,PIn P s.p s.l
theorem StP.agr {P:Nat→Prop} {w w':World} {A:Option Addr} {q:List Stp} (h:StP P w A q) (k:Agr P w w'):StP P w' A q :=
 ⟨⟨h.st.row.agr h.arr k,fun x hx=>⟨(h.st.each x hx).1.agr (h.rows x hx) k,(h.st.each x hx).2⟩⟩,h.arr,h.rows⟩
theorem StP.below {P:Nat→Prop} {w w':World} {A:Option Addr} {q:List Stp} (h:StP P w A q) (k:Below w.heap.size w w'):StP P w' A q:=h.agr (Agr.of k)
theorem StP.mono {P Q:Nat→Prop} {w:World} {A:Option Addr} {q:List Stp} (h:StP P w A q) (k:∀b,P b→Q b):StP Q w A q:=⟨h.st,h.arr.mono k,fun x hx=>(h.rows x hx).mono k⟩
theorem StP.new {w:World} {A:Option Addr} {n m:Nat} {q:List Stp} (h:Stps w A q) (k:ya n m A q):StP (fun b=>n≤b∧b<m) w A q :=
 ⟨h,fun a ha _=>k.1 a ha,fun s hs a ha _=>k.2 s hs a ha⟩
def ae (P:Nat→Prop) (m n:Nat):Nat→Prop:=fun b=>P b∨(m≤b∧b<n)
theorem ae.old {P:Nat→Prop} {m n:Nat} (b:Nat) (h:P b):ae P m n b:=oL h
theorem ae.new {P:Nat→Prop} {m n m' n':Nat} (hm:m≤m') (hn:n'≤n) (b:Nat) (h:m'≤b∧b<n'):ae P m n b:=oR ⟨nT hm h.1,nL h.2 hn⟩
theorem ae.more {P:Nat→Prop} {m n m' n':Nat} (hm:m'≤m) (hn:n≤n') (b:Nat) (h:ae P m n b):ae P m' n' b:=h.elim oL fun k=>oR ⟨nT hm k.1,nL k.2 hn⟩
theorem ae.two {P:Nat→Prop} {m n m' n':Nat} (hm:m≤m') (hn:n≤n') (b:Nat) (h:ae (ae P m n) m' n' b):ae P m n' b:=by
 rcases h with (h|h)|h
 ·exact oL h
 ·exact oR ⟨h.1,by omega⟩
 ·exact oR ⟨by omega,h.2⟩

theorem jE {w:World} {V:Nat} {cur:Array Value} {T:TypeId} {f:Nat×Nat} (h:w.heap[V]? = some (.cells cur T f)) (j:Nat):w.cell? ⟨V,j,none⟩=cur[j]? := by simp[World.cell?,h]
theorem oI {w:World} {V:Nat} {cur:Array Value} {T:TypeId} (h:w.heap[V]? = some (.cells cur T (0,0))) (j:Nat):w.frozen? ⟨V,j,none⟩=false:=by simp[World.frozen?,h]
def Blk (w:World) (V:Nat) (T:TypeId) (n:Nat):Prop:=∃cur,w.heap[V]? = some (.cells cur T (0,0))∧cur.size=n
theorem Blk.lt {w:World} {V n:Nat} {T:TypeId} (h:Blk w V T n):V<w.heap.size:=by
 obtain ⟨cur,hc,_⟩:=h
 exact (Array.getElem?_eq_some_iff.1 hc).1
theorem Blk.fz {w:World} {V n:Nat} {T:TypeId} (h:Blk w V T n) (j:Nat):w.frozen? ⟨V,j,none⟩=false:=by
 obtain ⟨cur,hc,_⟩:=h
 exact oI hc j
theorem Blk.some {w:World} {V n:Nat} {T:TypeId} (h:Blk w V T n) {j:Nat} (hj:j<n):∃v,w.cell? ⟨V,j,none⟩=some v:=by
 obtain ⟨cur,hc,hn⟩:=h
 rw[jE hc]
 exact ⟨cur[j]'(by omega),Array.getElem?_eq_getElem (by omega)⟩
theorem Blk.below {w w':World} {V n:Nat} {T:TypeId} (h:Blk w V T n) (k:Below w.heap.size w w'):Blk w' V T n:=by
 obtain ⟨cur,hc,hn⟩:=h
 exact ⟨cur,(k.block V (Array.getElem?_eq_some_iff.1 hc).1).trans hc,hn⟩
structure Wr (V lo hi:Nat) (w w':World):Prop where
 os:w'.os=w.os
 tape:w'.tape=w.tape
 output:w'.output=w.output
 size:w.heap.size≤w'.heap.size
 oth:∀g,g<w.heap.size→g≠V→w'.heap[g]? = w.heap[g]?
 blk:∀(cur:Array Value) (T:TypeId),w.heap[V]? = some (.cells cur T (0,0))→∃cur':Array Value,w'.heap[V]? = some (.cells cur' T (0,0))∧cur'.size=cur.size∧∀j,(j<lo∨hi≤j)→cur'[j]? = cur[j]?
theorem Wr.refl (V lo hi:Nat) (w:World):Wr V lo hi w w:=⟨rfl,rfl,rfl,nR _,fun _ _ _=>rfl,fun cur _ h=>⟨cur,h,rfl,fun _ _=>rfl⟩⟩
theorem Wr.trans {V lo hi:Nat} {a b c:World} (h:Wr V lo hi a b) (k:Wr V lo hi b c):Wr V lo hi a c :=
 ⟨k.os.trans h.os,k.tape.trans h.tape,k.output.trans h.output,nT h.size k.size,fun g hg hn=>(k.oth g (nL hg h.size) hn).trans (h.oth g hg hn),fun cur T hc=>by
  obtain ⟨c1,h1,h2,h3⟩:=h.blk cur T hc
  obtain ⟨c2,k1,k2,k3⟩:=k.blk c1 T h1
  exact ⟨c2,k1,k2.trans h2,fun j hj=>(k3 j hj).trans (h3 j hj)⟩⟩
theorem Wr.of {V lo hi:Nat} {w w':World} (h:Below w.heap.size w w') (_hV:V<w.heap.size):Wr V lo hi w w' :=
 ⟨h.os,h.tape,h.output,h.size,fun g hg _=>h.block g hg,fun cur _ hc=>⟨cur,(h.block V (Array.getElem?_eq_some_iff.1 hc).1).trans hc,rfl,fun _ _=>rfl⟩⟩
theorem Wr.mono {V lo hi lo' hi':Nat} {w w':World} (h:Wr V lo hi w w') (h1:lo'≤lo) (h2:hi≤hi'):Wr V lo' hi' w w' :=
 ⟨h.os,h.tape,h.output,h.size,h.oth,fun cur T hc=>by
  obtain ⟨c1,k1,k2,k3⟩:=h.blk cur T hc
  exact ⟨c1,k1,k2,fun j hj=>k3 j (by omega)⟩⟩
theorem Wr.set {V lo hi j:Nat} (w:World) (v:Value) (h1:lo≤j) (h2:j<hi):Wr V lo hi w (w.setCell ⟨V,j,none⟩ v):=by
 refine ⟨rfl,rfl,rfl,by simp,fun g _ hn=>Below.heap_setCell _ _ _ _ hn,fun cur T hc=>⟨cur.setIfInBounds j v,?_,by simp,fun i hi'=> ?_⟩⟩
 ·show (w.heap.modify V _)[V]? = _
  rw[Array.getElem?_modify,if_pos rfl,hc]
  rfl
 ·rw[Array.getElem?_setIfInBounds,if_neg (by omega)]
theorem Wr.grown {V lo hi:Nat} {w w':World} (h:Wr V lo hi w w'):w.grownBy w' (some V):=⟨h.os,h.tape,h.output,h.size,fun g hg hn=>h.oth g hg fun e=>hn (by rw[e])⟩
theorem Wr.agr {V lo hi:Nat} {w w':World} {P:Nat→Prop} (h:Wr V lo hi w w') (hP:¬P V):Agr P w w':=⟨h.size,fun b hb hl=>h.oth b hl fun e=>hP (e▸hb)⟩
theorem Wr.cell {V lo hi n:Nat} {w w':World} {T:TypeId} (h:Wr V lo hi w w') (hb:Blk w V T n) {j:Nat} (hj:j<lo∨hi≤j):w'.cell? ⟨V,j,none⟩=w.cell? ⟨V,j,none⟩:=by
 obtain ⟨cur,hc,_⟩:=hb
 obtain ⟨c1,k1,_,k3⟩:=h.blk cur T hc
 rw[jE k1,jE hc]
 exact k3 j hj
theorem Wr.block {V lo hi n:Nat} {w w':World} {T:TypeId} (h:Wr V lo hi w w') (hb:Blk w V T n):Blk w' V T n:=by
 obtain ⟨cur,hc,hn⟩:=hb
 obtain ⟨c1,k1,k2,_⟩:=h.blk cur T hc
 exact ⟨c1,k1,k2.trans hn⟩
theorem ct {w:World} {V i j:Nat} {v:Value} (h:i≠j):(w.setCell ⟨V,i,none⟩ v).cell? ⟨V,j,none⟩=w.cell? ⟨V,j,none⟩:=World.cell?_setCell_other _ _ _ _ (by intro e;injection e with _ e;exact h e)
end Go.Proofs.YtckeonpnfankhaaGreatDoor

namespace Go.Proofs.YtckeonpnfankhaaGreatDoor
open Go.RowKit Go.Sort Go.Shelf Go.Lib

theorem nN {d:List Int} (hs:d.Pairwise (· ≤ ·)):∀m,m≤d.length→(compactUpTo d.toArray m).Pairwise (· < ·)∧(∀x,x∈compactUpTo d.toArray m↔∃j,∃h:j<d.length,j<m∧d[j]=x):=by
 intro m
 induction m with
 | zero =>
  intro _
  refine ⟨by simp[compactUpTo],fun x=> ?_⟩
  simp[compactUpTo]
 | succ m ih =>
  intro hm
  obtain ⟨h1,h2⟩:=ih (by omega)
  have hmd:m<d.length:=by omega
  have em:d.toArray[m]! = d[m]:=by simp[hmd]
  rw[compactUpTo_succ]
  have hle:∀x∈compactUpTo d.toArray m,x≤d[m]:=by
   intro x hx
   obtain ⟨j,hj,hjm,rfl⟩:=(h2 x).1 hx
   exact (List.pairwise_iff_getElem.1 hs) j m hj hmd hjm
  by_cases hk:keeps d.toArray m=true
  ·rw[if_pos hk,em]
   refine ⟨?_,fun x=> ?_⟩
   ·rw[List.pairwise_append]
    refine ⟨h1,by simp,?_⟩
    intro x hx y hy
    have hy':y=d[m]:=by simpa using hy
    subst hy'
    obtain ⟨j,hj,hjm,rfl⟩:=(h2 x).1 hx
    have hm1:m-1<d.length:=by omega
    have e1:d.toArray[m-1]! = d[m-1]:=by simp[hm1]
    have hne:d[m]≠d[m-1]:=by
     unfold keeps at hk
     have:=of_decide_eq_true hk
     rcases this with k|k
     ·omega
     ·rw[em,e1] at k;exact k
    have a1:d[j]≤d[m-1]:=by
     by_cases e:j=m-1
     ·subst e;exact Int.le_refl _
     ·exact (List.pairwise_iff_getElem.1 hs) j (m-1) hj hm1 (by omega)
    have a2:d[m-1]≤d[m]:=(List.pairwise_iff_getElem.1 hs) (m-1) m hm1 hmd (by omega)
    omega
   ·rw[List.mem_append,h2]
    constructor
    ·rintro (⟨j,hj,hjm,e⟩|k)
     ·exact ⟨j,hj,by omega,e⟩
     ·exact ⟨m,hmd,by omega,(by simpa using k:x=d[m]).symm⟩
    ·rintro ⟨j,hj,hjm,e⟩
     by_cases e2:j=m
     ·subst e2;exact oR (by simp[e])
     ·exact oL ⟨j,hj,by omega,e⟩
  ·rw[if_neg hk,List.append_nil]
   refine ⟨h1,fun x=> ?_⟩
   rw[h2]
   constructor
   ·rintro ⟨j,hj,hjm,e⟩;exact ⟨j,hj,by omega,e⟩
   ·rintro ⟨j,hj,hjm,e⟩
    by_cases e2:j=m
    ·subst e2
     unfold keeps at hk
     have hk':¬(j=0∨d.toArray[j]! ≠ d.toArray[j-1]!):=fun k=>hk (decide_eq_true k)
     have hj0:j≠0:=fun k=>hk' (oL k)
     have hm1:j-1<d.length:=by omega
     have e1:d.toArray[j-1]! = d[j-1]:=by simp[hm1]
     have he:d[j]=d[j-1]:=by
      by_cases k:d[j]=d[j-1]
      ·exact k
      ·exact absurd (oR (by rw[em,e1];exact k)) hk'
     exact ⟨j-1,hm1,by omega,by rw[←he];exact e⟩
    ·exact ⟨j,hj,by omega,e⟩
theorem fv (l:List Int):(cF l).Pairwise (· < ·)∧∀x,x∈cF l↔x∈l:=by
 have hs:(l.mergeSort fun x y=>decide (x≤y)).Pairwise (· ≤ ·):=by
  have:=List.pairwise_mergeSort (le:=fun x y:Int=>decide (x≤y)) (by intro a b c h1 h2;simp only[decide_eq_true_eq] at *;omega) (by intro a b;simp only[Bool.or_eq_true,decide_eq_true_eq];omega) l
  exact this.imp fun h=>by simpa using h
 have h:=nN hs _ (nR _)
 refine ⟨h.1,fun x=> ?_⟩
 show x∈compactUpTo _ _↔_
 rw[h.2]
 constructor
 ·rintro ⟨j,hj,_,e⟩
  rw[←e]
  exact (List.mergeSort_perm l _).mem_iff.1 (gM hj)
 ·intro hx
  obtain ⟨j,hj,e⟩:=List.getElem_of_mem ((List.mergeSort_perm l _).mem_iff.2 hx)
  exact ⟨j,hj,hj,e⟩
theorem tB {key col:Int} {e:List Cel} {x:Int}:x∈bI key col e↔∃y∈e,d8 key col y=true∧y.2.2.2=x:=by
 unfold bI
 rw[List.mem_map]
 constructor
 ·rintro ⟨y,hy,e⟩
  have:=List.mem_filter.1 hy
  exact ⟨y,this.1,this.2,e⟩
 ·rintro ⟨y,hy,hf,e⟩
  exact ⟨y,List.mem_filter.2 ⟨hy,hf⟩,e⟩
theorem e7 {t:Tab} (h:aq t=0) {x:Cel} (hx:x∈t.e):aV x.2.1 x.2.2.1 x.2.2.2=true:=by
 obtain ⟨j,hj,rfl⟩:=List.getElem_of_mem hx
 have hk:=(ag h).2.2 j hj
 have hg:t.e.getD j ((0,0),0,0,0)=t.e[j]:=by simp[hj]
 unfold dW at hk
 rw[hg] at hk
 simp only[Bool.and_eq_true] at hk
 exact hk.1.2

end Go.Proofs.YtckeonpnfankhaaGreatDoor

namespace Go.Proofs.YtckeonpnfankhaaGreatDoor

def grt (l:List Int):Int:=l.getD (l.length-1) 0
def cW (e:List Cel) (key:Int):List Int:=[key,grt (cF (bI key 0 e)),grt (cF (bI key 1 e)),grt (cF (bI key 2 e))]
def ofL (t:Tab):List Zit:=(cF (bU t.e)).map fun key=>(cW t.e key,1)
theorem ws (l:List Int):grt l=0∨grt l∈l:=by
 unfold grt
 by_cases h:l=[]
 ·subst h;exact oL rfl
 ·have hp:0<l.length:=List.length_pos_iff.2 h
  right
  rw[List.getD_eq_getElem?_getD,List.getElem?_eq_getElem (show l.length-1<l.length by omega)]
  exact gM _
theorem uF {t:Tab} (h:aq t=0) {key:Int} (hk:key∈bU t.e):0≤key∧key≤49:=by
 unfold bU at hk
 obtain ⟨y,hy,rfl⟩:=List.mem_map.1 hk
 have:=e7 h hy
 simp only[aV,inB,Bool.and_eq_true,decide_eq_true_eq] at this
 exact this.1.1
theorem qF {t:Tab} (h:aq t=0) (key col:Int): -1000≤grt (cF (bI key col t.e))∧grt (cF (bI key col t.e))≤1000:=by
 rcases ws (cF (bI key col t.e)) with k|k
 ·rw[k];omega
 ·have h1:=((fv _).2 _).1 k
  obtain ⟨y,hy,_,e⟩:=tB.1 h1
  rw[←e]
  have:=e7 h hy
  simp only[aV,inB,Bool.and_eq_true,decide_eq_true_eq] at this
  exact this.2
theorem nK {n:Int} (h: -1000≤n∧n≤1000):okN n=true:=by
 simp only[okN,inB,Bool.and_eq_true,decide_eq_true_eq];omega
theorem yx {t:Tab} (h:aq t=0):av (ofL t)=0:=by
 have hp:=ag h
 refine (bx _).2 ⟨?_,?_,?_⟩
 ·have h1:=gW (bU t.e)
  have h2:=fZ t.e
  unfold ofL
  rw[List.length_map];omega
 ·intro x hx
  unfold ofL at hx
  obtain ⟨key,hk,rfl⟩:=List.mem_map.1 hx
  have h1:=uF h (((fv _).2 _).1 hk)
  have h2:okN key=true:=nK (by omega)
  unfold okZ okR cW
  simp[h2,nK (qF h key 0),nK (qF h key 1),nK (qF h key 2)]
  decide
 ·unfold eC ofL
  rw[List.pairwise_map]
  refine (fv (bU t.e)).1.imp fun {a b} hab=> ?_
  show (if bg a b=0 then _ else bg a b)<0
  have:=dd a b
  rw[if_neg (by omega)];omega

end Go.Proofs.YtckeonpnfankhaaGreatDoor

namespace Go.Proofs.YtckeonpnfankhaaGreatDoor
open Go.RowKit Go.Sort

theorem nX (l:List Int) (A:Option Addr) (cap:Nat) (w:World) (hl:l.length≤maxLen) (hr:ay w A l) :
  Calls Tryz.prog 45 #[.slice A l.length cap] w fun e w'=>e= .returned (.int .i64 (grt l))∧Gr w w':=by
 unfold maxLen at hl
 by_cases h:l=[]
 ·subst h
  go_enter Tryz.func45,Tryz.ntmps45
  go_wp2
  go_ret
  exact ⟨rfl,gR _⟩
 ·have hp:0<l.length:=List.length_pos_iff.2 h
  have hk:l.length-1<l.length:=by omega
  obtain ⟨b,off,rfl,hb,hcs⟩:=hr.at hk
  obtain ⟨x,hx⟩:∃x,l[l.length-1]=x:=⟨_,rfl⟩
  have e0:=hcs (l.length-1) hk 0 (by omega)
  rw[hx] at e0
  have e1:w.cell? ⟨b,off+(l.length-1),none⟩=some (.int .i64 x):=by simpa[fK] using e0
  have hfin:Hid (grt l=x):=by
   show _=_
   unfold grt
   rw[List.getD_eq_getElem?_getD,List.getElem?_eq_getElem hk,←hx];rfl
  obtain ⟨n,hn⟩:∃n,l.length=n+1:=⟨l.length-1,by omega⟩
  rw[hn] at e1 ⊢
  rw[Nat.add_sub_cancel] at e1
  have hne:(((n+1:Nat):Int)==0)=false:=by simp;omega
  have hw:IntKind.i64.wrap (((n+1:Nat):Int)-1)=(n:Int):=by rw[IntKind.wrap_i64];omega
  have hlt:(n:Int)<((n+1:Nat):Int):=by omega
  clear hcs e0 hx h
  go_enter Tryz.func45,Tryz.ntmps45
  go_wp2
  go_ret
  exact ⟨by rw[hfin.out];rfl,gR _⟩


def ofR (t:Tab):List Zit:=if aq t=0 then ofL t else []
theorem xS {t:Tab} (h:aq t≠0):ofR t=[]:=by unfold ofR;rw[if_neg h]
theorem yu {t:Tab} (h:aq t=0):ofR t=ofL t:=by unfold ofR;rw[if_pos h]

theorem qJ (e:List Cel) (key:Int) {j:Nat} (h:j<3):(cW e key).take (j+1+1)=(cW e key).take (j+1)++[grt (cF (bI key j e))]:=by
 have hj:j=0∨j=1∨j=2:=by omega
 rcases hj with rfl|rfl|rfl<;>rfl
theorem mw (e:List Cel) (key:Int):(cW e key).length=4:=rfl
theorem qA (e:List Cel) (key:Int) (j:Nat):((cW e key).take j).length≤4:=by rw[List.length_take,mw];omega

theorem qn (t:Tab) (A:Option Addr) (ca:Nat) (D:Option Addr) (cd:Nat) (w:World) (hl:t.c.l.length≤maxLen) (hel:t.e.length≤maxLen) (hr:Row w A t.c.l) (hd:bj w D t.e) :
  Calls Tryz.prog 22 #[.agg (T6 t A ca D cd).toArray] w fun e w'=>∃(L:List Itm) (C:Option Addr) (c:Nat),e= .returned (.tuple #[.slice C L.length c,.int .i64 (aq t)])∧L.map Itm.z=ofR t∧Items w' C L∧dx C L.length c∧Below w.heap.size w w'∧iA w.heap.size C L:=by
 have ht0:TabAt (w.alloc (.cells #[.int .i64 t.c.c0,.int .i64 t.c.c1,.int .i64 t.c.c2,.int .i64 t.c.c3,.slice A t.c.l.length ca,.slice D t.e.length cd] 41)) w.heap.size t A ca D cd:=TabAt.new 41 hr hd rfl
 have hbw0:Below w.heap.size w (w.alloc (.cells #[.int .i64 t.c.c0,.int .i64 t.c.c1,.int .i64 t.c.c2,.int .i64 t.c.c3,.slice A t.c.l.length ca,.slice D t.e.length cd] 41)):=((gR w).alloc _).below
 have hck:=ec t A ca D cd (w.alloc (.cells #[.int .i64 t.c.c0,.int .i64 t.c.c1,.int .i64 t.c.c2,.int .i64 t.c.c3,.slice A t.c.l.length ca,.slice D t.e.length cd] 41)) hl hel ht0.row ht0.rowC
 have hckH:Hid _:=hck
 clear hck hl hel hr hd
 go_enter Tryz.func22,Tryz.ntmps22
 obtain ⟨k0,k1,k2,k3,k4,k5⟩:_∧_∧_∧_∧_∧_:=⟨ht0.k0,ht0.k1,ht0.k2,ht0.k3,ht0.k4,ht0.k5⟩
 go_wp2_with fail
 refine cM (show Calls _ _ _ _ _ from hckH.out) ?_
 rintro e w1 ⟨rfl,hg1⟩
 clear hckH k0 k1 k2 k3 k4 k5
 have ht1:Hid (TabAt w1 w.heap.size t A ca D cd∧Below w.heap.size w w1):=⟨ht0.gr hg1,hbw0.trans (hg1.below.mono hbw0.size)⟩
 clear ht0 hbw0 hg1
 obtain ⟨E,hE⟩:∃E,aq t=E:=⟨_,rfl⟩
 have hEH:Hid (aq t=E):=hE
 rw[hE]
 clear hE
 cases hq:(E != 0)
 ·have hE0:E=0:=by simpa using hq
  have h0H:Hid (aq t=0):=by show _=_;rw[hEH.out,hE0]
  subst hE0
  clear hEH hq
  have hsz:Hid (t.e.length*40≤140737488355328∧t.e.length≤400):=by have:=(ag h0H.out).2.1;exact ⟨by omega,this⟩
  have hky:=tO t A ca D cd w1 hsz.out.1 ht1.out.1.row ht1.out.1.rowC
  have hkyH:Hid _:=hky
  clear hky
  obtain ⟨k0,k1,k2,k3,k4,k5⟩:_∧_∧_∧_∧_∧_:=⟨ht1.out.1.k0,ht1.out.1.k1,ht1.out.1.k2,ht1.out.1.k3,ht1.out.1.k4,ht1.out.1.k5⟩
  go_wp2_with fail
  refine cM (show Calls _ _ _ _ _ from hkyH.out) ?_
  rintro e w2 ⟨K,kc,rfl,hrk,hb2⟩
  clear hkyH k0 k1 k2 k3 k4 k5
  have ht2:Hid (TabAt w2 w.heap.size t A ca D cd∧Below w.heap.size w w2):=⟨ht1.out.1.below hb2,ht1.out.2.trans (hb2.mono ht1.out.2.size)⟩
  obtain ⟨ks,hks⟩:∃ks,cF (bU t.e)=ks:=⟨_,rfl⟩
  have hksH:Hid (cF (bU t.e)=ks∧ay w2 K ks):=⟨hks,by rw[←hks];exact hrk⟩
  have hkl:ks.length≤400:=by
   rw[←hks]
   exact nT (gW _) (nT (fZ _) hsz.out.2)
  rw[hks]
  clear hks hrk hb2 ht1
  go_wp2
  go_loopw [5,18] (fun v i wr=>∃(k:Nat) (L:List Itm),k≤ks.length∧i= .int .i64 k∧Hid (L.length=k)∧Hid (L.map Itm.z=(ks.take k).map (fun key=>(cW t.e key,1)))∧Hid (OwnT wr w2.heap.size v L∧Below w2.heap.size w2 wr)) (fun _ i _=>ks.length-(intOf i).toNat)
  case atStart=>exact ⟨0,[],by omega,rfl,rfl,by simp[Hid],OwnT.nil _ _,bR _ _⟩
  case round =>
   rename World=>w3
   obtain ⟨k,L,hk,rfl,hLk,hLz,hov⟩:=hrel
   by_cases hlt:k<ks.length
   ·have hltz:(k:Int)<(ks.length:Int):=by omega
    have hrk3:ay w3 K ks:=hksH.out.2.below hov.out.2
    obtain ⟨bb,off,rfl,hb,hcs⟩:=hrk3.at hlt
    obtain ⟨key,hkey⟩:∃x,ks[k]=x:=⟨_,rfl⟩
    have e0:=hcs k hlt 0 (by omega)
    rw[hkey] at e0
    have e1:w3.cell? ⟨bb,off+k,none⟩=some (.int .i64 key):=by simpa[fK] using e0
    have hst:Hid ((ks.take (k+1)).map (fun key=>(cW t.e key,(1:Int)))=(ks.take k).map (fun key=>(cW t.e key,1))++[(cW t.e key,1)]):=by show _=_;rw[List.take_succ_eq_append_getElem hlt,hkey];simp
    have ht3:Hid (TabAt w3 w.heap.size t A ca D cd):=ht2.out.1.below hov.out.2
    clear hcs e0 hkey hrk3
    go_wp2
    go_loopw [8,24] (fun v i wr=>∃j:Nat,j≤3∧i= .int .i64 j∧Hid (ef wr w3.heap.size v ((cW t.e key).take (j+1))∧Below w3.heap.size w3 wr)) (fun _ i _=>3-(intOf i).toNat)
    case atStart=>exact ⟨0,by omega,rfl,World.ownsRow_lit w3 #[.int .i64 key] 1 (nR _) (by unfold maxLen;omega) rfl,((gR _).alloc _).below⟩
    case round =>
     rename World=>w4
     obtain ⟨j,hj,rfl,how⟩:=hrel
     have ht4:Hid (TabAt w4 w.heap.size t A ca D cd):=ht3.out.below how.out.2
     by_cases hj3:j<3
     ·have hj3z:(j:Int)<3:=by omega
      obtain ⟨k0,k1,k2,k3,k4,k5⟩:_∧_∧_∧_∧_∧_:=⟨ht4.out.k0,ht4.out.k1,ht4.out.k2,ht4.out.k3,ht4.out.k4,ht4.out.k5⟩
      have hvl:=pH t A ca D cd key j w4 hsz.out.1 ht4.out.row ht4.out.rowC
      have hvlH:Hid _:=hvl
      clear hvl
      go_wp2_with fail
      refine cM (show Calls _ _ _ _ _ from hvlH.out) ?_
      rintro e w5 ⟨V,vc,rfl,hrv,hb5⟩
      clear hvlH k0 k1 k2 k3 k4 k5
      have hgt:=nX (cF (bI key j t.e)) V vc w5 (by have h1:=gW (bI key j t.e);have h2:=iM key j t.e;have h3:=hsz.out.2;unfold maxLen;omega) hrv
      have hgtH:Hid _:=hgt
      clear hgt hrv
      go_wp2_with fail
      refine cM (show Calls _ _ _ _ _ from hgtH.out) ?_
      rintro e w6 ⟨rfl,hg6⟩
      clear hgtH
      obtain ⟨gv,hgv⟩:∃g,grt (cF (bI key j t.e))=g:=⟨_,rfl⟩
      have hst2:Hid ((cW t.e key).take (j+1+1)=(cW t.e key).take (j+1)++[gv]):=by show _=_;rw[qJ _ _ hj3,hgv]
      rw[hgv]
      obtain ⟨M,hM⟩:∃M,(cW t.e key).take (j+1)=M:=⟨_,rfl⟩
      have hMl:M.length≤4:=by rw[←hM];exact qA _ _ _
      rw[hM] at how hst2
      have hb6:Below w4.heap.size w4 (w6.alloc (.cells #[.int .i64 gv] 3)):=hb5.trans ((hg6.trans ((gR _).alloc _)).below.mono hb5.size)
      have hoX:Hid (ef (w6.alloc (.cells #[.int .i64 gv] 3)) w3.heap.size u8 M∧ay (w6.alloc (.cells #[.int .i64 gv] 3)) (some ⟨w6.heap.size,0,none⟩) [gv]∧M.length+1≤maxLen∧(M.length+1)*8≤140737488355328∧Below w3.heap.size w3 (w6.alloc (.cells #[.int .i64 gv] 3))):=⟨how.out.1.below hb6,gV rfl gv 3,by unfold maxLen;omega,by omega,how.out.2.trans (hb6.mono how.out.2.size)⟩
      clear hM hMl hgv hb5 hg6 hb6 how
      go_wp2_with (at_builtin;refine aR _ rfl (.tmp 27) (.tmp 33) rfl w3.heap.size u8 M [gv] (some ⟨w6.heap.size,0,none⟩) 1 rfl rfl hoX.out.1 hoX.out.2.1 (fun h=>by cases h) hoX.out.2.2.1 hoX.out.2.2.2.1 hoX.out.2.2.2.2.size ?_;intro v7 w7 hown7 hg7)
      have hfin7:Hid (ef w7 w3.heap.size v7 (M++[gv])∧Below w3.heap.size w3 w7):=⟨hown7,hoX.out.2.2.2.2.trans (ai.grown_below hoX.out.1 hg7 hoX.out.2.2.2.2.size)⟩
      clear hown7 hg7 hoX
      go_roundw
      case rel=>exact ⟨j+1,by omega,by go_num,by rw[hst2.out];exact hfin7⟩
      case measure=>simp[intOf];omega
     ·have hj3z:¬(j:Int)<3:=by omega
      obtain rfl:j=3:=by omega
      have hrw:ef w4 w3.heap.size u8 (cW t.e key):=how.out.1
      obtain ⟨C,c,rfl,hC,hrow,hlt4⟩:=ai.row bV hrw
      have hwX:Below w3.heap.size w3 (w4.alloc (.cells #[.slice C (cW t.e key).length c,.int .i64 1] 101)):=how.out.2.alloc how.out.2.size _
      have hoX:Hid (OwnT (w4.alloc (.cells #[.slice C (cW t.e key).length c,.int .i64 1] 101)) w2.heap.size u5 L∧Apart (w4.alloc (.cells #[.slice C (cW t.e key).length c,.int .i64 1] 101)) w2.heap.size u5.ownBlock ⟨C,c,cW t.e key,1⟩∧(L.length+1≤maxLen∧(L.length+1)*32≤140737488355328)∧w2.heap.size≤(w4.alloc (.cells #[.slice C (cW t.e key).length c,.int .i64 1] 101)).heap.size∧Below w2.heap.size w2 (w4.alloc (.cells #[.slice C (cW t.e key).length c,.int .i64 1] 101))):=by
       have hsz3:=hov.out.2.size
       have hLl:=hLk.out
       have hbX:=hov.out.2.trans (hwX.mono hsz3)
       refine ⟨hov.out.1.below hwX,⟨hrow.gr ((gR _).alloc _),by show (cW t.e key).length≤maxLen;rw[mw];unfold maxLen;omega,hC,fun a ha=>⟨?_,?_,?_⟩⟩,⟨?_,?_⟩,hbX.size,hbX⟩
       ·have h1:=(hlt4 a ha).1;omega
       ·have h1:=(hlt4 a ha).2;simp;omega
       ·intro e
        have h1:=(World.ownsRow.lt hov.out.1.own a.block e).2
        have h2:=(hlt4 a ha).1
        omega
       ·unfold maxLen;omega
       ·omega
      obtain ⟨R,hR⟩:∃R,cW t.e key=R:=⟨_,rfl⟩
      rw[hR] at hoX hst ⊢
      clear hrw hrow hC hlt4 hwX how hR
      go_wp2_with (at_builtin;refine eF _ rfl (.tmp 36) (.tmp 39) rfl w2.heap.size u5 L ⟨C,c,R,1⟩ ⟨w4.heap.size,0,none⟩ 1 rfl rfl hoX.out.1 (cU rfl ⟨C,c,R,1⟩ 101) hoX.out.2.1 hoX.out.2.2.1.1 hoX.out.2.2.1.2 hoX.out.2.2.2.1 ?_;intro v8 w8 hown8 hb8)
      have hov3:Hid (OwnT w8 w2.heap.size v8 (L++[⟨C,c,R,1⟩])∧Below w2.heap.size w2 w8):=⟨hown8,hoX.out.2.2.2.2.trans hb8⟩
      clear hown8 hb8 hoX
      go_roundw
      case rel =>
       refine ⟨k+1,L++[⟨C,c,R,1⟩],by omega,by go_num,?_,?_,hov3⟩
       ·show _=_;simp[hLk.out]
       ·show _=_;rw[hst.out,List.map_append,hLz.out];rfl
      case measure=>simp[intOf];omega
   ·have hltz:¬(k:Int)<(ks.length:Int):=by omega
    have hke:ks.take k=ks:=List.take_of_length_le (by omega)
    have hfin:Hid (L.map Itm.z=ofR t):=by
     show _=_
     rw[hLz.out,hke,yu h0H.out]
     unfold ofL
     rw[hksH.out.1]
    obtain ⟨A2,cap2,hv2,hn2,hit,hA2⟩:=hov.out.1.items
    have hfin2:Hid (Items w3 A2 L∧dx A2 L.length cap2∧Below w.heap.size w w3∧iA w.heap.size A2 L):=⟨hit,hn2,ht2.out.2.trans (hov.out.2.mono ht2.out.2.size),fun a ha=>nT ht2.out.2.size (hA2 a ha).1,fun x hx a ha=>nT ht2.out.2.size ((hov.out.1.each x hx).own a ha).1⟩
    subst hv2
    clear hke hit hn2 hA2 hov
    go_wp2
    go_ret2
    exact ⟨L,A2,cap2,by rw[h0H.out];rfl,hfin.out,hfin2.out.1,hfin2.out.2.1,hfin2.out.2.2⟩
 ·have hE0:E≠0:=by simpa using hq
  have hfin:Hid (ofR t=[]):=xS (by rw[hEH.out];exact hE0)
  clear hE0
  go_wp2
  go_ret2
  exact ⟨[],none,0,by rw[hEH.out];rfl,by rw[hfin.out];rfl,⟨oL rfl,fun x hx=>by cases hx⟩,fun _=>rfl,ht1.out.2,iA.none _⟩
theorem xC (t:Tab) (A:Option Addr) (ca:Nat) (D:Option Addr) (cd:Nat) (w:World) (hl:t.c.l.length≤maxLen) (hel:t.e.length≤maxLen) (hr:Row w A t.c.l) (hd:bj w D t.e) :
  Calls Tryz.prog 22 #[.agg (T6 t A ca D cd).toArray] w fun e w'=>∃(L:List Itm) (C:Option Addr) (c:Nat),e= .returned (.tuple #[.slice C L.length c,.int .i64 (aq t)])∧L.map Itm.z=ofR t∧Items w' C L∧dx C L.length c∧Below w.heap.size w w' :=
 (qn t A ca D cd w hl hel hr hd).mono fun _ _ ⟨L,C,c,h1,h2,h3,h4,h5,_⟩=>⟨L,C,c,h1,h2,h3,h4,h5⟩

end Go.Proofs.YtckeonpnfankhaaGreatDoor
