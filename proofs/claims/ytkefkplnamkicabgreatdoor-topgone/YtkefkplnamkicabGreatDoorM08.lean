import Derived.Test.YtkefkplnamkicabGreatDoorM07
set_option maxRecDepth 100000
set_option maxHeartbeats 8000000
open Go.Ending renaming returned → Z
open Go.IntKind renaming i64 → V
open Go.Obj renaming cells → O
open Go.Proofs.Tryz renaming prog → J
open Go.Value renaming slice → I, tuple → Y
namespace Go.Proofs.YtkefkplnamkicabGreatDoor
open Go.RowKit Go.Sort Go.Maps

theorem un {gs:List Grp} {k:Nat} (h:k<gs.length):((gs.take (k+1)).map Grp.z).filterMap kP=((gs.take k).map Grp.z).filterMap kP++(if bg (gs[k].l.map Itm.z)=0 then [] else [([gs[k].n,bg (gs[k].l.map Itm.z)],1)]):=by
 rw[List.take_succ_eq_append_getElem h,List.map_append,List.filterMap_append]
 congr 1
 by_cases e:bg (gs[k].l.map Itm.z)=0
 ·rw[if_pos e];simp[kP,Grp.z,e]
 ·rw[if_neg e];simp[kP,Grp.z,e]
theorem rT {W:World} {n:Nat} (hn:W.heap.size=n) (a b:Int) (T:TypeId):ar (W.alloc (O #[.int V a,.int V b] T)) (some ⟨n,0,none⟩) [a,b]:=by
 subst hn
 refine oR ⟨W.heap.size,0,rfl,by simp,fun j hj i hi=> ?_⟩
 obtain rfl:i=0:=by omega
 have hj':j=0∨j=1:=by simp at hj;omega
 rcases hj' with rfl|rfl
 ·exact ab (w:=W) (gR _) (j:=0) rfl
 ·exact ab (w:=W) (gR _) (j:=1) rfl
theorem GInv.items {w wr W:World} {l:List Itm} {c:Int} {k:Nat} {u:Value} {gs:List Grp} {D:DataW Unit} {A:Option Addr} (h:GInv w wr l c k u gs D) (hr:Items w A l) (hW:Below wr.heap.size wr W) {g:Grp} (hg:g∈gs):Items W g.p g.l:=by
 obtain ⟨A2,cp,hv,_,hrow,_⟩:=((h.gps.each g hg).below hW).row bD
 have e:g.p=A2:=by
  have h3:=hv
  unfold Grp.v at h3
  simp at h3
  exact h3.1
 rw[e]
 exact ⟨hrow,fun x hx=>((hr.below h.bel).below hW).each x ((h.sub g hg).2 x hx)⟩

theorem sq (l:List Itm) (A:Option Addr) (cap:Nat) (c:Int) (w:World) (hl:l.length≤400) (hr:Items w A l) (hc:∀x∈l,inB c 0 ((x.r.length:Int)-1)=true) (hok:∀x∈l,okR x.r=true∧okW x.n=true) :
  Calls J 233 #[I A l.length cap,.int V c] w fun e w'=>∃(L:List Itm) (C:Option Addr) (k:Nat),e= Z (I C L.length k)∧L.map Itm.z=kR (l.map Itm.z) c∧Lv w' C k L∧L.length≤400∧Below w.heap.size w w':=by
 have hrH:Hid (Items w A l∧(∀x∈l,okW x.n=true)):=⟨hr,fun x hx=>(hok x hx).2⟩
 have hG:Hid _:=iN l A cap c w hl hr hc (fun x hx=>(hok x hx).1)
 clear hr hc hok
 go_enter Tryz.func233,Tryz.ntmps233
 go_wp2_with fail
 refine cM (show Calls _ _ _ _ _ from hG.out) ?_
 rintro e w1 ⟨gs,v,D,rfl,hR0⟩
 clear hG
 have hR:Hid (GInv w w1 l c l.length v gs D):=hR0
 obtain ⟨GA,gcap,hv,_,hrow,_⟩:=hR.out.gps.own.row de
 have hrw:Hid (ay eT 2 w1 GA gs):=hrow
 subst hv
 clear hR0 hrow
 have hgl:gs.length≤400:=nT hR.out.len hl
 go_wp2
 go_loopw [5,19] (fun u i wr=>∃(k:Nat) (L:List Itm),k≤gs.length∧i= .int V k∧Hid (L.length≤k∧L.map Itm.z=((gs.take k).map Grp.z).filterMap kP∧OwnT wr w1.heap.size u L∧Below w1.heap.size w1 wr)) (fun _ i _=>gs.length-(intOf i).toNat)
 case atStart=>exact ⟨0,[],nZ _,rfl,nR _,rfl,OwnT.nil _ _,bR _ _⟩
 case round =>
  obtain ⟨k,L,hk,rfl,hS⟩:=hrel
  by_cases hlt:k<gs.length
  ·have hltz:(k:Int)<(gs.length:Int):=by omega
   obtain ⟨bb,off,rfl,hb,hcs⟩:=(hrw.out.below hS.out.2.2.2).at hlt
   obtain ⟨g,hg⟩:∃g,gs[k]=g:=⟨_,rfl⟩
   have e0:wr.cell? ⟨bb,off+k*2,none⟩=some (.int V g.n):=by have:=hcs k hlt 0 (by omega);rw[hg] at this;simpa[eT] using this
   have e1:wr.cell? ⟨bb,off+k*2+1,none⟩=some (I g.p g.l.length g.c):=by have:=hcs k hlt 1 (by omega);rw[hg] at this;simpa[eT,Grp.v] using this
   have hgm:Hid (g∈gs):=by show _∈_;rw[←hg];exact gM hlt
   have hst:Hid (((gs.take (k+1)).map Grp.z).filterMap kP=((gs.take k).map Grp.z).filterMap kP++(if bg (g.l.map Itm.z)=0 then [] else [([g.n,bg (g.l.map Itm.z)],1)])):=by show _=_;rw[un hlt,hg]
   clear hcs hg
   obtain ⟨WX,hWX⟩:∃WX,(wr.alloc (O #[.int V g.n,I g.p g.l.length g.c] 292))=WX:=⟨_,rfl⟩
   have hgX:Hid (Gr wr WX):=by show Gr _ _;rw[←hWX];exact (gR _).alloc _
   have y0:WX.cell? ⟨wr.heap.size,0,none⟩=some (.int V g.n):=by rw[←hWX];exact ab (gR _) rfl
   have y1:WX.cell? ⟨wr.heap.size,1,none⟩=some (I g.p g.l.length g.c):=by rw[←hWX];exact ab (gR _) rfl
   have hsX:wr.heap.size<WX.heap.size:=by rw[←hWX];simp
   have hbX:Hid (Below w1.heap.size w1 WX):=hS.out.2.2.2.trans (hgX.out.below.mono hS.out.2.2.2.size)
   obtain ⟨T,hT⟩:∃T,bg (g.l.map Itm.z)=T:=⟨_,rfl⟩
   have hcall0:Calls J 246 #[I g.p g.l.length g.c] WX fun e w'=>e= Z (.int V T)∧Gr WX w':=by
    rw[←hT]
    have h1:=hR.out.sub g hgm.out
    exact nE g.l g.p g.c WX (by omega) (fun x hx=>hrH.out.2 x (h1.2 x hx)) (hR.out.items hrH.out.1 hbX.out hgm.out)
   have hcall:Hid _:=hcall0
   clear hcall0
   rw[hT] at hst
   clear hT
   cases hq:(T != 0)
   ·have hT0:T=0:=by simpa using hq
    go_wp2_with (go_at_call 246;(refine cM (show Calls _ _ _ _ _ from hcall.out) ?_);rintro e w2 ⟨rfl,hg2⟩)
    have hfin:Hid (L.length≤k+1∧L.map Itm.z=((gs.take (k+1)).map Grp.z).filterMap kP∧OwnT w2 w1.heap.size u5 L∧Below w1.heap.size w1 w2) :=
     ⟨by have:=hS.out.1;omega,by rw[hst.out,if_pos hT0,List.append_nil];exact hS.out.2.1,(hS.out.2.2.1.gr hgX.out).gr hg2,hbX.out.trans (hg2.below.mono hbX.out.size)⟩
    go_roundw
    case rel=>exact ⟨k+1,L,by omega,by go_num,hfin⟩
    case measure=>simp[intOf];omega
   ·have hT0:¬T=0:=by simpa using hq
    have hoF:Hid (∀w2,Gr wr w2→Below w1.heap.size w1 w2→OwnT ((w2.alloc (O #[.int V g.n,.int V T] 3)).alloc (O #[I (some ⟨w2.heap.size,0,none⟩) 2 2,.int V 1] 58)) w1.heap.size u5 L∧ay aM 2 ((w2.alloc (O #[.int V g.n,.int V T] 3)).alloc (O #[I (some ⟨w2.heap.size,0,none⟩) 2 2,.int V 1] 58)) (some ⟨w2.heap.size+1,0,none⟩) [(⟨some ⟨w2.heap.size,0,none⟩,2,[g.n,T],1⟩:Itm)]∧Apart ((w2.alloc (O #[.int V g.n,.int V T] 3)).alloc (O #[I (some ⟨w2.heap.size,0,none⟩) 2 2,.int V 1] 58)) w1.heap.size u5.ownBlock (⟨some ⟨w2.heap.size,0,none⟩,2,[g.n,T],1⟩:Itm)∧L.length+1≤maxLen∧(L.length+1)*32≤140737488355328∧Below w1.heap.size w1 ((w2.alloc (O #[.int V g.n,.int V T] 3)).alloc (O #[I (some ⟨w2.heap.size,0,none⟩) 2 2,.int V 1] 58))):=fun w2 hg2 hb2=>by
     have hLk:=hS.out.1
     have h2:Gr w2 ((w2.alloc (O #[.int V g.n,.int V T] 3)).alloc (O #[I (some ⟨w2.heap.size,0,none⟩) 2 2,.int V 1] 58)):=((gR _).alloc _).alloc _
     refine ⟨(hS.out.2.2.1.gr hg2).gr h2,d9 (by simp) (⟨some ⟨w2.heap.size,0,none⟩,2,[g.n,T],1⟩:Itm) _,⟨(rT rfl g.n T _).gr ((gR _).alloc _),by simp[maxLen],fun h=>(by cases h),fun a ha=>⟨?_,?_,?_⟩⟩,by unfold maxLen;omega,by omega,hb2.trans (h2.below.mono hb2.size)⟩
     ·cases ha;exact hb2.size
     ·cases ha;simp;omega
     ·cases ha
      intro e
      have h3:=(World.ownsRow.lt hS.out.2.2.1.own w2.heap.size e).2
      have h4:=hg2.size
      omega
    go_wp2_with (first|(go_at_call 246;(refine cM (show Calls _ _ _ _ _ from hcall.out) ?_);rintro e w2 ⟨rfl,hg2⟩;have y0':w2.cell? ⟨wr.heap.size,0,none⟩=some (.int V g.n):=(hg2.below.cell (p:=⟨wr.heap.size,0,none⟩) hsX).trans y0;have hbW:Hid (Below w1.heap.size w1 w2∧Gr wr w2):=⟨hbX.out.trans (hg2.below.mono hbX.out.size),hgX.out.trans hg2⟩;clear hg2;have hoX:=hoF.out w2 hbW.out.2 hbW.out.1;have hoH:Hid _:=hoX;clear hoX)|(at_builtin;refine eJ _ rfl (.tmp 28) (.tmp 34) rfl w1.heap.size u5 L (⟨some ⟨w2.heap.size,0,none⟩,2,[g.n,T],1⟩:Itm) ⟨w2.heap.size+1,0,none⟩ 1 rfl rfl hoH.out.1 hoH.out.2.1 hoH.out.2.2.1 hoH.out.2.2.2.1 hoH.out.2.2.2.2.1 hoH.out.2.2.2.2.2.size ?_;intro v3 w3 hown3 hg3)|fail)
    have hfin:Hid ((L++[(⟨some ⟨w2.heap.size,0,none⟩,2,[g.n,T],1⟩:Itm)]).length≤k+1∧(L++[(⟨some ⟨w2.heap.size,0,none⟩,2,[g.n,T],1⟩:Itm)]).map Itm.z=((gs.take (k+1)).map Grp.z).filterMap kP∧OwnT w3 w1.heap.size v3 (L++[(⟨some ⟨w2.heap.size,0,none⟩,2,[g.n,T],1⟩:Itm)])∧Below w1.heap.size w1 w3) :=
     ⟨by have:=hS.out.1;simp;omega,by rw[hst.out,if_neg hT0,List.map_append,hS.out.2.1];rfl,hown3,hoH.out.2.2.2.2.2.trans hg3⟩
    clear hown3 hg3
    go_roundw
    case rel=>exact ⟨k+1,L++[(⟨some ⟨w2.heap.size,0,none⟩,2,[g.n,T],1⟩:Itm)],by omega,by go_num,hfin⟩
    case measure=>simp[intOf];omega
  ·have hltz:¬(k:Int)<(gs.length:Int):=by omega
   have hke:gs.take k=gs:=List.take_of_length_le (by omega)
   obtain ⟨A2,cap2,hv2,hn2,hit,_⟩:=hS.out.2.2.1.items
   have hlL:L.length≤400:=by have:=hS.out.1;omega
   have hfin:Hid (L.map Itm.z=kR (l.map Itm.z) c∧Lv wr A2 cap2 L∧Below w.heap.size w wr):=by
    refine ⟨?_,⟨hit,hn2,by unfold maxLen;omega⟩,hR.out.bel.trans (hS.out.2.2.2.mono hR.out.bel.size)⟩
    have:=hS.out.2.1
    rw[hke,hR.out.z,List.take_length] at this
    exact this
   subst hv2
   clear hke hit hn2
   go_wp2
   go_ret
   exact ⟨L,A2,cap2,rfl,hfin.out.1,hfin.out.2.1,hlL,hfin.out.2.2⟩

theorem uK (w:World) (n:Nat):Gr w (w.drewN n):=⟨n,#[],by rw[grow_empty]⟩
theorem mn (v:Int) (a b:List Zit):cg v (a++b)=cg v a+cg v b:=by
 induction a with
 | nil=>simp[cg]
 | cons x a ih=>simp only[List.cons_append,cg,ih];omega
theorem mW {x y:Int} (hx: -1073741824≤x∧x≤1073741824) (hy: -1048576≤y∧y≤1048576): -1125899906842624≤x*y∧x*y≤1125899906842624:=by
 have h1:x.natAbs≤1073741824:=by omega
 have h2:y.natAbs≤1048576:=by omega
 have h3:(x*y).natAbs≤1073741824*1048576:=by rw[Int.natAbs_mul];exact Nat.mul_le_mul h1 h2
 omega
theorem tX {x:Itm} {v:Int} (h:okR x.r=true∧okW x.n=true): -1125899906842624≤atI x.r v*x.n∧atI x.r v*x.n≤1125899906842624:=by
 have h1:=qQ h.1 (c:=v)
 have h2:=h.2
 simp only[okN,okW,inB,Bool.and_eq_true,decide_eq_true_eq] at h1 h2
 exact mW h1 h2
theorem oc {l:List Itm} {v:Int} (h:∀x∈l,okR x.r=true∧okW x.n=true): -((l.length:Int)*1125899906842624)≤cg v (l.map Itm.z)∧cg v (l.map Itm.z)≤(l.length:Int)*1125899906842624:=by
 induction l with
 | nil=>simp[cg]
 | cons x l ih =>
  have h1:=ih fun y hy=>h y (mC _ hy)
  have h2:=tX (v:=v) (h x (mS ..))
  have e:cg v ((x::l).map Itm.z)=atI x.r v*x.n+cg v (l.map Itm.z):=rfl
  rw[e]
  generalize atI x.r v*x.n=t at h2 ⊢
  simp only[List.length_cons]
  omega
theorem pJ {l:List Itm} {k:Nat} (h:k<l.length) (v:Int):cg v ((l.take (k+1)).map Itm.z)=cg v ((l.take k).map Itm.z)+atI l[k].r v*l[k].n:=by
 rw[List.take_succ_eq_append_getElem h,List.map_append,mn]
 simp[cg,Itm.z]

theorem tE (l:List Itm) (A:Option Addr) (cap:Nat) (v:Int) (w:World) (hl:l.length≤400) (hw:∀x∈l,okR x.r=true∧okW x.n=true) (hc:∀x∈l,inB v 0 ((x.r.length:Int)-1)=true) (hr:Items w A l) :
  Calls J 247 #[I A l.length cap,.int V v] w fun e w'=>e= Z (.int V (cg v (l.map Itm.z)))∧Gr w w':=by
 have hrH:Hid (Items w A l):=hr
 have hwH:Hid ((∀x∈l,okR x.r=true∧okW x.n=true)∧∀x∈l,inB v 0 ((x.r.length:Int)-1)=true):=⟨hw,hc⟩
 clear hr hw hc
 go_enter Tryz.func247,Tryz.ntmps247
 go_wp2
 go_loopw [5,10] (fun u i wr=>∃k:Nat,k≤l.length∧i= .int V k∧u= .int V (cg v ((l.take k).map Itm.z))∧Hid (Gr w wr)) (fun _ i _=>l.length-(intOf i).toNat)
 case atStart=>exact ⟨0,nZ _,rfl,rfl,gR _⟩
 case round =>
  obtain ⟨k,hk,rfl,rfl,hg⟩:=hrel
  by_cases hlt:k<l.length
  ·have hltz:(k:Int)<(l.length:Int):=by omega
   have hI:Hid (Items wr A l):=hrH.out.gr hg.out
   obtain ⟨bb,off,rfl,hb,hcs⟩:=hI.out.at hlt
   obtain ⟨x,hx⟩:∃x,l[k]=x:=⟨_,rfl⟩
   obtain ⟨e0,e1⟩:=hcs k hlt
   rw[hx] at e0 e1
   have hxm:x∈l:=by rw[←hx];exact gM hlt
   obtain ⟨rb,ro,cn,hp,hrb,hcn,hcl,hcell⟩:=gP (hI.out.each x hxm).1 (hwH.out.2 x hxm)
   have hst:Hid (cg v ((l.take (k+1)).map Itm.z)=cg v ((l.take k).map Itm.z)+atI x.r v*x.n):=by show _=_;rw[pJ hlt,hx]
   have hbd:=oc (l:=l.take k) (v:=v) (fun y hy=>hwH.out.1 y (List.mem_of_mem_take hy))
   have hml:=tX (v:=v) (hwH.out.1 x hxm)
   have hlen:(l.take k).length≤400:=by simp;omega
   obtain ⟨T,hT⟩:∃T,cg v ((l.take k).map Itm.z)=T:=⟨_,rfl⟩
   obtain ⟨nn,hnn⟩:∃nn,atI x.r v=nn:=⟨_,rfl⟩
   rw[hT] at hst hbd ⊢
   rw[hnn] at hcell hst hml
   rw[hp] at e0
   have hw1:IntKind.i64.wrap (nn*x.n)=nn*x.n:=by rw[IntKind.wrap_i64];omega
   have hw2:IntKind.i64.wrap (T+nn*x.n)=T+nn*x.n:=by rw[IntKind.wrap_i64];omega
   have hgX:Hid (Gr w (wr.alloc (O #[I (some ⟨rb,ro,none⟩) x.r.length x.c,.int V x.n] 58))):=hg.out.alloc _
   have y0:(wr.alloc (O #[I (some ⟨rb,ro,none⟩) x.r.length x.c,.int V x.n] 58)).cell? ⟨rb,ro+cn,none⟩=some (.int V nn):=(((gR _).alloc _).cell (p:=⟨rb,ro+cn,none⟩) hrb).trans hcell
   have hcz:(cn:Int)<(x.r.length:Int):=by omega
   obtain rfl:=hcn
   clear hcs hx hxm hnn hp hcell hcl hbd hml hlen hT
   obtain ⟨M,hM⟩:∃M,nn*x.n=M:=⟨_,rfl⟩
   rw[hM] at hw1 hw2 hst
   have hMH:Hid (nn*x.n=M):=hM
   obtain ⟨WX,hWX⟩:∃WX,(wr.alloc (O #[I (some ⟨rb,ro,none⟩) x.r.length x.c,.int V x.n] 58))=WX:=⟨_,rfl⟩
   have x0:WX.cell? ⟨wr.heap.size,0,none⟩=some (I (some ⟨rb,ro,none⟩) x.r.length x.c):=by rw[←hWX];exact ab (gR _) rfl
   have x1:WX.cell? ⟨wr.heap.size,1,none⟩=some (.int V x.n):=by rw[←hWX];exact ab (gR _) rfl
   rw[hWX] at y0 hgX
   go_wp2
   clear hWX
   go_quiet (fail)
   go_wp2
   go_roundw
   case rel=>exact ⟨k+1,by omega,by go_num,by rw[hst.out],hgX.out.trans (uK _ _)⟩
   case measure=>simp[intOf];omega
  ·have hltz:¬(k:Int)<(l.length:Int):=by omega
   have hke:l.take k=l:=List.take_of_length_le (by omega)
   rw[hke]
   clear hke
   go_wp2
   go_ret
   exact ⟨rfl,hg.out⟩

theorem vU {gs:List Grp} {k:Nat} (h:k<gs.length) (v:Int):((gs.take (k+1)).map Grp.z).filterMap (lN v)=((gs.take k).map Grp.z).filterMap (lN v)++(if bg (gs[k].l.map Itm.z)=0 then [] else [([gs[k].n,cg v (gs[k].l.map Itm.z)],1)]):=by
 rw[List.take_succ_eq_append_getElem h,List.map_append,List.filterMap_append]
 congr 1
 by_cases e:bg (gs[k].l.map Itm.z)=0
 ·rw[if_pos e];simp[lN,Grp.z,e]
 ·rw[if_neg e];simp[lN,Grp.z,e]

theorem vT (l:List Itm) (A:Option Addr) (cap:Nat) (c v:Int) (w:World) (hl:l.length≤400) (hr:Items w A l) (hc:∀x∈l,inB c 0 ((x.r.length:Int)-1)=true) (hv:∀x∈l,inB v 0 ((x.r.length:Int)-1)=true) (hok:∀x∈l,okR x.r=true∧okW x.n=true) :
  Calls J 234 #[I A l.length cap,.int V c,.int V v] w fun e w'=>∃(L:List Itm) (C:Option Addr) (k:Nat),e= Z (I C L.length k)∧L.map Itm.z=vS (l.map Itm.z) c v∧Lv w' C k L∧L.length≤400∧Below w.heap.size w w':=by
 have hrH:Hid (Items w A l∧(∀x∈l,okW x.n=true)∧(∀x∈l,okR x.r=true∧okW x.n=true)∧∀x∈l,inB v 0 ((x.r.length:Int)-1)=true):=⟨hr,fun x hx=>(hok x hx).2,hok,hv⟩
 have hG:Hid _:=iN l A cap c w hl hr hc (fun x hx=>(hok x hx).1)
 clear hr hc hok hv
 go_enter Tryz.func234,Tryz.ntmps234
 go_wp2_with fail
 refine cM (show Calls _ _ _ _ _ from hG.out) ?_
 rintro e w1 ⟨gs,vv,D,rfl,hR0⟩
 clear hG
 have hR:Hid (GInv w w1 l c l.length vv gs D):=hR0
 obtain ⟨GA,gcap,hvv,_,hrow,_⟩:=hR.out.gps.own.row de
 have hrw:Hid (ay eT 2 w1 GA gs):=hrow
 subst hvv
 clear hR0 hrow
 have hgl:gs.length≤400:=nT hR.out.len hl
 go_wp2
 go_loopw [7,20] (fun u i wr=>∃(k:Nat) (L:List Itm),k≤gs.length∧i= .int V k∧Hid (L.length≤k∧L.map Itm.z=((gs.take k).map Grp.z).filterMap (lN v)∧OwnT wr w1.heap.size u L∧Below w1.heap.size w1 wr)) (fun _ i _=>gs.length-(intOf i).toNat)
 case atStart=>exact ⟨0,[],nZ _,rfl,nR _,rfl,OwnT.nil _ _,bR _ _⟩
 case round =>
  obtain ⟨k,L,hk,rfl,hS⟩:=hrel
  by_cases hlt:k<gs.length
  ·have hltz:(k:Int)<(gs.length:Int):=by omega
   obtain ⟨bb,off,rfl,hb,hcs⟩:=(hrw.out.below hS.out.2.2.2).at hlt
   obtain ⟨g,hg⟩:∃g,gs[k]=g:=⟨_,rfl⟩
   have e0:wr.cell? ⟨bb,off+k*2,none⟩=some (.int V g.n):=by have:=hcs k hlt 0 (by omega);rw[hg] at this;simpa[eT] using this
   have e1:wr.cell? ⟨bb,off+k*2+1,none⟩=some (I g.p g.l.length g.c):=by have:=hcs k hlt 1 (by omega);rw[hg] at this;simpa[eT,Grp.v] using this
   have hgm:Hid (g∈gs):=by show _∈_;rw[←hg];exact gM hlt
   have hst:Hid (((gs.take (k+1)).map Grp.z).filterMap (lN v)=((gs.take k).map Grp.z).filterMap (lN v)++(if bg (g.l.map Itm.z)=0 then [] else [([g.n,cg v (g.l.map Itm.z)],1)])):=by show _=_;rw[vU hlt,hg]
   clear hcs hg
   obtain ⟨WX,hWX⟩:∃WX,(wr.alloc (O #[.int V g.n,I g.p g.l.length g.c] 292))=WX:=⟨_,rfl⟩
   have hgX:Hid (Gr wr WX):=by show Gr _ _;rw[←hWX];exact (gR _).alloc _
   have y0:WX.cell? ⟨wr.heap.size,0,none⟩=some (.int V g.n):=by rw[←hWX];exact ab (gR _) rfl
   have y1:WX.cell? ⟨wr.heap.size,1,none⟩=some (I g.p g.l.length g.c):=by rw[←hWX];exact ab (gR _) rfl
   have hsX:wr.heap.size<WX.heap.size:=by rw[←hWX];simp
   have hbX:Hid (Below w1.heap.size w1 WX):=hS.out.2.2.2.trans (hgX.out.below.mono hS.out.2.2.2.size)
   obtain ⟨T,hT⟩:∃T,bg (g.l.map Itm.z)=T:=⟨_,rfl⟩
   have hcall0:Calls J 246 #[I g.p g.l.length g.c] WX fun e w'=>e= Z (.int V T)∧Gr WX w':=by
    rw[←hT]
    have h1:=hR.out.sub g hgm.out
    exact nE g.l g.p g.c WX (by omega) (fun x hx=>hrH.out.2.1 x (h1.2 x hx)) (hR.out.items hrH.out.1 hbX.out hgm.out)
   have hcall:Hid _:=hcall0
   clear hcall0
   rw[hT] at hst
   clear hT
   cases hq:(T != 0)
   ·have hT0:T=0:=by simpa using hq
    go_wp2_with (go_at_call 246;(refine cM (show Calls _ _ _ _ _ from hcall.out) ?_);rintro e w2 ⟨rfl,hg2⟩)
    have hfin:Hid (L.length≤k+1∧L.map Itm.z=((gs.take (k+1)).map Grp.z).filterMap (lN v)∧OwnT w2 w1.heap.size u7 L∧Below w1.heap.size w1 w2) :=
     ⟨by have:=hS.out.1;omega,by rw[hst.out,if_pos hT0,List.append_nil];exact hS.out.2.1,(hS.out.2.2.1.gr hgX.out).gr hg2,hbX.out.trans (hg2.below.mono hbX.out.size)⟩
    go_roundw
    case rel=>exact ⟨k+1,L,by omega,by go_num,hfin⟩
    case measure=>simp[intOf];omega
   ·have hT0:¬T=0:=by simpa using hq
    obtain ⟨U,hU⟩:∃U,cg v (g.l.map Itm.z)=U:=⟨_,rfl⟩
    rw[hU] at hst
    have hsum:Hid (∀W,Below WX.heap.size WX W→Calls J 247 #[I g.p g.l.length g.c,.int V v] W fun e w'=>e= Z (.int V U)∧Gr W w'):=fun W hW=>by
     rw[←hU]
     have h1:=hR.out.sub g hgm.out
     exact tE g.l g.p g.c v W (by omega) (fun x hx=>hrH.out.2.2.1 x (h1.2 x hx)) (fun x hx=>hrH.out.2.2.2 x (h1.2 x hx)) (hR.out.items hrH.out.1 (hbX.out.trans (hW.mono hbX.out.size)) hgm.out)
    have hoF:Hid (∀w3,Gr WX w3→OwnT ((w3.alloc (O #[.int V g.n,.int V U] 3)).alloc (O #[I (some ⟨w3.heap.size,0,none⟩) 2 2,.int V 1] 58)) w1.heap.size u7 L∧ay aM 2 ((w3.alloc (O #[.int V g.n,.int V U] 3)).alloc (O #[I (some ⟨w3.heap.size,0,none⟩) 2 2,.int V 1] 58)) (some ⟨w3.heap.size+1,0,none⟩) [(⟨some ⟨w3.heap.size,0,none⟩,2,[g.n,U],1⟩:Itm)]∧Apart ((w3.alloc (O #[.int V g.n,.int V U] 3)).alloc (O #[I (some ⟨w3.heap.size,0,none⟩) 2 2,.int V 1] 58)) w1.heap.size u7.ownBlock (⟨some ⟨w3.heap.size,0,none⟩,2,[g.n,U],1⟩:Itm)∧L.length+1≤maxLen∧(L.length+1)*32≤140737488355328∧Below w1.heap.size w1 ((w3.alloc (O #[.int V g.n,.int V U] 3)).alloc (O #[I (some ⟨w3.heap.size,0,none⟩) 2 2,.int V 1] 58))):=fun w3 hg3=>by
     have hLk:=hS.out.1
     have hg2:Gr wr w3:=hgX.out.trans hg3
     have hb2:Below w1.heap.size w1 w3:=hbX.out.trans (hg3.below.mono hbX.out.size)
     have h2:Gr w3 ((w3.alloc (O #[.int V g.n,.int V U] 3)).alloc (O #[I (some ⟨w3.heap.size,0,none⟩) 2 2,.int V 1] 58)):=((gR _).alloc _).alloc _
     refine ⟨(hS.out.2.2.1.gr hg2).gr h2,d9 (by simp) (⟨some ⟨w3.heap.size,0,none⟩,2,[g.n,U],1⟩:Itm) _,⟨(rT rfl g.n U _).gr ((gR _).alloc _),by simp[maxLen],fun h=>(by cases h),fun a ha=>⟨?_,?_,?_⟩⟩,by unfold maxLen;omega,by omega,hb2.trans (h2.below.mono hb2.size)⟩
     ·cases ha;exact hb2.size
     ·cases ha;simp;omega
     ·cases ha
      intro e
      have h3:=(World.ownsRow.lt hS.out.2.2.1.own w3.heap.size e).2
      have h4:=hg2.size
      omega
    have hub:Hid (∀b,u7.ownBlock=some b→b<wr.heap.size):=fun b hb=>(World.ownsRow.lt hS.out.2.2.1.own b hb).2
    clear hU
    go_wp2_with (go_at_call 246;(refine cM (show Calls _ _ _ _ _ from hcall.out) ?_);rintro e w2 ⟨rfl,hg2⟩)
    obtain ⟨gb,hgb⟩:∃gb,wr.heap.size=gb:=⟨_,rfl⟩
    rw[hgb] at y0 y1 hsX hub ⊢
    have hgD:Hid (Gr WX w2.drew):=hg2.trans (gR _).drew
    have hKeep:Hid (∀W',Gr WX W'→(fun w'=>w'.cell? ⟨gb,0,none⟩=some (.int V g.n)∧w'.cell? ⟨gb,1,none⟩=some (I g.p g.l.length g.c)) W'):=fun W' h=>⟨(h.below.cell (p:=⟨gb,0,none⟩) hsX).trans y0,(h.below.cell (p:=⟨gb,1,none⟩) hsX).trans y1⟩
    have hKeep4:Hid (∀w3 w4,Gr WX w3→((w3.alloc (O #[.int V g.n,.int V U] 3)).alloc (O #[I (some ⟨w3.heap.size,0,none⟩) 2 2,.int V 1] 58)).grownBy w4 u7.ownBlock→(fun w'=>w'.cell? ⟨gb,0,none⟩=some (.int V g.n)∧w'.cell? ⟨gb,1,none⟩=some (I g.p g.l.length g.c)) w4):=fun w3 w4 h3 h4=>by
     have hW:Gr WX ((w3.alloc (O #[.int V g.n,.int V U] 3)).alloc (O #[I (some ⟨w3.heap.size,0,none⟩) 2 2,.int V 1] 58)):=(h3.alloc _).alloc _
     have hk:=hKeep.out _ hW
     have hlt:gb<((w3.alloc (O #[.int V g.n,.int V U] 3)).alloc (O #[I (some ⟨w3.heap.size,0,none⟩) 2 2,.int V 1] 58)).heap.size:=nL hsX hW.size
     have hne:some gb≠u7.ownBlock:=fun e=>by have:=hub.out _ e.symm;omega
     exact ⟨(World.cell?_of_block (a:=⟨gb,0,none⟩) (h4.block _ hlt hne)).trans hk.1,(World.cell?_of_block (a:=⟨gb,1,none⟩) (h4.block _ hlt hne)).trans hk.2⟩
    clear hg2 y0 y1 hcall
    refine wp_region_noPanic ?_
    refine wp_region_held_drew (S:=(fun w'=>w'.cell? ⟨gb,0,none⟩=some (.int V g.n)∧w'.cell? ⟨gb,1,none⟩=some (I g.p g.l.length g.c))) (by kernel_rfl) (hKeep.out _ hgD.out) (fun hHeld=> ?_)
    refine tks [0,1,2,3,4,5] (by assumption) ?_
    iterate 6 (refine tk (v:= ?_) (by rfl) (by kernel_rfl) ?_ ?_;rotate_left;· (refine oL ⟨by rfl,?_⟩;intro w hSw;(try dsimp only at hSw);go_simp<;>with_reducible rfl);try simp only[Act.put,yA,aE,yS])
    refine tk0 ?_
    refine wpAnyH_ready (rs:=[6]) (by kernel_rfl) (by simp) ?_
    refine AllReadyH.cons (o:= ?ois7) ?hops7 (fun K hK=> ?steps7) ?mores7
    case hops7=>(simp only[zA,z0',zS];rfl)
    case mores7=>exact AllReadyH.nil
    go_simp
    (go_at_call 247;(refine cM (hsum.out _ hgD.out.below) ?_);rintro e w3 ⟨rfl,hq3⟩;have hg3:Hid (Gr WX w3):=hgD.out.trans hq3;clear hq3)
    first|(go_wp2_with fail)|skip
    refine hK.out _ _ ?_ (fun hHeld=> ?_)
    ·(try dsimp only);first|with_reducible exact hKeep.out _ hgD.out|with_reducible exact hKeep.out _ hg3.out|with_reducible exact hKeep.out _ (hg3.out.alloc _)|with_reducible exact hKeep.out _ ((hg3.out.alloc _).alloc _)|exact hk4.out
    clear hK K
    try simp only[Act.put,yA,aE,yS]
    refine wpAnyH_ready (rs:=[7]) (by kernel_rfl) (by simp) ?_
    refine AllReadyH.cons (o:= ?ois8) ?hops8 (fun K hK=> ?steps8) ?mores8
    case hops8=>(simp only[zA,z0',zS];rfl)
    case mores8=>exact AllReadyH.nil
    go_simp
    refine hK.out _ _ ?_ (fun hHeld=> ?_)
    ·(try dsimp only);first|with_reducible exact hKeep.out _ hgD.out|with_reducible exact hKeep.out _ hg3.out|with_reducible exact hKeep.out _ (hg3.out.alloc _)|with_reducible exact hKeep.out _ ((hg3.out.alloc _).alloc _)|exact hk4.out
    clear hK K
    try simp only[Act.put,yA,aE,yS]
    refine tks [8] (by assumption) ?_
    iterate 1 (refine tk (v:= ?_) (by rfl) (by kernel_rfl) ?_ ?_;rotate_left;· (refine oL ⟨by rfl,?_⟩;intro w hSw;(try dsimp only at hSw);go_simp<;>with_reducible rfl);try simp only[Act.put,yA,aE,yS])
    refine tk0 ?_
    refine wpAnyH_ready (rs:=[9]) (by kernel_rfl) (by simp) ?_
    refine AllReadyH.cons (o:= ?ois10) ?hops10 (fun K hK=> ?steps10) ?mores10
    case hops10=>(simp only[zA,z0',zS];rfl)
    case mores10=>exact AllReadyH.nil
    go_simp
    refine hK.out _ _ ?_ (fun hHeld=> ?_)
    ·(try dsimp only);first|with_reducible exact hKeep.out _ hgD.out|with_reducible exact hKeep.out _ hg3.out|with_reducible exact hKeep.out _ (hg3.out.alloc _)|with_reducible exact hKeep.out _ ((hg3.out.alloc _).alloc _)|exact hk4.out
    clear hK K
    try simp only[Act.put,yA,aE,yS]
    refine wpAnyH_ready (rs:=[10]) (by kernel_rfl) (by simp) ?_
    refine AllReadyH.cons (o:= ?ois11) ?hops11 (fun K hK=> ?steps11) ?mores11
    case hops11=>(simp only[zA,z0',zS];rfl)
    case mores11=>exact AllReadyH.nil
    (refine iA _ rfl (.tmp 28) (.tmp 37) rfl w1.heap.size u7 L (⟨some ⟨w3.heap.size,0,none⟩,2,[g.n,U],1⟩:Itm) ⟨w3.heap.size+1,0,none⟩ 1 rfl rfl (hoF.out w3 hg3.out).1 (hoF.out w3 hg3.out).2.1 (hoF.out w3 hg3.out).2.2.1 (hoF.out w3 hg3.out).2.2.2.1 (hoF.out w3 hg3.out).2.2.2.2.1 (hoF.out w3 hg3.out).2.2.2.2.2.size ?_;intro v4 w4 hown4 hb4 hgb4;have hk4:Hid ((fun w'=>w'.cell? ⟨gb,0,none⟩=some (.int V g.n)∧w'.cell? ⟨gb,1,none⟩=some (I g.p g.l.length g.c)) w4):=hKeep4.out w3 w4 hg3.out hgb4;have hfin:Hid ((L++[(⟨some ⟨w3.heap.size,0,none⟩,2,[g.n,U],1⟩:Itm)]).length≤k+1∧(L++[(⟨some ⟨w3.heap.size,0,none⟩,2,[g.n,U],1⟩:Itm)]).map Itm.z=((gs.take (k+1)).map Grp.z).filterMap (lN v)∧OwnT w4 w1.heap.size v4 (L++[(⟨some ⟨w3.heap.size,0,none⟩,2,[g.n,U],1⟩:Itm)])∧Below w1.heap.size w1 w4):=⟨by have:=hS.out.1;simp;omega,by rw[hst.out,if_neg hT0,List.map_append,hS.out.2.1];rfl,hown4,(hoF.out w3 hg3.out).2.2.2.2.2.trans hb4⟩;clear hown4 hb4 hgb4)
    refine hK.out _ _ ?_ (fun hHeld=> ?_)
    ·(try dsimp only);first|with_reducible exact hKeep.out _ hgD.out|with_reducible exact hKeep.out _ hg3.out|with_reducible exact hKeep.out _ (hg3.out.alloc _)|with_reducible exact hKeep.out _ ((hg3.out.alloc _).alloc _)|exact hk4.out
    clear hK K
    try simp only[Act.put,yA,aE,yS]
    refine tks [11] (by assumption) ?_
    iterate 1 (refine tk (v:= ?_) (by rfl) (by kernel_rfl) ?_ ?_;rotate_left;· (refine oL ⟨by rfl,?_⟩;intro w hSw;(try dsimp only at hSw);go_simp<;>with_reducible rfl);try simp only[Act.put,yA,aE,yS])
    refine tk0 ?_
    refine wpAnyH_done (by kernel_rfl) ?_ _
    refine NoPanic.normal ?_
    go_wp2
    go_roundw
    case rel=>exact ⟨k+1,L++[(⟨some ⟨w3.heap.size,0,none⟩,2,[g.n,U],1⟩:Itm)],by omega,by go_num,hfin⟩
    case measure=>simp[intOf];omega
  ·have hltz:¬(k:Int)<(gs.length:Int):=by omega
   have hke:gs.take k=gs:=List.take_of_length_le (by omega)
   obtain ⟨A2,cap2,hv2,hn2,hit,_⟩:=hS.out.2.2.1.items
   have hlL:L.length≤400:=by have:=hS.out.1;omega
   have hfin:Hid (L.map Itm.z=vS (l.map Itm.z) c v∧Lv wr A2 cap2 L∧Below w.heap.size w wr):=by
    refine ⟨?_,⟨hit,hn2,by unfold maxLen;omega⟩,hR.out.bel.trans (hS.out.2.2.2.mono hR.out.bel.size)⟩
    have:=hS.out.2.1
    rw[hke,hR.out.z,List.take_length] at this
    exact this
   subst hv2
   clear hke hit hn2
   go_wp2
   go_ret
   exact ⟨L,A2,cap2,rfl,hfin.out.1,hfin.out.2.1,hlL,hfin.out.2.2⟩

theorem tn {l:List Itm} {k:Nat} (h:k<l.length) (cols:List Int):fI ((l.take (k+1)).map Itm.z) cols=fI ((l.take k).map Itm.z) cols++[(ec cols l[k].r,l[k].n)]:=by
 rw[List.take_succ_eq_append_getElem h,List.map_append]
 unfold fI
 rw[List.map_append]
 rfl
theorem qT {cols:List Int} {m:Nat} (h:m<cols.length) (r:List Int):ec (cols.take (m+1)) r=ec (cols.take m) r++[atI r cols[m]]:=by
 unfold ec
 rw[List.take_succ_eq_append_getElem h,List.map_append]
 rfl

theorem vD (l:List Itm) (A B:Option Addr) (cap cb:Nat) (cols:List Int) (w:World) (hl:l.length≤400) (hcl:cols.length≤8) (hr:Items w A l) (hrc:ar w B cols) (hc:∀x∈l,∀c∈cols,inB c 0 ((x.r.length:Int)-1)=true) :
  Calls J 231 #[I A l.length cap,I B cols.length cb] w fun e w'=>∃(L:List Itm) (C:Option Addr) (k:Nat),e= Z (I C L.length k)∧L.map Itm.z=fI (l.map Itm.z) cols∧Lv w' C k L∧L.length≤400∧Below w.heap.size w w':=by
 have hrH:Hid (Items w A l∧ar w B cols):=⟨hr,hrc⟩
 have hcH:Hid (∀x∈l,∀c∈cols,inB c 0 ((x.r.length:Int)-1)=true):=hc
 clear hr hc hrc
 go_enter Tryz.func231,Tryz.ntmps231
 go_wp2
 go_loopw [5,13] (fun u i wr=>∃(k:Nat) (L:List Itm),k≤l.length∧i= .int V k∧Hid (L.length=k∧L.map Itm.z=fI ((l.take k).map Itm.z) cols∧OwnT wr w.heap.size u L∧Below w.heap.size w wr)) (fun _ i _=>l.length-(intOf i).toNat)
 case atStart=>exact ⟨0,[],nZ _,rfl,rfl,rfl,OwnT.nil _ _,bR _ _⟩
 case round =>
  obtain ⟨k,L,hk,rfl,hR⟩:=hrel
  by_cases hlt:k<l.length
  ·have hltz:(k:Int)<(l.length:Int):=by omega
   have hI:Hid (Items wr A l∧ar wr B cols):=⟨hrH.out.1.below hR.out.2.2.2,hrH.out.2.below hR.out.2.2.2⟩
   obtain ⟨bb,off,rfl,hb,hcs⟩:=hI.out.1.at hlt
   obtain ⟨x,hx⟩:∃x,l[k]=x:=⟨_,rfl⟩
   obtain ⟨e0,e1⟩:=hcs k hlt
   rw[hx] at e0 e1
   have hxm:Hid (x∈l):=by show _∈_;rw[←hx];exact gM hlt
   have hst:Hid (fI ((l.take (k+1)).map Itm.z) cols=fI ((l.take k).map Itm.z) cols++[(ec cols x.r,x.n)]):=by show _=_;rw[tn hlt,hx]
   have hgX:Hid (Gr wr (wr.alloc (O #[I x.p x.r.length x.c,.int V x.n] 58))):=(gR _).alloc _
   obtain ⟨wX,hwX⟩:∃wX,(wr.alloc (O #[I x.p x.r.length x.c,.int V x.n] 58))=wX:=⟨_,rfl⟩
   have y0:wX.cell? ⟨wr.heap.size,0,none⟩=some (I x.p x.r.length x.c):=by rw[←hwX];exact ab (gR _) rfl
   have y1:wX.cell? ⟨wr.heap.size,1,none⟩=some (.int V x.n):=by rw[←hwX];exact ab (gR _) rfl
   have hsX:wr.heap.size<wX.heap.size:=by rw[←hwX];simp
   rw[hwX] at hgX
   clear hcs hx
   go_wp2
   clear hwX
   obtain ⟨xb,hxb⟩:∃xb,wr.heap.size=xb:=⟨_,rfl⟩
   have hRx:Hid (ar wX x.p x.r∧ar wX B cols∧xb=wr.heap.size):=⟨(hI.out.1.each x hxm.out).1.gr hgX.out,hI.out.2.gr hgX.out,hxb.symm⟩
   rw[hxb] at y0 y1 hsX ⊢
   clear hxb e0 e1 hb
   have hO:Hid (OwnT wX w.heap.size u5 L∧Below w.heap.size w wX∧L.length=k∧L.map Itm.z=fI ((l.take k).map Itm.z) cols):=⟨hR.out.2.2.1.gr hgX.out,hR.out.2.2.2.trans (hgX.out.below.mono hR.out.2.2.2.size),hR.out.1,hR.out.2.1⟩
   have hcx:Hid (∀c∈cols,inB c 0 ((x.r.length:Int)-1)=true):=hcH.out x hxm.out
   clear hR hgX hI
   go_loopw [8,19] (fun u i wi=>∃m:Nat,m≤cols.length∧i= .int V m∧Hid (ed wi wX.heap.size u (ec (cols.take m) x.r)∧Below wX.heap.size wX wi)) (fun _ i _=>cols.length-(intOf i).toNat)
   case atStart=>exact ⟨0,nZ _,rfl,ai.nil _ _ _ _ _,bR _ _⟩
   case round =>
    obtain ⟨m,hm,rfl,hS⟩:=hrel
    have z0:wr.cell? ⟨xb,0,none⟩=some (I x.p x.r.length x.c):=(hS.out.2.cell (p:=⟨xb,0,none⟩) hsX).trans y0
    have z1:wr.cell? ⟨xb,1,none⟩=some (.int V x.n):=(hS.out.2.cell (p:=⟨xb,1,none⟩) hsX).trans y1
    have hlenP:(ec (cols.take m) x.r).length≤8:=by unfold ec;simp;omega
    by_cases hlt2:m<cols.length
    ·have hltz2:(m:Int)<(cols.length:Int):=by omega
     have hRw:Hid (ar wr x.p x.r∧ar wr B cols):=⟨hRx.out.1.below hS.out.2,hRx.out.2.1.below hS.out.2⟩
     obtain ⟨b2,off2,rfl,hb2,hc2⟩:=hRw.out.2.at hlt2
     obtain ⟨c,hcc⟩:∃c,cols[m]=c:=⟨_,rfl⟩
     have e2:wr.cell? ⟨b2,off2+m,none⟩=some (.int V c):=by
      have:=hc2 m hlt2 0 (by omega)
      rw[hcc] at this
      simpa[eM] using this
     have hst2:Hid (ec (cols.take (m+1)) x.r=ec (cols.take m) x.r++[atI x.r c]):=by show _=_;rw[qT hlt2,hcc]
     obtain ⟨rb,ro,cn,hp,hrb,hcn,hcl2,hcell⟩:=gP hRw.out.1 (hcx.out c (by rw[←hcc];exact gM hlt2))
     obtain ⟨nn,hnn⟩:∃nn,atI x.r c=nn:=⟨_,rfl⟩
     rw[hnn] at hcell hst2
     rw[hp] at z0
     have hcz:(cn:Int)<(x.r.length:Int):=by omega
     obtain rfl:=hcn
     clear hc2 hcc hp hnn hcl2
     have hoX:Hid (ed (wr.alloc (O #[.int V nn] 3)) wX.heap.size u8 (ec (cols.take m) x.r)∧ar (wr.alloc (O #[.int V nn] 3)) (some ⟨wr.heap.size,0,none⟩) [nn]∧(ec (cols.take m) x.r).length+[nn].length≤maxLen∧((ec (cols.take m) x.r).length+[nn].length)*8≤140737488355328∧Below wX.heap.size wX (wr.alloc (O #[.int V nn] 3))) :=
      ⟨hS.out.1.gr ((gR _).alloc _),im rfl nn _,by unfold maxLen;simp;omega,by simp;omega,hS.out.2.alloc hS.out.2.size _⟩
     go_wp2_with (at_builtin;refine aW _ rfl (.tmp 23) (.tmp 29) rfl wX.heap.size u8 (ec (cols.take m) x.r) [nn] (some ⟨wr.heap.size,0,none⟩) 1 rfl rfl hoX.out.1 hoX.out.2.1 (fun h=>by cases h) hoX.out.2.2.1 hoX.out.2.2.2.1 hoX.out.2.2.2.2.size ?_;intro v3 w3 hown3 hg3)
     have hfin:Hid (ed w3 wX.heap.size v3 (ec (cols.take (m+1)) x.r)∧Below wX.heap.size wX w3):=⟨by rw[hst2.out];exact hown3,hoX.out.2.2.2.2.trans (hoX.out.1.grown_below hg3 hoX.out.2.2.2.2.size)⟩
     clear hown3 hg3
     go_roundw
     case rel=>exact ⟨m+1,by omega,by go_num,hfin.out⟩
     case measure=>simp[intOf];omega
    ·have hltz2:¬(m:Int)<(cols.length:Int):=by omega
     have hke:cols.take m=cols:=List.take_of_length_le (by omega)
     rw[hke] at hS hlenP
     obtain ⟨C,cc,hv2,hn2,hit,hpl⟩:=hS.out.1.row bP
     obtain ⟨PR,hPR⟩:∃PR,ec cols x.r=PR:=⟨_,rfl⟩
     rw[hPR] at hst hS hv2 hit hlenP
     subst hv2
     have hbW:Hid (Below w.heap.size w wr∧w.heap.size≤wX.heap.size):=⟨hO.out.2.1.trans (hS.out.2.mono hO.out.2.1.size),hO.out.2.1.size⟩
     have hoX:Hid (OwnT (wr.alloc (O #[I C PR.length cc,.int V x.n] 58)) w.heap.size u5 L∧ay aM 2 (wr.alloc (O #[I C PR.length cc,.int V x.n] 58)) (some ⟨wr.heap.size,0,none⟩) [⟨C,cc,PR,x.n⟩]∧Apart (wr.alloc (O #[I C PR.length cc,.int V x.n] 58)) w.heap.size u5.ownBlock ⟨C,cc,PR,x.n⟩∧L.length+1≤maxLen∧(L.length+1)*32≤140737488355328∧Below w.heap.size w (wr.alloc (O #[I C PR.length cc,.int V x.n] 58))):=by
      have hLk:=hO.out.2.2.1
      refine ⟨(hO.out.1.below hS.out.2).gr ((gR _).alloc _),d9 rfl ⟨C,cc,PR,x.n⟩ _,⟨hit.gr ((gR _).alloc _),nT hlenP (by decide),hn2,fun a ha=>⟨?_,?_,?_⟩⟩,by unfold maxLen;omega,by omega,hbW.out.1.alloc hbW.out.1.size _⟩
      ·have h1:=(hpl a ha).1
       have h2:=hbW.out.2
       omega
      ·have h1:=(hpl a ha).2
       simp;omega
      ·intro e
       have h1:=(World.ownsRow.lt hO.out.1.own a.block e).2
       have h2:=(hpl a ha).1
       omega
     clear hke hit hn2 hpl hPR
     go_wp2_with (at_builtin;refine eJ _ rfl _ _ rfl w.heap.size u5 L ⟨C,cc,PR,x.n⟩ ⟨wr.heap.size,0,none⟩ 1 rfl rfl hoX.out.1 hoX.out.2.1 hoX.out.2.2.1 hoX.out.2.2.2.1 hoX.out.2.2.2.2.1 hoX.out.2.2.2.2.2.size ?_;intro v3 w3 hown3 hg3)
     have hfin:Hid ((L++[(⟨C,cc,PR,x.n⟩:Itm)]).length=k+1∧(L++[(⟨C,cc,PR,x.n⟩:Itm)]).map Itm.z=fI ((l.take (k+1)).map Itm.z) cols∧OwnT w3 w.heap.size v3 (L++[⟨C,cc,PR,x.n⟩])∧Below w.heap.size w w3) :=
      ⟨by have:=hO.out.2.2.1;simp;omega,by rw[hst.out,List.map_append,hO.out.2.2.2];rfl,hown3,hoX.out.2.2.2.2.2.trans hg3⟩
     clear hown3 hg3
     go_roundw
     case rel=>exact ⟨k+1,L++[(⟨C,cc,PR,x.n⟩:Itm)],by omega,by go_num,hfin⟩
     case measure=>simp[intOf];omega
  ·have hltz:¬(k:Int)<(l.length:Int):=by omega
   have hke:l.take k=l:=List.take_of_length_le (by omega)
   obtain ⟨A2,cap2,hv2,hn2,hit,_⟩:=hR.out.2.2.1.items
   have hlL:L.length≤400:=by have:=hR.out.1;omega
   have hfin:Hid (L.map Itm.z=fI (l.map Itm.z) cols∧Lv wr A2 cap2 L∧Below w.heap.size w wr):=⟨by have:=hR.out.2.1;rw[hke] at this;exact this,⟨hit,hn2,by unfold maxLen;omega⟩,hR.out.2.2.2⟩
   subst hv2
   clear hke hit hn2
   go_wp2
   go_ret
   exact ⟨L,A2,cap2,rfl,hfin.out.1,hfin.out.2.1,hlL,hfin.out.2.2⟩

theorem su {l:List Itm} {k:Nat} (h:k<l.length):fv ((l.take (k+1)).map Itm.z)=fv ((l.take k).map Itm.z)++(if 0<l[k].n then [(l[k].r,1)] else []):=by
 rw[List.take_succ_eq_append_getElem h,List.map_append]
 unfold fv
 rw[List.filter_append,List.map_append]
 congr 1
 by_cases e:0<l[k].n
 ·rw[if_pos e];simp[Itm.z,e]
 ·rw[if_neg e];simp[Itm.z,e]

theorem ut (l:List Itm) (A:Option Addr) (cap:Nat) (w:World) (hl:l.length≤400) (hr:Items w A l) :
  Calls J 232 #[I A l.length cap] w fun e w'=>∃(L:List Itm) (C:Option Addr) (k:Nat),e= Z (I C L.length k)∧L.map Itm.z=fv (l.map Itm.z)∧Lv w' C k L∧L.length≤400∧Below w.heap.size w w':=by
 have hrH:Hid (Items w A l):=hr
 clear hr
 go_enter Tryz.func232,Tryz.ntmps232
 go_wp2
 go_loopw [3,8] (fun u i wr=>∃(k:Nat) (L:List Itm),k≤l.length∧i= .int V k∧Hid (L.length≤k∧L.map Itm.z=fv ((l.take k).map Itm.z)∧(∀y∈L,∃x∈l,y=⟨x.p,x.c,x.r,1⟩)∧ai aM 2 58 wr w.heap.size u L∧Below w.heap.size w wr)) (fun _ i _=>l.length-(intOf i).toNat)
 case atStart=>exact ⟨0,[],nZ _,rfl,nR _,rfl,fun x hx=>(by cases hx),ai.nil _ _ _ _ _,bR _ _⟩
 case round =>
  obtain ⟨k,L,hk,rfl,hR⟩:=hrel
  by_cases hlt:k<l.length
  ·have hltz:(k:Int)<(l.length:Int):=by omega
   have hI:Hid (Items wr A l):=hrH.out.below hR.out.2.2.2.2
   obtain ⟨bb,off,rfl,hb,hcs⟩:=hI.out.at hlt
   obtain ⟨x,hx⟩:∃x,l[k]=x:=⟨_,rfl⟩
   obtain ⟨e0,e1⟩:=hcs k hlt
   rw[hx] at e0 e1
   have hst:Hid (fv ((l.take (k+1)).map Itm.z)=fv ((l.take k).map Itm.z)++(if 0<x.n then [(x.r,1)] else [])):=by show _=_;rw[su hlt,hx]
   have hxH:Hid (x∈l):=by show _∈_;rw[←hx];exact gM hlt
   have hgX:Hid (Gr wr (wr.alloc (O #[I x.p x.r.length x.c,.int V x.n] 58))):=(gR _).alloc _
   clear hcs hx
   by_cases hn:0<x.n
   ·have hoX:Hid (ai aM 2 58 ((wr.alloc (O #[I x.p x.r.length x.c,.int V x.n] 58)).alloc (O #[I x.p x.r.length x.c,.int V 1] 58)) w.heap.size u3 L∧ay aM 2 ((wr.alloc (O #[I x.p x.r.length x.c,.int V x.n] 58)).alloc (O #[I x.p x.r.length x.c,.int V 1] 58)) (some ⟨wr.heap.size+1,0,none⟩) [(⟨x.p,x.c,x.r,1⟩:Itm)]∧L.length+[(⟨x.p,x.c,x.r,1⟩:Itm)].length≤maxLen∧(L.length+[(⟨x.p,x.c,x.r,1⟩:Itm)].length)*32≤140737488355328∧Below w.heap.size w ((wr.alloc (O #[I x.p x.r.length x.c,.int V x.n] 58)).alloc (O #[I x.p x.r.length x.c,.int V 1] 58))):=by
     have hLk:=hR.out.1
     exact ⟨hR.out.2.2.2.1.gr (hgX.out.alloc _),d9 (by simp) ⟨x.p,x.c,x.r,1⟩ _,by unfold maxLen;simp;omega,by simp;omega,hR.out.2.2.2.2.trans ((hgX.out.alloc _).below.mono hR.out.2.2.2.2.size)⟩
    go_wp2_with (at_builtin;refine eu _ rfl _ _ rfl w.heap.size u3 L [(⟨x.p,x.c,x.r,1⟩:Itm)] (some ⟨wr.heap.size+1,0,none⟩) 1 rfl rfl hoX.out.1 hoX.out.2.1 (fun h=>by cases h) hoX.out.2.2.1 hoX.out.2.2.2.1 hoX.out.2.2.2.2.size ?_;intro v3 w3 hown3 hg3)
    have hfin:Hid ((L++[(⟨x.p,x.c,x.r,1⟩:Itm)]).length≤k+1∧(L++[(⟨x.p,x.c,x.r,1⟩:Itm)]).map Itm.z=fv ((l.take (k+1)).map Itm.z)∧(∀y∈L++[(⟨x.p,x.c,x.r,1⟩:Itm)],∃x∈l,y=⟨x.p,x.c,x.r,1⟩)∧ai aM 2 58 w3 w.heap.size v3 (L++[(⟨x.p,x.c,x.r,1⟩:Itm)])∧Below w.heap.size w w3):=by
     refine ⟨by have:=hR.out.1;simp;omega,by rw[hst.out,if_pos hn,List.map_append,hR.out.2.1];rfl,fun y hy=> ?_,hown3,hoX.out.2.2.2.2.trans (hoX.out.1.grown_below hg3 hoX.out.2.2.2.2.size)⟩
     rcases List.mem_append.1 hy with h|h
     ·exact hR.out.2.2.1 y h
     ·exact ⟨x,hxH.out,List.mem_singleton.1 h⟩
    clear hown3 hg3
    go_roundw
    case rel=>exact ⟨k+1,L++[(⟨x.p,x.c,x.r,1⟩:Itm)],by omega,by go_num,hfin⟩
    case measure=>simp[intOf];omega
   ·have hfin:Hid (L.length≤k+1∧L.map Itm.z=fv ((l.take (k+1)).map Itm.z)∧(∀y∈L,∃x∈l,y=⟨x.p,x.c,x.r,1⟩)∧ai aM 2 58 (wr.alloc (O #[I x.p x.r.length x.c,.int V x.n] 58)) w.heap.size u3 L∧Below w.heap.size w (wr.alloc (O #[I x.p x.r.length x.c,.int V x.n] 58))) :=
     ⟨by have:=hR.out.1;omega,by rw[hst.out,if_neg hn,List.append_nil];exact hR.out.2.1,hR.out.2.2.1,hR.out.2.2.2.1.gr hgX.out,hR.out.2.2.2.2.trans (hgX.out.below.mono hR.out.2.2.2.2.size)⟩
    go_wp2
    go_roundw
    case rel=>exact ⟨k+1,L,by omega,by go_num,hfin⟩
    case measure=>simp[intOf];omega
  ·have hltz:¬(k:Int)<(l.length:Int):=by omega
   have hke:l.take k=l:=List.take_of_length_le (by omega)
   obtain ⟨A2,cap2,hv2,hn1,hit,hcp,_,_⟩:=ai.full bD hR.out.2.2.2.1
   have hn2:du A2 L.length cap2:=du.mk hn1 hcp
   clear hn1 hcp
   have hlL:L.length≤400:=by have:=hR.out.1;omega
   have hfin:Hid (L.map Itm.z=fv (l.map Itm.z)∧Lv wr A2 cap2 L∧Below w.heap.size w wr):=by
    refine ⟨by have:=hR.out.2.1;rw[hke] at this;exact this,⟨⟨hit,fun y hy=> ?_⟩,hn2,by unfold maxLen;omega⟩,hR.out.2.2.2.2⟩
    obtain ⟨x,hx,rfl⟩:=hR.out.2.2.1 y hy
    exact (hrH.out.below hR.out.2.2.2.2).each x hx
   subst hv2
   clear hke hit hn2
   go_wp2
   go_ret
   exact ⟨L,A2,cap2,rfl,hfin.out.1,hfin.out.2.1,hlL,hfin.out.2.2⟩

structure GInvL (c:Int) (G:List (Int×List Zit)) (l:List Zit):Prop where
 uniq:G.Pairwise fun a b=>a.1≠b.1
 pick:∀g∈G,g.2=l.filter fun y=>decide (atI y.1 c=g.1)
 all:∀y∈l,∃g∈G,g.1=atI y.1 c
theorem ni:∀(G:List (Int×List Zit)) (n:Int) (x:Zit),(fa G n x).map (·.1)=if n∈G.map (·.1) then G.map (·.1) else G.map (·.1)++[n]
 | [],n,x=>by simp[fa]
 | g::t,n,x=>by
  have ih:=ni t n x
  by_cases e:g.1=n
  ·simp[fa,e]
  ·have e':¬n=g.1:=fun h=>e h.symm
   simp only[fa,if_neg e,List.map_cons,ih,List.mem_cons,e',false_or]
   split<;>simp
theorem nj:∀(G:List (Int×List Zit)) (n:Int) (x:Zit),G.Pairwise (fun a b=>a.1≠b.1)→∀g∈fa G n x,(g.1≠n∧g∈G)∨(g.1=n∧((∃h∈G,h.1=n∧g.2=h.2++[x])∨((∀h∈G,h.1≠n)∧g.2=[x])))
 | [],n,x,_,g,hg=>by
  simp only[fa,List.mem_singleton] at hg
  subst hg
  exact oR ⟨rfl,oR ⟨fun h hh=>(by cases hh),rfl⟩⟩
 | h::t,n,x,hp,g,hg=>by
  have hp':=List.pairwise_cons.1 hp
  by_cases e:h.1=n
  ·simp only[fa,if_pos e] at hg
   rcases List.mem_cons.1 hg with k|k
   ·subst k;exact oR ⟨e,oL ⟨h,mS ..,e,rfl⟩⟩
   ·refine oL ⟨fun k2=>hp'.1 g k (by rw[e,k2]),mC _ k⟩
  ·simp only[fa,if_neg e] at hg
   rcases List.mem_cons.1 hg with k|k
   ·subst k;exact oL ⟨e,mS ..⟩
   ·rcases nj t n x hp'.2 g k with ⟨a1,a2⟩|⟨a1,⟨h2,b1,b2,b3⟩|⟨b1,b2⟩⟩
    ·exact oL ⟨a1,mC _ a2⟩
    ·exact oR ⟨a1,oL ⟨h2,mC _ b1,b2,b3⟩⟩
    ·refine oR ⟨a1,oR ⟨fun h3 h4=> ?_,b2⟩⟩
     rcases List.mem_cons.1 h4 with k3|k3
     ·rw[k3];exact e
     ·exact b1 h3 k3
theorem GInvL.step {c:Int} {G:List (Int×List Zit)} {l:List Zit} (h:GInvL c G l) (x:Zit):GInvL c (fa G (atI x.1 c) x) (l++[x]):=by
 have hk:=ni G (atI x.1 c) x
 refine ⟨?_,fun g hg=> ?_,fun y hy=> ?_⟩
 ·have:((fa G (atI x.1 c) x).map (·.1)).Pairwise (· ≠ ·):=by
   rw[hk]
   split
   ·exact List.pairwise_map.2 h.uniq
   ·rename_i hn
    exact List.pairwise_append.2 ⟨List.pairwise_map.2 h.uniq,List.pairwise_singleton _ _,fun a ha b hb e=>by rw[List.mem_singleton.1 hb] at e;exact hn (e▸ha)⟩
  exact List.pairwise_map.1 this
 ·rw[List.filter_append]
  rcases nj G _ x h.uniq g hg with ⟨a1,a2⟩|⟨a1,⟨h2,b1,b2,b3⟩|⟨b1,b2⟩⟩
  ·have:decide (atI x.1 c=g.1)=false:=by simpa using fun k=>a1 k.symm
   simp[this,h.pick g a2]
  ·rw[b3,h.pick h2 b1,b2,a1]
   simp
  ·have hn:l.filter (fun y=>decide (atI y.1 c=g.1))=[]:=by
    rw[List.filter_eq_nil_iff]
    intro y hy e
    obtain ⟨g2,hg2,e2⟩:=h.all y hy
    exact b1 g2 hg2 (by rw[e2,←a1];simpa using e)
   rw[hn,b2,a1]
   simp
 ·have hmem:∀n,n∈(fa G (atI x.1 c) x).map (·.1)↔n∈G.map (·.1)∨n=atI x.1 c:=fun n=>by
   rw[hk]
   split
   ·rename_i hin
    exact ⟨oL,fun k=>k.elim id (fun e=>e▸hin)⟩
   ·simp
  have:atI y.1 c∈(fa G (atI x.1 c) x).map (·.1):=by
   rw[hmem]
   rcases List.mem_append.1 hy with e|e
   ·obtain ⟨g,hg,e2⟩:=h.all y e
    exact oL (List.mem_map.2 ⟨g,hg,e2⟩)
   ·rw[List.mem_singleton.1 e];exact oR rfl
  obtain ⟨g,hg,e⟩:=List.mem_map.1 this
  exact ⟨g,hg,e⟩
theorem l9 {c:Int}:∀(m:List Zit) {G:List (Int×List Zit)} {l:List Zit},GInvL c G l→GInvL c (m.foldl (fun g x=>fa g (atI x.1 c) x) G) (l++m)
 | [],_,_,h=>by simpa using h
 | x::m,_,l,h=>by
  have:=l9 m (h.step x)
  simpa using this
theorem uM (l:List Zit) (c:Int):GInvL c (me l c) l:=by
 have:=l9 (c:=c) l (G:=[]) (l:=[]) ⟨List.Pairwise.nil,fun g hg=>(by cases hg),fun y hy=>(by cases hy)⟩
 rw[List.nil_append] at this
 exact this
def prs (x:Zit) (l:List Zit):List Zit:=l.map fun y=>(x.1++y.1,x.2*y.2)
theorem th {a:List Itm} {k:Nat} (h:k<a.length) (b:List Zit) (c v:Int):dq ((a.take (k+1)).map Itm.z) b c v=dq ((a.take k).map Itm.z) b c v++prs a[k].z (b.filter fun y=>decide (atI y.1 v=atI a[k].r c)):=by
 rw[List.take_succ_eq_append_getElem h,List.map_append]
 unfold dq prs
 rw[List.flatMap_append]
 simp[Itm.z]
theorem vF {x:Zit} {l:List Itm} {m:Nat} (h:m<l.length):prs x ((l.take (m+1)).map Itm.z)=prs x ((l.take m).map Itm.z)++[(x.1++l[m].r,x.2*l[m].n)]:=by
 rw[List.take_succ_eq_append_getElem h,List.map_append]
 unfold prs
 rw[List.map_append]
 rfl
theorem vB {a:List Itm} {k:Nat} (b:List Zit) (c v:Int) {p:Zit} (h:p∈dq ((a.take k).map Itm.z) b c v):p∈dq (a.map Itm.z) b c v:=by
 unfold dq at h ⊢
 obtain ⟨x,hx,hp⟩:=List.mem_flatMap.1 h
 obtain ⟨y,hy,e⟩:=List.mem_map.1 hx
 exact List.mem_flatMap.2 ⟨x,List.mem_map.2 ⟨y,List.mem_of_mem_take hy,e⟩,hp⟩

theorem uc (l m:List Int) (A B:Option Addr) (ca cb:Nat) (w:World) (hl:l.length≤8) (hm:m.length≤8) (hA:A=none→ca=0) (hB:B=none→cb=0) (hr:ar w A l) (hs:ar w B m) :
  Calls J 229 #[I A l.length ca,I B m.length cb] w fun e w'=>∃C c,e= Z (I C (l++m).length c)∧ar w' C (l++m)∧(C=none→c=0)∧(∀a,C=some a→w.heap.size≤a.block∧a.block<w'.heap.size)∧Below w.heap.size w w':=by
 have hlm:Hid (0+l.length≤maxLen∧(0+l.length)*8≤140737488355328∧([]++l).length+m.length≤maxLen∧(([]++l).length+m.length)*8≤140737488355328):=by show _∧_;unfold maxLen;simp;omega
 have hrH:Hid (ar w A l∧(A=none→ca=0)∧ar w B m∧(B=none→cb=0)):=⟨hr,hA,hs,hB⟩
 clear hr hA hs hB
 go_enter Tryz.func229,Tryz.ntmps229
 go_wp2_with (first|(at_builtin;refine aW _ rfl _ _ rfl w.heap.size (I none 0 0) [] l A ca rfl rfl (ai.nil _ _ _ _ _) hrH.out.1 hrH.out.2.1 hlm.out.1 hlm.out.2.1 (nR _) ?_;intro v1 w1 hown1 hgr1)|(at_builtin;refine aW _ rfl _ _ rfl w.heap.size v1 ([]++l) m B cb rfl rfl hown1 (hrH.out.2.2.1.below (dC hgr1)) hrH.out.2.2.2 hlm.out.2.2.1 hlm.out.2.2.2 (dC hgr1).size ?_;intro v2 w2 hown2 hgr2))
 have hb3:Hid (Below w.heap.size w w2):=(dC hgr1).trans (ai.grown_below hown1 hgr2 (dC hgr1).size)
 obtain ⟨C,c,rfl,hC,hrow,hlt⟩:=ai.row bP hown2
 have hfin:Hid (ar w2 C (l++m)∧(C=none→c=0)∧(∀a,C=some a→w.heap.size≤a.block∧a.block<w2.heap.size)):=⟨by simpa using hrow,hC,hlt⟩
 clear hown1 hgr1 hown2 hgr2 hC hrow hlt
 go_wp2
 go_ret
 exact ⟨C,c,by simp,hfin.out.1,hfin.out.2.1,hfin.out.2.2,hb3.out⟩

theorem mg {w w':World} {H:Type} {k:TypeId} {R:Value→Option (DataW H×List MemPlace)} {b n:Nat} {D:DataW H} (h:w.ownsMap J k R b n D) (q:Below w.heap.size w w'):w'.ownsMap J k R b n D :=
 h.kept (row:=none) ⟨q.os,q.tape,q.output,q.size,fun j hj _=>q.block j hj⟩ (by simp)
def dQ (L:List Itm) (P:List Zit):Prop:=L.map Itm.z=P.take 401∧P.all (fun x=>okW x.2)=true

theorem tC {M:List Itm} {Q:List Zit} (h:dQ M Q) (hM:M.length≤400) {y:Itm} (hy:okW y.n=true):dQ (M++[y]) (Q++[y.z]):=by
 have hl:Q.length≤400:=by
  have:=congrArg List.length h.1
  simp only[List.length_map,List.length_take] at this
  omega
 refine ⟨?_,?_⟩
 ·rw[List.map_append,h.1,List.take_of_length_le (by omega),List.take_of_length_le (by simp;omega)]
  rfl
 ·rw[List.all_append,h.2]
  simpa[Itm.z] using hy
theorem tB {M:List Itm} {Q:List Zit} (h:dQ M Q) (hM:¬M.length≤400) {y:Zit} (hy:okW y.2=true):dQ M (Q++[y]):=by
 have hl:401≤Q.length:=by
  have:=congrArg List.length h.1
  simp only[List.length_map,List.length_take] at this
  omega
 refine ⟨?_,?_⟩
 ·rw[h.1,List.take_append_of_le_length hl]
 ·rw[List.all_append,h.2]
  simpa using hy
theorem jX (w:World) {ops:Array Oper} {rest:List Oper} {o:Oper} {a:Act} {Q:Exit→Act→World→Prop} (hgd:o.guard=none) (s z:Operand)
  (ho:o.op= .call { callee:= .builtin .append,args:= #[s,z],argTypes:= #[53,53] })
  (base:Nat) (v:Value) (l:List Itm) (x:Itm) (A:Addr) (cap:Nat) (hs:a.eval s=v) (hz:a.eval z= I (some A) 1 cap) (hown:OwnT w base v l) (hr:ay aM 2 w (some A) [x]) (hx:Apart w base v.ownBlock x)
  (hml:l.length+1≤maxLen) (hb:(l.length+1)*32≤140737488355328) (hbase:base≤w.heap.size)
  (h:∀v' w',OwnT w' base v' (l++[x])→Below base w w'→w.grownBy w' v.ownBlock→(v'.ownBlock=v.ownBlock∨v'.ownBlock=some w.heap.size)→wpList J ops Q rest (a.put o.dst v') w'):wpList J ops Q (o::rest) a w :=
 wpList_plain hgd fun _ hK=>by
  obtain ⟨i0,hi,hz0,hz1,hz2⟩:=info_parts Tryz.infoT
  obtain ⟨v',w',g1,g2,g3,_,g5⟩:=run_append_own_at (P:=J) w base 53 o.type 58 i0 (.agg #[I none 0 0,.int V 0]) 2 32 Tryz.underlying53 hi hz0 hz1 hz2 rfl (by omega) v l.length (aI aM l) hown.own A 1 cap (aI aM [x]) (bu bD [x]) (hr.cells bD (by omega)) (fun u hu=>dL fw u [x] hu) hml hb hbase
  have h2:OwnT w' base v' (l++[x]):=by
   refine ⟨?_,fun y hy=> ?_⟩
   ·show w'.ownsRow base _ 2 v' (l++[x]).length (aI aM (l++[x]))
    rw[List.length_append,cE]
    exact g2
   ·rcases List.mem_append.1 hy with k|k
    ·exact (hown.each y k).grown g3 g5
    ·have:y=x:=by simpa using k
     subst this
     exact hx.grown g3 g5
  unfold Oper.wp execOp
  simp only[ho,resolve,invoke,builtin,Sem.run_bind,Sem.run_pure,Result.andThen_ok,List.map_toArray,List.map_cons,List.map_nil,hs,hz,g1]
  exact hK _ _ (h v' w' h2 (ai.grown_below hown.own g3 hbase) g3 g5)

theorem tq (a b:List Itm) (A B:Option Addr) (ca cb:Nat) (c v:Int) (w:World) (hal:a.length≤400) (hbl:b.length≤400) (ha:Lv w A ca a) (hb:Lv w B cb b) (hc:∀x∈a,inB c 0 ((x.r.length:Int)-1)=true) (hv:∀x∈b,inB v 0 ((x.r.length:Int)-1)=true) (hoa:∀x∈a,okR x.r=true∧okW x.n=true) (hob:∀x∈b,okR x.r=true∧okW x.n=true) :
  Calls J 206 #[I A a.length ca,I B b.length cb,.int V c,.int V v] w fun e w'=>∃(L:List Itm) (C:Option Addr) (k:Nat),e= Z (Y #[I C L.length k,.int V (jR (a.map Itm.z) (b.map Itm.z) c v)])∧L.map Itm.z=lI (a.map Itm.z) (b.map Itm.z) c v∧Lv w' C k L∧Below w.heap.size w w'∧NwT w' k w.heap.size C L:=by
 have hH:Hid (Lv w A ca a∧Lv w B cb b∧(∀x∈a,inB c 0 ((x.r.length:Int)-1)=true)∧(∀x∈a,okR x.r=true∧okW x.n=true)∧(∀x∈b,okR x.r=true∧okW x.n=true)):=⟨ha,hb,hc,hoa,hob⟩
 have hG0:=iN b B cb v w hbl hb.items hv (fun x hx=>(hob x hx).1)
 have hG:Hid _:=hG0
 obtain ⟨E,hE⟩:∃E,jR (a.map Itm.z) (b.map Itm.z) c v=E:=⟨_,rfl⟩
 have hEH:Hid (jR (a.map Itm.z) (b.map Itm.z) c v=E):=hE
 rw[hE]
 clear hG0 ha hb hc hv hoa hob hE
 go_enter Tryz.func206,Tryz.ntmps206
 go_wp2_with fail
 refine cM (show Calls _ _ _ _ _ from hG.out) ?_
 rintro e w1 ⟨gs,vv,D,rfl,hR0⟩
 have hR:Hid (GInv w w1 b v b.length vv gs D):=hR0
 obtain ⟨GA,gcap,hvv,_,hrow,_⟩:=hR.out.gps.own.row de
 have hrw:Hid (ay eT 2 w1 GA gs):=hrow
 subst hvv
 clear hR0 hrow hG
 have hinv:Hid (GInvL v (gs.map Grp.z) (b.map Itm.z)):=by
  show GInvL _ _ _
  have:=uM (b.map Itm.z) v
  rw[←List.take_length (l:=b),←hR.out.z,List.take_length] at this
  exact this
 go_wp2
 go_loopw [12,28] (fun u i wr=>∃(k:Nat) (L:List Itm),k≤a.length∧i= .int V k∧Hid (dQ L (dq ((a.take k).map Itm.z) (b.map Itm.z) c v)∧L.length≤401∧OwnT wr w1.heap.size u L∧Below w1.heap.size w1 wr)) (fun _ i _=>a.length-(intOf i).toNat)
 case atStart=>exact ⟨0,[],nZ _,rfl,⟨rfl,rfl⟩,by simp,OwnT.nil _ _,bR _ _⟩
 case round =>
  obtain ⟨k,L,hk,rfl,hS⟩:=hrel
  by_cases hlt:k<a.length
  ·have hltz:(k:Int)<(a.length:Int):=by omega
   have hI:Hid (Items wr A a):=(hH.out.1.items.below hR.out.bel).below hS.out.2.2.2
   obtain ⟨bb,off,rfl,hb,hcs⟩:=hI.out.at hlt
   obtain ⟨x,hx⟩:∃x,a[k]=x:=⟨_,rfl⟩
   obtain ⟨e0,e1⟩:=hcs k hlt
   rw[hx] at e0 e1
   have hxm:x∈a:=by rw[←hx];exact gM hlt
   obtain ⟨rb,ro,cn,hp,hrb,hcn,hcl,hcell⟩:=gP (hI.out.each x hxm).1 (hH.out.2.2.1 x hxm)
   have hst:Hid (dq ((a.take (k+1)).map Itm.z) (b.map Itm.z) c v=dq ((a.take k).map Itm.z) (b.map Itm.z) c v++prs x.z ((b.map Itm.z).filter fun y=>decide (atI y.1 v=atI x.r c))):=by show _=_;rw[th hlt,hx]
   have hxH:Hid (x∈a):=hxm
   obtain ⟨nn,hnn⟩:∃nn,atI x.r c=nn:=⟨_,rfl⟩
   have hkey:keyOf J 3 (.int V nn)=some (.int V nn):=keyOf_int_mk Tryz.underlying3 (by rw[←hnn];exact wfN (qQ (hH.out.2.2.2.1 x hxm).1))
   rw[hnn] at hcell hst
   rw[hp] at e0
   obtain ⟨WX,hWX⟩:∃WX,(wr.alloc (O #[I (some ⟨rb,ro,none⟩) x.r.length x.c,.int V x.n] 58))=WX:=⟨_,rfl⟩
   have hgX:Hid (Gr wr WX):=by show Gr _ _;rw[←hWX];exact (gR _).alloc _
   have hbX:Hid (Below w1.heap.size w1 WX):=hS.out.2.2.2.trans (hgX.out.below.mono hS.out.2.2.2.size)
   have y0:WX.cell? ⟨rb,ro+cn,none⟩=some (.int V nn):=(hgX.out.below.cell (p:=⟨rb,ro+cn,none⟩) hrb).trans hcell
   have x0:WX.cell? ⟨wr.heap.size,0,none⟩=some (I (some ⟨rb,ro,none⟩) x.r.length x.c):=by rw[←hWX];exact ab (gR _) rfl
   have x1:WX.cell? ⟨wr.heap.size,1,none⟩=some (.int V x.n):=by rw[←hWX];exact ab (gR _) rfl
   have hsX:wr.heap.size<WX.heap.size:=by rw[←hWX];simp
   have hcz:(cn:Int)<(x.r.length:Int):=by omega
   have hpH:Hid (x.p=some ⟨rb,ro,none⟩∧ar WX x.p x.r):=⟨hp,(hI.out.each x hxm).1.gr hgX.out⟩
   obtain rfl:=hcn
   clear hcs hx hxm hnn hp hcell hcl
   have hmp:Hid (WX.ownsMap J 3 (plainElem J 3) w.heap.size b.length D):=mg hR.out.map hbX.out
   cases hhas:Maps.has D (.int V nn)
   ·have hno:Hid ((b.map Itm.z).filter (fun y=>decide (atI y.1 v=nn))=[]):=by
     show _=_
     rw[List.filter_eq_nil_iff]
     intro y hy e
     obtain ⟨g,hg,e2⟩:=hinv.out.all y hy
     obtain ⟨g',hg',rfl⟩:=List.mem_map.1 hg
     have h1:=hR.out.plc.has nn
     rw[hhas] at h1
     have:=List.any_eq_false.1 h1.symm g' hg'
     simp at this
     exact this (e2.trans (by simpa using e))
    have hfin:Hid (dQ L (dq ((a.take (k+1)).map Itm.z) (b.map Itm.z) cn v)∧L.length≤401∧OwnT WX w1.heap.size u12 L∧Below w1.heap.size w1 WX):=⟨by rw[hst.out,hno.out];simpa[prs] using hS.out.1,hS.out.2.1,hS.out.2.2.1.gr hgX.out,hbX.out⟩
    go_wp2_with (first
     | (at_lookup;refine wpList_lookup_own_ok_int _ rfl _ _ 288 rfl 3 3 V uW Tryz.underlying288 Tryz.underlying3 (s8 _) w.heap.size b.length _ rfl hmp.out _ _ rfl hkey ?_;intro c' hat' hwc)
     | fail)
    go_roundw
    case rel=>exact ⟨k+1,L,by omega,by go_num,hfin⟩
    case measure=>simp[intOf];omega
   ·obtain ⟨i,hi_,hin,hatB⟩:=hR.out.plc.find hhas
    have hatH:Hid (D.atKey (.int V nn) (.lit (.int V 0))= .lit (.int V i)):=hatB
    obtain ⟨G,gof,hGA,hGb,hgc⟩:=hrw.out.at hi_
    subst hGA
    obtain ⟨g,hg⟩:∃g,gs[i]=g:=⟨_,rfl⟩
    have g1:WX.cell? ⟨G,gof+i*2+1,none⟩=some (I g.p g.l.length g.c):=by
     have:=hgc i hi_ 1 (by omega)
     rw[hg] at this
     exact (hbX.out.cell (p:=⟨G,gof+i*2+1,none⟩) hGb).trans (by simpa[eT,Grp.v] using this)
    have hiz:(i:Int)<(gs.length:Int):=by omega
    have hgm:Hid (g∈gs):=by show _∈_;rw[←hg];exact gM hi_
    have hgl:Hid (g.l.map Itm.z=(b.map Itm.z).filter fun y=>decide (atI y.1 v=nn)):=by
     have:=hinv.out.pick g.z (List.mem_map.2 ⟨g,hgm.out,rfl⟩)
     have hn:g.z.1=nn:=by rw[←hin,hg];rfl
     rw[hn] at this
     exact this
    have hg4:g.l.length≤400:=nT (hR.out.sub g hgm.out).1 hbl
    clear hgc hg hi_ hin hatB
    go_wp2_with (first
     | (at_lookup;refine wpList_lookup_own_ok_int _ rfl _ _ 288 rfl 3 3 V uW Tryz.underlying288 Tryz.underlying3 (s8 _) w.heap.size b.length _ rfl hmp.out _ _ rfl hkey ?_;intro c' hat' hwc;(obtain rfl:c'=(i:Int):=by (rw[hatH.out] at hat';cases hat';rfl)))
     | fail)
    obtain ⟨xb,hxb⟩:∃xb,wr.heap.size=xb:=⟨_,rfl⟩
    have hub:Hid (∀b,u12.ownBlock=some b→b≠xb):=fun b hb e=>by have:=(World.ownsRow.lt hS.out.2.2.1.own b hb).2;omega
    obtain ⟨P,hP⟩:∃P,dq ((a.take k).map Itm.z) (b.map Itm.z) cn v=P:=⟨_,rfl⟩
    have hO:Hid (dQ L P∧L.length≤401∧OwnT WX w1.heap.size u12 L∧dq ((a.take (k+1)).map Itm.z) (b.map Itm.z) cn v=P++prs x.z (g.l.map Itm.z)):=⟨by rw[←hP];exact hS.out.1,hS.out.2.1,hS.out.2.2.1.gr hgX.out,by rw[hst.out,hP,hgl.out]⟩
    have hxW:Hid (okR x.r=true∧okW x.n=true):=hH.out.2.2.2.1 x hxH.out
    rw[hxb] at x0 x1 hsX ⊢
    clear hmp hhas hat' hwc hkey y0 hS hst hgX hxb hWX hI
    go_loopw [12,50] (fun u i wi=>∃(m:Nat) (M:List Itm),m≤g.l.length∧i= .int V m∧Hid (dQ M (P++prs x.z ((g.l.take m).map Itm.z))∧M.length≤401∧OwnT wi w1.heap.size u M∧Below w1.heap.size w1 wi∧(∀b,u.ownBlock=some b→b≠xb)∧wi.cell? ⟨xb,0,none⟩=some (I (some ⟨rb,ro,none⟩) x.r.length x.c)∧wi.cell? ⟨xb,1,none⟩=some (.int V x.n)∧xb<wi.heap.size)) (fun _ i _=>g.l.length-(intOf i).toNat)
    case atStart=>exact ⟨0,L,nZ _,rfl,by simpa[prs] using hO.out.1,hO.out.2.1,hO.out.2.2.1,hbX.out,hub.out,x0,x1,hsX⟩
    case round =>
     obtain ⟨m,M,hm,rfl,hJ⟩:=hrel
     by_cases hlt2:m<g.l.length
     ·have hltz2:(m:Int)<(g.l.length:Int):=by omega
      have hIy:Hid (Items wr g.p g.l):=hR.out.items hH.out.2.1.items hJ.out.2.2.2.1 hgm.out
      obtain ⟨yb,yof,hyp,hyb,hycs⟩:=hIy.out.at hlt2
      obtain ⟨y,hy⟩:∃y,g.l[m]=y:=⟨_,rfl⟩
      obtain ⟨e2,e3⟩:=hycs m hlt2
      rw[hy] at e2 e3
      have hym:Hid (y∈g.l):=by show _∈_;rw[←hy];exact gM hlt2
      have hyW:Hid (okR y.r=true∧okW y.n=true):=hH.out.2.2.2.2 y ((hR.out.sub g hgm.out).2 y hym.out)
      have hst2:Hid (P++prs x.z ((g.l.take (m+1)).map Itm.z)=(P++prs x.z ((g.l.take m).map Itm.z))++[(x.r++y.r,x.n*y.n)]):=by show _=_;rw[vF hlt2,hy,List.append_assoc];rfl
      have hbad:Hid (okW (x.n*y.n)=false→E=5∧lI (a.map Itm.z) (b.map Itm.z) cn v=[]):=fun hn=>by
       have hin:((x.r++y.r,x.n*y.n):Zit)∈dq (a.map Itm.z) (b.map Itm.z) cn v:=by
        refine vB (k:=k+1) _ _ _ ?_
        rw[hO.out.2.2.2]
        exact List.mem_append.2 (oR (List.mem_map.2 ⟨y.z,List.mem_map.2 ⟨y,hym.out,rfl⟩,rfl⟩))
       have hE5:jR (a.map Itm.z) (b.map Itm.z) cn v=5:=by
        unfold jR
        rw[if_neg]
        intro h
        have:=List.all_eq_true.1 h _ hin
        rw[hn] at this
        cases this
       exact ⟨by rw[←hEH.out,hE5],by unfold lI;rw[if_neg (by rw[hE5];decide)]⟩
      have hmb: -1125899906842624≤x.n*y.n∧x.n*y.n≤1125899906842624:=by
       have h1:=hxW.out.2
       have h2:=hyW.out.2
       simp only[okW,inB,Bool.and_eq_true,decide_eq_true_eq] at h1 h2
       exact mW (x:=x.n) (y:=y.n) ⟨by omega,by omega⟩ h2
      have hw1:IntKind.i64.wrap (x.n*y.n)=x.n*y.n:=by rw[IntKind.wrap_i64];omega
      obtain ⟨WY,hWY⟩:∃WY,(wr.alloc (O #[I y.p y.r.length y.c,.int V y.n] 58))=WY:=⟨_,rfl⟩
      have hgY:Hid (Gr wr WY):=by show Gr _ _;rw[←hWY];exact (gR _).alloc _
      have z0:WY.cell? ⟨wr.heap.size,0,none⟩=some (I y.p y.r.length y.c):=by rw[←hWY];exact ab (gR _) rfl
      have z1:WY.cell? ⟨wr.heap.size,1,none⟩=some (.int V y.n):=by rw[←hWY];exact ab (gR _) rfl
      have hsY:wr.heap.size<WY.heap.size:=by rw[←hWY];simp
      have k0:WY.cell? ⟨xb,0,none⟩=some (I (some ⟨rb,ro,none⟩) x.r.length x.c):=(hgY.out.below.cell (p:=⟨xb,0,none⟩) hJ.out.2.2.2.2.2.2.2).trans hJ.out.2.2.2.2.2.1
      have k1:WY.cell? ⟨xb,1,none⟩=some (.int V x.n):=(hgY.out.below.cell (p:=⟨xb,1,none⟩) hJ.out.2.2.2.2.2.2.2).trans hJ.out.2.2.2.2.2.2.1
      have hbY:Hid (Below w1.heap.size w1 WY):=hJ.out.2.2.2.1.trans (hgY.out.below.mono hJ.out.2.2.2.1.size)
      have hB5:Hid (Below w.heap.size w WY):=hR.out.bel.trans (hbY.out.mono hR.out.bel.size)
      obtain ⟨N,hN⟩:∃N,x.n*y.n=N:=⟨_,rfl⟩
      rw[hN] at hw1 hst2 hbad hmb
      have hNH:Hid (x.n*y.n=N):=hN
      rw[hyp]
      clear hycs hy
      by_cases hn1:N < -1048576
      ·have hfin:Hid (E=5∧lI (a.map Itm.z) (b.map Itm.z) cn v=[]):=hbad.out (by simp[okW,inB];omega)
       go_wp2
       go_ret2
       exact ⟨[],none,0,by rw[hfin.out.1];rfl,by rw[hfin.out.2];rfl,⟨⟨oL rfl,fun x hx=>(by cases hx)⟩,fun _=>rfl,nZ _⟩,hB5.out,NwT.none _ _⟩
      ·by_cases hn2:1048576<N
       ·have hfin:Hid (E=5∧lI (a.map Itm.z) (b.map Itm.z) cn v=[]):=hbad.out (by simp[okW,inB];omega)
        go_wp2
        go_ret2
        exact ⟨[],none,0,by rw[hfin.out.1];rfl,by rw[hfin.out.2];rfl,⟨⟨oL rfl,fun x hx=>(by cases hx)⟩,fun _=>rfl,nZ _⟩,hB5.out,NwT.none _ _⟩
       ·have hNok:Hid (okW N=true):=by show _=_;simp[okW,inB];omega
        obtain ⟨MA,mc,hmu,hmn,_,_⟩:=hJ.out.2.2.1.items
        subst hmu
        by_cases hfull:M.length≤400
        ·have hfz:(M.length:Int)≤400:=by omega
         obtain ⟨R,hRR⟩:∃R,x.r++y.r=R:=⟨_,rfl⟩
         have hx8:x.r.length≤8:=by have:=hxW.out.1;simp only[okR,Bool.and_eq_true,decide_eq_true_eq] at this;exact this.1
         have hy8:y.r.length≤8:=by have:=hyW.out.1;simp only[okR,Bool.and_eq_true,decide_eq_true_eq] at this;exact this.1
         have hcall0:=uc x.r y.r (some ⟨rb,ro,none⟩) y.p x.c y.c WY hx8 hy8 (fun h=>by cases h) (hIy.out.each y hym.out).2.2 (by rw[←hpH.out.1];exact (((hH.out.1.items.each x hxH.out).1.below hB5.out))) ((hIy.out.each y hym.out).1.gr hgY.out)
         rw[hRR] at hcall0 hst2
         have hcall:Hid _:=hcall0
         have hR16:Hid (R.length≤16):=by show _≤_;rw[←hRR];simp;omega
         clear hcall0 hRR hx8 hy8
         go_wp2_with fail
         refine cM (show Calls _ _ _ _ _ from hcall.out) ?_
         rintro e w3 ⟨C,c2,rfl,r1,r2,r3,r4⟩
         have hb3:Hid (Below WY.heap.size WY w3∧Below w1.heap.size w1 w3):=⟨r4,hbY.out.trans (r4.mono hbY.out.size)⟩
         have hoX:Hid (OwnT (w3.alloc (O #[I C R.length c2,.int V N] 58)) w1.heap.size (I MA M.length mc) M∧ay aM 2 (w3.alloc (O #[I C R.length c2,.int V N] 58)) (some ⟨w3.heap.size,0,none⟩) [(⟨C,c2,R,N⟩:Itm)]∧Apart (w3.alloc (O #[I C R.length c2,.int V N] 58)) w1.heap.size (Value.slice MA M.length mc).ownBlock (⟨C,c2,R,N⟩:Itm)∧M.length+1≤maxLen∧(M.length+1)*32≤140737488355328∧Below w1.heap.size w1 (w3.alloc (O #[I C R.length c2,.int V N] 58))):=by
          have h16:=hR16.out
          refine ⟨((hJ.out.2.2.1.gr hgY.out).below r4).gr ((gR _).alloc _),d9 rfl (⟨C,c2,R,N⟩:Itm) _,⟨r1.gr ((gR _).alloc _),nT h16 (by decide),r2,fun ad had=>⟨?_,?_,?_⟩⟩,by unfold maxLen;omega,by omega,hb3.out.2.alloc hb3.out.2.size _⟩
          ·have h1:=(r3 ad had).1
           have h2:=hbY.out.size
           omega
          ·have h1:=(r3 ad had).2
           simp;omega
          ·intro e
           have h1:=(World.ownsRow.lt hJ.out.2.2.1.own ad.block e).2
           have h2:=(r3 ad had).1
           omega
         have c0:(w3.alloc (O #[I C R.length c2,.int V N] 58)).cell? ⟨xb,0,none⟩=some (I (some ⟨rb,ro,none⟩) x.r.length x.c):=(((r4.trans (((gR w3).alloc _).below.mono r4.size)).cell (p:=⟨xb,0,none⟩) (nL hJ.out.2.2.2.2.2.2.2 hgY.out.size)).trans k0)
         have c1:(w3.alloc (O #[I C R.length c2,.int V N] 58)).cell? ⟨xb,1,none⟩=some (.int V x.n):=(((r4.trans (((gR w3).alloc _).below.mono r4.size)).cell (p:=⟨xb,1,none⟩) (nL hJ.out.2.2.2.2.2.2.2 hgY.out.size)).trans k1)
         have hxl3:xb<(w3.alloc (O #[I C R.length c2,.int V N] 58)).heap.size:=nL hJ.out.2.2.2.2.2.2.2 (nT hgY.out.size (nT r4.size (by simp)))
         have hcH:Hid ((w3.alloc (O #[I C R.length c2,.int V N] 58)).cell? ⟨xb,0,none⟩=some (I (some ⟨rb,ro,none⟩) x.r.length x.c)∧(w3.alloc (O #[I C R.length c2,.int V N] 58)).cell? ⟨xb,1,none⟩=some (.int V x.n)∧xb<(w3.alloc (O #[I C R.length c2,.int V N] 58)).heap.size):=⟨c0,c1,hxl3⟩
         have q1:w3.cell? ⟨wr.heap.size,1,none⟩=some (.int V y.n):=(r4.cell (p:=⟨wr.heap.size,1,none⟩) hsY).trans z1
         clear r1 r2 r3 r4 hcall c0 c1 hxl3
         go_wp2_with (at_builtin;refine jX _ rfl _ _ rfl w1.heap.size (I MA M.length mc) M (⟨C,c2,R,N⟩:Itm) ⟨w3.heap.size,0,none⟩ 1 rfl rfl hoX.out.1 hoX.out.2.1 hoX.out.2.2.1 hoX.out.2.2.2.1 hoX.out.2.2.2.2.1 hoX.out.2.2.2.2.2.size ?_;intro v4 w4 hown4 hb4 hg4' hloc4)
         have hfin:Hid (dQ (M++[(⟨C,c2,R,N⟩:Itm)]) (P++prs x.z ((g.l.take (m+1)).map Itm.z))∧(M++[(⟨C,c2,R,N⟩:Itm)]).length≤401∧OwnT w4 w1.heap.size v4 (M++[(⟨C,c2,R,N⟩:Itm)])∧Below w1.heap.size w1 w4∧(∀b,v4.ownBlock=some b→b≠xb)∧w4.cell? ⟨xb,0,none⟩=some (I (some ⟨rb,ro,none⟩) x.r.length x.c)∧w4.cell? ⟨xb,1,none⟩=some (.int V x.n)∧xb<w4.heap.size):=by
          have hne:some xb≠(Value.slice MA M.length mc).ownBlock:=fun e=>hJ.out.2.2.2.2.1 xb e.symm rfl
          refine ⟨by rw[hst2.out];exact tC (y:=(⟨C,c2,R,N⟩:Itm)) hJ.out.1 hfull hNok.out,by simp;omega,hown4,hoX.out.2.2.2.2.2.trans hb4,fun bl hbl'=> ?_,(World.cell?_of_block (a:=⟨xb,0,none⟩) (hg4'.block _ hcH.out.2.2 hne)).trans hcH.out.1,(World.cell?_of_block (a:=⟨xb,1,none⟩) (hg4'.block _ hcH.out.2.2 hne)).trans hcH.out.2.1,nL hcH.out.2.2 hg4'.size⟩
          rcases hloc4 with e|e
          ·rw[e] at hbl';exact hJ.out.2.2.2.2.1 bl hbl'
          ·rw[e] at hbl'
           have h1:=hcH.out.2.2
           intro e2
           simp at hbl' h1
           omega
         clear hown4 hb4 hg4' hloc4
         go_roundw
         case rel=>exact ⟨m+1,M++[(⟨C,c2,R,N⟩:Itm)],by omega,by go_num,hfin⟩
         case measure=>simp[intOf];omega
        ·have hfz:¬(M.length:Int)≤400:=by omega
         have hfin:Hid (dQ M (P++prs x.z ((g.l.take (m+1)).map Itm.z))∧M.length≤401∧OwnT WY w1.heap.size (I MA M.length mc) M∧Below w1.heap.size w1 WY∧(∀b,(Value.slice MA M.length mc).ownBlock=some b→b≠xb)∧WY.cell? ⟨xb,0,none⟩=some (I (some ⟨rb,ro,none⟩) x.r.length x.c)∧WY.cell? ⟨xb,1,none⟩=some (.int V x.n)∧xb<WY.heap.size):=⟨by rw[hst2.out];exact tB hJ.out.1 hfull hNok.out,hJ.out.2.1,hJ.out.2.2.1.gr hgY.out,hbY.out,hJ.out.2.2.2.2.1,k0,k1,nL hJ.out.2.2.2.2.2.2.2 hgY.out.size⟩
         go_wp2
         go_roundw
         case rel=>exact ⟨m+1,M,by omega,by go_num,hfin⟩
         case measure=>simp[intOf];omega
     ·have hltz2:¬(m:Int)<(g.l.length:Int):=by omega
      have hfin:Hid (dQ M (dq ((a.take (k+1)).map Itm.z) (b.map Itm.z) cn v)∧M.length≤401∧OwnT wr w1.heap.size u12 M∧Below w1.heap.size w1 wr):=⟨by
       have:=hJ.out.1
       rw[List.take_of_length_le (by omega)] at this
       rw[hO.out.2.2.2];exact this,hJ.out.2.1,hJ.out.2.2.1,hJ.out.2.2.2.1⟩
      go_wp2
      go_roundw
      case rel=>exact ⟨k+1,M,by omega,by go_num,hfin⟩
      case measure=>simp[intOf];omega
  ·have hltz:¬(k:Int)<(a.length:Int):=by omega
   obtain ⟨A2,cap2,hv2,hn2,hit,_⟩:=hS.out.2.2.1.items
   have hall:Hid (L.map Itm.z=(dq (a.map Itm.z) (b.map Itm.z) c v).take 401∧jR (a.map Itm.z) (b.map Itm.z) c v=bZ ((dq (a.map Itm.z) (b.map Itm.z) c v).take 401)):=by
    have h1:=hS.out.1
    rw[List.take_of_length_le (by omega)] at h1
    exact ⟨h1.1,by unfold jR;rw[if_pos h1.2]⟩
   have hN0:=nW (W:=wr) (A:=A2) (c:=cap2) (l:=L) ⟨hit,hn2,by have:=hS.out.2.1;unfold maxLen;omega⟩ hall.out.1
   have hN:Hid _:=hN0
   have hBw:Hid (Below w.heap.size w wr):=hR.out.bel.trans (hS.out.2.2.2.mono hR.out.bel.size)
   have hEn:Hid (bZ ((dq (a.map Itm.z) (b.map Itm.z) c v).take 401)=E):=by show _=_;rw[←hall.out.2,hEH.out]
   subst hv2
   clear hit hn2 hN0
   go_wp2_with fail
   refine cM (show Calls _ _ _ _ _ from hN.out) ?_
   rintro e w2 ⟨L2,C2,k2,rfl,h1,h2,h3,h4⟩
   rw[hEn.out]
   have hfin:Hid (L2.map Itm.z=lI (a.map Itm.z) (b.map Itm.z) c v∧Lv w2 C2 k2 L2∧Below w.heap.size w w2∧NwT w2 k2 w.heap.size C2 L2):=by
    refine ⟨?_,h2,hBw.out.trans (h3.mono hBw.out.size),h4.mono hBw.out.size⟩
    rw[h1]
    unfold lI
    rw[hall.out.2]
    by_cases e:bZ ((dq (a.map Itm.z) (b.map Itm.z) c v).take 401)=0
    ·rw[if_pos e]
    ·rw[if_neg e];exact lA e
   clear h1 h2 h3 h4 hN
   go_wp2
   go_ret2
   exact ⟨L2,C2,k2,rfl,hfin.out.1,hfin.out.2.1,hfin.out.2.2.1,hfin.out.2.2.2⟩

structure OneOk (s:Stp) (l:List Itm):Prop where
 len:l.length≤400
 ok:∀x∈l,okR x.r=true∧okW x.n=true
 k2:s.k=2→inB s.o 1 3=true∧∀x∈l,inB s.c 0 ((x.r.length:Int)-1)=true
 k3:s.k=3→s.l.length≤8∧∀x∈l,∀c∈s.l,inB c 0 ((x.r.length:Int)-1)=true
 k8:s.k=8→∀x∈l,inB s.c 0 ((x.r.length:Int)-1)=true
 k9:s.k=9→∀x∈l,inB s.c 0 ((x.r.length:Int)-1)=true∧inB s.v 0 ((x.r.length:Int)-1)=true

theorem xr (s:Stp) (l:List Itm) (A:Option Addr) (cap:Nat) (w:World) (hk:s.k=2∨s.k=3∨s.k=8∨s.k=7∨s.k=9) (ho:OneOk s l) (hr:Items w A l) (hs:ar w s.p s.l) :
  Calls J 208 #[.agg #[.int V s.k,.int V s.a,.int V s.b,.int V s.c,.int V s.o,.int V s.v,I s.p s.l.length s.n],I A l.length cap] w fun e w'=>∃(L:List Itm) (C:Option Addr) (k:Nat),e= Z (I C L.length k)∧L.map Itm.z=e8 s (l.map Itm.z)∧Lv w' C k L∧L.length≤400∧Below w.heap.size w w':=by
 have hgX:Hid (Gr w (w.alloc (O #[.int V s.k,.int V s.a,.int V s.b,.int V s.c,.int V s.o,.int V s.v,I s.p s.l.length s.n] 121))):=(gR _).alloc _
 have hH:Hid (OneOk s l∧Items w A l∧ar w s.p s.l):=⟨ho,hr,hs⟩
 clear ho hr hs
 rcases hk with hk|hk|hk|hk|hk
 ·have hC0:=tN l A cap s.c s.o s.v (w.alloc (O #[.int V 2,.int V s.a,.int V s.b,.int V s.c,.int V s.o,.int V s.v,I s.p s.l.length s.n] 121)) hH.out.1.len (hH.out.2.1.gr ((gR _).alloc _)) (hH.out.1.k2 hk).2 (hH.out.1.k2 hk).1
  have hC:Hid _:=hC0
  have hF:Hid (e8 s (l.map Itm.z)=di (l.map Itm.z) s.c s.o s.v):=by show _=_;unfold e8;rw[if_pos hk]
  clear hC0
  rw[hk]
  clear hk
  go_enter Tryz.func208,Tryz.ntmps208
  go_wp2_with fail
  refine cM (show Calls _ _ _ _ _ from hC.out) ?_
  rintro e w2 ⟨L,C,k,rfl,h1,h2,h3,h4⟩
  have hfin:Hid (L.map Itm.z=e8 s (l.map Itm.z)∧Lv w2 C k L∧Below w.heap.size w w2):=⟨by rw[hF.out];exact h1,h2,((gR _).alloc _).below.trans (h4.mono (by simp))⟩
  clear h1 h2 h4
  go_wp2
  go_ret
  exact ⟨L,C,k,rfl,hfin.out.1,hfin.out.2.1,h3,hfin.out.2.2⟩
 ·have hC0:=vD l A s.p cap s.n s.l (w.alloc (O #[.int V 3,.int V s.a,.int V s.b,.int V s.c,.int V s.o,.int V s.v,I s.p s.l.length s.n] 121)) hH.out.1.len (hH.out.1.k3 hk).1 (hH.out.2.1.gr ((gR _).alloc _)) (hH.out.2.2.gr ((gR _).alloc _)) (hH.out.1.k3 hk).2
  have hC:Hid _:=hC0
  have hF:Hid (e8 s (l.map Itm.z)=fI (l.map Itm.z) s.l):=by show _=_;unfold e8;rw[if_neg (by omega),if_pos hk]
  clear hC0
  rw[hk]
  clear hk
  go_enter Tryz.func208,Tryz.ntmps208
  go_wp2_with fail
  refine cM (show Calls _ _ _ _ _ from hC.out) ?_
  rintro e w2 ⟨L,C,k,rfl,h1,h2,h3,h4⟩
  have hfin:Hid (L.map Itm.z=e8 s (l.map Itm.z)∧Lv w2 C k L∧Below w.heap.size w w2):=⟨by rw[hF.out];exact h1,h2,((gR _).alloc _).below.trans (h4.mono (by simp))⟩
  clear h1 h2 h4
  go_wp2
  go_ret
  exact ⟨L,C,k,rfl,hfin.out.1,hfin.out.2.1,h3,hfin.out.2.2⟩
 ·have hC0:=sq l A cap s.c (w.alloc (O #[.int V 8,.int V s.a,.int V s.b,.int V s.c,.int V s.o,.int V s.v,I s.p s.l.length s.n] 121)) hH.out.1.len (hH.out.2.1.gr ((gR _).alloc _)) (hH.out.1.k8 hk) hH.out.1.ok
  have hC:Hid _:=hC0
  have hF:Hid (e8 s (l.map Itm.z)=kR (l.map Itm.z) s.c):=by show _=_;unfold e8;rw[if_neg (by omega),if_neg (by omega),if_neg (by omega),if_pos hk]
  clear hC0
  rw[hk]
  clear hk
  go_enter Tryz.func208,Tryz.ntmps208
  go_wp2_with fail
  refine cM (show Calls _ _ _ _ _ from hC.out) ?_
  rintro e w2 ⟨L,C,k,rfl,h1,h2,h3,h4⟩
  have hfin:Hid (L.map Itm.z=e8 s (l.map Itm.z)∧Lv w2 C k L∧Below w.heap.size w w2):=⟨by rw[hF.out];exact h1,h2,((gR _).alloc _).below.trans (h4.mono (by simp))⟩
  clear h1 h2 h4
  go_wp2
  go_ret
  exact ⟨L,C,k,rfl,hfin.out.1,hfin.out.2.1,h3,hfin.out.2.2⟩
 ·have hC0:=ut l A cap (w.alloc (O #[.int V 7,.int V s.a,.int V s.b,.int V s.c,.int V s.o,.int V s.v,I s.p s.l.length s.n] 121)) hH.out.1.len (hH.out.2.1.gr ((gR _).alloc _))
  have hC:Hid _:=hC0
  have hF:Hid (e8 s (l.map Itm.z)=fv (l.map Itm.z)):=by show _=_;unfold e8;rw[if_neg (by omega),if_neg (by omega),if_pos hk]
  clear hC0
  rw[hk]
  clear hk
  go_enter Tryz.func208,Tryz.ntmps208
  go_wp2_with fail
  refine cM (show Calls _ _ _ _ _ from hC.out) ?_
  rintro e w2 ⟨L,C,k,rfl,h1,h2,h3,h4⟩
  have hfin:Hid (L.map Itm.z=e8 s (l.map Itm.z)∧Lv w2 C k L∧Below w.heap.size w w2):=⟨by rw[hF.out];exact h1,h2,((gR _).alloc _).below.trans (h4.mono (by simp))⟩
  clear h1 h2 h4
  go_wp2
  go_ret
  exact ⟨L,C,k,rfl,hfin.out.1,hfin.out.2.1,h3,hfin.out.2.2⟩
 ·have hC0:=vT l A cap s.c s.v (w.alloc (O #[.int V 9,.int V s.a,.int V s.b,.int V s.c,.int V s.o,.int V s.v,I s.p s.l.length s.n] 121)) hH.out.1.len (hH.out.2.1.gr ((gR _).alloc _)) (fun x hx=>(hH.out.1.k9 hk x hx).1) (fun x hx=>(hH.out.1.k9 hk x hx).2) hH.out.1.ok
  have hC:Hid _:=hC0
  have hF:Hid (e8 s (l.map Itm.z)=vS (l.map Itm.z) s.c s.v):=by show _=_;unfold e8;rw[if_neg (by omega),if_neg (by omega),if_neg (by omega),if_neg (by omega)]
  clear hC0
  rw[hk]
  clear hk
  go_enter Tryz.func208,Tryz.ntmps208
  go_wp2_with fail
  refine cM (show Calls _ _ _ _ _ from hC.out) ?_
  rintro e w2 ⟨L,C,k,rfl,h1,h2,h3,h4⟩
  have hfin:Hid (L.map Itm.z=e8 s (l.map Itm.z)∧Lv w2 C k L∧Below w.heap.size w w2):=⟨by rw[hF.out];exact h1,h2,((gR _).alloc _).below.trans (h4.mono (by simp))⟩
  clear h1 h2 h4
  go_wp2
  go_ret
  exact ⟨L,C,k,rfl,hfin.out.1,hfin.out.2.1,h3,hfin.out.2.2⟩

theorem vj {b:List Zit} (h:aw b=0):gx b=f9 b:=by unfold gx;rw[if_pos h];rfl
theorem qU (a b:List Itm) (A B:Option Addr) (ca cb:Nat) (w:World) (ha:Lv w A ca a) (hb:Lv w B cb b) (he:aw (b.map Itm.z)=0) :
  Calls J 207 #[I A a.length ca,I B b.length cb] w fun e w'=>∃(L:List Itm) (C:Option Addr) (k:Nat),e= Z (Y #[I C L.length k,.int V (mf (a.map Itm.z) (b.map Itm.z))])∧L.map Itm.z=qG (a.map Itm.z) (b.map Itm.z)∧Lv w' C k L∧Below w.heap.size w w'∧NwT w' k w.heap.size C L:=by
 have hN0:=zj hb (m:=b.map Itm.z) rfl
 have hN:Hid _:=hN0
 have hH:Hid (Lv w A ca a∧aw (b.map Itm.z)=0):=⟨ha,he⟩
 clear hN0 ha hb
 rw[he] at hN
 clear he
 go_enter Tryz.func207,Tryz.ntmps207
 go_wp2_with fail
 refine cM (show Calls _ _ _ _ _ from hN.out) ?_
 rintro e w1 ⟨L1,C1,k1,rfl,h1,h2,h3⟩
 have hA0:=ol (hH.out.1.below h3) h2 (m:=a.map Itm.z) (n:=f9 (b.map Itm.z)) rfl (by rw[h1,vj hH.out.2])
 have hA:Hid _:=hA0
 have hB:Hid (Below w.heap.size w w1):=h3
 clear hA0 h1 h2 h3 hN
 go_wp2_with fail
 refine cM (show Calls _ _ _ _ _ from hA.out) ?_
 rintro e w2 ⟨L,C,k,rfl,h1,h2,h3,h4⟩
 have hNw:Hid (NwT w2 k w.heap.size C L):=h4.mono hB.out.size
 have hfin:Hid (aR (a.map Itm.z) (f9 (b.map Itm.z))=mf (a.map Itm.z) (b.map Itm.z)∧L.map Itm.z=qG (a.map Itm.z) (b.map Itm.z)∧Lv w2 C k L∧Below w.heap.size w w2):=by
  have hm:mf (a.map Itm.z) (b.map Itm.z)=aR (a.map Itm.z) (f9 (b.map Itm.z)):=by unfold mf;rw[if_pos hH.out.2]
  refine ⟨hm.symm,?_,h2,hB.out.trans (h3.mono hB.out.size)⟩
  rw[h1]
  unfold qG
  rw[hm]
  by_cases e:aR (a.map Itm.z) (f9 (b.map Itm.z))=0
  ·rw[if_pos e]
  ·rw[if_neg e];unfold aP;rw[if_neg e]
 clear h1 h2 h3 h4 hA
 go_wp2
 go_ret2
 exact ⟨L,C,k,by rw[hfin.out.1];rfl,hfin.out.2.1,hfin.out.2.2.1,hfin.out.2.2.2,hNw.out⟩
theorem yz {W:World} {A B:Option Addr} {c d:Nat} {l r:List Itm} (h:Lv W A c l) (h':Lv W B d r) (he:aw (r.map Itm.z)=0) {m n:List Zit} (hm:l.map Itm.z=m) (hn:r.map Itm.z=n) :
  Calls J 207 #[I A l.length c,I B r.length d] W fun e w'=>∃(L:List Itm) (C:Option Addr) (k:Nat),e= Z (Y #[I C L.length k,.int V (mf m n)])∧L.map Itm.z=qG m n∧Lv w' C k L∧Below W.heap.size W w'∧NwT w' k W.heap.size C L:=by
 subst hm hn
 exact qU l r A B c d W h h' he
structure JoinOk (c v:Int) (l r:List Itm):Prop where
 la:l.length≤400
 lb:r.length≤400
 c:∀x∈l,inB c 0 ((x.r.length:Int)-1)=true
 v:∀x∈r,inB v 0 ((x.r.length:Int)-1)=true
 oa:∀x∈l,okR x.r=true∧okW x.n=true
 ob:∀x∈r,okR x.r=true∧okW x.n=true
theorem zh {W:World} {A B:Option Addr} {c d:Nat} {l r:List Itm} {cc v:Int} (h:Lv W A c l) (h':Lv W B d r) (hJ:JoinOk cc v l r) {m n:List Zit} (hm:l.map Itm.z=m) (hn:r.map Itm.z=n) :
  Calls J 206 #[I A l.length c,I B r.length d,.int V cc,.int V v] W fun e w'=>∃(L:List Itm) (C:Option Addr) (k:Nat),e= Z (Y #[I C L.length k,.int V (jR m n cc v)])∧L.map Itm.z=lI m n cc v∧Lv w' C k L∧Below W.heap.size W w'∧NwT w' k W.heap.size C L:=by
 subst hm hn
 exact tq l r A B c d cc v W hJ.la hJ.lb h h' hJ.c hJ.v hJ.oa hJ.ob
end Go.Proofs.YtkefkplnamkicabGreatDoor
