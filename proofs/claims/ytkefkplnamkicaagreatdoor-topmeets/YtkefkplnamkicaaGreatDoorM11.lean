/-
  plain.count.
  plain.sumAt.
  plain.sum.
  plain.pick.
  plain.distinct.
  The pairs of a join, in the order in which they are told; plain.rowOfBoth.
-/
import Derived.Test.YtkefkplnamkicaaGreatDoorM10
set_option maxRecDepth 100000
set_option maxHeartbeats 8000000
open Go.Ending renaming returned → Z
open Go.IntKind renaming i64 → V
open Go.Obj renaming cells → O
open Go.Proofs.Tryz renaming prog → J
open Go.Value renaming slice → I
namespace Go.Proofs.YtkefkplnamkicaaGreatDoor
open Go.RowKit Go.Sort Go.Maps

theorem ww {gs:List Grp} {k:Nat} (h:k<gs.length):((gs.take (k+1)).map Grp.z).filterMap lW=((gs.take k).map Grp.z).filterMap lW++(if br (gs[k].l.map Itm.z)=0 then [] else [([gs[k].n,br (gs[k].l.map Itm.z)],1)]):=by
 rw[List.take_succ_eq_append_getElem h,List.map_append,List.filterMap_append]
 congr 1
 by_cases e:br (gs[k].l.map Itm.z)=0
 ·rw[if_pos e];simp[lW,Grp.z,e]
 ·rw[if_neg e];simp[lW,Grp.z,e]
theorem tX {W:World} {n:Nat} (hn:W.heap.size=n) (a b:Int) (T:TypeId):ay (W.alloc (O #[.int V a,.int V b] T)) (some ⟨n,0,none⟩) [a,b]:=by
 subst hn
 refine oR ⟨W.heap.size,0,rfl,by simp,fun j hj i hi=> ?_⟩
 obtain rfl:i=0:=by omega
 have hj':j=0∨j=1:=by simp at hj;omega
 rcases hj' with rfl|rfl
 ·exact ab (w:=W) (gR _) (j:=0) rfl
 ·exact ab (w:=W) (gR _) (j:=1) rfl
theorem GInv.items {w wr W:World} {l:List Itm} {c:Int} {k:Nat} {u:Value} {gs:List Grp} {D:DataW Unit} {A:Option Addr} (h:GInv w wr l c k u gs D) (hr:Items w A l) (hW:Below wr.heap.size wr W) {g:Grp} (hg:g∈gs):Items W g.p g.l:=by
 obtain ⟨A2,cp,hv,_,hrow,_⟩:=((h.gps.each g hg).below hW).row bL
 have e:g.p=A2:=by
  have h3:=hv
  unfold Grp.v at h3
  simp at h3
  exact h3.1
 rw[e]
 exact ⟨hrow,fun x hx=>((hr.below h.bel).below hW).each x ((h.sub g hg).2 x hx)⟩

theorem uv (l:List Itm) (A:Option Addr) (cap:Nat) (c:Int) (w:World) (hl:l.length≤400) (hr:Items w A l) (hc:∀x∈l,inB c 0 ((x.r.length:Int)-1)=true) (hok:∀x∈l,okR x.r=true∧okW x.n=true) :
  Calls J 141 #[I A l.length cap,.int V c] w fun e w'=>∃(L:List Itm) (C:Option Addr) (k:Nat),e= Z (I C L.length k)∧L.map Itm.z=lY (l.map Itm.z) c∧Lv w' C k L∧L.length≤400∧Below w.heap.size w w':=by
 have hrH:Hid (Items w A l∧(∀x∈l,okW x.n=true)):=⟨hr,fun x hx=>(hok x hx).2⟩
 have hG:Hid _:=jo l A cap c w hl hr hc (fun x hx=>(hok x hx).1)
 clear hr hc hok
 go_enter Tryz.func141,Tryz.ntmps141
 go_wp2_with fail
 refine cM (show Calls _ _ _ _ _ from hG.out) ?_
 rintro e w1 ⟨gs,v,D,rfl,hR0⟩
 clear hG
 have hR:Hid (GInv w w1 l c l.length v gs D):=hR0
 obtain ⟨GA,gcap,hv,_,hrow,_⟩:=hR.out.gps.own.row dh
 have hrw:Hid (au ff 2 w1 GA gs):=hrow
 subst hv
 clear hR0 hrow
 have hgl:gs.length≤400:=nT hR.out.len hl
 go_wp2
 go_loopw [5,19] (fun u i wr=>∃(k:Nat) (L:List Itm),k≤gs.length∧i= .int V k∧Hid (L.length≤k∧L.map Itm.z=((gs.take k).map Grp.z).filterMap lW∧OwnT wr w1.heap.size u L∧Below w1.heap.size w1 wr)) (fun _ i _=>gs.length-(intOf i).toNat)
 case atStart=>exact ⟨0,[],nZ _,rfl,nR _,rfl,OwnT.nil _ _,bR _ _⟩
 case round =>
  obtain ⟨k,L,hk,rfl,hS⟩:=hrel
  by_cases hlt:k<gs.length
  ·have hltz:(k:Int)<(gs.length:Int):=by omega
   obtain ⟨bb,off,rfl,hb,hcs⟩:=(hrw.out.below hS.out.2.2.2).at hlt
   obtain ⟨g,hg⟩:∃g,gs[k]=g:=⟨_,rfl⟩
   have e0:wr.cell? ⟨bb,off+k*2,none⟩=some (.int V g.n):=by have:=hcs k hlt 0 (by omega);rw[hg] at this;simpa[ff] using this
   have e1:wr.cell? ⟨bb,off+k*2+1,none⟩=some (I g.p g.l.length g.c):=by have:=hcs k hlt 1 (by omega);rw[hg] at this;simpa[ff,Grp.v] using this
   have hgm:Hid (g∈gs):=by show _∈_;rw[←hg];exact gM hlt
   have hst:Hid (((gs.take (k+1)).map Grp.z).filterMap lW=((gs.take k).map Grp.z).filterMap lW++(if br (g.l.map Itm.z)=0 then [] else [([g.n,br (g.l.map Itm.z)],1)])):=by show _=_;rw[ww hlt,hg]
   clear hcs hg
   obtain ⟨WX,hWX⟩:∃WX,(wr.alloc (O #[.int V g.n,I g.p g.l.length g.c] 212))=WX:=⟨_,rfl⟩
   have hgX:Hid (Gr wr WX):=by show Gr _ _;rw[←hWX];exact (gR _).alloc _
   have y0:WX.cell? ⟨wr.heap.size,0,none⟩=some (.int V g.n):=by rw[←hWX];exact ab (gR _) rfl
   have y1:WX.cell? ⟨wr.heap.size,1,none⟩=some (I g.p g.l.length g.c):=by rw[←hWX];exact ab (gR _) rfl
   have hsX:wr.heap.size<WX.heap.size:=by rw[←hWX];simp
   have hbX:Hid (Below w1.heap.size w1 WX):=hS.out.2.2.2.trans (hgX.out.below.mono hS.out.2.2.2.size)
   obtain ⟨T,hT⟩:∃T,br (g.l.map Itm.z)=T:=⟨_,rfl⟩
   have hcall0:Calls J 188 #[I g.p g.l.length g.c] WX fun e w'=>e= Z (.int V T)∧Gr WX w':=by
    rw[←hT]
    have h1:=hR.out.sub g hgm.out
    exact pt g.l g.p g.c WX (by omega) (fun x hx=>hrH.out.2 x (h1.2 x hx)) (hR.out.items hrH.out.1 hbX.out hgm.out)
   have hcall:Hid _:=hcall0
   clear hcall0
   rw[hT] at hst
   clear hT
   cases hq:(T != 0)
   ·have hT0:T=0:=by simpa using hq
    go_wp2_with (go_at_call 188;(refine cM (show Calls _ _ _ _ _ from hcall.out) ?_);rintro e w2 ⟨rfl,hg2⟩)
    have hfin:Hid (L.length≤k+1∧L.map Itm.z=((gs.take (k+1)).map Grp.z).filterMap lW∧OwnT w2 w1.heap.size u5 L∧Below w1.heap.size w1 w2) :=
     ⟨by have:=hS.out.1;omega,by rw[hst.out,if_pos hT0,List.append_nil];exact hS.out.2.1,(hS.out.2.2.1.gr hgX.out).gr hg2,hbX.out.trans (hg2.below.mono hbX.out.size)⟩
    go_roundw
    case rel=>exact ⟨k+1,L,by omega,by go_num,hfin⟩
    case measure=>simp[intOf];omega
   ·have hT0:¬T=0:=by simpa using hq
    have hoF:Hid (∀w2,Gr wr w2→Below w1.heap.size w1 w2→OwnT ((w2.alloc (O #[.int V g.n,.int V T] 3)).alloc (O #[I (some ⟨w2.heap.size,0,none⟩) 2 2,.int V 1] 101)) w1.heap.size u5 L∧au aQ 2 ((w2.alloc (O #[.int V g.n,.int V T] 3)).alloc (O #[I (some ⟨w2.heap.size,0,none⟩) 2 2,.int V 1] 101)) (some ⟨w2.heap.size+1,0,none⟩) [(⟨some ⟨w2.heap.size,0,none⟩,2,[g.n,T],1⟩:Itm)]∧Apart ((w2.alloc (O #[.int V g.n,.int V T] 3)).alloc (O #[I (some ⟨w2.heap.size,0,none⟩) 2 2,.int V 1] 101)) w1.heap.size u5.ownBlock (⟨some ⟨w2.heap.size,0,none⟩,2,[g.n,T],1⟩:Itm)∧L.length+1≤maxLen∧(L.length+1)*32≤140737488355328∧Below w1.heap.size w1 ((w2.alloc (O #[.int V g.n,.int V T] 3)).alloc (O #[I (some ⟨w2.heap.size,0,none⟩) 2 2,.int V 1] 101))):=fun w2 hg2 hb2=>by
     have hLk:=hS.out.1
     have h2:Gr w2 ((w2.alloc (O #[.int V g.n,.int V T] 3)).alloc (O #[I (some ⟨w2.heap.size,0,none⟩) 2 2,.int V 1] 101)):=((gR _).alloc _).alloc _
     refine ⟨(hS.out.2.2.1.gr hg2).gr h2,da (by simp) (⟨some ⟨w2.heap.size,0,none⟩,2,[g.n,T],1⟩:Itm) _,⟨(tX rfl g.n T _).gr ((gR _).alloc _),by simp[maxLen],fun h=>(by cases h),fun a ha=>⟨?_,?_,?_⟩⟩,by unfold maxLen;omega,by omega,hb2.trans (h2.below.mono hb2.size)⟩
     ·cases ha;exact hb2.size
     ·cases ha;simp;omega
     ·cases ha
      intro e
      have h3:=(World.ownsRow.lt hS.out.2.2.1.own w2.heap.size e).2
      have h4:=hg2.size
      omega
    go_wp2_with (first|(go_at_call 188;(refine cM (show Calls _ _ _ _ _ from hcall.out) ?_);rintro e w2 ⟨rfl,hg2⟩;have y0':w2.cell? ⟨wr.heap.size,0,none⟩=some (.int V g.n):=(hg2.below.cell (p:=⟨wr.heap.size,0,none⟩) hsX).trans y0;have hbW:Hid (Below w1.heap.size w1 w2∧Gr wr w2):=⟨hbX.out.trans (hg2.below.mono hbX.out.size),hgX.out.trans hg2⟩;clear hg2;have hoX:=hoF.out w2 hbW.out.2 hbW.out.1;have hoH:Hid _:=hoX;clear hoX)|(at_builtin;refine eX _ rfl (.tmp 28) (.tmp 34) rfl w1.heap.size u5 L (⟨some ⟨w2.heap.size,0,none⟩,2,[g.n,T],1⟩:Itm) ⟨w2.heap.size+1,0,none⟩ 1 rfl rfl hoH.out.1 hoH.out.2.1 hoH.out.2.2.1 hoH.out.2.2.2.1 hoH.out.2.2.2.2.1 hoH.out.2.2.2.2.2.size ?_;intro v3 w3 hown3 hg3)|fail)
    have hfin:Hid ((L++[(⟨some ⟨w2.heap.size,0,none⟩,2,[g.n,T],1⟩:Itm)]).length≤k+1∧(L++[(⟨some ⟨w2.heap.size,0,none⟩,2,[g.n,T],1⟩:Itm)]).map Itm.z=((gs.take (k+1)).map Grp.z).filterMap lW∧OwnT w3 w1.heap.size v3 (L++[(⟨some ⟨w2.heap.size,0,none⟩,2,[g.n,T],1⟩:Itm)])∧Below w1.heap.size w1 w3) :=
     ⟨by have:=hS.out.1;simp;omega,by rw[hst.out,if_neg hT0,List.map_append,hS.out.2.1];rfl,hown3,hoH.out.2.2.2.2.2.trans hg3⟩
    clear hown3 hg3
    go_roundw
    case rel=>exact ⟨k+1,L++[(⟨some ⟨w2.heap.size,0,none⟩,2,[g.n,T],1⟩:Itm)],by omega,by go_num,hfin⟩
    case measure=>simp[intOf];omega
  ·have hltz:¬(k:Int)<(gs.length:Int):=by omega
   have hke:gs.take k=gs:=List.take_of_length_le (by omega)
   obtain ⟨A2,cap2,hv2,hn2,hit,_⟩:=hS.out.2.2.1.items
   have hlL:L.length≤400:=by have:=hS.out.1;omega
   have hfin:Hid (L.map Itm.z=lY (l.map Itm.z) c∧Lv wr A2 cap2 L∧Below w.heap.size w wr):=by
    refine ⟨?_,⟨hit,hn2,by unfold maxLen;omega⟩,hR.out.bel.trans (hS.out.2.2.2.mono hR.out.bel.size)⟩
    have:=hS.out.2.1
    rw[hke,hR.out.z,List.take_length] at this
    exact this
   subst hv2
   clear hke hit hn2
   go_wp2
   go_ret
   exact ⟨L,A2,cap2,rfl,hfin.out.1,hfin.out.2.1,hlL,hfin.out.2.2⟩

theorem wR (w:World) (n:Nat):Gr w (w.drewN n):=⟨n,#[],by rw[grow_empty]⟩
theorem nQ (v:Int) (a b:List Zit):cz v (a++b)=cz v a+cz v b:=by
 induction a with
 | nil=>simp[cz]
 | cons x a ih=>simp only[List.cons_append,cz,ih];omega
theorem oS {x y:Int} (hx: -1073741824≤x∧x≤1073741824) (hy: -1048576≤y∧y≤1048576): -1125899906842624≤x*y∧x*y≤1125899906842624:=by
 have h1:x.natAbs≤1073741824:=by omega
 have h2:y.natAbs≤1048576:=by omega
 have h3:(x*y).natAbs≤1073741824*1048576:=by rw[Int.natAbs_mul];exact Nat.mul_le_mul h1 h2
 omega
theorem vV {x:Itm} {v:Int} (h:okR x.r=true∧okW x.n=true): -1125899906842624≤atI x.r v*x.n∧atI x.r v*x.n≤1125899906842624:=by
 have h1:=sV h.1 (c:=v)
 have h2:=h.2
 simp only[okN,okW,inB,Bool.and_eq_true,decide_eq_true_eq] at h1 h2
 exact oS h1 h2
theorem pU {l:List Itm} {v:Int} (h:∀x∈l,okR x.r=true∧okW x.n=true): -((l.length:Int)*1125899906842624)≤cz v (l.map Itm.z)∧cz v (l.map Itm.z)≤(l.length:Int)*1125899906842624:=by
 induction l with
 | nil=>simp[cz]
 | cons x l ih =>
  have h1:=ih fun y hy=>h y (mC _ hy)
  have h2:=vV (v:=v) (h x (mS ..))
  have e:cz v ((x::l).map Itm.z)=atI x.r v*x.n+cz v (l.map Itm.z):=rfl
  rw[e]
  generalize atI x.r v*x.n=t at h2 ⊢
  simp only[List.length_cons]
  omega
theorem rH {l:List Itm} {k:Nat} (h:k<l.length) (v:Int):cz v ((l.take (k+1)).map Itm.z)=cz v ((l.take k).map Itm.z)+atI l[k].r v*l[k].n:=by
 rw[List.take_succ_eq_append_getElem h,List.map_append,nQ]
 simp[cz,Itm.z]

theorem vC (l:List Itm) (A:Option Addr) (cap:Nat) (v:Int) (w:World) (hl:l.length≤400) (hw:∀x∈l,okR x.r=true∧okW x.n=true) (hc:∀x∈l,inB v 0 ((x.r.length:Int)-1)=true) (hr:Items w A l) :
  Calls J 189 #[I A l.length cap,.int V v] w fun e w'=>e= Z (.int V (cz v (l.map Itm.z)))∧Gr w w':=by
 have hrH:Hid (Items w A l):=hr
 have hwH:Hid ((∀x∈l,okR x.r=true∧okW x.n=true)∧∀x∈l,inB v 0 ((x.r.length:Int)-1)=true):=⟨hw,hc⟩
 clear hr hw hc
 go_enter Tryz.func189,Tryz.ntmps189
 go_wp2
 go_loopw [5,10] (fun u i wr=>∃k:Nat,k≤l.length∧i= .int V k∧u= .int V (cz v ((l.take k).map Itm.z))∧Hid (Gr w wr)) (fun _ i _=>l.length-(intOf i).toNat)
 case atStart=>exact ⟨0,nZ _,rfl,rfl,gR _⟩
 case round =>
  obtain ⟨k,hk,rfl,rfl,hg⟩:=hrel
  by_cases hlt:k<l.length
  ·have hltz:(k:Int)<(l.length:Int):=by omega
   have hI:Hid (Items wr A l):=hrH.out.gr hg.out
   obtain ⟨bb,off,rfl,hb,hcs⟩:=hI.out.at hlt
   obtain ⟨x,hx⟩:∃x,l[k]=x:=⟨_,rfl⟩
   obtain ⟨e0,e1⟩:=hcs k hlt
   rw[hx] at e0 e1
   have hxm:x∈l:=by rw[←hx];exact gM hlt
   obtain ⟨rb,ro,cn,hp,hrb,hcn,hcl,hcell⟩:=iy (hI.out.each x hxm).1 (hwH.out.2 x hxm)
   have hst:Hid (cz v ((l.take (k+1)).map Itm.z)=cz v ((l.take k).map Itm.z)+atI x.r v*x.n):=by show _=_;rw[rH hlt,hx]
   have hbd:=pU (l:=l.take k) (v:=v) (fun y hy=>hwH.out.1 y (List.mem_of_mem_take hy))
   have hml:=vV (v:=v) (hwH.out.1 x hxm)
   have hlen:(l.take k).length≤400:=by simp;omega
   obtain ⟨T,hT⟩:∃T,cz v ((l.take k).map Itm.z)=T:=⟨_,rfl⟩
   obtain ⟨nn,hnn⟩:∃nn,atI x.r v=nn:=⟨_,rfl⟩
   rw[hT] at hst hbd ⊢
   rw[hnn] at hcell hst hml
   rw[hp] at e0
   have hw1:IntKind.i64.wrap (nn*x.n)=nn*x.n:=by rw[IntKind.wrap_i64];omega
   have hw2:IntKind.i64.wrap (T+nn*x.n)=T+nn*x.n:=by rw[IntKind.wrap_i64];omega
   have hgX:Hid (Gr w (wr.alloc (O #[I (some ⟨rb,ro,none⟩) x.r.length x.c,.int V x.n] 101))):=hg.out.alloc _
   have y0:(wr.alloc (O #[I (some ⟨rb,ro,none⟩) x.r.length x.c,.int V x.n] 101)).cell? ⟨rb,ro+cn,none⟩=some (.int V nn):=(((gR _).alloc _).cell (p:=⟨rb,ro+cn,none⟩) hrb).trans hcell
   have hcz:(cn:Int)<(x.r.length:Int):=by omega
   obtain rfl:=hcn
   clear hcs hx hxm hnn hp hcell hcl hbd hml hlen hT
   obtain ⟨M,hM⟩:∃M,nn*x.n=M:=⟨_,rfl⟩
   rw[hM] at hw1 hw2 hst
   have hMH:Hid (nn*x.n=M):=hM
   obtain ⟨WX,hWX⟩:∃WX,(wr.alloc (O #[I (some ⟨rb,ro,none⟩) x.r.length x.c,.int V x.n] 101))=WX:=⟨_,rfl⟩
   have x0:WX.cell? ⟨wr.heap.size,0,none⟩=some (I (some ⟨rb,ro,none⟩) x.r.length x.c):=by rw[←hWX];exact ab (gR _) rfl
   have x1:WX.cell? ⟨wr.heap.size,1,none⟩=some (.int V x.n):=by rw[←hWX];exact ab (gR _) rfl
   rw[hWX] at y0 hgX
   go_wp2
   clear hWX
   go_quiet (fail)
   go_wp2
   go_roundw
   case rel=>exact ⟨k+1,by omega,by go_num,by rw[hst.out],hgX.out.trans (wR _ _)⟩
   case measure=>simp[intOf];omega
  ·have hltz:¬(k:Int)<(l.length:Int):=by omega
   have hke:l.take k=l:=List.take_of_length_le (by omega)
   rw[hke]
   clear hke
   go_wp2
   go_ret
   exact ⟨rfl,hg.out⟩

theorem yi {gs:List Grp} {k:Nat} (h:k<gs.length) (v:Int):((gs.take (k+1)).map Grp.z).filterMap (mZ v)=((gs.take k).map Grp.z).filterMap (mZ v)++(if br (gs[k].l.map Itm.z)=0 then [] else [([gs[k].n,cz v (gs[k].l.map Itm.z)],1)]):=by
 rw[List.take_succ_eq_append_getElem h,List.map_append,List.filterMap_append]
 congr 1
 by_cases e:br (gs[k].l.map Itm.z)=0
 ·rw[if_pos e];simp[mZ,Grp.z,e]
 ·rw[if_neg e];simp[mZ,Grp.z,e]

theorem yh (l:List Itm) (A:Option Addr) (cap:Nat) (c v:Int) (w:World) (hl:l.length≤400) (hr:Items w A l) (hc:∀x∈l,inB c 0 ((x.r.length:Int)-1)=true) (hv:∀x∈l,inB v 0 ((x.r.length:Int)-1)=true) (hok:∀x∈l,okR x.r=true∧okW x.n=true) :
  Calls J 142 #[I A l.length cap,.int V c,.int V v] w fun e w'=>∃(L:List Itm) (C:Option Addr) (k:Nat),e= Z (I C L.length k)∧L.map Itm.z=yg (l.map Itm.z) c v∧Lv w' C k L∧L.length≤400∧Below w.heap.size w w':=by
 have hrH:Hid (Items w A l∧(∀x∈l,okW x.n=true)∧(∀x∈l,okR x.r=true∧okW x.n=true)∧∀x∈l,inB v 0 ((x.r.length:Int)-1)=true):=⟨hr,fun x hx=>(hok x hx).2,hok,hv⟩
 have hG:Hid _:=jo l A cap c w hl hr hc (fun x hx=>(hok x hx).1)
 clear hr hc hok hv
 go_enter Tryz.func142,Tryz.ntmps142
 go_wp2_with fail
 refine cM (show Calls _ _ _ _ _ from hG.out) ?_
 rintro e w1 ⟨gs,vv,D,rfl,hR0⟩
 clear hG
 have hR:Hid (GInv w w1 l c l.length vv gs D):=hR0
 obtain ⟨GA,gcap,hvv,_,hrow,_⟩:=hR.out.gps.own.row dh
 have hrw:Hid (au ff 2 w1 GA gs):=hrow
 subst hvv
 clear hR0 hrow
 have hgl:gs.length≤400:=nT hR.out.len hl
 go_wp2
 go_loopw [7,20] (fun u i wr=>∃(k:Nat) (L:List Itm),k≤gs.length∧i= .int V k∧Hid (L.length≤k∧L.map Itm.z=((gs.take k).map Grp.z).filterMap (mZ v)∧OwnT wr w1.heap.size u L∧Below w1.heap.size w1 wr)) (fun _ i _=>gs.length-(intOf i).toNat)
 case atStart=>exact ⟨0,[],nZ _,rfl,nR _,rfl,OwnT.nil _ _,bR _ _⟩
 case round =>
  obtain ⟨k,L,hk,rfl,hS⟩:=hrel
  by_cases hlt:k<gs.length
  ·have hltz:(k:Int)<(gs.length:Int):=by omega
   obtain ⟨bb,off,rfl,hb,hcs⟩:=(hrw.out.below hS.out.2.2.2).at hlt
   obtain ⟨g,hg⟩:∃g,gs[k]=g:=⟨_,rfl⟩
   have e0:wr.cell? ⟨bb,off+k*2,none⟩=some (.int V g.n):=by have:=hcs k hlt 0 (by omega);rw[hg] at this;simpa[ff] using this
   have e1:wr.cell? ⟨bb,off+k*2+1,none⟩=some (I g.p g.l.length g.c):=by have:=hcs k hlt 1 (by omega);rw[hg] at this;simpa[ff,Grp.v] using this
   have hgm:Hid (g∈gs):=by show _∈_;rw[←hg];exact gM hlt
   have hst:Hid (((gs.take (k+1)).map Grp.z).filterMap (mZ v)=((gs.take k).map Grp.z).filterMap (mZ v)++(if br (g.l.map Itm.z)=0 then [] else [([g.n,cz v (g.l.map Itm.z)],1)])):=by show _=_;rw[yi hlt,hg]
   clear hcs hg
   obtain ⟨WX,hWX⟩:∃WX,(wr.alloc (O #[.int V g.n,I g.p g.l.length g.c] 212))=WX:=⟨_,rfl⟩
   have hgX:Hid (Gr wr WX):=by show Gr _ _;rw[←hWX];exact (gR _).alloc _
   have y0:WX.cell? ⟨wr.heap.size,0,none⟩=some (.int V g.n):=by rw[←hWX];exact ab (gR _) rfl
   have y1:WX.cell? ⟨wr.heap.size,1,none⟩=some (I g.p g.l.length g.c):=by rw[←hWX];exact ab (gR _) rfl
   have hsX:wr.heap.size<WX.heap.size:=by rw[←hWX];simp
   have hbX:Hid (Below w1.heap.size w1 WX):=hS.out.2.2.2.trans (hgX.out.below.mono hS.out.2.2.2.size)
   obtain ⟨T,hT⟩:∃T,br (g.l.map Itm.z)=T:=⟨_,rfl⟩
   have hcall0:Calls J 188 #[I g.p g.l.length g.c] WX fun e w'=>e= Z (.int V T)∧Gr WX w':=by
    rw[←hT]
    have h1:=hR.out.sub g hgm.out
    exact pt g.l g.p g.c WX (by omega) (fun x hx=>hrH.out.2.1 x (h1.2 x hx)) (hR.out.items hrH.out.1 hbX.out hgm.out)
   have hcall:Hid _:=hcall0
   clear hcall0
   rw[hT] at hst
   clear hT
   cases hq:(T != 0)
   ·have hT0:T=0:=by simpa using hq
    go_wp2_with (go_at_call 188;(refine cM (show Calls _ _ _ _ _ from hcall.out) ?_);rintro e w2 ⟨rfl,hg2⟩)
    have hfin:Hid (L.length≤k+1∧L.map Itm.z=((gs.take (k+1)).map Grp.z).filterMap (mZ v)∧OwnT w2 w1.heap.size u7 L∧Below w1.heap.size w1 w2) :=
     ⟨by have:=hS.out.1;omega,by rw[hst.out,if_pos hT0,List.append_nil];exact hS.out.2.1,(hS.out.2.2.1.gr hgX.out).gr hg2,hbX.out.trans (hg2.below.mono hbX.out.size)⟩
    go_roundw
    case rel=>exact ⟨k+1,L,by omega,by go_num,hfin⟩
    case measure=>simp[intOf];omega
   ·have hT0:¬T=0:=by simpa using hq
    obtain ⟨U,hU⟩:∃U,cz v (g.l.map Itm.z)=U:=⟨_,rfl⟩
    rw[hU] at hst
    have hsum:Hid (∀W,Below WX.heap.size WX W→Calls J 189 #[I g.p g.l.length g.c,.int V v] W fun e w'=>e= Z (.int V U)∧Gr W w'):=fun W hW=>by
     rw[←hU]
     have h1:=hR.out.sub g hgm.out
     exact vC g.l g.p g.c v W (by omega) (fun x hx=>hrH.out.2.2.1 x (h1.2 x hx)) (fun x hx=>hrH.out.2.2.2 x (h1.2 x hx)) (hR.out.items hrH.out.1 (hbX.out.trans (hW.mono hbX.out.size)) hgm.out)
    have hoF:Hid (∀w3,Gr WX w3→OwnT ((w3.alloc (O #[.int V g.n,.int V U] 3)).alloc (O #[I (some ⟨w3.heap.size,0,none⟩) 2 2,.int V 1] 101)) w1.heap.size u7 L∧au aQ 2 ((w3.alloc (O #[.int V g.n,.int V U] 3)).alloc (O #[I (some ⟨w3.heap.size,0,none⟩) 2 2,.int V 1] 101)) (some ⟨w3.heap.size+1,0,none⟩) [(⟨some ⟨w3.heap.size,0,none⟩,2,[g.n,U],1⟩:Itm)]∧Apart ((w3.alloc (O #[.int V g.n,.int V U] 3)).alloc (O #[I (some ⟨w3.heap.size,0,none⟩) 2 2,.int V 1] 101)) w1.heap.size u7.ownBlock (⟨some ⟨w3.heap.size,0,none⟩,2,[g.n,U],1⟩:Itm)∧L.length+1≤maxLen∧(L.length+1)*32≤140737488355328∧Below w1.heap.size w1 ((w3.alloc (O #[.int V g.n,.int V U] 3)).alloc (O #[I (some ⟨w3.heap.size,0,none⟩) 2 2,.int V 1] 101))):=fun w3 hg3=>by
     have hLk:=hS.out.1
     have hg2:Gr wr w3:=hgX.out.trans hg3
     have hb2:Below w1.heap.size w1 w3:=hbX.out.trans (hg3.below.mono hbX.out.size)
     have h2:Gr w3 ((w3.alloc (O #[.int V g.n,.int V U] 3)).alloc (O #[I (some ⟨w3.heap.size,0,none⟩) 2 2,.int V 1] 101)):=((gR _).alloc _).alloc _
     refine ⟨(hS.out.2.2.1.gr hg2).gr h2,da (by simp) (⟨some ⟨w3.heap.size,0,none⟩,2,[g.n,U],1⟩:Itm) _,⟨(tX rfl g.n U _).gr ((gR _).alloc _),by simp[maxLen],fun h=>(by cases h),fun a ha=>⟨?_,?_,?_⟩⟩,by unfold maxLen;omega,by omega,hb2.trans (h2.below.mono hb2.size)⟩
     ·cases ha;exact hb2.size
     ·cases ha;simp;omega
     ·cases ha
      intro e
      have h3:=(World.ownsRow.lt hS.out.2.2.1.own w3.heap.size e).2
      have h4:=hg2.size
      omega
    have hub:Hid (∀b,u7.ownBlock=some b→b<wr.heap.size):=fun b hb=>(World.ownsRow.lt hS.out.2.2.1.own b hb).2
    clear hU
    go_wp2_with (go_at_call 188;(refine cM (show Calls _ _ _ _ _ from hcall.out) ?_);rintro e w2 ⟨rfl,hg2⟩)
    obtain ⟨gb,hgb⟩:∃gb,wr.heap.size=gb:=⟨_,rfl⟩
    rw[hgb] at y0 y1 hsX hub ⊢
    have hgD:Hid (Gr WX w2.drew):=hg2.trans (gR _).drew
    have hKeep:Hid (∀W',Gr WX W'→(fun w'=>w'.cell? ⟨gb,0,none⟩=some (.int V g.n)∧w'.cell? ⟨gb,1,none⟩=some (I g.p g.l.length g.c)) W'):=fun W' h=>⟨(h.below.cell (p:=⟨gb,0,none⟩) hsX).trans y0,(h.below.cell (p:=⟨gb,1,none⟩) hsX).trans y1⟩
    have hKeep4:Hid (∀w3 w4,Gr WX w3→((w3.alloc (O #[.int V g.n,.int V U] 3)).alloc (O #[I (some ⟨w3.heap.size,0,none⟩) 2 2,.int V 1] 101)).grownBy w4 u7.ownBlock→(fun w'=>w'.cell? ⟨gb,0,none⟩=some (.int V g.n)∧w'.cell? ⟨gb,1,none⟩=some (I g.p g.l.length g.c)) w4):=fun w3 w4 h3 h4=>by
     have hW:Gr WX ((w3.alloc (O #[.int V g.n,.int V U] 3)).alloc (O #[I (some ⟨w3.heap.size,0,none⟩) 2 2,.int V 1] 101)):=(h3.alloc _).alloc _
     have hk:=hKeep.out _ hW
     have hlt:gb<((w3.alloc (O #[.int V g.n,.int V U] 3)).alloc (O #[I (some ⟨w3.heap.size,0,none⟩) 2 2,.int V 1] 101)).heap.size:=nL hsX hW.size
     have hne:some gb≠u7.ownBlock:=fun e=>by have:=hub.out _ e.symm;omega
     exact ⟨(World.cell?_of_block (a:=⟨gb,0,none⟩) (h4.block _ hlt hne)).trans hk.1,(World.cell?_of_block (a:=⟨gb,1,none⟩) (h4.block _ hlt hne)).trans hk.2⟩
    clear hg2 y0 y1 hcall
    refine wp_region_noPanic ?_
    refine wp_region_held_drew (S:=(fun w'=>w'.cell? ⟨gb,0,none⟩=some (.int V g.n)∧w'.cell? ⟨gb,1,none⟩=some (I g.p g.l.length g.c))) (by kernel_rfl) (hKeep.out _ hgD.out) (fun hHeld=> ?_)
    refine tks [0,1,2,3,4,5] (by assumption) ?_
    iterate 6 (refine tk (v:= ?_) (by rfl) (by kernel_rfl) ?_ ?_;rotate_left;· (refine oL ⟨by rfl,?_⟩;intro w hSw;(try dsimp only at hSw);go_simp<;>with_reducible rfl);try simp only[Act.put,yA,aD,yS])
    refine tk0 ?_
    refine wpAnyH_ready (rs:=[6]) (by kernel_rfl) (by simp) ?_
    refine AllReadyH.cons (o:= ?ois7) ?hops7 (fun K hK=> ?steps7) ?mores7
    case hops7=>(simp only[zA,z0',zS];rfl)
    case mores7=>exact AllReadyH.nil
    go_simp
    (go_at_call 189;(refine cM (hsum.out _ hgD.out.below) ?_);rintro e w3 ⟨rfl,hq3⟩;have hg3:Hid (Gr WX w3):=hgD.out.trans hq3;clear hq3)
    first|(go_wp2_with fail)|skip
    refine hK.out _ _ ?_ (fun hHeld=> ?_)
    ·(try dsimp only);first|with_reducible exact hKeep.out _ hgD.out|with_reducible exact hKeep.out _ hg3.out|with_reducible exact hKeep.out _ (hg3.out.alloc _)|with_reducible exact hKeep.out _ ((hg3.out.alloc _).alloc _)|exact hk4.out
    clear hK K
    try simp only[Act.put,yA,aD,yS]
    refine wpAnyH_ready (rs:=[7]) (by kernel_rfl) (by simp) ?_
    refine AllReadyH.cons (o:= ?ois8) ?hops8 (fun K hK=> ?steps8) ?mores8
    case hops8=>(simp only[zA,z0',zS];rfl)
    case mores8=>exact AllReadyH.nil
    go_simp
    refine hK.out _ _ ?_ (fun hHeld=> ?_)
    ·(try dsimp only);first|with_reducible exact hKeep.out _ hgD.out|with_reducible exact hKeep.out _ hg3.out|with_reducible exact hKeep.out _ (hg3.out.alloc _)|with_reducible exact hKeep.out _ ((hg3.out.alloc _).alloc _)|exact hk4.out
    clear hK K
    try simp only[Act.put,yA,aD,yS]
    refine tks [8] (by assumption) ?_
    iterate 1 (refine tk (v:= ?_) (by rfl) (by kernel_rfl) ?_ ?_;rotate_left;· (refine oL ⟨by rfl,?_⟩;intro w hSw;(try dsimp only at hSw);go_simp<;>with_reducible rfl);try simp only[Act.put,yA,aD,yS])
    refine tk0 ?_
    refine wpAnyH_ready (rs:=[9]) (by kernel_rfl) (by simp) ?_
    refine AllReadyH.cons (o:= ?ois10) ?hops10 (fun K hK=> ?steps10) ?mores10
    case hops10=>(simp only[zA,z0',zS];rfl)
    case mores10=>exact AllReadyH.nil
    go_simp
    refine hK.out _ _ ?_ (fun hHeld=> ?_)
    ·(try dsimp only);first|with_reducible exact hKeep.out _ hgD.out|with_reducible exact hKeep.out _ hg3.out|with_reducible exact hKeep.out _ (hg3.out.alloc _)|with_reducible exact hKeep.out _ ((hg3.out.alloc _).alloc _)|exact hk4.out
    clear hK K
    try simp only[Act.put,yA,aD,yS]
    refine wpAnyH_ready (rs:=[10]) (by kernel_rfl) (by simp) ?_
    refine AllReadyH.cons (o:= ?ois11) ?hops11 (fun K hK=> ?steps11) ?mores11
    case hops11=>(simp only[zA,z0',zS];rfl)
    case mores11=>exact AllReadyH.nil
    (refine jc _ rfl (.tmp 28) (.tmp 37) rfl w1.heap.size u7 L (⟨some ⟨w3.heap.size,0,none⟩,2,[g.n,U],1⟩:Itm) ⟨w3.heap.size+1,0,none⟩ 1 rfl rfl (hoF.out w3 hg3.out).1 (hoF.out w3 hg3.out).2.1 (hoF.out w3 hg3.out).2.2.1 (hoF.out w3 hg3.out).2.2.2.1 (hoF.out w3 hg3.out).2.2.2.2.1 (hoF.out w3 hg3.out).2.2.2.2.2.size ?_;intro v4 w4 hown4 hb4 hgb4;have hk4:Hid ((fun w'=>w'.cell? ⟨gb,0,none⟩=some (.int V g.n)∧w'.cell? ⟨gb,1,none⟩=some (I g.p g.l.length g.c)) w4):=hKeep4.out w3 w4 hg3.out hgb4;have hfin:Hid ((L++[(⟨some ⟨w3.heap.size,0,none⟩,2,[g.n,U],1⟩:Itm)]).length≤k+1∧(L++[(⟨some ⟨w3.heap.size,0,none⟩,2,[g.n,U],1⟩:Itm)]).map Itm.z=((gs.take (k+1)).map Grp.z).filterMap (mZ v)∧OwnT w4 w1.heap.size v4 (L++[(⟨some ⟨w3.heap.size,0,none⟩,2,[g.n,U],1⟩:Itm)])∧Below w1.heap.size w1 w4):=⟨by have:=hS.out.1;simp;omega,by rw[hst.out,if_neg hT0,List.map_append,hS.out.2.1];rfl,hown4,(hoF.out w3 hg3.out).2.2.2.2.2.trans hb4⟩;clear hown4 hb4 hgb4)
    refine hK.out _ _ ?_ (fun hHeld=> ?_)
    ·(try dsimp only);first|with_reducible exact hKeep.out _ hgD.out|with_reducible exact hKeep.out _ hg3.out|with_reducible exact hKeep.out _ (hg3.out.alloc _)|with_reducible exact hKeep.out _ ((hg3.out.alloc _).alloc _)|exact hk4.out
    clear hK K
    try simp only[Act.put,yA,aD,yS]
    refine tks [11] (by assumption) ?_
    iterate 1 (refine tk (v:= ?_) (by rfl) (by kernel_rfl) ?_ ?_;rotate_left;· (refine oL ⟨by rfl,?_⟩;intro w hSw;(try dsimp only at hSw);go_simp<;>with_reducible rfl);try simp only[Act.put,yA,aD,yS])
    refine tk0 ?_
    refine wpAnyH_done (by kernel_rfl) ?_ _
    refine NoPanic.normal ?_
    go_wp2
    go_roundw
    case rel=>exact ⟨k+1,L++[(⟨some ⟨w3.heap.size,0,none⟩,2,[g.n,U],1⟩:Itm)],by omega,by go_num,hfin⟩
    case measure=>simp[intOf];omega
  ·have hltz:¬(k:Int)<(gs.length:Int):=by omega
   have hke:gs.take k=gs:=List.take_of_length_le (by omega)
   obtain ⟨A2,cap2,hv2,hn2,hit,_⟩:=hS.out.2.2.1.items
   have hlL:L.length≤400:=by have:=hS.out.1;omega
   have hfin:Hid (L.map Itm.z=yg (l.map Itm.z) c v∧Lv wr A2 cap2 L∧Below w.heap.size w wr):=by
    refine ⟨?_,⟨hit,hn2,by unfold maxLen;omega⟩,hR.out.bel.trans (hS.out.2.2.2.mono hR.out.bel.size)⟩
    have:=hS.out.2.1
    rw[hke,hR.out.z,List.take_length] at this
    exact this
   subst hv2
   clear hke hit hn2
   go_wp2
   go_ret
   exact ⟨L,A2,cap2,rfl,hfin.out.1,hfin.out.2.1,hlL,hfin.out.2.2⟩

theorem vq {l:List Itm} {k:Nat} (h:k<l.length) (cols:List Int):gi ((l.take (k+1)).map Itm.z) cols=gi ((l.take k).map Itm.z) cols++[(eA cols l[k].r,l[k].n)]:=by
 rw[List.take_succ_eq_append_getElem h,List.map_append]
 unfold gi
 rw[List.map_append]
 rfl
theorem sX {cols:List Int} {m:Nat} (h:m<cols.length) (r:List Int):eA (cols.take (m+1)) r=eA (cols.take m) r++[atI r cols[m]]:=by
 unfold eA
 rw[List.take_succ_eq_append_getElem h,List.map_append]
 rfl

theorem xO (l:List Itm) (A B:Option Addr) (cap cb:Nat) (cols:List Int) (w:World) (hl:l.length≤400) (hcl:cols.length≤8) (hr:Items w A l) (hrc:ay w B cols) (hc:∀x∈l,∀c∈cols,inB c 0 ((x.r.length:Int)-1)=true) :
  Calls J 139 #[I A l.length cap,I B cols.length cb] w fun e w'=>∃(L:List Itm) (C:Option Addr) (k:Nat),e= Z (I C L.length k)∧L.map Itm.z=gi (l.map Itm.z) cols∧Lv w' C k L∧L.length≤400∧Below w.heap.size w w':=by
 have hrH:Hid (Items w A l∧ay w B cols):=⟨hr,hrc⟩
 have hcH:Hid (∀x∈l,∀c∈cols,inB c 0 ((x.r.length:Int)-1)=true):=hc
 clear hr hc hrc
 go_enter Tryz.func139,Tryz.ntmps139
 go_wp2
 go_loopw [5,13] (fun u i wr=>∃(k:Nat) (L:List Itm),k≤l.length∧i= .int V k∧Hid (L.length=k∧L.map Itm.z=gi ((l.take k).map Itm.z) cols∧OwnT wr w.heap.size u L∧Below w.heap.size w wr)) (fun _ i _=>l.length-(intOf i).toNat)
 case atStart=>exact ⟨0,[],nZ _,rfl,rfl,rfl,OwnT.nil _ _,bR _ _⟩
 case round =>
  obtain ⟨k,L,hk,rfl,hR⟩:=hrel
  by_cases hlt:k<l.length
  ·have hltz:(k:Int)<(l.length:Int):=by omega
   have hI:Hid (Items wr A l∧ay wr B cols):=⟨hrH.out.1.below hR.out.2.2.2,hrH.out.2.below hR.out.2.2.2⟩
   obtain ⟨bb,off,rfl,hb,hcs⟩:=hI.out.1.at hlt
   obtain ⟨x,hx⟩:∃x,l[k]=x:=⟨_,rfl⟩
   obtain ⟨e0,e1⟩:=hcs k hlt
   rw[hx] at e0 e1
   have hxm:Hid (x∈l):=by show _∈_;rw[←hx];exact gM hlt
   have hst:Hid (gi ((l.take (k+1)).map Itm.z) cols=gi ((l.take k).map Itm.z) cols++[(eA cols x.r,x.n)]):=by show _=_;rw[vq hlt,hx]
   have hgX:Hid (Gr wr (wr.alloc (O #[I x.p x.r.length x.c,.int V x.n] 101))):=(gR _).alloc _
   obtain ⟨wX,hwX⟩:∃wX,(wr.alloc (O #[I x.p x.r.length x.c,.int V x.n] 101))=wX:=⟨_,rfl⟩
   have y0:wX.cell? ⟨wr.heap.size,0,none⟩=some (I x.p x.r.length x.c):=by rw[←hwX];exact ab (gR _) rfl
   have y1:wX.cell? ⟨wr.heap.size,1,none⟩=some (.int V x.n):=by rw[←hwX];exact ab (gR _) rfl
   have hsX:wr.heap.size<wX.heap.size:=by rw[←hwX];simp
   rw[hwX] at hgX
   clear hcs hx
   go_wp2
   clear hwX
   obtain ⟨xb,hxb⟩:∃xb,wr.heap.size=xb:=⟨_,rfl⟩
   have hRx:Hid (ay wX x.p x.r∧ay wX B cols∧xb=wr.heap.size):=⟨(hI.out.1.each x hxm.out).1.gr hgX.out,hI.out.2.gr hgX.out,hxb.symm⟩
   rw[hxb] at y0 y1 hsX ⊢
   clear hxb e0 e1 hb
   have hO:Hid (OwnT wX w.heap.size u5 L∧Below w.heap.size w wX∧L.length=k∧L.map Itm.z=gi ((l.take k).map Itm.z) cols):=⟨hR.out.2.2.1.gr hgX.out,hR.out.2.2.2.trans (hgX.out.below.mono hR.out.2.2.2.size),hR.out.1,hR.out.2.1⟩
   have hcx:Hid (∀c∈cols,inB c 0 ((x.r.length:Int)-1)=true):=hcH.out x hxm.out
   clear hR hgX hI
   go_loopw [8,19] (fun u i wi=>∃m:Nat,m≤cols.length∧i= .int V m∧Hid (eB wi wX.heap.size u (eA (cols.take m) x.r)∧Below wX.heap.size wX wi)) (fun _ i _=>cols.length-(intOf i).toNat)
   case atStart=>exact ⟨0,nZ _,rfl,af.nil _ _ _ _ _,bR _ _⟩
   case round =>
    obtain ⟨m,hm,rfl,hS⟩:=hrel
    have z0:wr.cell? ⟨xb,0,none⟩=some (I x.p x.r.length x.c):=(hS.out.2.cell (p:=⟨xb,0,none⟩) hsX).trans y0
    have z1:wr.cell? ⟨xb,1,none⟩=some (.int V x.n):=(hS.out.2.cell (p:=⟨xb,1,none⟩) hsX).trans y1
    have hlenP:(eA (cols.take m) x.r).length≤8:=by unfold eA;simp;omega
    by_cases hlt2:m<cols.length
    ·have hltz2:(m:Int)<(cols.length:Int):=by omega
     have hRw:Hid (ay wr x.p x.r∧ay wr B cols):=⟨hRx.out.1.below hS.out.2,hRx.out.2.1.below hS.out.2⟩
     obtain ⟨b2,off2,rfl,hb2,hc2⟩:=hRw.out.2.at hlt2
     obtain ⟨c,hcc⟩:∃c,cols[m]=c:=⟨_,rfl⟩
     have e2:wr.cell? ⟨b2,off2+m,none⟩=some (.int V c):=by
      have:=hc2 m hlt2 0 (by omega)
      rw[hcc] at this
      simpa[fp] using this
     have hst2:Hid (eA (cols.take (m+1)) x.r=eA (cols.take m) x.r++[atI x.r c]):=by show _=_;rw[sX hlt2,hcc]
     obtain ⟨rb,ro,cn,hp,hrb,hcn,hcl2,hcell⟩:=iy hRw.out.1 (hcx.out c (by rw[←hcc];exact gM hlt2))
     obtain ⟨nn,hnn⟩:∃nn,atI x.r c=nn:=⟨_,rfl⟩
     rw[hnn] at hcell hst2
     rw[hp] at z0
     have hcz:(cn:Int)<(x.r.length:Int):=by omega
     obtain rfl:=hcn
     clear hc2 hcc hp hnn hcl2
     have hoX:Hid (eB (wr.alloc (O #[.int V nn] 3)) wX.heap.size u8 (eA (cols.take m) x.r)∧ay (wr.alloc (O #[.int V nn] 3)) (some ⟨wr.heap.size,0,none⟩) [nn]∧(eA (cols.take m) x.r).length+[nn].length≤maxLen∧((eA (cols.take m) x.r).length+[nn].length)*8≤140737488355328∧Below wX.heap.size wX (wr.alloc (O #[.int V nn] 3))) :=
      ⟨hS.out.1.gr ((gR _).alloc _),iT rfl nn _,by unfold maxLen;simp;omega,by simp;omega,hS.out.2.alloc hS.out.2.size _⟩
     go_wp2_with (at_builtin;refine bg _ rfl (.tmp 23) (.tmp 29) rfl wX.heap.size u8 (eA (cols.take m) x.r) [nn] (some ⟨wr.heap.size,0,none⟩) 1 rfl rfl hoX.out.1 hoX.out.2.1 (fun h=>by cases h) hoX.out.2.2.1 hoX.out.2.2.2.1 hoX.out.2.2.2.2.size ?_;intro v3 w3 hown3 hg3)
     have hfin:Hid (eB w3 wX.heap.size v3 (eA (cols.take (m+1)) x.r)∧Below wX.heap.size wX w3):=⟨by rw[hst2.out];exact hown3,hoX.out.2.2.2.2.trans (hoX.out.1.grown_below hg3 hoX.out.2.2.2.2.size)⟩
     clear hown3 hg3
     go_roundw
     case rel=>exact ⟨m+1,by omega,by go_num,hfin.out⟩
     case measure=>simp[intOf];omega
    ·have hltz2:¬(m:Int)<(cols.length:Int):=by omega
     have hke:cols.take m=cols:=List.take_of_length_le (by omega)
     rw[hke] at hS hlenP
     obtain ⟨C,cc,hv2,hn2,hit,hpl⟩:=hS.out.1.row bZ
     obtain ⟨PR,hPR⟩:∃PR,eA cols x.r=PR:=⟨_,rfl⟩
     rw[hPR] at hst hS hv2 hit hlenP
     subst hv2
     have hbW:Hid (Below w.heap.size w wr∧w.heap.size≤wX.heap.size):=⟨hO.out.2.1.trans (hS.out.2.mono hO.out.2.1.size),hO.out.2.1.size⟩
     have hoX:Hid (OwnT (wr.alloc (O #[I C PR.length cc,.int V x.n] 101)) w.heap.size u5 L∧au aQ 2 (wr.alloc (O #[I C PR.length cc,.int V x.n] 101)) (some ⟨wr.heap.size,0,none⟩) [⟨C,cc,PR,x.n⟩]∧Apart (wr.alloc (O #[I C PR.length cc,.int V x.n] 101)) w.heap.size u5.ownBlock ⟨C,cc,PR,x.n⟩∧L.length+1≤maxLen∧(L.length+1)*32≤140737488355328∧Below w.heap.size w (wr.alloc (O #[I C PR.length cc,.int V x.n] 101))):=by
      have hLk:=hO.out.2.2.1
      refine ⟨(hO.out.1.below hS.out.2).gr ((gR _).alloc _),da rfl ⟨C,cc,PR,x.n⟩ _,⟨hit.gr ((gR _).alloc _),nT hlenP (by decide),hn2,fun a ha=>⟨?_,?_,?_⟩⟩,by unfold maxLen;omega,by omega,hbW.out.1.alloc hbW.out.1.size _⟩
      ·have h1:=(hpl a ha).1
       have h2:=hbW.out.2
       omega
      ·have h1:=(hpl a ha).2
       simp;omega
      ·intro e
       have h1:=(World.ownsRow.lt hO.out.1.own a.block e).2
       have h2:=(hpl a ha).1
       omega
     clear hke hit hn2 hpl hPR
     go_wp2_with (at_builtin;refine eX _ rfl _ _ rfl w.heap.size u5 L ⟨C,cc,PR,x.n⟩ ⟨wr.heap.size,0,none⟩ 1 rfl rfl hoX.out.1 hoX.out.2.1 hoX.out.2.2.1 hoX.out.2.2.2.1 hoX.out.2.2.2.2.1 hoX.out.2.2.2.2.2.size ?_;intro v3 w3 hown3 hg3)
     have hfin:Hid ((L++[(⟨C,cc,PR,x.n⟩:Itm)]).length=k+1∧(L++[(⟨C,cc,PR,x.n⟩:Itm)]).map Itm.z=gi ((l.take (k+1)).map Itm.z) cols∧OwnT w3 w.heap.size v3 (L++[⟨C,cc,PR,x.n⟩])∧Below w.heap.size w w3) :=
      ⟨by have:=hO.out.2.2.1;simp;omega,by rw[hst.out,List.map_append,hO.out.2.2.2];rfl,hown3,hoX.out.2.2.2.2.2.trans hg3⟩
     clear hown3 hg3
     go_roundw
     case rel=>exact ⟨k+1,L++[(⟨C,cc,PR,x.n⟩:Itm)],by omega,by go_num,hfin⟩
     case measure=>simp[intOf];omega
  ·have hltz:¬(k:Int)<(l.length:Int):=by omega
   have hke:l.take k=l:=List.take_of_length_le (by omega)
   obtain ⟨A2,cap2,hv2,hn2,hit,_⟩:=hR.out.2.2.1.items
   have hlL:L.length≤400:=by have:=hR.out.1;omega
   have hfin:Hid (L.map Itm.z=gi (l.map Itm.z) cols∧Lv wr A2 cap2 L∧Below w.heap.size w wr):=⟨by have:=hR.out.2.1;rw[hke] at this;exact this,⟨hit,hn2,by unfold maxLen;omega⟩,hR.out.2.2.2⟩
   subst hv2
   clear hke hit hn2
   go_wp2
   go_ret
   exact ⟨L,A2,cap2,rfl,hfin.out.1,hfin.out.2.1,hlL,hfin.out.2.2⟩

theorem uy {l:List Itm} {k:Nat} (h:k<l.length):fQ ((l.take (k+1)).map Itm.z)=fQ ((l.take k).map Itm.z)++(if 0<l[k].n then [(l[k].r,1)] else []):=by
 rw[List.take_succ_eq_append_getElem h,List.map_append]
 unfold fQ
 rw[List.filter_append,List.map_append]
 congr 1
 by_cases e:0<l[k].n
 ·rw[if_pos e];simp[Itm.z,e]
 ·rw[if_neg e];simp[Itm.z,e]

theorem wC (l:List Itm) (A:Option Addr) (cap:Nat) (w:World) (hl:l.length≤400) (hr:Items w A l) :
  Calls J 140 #[I A l.length cap] w fun e w'=>∃(L:List Itm) (C:Option Addr) (k:Nat),e= Z (I C L.length k)∧L.map Itm.z=fQ (l.map Itm.z)∧Lv w' C k L∧L.length≤400∧Below w.heap.size w w':=by
 have hrH:Hid (Items w A l):=hr
 clear hr
 go_enter Tryz.func140,Tryz.ntmps140
 go_wp2
 go_loopw [3,8] (fun u i wr=>∃(k:Nat) (L:List Itm),k≤l.length∧i= .int V k∧Hid (L.length≤k∧L.map Itm.z=fQ ((l.take k).map Itm.z)∧(∀y∈L,∃x∈l,y=⟨x.p,x.c,x.r,1⟩)∧af aQ 2 101 wr w.heap.size u L∧Below w.heap.size w wr)) (fun _ i _=>l.length-(intOf i).toNat)
 case atStart=>exact ⟨0,[],nZ _,rfl,nR _,rfl,fun x hx=>(by cases hx),af.nil _ _ _ _ _,bR _ _⟩
 case round =>
  obtain ⟨k,L,hk,rfl,hR⟩:=hrel
  by_cases hlt:k<l.length
  ·have hltz:(k:Int)<(l.length:Int):=by omega
   have hI:Hid (Items wr A l):=hrH.out.below hR.out.2.2.2.2
   obtain ⟨bb,off,rfl,hb,hcs⟩:=hI.out.at hlt
   obtain ⟨x,hx⟩:∃x,l[k]=x:=⟨_,rfl⟩
   obtain ⟨e0,e1⟩:=hcs k hlt
   rw[hx] at e0 e1
   have hst:Hid (fQ ((l.take (k+1)).map Itm.z)=fQ ((l.take k).map Itm.z)++(if 0<x.n then [(x.r,1)] else [])):=by show _=_;rw[uy hlt,hx]
   have hxH:Hid (x∈l):=by show _∈_;rw[←hx];exact gM hlt
   have hgX:Hid (Gr wr (wr.alloc (O #[I x.p x.r.length x.c,.int V x.n] 101))):=(gR _).alloc _
   clear hcs hx
   by_cases hn:0<x.n
   ·have hoX:Hid (af aQ 2 101 ((wr.alloc (O #[I x.p x.r.length x.c,.int V x.n] 101)).alloc (O #[I x.p x.r.length x.c,.int V 1] 101)) w.heap.size u3 L∧au aQ 2 ((wr.alloc (O #[I x.p x.r.length x.c,.int V x.n] 101)).alloc (O #[I x.p x.r.length x.c,.int V 1] 101)) (some ⟨wr.heap.size+1,0,none⟩) [(⟨x.p,x.c,x.r,1⟩:Itm)]∧L.length+[(⟨x.p,x.c,x.r,1⟩:Itm)].length≤maxLen∧(L.length+[(⟨x.p,x.c,x.r,1⟩:Itm)].length)*32≤140737488355328∧Below w.heap.size w ((wr.alloc (O #[I x.p x.r.length x.c,.int V x.n] 101)).alloc (O #[I x.p x.r.length x.c,.int V 1] 101))):=by
     have hLk:=hR.out.1
     exact ⟨hR.out.2.2.2.1.gr (hgX.out.alloc _),da (by simp) ⟨x.p,x.c,x.r,1⟩ _,by unfold maxLen;simp;omega,by simp;omega,hR.out.2.2.2.2.trans ((hgX.out.alloc _).below.mono hR.out.2.2.2.2.size)⟩
    go_wp2_with (at_builtin;refine eK _ rfl _ _ rfl w.heap.size u3 L [(⟨x.p,x.c,x.r,1⟩:Itm)] (some ⟨wr.heap.size+1,0,none⟩) 1 rfl rfl hoX.out.1 hoX.out.2.1 (fun h=>by cases h) hoX.out.2.2.1 hoX.out.2.2.2.1 hoX.out.2.2.2.2.size ?_;intro v3 w3 hown3 hg3)
    have hfin:Hid ((L++[(⟨x.p,x.c,x.r,1⟩:Itm)]).length≤k+1∧(L++[(⟨x.p,x.c,x.r,1⟩:Itm)]).map Itm.z=fQ ((l.take (k+1)).map Itm.z)∧(∀y∈L++[(⟨x.p,x.c,x.r,1⟩:Itm)],∃x∈l,y=⟨x.p,x.c,x.r,1⟩)∧af aQ 2 101 w3 w.heap.size v3 (L++[(⟨x.p,x.c,x.r,1⟩:Itm)])∧Below w.heap.size w w3):=by
     refine ⟨by have:=hR.out.1;simp;omega,by rw[hst.out,if_pos hn,List.map_append,hR.out.2.1];rfl,fun y hy=> ?_,hown3,hoX.out.2.2.2.2.trans (hoX.out.1.grown_below hg3 hoX.out.2.2.2.2.size)⟩
     rcases List.mem_append.1 hy with h|h
     ·exact hR.out.2.2.1 y h
     ·exact ⟨x,hxH.out,List.mem_singleton.1 h⟩
    clear hown3 hg3
    go_roundw
    case rel=>exact ⟨k+1,L++[(⟨x.p,x.c,x.r,1⟩:Itm)],by omega,by go_num,hfin⟩
    case measure=>simp[intOf];omega
   ·have hfin:Hid (L.length≤k+1∧L.map Itm.z=fQ ((l.take (k+1)).map Itm.z)∧(∀y∈L,∃x∈l,y=⟨x.p,x.c,x.r,1⟩)∧af aQ 2 101 (wr.alloc (O #[I x.p x.r.length x.c,.int V x.n] 101)) w.heap.size u3 L∧Below w.heap.size w (wr.alloc (O #[I x.p x.r.length x.c,.int V x.n] 101))) :=
     ⟨by have:=hR.out.1;omega,by rw[hst.out,if_neg hn,List.append_nil];exact hR.out.2.1,hR.out.2.2.1,hR.out.2.2.2.1.gr hgX.out,hR.out.2.2.2.2.trans (hgX.out.below.mono hR.out.2.2.2.2.size)⟩
    go_wp2
    go_roundw
    case rel=>exact ⟨k+1,L,by omega,by go_num,hfin⟩
    case measure=>simp[intOf];omega
  ·have hltz:¬(k:Int)<(l.length:Int):=by omega
   have hke:l.take k=l:=List.take_of_length_le (by omega)
   obtain ⟨A2,cap2,hv2,hn1,hit,hcp,_,_⟩:=af.full bL hR.out.2.2.2.1
   have hn2:dx A2 L.length cap2:=dx.mk hn1 hcp
   clear hn1 hcp
   have hlL:L.length≤400:=by have:=hR.out.1;omega
   have hfin:Hid (L.map Itm.z=fQ (l.map Itm.z)∧Lv wr A2 cap2 L∧Below w.heap.size w wr):=by
    refine ⟨by have:=hR.out.2.1;rw[hke] at this;exact this,⟨⟨hit,fun y hy=> ?_⟩,hn2,by unfold maxLen;omega⟩,hR.out.2.2.2.2⟩
    obtain ⟨x,hx,rfl⟩:=hR.out.2.2.1 y hy
    exact (hrH.out.below hR.out.2.2.2.2).each x hx
   subst hv2
   clear hke hit hn2
   go_wp2
   go_ret
   exact ⟨L,A2,cap2,rfl,hfin.out.1,hfin.out.2.1,hlL,hfin.out.2.2⟩

structure GInvL (c:Int) (G:List (Int×List Zit)) (l:List Zit):Prop where
 uniq:G.Pairwise fun a b=>a.1≠b.1
 pick:∀g∈G,g.2=l.filter fun y=>decide (atI y.1 c=g.1)
 all:∀y∈l,∃g∈G,g.1=atI y.1 c
theorem oY:∀(G:List (Int×List Zit)) (n:Int) (x:Zit),(ft G n x).map (·.1)=if n∈G.map (·.1) then G.map (·.1) else G.map (·.1)++[n]
 | [],n,x=>by simp[ft]
 | g::t,n,x=>by
  have ih:=oY t n x
  by_cases e:g.1=n
  ·simp[ft,e]
  ·have e':¬n=g.1:=fun h=>e h.symm
   simp only[ft,if_neg e,List.map_cons,ih,List.mem_cons,e',false_or]
   split<;>simp
theorem oZ:∀(G:List (Int×List Zit)) (n:Int) (x:Zit),G.Pairwise (fun a b=>a.1≠b.1)→∀g∈ft G n x,(g.1≠n∧g∈G)∨(g.1=n∧((∃h∈G,h.1=n∧g.2=h.2++[x])∨((∀h∈G,h.1≠n)∧g.2=[x])))
 | [],n,x,_,g,hg=>by
  simp only[ft,List.mem_singleton] at hg
  subst hg
  exact oR ⟨rfl,oR ⟨fun h hh=>(by cases hh),rfl⟩⟩
 | h::t,n,x,hp,g,hg=>by
  have hp':=List.pairwise_cons.1 hp
  by_cases e:h.1=n
  ·simp only[ft,if_pos e] at hg
   rcases List.mem_cons.1 hg with k|k
   ·subst k;exact oR ⟨e,oL ⟨h,mS ..,e,rfl⟩⟩
   ·refine oL ⟨fun k2=>hp'.1 g k (by rw[e,k2]),mC _ k⟩
  ·simp only[ft,if_neg e] at hg
   rcases List.mem_cons.1 hg with k|k
   ·subst k;exact oL ⟨e,mS ..⟩
   ·rcases oZ t n x hp'.2 g k with ⟨a1,a2⟩|⟨a1,⟨h2,b1,b2,b3⟩|⟨b1,b2⟩⟩
    ·exact oL ⟨a1,mC _ a2⟩
    ·exact oR ⟨a1,oL ⟨h2,mC _ b1,b2,b3⟩⟩
    ·refine oR ⟨a1,oR ⟨fun h3 h4=> ?_,b2⟩⟩
     rcases List.mem_cons.1 h4 with k3|k3
     ·rw[k3];exact e
     ·exact b1 h3 k3
theorem GInvL.step {c:Int} {G:List (Int×List Zit)} {l:List Zit} (h:GInvL c G l) (x:Zit):GInvL c (ft G (atI x.1 c) x) (l++[x]):=by
 have hk:=oY G (atI x.1 c) x
 refine ⟨?_,fun g hg=> ?_,fun y hy=> ?_⟩
 ·have:((ft G (atI x.1 c) x).map (·.1)).Pairwise (· ≠ ·):=by
   rw[hk]
   split
   ·exact List.pairwise_map.2 h.uniq
   ·rename_i hn
    exact List.pairwise_append.2 ⟨List.pairwise_map.2 h.uniq,List.pairwise_singleton _ _,fun a ha b hb e=>by rw[List.mem_singleton.1 hb] at e;exact hn (e▸ha)⟩
  exact List.pairwise_map.1 this
 ·rw[List.filter_append]
  rcases oZ G _ x h.uniq g hg with ⟨a1,a2⟩|⟨a1,⟨h2,b1,b2,b3⟩|⟨b1,b2⟩⟩
  ·have:decide (atI x.1 c=g.1)=false:=by simpa using fun k=>a1 k.symm
   simp[this,h.pick g a2]
  ·rw[b3,h.pick h2 b1,b2,a1]
   simp
  ·have hn:l.filter (fun y=>decide (atI y.1 c=g.1))=[]:=by
    rw[List.filter_eq_nil_iff]
    intro y hy e
    obtain ⟨g2,hg2,e2⟩:=h.all y hy
    exact b1 g2 hg2 (by rw[e2,←a1];simpa using e)
   rw[hn,b2,a1]
   simp
 ·have hmem:∀n,n∈(ft G (atI x.1 c) x).map (·.1)↔n∈G.map (·.1)∨n=atI x.1 c:=fun n=>by
   rw[hk]
   split
   ·rename_i hin
    exact ⟨oL,fun k=>k.elim id (fun e=>e▸hin)⟩
   ·simp
  have:atI y.1 c∈(ft G (atI x.1 c) x).map (·.1):=by
   rw[hmem]
   rcases List.mem_append.1 hy with e|e
   ·obtain ⟨g,hg,e2⟩:=h.all y e
    exact oL (List.mem_map.2 ⟨g,hg,e2⟩)
   ·rw[List.mem_singleton.1 e];exact oR rfl
  obtain ⟨g,hg,e⟩:=List.mem_map.1 this
  exact ⟨g,hg,e⟩
theorem mt {c:Int}:∀(m:List Zit) {G:List (Int×List Zit)} {l:List Zit},GInvL c G l→GInvL c (m.foldl (fun g x=>ft g (atI x.1 c) x) G) (l++m)
 | [],_,_,h=>by simpa using h
 | x::m,_,l,h=>by
  have:=mt m (h.step x)
  simpa using this
theorem wT (l:List Zit) (c:Int):GInvL c (nE l c) l:=by
 have:=mt (c:=c) l (G:=[]) (l:=[]) ⟨List.Pairwise.nil,fun g hg=>(by cases hg),fun y hy=>(by cases hy)⟩
 rw[List.nil_append] at this
 exact this
def prs (x:Zit) (l:List Zit):List Zit:=l.map fun y=>(x.1++y.1,x.2*y.2)
theorem vi {a:List Itm} {k:Nat} (h:k<a.length) (b:List Zit) (c v:Int):dv ((a.take (k+1)).map Itm.z) b c v=dv ((a.take k).map Itm.z) b c v++prs a[k].z (b.filter fun y=>decide (atI y.1 v=atI a[k].r c)):=by
 rw[List.take_succ_eq_append_getElem h,List.map_append]
 unfold dv prs
 rw[List.flatMap_append]
 simp[Itm.z]
theorem xQ {x:Zit} {l:List Itm} {m:Nat} (h:m<l.length):prs x ((l.take (m+1)).map Itm.z)=prs x ((l.take m).map Itm.z)++[(x.1++l[m].r,x.2*l[m].n)]:=by
 rw[List.take_succ_eq_append_getElem h,List.map_append]
 unfold prs
 rw[List.map_append]
 rfl
theorem xM {a:List Itm} {k:Nat} (b:List Zit) (c v:Int) {p:Zit} (h:p∈dv ((a.take k).map Itm.z) b c v):p∈dv (a.map Itm.z) b c v:=by
 unfold dv at h ⊢
 obtain ⟨x,hx,hp⟩:=List.mem_flatMap.1 h
 obtain ⟨y,hy,e⟩:=List.mem_map.1 hx
 exact List.mem_flatMap.2 ⟨x,List.mem_map.2 ⟨y,List.mem_of_mem_take hy,e⟩,hp⟩

theorem we (l m:List Int) (A B:Option Addr) (ca cb:Nat) (w:World) (hl:l.length≤8) (hm:m.length≤8) (hA:A=none→ca=0) (hB:B=none→cb=0) (hr:ay w A l) (hs:ay w B m) :
  Calls J 136 #[I A l.length ca,I B m.length cb] w fun e w'=>∃C c,e= Z (I C (l++m).length c)∧ay w' C (l++m)∧(C=none→c=0)∧(∀a,C=some a→w.heap.size≤a.block∧a.block<w'.heap.size)∧Below w.heap.size w w':=by
 have hlm:Hid (0+l.length≤maxLen∧(0+l.length)*8≤140737488355328∧([]++l).length+m.length≤maxLen∧(([]++l).length+m.length)*8≤140737488355328):=by show _∧_;unfold maxLen;simp;omega
 have hrH:Hid (ay w A l∧(A=none→ca=0)∧ay w B m∧(B=none→cb=0)):=⟨hr,hA,hs,hB⟩
 clear hr hA hs hB
 go_enter Tryz.func136,Tryz.ntmps136
 go_wp2_with (first|(at_builtin;refine bg _ rfl _ _ rfl w.heap.size (I none 0 0) [] l A ca rfl rfl (af.nil _ _ _ _ _) hrH.out.1 hrH.out.2.1 hlm.out.1 hlm.out.2.1 (nR _) ?_;intro v1 w1 hown1 hgr1)|(at_builtin;refine bg _ rfl _ _ rfl w.heap.size v1 ([]++l) m B cb rfl rfl hown1 (hrH.out.2.2.1.below (dK hgr1)) hrH.out.2.2.2 hlm.out.2.2.1 hlm.out.2.2.2 (dK hgr1).size ?_;intro v2 w2 hown2 hgr2))
 have hb3:Hid (Below w.heap.size w w2):=(dK hgr1).trans (af.grown_below hown1 hgr2 (dK hgr1).size)
 obtain ⟨C,c,rfl,hC,hrow,hlt⟩:=af.row bZ hown2
 have hfin:Hid (ay w2 C (l++m)∧(C=none→c=0)∧(∀a,C=some a→w.heap.size≤a.block∧a.block<w2.heap.size)):=⟨by simpa using hrow,hC,hlt⟩
 clear hown1 hgr1 hown2 hgr2 hC hrow hlt
 go_wp2
 go_ret
 exact ⟨C,c,by simp,hfin.out.1,hfin.out.2.1,hfin.out.2.2,hb3.out⟩
end Go.Proofs.YtkefkplnamkicaaGreatDoor
