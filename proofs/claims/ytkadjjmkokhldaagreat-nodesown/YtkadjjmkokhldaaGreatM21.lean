/-
  plain.sum.
  plain.pick.
  plain.distinct.
-/
import Derived.Test.YtkadjjmkokhldaaGreatM20
import Derived.Deep.RegionHeld3
import Derived.Deep.Cut
import Derived.Test.YtkadjjmkokhldaaGreatM19
namespace Go.Proofs.YtkadjjmkokhldaaGreat
open Go.RowKit Go.Sort Go.Maps

theorem sum_take {gs:List Grp} {k:Nat} (h:k<gs.length) (v:Int):((gs.take (k+1)).map Grp.z).filterMap (sumG v)=((gs.take k).map Grp.z).filterMap (sumG v)++(if timesL (gs[k].l.map Itm.z)=0 then [] else [([gs[k].n,sumAtL v (gs[k].l.map Itm.z)],1)]):=by
 rw[List.take_succ_eq_append_getElem h,List.map_append,List.filterMap_append]
 congr 1
 by_cases e:timesL (gs[k].l.map Itm.z)=0
 ·rw[if_pos e];simp[sumG,Grp.z,e]
 ·rw[if_neg e];simp[sumG,Grp.z,e]

set_option maxRecDepth 100000 in
set_option maxHeartbeats 1000000 in
theorem sumP_any (l:List Itm) (A:Option Addr) (cap:Nat) (c v:Int) (w:World) (hl:l.length≤400) (hr:Items w A l) (hc:∀x∈l,inB c 0 ((x.r.length:Int)-1)=true) (hv:∀x∈l,inB v 0 ((x.r.length:Int)-1)=true) (hok:∀x∈l,okR x.r=true∧okW x.n=true) :
  Calls Tryz.prog 164 #[.slice A l.length cap,.int .i64 c,.int .i64 v] w fun e w'=>∃(L:List Itm) (C:Option Addr) (k:Nat),e= .returned (.slice C L.length k)∧L.map Itm.z=sumL (l.map Itm.z) c v∧Lv w' C k L∧L.length≤400∧Below w.heap.size w w':=by
 have hrH:Hid (Items w A l∧(∀x∈l,okW x.n=true)∧(∀x∈l,okR x.r=true∧okW x.n=true)∧∀x∈l,inB v 0 ((x.r.length:Int)-1)=true):=⟨hr,fun x hx=>(hok x hx).2,hok,hv⟩
 have hG:Hid _:=groups_any l A cap c w hl hr hc (fun x hx=>(hok x hx).1)
 clear hr hc hok hv
 go_enter Tryz.func164,Tryz.ntmps164
 go_wp2_with fail
 refine Calls.mono (show Calls _ _ _ _ _ from hG.out) ?_
 rintro e w1 ⟨gs,vv,D,rfl,hR0⟩
 clear hG
 have hR:Hid (GInv w w1 l c l.length vv gs D):=hR0
 obtain ⟨GA,gcap,hvv,_,hrow,_⟩:=hR.out.gps.own.row encP_len
 have hrw:Hid (RowG encP 2 w1 GA gs):=hrow
 subst hvv
 clear hR0 hrow
 have hgl:gs.length≤400:=Nat.le_trans hR.out.len hl
 go_wp2
 go_loopw [7,20] (fun u i wr=>∃(k:Nat) (L:List Itm),k≤gs.length∧i= .int .i64 k∧Hid (L.length≤k∧L.map Itm.z=((gs.take k).map Grp.z).filterMap (sumG v)∧OwnT wr w1.heap.size u L∧Below w1.heap.size w1 wr)) (fun _ i _=>gs.length-(intOf i).toNat)
 case atStart=>exact ⟨0,[],Nat.zero_le _,rfl,Nat.le_refl _,rfl,OwnT.nil _ _,Below.refl _ _⟩
 case round =>
  obtain ⟨k,L,hk,rfl,hS⟩:=hrel
  by_cases hlt:k<gs.length
  ·have hltz:(k:Int)<(gs.length:Int):=by omega
   obtain ⟨bb,off,rfl,hb,hcs⟩:=(hrw.out.below hS.out.2.2.2).at hlt
   obtain ⟨g,hg⟩:∃g,gs[k]=g:=⟨_,rfl⟩
   have e0:wr.cell? ⟨bb,off+k*2,none⟩=some (.int .i64 g.n):=by have:=hcs k hlt 0 (by omega);rw[hg] at this;simpa[encP] using this
   have e1:wr.cell? ⟨bb,off+k*2+1,none⟩=some (.slice g.p g.l.length g.c):=by have:=hcs k hlt 1 (by omega);rw[hg] at this;simpa[encP,Grp.v] using this
   have hgm:Hid (g∈gs):=by show _∈_;rw[←hg];exact List.getElem_mem hlt
   have hst:Hid (((gs.take (k+1)).map Grp.z).filterMap (sumG v)=((gs.take k).map Grp.z).filterMap (sumG v)++(if timesL (g.l.map Itm.z)=0 then [] else [([g.n,sumAtL v (g.l.map Itm.z)],1)])):=by show _=_;rw[sum_take hlt,hg]
   clear hcs hg
   obtain ⟨WX,hWX⟩:∃WX,(wr.alloc (.cells #[.int .i64 g.n,.slice g.p g.l.length g.c] 212))=WX:=⟨_,rfl⟩
   have hgX:Hid (Gr wr WX):=by show Gr _ _;rw[←hWX];exact (Gr.refl _).alloc _
   have y0:WX.cell? ⟨wr.heap.size,0,none⟩=some (.int .i64 g.n):=by rw[←hWX];exact box1 (Gr.refl _) rfl
   have y1:WX.cell? ⟨wr.heap.size,1,none⟩=some (.slice g.p g.l.length g.c):=by rw[←hWX];exact box1 (Gr.refl _) rfl
   have hsX:wr.heap.size<WX.heap.size:=by rw[←hWX];simp
   have hbX:Hid (Below w1.heap.size w1 WX):=hS.out.2.2.2.trans (hgX.out.below.mono hS.out.2.2.2.size)
   obtain ⟨T,hT⟩:∃T,timesL (g.l.map Itm.z)=T:=⟨_,rfl⟩
   have hcall0:Calls Tryz.prog 180 #[.slice g.p g.l.length g.c] WX fun e w'=>e= .returned (.int .i64 T)∧Gr WX w':=by
    rw[←hT]
    have h1:=hR.out.sub g hgm.out
    exact times_any g.l g.p g.c WX (by omega) (fun x hx=>hrH.out.2.1 x (h1.2 x hx)) (hR.out.items hrH.out.1 hbX.out hgm.out)
   have hcall:Hid _:=hcall0
   clear hcall0
   rw[hT] at hst
   clear hT
   cases hq:(T != 0)
   ·have hT0:T=0:=by simpa using hq
    go_wp2_with (go_at_call 180;(refine Calls.mono (show Calls _ _ _ _ _ from hcall.out) ?_);rintro e w2 ⟨rfl,hg2⟩)
    have hfin:Hid (L.length≤k+1∧L.map Itm.z=((gs.take (k+1)).map Grp.z).filterMap (sumG v)∧OwnT w2 w1.heap.size u7 L∧Below w1.heap.size w1 w2) :=
     ⟨by have:=hS.out.1;omega,by rw[hst.out,if_pos hT0,List.append_nil];exact hS.out.2.1,(hS.out.2.2.1.gr hgX.out).gr hg2,hbX.out.trans (hg2.below.mono hbX.out.size)⟩
    go_roundw
    case rel=>exact ⟨k+1,L,by omega,by go_num,hfin⟩
    case measure=>simp[intOf];omega
   ·have hT0:¬T=0:=by simpa using hq
    obtain ⟨U,hU⟩:∃U,sumAtL v (g.l.map Itm.z)=U:=⟨_,rfl⟩
    rw[hU] at hst
    have hsum:Hid (∀W,Below WX.heap.size WX W→Calls Tryz.prog 181 #[.slice g.p g.l.length g.c,.int .i64 v] W fun e w'=>e= .returned (.int .i64 U)∧Gr W w'):=fun W hW=>by
     rw[←hU]
     have h1:=hR.out.sub g hgm.out
     exact sumAt_any g.l g.p g.c v W (by omega) (fun x hx=>hrH.out.2.2.1 x (h1.2 x hx)) (fun x hx=>hrH.out.2.2.2 x (h1.2 x hx)) (hR.out.items hrH.out.1 (hbX.out.trans (hW.mono hbX.out.size)) hgm.out)
    have hoF:Hid (∀w3,Gr WX w3→OwnT ((w3.alloc (.cells #[.int .i64 g.n,.int .i64 U] 3)).alloc (.cells #[.slice (some ⟨w3.heap.size,0,none⟩) 2 2,.int .i64 1] 90)) w1.heap.size u7 L∧RowG encT 2 ((w3.alloc (.cells #[.int .i64 g.n,.int .i64 U] 3)).alloc (.cells #[.slice (some ⟨w3.heap.size,0,none⟩) 2 2,.int .i64 1] 90)) (some ⟨w3.heap.size+1,0,none⟩) [(⟨some ⟨w3.heap.size,0,none⟩,2,[g.n,U],1⟩:Itm)]∧Apart ((w3.alloc (.cells #[.int .i64 g.n,.int .i64 U] 3)).alloc (.cells #[.slice (some ⟨w3.heap.size,0,none⟩) 2 2,.int .i64 1] 90)) w1.heap.size u7.ownBlock (⟨some ⟨w3.heap.size,0,none⟩,2,[g.n,U],1⟩:Itm)∧L.length+1≤maxLen∧(L.length+1)*32≤140737488355328∧Below w1.heap.size w1 ((w3.alloc (.cells #[.int .i64 g.n,.int .i64 U] 3)).alloc (.cells #[.slice (some ⟨w3.heap.size,0,none⟩) 2 2,.int .i64 1] 90))):=fun w3 hg3=>by
     have hLk:=hS.out.1
     have hg2:Gr wr w3:=hgX.out.trans hg3
     have hb2:Below w1.heap.size w1 w3:=hbX.out.trans (hg3.below.mono hbX.out.size)
     have h2:Gr w3 ((w3.alloc (.cells #[.int .i64 g.n,.int .i64 U] 3)).alloc (.cells #[.slice (some ⟨w3.heap.size,0,none⟩) 2 2,.int .i64 1] 90)):=((Gr.refl _).alloc _).alloc _
     refine ⟨(hS.out.2.2.1.gr hg2).gr h2,rowNewT (by simp) (⟨some ⟨w3.heap.size,0,none⟩,2,[g.n,U],1⟩:Itm) _,⟨(rowNew2 rfl g.n U _).gr ((Gr.refl _).alloc _),by simp[maxLen],fun h=>(by cases h),fun a ha=>⟨?_,?_,?_⟩⟩,by unfold maxLen;omega,by omega,hb2.trans (h2.below.mono hb2.size)⟩
     ·cases ha;exact hb2.size
     ·cases ha;simp;omega
     ·cases ha
      intro e
      have h3:=(World.ownsRow.lt hS.out.2.2.1.own w3.heap.size e).2
      have h4:=hg2.size
      omega
    have hub:Hid (∀b,u7.ownBlock=some b→b<wr.heap.size):=fun b hb=>(World.ownsRow.lt hS.out.2.2.1.own b hb).2
    clear hU
    go_wp2_with (go_at_call 180;(refine Calls.mono (show Calls _ _ _ _ _ from hcall.out) ?_);rintro e w2 ⟨rfl,hg2⟩)
    obtain ⟨gb,hgb⟩:∃gb,wr.heap.size=gb:=⟨_,rfl⟩
    rw[hgb] at y0 y1 hsX hub ⊢
    have hgD:Hid (Gr WX w2.drew):=hg2.trans (Gr.refl _).drew
    have hKeep:Hid (∀W',Gr WX W'→(fun w'=>w'.cell? ⟨gb,0,none⟩=some (.int .i64 g.n)∧w'.cell? ⟨gb,1,none⟩=some (.slice g.p g.l.length g.c)) W'):=fun W' h=>⟨(h.below.cell (p:=⟨gb,0,none⟩) hsX).trans y0,(h.below.cell (p:=⟨gb,1,none⟩) hsX).trans y1⟩
    have hKeep4:Hid (∀w3 w4,Gr WX w3→((w3.alloc (.cells #[.int .i64 g.n,.int .i64 U] 3)).alloc (.cells #[.slice (some ⟨w3.heap.size,0,none⟩) 2 2,.int .i64 1] 90)).grownBy w4 u7.ownBlock→(fun w'=>w'.cell? ⟨gb,0,none⟩=some (.int .i64 g.n)∧w'.cell? ⟨gb,1,none⟩=some (.slice g.p g.l.length g.c)) w4):=fun w3 w4 h3 h4=>by
     have hW:Gr WX ((w3.alloc (.cells #[.int .i64 g.n,.int .i64 U] 3)).alloc (.cells #[.slice (some ⟨w3.heap.size,0,none⟩) 2 2,.int .i64 1] 90)):=(h3.alloc _).alloc _
     have hk:=hKeep.out _ hW
     have hlt:gb<((w3.alloc (.cells #[.int .i64 g.n,.int .i64 U] 3)).alloc (.cells #[.slice (some ⟨w3.heap.size,0,none⟩) 2 2,.int .i64 1] 90)).heap.size:=Nat.lt_of_lt_of_le hsX hW.size
     have hne:some gb≠u7.ownBlock:=fun e=>by have:=hub.out _ e.symm;omega
     exact ⟨(World.cell?_of_block (a:=⟨gb,0,none⟩) (h4.block _ hlt hne)).trans hk.1,(World.cell?_of_block (a:=⟨gb,1,none⟩) (h4.block _ hlt hne)).trans hk.2⟩
    clear hg2 y0 y1 hcall
    refine wp_region_noPanic ?_
    refine wp_region_held_drew (S:=(fun w'=>w'.cell? ⟨gb,0,none⟩=some (.int .i64 g.n)∧w'.cell? ⟨gb,1,none⟩=some (.slice g.p g.l.length g.c))) (by kernel_rfl) (hKeep.out _ hgD.out) (fun hHeld=> ?_)
    refine wpAnyH_take (i:=0) (oi:= ?ois1) (v:= ?vs1) ?hops1 ?hss1 ?hfs1 ?hrs1 ?hQs1 ?hys1 (by assumption) ?rests1
    case hops1=>(simp only[List.getElem?_toArray,List.getElem?_cons_zero];rfl)
    case hss1=>kernel_rfl
    case hfs1=>kernel_rfl
    case hrs1=>kernel_rfl
    case hQs1=>exact fun _ _ _ h=>h
    case hys1=>(refine Or.inl ⟨by rfl,?_⟩;intro w hSw;(try dsimp only at hSw);go_simp<;>with_reducible rfl)
    try simp only[Act.put,List.setIfInBounds_toArray,List.set_cons_zero,List.set_cons_succ]
    refine wpAnyH_take (i:=1) (oi:= ?ois2) (v:= ?vs2) ?hops2 ?hss2 ?hfs2 ?hrs2 ?hQs2 ?hys2 (by assumption) ?rests2
    case hops2=>(simp only[List.getElem?_toArray,List.getElem?_cons_zero,List.getElem?_cons_succ];rfl)
    case hss2=>kernel_rfl
    case hfs2=>kernel_rfl
    case hrs2=>kernel_rfl
    case hQs2=>exact fun _ _ _ h=>h
    case hys2=>(refine Or.inl ⟨by rfl,?_⟩;intro w hSw;(try dsimp only at hSw);go_simp<;>with_reducible rfl)
    try simp only[Act.put,List.setIfInBounds_toArray,List.set_cons_zero,List.set_cons_succ]
    refine wpAnyH_take (i:=2) (oi:= ?ois3) (v:= ?vs3) ?hops3 ?hss3 ?hfs3 ?hrs3 ?hQs3 ?hys3 (by assumption) ?rests3
    case hops3=>(simp only[List.getElem?_toArray,List.getElem?_cons_zero,List.getElem?_cons_succ];rfl)
    case hss3=>kernel_rfl
    case hfs3=>kernel_rfl
    case hrs3=>kernel_rfl
    case hQs3=>exact fun _ _ _ h=>h
    case hys3=>(refine Or.inl ⟨by rfl,?_⟩;intro w hSw;(try dsimp only at hSw);go_simp<;>with_reducible rfl)
    try simp only[Act.put,List.setIfInBounds_toArray,List.set_cons_zero,List.set_cons_succ]
    refine wpAnyH_take (i:=3) (oi:= ?ois4) (v:= ?vs4) ?hops4 ?hss4 ?hfs4 ?hrs4 ?hQs4 ?hys4 (by assumption) ?rests4
    case hops4=>(simp only[List.getElem?_toArray,List.getElem?_cons_zero,List.getElem?_cons_succ];rfl)
    case hss4=>kernel_rfl
    case hfs4=>kernel_rfl
    case hrs4=>kernel_rfl
    case hQs4=>exact fun _ _ _ h=>h
    case hys4=>(refine Or.inl ⟨by rfl,?_⟩;intro w hSw;(try dsimp only at hSw);go_simp<;>with_reducible rfl)
    try simp only[Act.put,List.setIfInBounds_toArray,List.set_cons_zero,List.set_cons_succ]
    refine wpAnyH_take (i:=4) (oi:= ?ois5) (v:= ?vs5) ?hops5 ?hss5 ?hfs5 ?hrs5 ?hQs5 ?hys5 (by assumption) ?rests5
    case hops5=>(simp only[List.getElem?_toArray,List.getElem?_cons_zero,List.getElem?_cons_succ];rfl)
    case hss5=>kernel_rfl
    case hfs5=>kernel_rfl
    case hrs5=>kernel_rfl
    case hQs5=>exact fun _ _ _ h=>h
    case hys5=>(refine Or.inl ⟨by rfl,?_⟩;intro w hSw;(try dsimp only at hSw);go_simp<;>with_reducible rfl)
    try simp only[Act.put,List.setIfInBounds_toArray,List.set_cons_zero,List.set_cons_succ]
    refine wpAnyH_take (i:=5) (oi:= ?ois6) (v:= ?vs6) ?hops6 ?hss6 ?hfs6 ?hrs6 ?hQs6 ?hys6 (by assumption) ?rests6
    case hops6=>(simp only[List.getElem?_toArray,List.getElem?_cons_zero,List.getElem?_cons_succ];rfl)
    case hss6=>kernel_rfl
    case hfs6=>kernel_rfl
    case hrs6=>kernel_rfl
    case hQs6=>exact fun _ _ _ h=>h
    case hys6=>(refine Or.inl ⟨by rfl,?_⟩;intro w hSw;(try dsimp only at hSw);go_simp<;>with_reducible rfl)
    try simp only[Act.put,List.setIfInBounds_toArray,List.set_cons_zero,List.set_cons_succ]
    refine wpAnyH_ready (rs:=[6]) (by kernel_rfl) (by simp) ?_
    refine AllReadyH.cons (o:= ?ois7) ?hops7 (fun K hK=> ?steps7) ?mores7
    case hops7=>(simp only[List.getElem?_toArray,List.getElem?_cons_zero,List.getElem?_cons_succ];rfl)
    case mores7=>exact AllReadyH.nil
    go_simp
    (go_at_call 181;(refine Calls.mono (hsum.out _ hgD.out.below) ?_);rintro e w3 ⟨rfl,hq3⟩;have hg3:Hid (Gr WX w3):=hgD.out.trans hq3;clear hq3)
    first|(go_wp2_with fail)|skip
    refine hK.out _ _ ?_ (fun hHeld=> ?_)
    ·(try dsimp only);first|with_reducible exact hKeep.out _ hgD.out|with_reducible exact hKeep.out _ hg3.out|with_reducible exact hKeep.out _ (hg3.out.alloc _)|with_reducible exact hKeep.out _ ((hg3.out.alloc _).alloc _)|exact hk4.out
    clear hK K
    try simp only[Act.put,List.setIfInBounds_toArray,List.set_cons_zero,List.set_cons_succ]
    refine wpAnyH_ready (rs:=[7]) (by kernel_rfl) (by simp) ?_
    refine AllReadyH.cons (o:= ?ois8) ?hops8 (fun K hK=> ?steps8) ?mores8
    case hops8=>(simp only[List.getElem?_toArray,List.getElem?_cons_zero,List.getElem?_cons_succ];rfl)
    case mores8=>exact AllReadyH.nil
    go_simp
    refine hK.out _ _ ?_ (fun hHeld=> ?_)
    ·(try dsimp only);first|with_reducible exact hKeep.out _ hgD.out|with_reducible exact hKeep.out _ hg3.out|with_reducible exact hKeep.out _ (hg3.out.alloc _)|with_reducible exact hKeep.out _ ((hg3.out.alloc _).alloc _)|exact hk4.out
    clear hK K
    try simp only[Act.put,List.setIfInBounds_toArray,List.set_cons_zero,List.set_cons_succ]
    refine wpAnyH_take (i:=8) (oi:= ?ois9) (v:= ?vs9) ?hops9 ?hss9 ?hfs9 ?hrs9 ?hQs9 ?hys9 (by assumption) ?rests9
    case hops9=>(simp only[List.getElem?_toArray,List.getElem?_cons_zero,List.getElem?_cons_succ];rfl)
    case hss9=>kernel_rfl
    case hfs9=>kernel_rfl
    case hrs9=>kernel_rfl
    case hQs9=>exact fun _ _ _ h=>h
    case hys9=>(refine Or.inl ⟨by rfl,?_⟩;intro w hSw;(try dsimp only at hSw);go_simp<;>with_reducible rfl)
    try simp only[Act.put,List.setIfInBounds_toArray,List.set_cons_zero,List.set_cons_succ]
    refine wpAnyH_ready (rs:=[9]) (by kernel_rfl) (by simp) ?_
    refine AllReadyH.cons (o:= ?ois10) ?hops10 (fun K hK=> ?steps10) ?mores10
    case hops10=>(simp only[List.getElem?_toArray,List.getElem?_cons_zero,List.getElem?_cons_succ];rfl)
    case mores10=>exact AllReadyH.nil
    go_simp
    refine hK.out _ _ ?_ (fun hHeld=> ?_)
    ·(try dsimp only);first|with_reducible exact hKeep.out _ hgD.out|with_reducible exact hKeep.out _ hg3.out|with_reducible exact hKeep.out _ (hg3.out.alloc _)|with_reducible exact hKeep.out _ ((hg3.out.alloc _).alloc _)|exact hk4.out
    clear hK K
    try simp only[Act.put,List.setIfInBounds_toArray,List.set_cons_zero,List.set_cons_succ]
    refine wpAnyH_ready (rs:=[10]) (by kernel_rfl) (by simp) ?_
    refine AllReadyH.cons (o:= ?ois11) ?hops11 (fun K hK=> ?steps11) ?mores11
    case hops11=>(simp only[List.getElem?_toArray,List.getElem?_cons_zero,List.getElem?_cons_succ];rfl)
    case mores11=>exact AllReadyH.nil
    (refine step_append_t _ rfl (.tmp 28) (.tmp 37) rfl w1.heap.size u7 L (⟨some ⟨w3.heap.size,0,none⟩,2,[g.n,U],1⟩:Itm) ⟨w3.heap.size+1,0,none⟩ 1 rfl rfl (hoF.out w3 hg3.out).1 (hoF.out w3 hg3.out).2.1 (hoF.out w3 hg3.out).2.2.1 (hoF.out w3 hg3.out).2.2.2.1 (hoF.out w3 hg3.out).2.2.2.2.1 (hoF.out w3 hg3.out).2.2.2.2.2.size ?_;intro v4 w4 hown4 hb4 hgb4;have hk4:Hid ((fun w'=>w'.cell? ⟨gb,0,none⟩=some (.int .i64 g.n)∧w'.cell? ⟨gb,1,none⟩=some (.slice g.p g.l.length g.c)) w4):=hKeep4.out w3 w4 hg3.out hgb4;have hfin:Hid ((L++[(⟨some ⟨w3.heap.size,0,none⟩,2,[g.n,U],1⟩:Itm)]).length≤k+1∧(L++[(⟨some ⟨w3.heap.size,0,none⟩,2,[g.n,U],1⟩:Itm)]).map Itm.z=((gs.take (k+1)).map Grp.z).filterMap (sumG v)∧OwnT w4 w1.heap.size v4 (L++[(⟨some ⟨w3.heap.size,0,none⟩,2,[g.n,U],1⟩:Itm)])∧Below w1.heap.size w1 w4):=⟨by have:=hS.out.1;simp;omega,by rw[hst.out,if_neg hT0,List.map_append,hS.out.2.1];rfl,hown4,(hoF.out w3 hg3.out).2.2.2.2.2.trans hb4⟩;clear hown4 hb4 hgb4)
    refine hK.out _ _ ?_ (fun hHeld=> ?_)
    ·(try dsimp only);first|with_reducible exact hKeep.out _ hgD.out|with_reducible exact hKeep.out _ hg3.out|with_reducible exact hKeep.out _ (hg3.out.alloc _)|with_reducible exact hKeep.out _ ((hg3.out.alloc _).alloc _)|exact hk4.out
    clear hK K
    try simp only[Act.put,List.setIfInBounds_toArray,List.set_cons_zero,List.set_cons_succ]
    refine wpAnyH_take (i:=11) (oi:= ?ois12) (v:= ?vs12) ?hops12 ?hss12 ?hfs12 ?hrs12 ?hQs12 ?hys12 (by assumption) ?rests12
    case hops12=>(simp only[List.getElem?_toArray,List.getElem?_cons_zero,List.getElem?_cons_succ];rfl)
    case hss12=>kernel_rfl
    case hfs12=>kernel_rfl
    case hrs12=>kernel_rfl
    case hQs12=>exact fun _ _ _ h=>h
    case hys12=>(refine Or.inl ⟨by rfl,?_⟩;intro w hSw;(try dsimp only at hSw);go_simp<;>with_reducible rfl)
    try simp only[Act.put,List.setIfInBounds_toArray,List.set_cons_zero,List.set_cons_succ]
    refine wpAnyH_done (by kernel_rfl) ?_ _
    refine NoPanic.normal ?_
    go_wp2
    go_roundw
    case rel=>exact ⟨k+1,L++[(⟨some ⟨w3.heap.size,0,none⟩,2,[g.n,U],1⟩:Itm)],by omega,by go_num,hfin⟩
    case measure=>simp[intOf];omega
  ·have hltz:¬(k:Int)<(gs.length:Int):=by omega
   have hke:gs.take k=gs:=List.take_of_length_le (by omega)
   obtain ⟨A2,cap2,hv2,hn2,hit,_⟩:=hS.out.2.2.1.items
   have hlL:L.length≤400:=by have:=hS.out.1;omega
   have hfin:Hid (L.map Itm.z=sumL (l.map Itm.z) c v∧Lv wr A2 cap2 L∧Below w.heap.size w wr):=by
    refine ⟨?_,⟨hit,hn2,by unfold maxLen;omega⟩,hR.out.bel.trans (hS.out.2.2.2.mono hR.out.bel.size)⟩
    have:=hS.out.2.1
    rw[hke,hR.out.z,List.take_length] at this
    exact this
   subst hv2
   clear hke hit hn2
   go_wp2
   go_ret
   exact ⟨L,A2,cap2,rfl,hfin.out.1,hfin.out.2.1,hlL,hfin.out.2.2⟩
end Go.Proofs.YtkadjjmkokhldaaGreat

namespace Go.Proofs.YtkadjjmkokhldaaGreat
open Go.RowKit Go.Sort

theorem pick_take {l:List Itm} {k:Nat} (h:k<l.length) (cols:List Int):pickL ((l.take (k+1)).map Itm.z) cols=pickL ((l.take k).map Itm.z) cols++[(pickR cols l[k].r,l[k].n)]:=by
 rw[List.take_succ_eq_append_getElem h,List.map_append]
 unfold pickL
 rw[List.map_append]
 rfl
theorem pickR_take {cols:List Int} {m:Nat} (h:m<cols.length) (r:List Int):pickR (cols.take (m+1)) r=pickR (cols.take m) r++[atI r cols[m]]:=by
 unfold pickR
 rw[List.take_succ_eq_append_getElem h,List.map_append]
 rfl

set_option maxRecDepth 100000 in
set_option maxHeartbeats 1000000 in
theorem pick_any (l:List Itm) (A B:Option Addr) (cap cb:Nat) (cols:List Int) (w:World) (hl:l.length≤400) (hcl:cols.length≤8) (hr:Items w A l) (hrc:RowI w B cols) (hc:∀x∈l,∀c∈cols,inB c 0 ((x.r.length:Int)-1)=true) :
  Calls Tryz.prog 161 #[.slice A l.length cap,.slice B cols.length cb] w fun e w'=>∃(L:List Itm) (C:Option Addr) (k:Nat),e= .returned (.slice C L.length k)∧L.map Itm.z=pickL (l.map Itm.z) cols∧Lv w' C k L∧L.length≤400∧Below w.heap.size w w':=by
 have hrH:Hid (Items w A l∧RowI w B cols):=⟨hr,hrc⟩
 have hcH:Hid (∀x∈l,∀c∈cols,inB c 0 ((x.r.length:Int)-1)=true):=hc
 clear hr hc hrc
 go_enter Tryz.func161,Tryz.ntmps161
 go_wp2
 go_loopw [5,13] (fun u i wr=>∃(k:Nat) (L:List Itm),k≤l.length∧i= .int .i64 k∧Hid (L.length=k∧L.map Itm.z=pickL ((l.take k).map Itm.z) cols∧OwnT wr w.heap.size u L∧Below w.heap.size w wr)) (fun _ i _=>l.length-(intOf i).toNat)
 case atStart=>exact ⟨0,[],Nat.zero_le _,rfl,rfl,rfl,OwnT.nil _ _,Below.refl _ _⟩
 case round =>
  obtain ⟨k,L,hk,rfl,hR⟩:=hrel
  by_cases hlt:k<l.length
  ·have hltz:(k:Int)<(l.length:Int):=by omega
   have hI:Hid (Items wr A l∧RowI wr B cols):=⟨hrH.out.1.below hR.out.2.2.2,hrH.out.2.below hR.out.2.2.2⟩
   obtain ⟨bb,off,rfl,hb,hcs⟩:=hI.out.1.at hlt
   obtain ⟨x,hx⟩:∃x,l[k]=x:=⟨_,rfl⟩
   obtain ⟨e0,e1⟩:=hcs k hlt
   rw[hx] at e0 e1
   have hxm:Hid (x∈l):=by show _∈_;rw[←hx];exact List.getElem_mem hlt
   have hst:Hid (pickL ((l.take (k+1)).map Itm.z) cols=pickL ((l.take k).map Itm.z) cols++[(pickR cols x.r,x.n)]):=by show _=_;rw[pick_take hlt,hx]
   have hgX:Hid (Gr wr (wr.alloc (.cells #[.slice x.p x.r.length x.c,.int .i64 x.n] 90))):=(Gr.refl _).alloc _
   obtain ⟨wX,hwX⟩:∃wX,(wr.alloc (.cells #[.slice x.p x.r.length x.c,.int .i64 x.n] 90))=wX:=⟨_,rfl⟩
   have y0:wX.cell? ⟨wr.heap.size,0,none⟩=some (.slice x.p x.r.length x.c):=by rw[←hwX];exact box1 (Gr.refl _) rfl
   have y1:wX.cell? ⟨wr.heap.size,1,none⟩=some (.int .i64 x.n):=by rw[←hwX];exact box1 (Gr.refl _) rfl
   have hsX:wr.heap.size<wX.heap.size:=by rw[←hwX];simp
   rw[hwX] at hgX
   clear hcs hx
   go_wp2
   clear hwX
   obtain ⟨xb,hxb⟩:∃xb,wr.heap.size=xb:=⟨_,rfl⟩
   have hRx:Hid (RowI wX x.p x.r∧RowI wX B cols∧xb=wr.heap.size):=⟨(hI.out.1.each x hxm.out).1.gr hgX.out,hI.out.2.gr hgX.out,hxb.symm⟩
   rw[hxb] at y0 y1 hsX ⊢
   clear hxb e0 e1 hb
   have hO:Hid (OwnT wX w.heap.size u5 L∧Below w.heap.size w wX∧L.length=k∧L.map Itm.z=pickL ((l.take k).map Itm.z) cols):=⟨hR.out.2.2.1.gr hgX.out,hR.out.2.2.2.trans (hgX.out.below.mono hR.out.2.2.2.size),hR.out.1,hR.out.2.1⟩
   have hcx:Hid (∀c∈cols,inB c 0 ((x.r.length:Int)-1)=true):=hcH.out x hxm.out
   clear hR hgX hI
   go_loopw [8,19] (fun u i wi=>∃m:Nat,m≤cols.length∧i= .int .i64 m∧Hid (OwnI wi wX.heap.size u (pickR (cols.take m) x.r)∧Below wX.heap.size wX wi)) (fun _ i _=>cols.length-(intOf i).toNat)
   case atStart=>exact ⟨0,Nat.zero_le _,rfl,OwnG.nil _ _ _ _ _,Below.refl _ _⟩
   case round =>
    obtain ⟨m,hm,rfl,hS⟩:=hrel
    have z0:wr.cell? ⟨xb,0,none⟩=some (.slice x.p x.r.length x.c):=(hS.out.2.cell (p:=⟨xb,0,none⟩) hsX).trans y0
    have z1:wr.cell? ⟨xb,1,none⟩=some (.int .i64 x.n):=(hS.out.2.cell (p:=⟨xb,1,none⟩) hsX).trans y1
    have hlenP:(pickR (cols.take m) x.r).length≤8:=by unfold pickR;simp;omega
    by_cases hlt2:m<cols.length
    ·have hltz2:(m:Int)<(cols.length:Int):=by omega
     have hRw:Hid (RowI wr x.p x.r∧RowI wr B cols):=⟨hRx.out.1.below hS.out.2,hRx.out.2.1.below hS.out.2⟩
     obtain ⟨b2,off2,rfl,hb2,hc2⟩:=hRw.out.2.at hlt2
     obtain ⟨c,hcc⟩:∃c,cols[m]=c:=⟨_,rfl⟩
     have e2:wr.cell? ⟨b2,off2+m,none⟩=some (.int .i64 c):=by
      have:=hc2 m hlt2 0 (by omega)
      rw[hcc] at this
      simpa[encI] using this
     have hst2:Hid (pickR (cols.take (m+1)) x.r=pickR (cols.take m) x.r++[atI x.r c]):=by show _=_;rw[pickR_take hlt2,hcc]
     obtain ⟨rb,ro,cn,hp,hrb,hcn,hcl2,hcell⟩:=rowI_atI hRw.out.1 (hcx.out c (by rw[←hcc];exact List.getElem_mem hlt2))
     obtain ⟨nn,hnn⟩:∃nn,atI x.r c=nn:=⟨_,rfl⟩
     rw[hnn] at hcell hst2
     rw[hp] at z0
     have hcz:(cn:Int)<(x.r.length:Int):=by omega
     obtain rfl:=hcn
     clear hc2 hcc hp hnn hcl2
     have hoX:Hid (OwnI (wr.alloc (.cells #[.int .i64 nn] 3)) wX.heap.size u8 (pickR (cols.take m) x.r)∧RowI (wr.alloc (.cells #[.int .i64 nn] 3)) (some ⟨wr.heap.size,0,none⟩) [nn]∧(pickR (cols.take m) x.r).length+[nn].length≤maxLen∧((pickR (cols.take m) x.r).length+[nn].length)*8≤140737488355328∧Below wX.heap.size wX (wr.alloc (.cells #[.int .i64 nn] 3))) :=
      ⟨hS.out.1.gr ((Gr.refl _).alloc _),rowNewI rfl nn _,by unfold maxLen;simp;omega,by simp;omega,hS.out.2.alloc hS.out.2.size _⟩
     go_wp2_with (at_builtin;refine wpList_append_i _ rfl (.tmp 23) (.tmp 29) rfl wX.heap.size u8 (pickR (cols.take m) x.r) [nn] (some ⟨wr.heap.size,0,none⟩) 1 rfl rfl hoX.out.1 hoX.out.2.1 (fun h=>by cases h) hoX.out.2.2.1 hoX.out.2.2.2.1 hoX.out.2.2.2.2.size ?_;intro v3 w3 hown3 hg3)
     have hfin:Hid (OwnI w3 wX.heap.size v3 (pickR (cols.take (m+1)) x.r)∧Below wX.heap.size wX w3):=⟨by rw[hst2.out];exact hown3,hoX.out.2.2.2.2.trans (hoX.out.1.grown_below hg3 hoX.out.2.2.2.2.size)⟩
     clear hown3 hg3
     go_roundw
     case rel=>exact ⟨m+1,by omega,by go_num,hfin.out⟩
     case measure=>simp[intOf];omega
    ·have hltz2:¬(m:Int)<(cols.length:Int):=by omega
     have hke:cols.take m=cols:=List.take_of_length_le (by omega)
     rw[hke] at hS hlenP
     obtain ⟨C,cc,hv2,hn2,hit,hpl⟩:=hS.out.1.row encI_len
     obtain ⟨PR,hPR⟩:∃PR,pickR cols x.r=PR:=⟨_,rfl⟩
     rw[hPR] at hst hS hv2 hit hlenP
     subst hv2
     have hbW:Hid (Below w.heap.size w wr∧w.heap.size≤wX.heap.size):=⟨hO.out.2.1.trans (hS.out.2.mono hO.out.2.1.size),hO.out.2.1.size⟩
     have hoX:Hid (OwnT (wr.alloc (.cells #[.slice C PR.length cc,.int .i64 x.n] 90)) w.heap.size u5 L∧RowG encT 2 (wr.alloc (.cells #[.slice C PR.length cc,.int .i64 x.n] 90)) (some ⟨wr.heap.size,0,none⟩) [⟨C,cc,PR,x.n⟩]∧Apart (wr.alloc (.cells #[.slice C PR.length cc,.int .i64 x.n] 90)) w.heap.size u5.ownBlock ⟨C,cc,PR,x.n⟩∧L.length+1≤maxLen∧(L.length+1)*32≤140737488355328∧Below w.heap.size w (wr.alloc (.cells #[.slice C PR.length cc,.int .i64 x.n] 90))):=by
      have hLk:=hO.out.2.2.1
      refine ⟨(hO.out.1.below hS.out.2).gr ((Gr.refl _).alloc _),rowNewT rfl ⟨C,cc,PR,x.n⟩ _,⟨hit.gr ((Gr.refl _).alloc _),Nat.le_trans hlenP (by decide),hn2,fun a ha=>⟨?_,?_,?_⟩⟩,by unfold maxLen;omega,by omega,hbW.out.1.alloc hbW.out.1.size _⟩
      ·have h1:=(hpl a ha).1
       have h2:=hbW.out.2
       omega
      ·have h1:=(hpl a ha).2
       simp;omega
      ·intro e
       have h1:=(World.ownsRow.lt hO.out.1.own a.block e).2
       have h2:=(hpl a ha).1
       omega
     clear hke hit hn2 hpl hPR
     go_wp2_with (at_builtin;refine wpList_append_t _ rfl _ _ rfl w.heap.size u5 L ⟨C,cc,PR,x.n⟩ ⟨wr.heap.size,0,none⟩ 1 rfl rfl hoX.out.1 hoX.out.2.1 hoX.out.2.2.1 hoX.out.2.2.2.1 hoX.out.2.2.2.2.1 hoX.out.2.2.2.2.2.size ?_;intro v3 w3 hown3 hg3)
     have hfin:Hid ((L++[(⟨C,cc,PR,x.n⟩:Itm)]).length=k+1∧(L++[(⟨C,cc,PR,x.n⟩:Itm)]).map Itm.z=pickL ((l.take (k+1)).map Itm.z) cols∧OwnT w3 w.heap.size v3 (L++[⟨C,cc,PR,x.n⟩])∧Below w.heap.size w w3) :=
      ⟨by have:=hO.out.2.2.1;simp;omega,by rw[hst.out,List.map_append,hO.out.2.2.2];rfl,hown3,hoX.out.2.2.2.2.2.trans hg3⟩
     clear hown3 hg3
     go_roundw
     case rel=>exact ⟨k+1,L++[(⟨C,cc,PR,x.n⟩:Itm)],by omega,by go_num,hfin⟩
     case measure=>simp[intOf];omega
  ·have hltz:¬(k:Int)<(l.length:Int):=by omega
   have hke:l.take k=l:=List.take_of_length_le (by omega)
   obtain ⟨A2,cap2,hv2,hn2,hit,_⟩:=hR.out.2.2.1.items
   have hlL:L.length≤400:=by have:=hR.out.1;omega
   have hfin:Hid (L.map Itm.z=pickL (l.map Itm.z) cols∧Lv wr A2 cap2 L∧Below w.heap.size w wr):=⟨by have:=hR.out.2.1;rw[hke] at this;exact this,⟨hit,hn2,by unfold maxLen;omega⟩,hR.out.2.2.2⟩
   subst hv2
   clear hke hit hn2
   go_wp2
   go_ret
   exact ⟨L,A2,cap2,rfl,hfin.out.1,hfin.out.2.1,hlL,hfin.out.2.2⟩
end Go.Proofs.YtkadjjmkokhldaaGreat

namespace Go.Proofs.YtkadjjmkokhldaaGreat
open Go.RowKit Go.Sort

theorem dist_take {l:List Itm} {k:Nat} (h:k<l.length):distL ((l.take (k+1)).map Itm.z)=distL ((l.take k).map Itm.z)++(if 0<l[k].n then [(l[k].r,1)] else []):=by
 rw[List.take_succ_eq_append_getElem h,List.map_append]
 unfold distL
 rw[List.filter_append,List.map_append]
 congr 1
 by_cases e:0<l[k].n
 ·rw[if_pos e];simp[Itm.z,e]
 ·rw[if_neg e];simp[Itm.z,e]

set_option maxRecDepth 100000 in
set_option maxHeartbeats 1000000 in
theorem dist_any (l:List Itm) (A:Option Addr) (cap:Nat) (w:World) (hl:l.length≤400) (hr:Items w A l) :
  Calls Tryz.prog 162 #[.slice A l.length cap] w fun e w'=>∃(L:List Itm) (C:Option Addr) (k:Nat),e= .returned (.slice C L.length k)∧L.map Itm.z=distL (l.map Itm.z)∧Lv w' C k L∧L.length≤400∧Below w.heap.size w w':=by
 have hrH:Hid (Items w A l):=hr
 clear hr
 go_enter Tryz.func162,Tryz.ntmps162
 go_wp2
 go_loopw [3,8] (fun u i wr=>∃(k:Nat) (L:List Itm),k≤l.length∧i= .int .i64 k∧Hid (L.length≤k∧L.map Itm.z=distL ((l.take k).map Itm.z)∧(∀y∈L,∃x∈l,y=⟨x.p,x.c,x.r,1⟩)∧OwnG encT 2 90 wr w.heap.size u L∧Below w.heap.size w wr)) (fun _ i _=>l.length-(intOf i).toNat)
 case atStart=>exact ⟨0,[],Nat.zero_le _,rfl,Nat.le_refl _,rfl,fun x hx=>(by cases hx),OwnG.nil _ _ _ _ _,Below.refl _ _⟩
 case round =>
  obtain ⟨k,L,hk,rfl,hR⟩:=hrel
  by_cases hlt:k<l.length
  ·have hltz:(k:Int)<(l.length:Int):=by omega
   have hI:Hid (Items wr A l):=hrH.out.below hR.out.2.2.2.2
   obtain ⟨bb,off,rfl,hb,hcs⟩:=hI.out.at hlt
   obtain ⟨x,hx⟩:∃x,l[k]=x:=⟨_,rfl⟩
   obtain ⟨e0,e1⟩:=hcs k hlt
   rw[hx] at e0 e1
   have hst:Hid (distL ((l.take (k+1)).map Itm.z)=distL ((l.take k).map Itm.z)++(if 0<x.n then [(x.r,1)] else [])):=by show _=_;rw[dist_take hlt,hx]
   have hxH:Hid (x∈l):=by show _∈_;rw[←hx];exact List.getElem_mem hlt
   have hgX:Hid (Gr wr (wr.alloc (.cells #[.slice x.p x.r.length x.c,.int .i64 x.n] 90))):=(Gr.refl _).alloc _
   clear hcs hx
   by_cases hn:0<x.n
   ·have hoX:Hid (OwnG encT 2 90 ((wr.alloc (.cells #[.slice x.p x.r.length x.c,.int .i64 x.n] 90)).alloc (.cells #[.slice x.p x.r.length x.c,.int .i64 1] 90)) w.heap.size u3 L∧RowG encT 2 ((wr.alloc (.cells #[.slice x.p x.r.length x.c,.int .i64 x.n] 90)).alloc (.cells #[.slice x.p x.r.length x.c,.int .i64 1] 90)) (some ⟨wr.heap.size+1,0,none⟩) [(⟨x.p,x.c,x.r,1⟩:Itm)]∧L.length+[(⟨x.p,x.c,x.r,1⟩:Itm)].length≤maxLen∧(L.length+[(⟨x.p,x.c,x.r,1⟩:Itm)].length)*32≤140737488355328∧Below w.heap.size w ((wr.alloc (.cells #[.slice x.p x.r.length x.c,.int .i64 x.n] 90)).alloc (.cells #[.slice x.p x.r.length x.c,.int .i64 1] 90))):=by
     have hLk:=hR.out.1
     exact ⟨hR.out.2.2.2.1.gr (hgX.out.alloc _),rowNewT (by simp) ⟨x.p,x.c,x.r,1⟩ _,by unfold maxLen;simp;omega,by simp;omega,hR.out.2.2.2.2.trans ((hgX.out.alloc _).below.mono hR.out.2.2.2.2.size)⟩
    go_wp2_with (at_builtin;refine wpList_append_ts _ rfl _ _ rfl w.heap.size u3 L [(⟨x.p,x.c,x.r,1⟩:Itm)] (some ⟨wr.heap.size+1,0,none⟩) 1 rfl rfl hoX.out.1 hoX.out.2.1 (fun h=>by cases h) hoX.out.2.2.1 hoX.out.2.2.2.1 hoX.out.2.2.2.2.size ?_;intro v3 w3 hown3 hg3)
    have hfin:Hid ((L++[(⟨x.p,x.c,x.r,1⟩:Itm)]).length≤k+1∧(L++[(⟨x.p,x.c,x.r,1⟩:Itm)]).map Itm.z=distL ((l.take (k+1)).map Itm.z)∧(∀y∈L++[(⟨x.p,x.c,x.r,1⟩:Itm)],∃x∈l,y=⟨x.p,x.c,x.r,1⟩)∧OwnG encT 2 90 w3 w.heap.size v3 (L++[(⟨x.p,x.c,x.r,1⟩:Itm)])∧Below w.heap.size w w3):=by
     refine ⟨by have:=hR.out.1;simp;omega,by rw[hst.out,if_pos hn,List.map_append,hR.out.2.1];rfl,fun y hy=> ?_,hown3,hoX.out.2.2.2.2.trans (hoX.out.1.grown_below hg3 hoX.out.2.2.2.2.size)⟩
     rcases List.mem_append.1 hy with h|h
     ·exact hR.out.2.2.1 y h
     ·exact ⟨x,hxH.out,List.mem_singleton.1 h⟩
    clear hown3 hg3
    go_roundw
    case rel=>exact ⟨k+1,L++[(⟨x.p,x.c,x.r,1⟩:Itm)],by omega,by go_num,hfin⟩
    case measure=>simp[intOf];omega
   ·have hfin:Hid (L.length≤k+1∧L.map Itm.z=distL ((l.take (k+1)).map Itm.z)∧(∀y∈L,∃x∈l,y=⟨x.p,x.c,x.r,1⟩)∧OwnG encT 2 90 (wr.alloc (.cells #[.slice x.p x.r.length x.c,.int .i64 x.n] 90)) w.heap.size u3 L∧Below w.heap.size w (wr.alloc (.cells #[.slice x.p x.r.length x.c,.int .i64 x.n] 90))) :=
     ⟨by have:=hR.out.1;omega,by rw[hst.out,if_neg hn,List.append_nil];exact hR.out.2.1,hR.out.2.2.1,hR.out.2.2.2.1.gr hgX.out,hR.out.2.2.2.2.trans (hgX.out.below.mono hR.out.2.2.2.2.size)⟩
    go_wp2
    go_roundw
    case rel=>exact ⟨k+1,L,by omega,by go_num,hfin⟩
    case measure=>simp[intOf];omega
  ·have hltz:¬(k:Int)<(l.length:Int):=by omega
   have hke:l.take k=l:=List.take_of_length_le (by omega)
   obtain ⟨A2,cap2,hv2,hn1,hit,hcp,_,_⟩:=OwnG.full encT_len hR.out.2.2.2.1
   have hn2:NilC A2 L.length cap2:=NilC.mk hn1 hcp
   clear hn1 hcp
   have hlL:L.length≤400:=by have:=hR.out.1;omega
   have hfin:Hid (L.map Itm.z=distL (l.map Itm.z)∧Lv wr A2 cap2 L∧Below w.heap.size w wr):=by
    refine ⟨by have:=hR.out.2.1;rw[hke] at this;exact this,⟨⟨hit,fun y hy=> ?_⟩,hn2,by unfold maxLen;omega⟩,hR.out.2.2.2.2⟩
    obtain ⟨x,hx,rfl⟩:=hR.out.2.2.1 y hy
    exact (hrH.out.below hR.out.2.2.2.2).each x hx
   subst hv2
   clear hke hit hn2
   go_wp2
   go_ret
   exact ⟨L,A2,cap2,rfl,hfin.out.1,hfin.out.2.1,hlL,hfin.out.2.2⟩
end Go.Proofs.YtkadjjmkokhldaaGreat
