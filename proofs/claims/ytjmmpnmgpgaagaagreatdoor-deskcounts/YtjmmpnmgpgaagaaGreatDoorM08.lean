import Derived.Test.YtjmmpnmgpgaagaaGreatDoorM07
set_option maxRecDepth 100000
set_option maxHeartbeats 8000000
open Go renaming Addr → K, World → T, Calls → ia
open Go.Ending renaming returned → X
open Go.IntKind renaming i64 → V
open Go.Obj renaming cells → J
open Go.Proofs.Tryz renaming prog → Y
open Go.RowKit renaming Hid → O, Below → Z
open Go.Value renaming slice → I, tuple → ib
namespace Go.Proofs.YtjmmpnmgpgaagaaGreatDoor
open Go.RowKit Go.Sort Go.Maps

theorem AJ {f:List Grp} {k:Nat} (h:k<f.length) (v:Int):((f.take (k+1)).map Grp.z).filterMap (od v)=((f.take k).map Grp.z).filterMap (od v)++(if bg (f[k].l.map Itm.z)=0 then [] else [([f[k].n,co v (f[k].l.map Itm.z)],1)]):=by
 rw[List.take_succ_eq_append_getElem h,List.map_append,List.filterMap_append]
 congr 1
 by_cases e:bg (f[k].l.map Itm.z)=0
 ·rw[if_pos e];simp[od,Grp.z,e]
 ·rw[if_neg e];simp[od,Grp.z,e]

theorem AH (l:List Itm) (A:Option K) (cap:Nat) (c v:Int) (w:T) (hl:l.length<=400) (hr:Items w A l) (hc:∀x∈l,inB c 0 ((x.r.length:Int)-1)=true) (hv:∀x∈l,inB v 0 ((x.r.length:Int)-1)=true) (a9:∀x∈l,okR x.r=true/\okW x.n=true) :
  ia Y 281 #[I A l.length cap,.int V c,.int V v] w fun e w'=>∃(L:List Itm) (C:Option K) (k:Nat),e= X (I C L.length k)/\L.map Itm.z=AG (l.map Itm.z) c v/\Lv w' C k L/\L.length<=400/\Z w.heap.size w w':=by
 have a4:O (Items w A l/\(∀x∈l,okW x.n=true)/\(∀x∈l,okR x.r=true/\okW x.n=true)/\∀x∈l,inB v 0 ((x.r.length:Int)-1)=true):=⟨hr,fun x hx=>(a9 x hx).2,a9,hv⟩
 have hG:O _:=jY l A cap c w hl hr hc (fun x hx=>(a9 x hx).1)
 clear hr hc a9 hv
 go_enter Tryz.func281,Tryz.ntmps281
 go_wp2_with fail
 refine ja0 hG ?_
 rintro e w1 ⟨gs,vv,D,rfl,bs⟩
 clear hG
 have hR:=ja1 bs
 obtain ⟨GA,cd,cc,_,bh,_⟩:=hR.out.gps.own.row dt
 have b8:=ja1 bh
 subst cc
 clear bs bh
 have cf:gs.length<=400:=nT hR.out.len hl
 go_wp2
 go_loopw [7,20] (fun u i wr=>∃(k:Nat) (L:List Itm),k<=gs.length/\i= .int V k/\O (L.length<=k/\L.map Itm.z=((gs.take k).map Grp.z).filterMap (od v)/\OwnT wr w1.heap.size u L/\Z w1.heap.size w1 wr)) (fun _ i _=>gs.length-(intOf i).toNat)
 case atStart=>exact ⟨0,[],nZ _,rfl,nR _,rfl,OwnT.nil _ _,bR _ _⟩
 case round =>
  obtain ⟨k,L,hk,rfl,hS⟩:=hrel
  by_cases ah:k<gs.length
  ·have bN:(k:Int)<(gs.length:Int):=by omega
   obtain ⟨bb,b5,rfl,hb,bo⟩:=(b8.out.below hS.out.2.2.2).at ah
   obtain ⟨g,hg⟩:∃g,gs[k]=g:=⟨_,rfl⟩
   have e0:wr.cell? ⟨bb,b5+k*2,none⟩=some (.int V g.n):=by have:=bo k ah 0 (by omega);rw[hg] at this;simpa[fB] using this
   have e1:wr.cell? ⟨bb,b5+k*2+1,none⟩=some (I g.p g.l.length g.c):=by have:=bo k ah 1 (by omega);rw[hg] at this;simpa[fB,Grp.v] using this
   have a7:O (g∈gs):=by show _∈_;rw[<-hg];exact gM ah
   have bc:O (((gs.take (k+1)).map Grp.z).filterMap (od v)=((gs.take k).map Grp.z).filterMap (od v)++(if bg (g.l.map Itm.z)=0 then [] else [([g.n,co v (g.l.map Itm.z)],1)])):=by show _=_;rw[AJ ah,hg]
   clear bo hg
   obtain ⟨R,a6⟩:∃R,(wr.alloc (J #[.int V g.n,I g.p g.l.length g.c] 336))=R:=⟨_,rfl⟩
   have bp:O (Gr wr R):=by show Gr _ _;rw[<-a6];exact (gR _).alloc _
   have y0:R.cell? ⟨wr.heap.size,0,none⟩=some (.int V g.n):=by rw[<-a6];exact aa (gR _) rfl
   have y1:R.cell? ⟨wr.heap.size,1,none⟩=some (I g.p g.l.length g.c):=by rw[<-a6];exact aa (gR _) rfl
   have ba:wr.heap.size<R.heap.size:=by rw[<-a6];simp
   have an:=ja1 (hS.out.2.2.2.trans (bp.out.below.mono hS.out.2.2.2.size))
   obtain ⟨ck,hT⟩:∃ck,bg (g.l.map Itm.z)=ck:=⟨_,rfl⟩
   have a1:ia Y 287 #[I g.p g.l.length g.c] R fun e w'=>e= X (.int V ck)/\Gr R w':=by
    rw[<-hT]
    have h1:=hR.out.sub g a7.out
    exact qk g.l g.p g.c R (by omega) (fun x hx=>a4.out.2.1 x (h1.2 x hx)) (hR.out.items a4.out.1 an.out a7.out)
   have ao:O _:=a1
   clear a1
   rw[hT] at bc
   clear hT
   cases hq:(ck != 0)
   ·have bl:ck=0:=by simpa using hq
    go_wp2_with (go_at_call 287;(refine ja0 ao ?_);rintro e w2 ⟨rfl,ad⟩)
    have F:O (L.length<=k+1/\L.map Itm.z=((gs.take (k+1)).map Grp.z).filterMap (od v)/\OwnT w2 w1.heap.size u7 L/\Z w1.heap.size w1 w2) :=
     ⟨by have:=hS.out.1;omega,by rw[bc.out,if_pos bl,List.append_nil];exact hS.out.2.1,(hS.out.2.2.1.gr bp.out).gr ad,an.out.trans (ad.below.mono an.out.size)⟩
    go_roundw
    case rel=>exact ⟨k+1,L,by omega,by go_num,F⟩
    case measure=>simp[intOf];omega
   ·have bl:¬ck=0:=by simpa using hq
    obtain ⟨U,hU⟩:∃U,co v (g.l.map Itm.z)=U:=⟨_,rfl⟩
    rw[hU] at bc
    have b3:O (∀W,Z R.heap.size R W->ia Y 288 #[I g.p g.l.length g.c,.int V v] W fun e w'=>e= X (.int V U)/\Gr W w'):=fun W hW=>by
     rw[<-hU]
     have h1:=hR.out.sub g a7.out
     exact yd g.l g.p g.c v W (by omega) (fun x hx=>a4.out.2.2.1 x (h1.2 x hx)) (fun x hx=>a4.out.2.2.2 x (h1.2 x hx)) (hR.out.items a4.out.1 (an.out.trans (hW.mono an.out.size)) a7.out)
    have a0:O (∀E,Gr R E->OwnT ((E.alloc (J #[.int V g.n,.int V U] 3)).alloc (J #[I (some ⟨E.heap.size,0,none⟩) 2 2,.int V 1] 151)) w1.heap.size u7 L/\az aD 2 ((E.alloc (J #[.int V g.n,.int V U] 3)).alloc (J #[I (some ⟨E.heap.size,0,none⟩) 2 2,.int V 1] 151)) (some ⟨E.heap.size+1,0,none⟩) [(⟨some ⟨E.heap.size,0,none⟩,2,[g.n,U],1⟩:Itm)]/\Apart ((E.alloc (J #[.int V g.n,.int V U] 3)).alloc (J #[I (some ⟨E.heap.size,0,none⟩) 2 2,.int V 1] 151)) w1.heap.size u7.ownBlock (⟨some ⟨E.heap.size,0,none⟩,2,[g.n,U],1⟩:Itm)/\L.length+1<=maxLen/\(L.length+1)*32<=140737488355328/\Z w1.heap.size w1 ((E.alloc (J #[.int V g.n,.int V U] 3)).alloc (J #[I (some ⟨E.heap.size,0,none⟩) 2 2,.int V 1] 151))):=fun E j=>by
     have ce:=hS.out.1
     have ad:Gr wr E:=bp.out.trans j
     have bn:Z w1.heap.size w1 E:=an.out.trans (j.below.mono an.out.size)
     have h2:Gr E ((E.alloc (J #[.int V g.n,.int V U] 3)).alloc (J #[I (some ⟨E.heap.size,0,none⟩) 2 2,.int V 1] 151)):=((gR _).alloc _).alloc _
     refine ⟨(hS.out.2.2.1.gr ad).gr h2,dj (by simp) (⟨some ⟨E.heap.size,0,none⟩,2,[g.n,U],1⟩:Itm) _,⟨(vK rfl g.n U _).gr ((gR _).alloc _),by simp[maxLen],fun h=>(by cases h),fun a ha=>⟨?_,?_,?_⟩⟩,by unfold maxLen;omega,by omega,bn.trans (h2.below.mono bn.size)⟩
     ·cases ha;exact bn.size
     ·cases ha;simp;omega
     ·cases ha
      intro e
      have h3:=(World.ownsRow.lt hS.out.2.2.1.own E.heap.size e).2
      have h4:=ad.size
      omega
    have b4:O (∀b,u7.ownBlock=some b->b<wr.heap.size):=fun b hb=>(World.ownsRow.lt hS.out.2.2.1.own b hb).2
    clear hU
    go_wp2_with (go_at_call 287;(refine ja0 ao ?_);rintro e w2 ⟨rfl,ad⟩)
    obtain ⟨gb,b6⟩:∃gb,wr.heap.size=gb:=⟨_,rfl⟩
    rw[b6] at y0 y1 ba b4 ⊢
    have ap:O (Gr R w2.drew):=ad.trans (gR _).drew
    have f:O (∀W',Gr R W'->(fun w'=>w'.cell? ⟨gb,0,none⟩=some (.int V g.n)/\w'.cell? ⟨gb,1,none⟩=some (I g.p g.l.length g.c)) W'):=fun W' h=>⟨(h.below.cell (p:=⟨gb,0,none⟩) ba).trans y0,(h.below.cell (p:=⟨gb,1,none⟩) ba).trans y1⟩
    have a5:O (∀E w4,Gr R E->((E.alloc (J #[.int V g.n,.int V U] 3)).alloc (J #[I (some ⟨E.heap.size,0,none⟩) 2 2,.int V 1] 151)).grownBy w4 u7.ownBlock->(fun w'=>w'.cell? ⟨gb,0,none⟩=some (.int V g.n)/\w'.cell? ⟨gb,1,none⟩=some (I g.p g.l.length g.c)) w4):=fun E w4 h3 h4=>by
     have hW:Gr R ((E.alloc (J #[.int V g.n,.int V U] 3)).alloc (J #[I (some ⟨E.heap.size,0,none⟩) 2 2,.int V 1] 151)):=(h3.alloc _).alloc _
     have hk:=f.out _ hW
     have ah:gb<((E.alloc (J #[.int V g.n,.int V U] 3)).alloc (J #[I (some ⟨E.heap.size,0,none⟩) 2 2,.int V 1] 151)).heap.size:=nL ba hW.size
     have b1:some gb≠u7.ownBlock:=fun e=>by have:=b4.out _ e.symm;omega
     exact ⟨(World.cell?_of_block (a:=⟨gb,0,none⟩) (h4.block _ ah b1)).trans hk.1,(World.cell?_of_block (a:=⟨gb,1,none⟩) (h4.block _ ah b1)).trans hk.2⟩
    clear ad y0 y1 ao
    refine wp_region_noPanic ?_
    refine wp_region_held_drew (S:=(fun w'=>w'.cell? ⟨gb,0,none⟩=some (.int V g.n)/\w'.cell? ⟨gb,1,none⟩=some (I g.p g.l.length g.c))) (by kernel_rfl) (f.out _ ap.out) (fun hHeld=> ?_)
    refine tks [0,1,2,3,4,5] (by assumption) ?_
    iterate 6 (refine tk (v:= ?_) (by rfl) (by kernel_rfl) ?_ ?_;rotate_left;· (refine oL ⟨by rfl,?_⟩;intro w a2;(try dsimp only at a2);go_simp<;>with_reducible rfl);try simp only[Act.put,yA,aB,yS])
    refine tk0 ?_
    refine wpAnyH_ready (rs:=[6]) (by kernel_rfl) (by simp) ?_
    refine AllReadyH.cons (o:= ?ois7) ?hops7 (fun cj hK=> ?steps7) ?mores7
    case hops7=>(simp only[zA,z0',zS];rfl)
    case mores7=>exact AllReadyH.nil
    go_simp
    (go_at_call 288;(refine cM (b3.out _ ap.out.below) ?_);rintro e E ⟨rfl,b2⟩;have j:O (Gr R E):=ap.out.trans b2;clear b2)
    first|(go_wp2_with fail)|skip
    refine hK.out _ _ ?_ (fun hHeld=> ?_)
    ·(try dsimp only);first|with_reducible exact f.out _ ap.out|with_reducible exact f.out _ j.out|with_reducible exact f.out _ (j.out.alloc _)|with_reducible exact f.out _ ((j.out.alloc _).alloc _)|exact a8.out
    clear hK cj
    try simp only[Act.put,yA,aB,yS]
    refine wpAnyH_ready (rs:=[7]) (by kernel_rfl) (by simp) ?_
    refine AllReadyH.cons (o:= ?ois8) ?hops8 (fun cj hK=> ?steps8) ?mores8
    case hops8=>(simp only[zA,z0',zS];rfl)
    case mores8=>exact AllReadyH.nil
    go_simp
    refine hK.out _ _ ?_ (fun hHeld=> ?_)
    ·(try dsimp only);first|with_reducible exact f.out _ ap.out|with_reducible exact f.out _ j.out|with_reducible exact f.out _ (j.out.alloc _)|with_reducible exact f.out _ ((j.out.alloc _).alloc _)|exact a8.out
    clear hK cj
    try simp only[Act.put,yA,aB,yS]
    refine tks [8] (by assumption) ?_
    iterate 1 (refine tk (v:= ?_) (by rfl) (by kernel_rfl) ?_ ?_;rotate_left;· (refine oL ⟨by rfl,?_⟩;intro w a2;(try dsimp only at a2);go_simp<;>with_reducible rfl);try simp only[Act.put,yA,aB,yS])
    refine tk0 ?_
    refine wpAnyH_ready (rs:=[9]) (by kernel_rfl) (by simp) ?_
    refine AllReadyH.cons (o:= ?ois10) ?hops10 (fun cj hK=> ?steps10) ?mores10
    case hops10=>(simp only[zA,z0',zS];rfl)
    case mores10=>exact AllReadyH.nil
    go_simp
    refine hK.out _ _ ?_ (fun hHeld=> ?_)
    ·(try dsimp only);first|with_reducible exact f.out _ ap.out|with_reducible exact f.out _ j.out|with_reducible exact f.out _ (j.out.alloc _)|with_reducible exact f.out _ ((j.out.alloc _).alloc _)|exact a8.out
    clear hK cj
    try simp only[Act.put,yA,aB,yS]
    refine wpAnyH_ready (rs:=[10]) (by kernel_rfl) (by simp) ?_
    refine AllReadyH.cons (o:= ?ois11) ?hops11 (fun cj hK=> ?steps11) ?mores11
    case hops11=>(simp only[zA,z0',zS];rfl)
    case mores11=>exact AllReadyH.nil
    (refine jN _ rfl (.tmp 28) (.tmp 37) rfl w1.heap.size u7 L (⟨some ⟨E.heap.size,0,none⟩,2,[g.n,U],1⟩:Itm) ⟨E.heap.size+1,0,none⟩ 1 rfl rfl (a0.out E j.out).1 (a0.out E j.out).2.1 (a0.out E j.out).2.2.1 (a0.out E j.out).2.2.2.1 (a0.out E j.out).2.2.2.2.1 (a0.out E j.out).2.2.2.2.2.size ?_;intro v4 w4 a3 bt be;have a8:O ((fun w'=>w'.cell? ⟨gb,0,none⟩=some (.int V g.n)/\w'.cell? ⟨gb,1,none⟩=some (I g.p g.l.length g.c)) w4):=a5.out E w4 j.out be;have F:O ((L++[(⟨some ⟨E.heap.size,0,none⟩,2,[g.n,U],1⟩:Itm)]).length<=k+1/\(L++[(⟨some ⟨E.heap.size,0,none⟩,2,[g.n,U],1⟩:Itm)]).map Itm.z=((gs.take (k+1)).map Grp.z).filterMap (od v)/\OwnT w4 w1.heap.size v4 (L++[(⟨some ⟨E.heap.size,0,none⟩,2,[g.n,U],1⟩:Itm)])/\Z w1.heap.size w1 w4):=⟨by have:=hS.out.1;simp;omega,by rw[bc.out,if_neg bl,List.map_append,hS.out.2.1];rfl,a3,(a0.out E j.out).2.2.2.2.2.trans bt⟩;clear a3 bt be)
    refine hK.out _ _ ?_ (fun hHeld=> ?_)
    ·(try dsimp only);first|with_reducible exact f.out _ ap.out|with_reducible exact f.out _ j.out|with_reducible exact f.out _ (j.out.alloc _)|with_reducible exact f.out _ ((j.out.alloc _).alloc _)|exact a8.out
    clear hK cj
    try simp only[Act.put,yA,aB,yS]
    refine tks [11] (by assumption) ?_
    iterate 1 (refine tk (v:= ?_) (by rfl) (by kernel_rfl) ?_ ?_;rotate_left;· (refine oL ⟨by rfl,?_⟩;intro w a2;(try dsimp only at a2);go_simp<;>with_reducible rfl);try simp only[Act.put,yA,aB,yS])
    refine tk0 ?_
    refine wpAnyH_done (by kernel_rfl) ?_ _
    refine NoPanic.normal ?_
    go_wp2
    go_roundw
    case rel=>exact ⟨k+1,L++[(⟨some ⟨E.heap.size,0,none⟩,2,[g.n,U],1⟩:Itm)],by omega,by go_num,F⟩
    case measure=>simp[intOf];omega
  ·have bN:¬(k:Int)<(gs.length:Int):=by omega
   have bG:gs.take k=gs:=List.take_of_length_le (by omega)
   obtain ⟨A2,bd,b9,b0,bC,_⟩:=hS.out.2.2.1.items
   have b7:L.length<=400:=by have:=hS.out.1;omega
   have F:O (L.map Itm.z=AG (l.map Itm.z) c v/\Lv wr A2 bd L/\Z w.heap.size w wr):=by
    refine ⟨?_,⟨bC,b0,by unfold maxLen;omega⟩,hR.out.bel.trans (hS.out.2.2.2.mono hR.out.bel.size)⟩
    have:=hS.out.2.1
    rw[bG,hR.out.z,List.take_length] at this
    exact this
   subst b9
   clear bG bC b0
   go_wp2
   go_ret
   exact ⟨L,A2,bd,rfl,F.out.1,F.out.2.1,b7,F.out.2.2⟩

theorem xL {l:List Itm} {k:Nat} (h:k<l.length) (f:List Int):gG ((l.take (k+1)).map Itm.z) f=gG ((l.take k).map Itm.z) f++[(eI f l[k].r,l[k].n)]:=by
 rw[List.take_succ_eq_append_getElem h,List.map_append]
 unfold gG
 rw[List.map_append]
 rfl
theorem uw {f:List Int} {m:Nat} (h:m<f.length) (r:List Int):eI (f.take (m+1)) r=eI (f.take m) r++[atI r f[m]]:=by
 unfold eI
 rw[List.take_succ_eq_append_getElem h,List.map_append]
 rfl

theorem Aj (l:List Itm) (A B:Option K) (cap cb:Nat) (f:List Int) (w:T) (hl:l.length<=400) (b9:f.length<=8) (hr:Items w A l) (bG:al w B f) (hc:∀x∈l,∀c∈f,inB c 0 ((x.r.length:Int)-1)=true) :
  ia Y 278 #[I A l.length cap,I B f.length cb] w fun e w'=>∃(L:List Itm) (C:Option K) (k:Nat),e= X (I C L.length k)/\L.map Itm.z=gG (l.map Itm.z) f/\Lv w' C k L/\L.length<=400/\Z w.heap.size w w':=by
 have bC:=ja2 hr bG
 have b3:=ja1 hc
 clear hr hc bG
 go_enter Tryz.func278,Tryz.ntmps278
 go_wp2
 go_loopw [5,13] (fun u i wr=>∃(k:Nat) (L:List Itm),k<=l.length/\i= .int V k/\O (L.length=k/\L.map Itm.z=gG ((l.take k).map Itm.z) f/\OwnT wr w.heap.size u L/\Z w.heap.size w wr)) (fun _ i _=>l.length-(intOf i).toNat)
 case atStart=>exact ⟨0,[],nZ _,rfl,rfl,rfl,OwnT.nil _ _,bR _ _⟩
 case round =>
  obtain ⟨k,L,hk,rfl,hR⟩:=hrel
  by_cases a3:k<l.length
  ·have bs:(k:Int)<(l.length:Int):=by omega
   have hI:=ja2 (bC.out.1.below hR.out.2.2.2) (bC.out.2.below hR.out.2.2.2)
   obtain ⟨bb,cf,rfl,hb,bp⟩:=hI.out.1.at a3
   obtain ⟨x,hx⟩:∃x,l[k]=x:=⟨_,rfl⟩
   obtain ⟨e0,e1⟩:=bp k a3
   rw[hx] at e0 e1
   have b0:O (x∈l):=by show _∈_;rw[<-hx];exact gM a3
   have bN:O (gG ((l.take (k+1)).map Itm.z) f=gG ((l.take k).map Itm.z) f++[(eI f x.r,x.n)]):=by show _=_;rw[xL a3,hx]
   have ah:O (Gr wr (wr.alloc (J #[I x.p x.r.length x.c,.int V x.n] 151))):=(gR _).alloc _
   obtain ⟨R,a1⟩:∃R,(wr.alloc (J #[I x.p x.r.length x.c,.int V x.n] 151))=R:=⟨_,rfl⟩
   have y0:R.cell? ⟨wr.heap.size,0,none⟩=some (I x.p x.r.length x.c):=by rw[<-a1];exact aa (gR _) rfl
   have y1:R.cell? ⟨wr.heap.size,1,none⟩=some (.int V x.n):=by rw[<-a1];exact aa (gR _) rfl
   have bc:wr.heap.size<R.heap.size:=by rw[<-a1];simp
   rw[a1] at ah
   clear bp hx
   go_wp2
   clear a1
   obtain ⟨xb,bd⟩:∃xb,wr.heap.size=xb:=⟨_,rfl⟩
   have bl:=ja3 ((hI.out.1.each x b0.out).1.gr ah.out) (hI.out.2.gr ah.out) bd.symm
   rw[bd] at y0 y1 bc ⊢
   clear bd e0 e1 hb
   have hO:=ja4 (hR.out.2.2.1.gr ah.out) (hR.out.2.2.2.trans (ah.out.below.mono hR.out.2.2.2.size)) hR.out.1 hR.out.2.1
   have b5:=ja1 (b3.out x b0.out)
   clear hR ah hI
   go_loopw [8,19] (fun u i wi=>∃m:Nat,m<=f.length/\i= .int V m/\O (dr wi R.heap.size u (eI (f.take m) x.r)/\Z R.heap.size R wi)) (fun _ i _=>f.length-(intOf i).toNat)
   case atStart=>exact ⟨0,nZ _,rfl,ae.nil _ _ _ _ _,bR _ _⟩
   case round =>
    obtain ⟨m,hm,rfl,hS⟩:=hrel
    have z0:wr.cell? ⟨xb,0,none⟩=some (I x.p x.r.length x.c):=(hS.out.2.cell (p:=⟨xb,0,none⟩) bc).trans y0
    have z1:wr.cell? ⟨xb,1,none⟩=some (.int V x.n):=(hS.out.2.cell (p:=⟨xb,1,none⟩) bc).trans y1
    have F:(eI (f.take m) x.r).length<=8:=by unfold eI;simp;omega
    by_cases ad:m<f.length
    ·have ba:(m:Int)<(f.length:Int):=by omega
     have bh:=ja2 (bl.out.1.below hS.out.2) (bl.out.2.1.below hS.out.2)
     obtain ⟨b2,b1,rfl,b8,bn⟩:=bh.out.2.at ad
     obtain ⟨c,a2⟩:∃c,f[m]=c:=⟨_,rfl⟩
     have e2:wr.cell? ⟨b2,b1+m,none⟩=some (.int V c):=by
      have:=bn m ad 0 (by omega)
      rw[a2] at this
      simpa[df] using this
     have a7:O (eI (f.take (m+1)) x.r=eI (f.take m) x.r++[atI x.r c]):=by show _=_;rw[uw ad,a2]
     obtain ⟨rb,ro,cn,hp,ce,b4,bo,a9⟩:=iY bh.out.1 (b5.out c (by rw[<-a2];exact gM ad))
     obtain ⟨nn,bt⟩:∃nn,atI x.r c=nn:=⟨_,rfl⟩
     rw[bt] at a9 a7
     rw[hp] at z0
     have cd:(cn:Int)<(x.r.length:Int):=by omega
     obtain rfl:=b4
     clear bn a2 hp bt bo
     have g:O (dr (wr.alloc (J #[.int V nn] 3)) R.heap.size u8 (eI (f.take m) x.r)/\al (wr.alloc (J #[.int V nn] 3)) (some ⟨wr.heap.size,0,none⟩) [nn]/\(eI (f.take m) x.r).length+[nn].length<=maxLen/\((eI (f.take m) x.r).length+[nn].length)*8<=140737488355328/\Z R.heap.size R (wr.alloc (J #[.int V nn] 3))) :=
      ⟨hS.out.1.gr ((gR _).alloc _),ii rfl nn _,by unfold maxLen;simp;omega,by simp;omega,hS.out.2.alloc hS.out.2.size _⟩
     go_wp2_with (at_builtin;refine aJ _ rfl (.tmp 23) (.tmp 29) rfl R.heap.size u8 (eI (f.take m) x.r) [nn] (some ⟨wr.heap.size,0,none⟩) 1 rfl rfl g.out.1 g.out.2.1 (fun h=>by cases h) g.out.2.2.1 g.out.2.2.2.1 g.out.2.2.2.2.size ?_;intro v3 w3 E ao)
     have j:O (dr w3 R.heap.size v3 (eI (f.take (m+1)) x.r)/\Z R.heap.size R w3):=⟨by rw[a7.out];exact E,g.out.2.2.2.2.trans (g.out.1.grown_below ao g.out.2.2.2.2.size)⟩
     clear E ao
     go_roundw
     case rel=>exact ⟨m+1,by omega,by go_num,j.out⟩
     case measure=>simp[intOf];omega
    ·have ba:¬(m:Int)<(f.length:Int):=by omega
     have ap:f.take m=f:=List.take_of_length_le (by omega)
     rw[ap] at hS F
     obtain ⟨C,cc,a5,a0,an,a4⟩:=hS.out.1.row bS
     obtain ⟨PR,be⟩:∃PR,eI f x.r=PR:=⟨_,rfl⟩
     rw[be] at bN hS a5 an F
     subst a5
     have a8:=ja2 (hO.out.2.1.trans (hS.out.2.mono hO.out.2.1.size)) hO.out.2.1.size
     have g:O (OwnT (wr.alloc (J #[I C PR.length cc,.int V x.n] 151)) w.heap.size u5 L/\az aD 2 (wr.alloc (J #[I C PR.length cc,.int V x.n] 151)) (some ⟨wr.heap.size,0,none⟩) [⟨C,cc,PR,x.n⟩]/\Apart (wr.alloc (J #[I C PR.length cc,.int V x.n] 151)) w.heap.size u5.ownBlock ⟨C,cc,PR,x.n⟩/\L.length+1<=maxLen/\(L.length+1)*32<=140737488355328/\Z w.heap.size w (wr.alloc (J #[I C PR.length cc,.int V x.n] 151))):=by
      have b7:=hO.out.2.2.1
      refine ⟨(hO.out.1.below hS.out.2).gr ((gR _).alloc _),dj rfl ⟨C,cc,PR,x.n⟩ _,⟨an.gr ((gR _).alloc _),nT F (by decide),a0,fun a ha=>⟨?_,?_,?_⟩⟩,by unfold maxLen;omega,by omega,a8.out.1.alloc a8.out.1.size _⟩
      ·have h1:=(a4 a ha).1
       have h2:=a8.out.2
       omega
      ·have h1:=(a4 a ha).2
       simp;omega
      ·intro e
       have h1:=(World.ownsRow.lt hO.out.1.own a.block e).2
       have h2:=(a4 a ha).1
       omega
     clear ap an a0 a4 be
     go_wp2_with (at_builtin;refine fi _ rfl _ _ rfl w.heap.size u5 L ⟨C,cc,PR,x.n⟩ ⟨wr.heap.size,0,none⟩ 1 rfl rfl g.out.1 g.out.2.1 g.out.2.2.1 g.out.2.2.2.1 g.out.2.2.2.2.1 g.out.2.2.2.2.2.size ?_;intro v3 w3 E ao)
     have j:O ((L++[(⟨C,cc,PR,x.n⟩:Itm)]).length=k+1/\(L++[(⟨C,cc,PR,x.n⟩:Itm)]).map Itm.z=gG ((l.take (k+1)).map Itm.z) f/\OwnT w3 w.heap.size v3 (L++[⟨C,cc,PR,x.n⟩])/\Z w.heap.size w w3) :=
      ⟨by have:=hO.out.2.2.1;simp;omega,by rw[bN.out,List.map_append,hO.out.2.2.2];rfl,E,g.out.2.2.2.2.2.trans ao⟩
     clear E ao
     go_roundw
     case rel=>exact ⟨k+1,L++[(⟨C,cc,PR,x.n⟩:Itm)],by omega,by go_num,j⟩
     case measure=>simp[intOf];omega
  ·have bs:¬(k:Int)<(l.length:Int):=by omega
   have ap:l.take k=l:=List.take_of_length_le (by omega)
   obtain ⟨A2,a6,a5,a0,an,_⟩:=hR.out.2.2.1.items
   have b6:L.length<=400:=by have:=hR.out.1;omega
   have j:O (L.map Itm.z=gG (l.map Itm.z) f/\Lv wr A2 a6 L/\Z w.heap.size w wr):=⟨by have:=hR.out.2.1;rw[ap] at this;exact this,⟨an,a0,by unfold maxLen;omega⟩,hR.out.2.2.2⟩
   subst a5
   clear ap an a0
   go_wp2
   go_ret
   exact ⟨L,A2,a6,rfl,j.out.1,j.out.2.1,b6,j.out.2.2⟩

theorem wI {l:List Itm} {k:Nat} (h:k<l.length):gl ((l.take (k+1)).map Itm.z)=gl ((l.take k).map Itm.z)++(if 0<l[k].n then [(l[k].r,1)] else []):=by
 rw[List.take_succ_eq_append_getElem h,List.map_append]
 unfold gl
 rw[List.filter_append,List.map_append]
 congr 1
 by_cases e:0<l[k].n
 ·rw[if_pos e];simp[Itm.z,e]
 ·rw[if_neg e];simp[Itm.z,e]

theorem zc (l:List Itm) (A:Option K) (cap:Nat) (w:T) (hl:l.length<=400) (hr:Items w A l) :
  ia Y 279 #[I A l.length cap] w fun e w'=>∃(L:List Itm) (C:Option K) (k:Nat),e= X (I C L.length k)/\L.map Itm.z=gl (l.map Itm.z)/\Lv w' C k L/\L.length<=400/\Z w.heap.size w w':=by
 have a4:=ja1 hr
 clear hr
 go_enter Tryz.func279,Tryz.ntmps279
 go_wp2
 go_loopw [3,8] (fun u i wr=>∃(k:Nat) (L:List Itm),k<=l.length/\i= .int V k/\O (L.length<=k/\L.map Itm.z=gl ((l.take k).map Itm.z)/\(∀y∈L,∃x∈l,y=⟨x.p,x.c,x.r,1⟩)/\ae aD 2 151 wr w.heap.size u L/\Z w.heap.size w wr)) (fun _ i _=>l.length-(intOf i).toNat)
 case atStart=>exact ⟨0,[],nZ _,rfl,nR _,rfl,fun x hx=>(by cases hx),ae.nil _ _ _ _ _,bR _ _⟩
 case round =>
  obtain ⟨k,L,hk,rfl,g⟩:=hrel
  by_cases ad:k<l.length
  ·have a1:(k:Int)<(l.length:Int):=by omega
   have hI:=ja1 (a4.out.below g.out.2.2.2.2)
   obtain ⟨bb,ba,rfl,hb,an⟩:=hI.out.at ad
   obtain ⟨x,hx⟩:∃x,l[k]=x:=⟨_,rfl⟩
   obtain ⟨e0,e1⟩:=an k ad
   rw[hx] at e0 e1
   have a5:O (gl ((l.take (k+1)).map Itm.z)=gl ((l.take k).map Itm.z)++(if 0<x.n then [(x.r,1)] else [])):=by show _=_;rw[wI ad,hx]
   have a8:O (x∈l):=by show _∈_;rw[<-hx];exact gM ad
   have R:O (Gr wr (wr.alloc (J #[I x.p x.r.length x.c,.int V x.n] 151))):=(gR _).alloc _
   clear an hx
   by_cases hn:0<x.n
   ·have j:O (ae aD 2 151 ((wr.alloc (J #[I x.p x.r.length x.c,.int V x.n] 151)).alloc (J #[I x.p x.r.length x.c,.int V 1] 151)) w.heap.size u3 L/\az aD 2 ((wr.alloc (J #[I x.p x.r.length x.c,.int V x.n] 151)).alloc (J #[I x.p x.r.length x.c,.int V 1] 151)) (some ⟨wr.heap.size+1,0,none⟩) [(⟨x.p,x.c,x.r,1⟩:Itm)]/\L.length+[(⟨x.p,x.c,x.r,1⟩:Itm)].length<=maxLen/\(L.length+[(⟨x.p,x.c,x.r,1⟩:Itm)].length)*32<=140737488355328/\Z w.heap.size w ((wr.alloc (J #[I x.p x.r.length x.c,.int V x.n] 151)).alloc (J #[I x.p x.r.length x.c,.int V 1] 151))):=by
     have a9:=g.out.1
     exact ⟨g.out.2.2.2.1.gr (R.out.alloc _),dj (by simp) ⟨x.p,x.c,x.r,1⟩ _,by unfold maxLen;simp;omega,by simp;omega,g.out.2.2.2.2.trans ((R.out.alloc _).below.mono g.out.2.2.2.2.size)⟩
    go_wp2_with (at_builtin;refine dH _ rfl _ _ rfl w.heap.size u3 L [(⟨x.p,x.c,x.r,1⟩:Itm)] (some ⟨wr.heap.size+1,0,none⟩) 1 rfl rfl j.out.1 j.out.2.1 (fun h=>by cases h) j.out.2.2.1 j.out.2.2.2.1 j.out.2.2.2.2.size ?_;intro v3 w3 F ao)
    have f:O ((L++[(⟨x.p,x.c,x.r,1⟩:Itm)]).length<=k+1/\(L++[(⟨x.p,x.c,x.r,1⟩:Itm)]).map Itm.z=gl ((l.take (k+1)).map Itm.z)/\(∀y∈L++[(⟨x.p,x.c,x.r,1⟩:Itm)],∃x∈l,y=⟨x.p,x.c,x.r,1⟩)/\ae aD 2 151 w3 w.heap.size v3 (L++[(⟨x.p,x.c,x.r,1⟩:Itm)])/\Z w.heap.size w w3):=by
     refine ⟨by have:=g.out.1;simp;omega,by rw[a5.out,if_pos hn,List.map_append,g.out.2.1];rfl,fun y hy=> ?_,F,j.out.2.2.2.2.trans (j.out.1.grown_below ao j.out.2.2.2.2.size)⟩
     rcases List.mem_append.1 hy with h|h
     ·exact g.out.2.2.1 y h
     ·exact ⟨x,a8.out,List.mem_singleton.1 h⟩
    clear F ao
    go_roundw
    case rel=>exact ⟨k+1,L++[(⟨x.p,x.c,x.r,1⟩:Itm)],by omega,by go_num,f⟩
    case measure=>simp[intOf];omega
   ·have f:O (L.length<=k+1/\L.map Itm.z=gl ((l.take (k+1)).map Itm.z)/\(∀y∈L,∃x∈l,y=⟨x.p,x.c,x.r,1⟩)/\ae aD 2 151 (wr.alloc (J #[I x.p x.r.length x.c,.int V x.n] 151)) w.heap.size u3 L/\Z w.heap.size w (wr.alloc (J #[I x.p x.r.length x.c,.int V x.n] 151))) :=
     ⟨by have:=g.out.1;omega,by rw[a5.out,if_neg hn,List.append_nil];exact g.out.2.1,g.out.2.2.1,g.out.2.2.2.1.gr R.out,g.out.2.2.2.2.trans (R.out.below.mono g.out.2.2.2.2.size)⟩
    go_wp2
    go_roundw
    case rel=>exact ⟨k+1,L,by omega,by go_num,f⟩
    case measure=>simp[intOf];omega
  ·have a1:¬(k:Int)<(l.length:Int):=by omega
   have a0:l.take k=l:=List.take_of_length_le (by omega)
   obtain ⟨A2,E,a7,a2,ap,ah,_,_⟩:=ae.full bz g.out.2.2.2.1
   have a3:cV A2 L.length E:=cV.mk a2 ah
   clear a2 ah
   have a6:L.length<=400:=by have:=g.out.1;omega
   have f:O (L.map Itm.z=gl (l.map Itm.z)/\Lv wr A2 E L/\Z w.heap.size w wr):=by
    refine ⟨by have:=g.out.2.1;rw[a0] at this;exact this,⟨⟨ap,fun y hy=> ?_⟩,a3,by unfold maxLen;omega⟩,g.out.2.2.2.2⟩
    obtain ⟨x,hx,rfl⟩:=g.out.2.2.1 y hy
    exact (a4.out.below g.out.2.2.2.2).each x hx
   subst a7
   clear a0 ap a3
   go_wp2
   go_ret
   exact ⟨L,A2,E,rfl,f.out.1,f.out.2.1,a6,f.out.2.2⟩

structure GInvL (c:Int) (G:List (Int×List Zit)) (l:List Zit):Prop where
 uniq:G.Pairwise fun a b=>a.1≠b.1
 pick:∀g∈G,g.2=l.filter fun y=>decide (atI y.1 c=g.1)
 all:∀y∈l,∃g∈G,g.1=atI y.1 c
theorem pW:∀(G:List (Int×List Zit)) (n:Int) (x:Zit),(fM G n x).map (·.1)=if n∈G.map (·.1) then G.map (·.1) else G.map (·.1)++[n]
 | [],n,x=>by simp[fM]
 | g::t,n,x=>by
  have ih:=pW t n x
  by_cases e:g.1=n
  ·simp[fM,e]
  ·have f:¬n=g.1:=fun h=>e h.symm
   simp only[fM,if_neg e,List.map_cons,ih,List.mem_cons,f,false_or]
   split<;>simp
theorem pX:∀(G:List (Int×List Zit)) (n:Int) (x:Zit),G.Pairwise (fun a b=>a.1≠b.1)->∀g∈fM G n x,(g.1≠n/\g∈G)\/(g.1=n/\((∃h∈G,h.1=n/\g.2=h.2++[x])\/((∀h∈G,h.1≠n)/\g.2=[x])))
 | [],n,x,_,g,hg=>by
  simp only[fM,List.mem_singleton] at hg
  subst hg
  exact oR ⟨rfl,oR ⟨fun h E=>(by cases E),rfl⟩⟩
 | h::t,n,x,hp,g,hg=>by
  have f:=List.pairwise_cons.1 hp
  by_cases e:h.1=n
  ·simp only[fM,if_pos e] at hg
   rcases List.mem_cons.1 hg with k|k
   ·subst k;exact oR ⟨e,oL ⟨h,mS ..,e,rfl⟩⟩
   ·refine oL ⟨fun F=>f.1 g k (by rw[e,F]),mC _ k⟩
  ·simp only[fM,if_neg e] at hg
   rcases List.mem_cons.1 hg with k|k
   ·subst k;exact oL ⟨e,mS ..⟩
   ·rcases pX t n x f.2 g k with ⟨j,r⟩|⟨j,⟨h2,b1,b2,b3⟩|⟨b1,b2⟩⟩
    ·exact oL ⟨j,mC _ r⟩
    ·exact oR ⟨j,oL ⟨h2,mC _ b1,b2,b3⟩⟩
    ·refine oR ⟨j,oR ⟨fun u C=> ?_,b2⟩⟩
     rcases List.mem_cons.1 C with k3|k3
     ·rw[k3];exact e
     ·exact b1 u k3
theorem GInvL.step {c:Int} {G:List (Int×List Zit)} {l:List Zit} (h:GInvL c G l) (x:Zit):GInvL c (fM G (atI x.1 c) x) (l++[x]):=by
 have L:=pW G (atI x.1 c) x
 refine ⟨?_,fun g j=> ?_,fun y F=> ?_⟩
 ·have:((fM G (atI x.1 c) x).map (·.1)).Pairwise (· ≠ ·):=by
   rw[L]
   split
   ·exact List.pairwise_map.2 h.uniq
   ·rename_i E
    exact List.pairwise_append.2 ⟨List.pairwise_map.2 h.uniq,List.pairwise_singleton _ _,fun a ha b hb e=>by rw[List.mem_singleton.1 hb] at e;exact E (e▸ha)⟩
  exact List.pairwise_map.1 this
 ·rw[List.filter_append]
  rcases pX G _ x h.uniq g j with ⟨f,R⟩|⟨f,⟨h2,b1,b2,b3⟩|⟨b1,b2⟩⟩
  ·have:decide (atI x.1 c=g.1)=false:=by simpa using fun k=>f k.symm
   simp[this,h.pick g R]
  ·rw[b3,h.pick h2 b1,b2,f]
   simp
  ·have E:l.filter (fun y=>decide (atI y.1 c=g.1))=[]:=by
    rw[List.filter_eq_nil_iff]
    intro y F e
    obtain ⟨g2,C,u⟩:=h.all y F
    exact b1 g2 C (by rw[u,<-f];simpa using e)
   rw[E,b2,f]
   simp
 ·have r:∀n,n∈(fM G (atI x.1 c) x).map (·.1)↔n∈G.map (·.1)\/n=atI x.1 c:=fun n=>by
   rw[L]
   split
   ·rename_i hin
    exact ⟨oL,fun k=>k.elim id (fun e=>e▸hin)⟩
   ·simp
  have:atI y.1 c∈(fM G (atI x.1 c) x).map (·.1):=by
   rw[r]
   rcases List.mem_append.1 F with e|e
   ·obtain ⟨g,j,u⟩:=h.all y e
    exact oL (List.mem_map.2 ⟨g,j,u⟩)
   ·rw[List.mem_singleton.1 e];exact oR rfl
  obtain ⟨g,j,e⟩:=List.mem_map.1 this
  exact ⟨g,j,e⟩
theorem nj {c:Int}:∀(m:List Zit) {G:List (Int×List Zit)} {l:List Zit},GInvL c G l->GInvL c (m.foldl (fun g x=>fM g (atI x.1 c) x) G) (l++m)
 | [],_,_,h=>by simpa using h
 | x::m,_,l,h=>by
  have:=nj m (h.step x)
  simpa using this
theorem zz (l:List Zit) (c:Int):GInvL c (oI l c) l:=by
 have:=nj (c:=c) l (G:=[]) (l:=[]) ⟨List.Pairwise.nil,fun g f=>(by cases f),fun y h=>(by cases h)⟩
 rw[List.nil_append] at this
 exact this
def prs (x:Zit) (l:List Zit):List Zit:=l.map fun y=>(x.1++y.1,x.2*y.2)
theorem xI {a:List Itm} {k:Nat} (h:k<a.length) (b:List Zit) (c v:Int):dJ ((a.take (k+1)).map Itm.z) b c v=dJ ((a.take k).map Itm.z) b c v++prs a[k].z (b.filter fun y=>decide (atI y.1 v=atI a[k].r c)):=by
 rw[List.take_succ_eq_append_getElem h,List.map_append]
 unfold dJ prs
 rw[List.flatMap_append]
 simp[Itm.z]
theorem Am {x:Zit} {l:List Itm} {m:Nat} (h:m<l.length):prs x ((l.take (m+1)).map Itm.z)=prs x ((l.take m).map Itm.z)++[(x.1++l[m].r,x.2*l[m].n)]:=by
 rw[List.take_succ_eq_append_getElem h,List.map_append]
 unfold prs
 rw[List.map_append]
 rfl
theorem Ah {a:List Itm} {k:Nat} (b:List Zit) (c v:Int) {p:Zit} (h:p∈dJ ((a.take k).map Itm.z) b c v):p∈dJ (a.map Itm.z) b c v:=by
 unfold dJ at h ⊢
 obtain ⟨x,g,f⟩:=List.mem_flatMap.1 h
 obtain ⟨y,j,e⟩:=List.mem_map.1 g
 exact List.mem_flatMap.2 ⟨x,List.mem_map.2 ⟨y,List.mem_of_mem_take j,e⟩,f⟩

theorem yJ (l m:List Int) (A B:Option K) (ca cb:Nat) (w:T) (hl:l.length<=8) (hm:m.length<=8) (L:A=none->ca=0) (R:B=none->cb=0) (hr:al w A l) (hs:al w B m) :
  ia Y 276 #[I A l.length ca,I B m.length cb] w fun e w'=>∃C c,e= X (I C (l++m).length c)/\al w' C (l++m)/\(C=none->c=0)/\(∀a,C=some a->w.heap.size<=a.block/\a.block<w'.heap.size)/\Z w.heap.size w w':=by
 have k:O (0+l.length<=maxLen/\(0+l.length)*8<=140737488355328/\([]++l).length+m.length<=maxLen/\(([]++l).length+m.length)*8<=140737488355328):=by show _/\_;unfold maxLen;simp;omega
 have n:=ja4 hr L hs R
 clear hr L hs R
 go_enter Tryz.func276,Tryz.ntmps276
 go_wp2_with (first|(at_builtin;refine aJ _ rfl _ _ rfl w.heap.size (I none 0 0) [] l A ca rfl rfl (ae.nil _ _ _ _ _) n.out.1 n.out.2.1 k.out.1 k.out.2.1 (nR _) ?_;intro v1 w1 g f)|(at_builtin;refine aJ _ rfl _ _ rfl w.heap.size v1 ([]++l) m B cb rfl rfl g (n.out.2.2.1.below (cW f)) n.out.2.2.2 k.out.2.2.1 k.out.2.2.2 (cW f).size ?_;intro v2 w2 j r))
 have F:=ja1 ((cW f).trans (ae.grown_below g r (cW f).size))
 obtain ⟨C,c,rfl,hC,u,E⟩:=ae.row bS j
 have h:O (al w2 C (l++m)/\(C=none->c=0)/\(∀a,C=some a->w.heap.size<=a.block/\a.block<w2.heap.size)):=⟨by simpa using u,hC,E⟩
 clear g f j r hC u E
 go_wp2
 go_ret
 exact ⟨C,c,by simp,h.out.1,h.out.2.1,h.out.2.2,F.out⟩

theorem oN {w w':T} {H:Type} {k:TypeId} {R:Value->Option (DataW H×List MemPlace)} {b n:Nat} {D:DataW H} (h:w.ownsMap Y k R b n D) (q:Z w.heap.size w w'):w'.ownsMap Y k R b n D :=
 h.kept (row:=none) ⟨q.os,q.tape,q.output,q.size,fun j f _=>q.block j f⟩ (by simp)
def ek (L:List Itm) (P:List Zit):Prop:=L.map Itm.z=P.take 401/\P.all (fun x=>okW x.2)=true

theorem xZ {M:List Itm} {Q:List Zit} (h:ek M Q) (g:M.length<=400) {y:Itm} (f:okW y.n=true):ek (M++[y]) (Q++[y.z]):=by
 have j:Q.length<=400:=by
  have:=congrArg List.length h.1
  simp only[List.length_map,List.length_take] at this
  omega
 refine ⟨?_,?_⟩
 ·rw[List.map_append,h.1,List.take_of_length_le (by omega),List.take_of_length_le (by simp;omega)]
  rfl
 ·rw[List.all_append,h.2]
  simpa[Itm.z] using f
theorem xY {M:List Itm} {Q:List Zit} (h:ek M Q) (j:¬M.length<=400) {y:Zit} (g:okW y.2=true):ek M (Q++[y]):=by
 have f:401<=Q.length:=by
  have:=congrArg List.length h.1
  simp only[List.length_map,List.length_take] at this
  omega
 refine ⟨?_,?_⟩
 ·rw[h.1,List.take_append_of_le_length f]
 ·rw[List.all_append,h.2]
  simpa using g
theorem lO (w:T) {ops:Array Oper} {j:List Oper} {o:Oper} {a:Act} {Q:Exit->Act->T->Prop} (E:o.guard=none) (s z:Operand)
  (ho:o.op= .call { callee:= .builtin .append,args:= #[s,z],argTypes:= #[59,59] })
  (base:Nat) (v:Value) (l:List Itm) (x:Itm) (A:K) (cap:Nat) (hs:a.eval s=v) (hz:a.eval z= I (some A) 1 cap) (g:OwnT w base v l) (hr:az aD 2 w (some A) [x]) (hx:Apart w base v.ownBlock x)
  (F:l.length+1<=maxLen) (hb:(l.length+1)*32<=140737488355328) (f:base<=w.heap.size)
  (h:∀n w',OwnT w' base n (l++[x])->Z base w w'->w.grownBy w' v.ownBlock->(n.ownBlock=v.ownBlock\/n.ownBlock=some w.heap.size)->wpList Y ops Q j (a.put o.dst n) w'):wpList Y ops Q (o::j) a w :=
 wpList_plain E fun _ hK=>by
  obtain ⟨i0,hi,L,R,ad⟩:=info_parts Tryz.infoT
  obtain ⟨n,w',g1,g2,r,_,C⟩:=run_append_own_at (P:=Y) w base 59 o.type 151 i0 (.agg #[I none 0 0,.int V 0]) 2 32 Tryz.underlying59 hi L R ad rfl (by omega) v l.length (aL aD l) g.own A 1 cap (aL aD [x]) (aW bz [x]) (hr.cells bz (by omega)) (fun u hu=>ec fC u [x] hu) F hb f
  have h2:OwnT w' base n (l++[x]):=by
   refine ⟨?_,fun y hy=> ?_⟩
   ·show w'.ownsRow base _ 2 n (l++[x]).length (aL aD (l++[x]))
    rw[List.length_append,cH]
    exact g2
   ·rcases List.mem_append.1 hy with k|k
    ·exact (g.each y k).grown r C
    ·have:y=x:=by simpa using k
     subst this
     exact hx.grown r C
  unfold Oper.wp execOp
  simp only[ho,resolve,invoke,builtin,Sem.run_bind,Sem.run_pure,Result.andThen_ok,List.map_toArray,List.map_cons,List.map_nil,hs,hz,g1]
  exact hK _ _ (h n w' h2 (ae.grown_below g.own r f) r C)

theorem xN (a b:List Itm) (A B:Option K) (ca cb:Nat) (c v:Int) (w:T) (gb:a.length<=400) (c8:b.length<=400) (ha:Lv w A ca a) (hb:Lv w B cb b) (hc:∀x∈a,inB c 0 ((x.r.length:Int)-1)=true) (hv:∀x∈b,inB v 0 ((x.r.length:Int)-1)=true) (dz:∀x∈a,okR x.r=true/\okW x.n=true) (cp:∀x∈b,okR x.r=true/\okW x.n=true) :
  ia Y 260 #[I A a.length ca,I B b.length cb,.int V c,.int V v] w fun e w'=>∃(L:List Itm) (C:Option K) (k:Nat),e= X (ib #[I C L.length k,.int V (lF (a.map Itm.z) (b.map Itm.z) c v)])/\L.map Itm.z=nU (a.map Itm.z) (b.map Itm.z) c v/\Lv w' C k L/\Z w.heap.size w w'/\NwT w' k w.heap.size C L:=by
 have hH:=ja5 ha hb hc dz cp
 have cA:=jY b B cb v w c8 hb.items hv (fun x hx=>(cp x hx).1)
 have hG:O _:=cA
 obtain ⟨E,hE⟩:∃E,lF (a.map Itm.z) (b.map Itm.z) c v=E:=⟨_,rfl⟩
 have cv:=ja1 hE
 rw[hE]
 clear cA ha hb hc hv dz cp hE
 go_enter Tryz.func260,Tryz.ntmps260
 go_wp2_with fail
 refine ja0 hG ?_
 rintro e w1 ⟨gs,vv,D,rfl,c3⟩
 have hR:=ja1 c3
 obtain ⟨GA,f7,f4,_,b6,_⟩:=hR.out.gps.own.row dt
 have f0:=ja1 b6
 subst f4
 clear c3 b6 hG
 have b5:O (GInvL v (gs.map Grp.z) (b.map Itm.z)):=by
  show GInvL _ _ _
  have:=zz (b.map Itm.z) v
  rw[<-List.take_length (l:=b),<-hR.out.z,List.take_length] at this
  exact this
 go_wp2
 go_loopw [12,28] (fun u i wr=>∃(k:Nat) (L:List Itm),k<=a.length/\i= .int V k/\O (ek L (dJ ((a.take k).map Itm.z) (b.map Itm.z) c v)/\L.length<=401/\OwnT wr w1.heap.size u L/\Z w1.heap.size w1 wr)) (fun _ i _=>a.length-(intOf i).toNat)
 case atStart=>exact ⟨0,[],nZ _,rfl,⟨rfl,rfl⟩,by simp,OwnT.nil _ _,bR _ _⟩
 case round =>
  obtain ⟨k,L,hk,rfl,hS⟩:=hrel
  by_cases b0:k<a.length
  ·have dp:(k:Int)<(a.length:Int):=by omega
   have hI:=ja1 ((hH.out.1.items.below hR.out.bel).below hS.out.2.2.2)
   obtain ⟨bb,g3,rfl,hb,c9⟩:=hI.out.at b0
   obtain ⟨x,hx⟩:∃x,a[k]=x:=⟨_,rfl⟩
   obtain ⟨e0,e1⟩:=c9 k b0
   rw[hx] at e0 e1
   have a7:x∈a:=by rw[<-hx];exact gM b0
   obtain ⟨rb,ro,cn,hp,fn,es,er,ao⟩:=iY (hI.out.each x a7).1 (hH.out.2.2.1 x a7)
   have b1:O (dJ ((a.take (k+1)).map Itm.z) (b.map Itm.z) c v=dJ ((a.take k).map Itm.z) (b.map Itm.z) c v++prs x.z ((b.map Itm.z).filter fun y=>decide (atI y.1 v=atI x.r c))):=by show _=_;rw[xI b0,hx]
   have d5:=ja1 a7
   obtain ⟨nn,cm⟩:∃nn,atI x.r c=nn:=⟨_,rfl⟩
   have bn:keyOf Y 3 (.int V nn)=some (.int V nn):=keyOf_int_mk Tryz.underlying3 (by rw[<-cm];exact wfN (uu (hH.out.2.2.2.1 x a7).1))
   rw[cm] at ao b1
   rw[hp] at e0
   obtain ⟨WX,a8⟩:∃WX,(wr.alloc (J #[I (some ⟨rb,ro,none⟩) x.r.length x.c,.int V x.n] 151))=WX:=⟨_,rfl⟩
   have a6:O (Gr wr WX):=by show Gr _ _;rw[<-a8];exact (gR _).alloc _
   have bt:=ja1 (hS.out.2.2.2.trans (a6.out.below.mono hS.out.2.2.2.size))
   have y0:WX.cell? ⟨rb,ro+cn,none⟩=some (.int V nn):=(a6.out.below.cell (p:=⟨rb,ro+cn,none⟩) fn).trans ao
   have x0:WX.cell? ⟨wr.heap.size,0,none⟩=some (I (some ⟨rb,ro,none⟩) x.r.length x.c):=by rw[<-a8];exact aa (gR _) rfl
   have x1:WX.cell? ⟨wr.heap.size,1,none⟩=some (.int V x.n):=by rw[<-a8];exact aa (gR _) rfl
   have dG:wr.heap.size<WX.heap.size:=by rw[<-a8];simp
   have gc:(cn:Int)<(x.r.length:Int):=by omega
   have e6:=ja2 hp ((hI.out.each x a7).1.gr a6.out)
   obtain rfl:=es
   clear c9 hx a7 cm hp ao er
   have ck:=ja1 (oN hR.out.map bt.out)
   cases bh:Maps.has D (.int V nn)
   ·have e5:O ((b.map Itm.z).filter (fun y=>decide (atI y.1 v=nn))=[]):=by
     show _=_
     rw[List.filter_eq_nil_iff]
     intro y hy e
     obtain ⟨g,hg,e2⟩:=b5.out.all y hy
     obtain ⟨g',ex,rfl⟩:=List.mem_map.1 hg
     have h1:=hR.out.plc.has nn
     rw[bh] at h1
     have:=List.any_eq_false.1 h1.symm g' ex
     simp at this
     exact this (e2.trans (by simpa using e))
    have f:O (ek L (dJ ((a.take (k+1)).map Itm.z) (b.map Itm.z) cn v)/\L.length<=401/\OwnT WX w1.heap.size u12 L/\Z w1.heap.size w1 WX):=⟨by rw[b1.out,e5.out];simpa[prs] using hS.out.1,hS.out.2.1,hS.out.2.2.1.gr a6.out,bt.out⟩
    go_wp2_with (first
     | (at_lookup;refine wpList_lookup_own_ok_int _ rfl _ _ 332 rfl 3 3 V zM Tryz.underlying332 Tryz.underlying3 (vV _) w.heap.size b.length _ rfl ck.out _ _ rfl bn ?_;intro c' a0 d0)
     | fail)
    go_roundw
    case rel=>exact ⟨k+1,L,by omega,by go_num,f⟩
    case measure=>simp[intOf];omega
   ·obtain ⟨i,bG,bN,b4⟩:=hR.out.plc.find bh
    have c5:=ja1 b4
    obtain ⟨G,cs,en,ep,dk⟩:=f0.out.at bG
    subst en
    obtain ⟨g,hg⟩:∃g,gs[i]=g:=⟨_,rfl⟩
    have g1:WX.cell? ⟨G,cs+i*2+1,none⟩=some (I g.p g.l.length g.c):=by
     have:=dk i bG 1 (by omega)
     rw[hg] at this
     exact (bt.out.cell (p:=⟨G,cs+i*2+1,none⟩) ep).trans (by simpa[fB,Grp.v] using this)
    have gv:(i:Int)<(gs.length:Int):=by omega
    have bC:O (g∈gs):=by show _∈_;rw[<-hg];exact gM bG
    have ey:O (g.l.map Itm.z=(b.map Itm.z).filter fun y=>decide (atI y.1 v=nn)):=by
     have:=b5.out.pick g.z (List.mem_map.2 ⟨g,bC.out,rfl⟩)
     have hn:g.z.1=nn:=by rw[<-bN,hg];rfl
     rw[hn] at this
     exact this
    have go:g.l.length<=400:=nT (hR.out.sub g bC.out).1 c8
    clear dk hg bG bN b4
    go_wp2_with (first
     | (at_lookup;refine wpList_lookup_own_ok_int _ rfl _ _ 332 rfl 3 3 V zM Tryz.underlying332 Tryz.underlying3 (vV _) w.heap.size b.length _ rfl ck.out _ _ rfl bn ?_;intro c' a0 d0;(obtain rfl:c'=(i:Int):=by (rw[c5.out] at a0;cases a0;rfl)))
     | fail)
    obtain ⟨j,ea⟩:∃j,wr.heap.size=j:=⟨_,rfl⟩
    have f2:O (∀b,u12.ownBlock=some b->b≠j):=fun b hb e=>by have:=(World.ownsRow.lt hS.out.2.2.1.own b hb).2;omega
    obtain ⟨P,hP⟩:∃P,dJ ((a.take k).map Itm.z) (b.map Itm.z) cn v=P:=⟨_,rfl⟩
    have hO:O (ek L P/\L.length<=401/\OwnT WX w1.heap.size u12 L/\dJ ((a.take (k+1)).map Itm.z) (b.map Itm.z) cn v=P++prs x.z (g.l.map Itm.z)):=⟨by rw[<-hP];exact hS.out.1,hS.out.2.1,hS.out.2.2.1.gr a6.out,by rw[b1.out,hP,ey.out]⟩
    have d6:=ja1 (hH.out.2.2.2.1 x d5.out)
    rw[ea] at x0 x1 dG ⊢
    clear ck bh a0 d0 bn y0 hS b1 a6 ea a8 hI
    go_loopw [12,50] (fun u i wi=>∃(m:Nat) (M:List Itm),m<=g.l.length/\i= .int V m/\O (ek M (P++prs x.z ((g.l.take m).map Itm.z))/\M.length<=401/\OwnT wi w1.heap.size u M/\Z w1.heap.size w1 wi/\(∀b,u.ownBlock=some b->b≠j)/\wi.cell? ⟨j,0,none⟩=some (I (some ⟨rb,ro,none⟩) x.r.length x.c)/\wi.cell? ⟨j,1,none⟩=some (.int V x.n)/\j<wi.heap.size)) (fun _ i _=>g.l.length-(intOf i).toNat)
    case atStart=>exact ⟨0,L,nZ _,rfl,by simpa[prs] using hO.out.1,hO.out.2.1,hO.out.2.2.1,bt.out,f2.out,x0,x1,dG⟩
    case round =>
     obtain ⟨m,M,hm,rfl,F⟩:=hrel
     by_cases a3:m<g.l.length
     ·have cj:(m:Int)<(g.l.length:Int):=by omega
      have cd:=ja1 (hR.out.items hH.out.2.1.items F.out.2.2.2.1 bC.out)
      obtain ⟨yb,g4,f6,g2,b8⟩:=cd.out.at a3
      obtain ⟨y,hy⟩:∃y,g.l[m]=y:=⟨_,rfl⟩
      obtain ⟨e2,e3⟩:=b8 m a3
      rw[hy] at e2 e3
      have b2:O (y∈g.l):=by show _∈_;rw[<-hy];exact gM a3
      have eg:=ja1 (hH.out.2.2.2.2 y ((hR.out.sub g bC.out).2 y b2.out))
      have a4:O (P++prs x.z ((g.l.take (m+1)).map Itm.z)=(P++prs x.z ((g.l.take m).map Itm.z))++[(x.r++y.r,x.n*y.n)]):=by show _=_;rw[Am a3,hy,List.append_assoc];rfl
      have bc:O (okW (x.n*y.n)=false->E=5/\nU (a.map Itm.z) (b.map Itm.z) cn v=[]):=fun hn=>by
       have bN:((x.r++y.r,x.n*y.n):Zit)∈dJ (a.map Itm.z) (b.map Itm.z) cn v:=by
        refine Ah (k:=k+1) _ _ _ ?_
        rw[hO.out.2.2.2]
        exact List.mem_append.2 (oR (List.mem_map.2 ⟨y.z,List.mem_map.2 ⟨y,b2.out,rfl⟩,rfl⟩))
       have cu:lF (a.map Itm.z) (b.map Itm.z) cn v=5:=by
        unfold lF
        rw[if_neg]
        intro h
        have:=List.all_eq_true.1 h _ bN
        rw[hn] at this
        cases this
       exact ⟨by rw[<-cv.out,cu],by unfold nU;rw[if_neg (by rw[cu];decide)]⟩
      have ez: -1125899906842624<=x.n*y.n/\x.n*y.n<=1125899906842624:=by
       have h1:=d6.out.2
       have h2:=eg.out.2
       simp only[okW,inB,Bool.and_eq_true,decide_eq_true_eq] at h1 h2
       exact pQ (x:=x.n) (y:=y.n) ⟨by omega,by omega⟩ h2
      have f5:IntKind.i64.wrap (x.n*y.n)=x.n*y.n:=by rw[IntKind.wrap_i64];omega
      obtain ⟨WY,bs⟩:∃WY,(wr.alloc (J #[I y.p y.r.length y.c,.int V y.n] 151))=WY:=⟨_,rfl⟩
      have ah:O (Gr wr WY):=by show Gr _ _;rw[<-bs];exact (gR _).alloc _
      have z0:WY.cell? ⟨wr.heap.size,0,none⟩=some (I y.p y.r.length y.c):=by rw[<-bs];exact aa (gR _) rfl
      have z1:WY.cell? ⟨wr.heap.size,1,none⟩=some (.int V y.n):=by rw[<-bs];exact aa (gR _) rfl
      have f1:wr.heap.size<WY.heap.size:=by rw[<-bs];simp
      have k0:WY.cell? ⟨j,0,none⟩=some (I (some ⟨rb,ro,none⟩) x.r.length x.c):=(ah.out.below.cell (p:=⟨j,0,none⟩) F.out.2.2.2.2.2.2.2).trans F.out.2.2.2.2.2.1
      have k1:WY.cell? ⟨j,1,none⟩=some (.int V x.n):=(ah.out.below.cell (p:=⟨j,1,none⟩) F.out.2.2.2.2.2.2.2).trans F.out.2.2.2.2.2.2.1
      have ba:=ja1 (F.out.2.2.2.1.trans (ah.out.below.mono F.out.2.2.2.1.size))
      have b9:=ja1 (hR.out.bel.trans (ba.out.mono hR.out.bel.size))
      obtain ⟨N,hN⟩:∃N,x.n*y.n=N:=⟨_,rfl⟩
      rw[hN] at f5 a4 bc ez
      have ga:=ja1 hN
      rw[f6]
      clear b8 hy
      by_cases g0:N < -1048576
      ·have f:O (E=5/\nU (a.map Itm.z) (b.map Itm.z) cn v=[]):=bc.out (by simp[okW,inB];omega)
       go_wp2
       go_ret2
       exact ⟨[],none,0,by rw[f.out.1];rfl,by rw[f.out.2];rfl,⟨⟨oL rfl,fun x hx=>(by cases hx)⟩,fun _=>rfl,nZ _⟩,b9.out,NwT.none _ _⟩
      ·by_cases cl:1048576<N
       ·have f:O (E=5/\nU (a.map Itm.z) (b.map Itm.z) cn v=[]):=bc.out (by simp[okW,inB];omega)
        go_wp2
        go_ret2
        exact ⟨[],none,0,by rw[f.out.1];rfl,by rw[f.out.2];rfl,⟨⟨oL rfl,fun x hx=>(by cases hx)⟩,fun _=>rfl,nZ _⟩,b9.out,NwT.none _ _⟩
       ·have b3:O (okW N=true):=by show _=_;simp[okW,inB];omega
        obtain ⟨MA,mc,e4,gD,_,_⟩:=F.out.2.2.1.items
        subst e4
        by_cases be:M.length<=400
        ·have ev:(M.length:Int)<=400:=by omega
         obtain ⟨R,ce⟩:∃R,x.r++y.r=R:=⟨_,rfl⟩
         have d4:x.r.length<=8:=by have:=d6.out.1;simp only[okR,Bool.and_eq_true,decide_eq_true_eq] at this;exact this.1
         have eb:y.r.length<=8:=by have:=eg.out.1;simp only[okR,Bool.and_eq_true,decide_eq_true_eq] at this;exact this.1
         have an:=yJ x.r y.r (some ⟨rb,ro,none⟩) y.p x.c y.c WY d4 eb (fun h=>by cases h) (cd.out.each y b2.out).2.2 (by rw[<-e6.out.1];exact (((hH.out.1.items.each x d5.out).1.below b9.out))) ((cd.out.each y b2.out).1.gr ah.out)
         rw[ce] at an a4
         have bd:O _:=an
         have c4:O (R.length<=16):=by show _<=_;rw[<-ce];simp;omega
         clear an ce d4 eb
         go_wp2_with fail
         refine ja0 bd ?_
         rintro e w3 ⟨C,c2,rfl,r1,r2,r3,r4⟩
         have c6:=ja2 r4 (ba.out.trans (r4.mono ba.out.size))
         have ap:O (OwnT (w3.alloc (J #[I C R.length c2,.int V N] 151)) w1.heap.size (I MA M.length mc) M/\az aD 2 (w3.alloc (J #[I C R.length c2,.int V N] 151)) (some ⟨w3.heap.size,0,none⟩) [(⟨C,c2,R,N⟩:Itm)]/\Apart (w3.alloc (J #[I C R.length c2,.int V N] 151)) w1.heap.size (Value.slice MA M.length mc).ownBlock (⟨C,c2,R,N⟩:Itm)/\M.length+1<=maxLen/\(M.length+1)*32<=140737488355328/\Z w1.heap.size w1 (w3.alloc (J #[I C R.length c2,.int V N] 151))):=by
          have ej:=c4.out
          refine ⟨((F.out.2.2.1.gr ah.out).below r4).gr ((gR _).alloc _),dj rfl (⟨C,c2,R,N⟩:Itm) _,⟨r1.gr ((gR _).alloc _),nT ej (by decide),r2,fun ad cf=>⟨?_,?_,?_⟩⟩,by unfold maxLen;omega,by omega,c6.out.2.alloc c6.out.2.size _⟩
          ·have h1:=(r3 ad cf).1
           have h2:=ba.out.size
           omega
          ·have h1:=(r3 ad cf).2
           simp;omega
          ·intro e
           have h1:=(World.ownsRow.lt F.out.2.2.1.own ad.block e).2
           have h2:=(r3 ad cf).1
           omega
         have c0:(w3.alloc (J #[I C R.length c2,.int V N] 151)).cell? ⟨j,0,none⟩=some (I (some ⟨rb,ro,none⟩) x.r.length x.c):=(((r4.trans (((gR w3).alloc _).below.mono r4.size)).cell (p:=⟨j,0,none⟩) (nL F.out.2.2.2.2.2.2.2 ah.out.size)).trans k0)
         have c1:(w3.alloc (J #[I C R.length c2,.int V N] 151)).cell? ⟨j,1,none⟩=some (.int V x.n):=(((r4.trans (((gR w3).alloc _).below.mono r4.size)).cell (p:=⟨j,1,none⟩) (nL F.out.2.2.2.2.2.2.2 ah.out.size)).trans k1)
         have b7:j<(w3.alloc (J #[I C R.length c2,.int V N] 151)).heap.size:=nL F.out.2.2.2.2.2.2.2 (nT ah.out.size (nT r4.size (by simp)))
         have a5:=ja3 c0 c1 b7
         have q1:w3.cell? ⟨wr.heap.size,1,none⟩=some (.int V y.n):=(r4.cell (p:=⟨wr.heap.size,1,none⟩) f1).trans z1
         clear r1 r2 r3 r4 bd c0 c1 b7
         go_wp2_with (at_builtin;refine lO _ rfl _ _ rfl w1.heap.size (I MA M.length mc) M (⟨C,c2,R,N⟩:Itm) ⟨w3.heap.size,0,none⟩ 1 rfl rfl ap.out.1 ap.out.2.1 ap.out.2.2.1 ap.out.2.2.2.1 ap.out.2.2.2.2.1 ap.out.2.2.2.2.2.size ?_;intro v4 w4 bp c7 a2 bo)
         have f:O (ek (M++[(⟨C,c2,R,N⟩:Itm)]) (P++prs x.z ((g.l.take (m+1)).map Itm.z))/\(M++[(⟨C,c2,R,N⟩:Itm)]).length<=401/\OwnT w4 w1.heap.size v4 (M++[(⟨C,c2,R,N⟩:Itm)])/\Z w1.heap.size w1 w4/\(∀b,v4.ownBlock=some b->b≠j)/\w4.cell? ⟨j,0,none⟩=some (I (some ⟨rb,ro,none⟩) x.r.length x.c)/\w4.cell? ⟨j,1,none⟩=some (.int V x.n)/\j<w4.heap.size):=by
          have ds:some j≠(Value.slice MA M.length mc).ownBlock:=fun e=>F.out.2.2.2.2.1 j e.symm rfl
          refine ⟨by rw[a4.out];exact xZ (y:=(⟨C,c2,R,N⟩:Itm)) F.out.1 be b3.out,by simp;omega,bp,ap.out.2.2.2.2.2.trans c7,fun bl a1=> ?_,(World.cell?_of_block (a:=⟨j,0,none⟩) (a2.block _ a5.out.2.2 ds)).trans a5.out.1,(World.cell?_of_block (a:=⟨j,1,none⟩) (a2.block _ a5.out.2.2 ds)).trans a5.out.2.1,nL a5.out.2.2 a2.size⟩
          rcases bo with e|e
          ·rw[e] at a1;exact F.out.2.2.2.2.1 bl a1
          ·rw[e] at a1
           have h1:=a5.out.2.2
           intro e2
           simp at a1 h1
           omega
         clear bp c7 a2 bo
         go_roundw
         case rel=>exact ⟨m+1,M++[(⟨C,c2,R,N⟩:Itm)],by omega,by go_num,f⟩
         case measure=>simp[intOf];omega
        ·have ev:¬(M.length:Int)<=400:=by omega
         have f:O (ek M (P++prs x.z ((g.l.take (m+1)).map Itm.z))/\M.length<=401/\OwnT WY w1.heap.size (I MA M.length mc) M/\Z w1.heap.size w1 WY/\(∀b,(Value.slice MA M.length mc).ownBlock=some b->b≠j)/\WY.cell? ⟨j,0,none⟩=some (I (some ⟨rb,ro,none⟩) x.r.length x.c)/\WY.cell? ⟨j,1,none⟩=some (.int V x.n)/\j<WY.heap.size):=⟨by rw[a4.out];exact xY F.out.1 be b3.out,F.out.2.1,F.out.2.2.1.gr ah.out,ba.out,F.out.2.2.2.2.1,k0,k1,nL F.out.2.2.2.2.2.2.2 ah.out.size⟩
         go_wp2
         go_roundw
         case rel=>exact ⟨m+1,M,by omega,by go_num,f⟩
         case measure=>simp[intOf];omega
     ·have cj:¬(m:Int)<(g.l.length:Int):=by omega
      have f:O (ek M (dJ ((a.take (k+1)).map Itm.z) (b.map Itm.z) cn v)/\M.length<=401/\OwnT wr w1.heap.size u12 M/\Z w1.heap.size w1 wr):=⟨by
       have:=F.out.1
       rw[List.take_of_length_le (by omega)] at this
       rw[hO.out.2.2.2];exact this,F.out.2.1,F.out.2.2.1,F.out.2.2.2.1⟩
      go_wp2
      go_roundw
      case rel=>exact ⟨k+1,M,by omega,by go_num,f⟩
      case measure=>simp[intOf];omega
  ·have dp:¬(k:Int)<(a.length:Int):=by omega
   obtain ⟨A2,cr,f3,cl,dl,_⟩:=hS.out.2.2.1.items
   have a9:O (L.map Itm.z=(dJ (a.map Itm.z) (b.map Itm.z) c v).take 401/\lF (a.map Itm.z) (b.map Itm.z) c v=bY ((dJ (a.map Itm.z) (b.map Itm.z) c v).take 401)):=by
    have h1:=hS.out.1
    rw[List.take_of_length_le (by omega)] at h1
    exact ⟨h1.1,by unfold lF;rw[if_pos h1.2]⟩
   have cB:=qN (W:=wr) (A:=A2) (c:=cr) (l:=L) ⟨dl,cl,by have:=hS.out.2.1;unfold maxLen;omega⟩ a9.out.1
   have hN:O _:=cB
   have cc:=ja1 (hR.out.bel.trans (hS.out.2.2.2.mono hR.out.bel.size))
   have em:O (bY ((dJ (a.map Itm.z) (b.map Itm.z) c v).take 401)=E):=by show _=_;rw[<-a9.out.2,cv.out]
   subst f3
   clear dl cl cB
   go_wp2_with fail
   refine ja0 hN ?_
   rintro e w2 ⟨L2,C2,k2,rfl,h1,h2,h3,h4⟩
   rw[em.out]
   have f:O (L2.map Itm.z=nU (a.map Itm.z) (b.map Itm.z) c v/\Lv w2 C2 k2 L2/\Z w.heap.size w w2/\NwT w2 k2 w.heap.size C2 L2):=by
    refine ⟨?_,h2,cc.out.trans (h3.mono cc.out.size),h4.mono cc.out.size⟩
    rw[h1]
    unfold nU
    rw[a9.out.2]
    by_cases e:bY ((dJ (a.map Itm.z) (b.map Itm.z) c v).take 401)=0
    ·rw[if_pos e]
    ·rw[if_neg e];exact nH e
   clear h1 h2 h3 h4 hN
   go_wp2
   go_ret2
   exact ⟨L2,C2,k2,rfl,f.out.1,f.out.2.1,f.out.2.2.1,f.out.2.2.2⟩

structure OneOk (s:Stp) (l:List Itm):Prop where
 len:l.length<=400
 ok:∀x∈l,okR x.r=true/\okW x.n=true
 k2:s.k=2->inB s.o 1 3=true/\∀x∈l,inB s.c 0 ((x.r.length:Int)-1)=true
 k3:s.k=3->s.l.length<=8/\∀x∈l,∀c∈s.l,inB c 0 ((x.r.length:Int)-1)=true
 k8:s.k=8->∀x∈l,inB s.c 0 ((x.r.length:Int)-1)=true
 k9:s.k=9->∀x∈l,inB s.c 0 ((x.r.length:Int)-1)=true/\inB s.v 0 ((x.r.length:Int)-1)=true

theorem BO (s:Stp) (l:List Itm) (A:Option K) (cap:Nat) (w:T) (h:s.k=2\/s.k=3\/s.k=8\/s.k=7\/s.k=9) (ho:OneOk s l) (hr:Items w A l) (hs:al w s.p s.l) :
  ia Y 262 #[.agg #[.int V s.k,.int V s.a,.int V s.b,.int V s.c,.int V s.o,.int V s.v,I s.p s.l.length s.n],I A l.length cap] w fun e w'=>∃(L:List Itm) (C:Option K) (k:Nat),e= X (I C L.length k)/\L.map Itm.z=eE s (l.map Itm.z)/\Lv w' C k L/\L.length<=400/\Z w.heap.size w w':=by
 have ad:O (Gr w (w.alloc (J #[.int V s.k,.int V s.a,.int V s.b,.int V s.c,.int V s.o,.int V s.v,I s.p s.l.length s.n] 136))):=(gR _).alloc _
 have j:O (OneOk s l/\Items w A l/\al w s.p s.l):=⟨ho,hr,hs⟩
 clear ho hr hs
 rcases h with h|h|h|h|h
 ·have g:=yq l A cap s.c s.o s.v (w.alloc (J #[.int V 2,.int V s.a,.int V s.b,.int V s.c,.int V s.o,.int V s.v,I s.p s.l.length s.n] 136)) j.out.1.len (j.out.2.1.gr ((gR _).alloc _)) (j.out.1.k2 h).2 (j.out.1.k2 h).1
  have hC:O _:=g
  have hF:O (eE s (l.map Itm.z)=dC (l.map Itm.z) s.c s.o s.v):=by show _=_;unfold eE;rw[if_pos h]
  clear g
  rw[h]
  clear h
  go_enter Tryz.func262,Tryz.ntmps262
  go_wp2_with fail
  refine ja0 hC ?_
  rintro e F ⟨L,C,k,rfl,r,u,R,E⟩
  have f:O (L.map Itm.z=eE s (l.map Itm.z)/\Lv F C k L/\Z w.heap.size w F):=⟨by rw[hF.out];exact r,u,((gR _).alloc _).below.trans (E.mono (by simp))⟩
  clear r u E
  go_wp2
  go_ret
  exact ⟨L,C,k,rfl,f.out.1,f.out.2.1,R,f.out.2.2⟩
 ·have g:=Aj l A s.p cap s.n s.l (w.alloc (J #[.int V 3,.int V s.a,.int V s.b,.int V s.c,.int V s.o,.int V s.v,I s.p s.l.length s.n] 136)) j.out.1.len (j.out.1.k3 h).1 (j.out.2.1.gr ((gR _).alloc _)) (j.out.2.2.gr ((gR _).alloc _)) (j.out.1.k3 h).2
  have hC:O _:=g
  have hF:O (eE s (l.map Itm.z)=gG (l.map Itm.z) s.l):=by show _=_;unfold eE;rw[if_neg (by omega),if_pos h]
  clear g
  rw[h]
  clear h
  go_enter Tryz.func262,Tryz.ntmps262
  go_wp2_with fail
  refine ja0 hC ?_
  rintro e F ⟨L,C,k,rfl,r,u,R,E⟩
  have f:O (L.map Itm.z=eE s (l.map Itm.z)/\Lv F C k L/\Z w.heap.size w F):=⟨by rw[hF.out];exact r,u,((gR _).alloc _).below.trans (E.mono (by simp))⟩
  clear r u E
  go_wp2
  go_ret
  exact ⟨L,C,k,rfl,f.out.1,f.out.2.1,R,f.out.2.2⟩
 ·have g:=wG l A cap s.c (w.alloc (J #[.int V 8,.int V s.a,.int V s.b,.int V s.c,.int V s.o,.int V s.v,I s.p s.l.length s.n] 136)) j.out.1.len (j.out.2.1.gr ((gR _).alloc _)) (j.out.1.k8 h) j.out.1.ok
  have hC:O _:=g
  have hF:O (eE s (l.map Itm.z)=mO (l.map Itm.z) s.c):=by show _=_;unfold eE;rw[if_neg (by omega),if_neg (by omega),if_neg (by omega),if_pos h]
  clear g
  rw[h]
  clear h
  go_enter Tryz.func262,Tryz.ntmps262
  go_wp2_with fail
  refine ja0 hC ?_
  rintro e F ⟨L,C,k,rfl,r,u,R,E⟩
  have f:O (L.map Itm.z=eE s (l.map Itm.z)/\Lv F C k L/\Z w.heap.size w F):=⟨by rw[hF.out];exact r,u,((gR _).alloc _).below.trans (E.mono (by simp))⟩
  clear r u E
  go_wp2
  go_ret
  exact ⟨L,C,k,rfl,f.out.1,f.out.2.1,R,f.out.2.2⟩
 ·have g:=zc l A cap (w.alloc (J #[.int V 7,.int V s.a,.int V s.b,.int V s.c,.int V s.o,.int V s.v,I s.p s.l.length s.n] 136)) j.out.1.len (j.out.2.1.gr ((gR _).alloc _))
  have hC:O _:=g
  have hF:O (eE s (l.map Itm.z)=gl (l.map Itm.z)):=by show _=_;unfold eE;rw[if_neg (by omega),if_neg (by omega),if_pos h]
  clear g
  rw[h]
  clear h
  go_enter Tryz.func262,Tryz.ntmps262
  go_wp2_with fail
  refine ja0 hC ?_
  rintro e F ⟨L,C,k,rfl,r,u,R,E⟩
  have f:O (L.map Itm.z=eE s (l.map Itm.z)/\Lv F C k L/\Z w.heap.size w F):=⟨by rw[hF.out];exact r,u,((gR _).alloc _).below.trans (E.mono (by simp))⟩
  clear r u E
  go_wp2
  go_ret
  exact ⟨L,C,k,rfl,f.out.1,f.out.2.1,R,f.out.2.2⟩
 ·have g:=AH l A cap s.c s.v (w.alloc (J #[.int V 9,.int V s.a,.int V s.b,.int V s.c,.int V s.o,.int V s.v,I s.p s.l.length s.n] 136)) j.out.1.len (j.out.2.1.gr ((gR _).alloc _)) (fun x hx=>(j.out.1.k9 h x hx).1) (fun x hx=>(j.out.1.k9 h x hx).2) j.out.1.ok
  have hC:O _:=g
  have hF:O (eE s (l.map Itm.z)=AG (l.map Itm.z) s.c s.v):=by show _=_;unfold eE;rw[if_neg (by omega),if_neg (by omega),if_neg (by omega),if_neg (by omega)]
  clear g
  rw[h]
  clear h
  go_enter Tryz.func262,Tryz.ntmps262
  go_wp2_with fail
  refine ja0 hC ?_
  rintro e F ⟨L,C,k,rfl,r,u,R,E⟩
  have f:O (L.map Itm.z=eE s (l.map Itm.z)/\Lv F C k L/\Z w.heap.size w F):=⟨by rw[hF.out];exact r,u,((gR _).alloc _).below.trans (E.mono (by simp))⟩
  clear r u E
  go_wp2
  go_ret
  exact ⟨L,C,k,rfl,f.out.1,f.out.2.1,R,f.out.2.2⟩

theorem A6 {b:List Zit} (h:aq b=0):iG b=fL b:=by unfold iG;rw[if_pos h];rfl
theorem ux (a b:List Itm) (A B:Option K) (ca cb:Nat) (w:T) (ha:Lv w A ca a) (hb:Lv w B cb b) (he:aq (b.map Itm.z)=0) :
  ia Y 261 #[I A a.length ca,I B b.length cb] w fun e w'=>∃(L:List Itm) (C:Option K) (k:Nat),e= X (ib #[I C L.length k,.int V (oK (a.map Itm.z) (b.map Itm.z))])/\L.map Itm.z=uh (a.map Itm.z) (b.map Itm.z)/\Lv w' C k L/\Z w.heap.size w w'/\NwT w' k w.heap.size C L:=by
 have u:=Ea hb (m:=b.map Itm.z) rfl
 have R:O _:=u
 have F:=ja2 ha he
 clear u ha hb
 rw[he] at R
 clear he
 go_enter Tryz.func261,Tryz.ntmps261
 go_wp2_with fail
 refine ja0 R ?_
 rintro e w1 ⟨L1,C1,k1,rfl,h,j,g⟩
 have r:=rm (F.out.1.below g) j (m:=a.map Itm.z) (n:=fL (b.map Itm.z)) rfl (by rw[h,A6 F.out.2])
 have hA:O _:=r
 have E:=ja1 g
 clear r h j g R
 go_wp2_with fail
 refine ja0 hA ?_
 rintro e w2 ⟨L,C,k,rfl,h,j,g,h4⟩
 have ad:=ja1 (h4.mono E.out.size)
 have f:O (aY (a.map Itm.z) (fL (b.map Itm.z))=oK (a.map Itm.z) (b.map Itm.z)/\L.map Itm.z=uh (a.map Itm.z) (b.map Itm.z)/\Lv w2 C k L/\Z w.heap.size w w2):=by
  have hm:oK (a.map Itm.z) (b.map Itm.z)=aY (a.map Itm.z) (fL (b.map Itm.z)):=by unfold oK;rw[if_pos F.out.2]
  refine ⟨hm.symm,?_,j,E.out.trans (g.mono E.out.size)⟩
  rw[h]
  unfold uh
  rw[hm]
  by_cases e:aY (a.map Itm.z) (fL (b.map Itm.z))=0
  ·rw[if_pos e]
  ·rw[if_neg e];unfold bw;rw[if_neg e]
 clear h j g h4 hA
 go_wp2
 go_ret2
 exact ⟨L,C,k,by rw[f.out.1];rfl,f.out.2.1,f.out.2.2.1,f.out.2.2.2,ad.out⟩
theorem Dp {W:T} {A B:Option K} {c d:Nat} {l r:List Itm} (h:Lv W A c l) (f:Lv W B d r) (g:aq (r.map Itm.z)=0) {m n:List Zit} (j:l.map Itm.z=m) (u:r.map Itm.z=n) :
  ia Y 261 #[I A l.length c,I B r.length d] W fun e w'=>∃(L:List Itm) (C:Option K) (k:Nat),e= X (ib #[I C L.length k,.int V (oK m n)])/\L.map Itm.z=uh m n/\Lv w' C k L/\Z W.heap.size W w'/\NwT w' k W.heap.size C L:=by
 subst j u
 exact ux l r A B c d W h f g
structure JoinOk (c v:Int) (l r:List Itm):Prop where
 la:l.length<=400
 lb:r.length<=400
 c:∀x∈l,inB c 0 ((x.r.length:Int)-1)=true
 v:∀x∈r,inB v 0 ((x.r.length:Int)-1)=true
 oa:∀x∈l,okR x.r=true/\okW x.n=true
 ob:∀x∈r,okR x.r=true/\okW x.n=true
theorem DZ {W:T} {A B:Option K} {c d:Nat} {l r:List Itm} {g v:Int} (h:Lv W A c l) (j:Lv W B d r) (f:JoinOk g v l r) {m n:List Zit} (u:l.map Itm.z=m) (E:r.map Itm.z=n) :
  ia Y 260 #[I A l.length c,I B r.length d,.int V g,.int V v] W fun e w'=>∃(L:List Itm) (C:Option K) (k:Nat),e= X (ib #[I C L.length k,.int V (lF m n g v)])/\L.map Itm.z=nU m n g v/\Lv w' C k L/\Z W.heap.size W w'/\NwT w' k W.heap.size C L:=by
 subst u E
 exact xN l r A B c d g v W f.la f.lb h j f.c f.v f.oa f.ob
end Go.Proofs.YtjmmpnmgpgaagaaGreatDoor

namespace Go.Proofs.YtjmmpnmgpgaagaaGreatDoor

theorem kr {s:Stp} {t:List Stp} {f:List Int} (h:(cK (s::t) f).isSome=true):aE s f≠0/\(cK t (f++[aE s f])).isSome=true:=by
 have g:(if aE s f=0 then none else cK t (f++[aE s f])).isSome=true:=h
 by_cases e:aE s f=0
 ·rw[if_pos e] at g;cases g
 ·rw[if_neg e] at g;exact ⟨e,g⟩
theorem ft {q:List Stp} (h:bu q=0):q≠[]/\q.length<=8/\(cK q []).isSome=true:=by
 unfold bu at h
 by_cases f:q.length=0
 ·rw[if_pos f] at h;cases h
 ·rw[if_neg f] at h
  by_cases g:8<q.length
  ·rw[if_pos g] at h;cases h
  ·rw[if_neg g] at h
   by_cases j:(cK q []).isSome=true
   ·exact ⟨fun e=>f (by rw[e];rfl),by omega,j⟩
   ·rw[if_neg j] at h;cases h
theorem vY {a b:List Zit} {s:Stp} {t:List Stp} {S:List (List Zit)} (h:jB a b (s::t) S=0):aT s a b S=0/\jB a b t (S++[aU s a b S])=0/\jQ a b (s::t) S=jQ a b t (S++[aU s a b S]):=by
 have f:(if aT s a b S=0 then jB a b t (S++[aU s a b S]) else aT s a b S)=0:=h
 by_cases e:aT s a b S=0
 ·rw[if_pos e] at f
  refine ⟨e,f,?_⟩
  show (if aT s a b S=0 then _ else [])=_
  rw[if_pos e]
 ·rw[if_neg e] at f;exact absurd f e
theorem l7 {a b:List Zit} (h:d9 4 a) (j:d9 4 b):∀(q:List Stp) (g:List Int) (S:List (List Zit)),(cK q g).isSome=true->Ahd S g->jB a b q S=0->∃f,Ahd (jQ a b q S) f/\(jQ a b q S).length=S.length+q.length
 | [],g,S,_,hS,_=>⟨g,hS,by simp[jQ]⟩
 | s::t,g,S,hw,hS,he=>by
  obtain ⟨u,C⟩:=kr hw
  obtain ⟨k,n,r⟩:=vY he
  obtain ⟨L,R⟩:=oh u hS h j k
  obtain ⟨f,E,F⟩:=l7 h j t _ _ C (hS.snoc L R) n
  rw[r]
  exact ⟨f,E,by rw[F];simp;omega⟩
def ei (q:List Stp) (a b:List Zit):List Zit:=(jE q a b).getD (q.length-1) []
theorem kh {q:List Stp} {a b:List Zit} (h:bM q a b=0):oA q a b=0/\jB a b q []=0/\jE q a b=jQ a b q []:=by
 have f:=h
 unfold bM at h
 by_cases e:oA q a b=0
 ·rw[if_pos e] at h
  exact ⟨e,h,by unfold jE;rw[if_pos f]⟩
 ·rw[if_neg e] at h;exact absurd h e
theorem dT {q:List Stp} {a b:List Zit} (h:oA q a b=0):bu q=0/\aq a=0/\aq b=0/\d9 4 a/\d9 4 b:=by
 unfold oA at h
 by_cases g:bu q=0
 ·rw[if_pos g] at h
  by_cases j:aq a=0
  ·rw[if_pos j] at h
   by_cases k:aq b=0
   ·rw[if_pos k] at h
    by_cases n:(a++b).all (fun x=>decide (x.1.length=4))=true
    ·have r:∀x∈a++b,x.1.length=4:=fun x f=>by simpa using List.all_eq_true.1 n x f
     exact ⟨g,j,k,fun x f=>by rw[r x (List.mem_append.2 (Or.inl f))];rfl,fun x f=>by rw[r x (List.mem_append.2 (Or.inr f))];rfl⟩
    ·rw[if_neg n] at h;cases h
   ·rw[if_neg k] at h;exact absurd h k
  ·rw[if_neg j] at h;exact absurd h j
 ·rw[if_neg g] at h;exact absurd h g
theorem wU {q:List Stp} {a b:List Zit} (h:bM q a b=0):aq (ei q a b)=0:=by
 obtain ⟨g,j,k⟩:=kh h
 obtain ⟨n,_,_,r,u⟩:=dT g
 obtain ⟨F,_,L⟩:=ft n
 obtain ⟨f,C,E⟩:=l7 r u q [] [] L Ahd.nil j
 have R:0<q.length:=List.length_pos_iff.2 F
 unfold ei
 rw[k]
 exact (C.ok _ (by rw[E];simp;omega)).1
end Go.Proofs.YtjmmpnmgpgaagaaGreatDoor
