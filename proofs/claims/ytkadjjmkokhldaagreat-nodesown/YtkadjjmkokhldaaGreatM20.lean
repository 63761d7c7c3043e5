/-
  plain.groupsBy.
  plain.count.
  plain.sumAt.
-/
import Derived.Test.YtkadjjmkokhldaaGreatM19
import Derived.Deep.RegionHeld3
import Derived.Deep.Cut
namespace Go.Proofs.YtkadjjmkokhldaaGreat
open Go.RowKit Go.Sort Go.Maps

theorem Gps.kept {w w':World} {B m:Nat} {v:Value} {gs:List Grp} (h:Gps w B v gs) (hg:w.grownBy w' (some m)) (hm:m<B):Gps w' B v gs:=by
 have k:∀ {α : Type} {enc: α → List Value} {n:Nat} {e:TypeId} {u:Value} {l:List α},OwnG enc n e w B u l→OwnG enc n e w' B u l:=fun {α enc n e u l} ho=>ho.keep hg (Or.inr (fun e2=>by have:=(World.ownsRow.lt ho m e2).1;omega))
 exact ⟨k h.own,fun g hg'=>k (h.each g hg'),h.apart⟩
theorem Below.kept {B m:Nat} {a w w':World} (h:Below B a w) (hg:w.grownBy w' (some m)) (hm:B≤m) (hs:B≤w.heap.size):Below B a w':=h.grown hg hs (fun j hj=>by cases hj;exact hm)
/-- What is carried through the rounds. -/
structure GInv (w wr:World) (l:List Itm) (c:Int) (k:Nat) (u:Value) (gs:List Grp) (D:DataW Unit):Prop where
 z:List.map Grp.z gs=grpL ((l.take k).map Itm.z) c
 gps:Gps wr (w.heap.size+1) u gs
 sub:∀g∈gs,g.l.length≤k∧∀x∈g.l,x∈l
 plc:Plc D gs
 map:wr.ownsMap Tryz.prog 3 (plainElem Tryz.prog 3) w.heap.size k D
 bel:Below w.heap.size w wr
 len:gs.length≤k
 size:w.heap.size+1≤wr.heap.size

/-- Ahead of the store of a round. -/
structure MidG (w W:World) (l:List Itm) (c:Int) (k G gc:Nat) (gs:List Grp) (i:Nat) (g:Grp) (D:DataW Unit) (x:Itm) (xb:Nat):Prop where
 gps:Gps W (w.heap.size+1) (.slice (some ⟨G,0,none⟩) gs.length gc) gs
 at_:gs[i]? = some g
 z:∀g':Grp,g'.n=g.n→g'.l=g.l++[x]→(gs.set i g').map Grp.z=grpL ((l.take (k+1)).map Itm.z) c
 sub:∀g∈gs,g.l.length≤k∧∀y∈g.l,y∈l
 xin:x∈l
 plc:Plc D gs
 map:W.ownsMap Tryz.prog 3 (plainElem Tryz.prog 3) w.heap.size (k+1) D
 bel:Below w.heap.size w W
 len:gs.length≤k+1
 size:w.heap.size+1≤W.heap.size
 blk:∀b,g.v.ownBlock=some b→b≠xb
 xlt:xb<W.heap.size
theorem MidG.hi {w W:World} {l:List Itm} {c:Int} {k G gc:Nat} {gs:List Grp} {i:Nat} {g:Grp} {D:DataW Unit} {x:Itm} {xb:Nat} (h:MidG w W l c k G gc gs i g D x xb):∃hi:i<gs.length,gs[i]=g:=by
 obtain ⟨hi,e⟩:=List.getElem?_eq_some_iff.1 h.at_
 exact ⟨hi,e⟩
theorem MidG.own {w W:World} {l:List Itm} {c:Int} {k G gc:Nat} {gs:List Grp} {i:Nat} {g:Grp} {D:DataW Unit} {x:Itm} {xb:Nat} (h:MidG w W l c k G gc gs i g D x xb):OwnG encT 2 90 W (w.heap.size+1) (.slice g.p g.l.length g.c) g.l:=by
 obtain ⟨hi,rfl⟩:=h.hi
 exact h.gps.each _ (List.getElem_mem hi)
theorem MidG.cell {w W:World} {l:List Itm} {c:Int} {k G gc:Nat} {gs:List Grp} {i:Nat} {g:Grp} {D:DataW Unit} {x:Itm} {xb:Nat} (h:MidG w W l c k G gc gs i g D x xb):W.cell? ⟨G,i*2+1,none⟩=some (.slice g.p g.l.length g.c)∧G<W.heap.size∧w.heap.size<G:=by
 obtain ⟨hi,rfl⟩:=h.hi
 obtain ⟨A,cp,hv,_,hr,hb⟩:=h.gps.own.row encP_len
 simp only[Value.slice.injEq] at hv
 obtain ⟨hA,_,_⟩:=hv
 subst hA
 obtain ⟨b,off,e,_,hc⟩:=hr.at hi
 cases e
 have:=hc i hi 1 (by omega)
 have h2:=hb _ rfl
 exact ⟨by simpa[encP,Grp.v] using this,h2.2,h2.1⟩
theorem MidG.done {w W:World} {l:List Itm} {c:Int} {k G gc:Nat} {gs:List Grp} {i:Nat} {g:Grp} {D:DataW Unit} {x:Itm} {xb:Nat} (h:MidG w W l c k G gc gs i g D x xb) {o:Obj} {w3:World} {C:Option Addr} {cc:Nat}
  (ho:OwnG encT 2 90 w3 (w.heap.size+1) (.slice C (g.l++[x]).length cc) (g.l++[x])) (hg:(W.alloc o).drew.grownBy w3 (Value.slice g.p g.l.length g.c).ownBlock) (hloc:(Value.slice C (g.l++[x]).length cc).ownBlock=(Value.slice g.p g.l.length g.c).ownBlock∨(Value.slice C (g.l++[x]).length cc).ownBlock=some (W.alloc o).drew.heap.size) :
  GInv w (w3.setCell ⟨G,i*2+1,none⟩ (.slice C (g.l++[x]).length cc)) l c (k+1) (.slice (some ⟨G,0,none⟩) gs.length gc) (gs.set i ⟨g.n,C,cc,g.l++[x]⟩) D:=by
 obtain ⟨_,hGl,hGw⟩:=h.cell
 obtain ⟨hi,hgi⟩:=h.hi
 have hgr:Gr W (W.alloc o).drew:=((Gr.refl _).alloc _).drew
 have hG':=h.gps.gr hgr
 have hown:=h.own
 have hlo:∀b,(Value.slice g.p g.l.length g.c).ownBlock=some b→w.heap.size<b:=fun b e=>(World.ownsRow.lt hown b e).1
 have hbel:Below w.heap.size w w3:=(h.bel.trans (hgr.below.mono h.bel.size)).grown hg (Nat.le_trans h.bel.size hgr.size) (fun j ej=>Nat.le_of_lt (hlo j ej))
 have hit:=hG'.item hi (g':=⟨g.n,C,cc,g.l++[x]⟩) (by rw[hgi]) ho (by rw[hgi];exact hg) (by rw[hgi];exact hloc) (G:=G) rfl
 refine ⟨h.z _ rfl rfl,hit,fun y hy=> ?_,h.plc.set hi (by rw[hgi]),?_,hbel.setCell (Nat.le_of_lt hGw) _,by rw[List.length_set];exact h.len,?_⟩
 ·rcases List.mem_or_eq_of_mem_set hy with k1|k1
  ·have:=h.sub y k1
   exact ⟨by omega,this.2⟩
  ·subst k1
   have:=h.sub g (by rw[←hgi];exact List.getElem_mem hi)
   refine ⟨by simp;omega,fun z hz=> ?_⟩
   rcases List.mem_append.1 hz with e|e
   ·exact this.2 z e
   ·rw[List.mem_singleton.1 e];exact h.xin
 ·have m1:=(h.map.alloc o).drew
  have m2:=m1.kept hg (fun e=>by have:=hlo _ e.symm;omega)
  exact m2.kept (grown_set _ _ _) (fun e=>by simp at e;omega)
 ·have h1:=h.size
  have h2:=hgr.size
  have h3:=hg.size
  simp[World.setCell]
  omega

set_option maxRecDepth 100000 in
set_option maxHeartbeats 2000000 in
theorem groups_any (l:List Itm) (A:Option Addr) (cap:Nat) (c:Int) (w:World) (hl:l.length≤400) (hr:Items w A l) (hc:∀x∈l,inB c 0 ((x.r.length:Int)-1)=true) (hok:∀x∈l,okR x.r=true) :
  Calls Tryz.prog 158 #[.slice A l.length cap,.int .i64 c] w fun e w'=>∃(gs:List Grp) (v:Value) (D:DataW Unit),e= .returned (.tuple #[v,.map (some w.heap.size)])∧GInv w w' l c l.length v gs D:=by
 have hrH:Hid (Items w A l):=hr
 have hcH:Hid (∀x∈l,inB c 0 ((x.r.length:Int)-1)=true):=hc
 have hkH:Hid (∀x∈l,okR x.r=true):=hok
 clear hr hc hok
 have hmm:= @run_makeMap Tryz.prog
 go_enter Tryz.func158,Tryz.ntmps158
 go_wp2
 go_loopw [6,16] (fun u i wr=>∃(k:Nat) (gs:List Grp) (D:DataW Unit),k≤l.length∧i= .int .i64 k∧Hid (GInv w wr l c k u gs D)) (fun _ i _=>l.length-(intOf i).toNat)
 case atStart=>exact ⟨0,[],.map [],Nat.zero_le _,rfl,show GInv _ _ _ _ _ _ _ _ from ⟨rfl,Gps.nil _ _,fun g hg=>(by cases hg),Plc.nil,World.ownsMap_made _ _ _ _,(Below.refl _ _).alloc (Nat.le_refl _) _,Nat.le_refl _,by simp⟩⟩
 case round =>
  obtain ⟨k,gs,D,hk,rfl,hR⟩:=hrel
  by_cases hlt:k<l.length
  ·have hltz:(k:Int)<(l.length:Int):=by omega
   have hI:Hid (Items wr A l):=hrH.out.below hR.out.bel
   obtain ⟨bb,off,rfl,hb,hcs⟩:=hI.out.at hlt
   obtain ⟨x,hx⟩:∃x,l[k]=x:=⟨_,rfl⟩
   obtain ⟨e0,e1⟩:=hcs k hlt
   rw[hx] at e0 e1
   have hxm:x∈l:=by rw[←hx];exact List.getElem_mem hlt
   obtain ⟨rb,ro,cn,hp,hrb,hcn,hcl,hcell⟩:=rowI_atI (hI.out.each x hxm).1 (hcH.out x hxm)
   have hst:Hid (grpL ((l.take (k+1)).map Itm.z) c=putG (grpL ((l.take k).map Itm.z) c) (atI x.r c) x.z):=by show _=_;rw[grpL_take hlt,hx]
   have hxH:Hid (x∈l):=hxm
   obtain ⟨nn,hnn⟩:∃nn,atI x.r c=nn:=⟨_,rfl⟩
   have hkey:keyOf Tryz.prog 3 (.int .i64 nn)=some (.int .i64 nn):=keyOf_int_mk Tryz.underlying3 (by rw[←hnn];exact wfN (okN_at (hkH.out x hxm)))
   rw[hnn] at hcell hst
   rw[hp] at e0
   have hgX:Hid (Gr wr (wr.alloc (.cells #[.slice (some ⟨rb,ro,none⟩) x.r.length x.c,.int .i64 x.n] 90))):=(Gr.refl _).alloc _
   have y0:(wr.alloc (.cells #[.slice (some ⟨rb,ro,none⟩) x.r.length x.c,.int .i64 x.n] 90)).cell? ⟨rb,ro+cn,none⟩=some (.int .i64 nn):=(hgX.out.cell (p:=⟨rb,ro+cn,none⟩) hrb).trans hcell
   have hcz:(cn:Int)<(x.r.length:Int):=by omega
   have hpH:Hid (x.p=some ⟨rb,ro,none⟩):=hp
   obtain rfl:=hcn
   clear hcs hx hxm hnn hp hcell hcl
   have hmp:Hid ((wr.alloc (.cells #[.slice (some ⟨rb,ro,none⟩) x.r.length x.c,.int .i64 x.n] 90)).ownsMap Tryz.prog 3 (plainElem Tryz.prog 3) w.heap.size k D):=hR.out.map.alloc _
   cases hhas:Maps.has D (.int .i64 nn)
   ·have hmore:Hid (Plc (D.put (.int .i64 nn) (.lit (.int .i64 gs.length))) (gs++[⟨nn,none,0,[]⟩])):=hR.out.plc.more hhas
    obtain ⟨GA,gcap,hu,hGn,hGr,hGb⟩:=hR.out.gps.own.row encP_len
    have hgl:(gs.length:Int)≤400:=by have:=hR.out.len;omega
    have huH:Hid (u6= .slice GA gs.length gcap):=hu
    have hoG:Hid (∀W,Below wr.heap.size wr W→Gps W (w.heap.size+1) (.slice GA gs.length gcap) gs):=fun W hW=>by rw[←huH.out];exact hR.out.gps.below hW
    subst hu
    clear hGn hGr hGb
    have hne:Hid (some wr.heap.size≠some w.heap.size):=fun e=>by have:=hR.out.size;simp at e;omega
    have hwl:(Lit.int .i64 gs.length).wf=true:=WalkArith.wf_i64 ⟨by omega,by omega⟩
    go_wp2_with (first
     | (at_lookup;refine wpList_lookup_own_ok_int _ rfl _ _ 208 rfl 3 3 .i64 lawI Tryz.underlying208 Tryz.underlying3 (zeroI _) w.heap.size k _ rfl hmp.out _ _ rfl hkey ?_;intro c' hat hwc)
     | (at_mapUpdate;refine wpList_mapUpdate_own _ rfl _ _ _ 208 rfl 3 3 lawI Tryz.underlying208 _ w.heap.size k _ rfl hmp.out (by unfold maxLen;omega) _ _ _ rfl rfl hkey _ [] (plainElem_int Tryz.underlying3 hwl) ?_;intro w1 hown1 hgrow1;have hG1:Hid (Gps (w1.alloc (.cells #[.int .i64 nn,.slice none 0 0] 212)) (w.heap.size+1) (.slice GA gs.length gcap) gs):=((hoG.out _ hgX.out.below).kept hgrow1 (Nat.lt_succ_self _)).gr ((Gr.refl _).alloc _);have hM1:Hid ((w1.alloc (.cells #[.int .i64 nn,.slice none 0 0] 212)).ownsMap Tryz.prog 3 (plainElem Tryz.prog 3) w.heap.size (k+1) (D.put (.int .i64 nn) (.lit (.int .i64 gs.length)))):=hown1.alloc _;have hB1:Hid (Below w.heap.size w w1∧w.heap.size+1≤w1.heap.size∧wr.heap.size<w1.heap.size):=⟨Below.kept (hR.out.bel.trans (hgX.out.below.mono hR.out.bel.size)) hgrow1 (Nat.le_refl _) (Nat.le_trans hR.out.bel.size hgX.out.size),Nat.le_trans hR.out.size (Nat.le_trans hgX.out.size hgrow1.size),Nat.lt_of_lt_of_le (by simp) hgrow1.size⟩;have hX1:Hid (w1.cell? ⟨wr.heap.size,0,none⟩=some (.slice (some ⟨rb,ro,none⟩) x.r.length x.c)∧w1.cell? ⟨wr.heap.size,1,none⟩=some (.int .i64 x.n)):=⟨(World.cell?_of_block (a:=⟨wr.heap.size,0,none⟩) (hgrow1.block _ (by simp) (hne.out))).trans (box1 (Gr.refl _) rfl),(World.cell?_of_block (a:=⟨wr.heap.size,1,none⟩) (hgrow1.block _ (by simp) (hne.out))).trans (box1 (Gr.refl _) rfl)⟩;have hX2:Hid (w1.heap[wr.heap.size]? = some (.cells #[.slice (some ⟨rb,ro,none⟩) x.r.length x.c,.int .i64 x.n] 90)):=(hgrow1.block _ (by simp) hne.out).trans (MapKept.heap_alloc _ _).1;clear hown1 hgrow1)
     | (at_builtin;refine wpList_append_p _ rfl (.tmp 38) (.tmp 41) rfl (w.heap.size+1) (.slice GA gs.length gcap) gs [⟨nn,none,0,[]⟩] (some ⟨w1.heap.size,0,none⟩) 1 rfl rfl hG1.out.own (rowNewP rfl nn _) (fun h=>by cases h) (by unfold maxLen;simp;omega) (by simp;omega) (Nat.le_trans hB1.out.2.1 (by simp)) ?_;intro v2 w2 hown2 hg2)
     | fail)
    obtain ⟨GA2,gc,hv2,_,hr2,_,hb2,_⟩:=hown2.full encP_len
    obtain ⟨G,gof,hGA,_,_⟩:=hr2.at (m:=0) (by simp)
    subst hGA
    have hof:gof=0:=(hb2 _ rfl).2.2.1
    subst hof
    subst hv2
    have hxne:some wr.heap.size≠(Value.slice GA gs.length gcap).ownBlock:=fun e=>by
     have:=(World.ownsRow.lt hR.out.gps.own wr.heap.size e.symm).2
     omega
    have xc0:w2.cell? ⟨wr.heap.size,0,none⟩=some (.slice (some ⟨rb,ro,none⟩) x.r.length x.c):=(World.cell?_of_block (a:=⟨wr.heap.size,0,none⟩) (hg2.block _ (Nat.lt_of_lt_of_le hB1.out.2.2 (by simp)) hxne)).trans ((((Gr.refl _).alloc _).below.cell (p:=⟨wr.heap.size,0,none⟩) hB1.out.2.2).trans hX1.out.1)
    have xc1:w2.cell? ⟨wr.heap.size,1,none⟩=some (.int .i64 x.n):=(World.cell?_of_block (a:=⟨wr.heap.size,1,none⟩) (hg2.block _ (Nat.lt_of_lt_of_le hB1.out.2.2 (by simp)) hxne)).trans ((((Gr.refl _).alloc _).below.cell (p:=⟨wr.heap.size,1,none⟩) hB1.out.2.2).trans hX1.out.2)
    obtain ⟨g,hg_⟩:∃g:Grp,g=⟨nn,none,0,[]⟩:=⟨_,rfl⟩
    obtain ⟨D2,hD2⟩:∃D2,D.put (.int .i64 nn) (.lit (.int .i64 gs.length))=D2:=⟨_,rfl⟩
    have hMid:Hid (MidG w w2 l cn k G gc (gs++[⟨nn,none,0,[]⟩]) gs.length g D2 x wr.heap.size):=by
     refine ⟨hG1.out.more hown2 hg2,by rw[hg_];simp,fun g' hn hl'=> ?_,fun y hy=> ?_,hxH.out,by rw[←hD2];exact hmore.out,?_,?_,by have:=hR.out.len;simp;omega,?_,(fun b hb=>(by rw[hg_] at hb;cases hb)),?_⟩
     ·rw[hst.out,←hR.out.z,putG_new]
      ·rw[hg_] at hn hl'
       rw[List.set_append_right _ _ (Nat.le_refl _)]
       simp[Grp.z,hn,hl']
      ·intro y hy
       obtain ⟨g2,hg2',rfl⟩:=List.mem_map.1 hy
       intro e
       have h1:=hR.out.plc.has nn
       rw[hhas] at h1
       have:=List.any_eq_false.1 h1.symm g2 hg2'
       simp at this
       exact this e
     ·rcases List.mem_append.1 hy with e|e
      ·exact hR.out.sub y e
      ·rw[List.mem_singleton.1 e];exact ⟨Nat.zero_le _,fun z hz=>by cases hz⟩
     ·rw[←hD2]
      exact hM1.out.kept hg2 (fun e=>by have:=(World.ownsRow.lt hG1.out.own _ e.symm).1;omega)
     ·exact (hB1.out.1.alloc hB1.out.1.size _).grown hg2 (Nat.le_trans hB1.out.1.size (by simp)) (fun j ej=>by have:=(World.ownsRow.lt hG1.out.own _ ej).1;omega)
     ·exact Nat.le_trans hB1.out.2.1 (Nat.le_trans (by simp) hg2.size)
     ·exact Nat.lt_of_lt_of_le hB1.out.2.2 (Nat.le_trans (by simp) hg2.size)
    have hGx:Hid (G≠wr.heap.size):=fun e=>by
     have h1:=hown2
     rcases h1.2 with ⟨hv,_⟩|⟨g2,cap2,cur2,hv,_,hgc,_⟩
     ·cases hv
     ·have e2:G=g2:=by have h3:=hv;simp at h3;exact h3.1
      subst e2
      subst e
      have h2:=((hg2.block _ (Nat.lt_of_lt_of_le hB1.out.2.2 (by simp)) hxne).trans (Below.heap_alloc _ _ _ hB1.out.2.2)).trans hX2.out
      rw[hgc] at h2
      simp at h2
    obtain ⟨gs2,hgs2⟩:∃gs2,gs++[(⟨nn,none,0,[]⟩:Grp)]=gs2:=⟨_,rfl⟩
    rw[hgs2] at hMid ⊢
    obtain ⟨i,hi_⟩:∃i,gs.length=i:=⟨_,rfl⟩
    obtain ⟨xb,hxb⟩:∃xb,wr.heap.size=xb:=⟨_,rfl⟩
    rw[hi_] at hMid ⊢
    rw[hxb] at hMid xc0 xc1 hGx ⊢
    clear hown2 hg2 hr2 hb2 hxne hg_ hD2 hgs2 hG1 hM1 hB1 hX1 hX2 hmp hmore hhas hat hwc hkey y0 e0 e1 hi_ hxb huH hoG hne hgX hI
    have hcl:=hMid.out.cell
    have e6:w2.cell? ⟨G,i*2+1,none⟩=some (.slice g.p g.l.length g.c):=hcl.1
    have hGlt:Hid (G<w2.heap.size∧w.heap.size<G):=hcl.2
    obtain ⟨hiN,hzz⟩:=hMid.out.hi
    have hiz:(i:Int)<(gs2.length:Int):=by omega
    have hlenG:Hid (g.l.length≤k):=(hMid.out.sub g (by obtain ⟨a,b⟩:=hMid.out.hi;rw[←b];exact List.getElem_mem a)).1
    have hgA:Hid (Gr w2 (w2.alloc (.cells #[.slice (some ⟨rb,ro,none⟩) x.r.length x.c,.int .i64 x.n] 90)).drew):=((Gr.refl _).alloc _).drew
    have hKeep:Hid (∀W',Gr w2 W'→(fun w'=>w'.cell? ⟨G,i*2+1,none⟩=some (.slice g.p g.l.length g.c)∧w'.cell? ⟨xb,0,none⟩=some (.slice (some ⟨rb,ro,none⟩) x.r.length x.c)∧w'.cell? ⟨xb,1,none⟩=some (.int .i64 x.n)) W'):=fun W' h=>⟨(h.below.cell (p:=⟨G,i*2+1,none⟩) hGlt.out.1).trans e6,(h.below.cell (p:=⟨xb,0,none⟩) hMid.out.xlt).trans xc0,(h.below.cell (p:=⟨xb,1,none⟩) hMid.out.xlt).trans xc1⟩
    have hgD:Hid (Gr w2 w2.drew):=(Gr.refl _).drew
    have hoX:Hid (OwnG encT 2 90 (w2.alloc (.cells #[.slice (some ⟨rb,ro,none⟩) x.r.length x.c,.int .i64 x.n] 90)).drew (w.heap.size+1) (.slice g.p g.l.length g.c) g.l∧RowG encT 2 (w2.alloc (.cells #[.slice (some ⟨rb,ro,none⟩) x.r.length x.c,.int .i64 x.n] 90)).drew (some ⟨w2.heap.size,0,none⟩) [x]∧g.l.length+1≤maxLen∧(g.l.length+1)*32≤140737488355328∧w.heap.size+1≤(w2.alloc (.cells #[.slice (some ⟨rb,ro,none⟩) x.r.length x.c,.int .i64 x.n] 90)).drew.heap.size):=by
     have h1:=hlenG.out
     refine ⟨hMid.out.own.gr hgA.out,?_,by unfold maxLen;omega,by omega,Nat.le_trans hMid.out.size hgA.out.size⟩
     rw[←hpH.out]
     exact (rowNewT rfl x _).gr (Gr.refl _).drew
    have hbg:Hid (some G≠(Value.slice g.p g.l.length g.c).ownBlock):=fun e=>by
     rcases own_ne hMid.out.own hMid.out.gps.own (by decide) with k1|k1
     ·rw[k1] at e;cases e
     ·exact k1 (by rw[←e];rfl)
    have hxG:Hid ((⟨G,i*2+1,none⟩:Addr)≠⟨xb,0,none⟩∧(⟨G,i*2+1,none⟩:Addr)≠⟨xb,1,none⟩):=⟨fun e=>hGx.out (by injection e),fun e=>hGx.out (by injection e)⟩
    have hS3:Hid (∀w3,(w2.alloc (.cells #[.slice (some ⟨rb,ro,none⟩) x.r.length x.c,.int .i64 x.n] 90)).drew.grownBy w3 (Value.slice g.p g.l.length g.c).ownBlock→(fun w'=>w'.cell? ⟨G,i*2+1,none⟩=some (.slice g.p g.l.length g.c)∧w'.cell? ⟨xb,0,none⟩=some (.slice (some ⟨rb,ro,none⟩) x.r.length x.c)∧w'.cell? ⟨xb,1,none⟩=some (.int .i64 x.n)) w3):=fun w3 hg3=>by
     have hk:=hKeep.out _ hgA.out
     have hbx:some xb≠(Value.slice g.p g.l.length g.c).ownBlock:=fun e=>hMid.out.blk xb e.symm rfl
     have l1:xb<(w2.alloc (.cells #[.slice (some ⟨rb,ro,none⟩) x.r.length x.c,.int .i64 x.n] 90)).drew.heap.size:=Nat.lt_of_lt_of_le hMid.out.xlt hgA.out.size
     have l2:G<(w2.alloc (.cells #[.slice (some ⟨rb,ro,none⟩) x.r.length x.c,.int .i64 x.n] 90)).drew.heap.size:=Nat.lt_of_lt_of_le hGlt.out.1 hgA.out.size
     exact ⟨(World.cell?_of_block (a:=⟨G,i*2+1,none⟩) (hg3.block _ l2 hbg.out)).trans hk.1,(World.cell?_of_block (a:=⟨xb,0,none⟩) (hg3.block _ l1 hbx)).trans hk.2.1,(World.cell?_of_block (a:=⟨xb,1,none⟩) (hg3.block _ l1 hbx)).trans hk.2.2⟩
    have hF3:Hid (∀w3,(w2.alloc (.cells #[.slice (some ⟨rb,ro,none⟩) x.r.length x.c,.int .i64 x.n] 90)).drew.grownBy w3 (Value.slice g.p g.l.length g.c).ownBlock→w3.frozen? ⟨G,i*2+1,none⟩=false):=fun w3 hg3=>by
     have k1:=(hMid.out.gps.own.gr hgA.out).keep hg3 (own_ne hMid.out.gps.own hMid.out.own (by decide))
     obtain ⟨A2,cp,hv,_,_,_,_,hz⟩:=k1.full encP_len
     simp only[Value.slice.injEq] at hv
     exact hz _ hv.1.symm _
    have e6a:w2.drew.cell? ⟨G,i*2+1,none⟩=some (.slice g.p g.l.length g.c):=(hKeep.out _ hgD.out).1
    have e6b:(w2.alloc (.cells #[.slice (some ⟨rb,ro,none⟩) x.r.length x.c,.int .i64 x.n] 90)).drew.cell? ⟨G,i*2+1,none⟩=some (.slice g.p g.l.length g.c):=(hKeep.out _ hgA.out).1
    clear hcl hzz hiN
    refine wp_region_noPanic ?_
    refine wp_region_held_drew (S:=(fun w'=>w'.cell? ⟨xb,0,none⟩=some (.slice (some ⟨rb,ro,none⟩) x.r.length x.c)∧w'.cell? ⟨xb,1,none⟩=some (.int .i64 x.n))) (by kernel_rfl) ((hKeep.out _ hgD.out).2) (fun hHeld=> ?_)
    refine wpAnyH_take (i:=0) (oi:= ?oip1) (v:= ?vp1) ?hopp1 ?hsp1 ?hfp1 ?hrp1 ?hQp1 ?hyp1 (by assumption) ?restp1
    case hopp1=>(simp only[List.getElem?_toArray,List.getElem?_cons_zero];rfl)
    case hsp1=>kernel_rfl
    case hfp1=>kernel_rfl
    case hrp1=>kernel_rfl
    case hQp1=>exact fun _ _ _ h=>h
    case hyp1=>(refine Or.inl ⟨by rfl,?_⟩;intro w hSw;(try dsimp only at hSw);go_simp<;>with_reducible rfl)
    try simp only[Act.put,List.setIfInBounds_toArray,List.set_cons_zero,List.set_cons_succ]
    refine wpAnyH_take (i:=1) (oi:= ?oip2) (v:= ?vp2) ?hopp2 ?hsp2 ?hfp2 ?hrp2 ?hQp2 ?hyp2 (by assumption) ?restp2
    case hopp2=>(simp only[List.getElem?_toArray,List.getElem?_cons_zero,List.getElem?_cons_succ];rfl)
    case hsp2=>kernel_rfl
    case hfp2=>kernel_rfl
    case hrp2=>kernel_rfl
    case hQp2=>exact fun _ _ _ h=>h
    case hyp2=>(refine Or.inl ⟨by rfl,?_⟩;intro w hSw;(try dsimp only at hSw);go_simp<;>with_reducible rfl)
    try simp only[Act.put,List.setIfInBounds_toArray,List.set_cons_zero,List.set_cons_succ]
    refine wpAnyH_take (i:=2) (oi:= ?oip3) (v:= ?vp3) ?hopp3 ?hsp3 ?hfp3 ?hrp3 ?hQp3 ?hyp3 (by assumption) ?restp3
    case hopp3=>(simp only[List.getElem?_toArray,List.getElem?_cons_zero,List.getElem?_cons_succ];rfl)
    case hsp3=>kernel_rfl
    case hfp3=>kernel_rfl
    case hrp3=>kernel_rfl
    case hQp3=>exact fun _ _ _ h=>h
    case hyp3=>(refine Or.inl ⟨by rfl,?_⟩;intro w hSw;(try dsimp only at hSw);go_simp<;>with_reducible rfl)
    try simp only[Act.put,List.setIfInBounds_toArray,List.set_cons_zero,List.set_cons_succ]
    refine wpAnyH_take (i:=3) (oi:= ?oip4) (v:= ?vp4) ?hopp4 ?hsp4 ?hfp4 ?hrp4 ?hQp4 ?hyp4 (by assumption) ?restp4
    case hopp4=>(simp only[List.getElem?_toArray,List.getElem?_cons_zero,List.getElem?_cons_succ];rfl)
    case hsp4=>kernel_rfl
    case hfp4=>kernel_rfl
    case hrp4=>kernel_rfl
    case hQp4=>exact fun _ _ _ h=>h
    case hyp4=>(refine Or.inl ⟨by rfl,?_⟩;intro w hSw;(try dsimp only at hSw);go_simp<;>with_reducible rfl)
    try simp only[Act.put,List.setIfInBounds_toArray,List.set_cons_zero,List.set_cons_succ]
    refine wpAnyH_take (i:=4) (oi:= ?oip5) (v:= ?vp5) ?hopp5 ?hsp5 ?hfp5 ?hrp5 ?hQp5 ?hyp5 (by assumption) ?restp5
    case hopp5=>(simp only[List.getElem?_toArray,List.getElem?_cons_zero,List.getElem?_cons_succ];rfl)
    case hsp5=>kernel_rfl
    case hfp5=>kernel_rfl
    case hrp5=>kernel_rfl
    case hQp5=>exact fun _ _ _ h=>h
    case hyp5=>(refine Or.inl ⟨by rfl,?_⟩;intro w hSw;(try dsimp only at hSw);go_simp<;>with_reducible rfl)
    try simp only[Act.put,List.setIfInBounds_toArray,List.set_cons_zero,List.set_cons_succ]
    refine wpAnyH_take (i:=5) (oi:= ?oip6) (v:= ?vp6) ?hopp6 ?hsp6 ?hfp6 ?hrp6 ?hQp6 ?hyp6 (by assumption) ?restp6
    case hopp6=>(simp only[List.getElem?_toArray,List.getElem?_cons_zero,List.getElem?_cons_succ];rfl)
    case hsp6=>kernel_rfl
    case hfp6=>kernel_rfl
    case hrp6=>kernel_rfl
    case hQp6=>exact fun _ _ _ h=>h
    case hyp6=>(refine Or.inl ⟨by rfl,?_⟩;intro w hSw;(try dsimp only at hSw);go_simp<;>with_reducible rfl)
    try simp only[Act.put,List.setIfInBounds_toArray,List.set_cons_zero,List.set_cons_succ]
    refine wpAnyH_take (i:=7) (oi:= ?oip7) (v:= ?vp7) ?hopp7 ?hsp7 ?hfp7 ?hrp7 ?hQp7 ?hyp7 (by assumption) ?restp7
    case hopp7=>(simp only[List.getElem?_toArray,List.getElem?_cons_zero,List.getElem?_cons_succ];rfl)
    case hsp7=>kernel_rfl
    case hfp7=>kernel_rfl
    case hrp7=>kernel_rfl
    case hQp7=>exact fun _ _ _ h=>h
    case hyp7=>(refine Or.inl ⟨by rfl,?_⟩;intro w hSw;(try dsimp only at hSw);go_simp<;>with_reducible rfl)
    try simp only[Act.put,List.setIfInBounds_toArray,List.set_cons_zero,List.set_cons_succ]
    refine wpAnyH_ready (rs:=[6,8]) (by kernel_rfl) (by simp) ?_
    refine AllReadyH.cons (o:= ?oip8) ?hopp8 (fun K hK=> ?stepp8) ?morep8
    case hopp8=>(simp only[List.getElem?_toArray,List.getElem?_cons_zero,List.getElem?_cons_succ];rfl)
    case morep8 =>
     refine AllReadyH.cons (o:= ?oip9) ?hopp9 (fun K hK=> ?stepp9) ?morep9
     case hopp9=>(simp only[List.getElem?_toArray,List.getElem?_cons_zero,List.getElem?_cons_succ];rfl)
     case morep9=>exact AllReadyH.nil
     go_simp
     refine hK.out _ _ ?_ (fun hHeld=> ?_)
     ·(try dsimp only);first|with_reducible exact (hKeep.out _ hgD.out).2|with_reducible exact (hKeep.out _ hgA.out).2|with_reducible exact hk3.out|exact hk4.out _|exact (hKeep.out _ hgA.out).2
     clear hK K
     try simp only[Act.put,List.setIfInBounds_toArray,List.set_cons_zero,List.set_cons_succ]
     refine wpAnyH_ready (rs:=[6]) (by kernel_rfl) (by simp) ?_
     refine AllReadyH.cons (o:= ?oip10) ?hopp10 (fun K hK=> ?stepp10) ?morep10
     case hopp10=>(simp only[List.getElem?_toArray,List.getElem?_cons_zero,List.getElem?_cons_succ];rfl)
     case morep10=>exact AllReadyH.nil
     go_simp
     refine hK.out _ _ ?_ (fun hHeld=> ?_)
     ·(try dsimp only);first|with_reducible exact (hKeep.out _ hgD.out).2|with_reducible exact (hKeep.out _ hgA.out).2|with_reducible exact hk3.out|exact hk4.out _|exact (hKeep.out _ hgA.out).2
     clear hK K
     try simp only[Act.put,List.setIfInBounds_toArray,List.set_cons_zero,List.set_cons_succ]
     refine wpAnyH_ready (rs:=[9]) (by kernel_rfl) (by simp) ?_
     refine AllReadyH.cons (o:= ?oip11) ?hopp11 (fun K hK=> ?stepp11) ?morep11
     case hopp11=>(simp only[List.getElem?_toArray,List.getElem?_cons_zero,List.getElem?_cons_succ];rfl)
     case morep11=>exact AllReadyH.nil
     (refine step_append_l _ rfl (.tmp 49) (.tmp 51) rfl (w.heap.size+1) (.slice g.p g.l.length g.c) g.l x ⟨w2.heap.size,0,none⟩ 1 rfl rfl hoX.out.1 hoX.out.2.1 hoX.out.2.2.1 hoX.out.2.2.2.1 hoX.out.2.2.2.2 ?_;intro v3 w3 hown3 hg3 hloc3;have hk3:Hid (w3.cell? ⟨xb,0,none⟩=some (.slice (some ⟨rb,ro,none⟩) x.r.length x.c)∧w3.cell? ⟨xb,1,none⟩=some (.int .i64 x.n)):=((hS3.out w3 hg3).2);have hf3:w3.frozen? ⟨G,i*2+1,none⟩=false:=hF3.out w3 hg3;have hc3:w3.cell? ⟨G,i*2+1,none⟩=some (.slice g.p g.l.length g.c):=(hS3.out w3 hg3).1;obtain ⟨C,cc,hv3,_,_,_⟩:=hown3.row encT_len;subst hv3;have hfinal:Hid (GInv w (w3.setCell ⟨G,i*2+1,none⟩ (.slice C (g.l.length+1) cc)) l cn (k+1) (.slice (some ⟨G,0,none⟩) gs2.length gc) (gs2.set i ⟨g.n,C,cc,g.l++[x]⟩) D2):=(by have h:=hMid.out.done hown3 hg3 hloc3;rw[List.length_append] at h;exact h);have hk4:Hid (∀u,(w3.setCell ⟨G,i*2+1,none⟩ u).cell? ⟨xb,0,none⟩=some (.slice (some ⟨rb,ro,none⟩) x.r.length x.c)∧(w3.setCell ⟨G,i*2+1,none⟩ u).cell? ⟨xb,1,none⟩=some (.int .i64 x.n)):=(fun u=>⟨(World.cell?_setCell_other _ _ _ _ hxG.out.1).trans hk3.out.1,(World.cell?_setCell_other _ _ _ _ hxG.out.2).trans hk3.out.2⟩);clear hown3 hg3 hloc3)
     refine hK.out _ _ ?_ (fun hHeld=> ?_)
     ·(try dsimp only);first|with_reducible exact (hKeep.out _ hgD.out).2|with_reducible exact (hKeep.out _ hgA.out).2|with_reducible exact hk3.out|exact hk4.out _|exact (hKeep.out _ hgA.out).2
     clear hK K
     try simp only[Act.put,List.setIfInBounds_toArray,List.set_cons_zero,List.set_cons_succ]
     refine wpAnyH_take (i:=10) (oi:= ?oip12) (v:= ?vp12) ?hopp12 ?hsp12 ?hfp12 ?hrp12 ?hQp12 ?hyp12 (by assumption) ?restp12
     case hopp12=>(simp only[List.getElem?_toArray,List.getElem?_cons_zero,List.getElem?_cons_succ];rfl)
     case hsp12=>kernel_rfl
     case hfp12=>kernel_rfl
     case hrp12=>kernel_rfl
     case hQp12=>exact fun _ _ _ h=>h
     case hyp12=>(refine Or.inl ⟨by rfl,?_⟩;intro w hSw;(try dsimp only at hSw);go_simp<;>with_reducible rfl)
     try simp only[Act.put,List.setIfInBounds_toArray,List.set_cons_zero,List.set_cons_succ]
     refine wpAnyH_take (i:=11) (oi:= ?oip13) (v:= ?vp13) ?hopp13 ?hsp13 ?hfp13 ?hrp13 ?hQp13 ?hyp13 (by assumption) ?restp13
     case hopp13=>(simp only[List.getElem?_toArray,List.getElem?_cons_zero,List.getElem?_cons_succ];rfl)
     case hsp13=>kernel_rfl
     case hfp13=>kernel_rfl
     case hrp13=>kernel_rfl
     case hQp13=>exact fun _ _ _ h=>h
     case hyp13=>(refine Or.inl ⟨by rfl,?_⟩;intro w hSw;(try dsimp only at hSw);go_simp<;>with_reducible rfl)
     try simp only[Act.put,List.setIfInBounds_toArray,List.set_cons_zero,List.set_cons_succ]
     refine wpAnyH_ready (rs:=[12]) (by kernel_rfl) (by simp) ?_
     refine AllReadyH.cons (o:= ?oip14) ?hopp14 (fun K hK=> ?stepp14) ?morep14
     case hopp14=>(simp only[List.getElem?_toArray,List.getElem?_cons_zero,List.getElem?_cons_succ];rfl)
     case morep14=>exact AllReadyH.nil
     go_simp
     refine hK.out _ _ ?_ (fun hHeld=> ?_)
     ·(try dsimp only);first|with_reducible exact (hKeep.out _ hgD.out).2|with_reducible exact (hKeep.out _ hgA.out).2|with_reducible exact hk3.out|exact hk4.out _|exact (hKeep.out _ hgA.out).2
     clear hK K
     try simp only[Act.put,List.setIfInBounds_toArray,List.set_cons_zero,List.set_cons_succ]
     refine wpAnyH_done (by kernel_rfl) ?_ _
     refine NoPanic.normal ?_
     go_wp2
     go_roundw
     case rel=>exact ⟨k+1,gs2.set i ⟨g.n,C,cc,g.l++[x]⟩,D2,by omega,by go_num,hfinal⟩
     case measure=>simp[intOf];omega
    go_simp
    refine hK.out _ _ ?_ (fun hHeld=> ?_)
    ·(try dsimp only);first|with_reducible exact (hKeep.out _ hgD.out).2|with_reducible exact (hKeep.out _ hgA.out).2|with_reducible exact hk3.out|exact hk4.out _|exact (hKeep.out _ hgA.out).2
    clear hK K
    try simp only[Act.put,List.setIfInBounds_toArray,List.set_cons_zero,List.set_cons_succ]
    refine wpAnyH_ready (rs:=[8]) (by kernel_rfl) (by simp) ?_
    refine AllReadyH.cons (o:= ?oip15) ?hopp15 (fun K hK=> ?stepp15) ?morep15
    case hopp15=>(simp only[List.getElem?_toArray,List.getElem?_cons_zero,List.getElem?_cons_succ];rfl)
    case morep15=>exact AllReadyH.nil
    go_simp
    refine hK.out _ _ ?_ (fun hHeld=> ?_)
    ·(try dsimp only);first|with_reducible exact (hKeep.out _ hgD.out).2|with_reducible exact (hKeep.out _ hgA.out).2|with_reducible exact hk3.out|exact hk4.out _|exact (hKeep.out _ hgA.out).2
    clear hK K
    try simp only[Act.put,List.setIfInBounds_toArray,List.set_cons_zero,List.set_cons_succ]
    refine wpAnyH_ready (rs:=[9]) (by kernel_rfl) (by simp) ?_
    refine AllReadyH.cons (o:= ?oip16) ?hopp16 (fun K hK=> ?stepp16) ?morep16
    case hopp16=>(simp only[List.getElem?_toArray,List.getElem?_cons_zero,List.getElem?_cons_succ];rfl)
    case morep16=>exact AllReadyH.nil
    (refine step_append_l _ rfl (.tmp 49) (.tmp 51) rfl (w.heap.size+1) (.slice g.p g.l.length g.c) g.l x ⟨w2.heap.size,0,none⟩ 1 rfl rfl hoX.out.1 hoX.out.2.1 hoX.out.2.2.1 hoX.out.2.2.2.1 hoX.out.2.2.2.2 ?_;intro v3 w3 hown3 hg3 hloc3;have hk3:Hid (w3.cell? ⟨xb,0,none⟩=some (.slice (some ⟨rb,ro,none⟩) x.r.length x.c)∧w3.cell? ⟨xb,1,none⟩=some (.int .i64 x.n)):=((hS3.out w3 hg3).2);have hf3:w3.frozen? ⟨G,i*2+1,none⟩=false:=hF3.out w3 hg3;have hc3:w3.cell? ⟨G,i*2+1,none⟩=some (.slice g.p g.l.length g.c):=(hS3.out w3 hg3).1;obtain ⟨C,cc,hv3,_,_,_⟩:=hown3.row encT_len;subst hv3;have hfinal:Hid (GInv w (w3.setCell ⟨G,i*2+1,none⟩ (.slice C (g.l.length+1) cc)) l cn (k+1) (.slice (some ⟨G,0,none⟩) gs2.length gc) (gs2.set i ⟨g.n,C,cc,g.l++[x]⟩) D2):=(by have h:=hMid.out.done hown3 hg3 hloc3;rw[List.length_append] at h;exact h);have hk4:Hid (∀u,(w3.setCell ⟨G,i*2+1,none⟩ u).cell? ⟨xb,0,none⟩=some (.slice (some ⟨rb,ro,none⟩) x.r.length x.c)∧(w3.setCell ⟨G,i*2+1,none⟩ u).cell? ⟨xb,1,none⟩=some (.int .i64 x.n)):=(fun u=>⟨(World.cell?_setCell_other _ _ _ _ hxG.out.1).trans hk3.out.1,(World.cell?_setCell_other _ _ _ _ hxG.out.2).trans hk3.out.2⟩);clear hown3 hg3 hloc3)
    refine hK.out _ _ ?_ (fun hHeld=> ?_)
    ·(try dsimp only);first|with_reducible exact (hKeep.out _ hgD.out).2|with_reducible exact (hKeep.out _ hgA.out).2|with_reducible exact hk3.out|exact hk4.out _|exact (hKeep.out _ hgA.out).2
    clear hK K
    try simp only[Act.put,List.setIfInBounds_toArray,List.set_cons_zero,List.set_cons_succ]
    refine wpAnyH_take (i:=10) (oi:= ?oip17) (v:= ?vp17) ?hopp17 ?hsp17 ?hfp17 ?hrp17 ?hQp17 ?hyp17 (by assumption) ?restp17
    case hopp17=>(simp only[List.getElem?_toArray,List.getElem?_cons_zero,List.getElem?_cons_succ];rfl)
    case hsp17=>kernel_rfl
    case hfp17=>kernel_rfl
    case hrp17=>kernel_rfl
    case hQp17=>exact fun _ _ _ h=>h
    case hyp17=>(refine Or.inl ⟨by rfl,?_⟩;intro w hSw;(try dsimp only at hSw);go_simp<;>with_reducible rfl)
    try simp only[Act.put,List.setIfInBounds_toArray,List.set_cons_zero,List.set_cons_succ]
    refine wpAnyH_take (i:=11) (oi:= ?oip18) (v:= ?vp18) ?hopp18 ?hsp18 ?hfp18 ?hrp18 ?hQp18 ?hyp18 (by assumption) ?restp18
    case hopp18=>(simp only[List.getElem?_toArray,List.getElem?_cons_zero,List.getElem?_cons_succ];rfl)
    case hsp18=>kernel_rfl
    case hfp18=>kernel_rfl
    case hrp18=>kernel_rfl
    case hQp18=>exact fun _ _ _ h=>h
    case hyp18=>(refine Or.inl ⟨by rfl,?_⟩;intro w hSw;(try dsimp only at hSw);go_simp<;>with_reducible rfl)
    try simp only[Act.put,List.setIfInBounds_toArray,List.set_cons_zero,List.set_cons_succ]
    refine wpAnyH_ready (rs:=[12]) (by kernel_rfl) (by simp) ?_
    refine AllReadyH.cons (o:= ?oip19) ?hopp19 (fun K hK=> ?stepp19) ?morep19
    case hopp19=>(simp only[List.getElem?_toArray,List.getElem?_cons_zero,List.getElem?_cons_succ];rfl)
    case morep19=>exact AllReadyH.nil
    go_simp
    refine hK.out _ _ ?_ (fun hHeld=> ?_)
    ·(try dsimp only);first|with_reducible exact (hKeep.out _ hgD.out).2|with_reducible exact (hKeep.out _ hgA.out).2|with_reducible exact hk3.out|exact hk4.out _|exact (hKeep.out _ hgA.out).2
    clear hK K
    try simp only[Act.put,List.setIfInBounds_toArray,List.set_cons_zero,List.set_cons_succ]
    refine wpAnyH_done (by kernel_rfl) ?_ _
    refine NoPanic.normal ?_
    go_wp2
    go_roundw
    case rel=>exact ⟨k+1,gs2.set i ⟨g.n,C,cc,g.l++[x]⟩,D2,by omega,by go_num,hfinal⟩
    case measure=>simp[intOf];omega
   ·obtain ⟨i,hi_,hin,hatB⟩:=hR.out.plc.find hhas
    have hatH:Hid (D.atKey (.int .i64 nn) (.lit (.int .i64 0))= .lit (.int .i64 i)):=hatB
    obtain ⟨GA2,gc,hu,_,hr2,_,hb2,_⟩:=hR.out.gps.own.full encP_len
    obtain ⟨G,gof,hGA,_,_⟩:=hr2.at hi_
    subst hGA
    have hof:gof=0:=(hb2 _ rfl).2.2.1
    subst hof
    subst hu
    obtain ⟨g,hg_⟩:∃g:Grp,gs[i]=g:=⟨_,rfl⟩
    have xc0:(wr.alloc (.cells #[.slice (some ⟨rb,ro,none⟩) x.r.length x.c,.int .i64 x.n] 90)).cell? ⟨wr.heap.size,0,none⟩=some (.slice (some ⟨rb,ro,none⟩) x.r.length x.c):=box1 (Gr.refl _) rfl
    have xc1:(wr.alloc (.cells #[.slice (some ⟨rb,ro,none⟩) x.r.length x.c,.int .i64 x.n] 90)).cell? ⟨wr.heap.size,1,none⟩=some (.int .i64 x.n):=box1 (Gr.refl _) rfl
    have hGx:Hid (G≠wr.heap.size):=fun e=>by have:=(World.ownsRow.lt hR.out.gps.own G rfl).2;omega
    have hMid:Hid (MidG w (wr.alloc (.cells #[.slice (some ⟨rb,ro,none⟩) x.r.length x.c,.int .i64 x.n] 90)) l cn k G gc gs i g D x wr.heap.size):=by
     refine ⟨hR.out.gps.gr hgX.out,by rw[List.getElem?_eq_getElem hi_,hg_],fun g' hn hl'=> ?_,hR.out.sub,hxH.out,hR.out.plc,hmp.out.mono (Nat.le_succ _),hR.out.bel.trans (hgX.out.below.mono hR.out.bel.size),by have:=hR.out.len;omega,Nat.le_trans hR.out.size hgX.out.size,fun b hb=> ?_,by simp⟩
     ·have hi2:i<(gs.map Grp.z).length:=by simpa using hi_
      rw[hst.out,←hR.out.z,putG_at hi2 (by simpa[Grp.z] using hin) (List.pairwise_map.2 hR.out.plc.uniq)]
      rw[List.map_set]
      congr 1
      simp only[List.getElem_map]
      rw[←hg_] at hn hl'
      simp[Grp.z,hn,hl',hin]
     ·have:=(World.ownsRow.lt (hR.out.gps.each g (by rw[←hg_];exact List.getElem_mem hi_)) b hb).2
      omega
    have hwX:Hid (Gr wr (wr.alloc (.cells #[.slice (some ⟨rb,ro,none⟩) x.r.length x.c,.int .i64 x.n] 90))):=hgX
    clear hg_ hin hatB hr2 hb2 hi_
    go_wp2_with (first
     | (at_lookup;refine wpList_lookup_own_ok_int _ rfl _ _ 208 rfl 3 3 .i64 lawI Tryz.underlying208 Tryz.underlying3 (zeroI _) w.heap.size k _ rfl hmp.out _ _ rfl hkey ?_;intro c' hat' hwc;(obtain rfl:c'=(i:Int):=by (rw[hatH.out] at hat';cases hat';rfl)))
     | fail)
    obtain ⟨xb,hxb⟩:∃xb,wr.heap.size=xb:=⟨_,rfl⟩
    obtain ⟨WX,hWX⟩:∃WX,(wr.alloc (.cells #[.slice (some ⟨rb,ro,none⟩) x.r.length x.c,.int .i64 x.n] 90))=WX:=⟨_,rfl⟩
    rw[hWX] at hMid xc0 xc1 ⊢
    rw[hxb] at hMid xc0 xc1 hGx ⊢
    clear hmp hhas hwc hkey y0 e0 e1 hxb hgX hI hWX hwX
    have hcl:=hMid.out.cell
    have e6:WX.cell? ⟨G,i*2+1,none⟩=some (.slice g.p g.l.length g.c):=hcl.1
    have hGlt:Hid (G<WX.heap.size∧w.heap.size<G):=hcl.2
    obtain ⟨hiN,hzz⟩:=hMid.out.hi
    have hiz:(i:Int)<(gs.length:Int):=by omega
    have hlenG:Hid (g.l.length≤k):=(hMid.out.sub g (by obtain ⟨a,b⟩:=hMid.out.hi;rw[←b];exact List.getElem_mem a)).1
    have hgA:Hid (Gr WX (WX.alloc (.cells #[.slice (some ⟨rb,ro,none⟩) x.r.length x.c,.int .i64 x.n] 90)).drew):=((Gr.refl _).alloc _).drew
    have hKeep:Hid (∀W',Gr WX W'→(fun w'=>w'.cell? ⟨G,i*2+1,none⟩=some (.slice g.p g.l.length g.c)∧w'.cell? ⟨xb,0,none⟩=some (.slice (some ⟨rb,ro,none⟩) x.r.length x.c)∧w'.cell? ⟨xb,1,none⟩=some (.int .i64 x.n)) W'):=fun W' h=>⟨(h.below.cell (p:=⟨G,i*2+1,none⟩) hGlt.out.1).trans e6,(h.below.cell (p:=⟨xb,0,none⟩) hMid.out.xlt).trans xc0,(h.below.cell (p:=⟨xb,1,none⟩) hMid.out.xlt).trans xc1⟩
    have hgD:Hid (Gr WX WX.drew):=(Gr.refl _).drew
    have hoX:Hid (OwnG encT 2 90 (WX.alloc (.cells #[.slice (some ⟨rb,ro,none⟩) x.r.length x.c,.int .i64 x.n] 90)).drew (w.heap.size+1) (.slice g.p g.l.length g.c) g.l∧RowG encT 2 (WX.alloc (.cells #[.slice (some ⟨rb,ro,none⟩) x.r.length x.c,.int .i64 x.n] 90)).drew (some ⟨WX.heap.size,0,none⟩) [x]∧g.l.length+1≤maxLen∧(g.l.length+1)*32≤140737488355328∧w.heap.size+1≤(WX.alloc (.cells #[.slice (some ⟨rb,ro,none⟩) x.r.length x.c,.int .i64 x.n] 90)).drew.heap.size):=by
     have h1:=hlenG.out
     refine ⟨hMid.out.own.gr hgA.out,?_,by unfold maxLen;omega,by omega,Nat.le_trans hMid.out.size hgA.out.size⟩
     rw[←hpH.out]
     exact (rowNewT rfl x _).gr (Gr.refl _).drew
    have hbg:Hid (some G≠(Value.slice g.p g.l.length g.c).ownBlock):=fun e=>by
     rcases own_ne hMid.out.own hMid.out.gps.own (by decide) with k1|k1
     ·rw[k1] at e;cases e
     ·exact k1 (by rw[←e];rfl)
    have hxG:Hid ((⟨G,i*2+1,none⟩:Addr)≠⟨xb,0,none⟩∧(⟨G,i*2+1,none⟩:Addr)≠⟨xb,1,none⟩):=⟨fun e=>hGx.out (by injection e),fun e=>hGx.out (by injection e)⟩
    have hS3:Hid (∀w3,(WX.alloc (.cells #[.slice (some ⟨rb,ro,none⟩) x.r.length x.c,.int .i64 x.n] 90)).drew.grownBy w3 (Value.slice g.p g.l.length g.c).ownBlock→(fun w'=>w'.cell? ⟨G,i*2+1,none⟩=some (.slice g.p g.l.length g.c)∧w'.cell? ⟨xb,0,none⟩=some (.slice (some ⟨rb,ro,none⟩) x.r.length x.c)∧w'.cell? ⟨xb,1,none⟩=some (.int .i64 x.n)) w3):=fun w3 hg3=>by
     have hk:=hKeep.out _ hgA.out
     have hbx:some xb≠(Value.slice g.p g.l.length g.c).ownBlock:=fun e=>hMid.out.blk xb e.symm rfl
     have l1:xb<(WX.alloc (.cells #[.slice (some ⟨rb,ro,none⟩) x.r.length x.c,.int .i64 x.n] 90)).drew.heap.size:=Nat.lt_of_lt_of_le hMid.out.xlt hgA.out.size
     have l2:G<(WX.alloc (.cells #[.slice (some ⟨rb,ro,none⟩) x.r.length x.c,.int .i64 x.n] 90)).drew.heap.size:=Nat.lt_of_lt_of_le hGlt.out.1 hgA.out.size
     exact ⟨(World.cell?_of_block (a:=⟨G,i*2+1,none⟩) (hg3.block _ l2 hbg.out)).trans hk.1,(World.cell?_of_block (a:=⟨xb,0,none⟩) (hg3.block _ l1 hbx)).trans hk.2.1,(World.cell?_of_block (a:=⟨xb,1,none⟩) (hg3.block _ l1 hbx)).trans hk.2.2⟩
    have hF3:Hid (∀w3,(WX.alloc (.cells #[.slice (some ⟨rb,ro,none⟩) x.r.length x.c,.int .i64 x.n] 90)).drew.grownBy w3 (Value.slice g.p g.l.length g.c).ownBlock→w3.frozen? ⟨G,i*2+1,none⟩=false):=fun w3 hg3=>by
     have k1:=(hMid.out.gps.own.gr hgA.out).keep hg3 (own_ne hMid.out.gps.own hMid.out.own (by decide))
     obtain ⟨A2,cp,hv,_,_,_,_,hz⟩:=k1.full encP_len
     simp only[Value.slice.injEq] at hv
     exact hz _ hv.1.symm _
    have e6a:WX.drew.cell? ⟨G,i*2+1,none⟩=some (.slice g.p g.l.length g.c):=(hKeep.out _ hgD.out).1
    have e6b:(WX.alloc (.cells #[.slice (some ⟨rb,ro,none⟩) x.r.length x.c,.int .i64 x.n] 90)).drew.cell? ⟨G,i*2+1,none⟩=some (.slice g.p g.l.length g.c):=(hKeep.out _ hgA.out).1
    clear hcl hzz hiN
    refine wp_region_noPanic ?_
    refine wp_region_held_drew (S:=(fun w'=>w'.cell? ⟨xb,0,none⟩=some (.slice (some ⟨rb,ro,none⟩) x.r.length x.c)∧w'.cell? ⟨xb,1,none⟩=some (.int .i64 x.n))) (by kernel_rfl) ((hKeep.out _ hgD.out).2) (fun hHeld=> ?_)
    refine wpAnyH_take (i:=0) (oi:= ?oiq1) (v:= ?vq1) ?hopq1 ?hsq1 ?hfq1 ?hrq1 ?hQq1 ?hyq1 (by assumption) ?restq1
    case hopq1=>(simp only[List.getElem?_toArray,List.getElem?_cons_zero];rfl)
    case hsq1=>kernel_rfl
    case hfq1=>kernel_rfl
    case hrq1=>kernel_rfl
    case hQq1=>exact fun _ _ _ h=>h
    case hyq1=>(refine Or.inl ⟨by rfl,?_⟩;intro w hSw;(try dsimp only at hSw);go_simp<;>with_reducible rfl)
    try simp only[Act.put,List.setIfInBounds_toArray,List.set_cons_zero,List.set_cons_succ]
    refine wpAnyH_take (i:=1) (oi:= ?oiq2) (v:= ?vq2) ?hopq2 ?hsq2 ?hfq2 ?hrq2 ?hQq2 ?hyq2 (by assumption) ?restq2
    case hopq2=>(simp only[List.getElem?_toArray,List.getElem?_cons_zero,List.getElem?_cons_succ];rfl)
    case hsq2=>kernel_rfl
    case hfq2=>kernel_rfl
    case hrq2=>kernel_rfl
    case hQq2=>exact fun _ _ _ h=>h
    case hyq2=>(refine Or.inl ⟨by rfl,?_⟩;intro w hSw;(try dsimp only at hSw);go_simp<;>with_reducible rfl)
    try simp only[Act.put,List.setIfInBounds_toArray,List.set_cons_zero,List.set_cons_succ]
    refine wpAnyH_take (i:=2) (oi:= ?oiq3) (v:= ?vq3) ?hopq3 ?hsq3 ?hfq3 ?hrq3 ?hQq3 ?hyq3 (by assumption) ?restq3
    case hopq3=>(simp only[List.getElem?_toArray,List.getElem?_cons_zero,List.getElem?_cons_succ];rfl)
    case hsq3=>kernel_rfl
    case hfq3=>kernel_rfl
    case hrq3=>kernel_rfl
    case hQq3=>exact fun _ _ _ h=>h
    case hyq3=>(refine Or.inl ⟨by rfl,?_⟩;intro w hSw;(try dsimp only at hSw);go_simp<;>with_reducible rfl)
    try simp only[Act.put,List.setIfInBounds_toArray,List.set_cons_zero,List.set_cons_succ]
    refine wpAnyH_take (i:=3) (oi:= ?oiq4) (v:= ?vq4) ?hopq4 ?hsq4 ?hfq4 ?hrq4 ?hQq4 ?hyq4 (by assumption) ?restq4
    case hopq4=>(simp only[List.getElem?_toArray,List.getElem?_cons_zero,List.getElem?_cons_succ];rfl)
    case hsq4=>kernel_rfl
    case hfq4=>kernel_rfl
    case hrq4=>kernel_rfl
    case hQq4=>exact fun _ _ _ h=>h
    case hyq4=>(refine Or.inl ⟨by rfl,?_⟩;intro w hSw;(try dsimp only at hSw);go_simp<;>with_reducible rfl)
    try simp only[Act.put,List.setIfInBounds_toArray,List.set_cons_zero,List.set_cons_succ]
    refine wpAnyH_take (i:=4) (oi:= ?oiq5) (v:= ?vq5) ?hopq5 ?hsq5 ?hfq5 ?hrq5 ?hQq5 ?hyq5 (by assumption) ?restq5
    case hopq5=>(simp only[List.getElem?_toArray,List.getElem?_cons_zero,List.getElem?_cons_succ];rfl)
    case hsq5=>kernel_rfl
    case hfq5=>kernel_rfl
    case hrq5=>kernel_rfl
    case hQq5=>exact fun _ _ _ h=>h
    case hyq5=>(refine Or.inl ⟨by rfl,?_⟩;intro w hSw;(try dsimp only at hSw);go_simp<;>with_reducible rfl)
    try simp only[Act.put,List.setIfInBounds_toArray,List.set_cons_zero,List.set_cons_succ]
    refine wpAnyH_take (i:=5) (oi:= ?oiq6) (v:= ?vq6) ?hopq6 ?hsq6 ?hfq6 ?hrq6 ?hQq6 ?hyq6 (by assumption) ?restq6
    case hopq6=>(simp only[List.getElem?_toArray,List.getElem?_cons_zero,List.getElem?_cons_succ];rfl)
    case hsq6=>kernel_rfl
    case hfq6=>kernel_rfl
    case hrq6=>kernel_rfl
    case hQq6=>exact fun _ _ _ h=>h
    case hyq6=>(refine Or.inl ⟨by rfl,?_⟩;intro w hSw;(try dsimp only at hSw);go_simp<;>with_reducible rfl)
    try simp only[Act.put,List.setIfInBounds_toArray,List.set_cons_zero,List.set_cons_succ]
    refine wpAnyH_take (i:=7) (oi:= ?oiq7) (v:= ?vq7) ?hopq7 ?hsq7 ?hfq7 ?hrq7 ?hQq7 ?hyq7 (by assumption) ?restq7
    case hopq7=>(simp only[List.getElem?_toArray,List.getElem?_cons_zero,List.getElem?_cons_succ];rfl)
    case hsq7=>kernel_rfl
    case hfq7=>kernel_rfl
    case hrq7=>kernel_rfl
    case hQq7=>exact fun _ _ _ h=>h
    case hyq7=>(refine Or.inl ⟨by rfl,?_⟩;intro w hSw;(try dsimp only at hSw);go_simp<;>with_reducible rfl)
    try simp only[Act.put,List.setIfInBounds_toArray,List.set_cons_zero,List.set_cons_succ]
    refine wpAnyH_ready (rs:=[6,8]) (by kernel_rfl) (by simp) ?_
    refine AllReadyH.cons (o:= ?oiq8) ?hopq8 (fun K hK=> ?stepq8) ?moreq8
    case hopq8=>(simp only[List.getElem?_toArray,List.getElem?_cons_zero,List.getElem?_cons_succ];rfl)
    case moreq8 =>
     refine AllReadyH.cons (o:= ?oiq9) ?hopq9 (fun K hK=> ?stepq9) ?moreq9
     case hopq9=>(simp only[List.getElem?_toArray,List.getElem?_cons_zero,List.getElem?_cons_succ];rfl)
     case moreq9=>exact AllReadyH.nil
     go_simp
     refine hK.out _ _ ?_ (fun hHeld=> ?_)
     ·(try dsimp only);first|with_reducible exact (hKeep.out _ hgD.out).2|with_reducible exact (hKeep.out _ hgA.out).2|with_reducible exact hk3.out|exact hk4.out _|exact (hKeep.out _ hgA.out).2
     clear hK K
     try simp only[Act.put,List.setIfInBounds_toArray,List.set_cons_zero,List.set_cons_succ]
     refine wpAnyH_ready (rs:=[6]) (by kernel_rfl) (by simp) ?_
     refine AllReadyH.cons (o:= ?oiq10) ?hopq10 (fun K hK=> ?stepq10) ?moreq10
     case hopq10=>(simp only[List.getElem?_toArray,List.getElem?_cons_zero,List.getElem?_cons_succ];rfl)
     case moreq10=>exact AllReadyH.nil
     go_simp
     refine hK.out _ _ ?_ (fun hHeld=> ?_)
     ·(try dsimp only);first|with_reducible exact (hKeep.out _ hgD.out).2|with_reducible exact (hKeep.out _ hgA.out).2|with_reducible exact hk3.out|exact hk4.out _|exact (hKeep.out _ hgA.out).2
     clear hK K
     try simp only[Act.put,List.setIfInBounds_toArray,List.set_cons_zero,List.set_cons_succ]
     refine wpAnyH_ready (rs:=[9]) (by kernel_rfl) (by simp) ?_
     refine AllReadyH.cons (o:= ?oiq11) ?hopq11 (fun K hK=> ?stepq11) ?moreq11
     case hopq11=>(simp only[List.getElem?_toArray,List.getElem?_cons_zero,List.getElem?_cons_succ];rfl)
     case moreq11=>exact AllReadyH.nil
     (refine step_append_l _ rfl (.tmp 49) (.tmp 51) rfl (w.heap.size+1) (.slice g.p g.l.length g.c) g.l x ⟨WX.heap.size,0,none⟩ 1 rfl rfl hoX.out.1 hoX.out.2.1 hoX.out.2.2.1 hoX.out.2.2.2.1 hoX.out.2.2.2.2 ?_;intro v3 w3 hown3 hg3 hloc3;have hk3:Hid (w3.cell? ⟨xb,0,none⟩=some (.slice (some ⟨rb,ro,none⟩) x.r.length x.c)∧w3.cell? ⟨xb,1,none⟩=some (.int .i64 x.n)):=((hS3.out w3 hg3).2);have hf3:w3.frozen? ⟨G,i*2+1,none⟩=false:=hF3.out w3 hg3;have hc3:w3.cell? ⟨G,i*2+1,none⟩=some (.slice g.p g.l.length g.c):=(hS3.out w3 hg3).1;obtain ⟨C,cc,hv3,_,_,_⟩:=hown3.row encT_len;subst hv3;have hfinal:Hid (GInv w (w3.setCell ⟨G,i*2+1,none⟩ (.slice C (g.l.length+1) cc)) l cn (k+1) (.slice (some ⟨G,0,none⟩) gs.length gc) (gs.set i ⟨g.n,C,cc,g.l++[x]⟩) D):=(by have h:=hMid.out.done hown3 hg3 hloc3;rw[List.length_append] at h;exact h);have hk4:Hid (∀u,(w3.setCell ⟨G,i*2+1,none⟩ u).cell? ⟨xb,0,none⟩=some (.slice (some ⟨rb,ro,none⟩) x.r.length x.c)∧(w3.setCell ⟨G,i*2+1,none⟩ u).cell? ⟨xb,1,none⟩=some (.int .i64 x.n)):=(fun u=>⟨(World.cell?_setCell_other _ _ _ _ hxG.out.1).trans hk3.out.1,(World.cell?_setCell_other _ _ _ _ hxG.out.2).trans hk3.out.2⟩);clear hown3 hg3 hloc3)
     refine hK.out _ _ ?_ (fun hHeld=> ?_)
     ·(try dsimp only);first|with_reducible exact (hKeep.out _ hgD.out).2|with_reducible exact (hKeep.out _ hgA.out).2|with_reducible exact hk3.out|exact hk4.out _|exact (hKeep.out _ hgA.out).2
     clear hK K
     try simp only[Act.put,List.setIfInBounds_toArray,List.set_cons_zero,List.set_cons_succ]
     refine wpAnyH_take (i:=10) (oi:= ?oiq12) (v:= ?vq12) ?hopq12 ?hsq12 ?hfq12 ?hrq12 ?hQq12 ?hyq12 (by assumption) ?restq12
     case hopq12=>(simp only[List.getElem?_toArray,List.getElem?_cons_zero,List.getElem?_cons_succ];rfl)
     case hsq12=>kernel_rfl
     case hfq12=>kernel_rfl
     case hrq12=>kernel_rfl
     case hQq12=>exact fun _ _ _ h=>h
     case hyq12=>(refine Or.inl ⟨by rfl,?_⟩;intro w hSw;(try dsimp only at hSw);go_simp<;>with_reducible rfl)
     try simp only[Act.put,List.setIfInBounds_toArray,List.set_cons_zero,List.set_cons_succ]
     refine wpAnyH_take (i:=11) (oi:= ?oiq13) (v:= ?vq13) ?hopq13 ?hsq13 ?hfq13 ?hrq13 ?hQq13 ?hyq13 (by assumption) ?restq13
     case hopq13=>(simp only[List.getElem?_toArray,List.getElem?_cons_zero,List.getElem?_cons_succ];rfl)
     case hsq13=>kernel_rfl
     case hfq13=>kernel_rfl
     case hrq13=>kernel_rfl
     case hQq13=>exact fun _ _ _ h=>h
     case hyq13=>(refine Or.inl ⟨by rfl,?_⟩;intro w hSw;(try dsimp only at hSw);go_simp<;>with_reducible rfl)
     try simp only[Act.put,List.setIfInBounds_toArray,List.set_cons_zero,List.set_cons_succ]
     refine wpAnyH_ready (rs:=[12]) (by kernel_rfl) (by simp) ?_
     refine AllReadyH.cons (o:= ?oiq14) ?hopq14 (fun K hK=> ?stepq14) ?moreq14
     case hopq14=>(simp only[List.getElem?_toArray,List.getElem?_cons_zero,List.getElem?_cons_succ];rfl)
     case moreq14=>exact AllReadyH.nil
     go_simp
     refine hK.out _ _ ?_ (fun hHeld=> ?_)
     ·(try dsimp only);first|with_reducible exact (hKeep.out _ hgD.out).2|with_reducible exact (hKeep.out _ hgA.out).2|with_reducible exact hk3.out|exact hk4.out _|exact (hKeep.out _ hgA.out).2
     clear hK K
     try simp only[Act.put,List.setIfInBounds_toArray,List.set_cons_zero,List.set_cons_succ]
     refine wpAnyH_done (by kernel_rfl) ?_ _
     refine NoPanic.normal ?_
     go_wp2
     go_roundw
     case rel=>exact ⟨k+1,gs.set i ⟨g.n,C,cc,g.l++[x]⟩,D,by omega,by go_num,hfinal⟩
     case measure=>simp[intOf];omega
    go_simp
    refine hK.out _ _ ?_ (fun hHeld=> ?_)
    ·(try dsimp only);first|with_reducible exact (hKeep.out _ hgD.out).2|with_reducible exact (hKeep.out _ hgA.out).2|with_reducible exact hk3.out|exact hk4.out _|exact (hKeep.out _ hgA.out).2
    clear hK K
    try simp only[Act.put,List.setIfInBounds_toArray,List.set_cons_zero,List.set_cons_succ]
    refine wpAnyH_ready (rs:=[8]) (by kernel_rfl) (by simp) ?_
    refine AllReadyH.cons (o:= ?oiq15) ?hopq15 (fun K hK=> ?stepq15) ?moreq15
    case hopq15=>(simp only[List.getElem?_toArray,List.getElem?_cons_zero,List.getElem?_cons_succ];rfl)
    case moreq15=>exact AllReadyH.nil
    go_simp
    refine hK.out _ _ ?_ (fun hHeld=> ?_)
    ·(try dsimp only);first|with_reducible exact (hKeep.out _ hgD.out).2|with_reducible exact (hKeep.out _ hgA.out).2|with_reducible exact hk3.out|exact hk4.out _|exact (hKeep.out _ hgA.out).2
    clear hK K
    try simp only[Act.put,List.setIfInBounds_toArray,List.set_cons_zero,List.set_cons_succ]
    refine wpAnyH_ready (rs:=[9]) (by kernel_rfl) (by simp) ?_
    refine AllReadyH.cons (o:= ?oiq16) ?hopq16 (fun K hK=> ?stepq16) ?moreq16
    case hopq16=>(simp only[List.getElem?_toArray,List.getElem?_cons_zero,List.getElem?_cons_succ];rfl)
    case moreq16=>exact AllReadyH.nil
    (refine step_append_l _ rfl (.tmp 49) (.tmp 51) rfl (w.heap.size+1) (.slice g.p g.l.length g.c) g.l x ⟨WX.heap.size,0,none⟩ 1 rfl rfl hoX.out.1 hoX.out.2.1 hoX.out.2.2.1 hoX.out.2.2.2.1 hoX.out.2.2.2.2 ?_;intro v3 w3 hown3 hg3 hloc3;have hk3:Hid (w3.cell? ⟨xb,0,none⟩=some (.slice (some ⟨rb,ro,none⟩) x.r.length x.c)∧w3.cell? ⟨xb,1,none⟩=some (.int .i64 x.n)):=((hS3.out w3 hg3).2);have hf3:w3.frozen? ⟨G,i*2+1,none⟩=false:=hF3.out w3 hg3;have hc3:w3.cell? ⟨G,i*2+1,none⟩=some (.slice g.p g.l.length g.c):=(hS3.out w3 hg3).1;obtain ⟨C,cc,hv3,_,_,_⟩:=hown3.row encT_len;subst hv3;have hfinal:Hid (GInv w (w3.setCell ⟨G,i*2+1,none⟩ (.slice C (g.l.length+1) cc)) l cn (k+1) (.slice (some ⟨G,0,none⟩) gs.length gc) (gs.set i ⟨g.n,C,cc,g.l++[x]⟩) D):=(by have h:=hMid.out.done hown3 hg3 hloc3;rw[List.length_append] at h;exact h);have hk4:Hid (∀u,(w3.setCell ⟨G,i*2+1,none⟩ u).cell? ⟨xb,0,none⟩=some (.slice (some ⟨rb,ro,none⟩) x.r.length x.c)∧(w3.setCell ⟨G,i*2+1,none⟩ u).cell? ⟨xb,1,none⟩=some (.int .i64 x.n)):=(fun u=>⟨(World.cell?_setCell_other _ _ _ _ hxG.out.1).trans hk3.out.1,(World.cell?_setCell_other _ _ _ _ hxG.out.2).trans hk3.out.2⟩);clear hown3 hg3 hloc3)
    refine hK.out _ _ ?_ (fun hHeld=> ?_)
    ·(try dsimp only);first|with_reducible exact (hKeep.out _ hgD.out).2|with_reducible exact (hKeep.out _ hgA.out).2|with_reducible exact hk3.out|exact hk4.out _|exact (hKeep.out _ hgA.out).2
    clear hK K
    try simp only[Act.put,List.setIfInBounds_toArray,List.set_cons_zero,List.set_cons_succ]
    refine wpAnyH_take (i:=10) (oi:= ?oiq17) (v:= ?vq17) ?hopq17 ?hsq17 ?hfq17 ?hrq17 ?hQq17 ?hyq17 (by assumption) ?restq17
    case hopq17=>(simp only[List.getElem?_toArray,List.getElem?_cons_zero,List.getElem?_cons_succ];rfl)
    case hsq17=>kernel_rfl
    case hfq17=>kernel_rfl
    case hrq17=>kernel_rfl
    case hQq17=>exact fun _ _ _ h=>h
    case hyq17=>(refine Or.inl ⟨by rfl,?_⟩;intro w hSw;(try dsimp only at hSw);go_simp<;>with_reducible rfl)
    try simp only[Act.put,List.setIfInBounds_toArray,List.set_cons_zero,List.set_cons_succ]
    refine wpAnyH_take (i:=11) (oi:= ?oiq18) (v:= ?vq18) ?hopq18 ?hsq18 ?hfq18 ?hrq18 ?hQq18 ?hyq18 (by assumption) ?restq18
    case hopq18=>(simp only[List.getElem?_toArray,List.getElem?_cons_zero,List.getElem?_cons_succ];rfl)
    case hsq18=>kernel_rfl
    case hfq18=>kernel_rfl
    case hrq18=>kernel_rfl
    case hQq18=>exact fun _ _ _ h=>h
    case hyq18=>(refine Or.inl ⟨by rfl,?_⟩;intro w hSw;(try dsimp only at hSw);go_simp<;>with_reducible rfl)
    try simp only[Act.put,List.setIfInBounds_toArray,List.set_cons_zero,List.set_cons_succ]
    refine wpAnyH_ready (rs:=[12]) (by kernel_rfl) (by simp) ?_
    refine AllReadyH.cons (o:= ?oiq19) ?hopq19 (fun K hK=> ?stepq19) ?moreq19
    case hopq19=>(simp only[List.getElem?_toArray,List.getElem?_cons_zero,List.getElem?_cons_succ];rfl)
    case moreq19=>exact AllReadyH.nil
    go_simp
    refine hK.out _ _ ?_ (fun hHeld=> ?_)
    ·(try dsimp only);first|with_reducible exact (hKeep.out _ hgD.out).2|with_reducible exact (hKeep.out _ hgA.out).2|with_reducible exact hk3.out|exact hk4.out _|exact (hKeep.out _ hgA.out).2
    clear hK K
    try simp only[Act.put,List.setIfInBounds_toArray,List.set_cons_zero,List.set_cons_succ]
    refine wpAnyH_done (by kernel_rfl) ?_ _
    refine NoPanic.normal ?_
    go_wp2
    go_roundw
    case rel=>exact ⟨k+1,gs.set i ⟨g.n,C,cc,g.l++[x]⟩,D,by omega,by go_num,hfinal⟩
    case measure=>simp[intOf];omega
  ·have hltz:¬(k:Int)<(l.length:Int):=by omega
   have hke:k=l.length:=by omega
   subst hke
   go_wp2
   go_ret2
   exact ⟨gs,u6,rfl,D,hR.out⟩
end Go.Proofs.YtkadjjmkokhldaaGreat

namespace Go.Proofs.YtkadjjmkokhldaaGreat
open Go.RowKit Go.Sort Go.Maps

theorem cnt_take {gs:List Grp} {k:Nat} (h:k<gs.length):((gs.take (k+1)).map Grp.z).filterMap cntG=((gs.take k).map Grp.z).filterMap cntG++(if timesL (gs[k].l.map Itm.z)=0 then [] else [([gs[k].n,timesL (gs[k].l.map Itm.z)],1)]):=by
 rw[List.take_succ_eq_append_getElem h,List.map_append,List.filterMap_append]
 congr 1
 by_cases e:timesL (gs[k].l.map Itm.z)=0
 ·rw[if_pos e];simp[cntG,Grp.z,e]
 ·rw[if_neg e];simp[cntG,Grp.z,e]
theorem rowNew2 {W:World} {n:Nat} (hn:W.heap.size=n) (a b:Int) (T:TypeId):RowI (W.alloc (.cells #[.int .i64 a,.int .i64 b] T)) (some ⟨n,0,none⟩) [a,b]:=by
 subst hn
 refine Or.inr ⟨W.heap.size,0,rfl,by simp,fun j hj i hi=> ?_⟩
 obtain rfl:i=0:=by omega
 have hj':j=0∨j=1:=by simp at hj;omega
 rcases hj' with rfl|rfl
 ·exact box1 (w:=W) (Gr.refl _) (j:=0) rfl
 ·exact box1 (w:=W) (Gr.refl _) (j:=1) rfl
/-- A group's items, as a list that lies in memory. -/
theorem GInv.items {w wr W:World} {l:List Itm} {c:Int} {k:Nat} {u:Value} {gs:List Grp} {D:DataW Unit} {A:Option Addr} (h:GInv w wr l c k u gs D) (hr:Items w A l) (hW:Below wr.heap.size wr W) {g:Grp} (hg:g∈gs):Items W g.p g.l:=by
 obtain ⟨A2,cp,hv,_,hrow,_⟩:=((h.gps.each g hg).below hW).row encT_len
 have e:g.p=A2:=by
  have h3:=hv
  unfold Grp.v at h3
  simp at h3
  exact h3.1
 rw[e]
 exact ⟨hrow,fun x hx=>((hr.below h.bel).below hW).each x ((h.sub g hg).2 x hx)⟩

set_option maxRecDepth 100000 in
set_option maxHeartbeats 1000000 in
theorem count_any (l:List Itm) (A:Option Addr) (cap:Nat) (c:Int) (w:World) (hl:l.length≤400) (hr:Items w A l) (hc:∀x∈l,inB c 0 ((x.r.length:Int)-1)=true) (hok:∀x∈l,okR x.r=true∧okW x.n=true) :
  Calls Tryz.prog 163 #[.slice A l.length cap,.int .i64 c] w fun e w'=>∃(L:List Itm) (C:Option Addr) (k:Nat),e= .returned (.slice C L.length k)∧L.map Itm.z=countL (l.map Itm.z) c∧Lv w' C k L∧L.length≤400∧Below w.heap.size w w':=by
 have hrH:Hid (Items w A l∧(∀x∈l,okW x.n=true)):=⟨hr,fun x hx=>(hok x hx).2⟩
 have hG:Hid _:=groups_any l A cap c w hl hr hc (fun x hx=>(hok x hx).1)
 clear hr hc hok
 go_enter Tryz.func163,Tryz.ntmps163
 go_wp2_with fail
 refine Calls.mono (show Calls _ _ _ _ _ from hG.out) ?_
 rintro e w1 ⟨gs,v,D,rfl,hR0⟩
 clear hG
 have hR:Hid (GInv w w1 l c l.length v gs D):=hR0
 obtain ⟨GA,gcap,hv,_,hrow,_⟩:=hR.out.gps.own.row encP_len
 have hrw:Hid (RowG encP 2 w1 GA gs):=hrow
 subst hv
 clear hR0 hrow
 have hgl:gs.length≤400:=Nat.le_trans hR.out.len hl
 go_wp2
 go_loopw [5,19] (fun u i wr=>∃(k:Nat) (L:List Itm),k≤gs.length∧i= .int .i64 k∧Hid (L.length≤k∧L.map Itm.z=((gs.take k).map Grp.z).filterMap cntG∧OwnT wr w1.heap.size u L∧Below w1.heap.size w1 wr)) (fun _ i _=>gs.length-(intOf i).toNat)
 case atStart=>exact ⟨0,[],Nat.zero_le _,rfl,Nat.le_refl _,rfl,OwnT.nil _ _,Below.refl _ _⟩
 case round =>
  obtain ⟨k,L,hk,rfl,hS⟩:=hrel
  by_cases hlt:k<gs.length
  ·have hltz:(k:Int)<(gs.length:Int):=by omega
   obtain ⟨bb,off,rfl,hb,hcs⟩:=(hrw.out.below hS.out.2.2.2).at hlt
   obtain ⟨g,hg⟩:∃g,gs[k]=g:=⟨_,rfl⟩
   have e0:wr.cell? ⟨bb,off+k*2,none⟩=some (.int .i64 g.n):=by have:=hcs k hlt 0 (by omega);rw[hg] at this;simpa[encP] using this
   have e1:wr.cell? ⟨bb,off+k*2+1,none⟩=some (.slice g.p g.l.length g.c):=by have:=hcs k hlt 1 (by omega);rw[hg] at this;simpa[encP,Grp.v] using this
   have hgm:Hid (g∈gs):=by show _∈_;rw[←hg];exact List.getElem_mem hlt
   have hst:Hid (((gs.take (k+1)).map Grp.z).filterMap cntG=((gs.take k).map Grp.z).filterMap cntG++(if timesL (g.l.map Itm.z)=0 then [] else [([g.n,timesL (g.l.map Itm.z)],1)])):=by show _=_;rw[cnt_take hlt,hg]
   clear hcs hg
   obtain ⟨WX,hWX⟩:∃WX,(wr.alloc (.cells #[.int .i64 g.n,.slice g.p g.l.length g.c] 212))=WX:=⟨_,rfl⟩
   have hgX:Hid (Gr wr WX):=by show Gr _ _;rw[←hWX];exact (Gr.refl _).alloc _
   have y0:WX.cell? ⟨wr.heap.size,0,none⟩=some (.int .i64 g.n):=by rw[←hWX];exact box1 (Gr.refl _) rfl
   have y1:WX.cell? ⟨wr.heap.size,1,none⟩=some (.slice g.p g.l.length g.c):=by rw[←hWX];exact box1 (Gr.refl _) rfl
   have hsX:wr.heap.size<WX.heap.size:=by rw[←hWX];simp
   have hbX:Hid (Below w1.heap.size w1 WX):=hS.out.2.2.2.trans (hgX.out.below.mono hS.out.2.2.2.size)
   obtain ⟨T,hT⟩:∃T,timesL (g.l.map Itm.z)=T:=⟨_,rfl⟩
   have hcall0:Calls Tryz.prog 180 #[.slice g.p g.l.length g.c] WX fun e w'=>e= .returned (.int .i64 T)∧Gr WX w':=by
    rw[←hT]
    have h1:=hR.out.sub g hgm.out
    exact times_any g.l g.p g.c WX (by omega) (fun x hx=>hrH.out.2 x (h1.2 x hx)) (hR.out.items hrH.out.1 hbX.out hgm.out)
   have hcall:Hid _:=hcall0
   clear hcall0
   rw[hT] at hst
   clear hT
   cases hq:(T != 0)
   ·have hT0:T=0:=by simpa using hq
    go_wp2_with (go_at_call 180;(refine Calls.mono (show Calls _ _ _ _ _ from hcall.out) ?_);rintro e w2 ⟨rfl,hg2⟩)
    have hfin:Hid (L.length≤k+1∧L.map Itm.z=((gs.take (k+1)).map Grp.z).filterMap cntG∧OwnT w2 w1.heap.size u5 L∧Below w1.heap.size w1 w2) :=
     ⟨by have:=hS.out.1;omega,by rw[hst.out,if_pos hT0,List.append_nil];exact hS.out.2.1,(hS.out.2.2.1.gr hgX.out).gr hg2,hbX.out.trans (hg2.below.mono hbX.out.size)⟩
    go_roundw
    case rel=>exact ⟨k+1,L,by omega,by go_num,hfin⟩
    case measure=>simp[intOf];omega
   ·have hT0:¬T=0:=by simpa using hq
    have hoF:Hid (∀w2,Gr wr w2→Below w1.heap.size w1 w2→OwnT ((w2.alloc (.cells #[.int .i64 g.n,.int .i64 T] 3)).alloc (.cells #[.slice (some ⟨w2.heap.size,0,none⟩) 2 2,.int .i64 1] 90)) w1.heap.size u5 L∧RowG encT 2 ((w2.alloc (.cells #[.int .i64 g.n,.int .i64 T] 3)).alloc (.cells #[.slice (some ⟨w2.heap.size,0,none⟩) 2 2,.int .i64 1] 90)) (some ⟨w2.heap.size+1,0,none⟩) [(⟨some ⟨w2.heap.size,0,none⟩,2,[g.n,T],1⟩:Itm)]∧Apart ((w2.alloc (.cells #[.int .i64 g.n,.int .i64 T] 3)).alloc (.cells #[.slice (some ⟨w2.heap.size,0,none⟩) 2 2,.int .i64 1] 90)) w1.heap.size u5.ownBlock (⟨some ⟨w2.heap.size,0,none⟩,2,[g.n,T],1⟩:Itm)∧L.length+1≤maxLen∧(L.length+1)*32≤140737488355328∧Below w1.heap.size w1 ((w2.alloc (.cells #[.int .i64 g.n,.int .i64 T] 3)).alloc (.cells #[.slice (some ⟨w2.heap.size,0,none⟩) 2 2,.int .i64 1] 90))):=fun w2 hg2 hb2=>by
     have hLk:=hS.out.1
     have h2:Gr w2 ((w2.alloc (.cells #[.int .i64 g.n,.int .i64 T] 3)).alloc (.cells #[.slice (some ⟨w2.heap.size,0,none⟩) 2 2,.int .i64 1] 90)):=((Gr.refl _).alloc _).alloc _
     refine ⟨(hS.out.2.2.1.gr hg2).gr h2,rowNewT (by simp) (⟨some ⟨w2.heap.size,0,none⟩,2,[g.n,T],1⟩:Itm) _,⟨(rowNew2 rfl g.n T _).gr ((Gr.refl _).alloc _),by simp[maxLen],fun h=>(by cases h),fun a ha=>⟨?_,?_,?_⟩⟩,by unfold maxLen;omega,by omega,hb2.trans (h2.below.mono hb2.size)⟩
     ·cases ha;exact hb2.size
     ·cases ha;simp;omega
     ·cases ha
      intro e
      have h3:=(World.ownsRow.lt hS.out.2.2.1.own w2.heap.size e).2
      have h4:=hg2.size
      omega
    go_wp2_with (first|(go_at_call 180;(refine Calls.mono (show Calls _ _ _ _ _ from hcall.out) ?_);rintro e w2 ⟨rfl,hg2⟩;have y0':w2.cell? ⟨wr.heap.size,0,none⟩=some (.int .i64 g.n):=(hg2.below.cell (p:=⟨wr.heap.size,0,none⟩) hsX).trans y0;have hbW:Hid (Below w1.heap.size w1 w2∧Gr wr w2):=⟨hbX.out.trans (hg2.below.mono hbX.out.size),hgX.out.trans hg2⟩;clear hg2;have hoX:=hoF.out w2 hbW.out.2 hbW.out.1;have hoH:Hid _:=hoX;clear hoX)|(at_builtin;refine wpList_append_t _ rfl (.tmp 28) (.tmp 34) rfl w1.heap.size u5 L (⟨some ⟨w2.heap.size,0,none⟩,2,[g.n,T],1⟩:Itm) ⟨w2.heap.size+1,0,none⟩ 1 rfl rfl hoH.out.1 hoH.out.2.1 hoH.out.2.2.1 hoH.out.2.2.2.1 hoH.out.2.2.2.2.1 hoH.out.2.2.2.2.2.size ?_;intro v3 w3 hown3 hg3)|fail)
    have hfin:Hid ((L++[(⟨some ⟨w2.heap.size,0,none⟩,2,[g.n,T],1⟩:Itm)]).length≤k+1∧(L++[(⟨some ⟨w2.heap.size,0,none⟩,2,[g.n,T],1⟩:Itm)]).map Itm.z=((gs.take (k+1)).map Grp.z).filterMap cntG∧OwnT w3 w1.heap.size v3 (L++[(⟨some ⟨w2.heap.size,0,none⟩,2,[g.n,T],1⟩:Itm)])∧Below w1.heap.size w1 w3) :=
     ⟨by have:=hS.out.1;simp;omega,by rw[hst.out,if_neg hT0,List.map_append,hS.out.2.1];rfl,hown3,hoH.out.2.2.2.2.2.trans hg3⟩
    clear hown3 hg3
    go_roundw
    case rel=>exact ⟨k+1,L++[(⟨some ⟨w2.heap.size,0,none⟩,2,[g.n,T],1⟩:Itm)],by omega,by go_num,hfin⟩
    case measure=>simp[intOf];omega
  ·have hltz:¬(k:Int)<(gs.length:Int):=by omega
   have hke:gs.take k=gs:=List.take_of_length_le (by omega)
   obtain ⟨A2,cap2,hv2,hn2,hit,_⟩:=hS.out.2.2.1.items
   have hlL:L.length≤400:=by have:=hS.out.1;omega
   have hfin:Hid (L.map Itm.z=countL (l.map Itm.z) c∧Lv wr A2 cap2 L∧Below w.heap.size w wr):=by
    refine ⟨?_,⟨hit,hn2,by unfold maxLen;omega⟩,hR.out.bel.trans (hS.out.2.2.2.mono hR.out.bel.size)⟩
    have:=hS.out.2.1
    rw[hke,hR.out.z,List.take_length] at this
    exact this
   subst hv2
   clear hke hit hn2
   go_wp2
   go_ret
   exact ⟨L,A2,cap2,rfl,hfin.out.1,hfin.out.2.1,hlL,hfin.out.2.2⟩
end Go.Proofs.YtkadjjmkokhldaaGreat

namespace Go.Proofs.YtkadjjmkokhldaaGreat
open Go.RowKit Go.Sort

theorem gr_drewN (w:World) (n:Nat):Gr w (w.drewN n):=⟨n,#[],by rw[grow_empty]⟩
theorem sumAtL_append (v:Int) (a b:List Zit):sumAtL v (a++b)=sumAtL v a+sumAtL v b:=by
 induction a with
 | nil=>simp[sumAtL]
 | cons x a ih=>simp only[List.cons_append,sumAtL,ih];omega
theorem mul_bound {x y:Int} (hx: -1073741824≤x∧x≤1073741824) (hy: -1048576≤y∧y≤1048576): -1125899906842624≤x*y∧x*y≤1125899906842624:=by
 have h1:x.natAbs≤1073741824:=by omega
 have h2:y.natAbs≤1048576:=by omega
 have h3:(x*y).natAbs≤1073741824*1048576:=by rw[Int.natAbs_mul];exact Nat.mul_le_mul h1 h2
 omega
theorem at_mul {x:Itm} {v:Int} (h:okR x.r=true∧okW x.n=true): -1125899906842624≤atI x.r v*x.n∧atI x.r v*x.n≤1125899906842624:=by
 have h1:=okN_at h.1 (c:=v)
 have h2:=h.2
 simp only[okN,okW,inB,Bool.and_eq_true,decide_eq_true_eq] at h1 h2
 exact mul_bound h1 h2
theorem sumAtL_bound {l:List Itm} {v:Int} (h:∀x∈l,okR x.r=true∧okW x.n=true): -((l.length:Int)*1125899906842624)≤sumAtL v (l.map Itm.z)∧sumAtL v (l.map Itm.z)≤(l.length:Int)*1125899906842624:=by
 induction l with
 | nil=>simp[sumAtL]
 | cons x l ih =>
  have h1:=ih fun y hy=>h y (List.mem_cons_of_mem _ hy)
  have h2:=at_mul (v:=v) (h x (List.mem_cons_self ..))
  have e:sumAtL v ((x::l).map Itm.z)=atI x.r v*x.n+sumAtL v (l.map Itm.z):=rfl
  rw[e]
  generalize atI x.r v*x.n=t at h2 ⊢
  simp only[List.length_cons]
  omega
theorem sumAtL_take {l:List Itm} {k:Nat} (h:k<l.length) (v:Int):sumAtL v ((l.take (k+1)).map Itm.z)=sumAtL v ((l.take k).map Itm.z)+atI l[k].r v*l[k].n:=by
 rw[List.take_succ_eq_append_getElem h,List.map_append,sumAtL_append]
 simp[sumAtL,Itm.z]

set_option maxRecDepth 100000 in
set_option maxHeartbeats 1000000 in
theorem sumAt_any (l:List Itm) (A:Option Addr) (cap:Nat) (v:Int) (w:World) (hl:l.length≤400) (hw:∀x∈l,okR x.r=true∧okW x.n=true) (hc:∀x∈l,inB v 0 ((x.r.length:Int)-1)=true) (hr:Items w A l) :
  Calls Tryz.prog 181 #[.slice A l.length cap,.int .i64 v] w fun e w'=>e= .returned (.int .i64 (sumAtL v (l.map Itm.z)))∧Gr w w':=by
 have hrH:Hid (Items w A l):=hr
 have hwH:Hid ((∀x∈l,okR x.r=true∧okW x.n=true)∧∀x∈l,inB v 0 ((x.r.length:Int)-1)=true):=⟨hw,hc⟩
 clear hr hw hc
 go_enter Tryz.func181,Tryz.ntmps181
 go_wp2
 go_loopw [5,10] (fun u i wr=>∃k:Nat,k≤l.length∧i= .int .i64 k∧u= .int .i64 (sumAtL v ((l.take k).map Itm.z))∧Hid (Gr w wr)) (fun _ i _=>l.length-(intOf i).toNat)
 case atStart=>exact ⟨0,Nat.zero_le _,rfl,rfl,Gr.refl _⟩
 case round =>
  obtain ⟨k,hk,rfl,rfl,hg⟩:=hrel
  by_cases hlt:k<l.length
  ·have hltz:(k:Int)<(l.length:Int):=by omega
   have hI:Hid (Items wr A l):=hrH.out.gr hg.out
   obtain ⟨bb,off,rfl,hb,hcs⟩:=hI.out.at hlt
   obtain ⟨x,hx⟩:∃x,l[k]=x:=⟨_,rfl⟩
   obtain ⟨e0,e1⟩:=hcs k hlt
   rw[hx] at e0 e1
   have hxm:x∈l:=by rw[←hx];exact List.getElem_mem hlt
   obtain ⟨rb,ro,cn,hp,hrb,hcn,hcl,hcell⟩:=rowI_atI (hI.out.each x hxm).1 (hwH.out.2 x hxm)
   have hst:Hid (sumAtL v ((l.take (k+1)).map Itm.z)=sumAtL v ((l.take k).map Itm.z)+atI x.r v*x.n):=by show _=_;rw[sumAtL_take hlt,hx]
   have hbd:=sumAtL_bound (l:=l.take k) (v:=v) (fun y hy=>hwH.out.1 y (List.mem_of_mem_take hy))
   have hml:=at_mul (v:=v) (hwH.out.1 x hxm)
   have hlen:(l.take k).length≤400:=by simp;omega
   obtain ⟨T,hT⟩:∃T,sumAtL v ((l.take k).map Itm.z)=T:=⟨_,rfl⟩
   obtain ⟨nn,hnn⟩:∃nn,atI x.r v=nn:=⟨_,rfl⟩
   rw[hT] at hst hbd ⊢
   rw[hnn] at hcell hst hml
   rw[hp] at e0
   have hw1:IntKind.i64.wrap (nn*x.n)=nn*x.n:=by rw[IntKind.wrap_i64];omega
   have hw2:IntKind.i64.wrap (T+nn*x.n)=T+nn*x.n:=by rw[IntKind.wrap_i64];omega
   have hgX:Hid (Gr w (wr.alloc (.cells #[.slice (some ⟨rb,ro,none⟩) x.r.length x.c,.int .i64 x.n] 90))):=hg.out.alloc _
   have y0:(wr.alloc (.cells #[.slice (some ⟨rb,ro,none⟩) x.r.length x.c,.int .i64 x.n] 90)).cell? ⟨rb,ro+cn,none⟩=some (.int .i64 nn):=(((Gr.refl _).alloc _).cell (p:=⟨rb,ro+cn,none⟩) hrb).trans hcell
   have hcz:(cn:Int)<(x.r.length:Int):=by omega
   obtain rfl:=hcn
   clear hcs hx hxm hnn hp hcell hcl hbd hml hlen hT
   obtain ⟨M,hM⟩:∃M,nn*x.n=M:=⟨_,rfl⟩
   rw[hM] at hw1 hw2 hst
   have hMH:Hid (nn*x.n=M):=hM
   obtain ⟨WX,hWX⟩:∃WX,(wr.alloc (.cells #[.slice (some ⟨rb,ro,none⟩) x.r.length x.c,.int .i64 x.n] 90))=WX:=⟨_,rfl⟩
   have x0:WX.cell? ⟨wr.heap.size,0,none⟩=some (.slice (some ⟨rb,ro,none⟩) x.r.length x.c):=by rw[←hWX];exact box1 (Gr.refl _) rfl
   have x1:WX.cell? ⟨wr.heap.size,1,none⟩=some (.int .i64 x.n):=by rw[←hWX];exact box1 (Gr.refl _) rfl
   rw[hWX] at y0 hgX
   go_wp2
   clear hWX
   go_quiet (fail)
   go_wp2
   go_roundw
   case rel=>exact ⟨k+1,by omega,by go_num,by rw[hst.out],hgX.out.trans (gr_drewN _ _)⟩
   case measure=>simp[intOf];omega
  ·have hltz:¬(k:Int)<(l.length:Int):=by omega
   have hke:l.take k=l:=List.take_of_length_le (by omega)
   rw[hke]
   clear hke
   go_wp2
   go_ret
   exact ⟨rfl,hg.out⟩
end Go.Proofs.YtkadjjmkokhldaaGreat
