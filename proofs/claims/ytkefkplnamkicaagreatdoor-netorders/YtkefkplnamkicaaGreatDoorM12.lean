/-
  plain.join.
  plain.itemsOfOne, plain.minus.
  Where, pick, union and minus of two sets together are those of both, together: whole queries, on plain lists.
-/
import Derived.Test.YtkefkplnamkicaaGreatDoorM11
set_option maxRecDepth 100000
set_option maxHeartbeats 8000000
open Go.IntKind renaming i64 → I
open Go.Obj renaming cells → J
open Go.Proofs.Tryz renaming prog → O
open Go.Value renaming slice → V, tuple → Z
namespace Go.Proofs.YtkefkplnamkicaaGreatDoor
open Go.RowKit Go.Sort Go.Maps

theorem nI {w w':World} {H:Type} {k:TypeId} {R:Value→Option (DataW H×List MemPlace)} {b n:Nat} {D:DataW H} (h:w.ownsMap O k R b n D) (q:Below w.heap.size w w'):w'.ownsMap O k R b n D :=
 h.kept (row:=none) ⟨q.os,q.tape,q.output,q.size,fun j hj _=>q.block j hj⟩ (by simp)
def e8 (L:List Itm) (P:List Zit):Prop:=L.map Itm.z=P.take 401∧P.all (fun x=>okW x.2)=true

theorem vA {M:List Itm} {Q:List Zit} (h:e8 M Q) (hM:M.length≤400) {y:Itm} (hy:okW y.n=true):e8 (M++[y]) (Q++[y.z]):=by
 have hl:Q.length≤400:=by
  have:=congrArg List.length h.1
  simp only[List.length_map,List.length_take] at this
  omega
 refine ⟨?_,?_⟩
 ·rw[List.map_append,h.1,List.take_of_length_le (by omega),List.take_of_length_le (by simp;omega)]
  rfl
 ·rw[List.all_append,h.2]
  simpa[Itm.z] using hy
theorem vz {M:List Itm} {Q:List Zit} (h:e8 M Q) (hM:¬M.length≤400) {y:Zit} (hy:okW y.2=true):e8 M (Q++[y]):=by
 have hl:401≤Q.length:=by
  have:=congrArg List.length h.1
  simp only[List.length_map,List.length_take] at this
  omega
 refine ⟨?_,?_⟩
 ·rw[h.1,List.take_append_of_le_length hl]
 ·rw[List.all_append,h.2]
  simpa using hy
theorem kS (w:World) {ops:Array Oper} {rest:List Oper} {o:Oper} {a:Act} {Q:Exit→Act→World→Prop} (hgd:o.guard=none) (s z:Operand)
  (ho:o.op= .call { callee:= .builtin .append,args:= #[s,z],argTypes:= #[58,58] })
  (base:Nat) (v:Value) (l:List Itm) (x:Itm) (A:Addr) (cap:Nat) (hs:a.eval s=v) (hz:a.eval z= V (some A) 1 cap) (hown:OwnT w base v l) (hr:au aQ 2 w (some A) [x]) (hx:Apart w base v.ownBlock x)
  (hml:l.length+1≤maxLen) (hb:(l.length+1)*32≤140737488355328) (hbase:base≤w.heap.size)
  (h:∀v' w',OwnT w' base v' (l++[x])→Below base w w'→w.grownBy w' v.ownBlock→(v'.ownBlock=v.ownBlock∨v'.ownBlock=some w.heap.size)→wpList O ops Q rest (a.put o.dst v') w'):wpList O ops Q (o::rest) a w :=
 wpList_plain hgd fun _ hK=>by
  obtain ⟨i0,hi,hz0,hz1,hz2⟩:=info_parts Tryz.infoT
  obtain ⟨v',w',g1,g2,g3,_,g5⟩:=run_append_own_at (P:=O) w base 58 o.type 101 i0 (.agg #[V none 0 0,.int I 0]) 2 32 Tryz.underlying58 hi hz0 hz1 hz2 rfl (by omega) v l.length (aI aQ l) hown.own A 1 cap (aI aQ [x]) (bi bL [x]) (hr.cells bL (by omega)) (fun u hu=>dq fT u [x] hu) hml hb hbase
  have h2:OwnT w' base v' (l++[x]):=by
   refine ⟨?_,fun y hy=> ?_⟩
   ·show w'.ownsRow base _ 2 v' (l++[x]).length (aI aQ (l++[x]))
    rw[List.length_append,cg]
    exact g2
   ·rcases List.mem_append.1 hy with k|k
    ·exact (hown.each y k).grown g3 g5
    ·have:y=x:=by simpa using k
     subst this
     exact hx.grown g3 g5
  unfold Oper.wp execOp
  simp only[ho,resolve,invoke,builtin,Sem.run_bind,Sem.run_pure,Result.andThen_ok,List.map_toArray,List.map_cons,List.map_nil,hs,hz,g1]
  exact hK _ _ (h v' w' h2 (af.grown_below hown.own g3 hbase) g3 g5)

theorem vt (a b:List Itm) (A B:Option Addr) (ca cb:Nat) (c v:Int) (w:World) (hal:a.length≤400) (hbl:b.length≤400) (ha:Lv w A ca a) (hb:Lv w B cb b) (hc:∀x∈a,inB c 0 ((x.r.length:Int)-1)=true) (hv:∀x∈b,inB v 0 ((x.r.length:Int)-1)=true) (hoa:∀x∈a,okR x.r=true∧okW x.n=true) (hob:∀x∈b,okR x.r=true∧okW x.n=true) :
  Calls O 97 #[V A a.length ca,V B b.length cb,.int I c,.int I v] w fun e w'=>∃(L:List Itm) (C:Option Addr) (k:Nat),e= .returned (Z #[V C L.length k,.int I (kF (a.map Itm.z) (b.map Itm.z) c v)])∧L.map Itm.z=mT (a.map Itm.z) (b.map Itm.z) c v∧Lv w' C k L∧Below w.heap.size w w'∧NwT w' k w.heap.size C L:=by
 have hH:Hid (Lv w A ca a∧Lv w B cb b∧(∀x∈a,inB c 0 ((x.r.length:Int)-1)=true)∧(∀x∈a,okR x.r=true∧okW x.n=true)∧(∀x∈b,okR x.r=true∧okW x.n=true)):=⟨ha,hb,hc,hoa,hob⟩
 have hG0:=jo b B cb v w hbl hb.items hv (fun x hx=>(hob x hx).1)
 have hG:Hid _:=hG0
 obtain ⟨E,hE⟩:∃E,kF (a.map Itm.z) (b.map Itm.z) c v=E:=⟨_,rfl⟩
 have hEH:Hid (kF (a.map Itm.z) (b.map Itm.z) c v=E):=hE
 rw[hE]
 clear hG0 ha hb hc hv hoa hob hE
 go_enter Tryz.func97,Tryz.ntmps97
 go_wp2_with fail
 refine cM (show Calls _ _ _ _ _ from hG.out) ?_
 rintro e w1 ⟨gs,vv,D,rfl,hR0⟩
 have hR:Hid (GInv w w1 b v b.length vv gs D):=hR0
 obtain ⟨GA,gcap,hvv,_,hrow,_⟩:=hR.out.gps.own.row dh
 have hrw:Hid (au ff 2 w1 GA gs):=hrow
 subst hvv
 clear hR0 hrow hG
 have hinv:Hid (GInvL v (gs.map Grp.z) (b.map Itm.z)):=by
  show GInvL _ _ _
  have:=wT (b.map Itm.z) v
  rw[←List.take_length (l:=b),←hR.out.z,List.take_length] at this
  exact this
 go_wp2
 go_loopw [12,28] (fun u i wr=>∃(k:Nat) (L:List Itm),k≤a.length∧i= .int I k∧Hid (e8 L (dv ((a.take k).map Itm.z) (b.map Itm.z) c v)∧L.length≤401∧OwnT wr w1.heap.size u L∧Below w1.heap.size w1 wr)) (fun _ i _=>a.length-(intOf i).toNat)
 case atStart=>exact ⟨0,[],nZ _,rfl,⟨rfl,rfl⟩,by simp,OwnT.nil _ _,bR _ _⟩
 case round =>
  obtain ⟨k,L,hk,rfl,hS⟩:=hrel
  by_cases hlt:k<a.length
  ·have hltz:(k:Int)<(a.length:Int):=by omega
   have hI:Hid (Items wr A a):=(hH.out.1.items.below hR.out.bel).below hS.out.2.2.2
   obtain ⟨bb,off,rfl,hb,hcs⟩:=hI.out.at hlt
   obtain ⟨x,hx⟩:∃x,a[k]=x:=⟨_,rfl⟩
   obtain ⟨e0,e1⟩:=hcs k hlt
   rw[hx] at e0 e1
   have hxm:x∈a:=by rw[←hx];exact gM hlt
   obtain ⟨rb,ro,cn,hp,hrb,hcn,hcl,hcell⟩:=iy (hI.out.each x hxm).1 (hH.out.2.2.1 x hxm)
   have hst:Hid (dv ((a.take (k+1)).map Itm.z) (b.map Itm.z) c v=dv ((a.take k).map Itm.z) (b.map Itm.z) c v++prs x.z ((b.map Itm.z).filter fun y=>decide (atI y.1 v=atI x.r c))):=by show _=_;rw[vi hlt,hx]
   have hxH:Hid (x∈a):=hxm
   obtain ⟨nn,hnn⟩:∃nn,atI x.r c=nn:=⟨_,rfl⟩
   have hkey:keyOf O 3 (.int I nn)=some (.int I nn):=keyOf_int_mk Tryz.underlying3 (by rw[←hnn];exact wfN (sV (hH.out.2.2.2.1 x hxm).1))
   rw[hnn] at hcell hst
   rw[hp] at e0
   obtain ⟨WX,hWX⟩:∃WX,(wr.alloc (J #[V (some ⟨rb,ro,none⟩) x.r.length x.c,.int I x.n] 101))=WX:=⟨_,rfl⟩
   have hgX:Hid (Gr wr WX):=by show Gr _ _;rw[←hWX];exact (gR _).alloc _
   have hbX:Hid (Below w1.heap.size w1 WX):=hS.out.2.2.2.trans (hgX.out.below.mono hS.out.2.2.2.size)
   have y0:WX.cell? ⟨rb,ro+cn,none⟩=some (.int I nn):=(hgX.out.below.cell (p:=⟨rb,ro+cn,none⟩) hrb).trans hcell
   have x0:WX.cell? ⟨wr.heap.size,0,none⟩=some (V (some ⟨rb,ro,none⟩) x.r.length x.c):=by rw[←hWX];exact ab (gR _) rfl
   have x1:WX.cell? ⟨wr.heap.size,1,none⟩=some (.int I x.n):=by rw[←hWX];exact ab (gR _) rfl
   have hsX:wr.heap.size<WX.heap.size:=by rw[←hWX];simp
   have hcz:(cn:Int)<(x.r.length:Int):=by omega
   have hpH:Hid (x.p=some ⟨rb,ro,none⟩∧ay WX x.p x.r):=⟨hp,(hI.out.each x hxm).1.gr hgX.out⟩
   obtain rfl:=hcn
   clear hcs hx hxm hnn hp hcell hcl
   have hmp:Hid (WX.ownsMap O 3 (plainElem O 3) w.heap.size b.length D):=nI hR.out.map hbX.out
   cases hhas:Maps.has D (.int I nn)
   ·have hno:Hid ((b.map Itm.z).filter (fun y=>decide (atI y.1 v=nn))=[]):=by
     show _=_
     rw[List.filter_eq_nil_iff]
     intro y hy e
     obtain ⟨g,hg,e2⟩:=hinv.out.all y hy
     obtain ⟨g',hg',rfl⟩:=List.mem_map.1 hg
     have h1:=hR.out.plc.has nn
     rw[hhas] at h1
     have:=List.any_eq_false.1 h1.symm g' hg'
     simp at this
     exact this (e2.trans (by simpa using e))
    have hfin:Hid (e8 L (dv ((a.take (k+1)).map Itm.z) (b.map Itm.z) cn v)∧L.length≤401∧OwnT WX w1.heap.size u12 L∧Below w1.heap.size w1 WX):=⟨by rw[hst.out,hno.out];simpa[prs] using hS.out.1,hS.out.2.1,hS.out.2.2.1.gr hgX.out,hbX.out⟩
    go_wp2_with (first
     | (at_lookup;refine wpList_lookup_own_ok_int _ rfl _ _ 208 rfl 3 3 I sE Tryz.underlying208 Tryz.underlying3 (ug _) w.heap.size b.length _ rfl hmp.out _ _ rfl hkey ?_;intro c' hat' hwc)
     | fail)
    go_roundw
    case rel=>exact ⟨k+1,L,by omega,by go_num,hfin⟩
    case measure=>simp[intOf];omega
   ·obtain ⟨i,hi_,hin,hatB⟩:=hR.out.plc.find hhas
    have hatH:Hid (D.atKey (.int I nn) (.lit (.int I 0))= .lit (.int I i)):=hatB
    obtain ⟨G,gof,hGA,hGb,hgc⟩:=hrw.out.at hi_
    subst hGA
    obtain ⟨g,hg⟩:∃g,gs[i]=g:=⟨_,rfl⟩
    have g1:WX.cell? ⟨G,gof+i*2+1,none⟩=some (V g.p g.l.length g.c):=by
     have:=hgc i hi_ 1 (by omega)
     rw[hg] at this
     exact (hbX.out.cell (p:=⟨G,gof+i*2+1,none⟩) hGb).trans (by simpa[ff,Grp.v] using this)
    have hiz:(i:Int)<(gs.length:Int):=by omega
    have hgm:Hid (g∈gs):=by show _∈_;rw[←hg];exact gM hi_
    have hgl:Hid (g.l.map Itm.z=(b.map Itm.z).filter fun y=>decide (atI y.1 v=nn)):=by
     have:=hinv.out.pick g.z (List.mem_map.2 ⟨g,hgm.out,rfl⟩)
     have hn:g.z.1=nn:=by rw[←hin,hg];rfl
     rw[hn] at this
     exact this
    have hg4:g.l.length≤400:=nT (hR.out.sub g hgm.out).1 hbl
    clear hgc hg hi_ hin hatB
    go_wp2_with (first
     | (at_lookup;refine wpList_lookup_own_ok_int _ rfl _ _ 208 rfl 3 3 I sE Tryz.underlying208 Tryz.underlying3 (ug _) w.heap.size b.length _ rfl hmp.out _ _ rfl hkey ?_;intro c' hat' hwc;(obtain rfl:c'=(i:Int):=by (rw[hatH.out] at hat';cases hat';rfl)))
     | fail)
    obtain ⟨xb,hxb⟩:∃xb,wr.heap.size=xb:=⟨_,rfl⟩
    have hub:Hid (∀b,u12.ownBlock=some b→b≠xb):=fun b hb e=>by have:=(World.ownsRow.lt hS.out.2.2.1.own b hb).2;omega
    obtain ⟨P,hP⟩:∃P,dv ((a.take k).map Itm.z) (b.map Itm.z) cn v=P:=⟨_,rfl⟩
    have hO:Hid (e8 L P∧L.length≤401∧OwnT WX w1.heap.size u12 L∧dv ((a.take (k+1)).map Itm.z) (b.map Itm.z) cn v=P++prs x.z (g.l.map Itm.z)):=⟨by rw[←hP];exact hS.out.1,hS.out.2.1,hS.out.2.2.1.gr hgX.out,by rw[hst.out,hP,hgl.out]⟩
    have hxW:Hid (okR x.r=true∧okW x.n=true):=hH.out.2.2.2.1 x hxH.out
    rw[hxb] at x0 x1 hsX ⊢
    clear hmp hhas hat' hwc hkey y0 hS hst hgX hxb hWX hI
    go_loopw [12,50] (fun u i wi=>∃(m:Nat) (M:List Itm),m≤g.l.length∧i= .int I m∧Hid (e8 M (P++prs x.z ((g.l.take m).map Itm.z))∧M.length≤401∧OwnT wi w1.heap.size u M∧Below w1.heap.size w1 wi∧(∀b,u.ownBlock=some b→b≠xb)∧wi.cell? ⟨xb,0,none⟩=some (V (some ⟨rb,ro,none⟩) x.r.length x.c)∧wi.cell? ⟨xb,1,none⟩=some (.int I x.n)∧xb<wi.heap.size)) (fun _ i _=>g.l.length-(intOf i).toNat)
    case atStart=>exact ⟨0,L,nZ _,rfl,by simpa[prs] using hO.out.1,hO.out.2.1,hO.out.2.2.1,hbX.out,hub.out,x0,x1,hsX⟩
    case round =>
     obtain ⟨m,M,hm,rfl,hJ⟩:=hrel
     by_cases hlt2:m<g.l.length
     ·have hltz2:(m:Int)<(g.l.length:Int):=by omega
      have hIy:Hid (Items wr g.p g.l):=hR.out.items hH.out.2.1.items hJ.out.2.2.2.1 hgm.out
      obtain ⟨yb,yof,hyp,hyb,hycs⟩:=hIy.out.at hlt2
      obtain ⟨y,hy⟩:∃y,g.l[m]=y:=⟨_,rfl⟩
      obtain ⟨e2,e3⟩:=hycs m hlt2
      rw[hy] at e2 e3
      have hym:Hid (y∈g.l):=by show _∈_;rw[←hy];exact gM hlt2
      have hyW:Hid (okR y.r=true∧okW y.n=true):=hH.out.2.2.2.2 y ((hR.out.sub g hgm.out).2 y hym.out)
      have hst2:Hid (P++prs x.z ((g.l.take (m+1)).map Itm.z)=(P++prs x.z ((g.l.take m).map Itm.z))++[(x.r++y.r,x.n*y.n)]):=by show _=_;rw[xQ hlt2,hy,List.append_assoc];rfl
      have hbad:Hid (okW (x.n*y.n)=false→E=5∧mT (a.map Itm.z) (b.map Itm.z) cn v=[]):=fun hn=>by
       have hin:((x.r++y.r,x.n*y.n):Zit)∈dv (a.map Itm.z) (b.map Itm.z) cn v:=by
        refine xM (k:=k+1) _ _ _ ?_
        rw[hO.out.2.2.2]
        exact List.mem_append.2 (oR (List.mem_map.2 ⟨y.z,List.mem_map.2 ⟨y,hym.out,rfl⟩,rfl⟩))
       have hE5:kF (a.map Itm.z) (b.map Itm.z) cn v=5:=by
        unfold kF
        rw[if_neg]
        intro h
        have:=List.all_eq_true.1 h _ hin
        rw[hn] at this
        cases this
       exact ⟨by rw[←hEH.out,hE5],by unfold mT;rw[if_neg (by rw[hE5];decide)]⟩
      have hmb: -1125899906842624≤x.n*y.n∧x.n*y.n≤1125899906842624:=by
       have h1:=hxW.out.2
       have h2:=hyW.out.2
       simp only[okW,inB,Bool.and_eq_true,decide_eq_true_eq] at h1 h2
       exact oS (x:=x.n) (y:=y.n) ⟨by omega,by omega⟩ h2
      have hw1:IntKind.i64.wrap (x.n*y.n)=x.n*y.n:=by rw[IntKind.wrap_i64];omega
      obtain ⟨WY,hWY⟩:∃WY,(wr.alloc (J #[V y.p y.r.length y.c,.int I y.n] 101))=WY:=⟨_,rfl⟩
      have hgY:Hid (Gr wr WY):=by show Gr _ _;rw[←hWY];exact (gR _).alloc _
      have z0:WY.cell? ⟨wr.heap.size,0,none⟩=some (V y.p y.r.length y.c):=by rw[←hWY];exact ab (gR _) rfl
      have z1:WY.cell? ⟨wr.heap.size,1,none⟩=some (.int I y.n):=by rw[←hWY];exact ab (gR _) rfl
      have hsY:wr.heap.size<WY.heap.size:=by rw[←hWY];simp
      have k0:WY.cell? ⟨xb,0,none⟩=some (V (some ⟨rb,ro,none⟩) x.r.length x.c):=(hgY.out.below.cell (p:=⟨xb,0,none⟩) hJ.out.2.2.2.2.2.2.2).trans hJ.out.2.2.2.2.2.1
      have k1:WY.cell? ⟨xb,1,none⟩=some (.int I x.n):=(hgY.out.below.cell (p:=⟨xb,1,none⟩) hJ.out.2.2.2.2.2.2.2).trans hJ.out.2.2.2.2.2.2.1
      have hbY:Hid (Below w1.heap.size w1 WY):=hJ.out.2.2.2.1.trans (hgY.out.below.mono hJ.out.2.2.2.1.size)
      have hB5:Hid (Below w.heap.size w WY):=hR.out.bel.trans (hbY.out.mono hR.out.bel.size)
      obtain ⟨N,hN⟩:∃N,x.n*y.n=N:=⟨_,rfl⟩
      rw[hN] at hw1 hst2 hbad hmb
      have hNH:Hid (x.n*y.n=N):=hN
      rw[hyp]
      clear hycs hy
      by_cases hn1:N < -1048576
      ·have hfin:Hid (E=5∧mT (a.map Itm.z) (b.map Itm.z) cn v=[]):=hbad.out (by simp[okW,inB];omega)
       go_wp2
       go_ret2
       exact ⟨[],none,0,by rw[hfin.out.1];rfl,by rw[hfin.out.2];rfl,⟨⟨oL rfl,fun x hx=>(by cases hx)⟩,fun _=>rfl,nZ _⟩,hB5.out,NwT.none _ _⟩
      ·by_cases hn2:1048576<N
       ·have hfin:Hid (E=5∧mT (a.map Itm.z) (b.map Itm.z) cn v=[]):=hbad.out (by simp[okW,inB];omega)
        go_wp2
        go_ret2
        exact ⟨[],none,0,by rw[hfin.out.1];rfl,by rw[hfin.out.2];rfl,⟨⟨oL rfl,fun x hx=>(by cases hx)⟩,fun _=>rfl,nZ _⟩,hB5.out,NwT.none _ _⟩
       ·have hNok:Hid (okW N=true):=by show _=_;simp[okW,inB];omega
        obtain ⟨MA,mc,hmu,hmn,_,_⟩:=hJ.out.2.2.1.items
        subst hmu
        by_cases hfull:M.length≤400
        ·have hfz:(M.length:Int)≤400:=by omega
         obtain ⟨R,hRR⟩:∃R,x.r++y.r=R:=⟨_,rfl⟩
         have hx8:x.r.length≤8:=by have:=hxW.out.1;simp only[okR,Bool.and_eq_true,decide_eq_true_eq] at this;exact this.1
         have hy8:y.r.length≤8:=by have:=hyW.out.1;simp only[okR,Bool.and_eq_true,decide_eq_true_eq] at this;exact this.1
         have hcall0:=we x.r y.r (some ⟨rb,ro,none⟩) y.p x.c y.c WY hx8 hy8 (fun h=>by cases h) (hIy.out.each y hym.out).2.2 (by rw[←hpH.out.1];exact (((hH.out.1.items.each x hxH.out).1.below hB5.out))) ((hIy.out.each y hym.out).1.gr hgY.out)
         rw[hRR] at hcall0 hst2
         have hcall:Hid _:=hcall0
         have hR16:Hid (R.length≤16):=by show _≤_;rw[←hRR];simp;omega
         clear hcall0 hRR hx8 hy8
         go_wp2_with fail
         refine cM (show Calls _ _ _ _ _ from hcall.out) ?_
         rintro e w3 ⟨C,c2,rfl,r1,r2,r3,r4⟩
         have hb3:Hid (Below WY.heap.size WY w3∧Below w1.heap.size w1 w3):=⟨r4,hbY.out.trans (r4.mono hbY.out.size)⟩
         have hoX:Hid (OwnT (w3.alloc (J #[V C R.length c2,.int I N] 101)) w1.heap.size (V MA M.length mc) M∧au aQ 2 (w3.alloc (J #[V C R.length c2,.int I N] 101)) (some ⟨w3.heap.size,0,none⟩) [(⟨C,c2,R,N⟩:Itm)]∧Apart (w3.alloc (J #[V C R.length c2,.int I N] 101)) w1.heap.size (Value.slice MA M.length mc).ownBlock (⟨C,c2,R,N⟩:Itm)∧M.length+1≤maxLen∧(M.length+1)*32≤140737488355328∧Below w1.heap.size w1 (w3.alloc (J #[V C R.length c2,.int I N] 101))):=by
          have h16:=hR16.out
          refine ⟨((hJ.out.2.2.1.gr hgY.out).below r4).gr ((gR _).alloc _),da rfl (⟨C,c2,R,N⟩:Itm) _,⟨r1.gr ((gR _).alloc _),nT h16 (by decide),r2,fun ad had=>⟨?_,?_,?_⟩⟩,by unfold maxLen;omega,by omega,hb3.out.2.alloc hb3.out.2.size _⟩
          ·have h1:=(r3 ad had).1
           have h2:=hbY.out.size
           omega
          ·have h1:=(r3 ad had).2
           simp;omega
          ·intro e
           have h1:=(World.ownsRow.lt hJ.out.2.2.1.own ad.block e).2
           have h2:=(r3 ad had).1
           omega
         have c0:(w3.alloc (J #[V C R.length c2,.int I N] 101)).cell? ⟨xb,0,none⟩=some (V (some ⟨rb,ro,none⟩) x.r.length x.c):=(((r4.trans (((gR w3).alloc _).below.mono r4.size)).cell (p:=⟨xb,0,none⟩) (nL hJ.out.2.2.2.2.2.2.2 hgY.out.size)).trans k0)
         have c1:(w3.alloc (J #[V C R.length c2,.int I N] 101)).cell? ⟨xb,1,none⟩=some (.int I x.n):=(((r4.trans (((gR w3).alloc _).below.mono r4.size)).cell (p:=⟨xb,1,none⟩) (nL hJ.out.2.2.2.2.2.2.2 hgY.out.size)).trans k1)
         have hxl3:xb<(w3.alloc (J #[V C R.length c2,.int I N] 101)).heap.size:=nL hJ.out.2.2.2.2.2.2.2 (nT hgY.out.size (nT r4.size (by simp)))
         have hcH:Hid ((w3.alloc (J #[V C R.length c2,.int I N] 101)).cell? ⟨xb,0,none⟩=some (V (some ⟨rb,ro,none⟩) x.r.length x.c)∧(w3.alloc (J #[V C R.length c2,.int I N] 101)).cell? ⟨xb,1,none⟩=some (.int I x.n)∧xb<(w3.alloc (J #[V C R.length c2,.int I N] 101)).heap.size):=⟨c0,c1,hxl3⟩
         have q1:w3.cell? ⟨wr.heap.size,1,none⟩=some (.int I y.n):=(r4.cell (p:=⟨wr.heap.size,1,none⟩) hsY).trans z1
         clear r1 r2 r3 r4 hcall c0 c1 hxl3
         go_wp2_with (at_builtin;refine kS _ rfl _ _ rfl w1.heap.size (V MA M.length mc) M (⟨C,c2,R,N⟩:Itm) ⟨w3.heap.size,0,none⟩ 1 rfl rfl hoX.out.1 hoX.out.2.1 hoX.out.2.2.1 hoX.out.2.2.2.1 hoX.out.2.2.2.2.1 hoX.out.2.2.2.2.2.size ?_;intro v4 w4 hown4 hb4 hg4' hloc4)
         have hfin:Hid (e8 (M++[(⟨C,c2,R,N⟩:Itm)]) (P++prs x.z ((g.l.take (m+1)).map Itm.z))∧(M++[(⟨C,c2,R,N⟩:Itm)]).length≤401∧OwnT w4 w1.heap.size v4 (M++[(⟨C,c2,R,N⟩:Itm)])∧Below w1.heap.size w1 w4∧(∀b,v4.ownBlock=some b→b≠xb)∧w4.cell? ⟨xb,0,none⟩=some (V (some ⟨rb,ro,none⟩) x.r.length x.c)∧w4.cell? ⟨xb,1,none⟩=some (.int I x.n)∧xb<w4.heap.size):=by
          have hne:some xb≠(Value.slice MA M.length mc).ownBlock:=fun e=>hJ.out.2.2.2.2.1 xb e.symm rfl
          refine ⟨by rw[hst2.out];exact vA (y:=(⟨C,c2,R,N⟩:Itm)) hJ.out.1 hfull hNok.out,by simp;omega,hown4,hoX.out.2.2.2.2.2.trans hb4,fun bl hbl'=> ?_,(World.cell?_of_block (a:=⟨xb,0,none⟩) (hg4'.block _ hcH.out.2.2 hne)).trans hcH.out.1,(World.cell?_of_block (a:=⟨xb,1,none⟩) (hg4'.block _ hcH.out.2.2 hne)).trans hcH.out.2.1,nL hcH.out.2.2 hg4'.size⟩
          rcases hloc4 with e|e
          ·rw[e] at hbl';exact hJ.out.2.2.2.2.1 bl hbl'
          ·rw[e] at hbl'
           have h1:=hcH.out.2.2
           intro e2
           simp at hbl' h1
           omega
         clear hown4 hb4 hg4' hloc4
         go_roundw
         case rel=>exact ⟨m+1,M++[(⟨C,c2,R,N⟩:Itm)],by omega,by go_num,hfin⟩
         case measure=>simp[intOf];omega
        ·have hfz:¬(M.length:Int)≤400:=by omega
         have hfin:Hid (e8 M (P++prs x.z ((g.l.take (m+1)).map Itm.z))∧M.length≤401∧OwnT WY w1.heap.size (V MA M.length mc) M∧Below w1.heap.size w1 WY∧(∀b,(Value.slice MA M.length mc).ownBlock=some b→b≠xb)∧WY.cell? ⟨xb,0,none⟩=some (V (some ⟨rb,ro,none⟩) x.r.length x.c)∧WY.cell? ⟨xb,1,none⟩=some (.int I x.n)∧xb<WY.heap.size):=⟨by rw[hst2.out];exact vz hJ.out.1 hfull hNok.out,hJ.out.2.1,hJ.out.2.2.1.gr hgY.out,hbY.out,hJ.out.2.2.2.2.1,k0,k1,nL hJ.out.2.2.2.2.2.2.2 hgY.out.size⟩
         go_wp2
         go_roundw
         case rel=>exact ⟨m+1,M,by omega,by go_num,hfin⟩
         case measure=>simp[intOf];omega
     ·have hltz2:¬(m:Int)<(g.l.length:Int):=by omega
      have hfin:Hid (e8 M (dv ((a.take (k+1)).map Itm.z) (b.map Itm.z) cn v)∧M.length≤401∧OwnT wr w1.heap.size u12 M∧Below w1.heap.size w1 wr):=⟨by
       have:=hJ.out.1
       rw[List.take_of_length_le (by omega)] at this
       rw[hO.out.2.2.2];exact this,hJ.out.2.1,hJ.out.2.2.1,hJ.out.2.2.2.1⟩
      go_wp2
      go_roundw
      case rel=>exact ⟨k+1,M,by omega,by go_num,hfin⟩
      case measure=>simp[intOf];omega
  ·have hltz:¬(k:Int)<(a.length:Int):=by omega
   obtain ⟨A2,cap2,hv2,hn2,hit,_⟩:=hS.out.2.2.1.items
   have hall:Hid (L.map Itm.z=(dv (a.map Itm.z) (b.map Itm.z) c v).take 401∧kF (a.map Itm.z) (b.map Itm.z) c v=cw ((dv (a.map Itm.z) (b.map Itm.z) c v).take 401)):=by
    have h1:=hS.out.1
    rw[List.take_of_length_le (by omega)] at h1
    exact ⟨h1.1,by unfold kF;rw[if_pos h1.2]⟩
   have hN0:=pN (W:=wr) (A:=A2) (c:=cap2) (l:=L) ⟨hit,hn2,by have:=hS.out.2.1;unfold maxLen;omega⟩ hall.out.1
   have hN:Hid _:=hN0
   have hBw:Hid (Below w.heap.size w wr):=hR.out.bel.trans (hS.out.2.2.2.mono hR.out.bel.size)
   have hEn:Hid (cw ((dv (a.map Itm.z) (b.map Itm.z) c v).take 401)=E):=by show _=_;rw[←hall.out.2,hEH.out]
   subst hv2
   clear hit hn2 hN0
   go_wp2_with fail
   refine cM (show Calls _ _ _ _ _ from hN.out) ?_
   rintro e w2 ⟨L2,C2,k2,rfl,h1,h2,h3,h4⟩
   rw[hEn.out]
   have hfin:Hid (L2.map Itm.z=mT (a.map Itm.z) (b.map Itm.z) c v∧Lv w2 C2 k2 L2∧Below w.heap.size w w2∧NwT w2 k2 w.heap.size C2 L2):=by
    refine ⟨?_,h2,hBw.out.trans (h3.mono hBw.out.size),h4.mono hBw.out.size⟩
    rw[h1]
    unfold mT
    rw[hall.out.2]
    by_cases e:cw ((dv (a.map Itm.z) (b.map Itm.z) c v).take 401)=0
    ·rw[if_pos e]
    ·rw[if_neg e];exact mH e
   clear h1 h2 h3 h4 hN
   go_wp2
   go_ret2
   exact ⟨L2,C2,k2,rfl,hfin.out.1,hfin.out.2.1,hfin.out.2.2.1,hfin.out.2.2.2⟩

structure OneOk (s:Stp) (l:List Itm):Prop where
 len:l.length≤400
 ok:∀x∈l,okR x.r=true∧okW x.n=true
 k2:s.k=2→inB s.o 1 3=true∧∀x∈l,inB s.c 0 ((x.r.length:Int)-1)=true
 k3:s.k=3→s.l.length≤8∧∀x∈l,∀c∈s.l,inB c 0 ((x.r.length:Int)-1)=true
 k8:s.k=8→∀x∈l,inB s.c 0 ((x.r.length:Int)-1)=true
 k9:s.k=9→∀x∈l,inB s.c 0 ((x.r.length:Int)-1)=true∧inB s.v 0 ((x.r.length:Int)-1)=true

theorem zz (s:Stp) (l:List Itm) (A:Option Addr) (cap:Nat) (w:World) (hk:s.k=2∨s.k=3∨s.k=8∨s.k=7∨s.k=9) (ho:OneOk s l) (hr:Items w A l) (hs:ay w s.p s.l) :
  Calls O 100 #[.agg #[.int I s.k,.int I s.a,.int I s.b,.int I s.c,.int I s.o,.int I s.v,V s.p s.l.length s.n],V A l.length cap] w fun e w'=>∃(L:List Itm) (C:Option Addr) (k:Nat),e= .returned (V C L.length k)∧L.map Itm.z=el s (l.map Itm.z)∧Lv w' C k L∧L.length≤400∧Below w.heap.size w w':=by
 have hgX:Hid (Gr w (w.alloc (J #[.int I s.k,.int I s.a,.int I s.b,.int I s.c,.int I s.o,.int I s.v,V s.p s.l.length s.n] 105))):=(gR _).alloc _
 have hH:Hid (OneOk s l∧Items w A l∧ay w s.p s.l):=⟨ho,hr,hs⟩
 clear ho hr hs
 rcases hk with hk|hk|hk|hk|hk
 ·have hC0:=vO l A cap s.c s.o s.v (w.alloc (J #[.int I 2,.int I s.a,.int I s.b,.int I s.c,.int I s.o,.int I s.v,V s.p s.l.length s.n] 105)) hH.out.1.len (hH.out.2.1.gr ((gR _).alloc _)) (hH.out.1.k2 hk).2 (hH.out.1.k2 hk).1
  have hC:Hid _:=hC0
  have hF:Hid (el s (l.map Itm.z)=dn (l.map Itm.z) s.c s.o s.v):=by show _=_;unfold el;rw[if_pos hk]
  clear hC0
  rw[hk]
  clear hk
  go_enter Tryz.func100,Tryz.ntmps100
  go_wp2_with fail
  refine cM (show Calls _ _ _ _ _ from hC.out) ?_
  rintro e w2 ⟨L,C,k,rfl,h1,h2,h3,h4⟩
  have hfin:Hid (L.map Itm.z=el s (l.map Itm.z)∧Lv w2 C k L∧Below w.heap.size w w2):=⟨by rw[hF.out];exact h1,h2,((gR _).alloc _).below.trans (h4.mono (by simp))⟩
  clear h1 h2 h4
  go_wp2
  go_ret
  exact ⟨L,C,k,rfl,hfin.out.1,hfin.out.2.1,h3,hfin.out.2.2⟩
 ·have hC0:=xO l A s.p cap s.n s.l (w.alloc (J #[.int I 3,.int I s.a,.int I s.b,.int I s.c,.int I s.o,.int I s.v,V s.p s.l.length s.n] 105)) hH.out.1.len (hH.out.1.k3 hk).1 (hH.out.2.1.gr ((gR _).alloc _)) (hH.out.2.2.gr ((gR _).alloc _)) (hH.out.1.k3 hk).2
  have hC:Hid _:=hC0
  have hF:Hid (el s (l.map Itm.z)=gi (l.map Itm.z) s.l):=by show _=_;unfold el;rw[if_neg (by omega),if_pos hk]
  clear hC0
  rw[hk]
  clear hk
  go_enter Tryz.func100,Tryz.ntmps100
  go_wp2_with fail
  refine cM (show Calls _ _ _ _ _ from hC.out) ?_
  rintro e w2 ⟨L,C,k,rfl,h1,h2,h3,h4⟩
  have hfin:Hid (L.map Itm.z=el s (l.map Itm.z)∧Lv w2 C k L∧Below w.heap.size w w2):=⟨by rw[hF.out];exact h1,h2,((gR _).alloc _).below.trans (h4.mono (by simp))⟩
  clear h1 h2 h4
  go_wp2
  go_ret
  exact ⟨L,C,k,rfl,hfin.out.1,hfin.out.2.1,h3,hfin.out.2.2⟩
 ·have hC0:=uv l A cap s.c (w.alloc (J #[.int I 8,.int I s.a,.int I s.b,.int I s.c,.int I s.o,.int I s.v,V s.p s.l.length s.n] 105)) hH.out.1.len (hH.out.2.1.gr ((gR _).alloc _)) (hH.out.1.k8 hk) hH.out.1.ok
  have hC:Hid _:=hC0
  have hF:Hid (el s (l.map Itm.z)=lY (l.map Itm.z) s.c):=by show _=_;unfold el;rw[if_neg (by omega),if_neg (by omega),if_neg (by omega),if_pos hk]
  clear hC0
  rw[hk]
  clear hk
  go_enter Tryz.func100,Tryz.ntmps100
  go_wp2_with fail
  refine cM (show Calls _ _ _ _ _ from hC.out) ?_
  rintro e w2 ⟨L,C,k,rfl,h1,h2,h3,h4⟩
  have hfin:Hid (L.map Itm.z=el s (l.map Itm.z)∧Lv w2 C k L∧Below w.heap.size w w2):=⟨by rw[hF.out];exact h1,h2,((gR _).alloc _).below.trans (h4.mono (by simp))⟩
  clear h1 h2 h4
  go_wp2
  go_ret
  exact ⟨L,C,k,rfl,hfin.out.1,hfin.out.2.1,h3,hfin.out.2.2⟩
 ·have hC0:=wC l A cap (w.alloc (J #[.int I 7,.int I s.a,.int I s.b,.int I s.c,.int I s.o,.int I s.v,V s.p s.l.length s.n] 105)) hH.out.1.len (hH.out.2.1.gr ((gR _).alloc _))
  have hC:Hid _:=hC0
  have hF:Hid (el s (l.map Itm.z)=fQ (l.map Itm.z)):=by show _=_;unfold el;rw[if_neg (by omega),if_neg (by omega),if_pos hk]
  clear hC0
  rw[hk]
  clear hk
  go_enter Tryz.func100,Tryz.ntmps100
  go_wp2_with fail
  refine cM (show Calls _ _ _ _ _ from hC.out) ?_
  rintro e w2 ⟨L,C,k,rfl,h1,h2,h3,h4⟩
  have hfin:Hid (L.map Itm.z=el s (l.map Itm.z)∧Lv w2 C k L∧Below w.heap.size w w2):=⟨by rw[hF.out];exact h1,h2,((gR _).alloc _).below.trans (h4.mono (by simp))⟩
  clear h1 h2 h4
  go_wp2
  go_ret
  exact ⟨L,C,k,rfl,hfin.out.1,hfin.out.2.1,h3,hfin.out.2.2⟩
 ·have hC0:=yh l A cap s.c s.v (w.alloc (J #[.int I 9,.int I s.a,.int I s.b,.int I s.c,.int I s.o,.int I s.v,V s.p s.l.length s.n] 105)) hH.out.1.len (hH.out.2.1.gr ((gR _).alloc _)) (fun x hx=>(hH.out.1.k9 hk x hx).1) (fun x hx=>(hH.out.1.k9 hk x hx).2) hH.out.1.ok
  have hC:Hid _:=hC0
  have hF:Hid (el s (l.map Itm.z)=yg (l.map Itm.z) s.c s.v):=by show _=_;unfold el;rw[if_neg (by omega),if_neg (by omega),if_neg (by omega),if_neg (by omega)]
  clear hC0
  rw[hk]
  clear hk
  go_enter Tryz.func100,Tryz.ntmps100
  go_wp2_with fail
  refine cM (show Calls _ _ _ _ _ from hC.out) ?_
  rintro e w2 ⟨L,C,k,rfl,h1,h2,h3,h4⟩
  have hfin:Hid (L.map Itm.z=el s (l.map Itm.z)∧Lv w2 C k L∧Below w.heap.size w w2):=⟨by rw[hF.out];exact h1,h2,((gR _).alloc _).below.trans (h4.mono (by simp))⟩
  clear h1 h2 h4
  go_wp2
  go_ret
  exact ⟨L,C,k,rfl,hfin.out.1,hfin.out.2.1,h3,hfin.out.2.2⟩

theorem xx {b:List Zit} (h:ax b=0):i7 b=fs b:=by unfold i7;rw[if_pos h];rfl
theorem sY (a b:List Itm) (A B:Option Addr) (ca cb:Nat) (w:World) (ha:Lv w A ca a) (hb:Lv w B cb b) (he:ax (b.map Itm.z)=0) :
  Calls O 99 #[V A a.length ca,V B b.length cb] w fun e w'=>∃(L:List Itm) (C:Option Addr) (k:Nat),e= .returned (Z #[V C L.length k,.int I (nF (a.map Itm.z) (b.map Itm.z))])∧L.map Itm.z=sK (a.map Itm.z) (b.map Itm.z)∧Lv w' C k L∧Below w.heap.size w w'∧NwT w' k w.heap.size C L:=by
 have hN0:=B7 hb (m:=b.map Itm.z) rfl
 have hN:Hid _:=hN0
 have hH:Hid (Lv w A ca a∧ax (b.map Itm.z)=0):=⟨ha,he⟩
 clear hN0 ha hb
 rw[he] at hN
 clear he
 go_enter Tryz.func99,Tryz.ntmps99
 go_wp2_with fail
 refine cM (show Calls _ _ _ _ _ from hN.out) ?_
 rintro e w1 ⟨L1,C1,k1,rfl,h1,h2,h3⟩
 have hA0:=qn (hH.out.1.below h3) h2 (m:=a.map Itm.z) (n:=fs (b.map Itm.z)) rfl (by rw[h1,xx hH.out.2])
 have hA:Hid _:=hA0
 have hB:Hid (Below w.heap.size w w1):=h3
 clear hA0 h1 h2 h3 hN
 go_wp2_with fail
 refine cM (show Calls _ _ _ _ _ from hA.out) ?_
 rintro e w2 ⟨L,C,k,rfl,h1,h2,h3,h4⟩
 have hNw:Hid (NwT w2 k w.heap.size C L):=h4.mono hB.out.size
 have hfin:Hid (aW (a.map Itm.z) (fs (b.map Itm.z))=nF (a.map Itm.z) (b.map Itm.z)∧L.map Itm.z=sK (a.map Itm.z) (b.map Itm.z)∧Lv w2 C k L∧Below w.heap.size w w2):=by
  have hm:nF (a.map Itm.z) (b.map Itm.z)=aW (a.map Itm.z) (fs (b.map Itm.z)):=by unfold nF;rw[if_pos hH.out.2]
  refine ⟨hm.symm,?_,h2,hB.out.trans (h3.mono hB.out.size)⟩
  rw[h1]
  unfold sK
  rw[hm]
  by_cases e:aW (a.map Itm.z) (fs (b.map Itm.z))=0
  ·rw[if_pos e]
  ·rw[if_neg e];unfold aU;rw[if_neg e]
 clear h1 h2 h3 h4 hA
 go_wp2
 go_ret2
 exact ⟨L,C,k,by rw[hfin.out.1];rfl,hfin.out.2.1,hfin.out.2.2.1,hfin.out.2.2.2,hNw.out⟩
theorem Az {W:World} {A B:Option Addr} {c d:Nat} {l r:List Itm} (h:Lv W A c l) (h':Lv W B d r) (he:ax (r.map Itm.z)=0) {m n:List Zit} (hm:l.map Itm.z=m) (hn:r.map Itm.z=n) :
  Calls O 99 #[V A l.length c,V B r.length d] W fun e w'=>∃(L:List Itm) (C:Option Addr) (k:Nat),e= .returned (Z #[V C L.length k,.int I (nF m n)])∧L.map Itm.z=sK m n∧Lv w' C k L∧Below W.heap.size W w'∧NwT w' k W.heap.size C L:=by
 subst hm hn
 exact sY l r A B c d W h h' he
structure JoinOk (c v:Int) (l r:List Itm):Prop where
 la:l.length≤400
 lb:r.length≤400
 c:∀x∈l,inB c 0 ((x.r.length:Int)-1)=true
 v:∀x∈r,inB v 0 ((x.r.length:Int)-1)=true
 oa:∀x∈l,okR x.r=true∧okW x.n=true
 ob:∀x∈r,okR x.r=true∧okW x.n=true
theorem B4 {W:World} {A B:Option Addr} {c d:Nat} {l r:List Itm} {cc v:Int} (h:Lv W A c l) (h':Lv W B d r) (hJ:JoinOk cc v l r) {m n:List Zit} (hm:l.map Itm.z=m) (hn:r.map Itm.z=n) :
  Calls O 97 #[V A l.length c,V B r.length d,.int I cc,.int I v] W fun e w'=>∃(L:List Itm) (C:Option Addr) (k:Nat),e= .returned (Z #[V C L.length k,.int I (kF m n cc v)])∧L.map Itm.z=mT m n cc v∧Lv w' C k L∧Below W.heap.size W w'∧NwT w' k W.heap.size C L:=by
 subst hm hn
 exact vt l r A B c d cc v W hJ.la hJ.lb h h' hJ.c hJ.v hJ.oa hJ.ob
end Go.Proofs.YtkefkplnamkicaaGreatDoor

namespace Go.Proofs.YtkefkplnamkicaaGreatDoor

theorem jB {s:Stp} {t:List Stp} {ah:List Int} (h:(dw (s::t) ah).isSome=true):aO s ah≠0∧(dw t (ah++[aO s ah])).isSome=true:=by
 have h':(if aO s ah=0 then none else dw t (ah++[aO s ah])).isSome=true:=h
 by_cases e:aO s ah=0
 ·rw[if_pos e] at h';cases h'
 ·rw[if_neg e] at h';exact ⟨e,h'⟩
theorem fc {q:List Stp} (h:bV q=0):q≠[]∧q.length≤8∧(dw q []).isSome=true:=by
 unfold bV at h
 by_cases h0:q.length=0
 ·rw[if_pos h0] at h;cases h
 ·rw[if_neg h0] at h
  by_cases h8:8<q.length
  ·rw[if_pos h8] at h;cases h
  ·rw[if_neg h8] at h
   by_cases hs:(dw q []).isSome=true
   ·exact ⟨fun e=>h0 (by rw[e];rfl),by omega,hs⟩
   ·rw[if_neg hs] at h;cases h
theorem ui {a b:List Zit} {s:Stp} {t:List Stp} {S:List (List Zit)} (h:jg a b (s::t) S=0):aX s a b S=0∧jg a b t (S++[bf s a b S])=0∧jh a b (s::t) S=jh a b t (S++[bf s a b S]):=by
 have h':(if aX s a b S=0 then jg a b t (S++[bf s a b S]) else aX s a b S)=0:=h
 by_cases e:aX s a b S=0
 ·rw[if_pos e] at h'
  refine ⟨e,h',?_⟩
  show (if aX s a b S=0 then _ else [])=_
  rw[if_pos e]
 ·rw[if_neg e] at h';exact absurd h' e
theorem kj {a b:List Zit} (ha:cX 4 a) (hb:cX 4 b):∀(q:List Stp) (ah:List Int) (S:List (List Zit)),(dw q ah).isSome=true→Ahd S ah→jg a b q S=0→∃ah',Ahd (jh a b q S) ah'∧(jh a b q S).length=S.length+q.length
 | [],ah,S,_,hS,_=>⟨ah,hS,by simp[jh]⟩
 | s::t,ah,S,hw,hS,he=>by
  obtain ⟨h1,h2⟩:=jB hw
  obtain ⟨e1,e2,e3⟩:=ui he
  obtain ⟨r1,r2⟩:=nj h1 hS ha hb e1
  obtain ⟨ah',k1,k2⟩:=kj ha hb t _ _ h2 (hS.snoc r1 r2) e2
  rw[e3]
  exact ⟨ah',k1,by rw[k2];simp;omega⟩
def e7 (q:List Stp) (a b:List Zit):List Zit:=(j6 q a b).getD (q.length-1) []
theorem jt {q:List Stp} {a b:List Zit} (h:bY q a b=0):ny q a b=0∧jg a b q []=0∧j6 q a b=jh a b q []:=by
 have h':=h
 unfold bY at h
 by_cases e:ny q a b=0
 ·rw[if_pos e] at h
  exact ⟨e,h,by unfold j6;rw[if_pos h']⟩
 ·rw[if_neg e] at h;exact absurd h e
theorem dJ {q:List Stp} {a b:List Zit} (h:ny q a b=0):bV q=0∧ax a=0∧ax b=0∧cX 4 a∧cX 4 b:=by
 unfold ny at h
 by_cases h1:bV q=0
 ·rw[if_pos h1] at h
  by_cases h2:ax a=0
  ·rw[if_pos h2] at h
   by_cases h3:ax b=0
   ·rw[if_pos h3] at h
    by_cases h4:(a++b).all (fun x=>decide (x.1.length=4))=true
    ·have h5:∀x∈a++b,x.1.length=4:=fun x hx=>by simpa using List.all_eq_true.1 h4 x hx
     exact ⟨h1,h2,h3,fun x hx=>by rw[h5 x (List.mem_append.2 (Or.inl hx))];rfl,fun x hx=>by rw[h5 x (List.mem_append.2 (Or.inr hx))];rfl⟩
    ·rw[if_neg h4] at h;cases h
   ·rw[if_neg h3] at h;exact absurd h h3
  ·rw[if_neg h2] at h;exact absurd h h2
 ·rw[if_neg h1] at h;exact absurd h h1
theorem uF {q:List Stp} {a b:List Zit} (h:bY q a b=0):ax (e7 q a b)=0:=by
 obtain ⟨h1,h2,h3⟩:=jt h
 obtain ⟨k1,_,_,k4,k5⟩:=dJ h1
 obtain ⟨q1,_,q3⟩:=fc k1
 obtain ⟨ah',m1,m2⟩:=kj k4 k5 q [] [] q3 Ahd.nil h2
 have hq:0<q.length:=List.length_pos_iff.2 q1
 unfold e7
 rw[h3]
 exact (m1.ok _ (by rw[m2];simp;omega)).1
end Go.Proofs.YtkefkplnamkicaaGreatDoor
