/-
  The pairs of a join, in the order in which they are told; plain.rowOfBoth.
  plain.join.
  plain.itemsOfOne, plain.minus.
-/
import Derived.Test.YtkadjjmkokhldaaGreatM20
import Derived.Test.YtkadjjmkokhldaaGreatM21
namespace Go.Proofs.YtkadjjmkokhldaaGreat
open Go.RowKit Go.Sort Go.Maps

/-- Groups are what their numbers pick, in order. -/
structure GInvL (c:Int) (G:List (Int×List Zit)) (l:List Zit):Prop where
 uniq:G.Pairwise fun a b=>a.1≠b.1
 pick:∀g∈G,g.2=l.filter fun y=>decide (atI y.1 c=g.1)
 all:∀y∈l,∃g∈G,g.1=atI y.1 c
theorem putG_keys:∀(G:List (Int×List Zit)) (n:Int) (x:Zit),(putG G n x).map (·.1)=if n∈G.map (·.1) then G.map (·.1) else G.map (·.1)++[n]
 | [],n,x=>by simp[putG]
 | g::t,n,x=>by
  have ih:=putG_keys t n x
  by_cases e:g.1=n
  ·simp[putG,e]
  ·have e':¬n=g.1:=fun h=>e h.symm
   simp only[putG,if_neg e,List.map_cons,ih,List.mem_cons,e',false_or]
   split<;>simp
theorem putG_pick:∀(G:List (Int×List Zit)) (n:Int) (x:Zit),G.Pairwise (fun a b=>a.1≠b.1)→∀g∈putG G n x,(g.1≠n∧g∈G)∨(g.1=n∧((∃h∈G,h.1=n∧g.2=h.2++[x])∨((∀h∈G,h.1≠n)∧g.2=[x])))
 | [],n,x,_,g,hg=>by
  simp only[putG,List.mem_singleton] at hg
  subst hg
  exact Or.inr ⟨rfl,Or.inr ⟨fun h hh=>(by cases hh),rfl⟩⟩
 | h::t,n,x,hp,g,hg=>by
  have hp':=List.pairwise_cons.1 hp
  by_cases e:h.1=n
  ·simp only[putG,if_pos e] at hg
   rcases List.mem_cons.1 hg with k|k
   ·subst k;exact Or.inr ⟨e,Or.inl ⟨h,List.mem_cons_self ..,e,rfl⟩⟩
   ·refine Or.inl ⟨fun k2=>hp'.1 g k (by rw[e,k2]),List.mem_cons_of_mem _ k⟩
  ·simp only[putG,if_neg e] at hg
   rcases List.mem_cons.1 hg with k|k
   ·subst k;exact Or.inl ⟨e,List.mem_cons_self ..⟩
   ·rcases putG_pick t n x hp'.2 g k with ⟨a1,a2⟩|⟨a1,⟨h2,b1,b2,b3⟩|⟨b1,b2⟩⟩
    ·exact Or.inl ⟨a1,List.mem_cons_of_mem _ a2⟩
    ·exact Or.inr ⟨a1,Or.inl ⟨h2,List.mem_cons_of_mem _ b1,b2,b3⟩⟩
    ·refine Or.inr ⟨a1,Or.inr ⟨fun h3 h4=> ?_,b2⟩⟩
     rcases List.mem_cons.1 h4 with k3|k3
     ·rw[k3];exact e
     ·exact b1 h3 k3
theorem GInvL.step {c:Int} {G:List (Int×List Zit)} {l:List Zit} (h:GInvL c G l) (x:Zit):GInvL c (putG G (atI x.1 c) x) (l++[x]):=by
 have hk:=putG_keys G (atI x.1 c) x
 refine ⟨?_,fun g hg=> ?_,fun y hy=> ?_⟩
 ·have:((putG G (atI x.1 c) x).map (·.1)).Pairwise (· ≠ ·):=by
   rw[hk]
   split
   ·exact List.pairwise_map.2 h.uniq
   ·rename_i hn
    exact List.pairwise_append.2 ⟨List.pairwise_map.2 h.uniq,List.pairwise_singleton _ _,fun a ha b hb e=>by rw[List.mem_singleton.1 hb] at e;exact hn (e▸ha)⟩
  exact List.pairwise_map.1 this
 ·rw[List.filter_append]
  rcases putG_pick G _ x h.uniq g hg with ⟨a1,a2⟩|⟨a1,⟨h2,b1,b2,b3⟩|⟨b1,b2⟩⟩
  ·have:decide (atI x.1 c=g.1)=false:=by simpa using fun k=>a1 k.symm
   simp[this,h.pick g a2]
  ·rw[b3,h.pick h2 b1,b2,a1]
   simp
  ·have hn:l.filter (fun y=>decide (atI y.1 c=g.1))=[]:=by
    rw[List.filter_eq_nil_iff]
    intro y hy e
    obtain ⟨g2,hg2,e2⟩:=h.all y hy
    exact b1 g2 hg2 (by rw[e2,←a1];simpa using e)
   rw[hn,b2,a1]
   simp
 ·have hmem:∀n,n∈(putG G (atI x.1 c) x).map (·.1)↔n∈G.map (·.1)∨n=atI x.1 c:=fun n=>by
   rw[hk]
   split
   ·rename_i hin
    exact ⟨Or.inl,fun k=>k.elim id (fun e=>e▸hin)⟩
   ·simp
  have:atI y.1 c∈(putG G (atI x.1 c) x).map (·.1):=by
   rw[hmem]
   rcases List.mem_append.1 hy with e|e
   ·obtain ⟨g,hg,e2⟩:=h.all y e
    exact Or.inl (List.mem_map.2 ⟨g,hg,e2⟩)
   ·rw[List.mem_singleton.1 e];exact Or.inr rfl
  obtain ⟨g,hg,e⟩:=List.mem_map.1 this
  exact ⟨g,hg,e⟩
theorem ginvL_fold {c:Int}:∀(m:List Zit) {G:List (Int×List Zit)} {l:List Zit},GInvL c G l→GInvL c (m.foldl (fun g x=>putG g (atI x.1 c) x) G) (l++m)
 | [],_,_,h=>by simpa using h
 | x::m,_,l,h=>by
  have:=ginvL_fold m (h.step x)
  simpa using this
theorem grpL_inv (l:List Zit) (c:Int):GInvL c (grpL l c) l:=by
 have:=ginvL_fold (c:=c) l (G:=[]) (l:=[]) ⟨List.Pairwise.nil,fun g hg=>(by cases hg),fun y hy=>(by cases hy)⟩
 rw[List.nil_append] at this
 exact this
def prs (x:Zit) (l:List Zit):List Zit:=l.map fun y=>(x.1++y.1,x.2*y.2)
theorem pair_take {a:List Itm} {k:Nat} (h:k<a.length) (b:List Zit) (c v:Int):pairL ((a.take (k+1)).map Itm.z) b c v=pairL ((a.take k).map Itm.z) b c v++prs a[k].z (b.filter fun y=>decide (atI y.1 v=atI a[k].r c)):=by
 rw[List.take_succ_eq_append_getElem h,List.map_append]
 unfold pairL prs
 rw[List.flatMap_append]
 simp[Itm.z]
theorem prs_take {x:Zit} {l:List Itm} {m:Nat} (h:m<l.length):prs x ((l.take (m+1)).map Itm.z)=prs x ((l.take m).map Itm.z)++[(x.1++l[m].r,x.2*l[m].n)]:=by
 rw[List.take_succ_eq_append_getElem h,List.map_append]
 unfold prs
 rw[List.map_append]
 rfl
theorem pair_sub {a:List Itm} {k:Nat} (b:List Zit) (c v:Int) {p:Zit} (h:p∈pairL ((a.take k).map Itm.z) b c v):p∈pairL (a.map Itm.z) b c v:=by
 unfold pairL at h ⊢
 obtain ⟨x,hx,hp⟩:=List.mem_flatMap.1 h
 obtain ⟨y,hy,e⟩:=List.mem_map.1 hx
 exact List.mem_flatMap.2 ⟨x,List.mem_map.2 ⟨y,List.mem_of_mem_take hy,e⟩,hp⟩

set_option maxHeartbeats 1000000 in
theorem both_any (l m:List Int) (A B:Option Addr) (ca cb:Nat) (w:World) (hl:l.length≤8) (hm:m.length≤8) (hA:A=none→ca=0) (hB:B=none→cb=0) (hr:RowI w A l) (hs:RowI w B m) :
  Calls Tryz.prog 159 #[.slice A l.length ca,.slice B m.length cb] w fun e w'=>∃C c,e= .returned (.slice C (l++m).length c)∧RowI w' C (l++m)∧(C=none→c=0)∧(∀a,C=some a→w.heap.size≤a.block∧a.block<w'.heap.size)∧Below w.heap.size w w':=by
 have hlm:Hid (0+l.length≤maxLen∧(0+l.length)*8≤140737488355328∧([]++l).length+m.length≤maxLen∧(([]++l).length+m.length)*8≤140737488355328):=by show _∧_;unfold maxLen;simp;omega
 have hrH:Hid (RowI w A l∧(A=none→ca=0)∧RowI w B m∧(B=none→cb=0)):=⟨hr,hA,hs,hB⟩
 clear hr hA hs hB
 go_enter Tryz.func159,Tryz.ntmps159
 go_wp2_with (first|(at_builtin;refine wpList_append_i _ rfl _ _ rfl w.heap.size (.slice none 0 0) [] l A ca rfl rfl (OwnG.nil _ _ _ _ _) hrH.out.1 hrH.out.2.1 hlm.out.1 hlm.out.2.1 (Nat.le_refl _) ?_;intro v1 w1 hown1 hgr1)|(at_builtin;refine wpList_append_i _ rfl _ _ rfl w.heap.size v1 ([]++l) m B cb rfl rfl hown1 (hrH.out.2.2.1.below (below_none hgr1)) hrH.out.2.2.2 hlm.out.2.2.1 hlm.out.2.2.2 (below_none hgr1).size ?_;intro v2 w2 hown2 hgr2))
 have hb3:Hid (Below w.heap.size w w2):=(below_none hgr1).trans (OwnG.grown_below hown1 hgr2 (below_none hgr1).size)
 obtain ⟨C,c,rfl,hC,hrow,hlt⟩:=OwnG.row encI_len hown2
 have hfin:Hid (RowI w2 C (l++m)∧(C=none→c=0)∧(∀a,C=some a→w.heap.size≤a.block∧a.block<w2.heap.size)):=⟨by simpa using hrow,hC,hlt⟩
 clear hown1 hgr1 hown2 hgr2 hC hrow hlt
 go_wp2
 go_ret
 exact ⟨C,c,by simp,hfin.out.1,hfin.out.2.1,hfin.out.2.2,hb3.out⟩
end Go.Proofs.YtkadjjmkokhldaaGreat

namespace Go.Proofs.YtkadjjmkokhldaaGreat
open Go.RowKit Go.Sort Go.Maps

theorem ownsMap_below {w w':World} {H:Type} {k:TypeId} {R:Value→Option (DataW H×List MemPlace)} {b n:Nat} {D:DataW H} (h:w.ownsMap Tryz.prog k R b n D) (q:Below w.heap.size w w'):w'.ownsMap Tryz.prog k R b n D :=
 h.kept (row:=none) ⟨q.os,q.tape,q.output,q.size,fun j hj _=>q.block j hj⟩ (by simp)
/-- What is told of pairs so far. -/
def Some401 (L:List Itm) (P:List Zit):Prop:=L.map Itm.z=P.take 401∧P.all (fun x=>okW x.2)=true

theorem some_more {M:List Itm} {Q:List Zit} (h:Some401 M Q) (hM:M.length≤400) {y:Itm} (hy:okW y.n=true):Some401 (M++[y]) (Q++[y.z]):=by
 have hl:Q.length≤400:=by
  have:=congrArg List.length h.1
  simp only[List.length_map,List.length_take] at this
  omega
 refine ⟨?_,?_⟩
 ·rw[List.map_append,h.1,List.take_of_length_le (by omega),List.take_of_length_le (by simp;omega)]
  rfl
 ·rw[List.all_append,h.2]
  simpa[Itm.z] using hy
theorem some_full {M:List Itm} {Q:List Zit} (h:Some401 M Q) (hM:¬M.length≤400) {y:Zit} (hy:okW y.2=true):Some401 M (Q++[y]):=by
 have hl:401≤Q.length:=by
  have:=congrArg List.length h.1
  simp only[List.length_map,List.length_take] at this
  omega
 refine ⟨?_,?_⟩
 ·rw[h.1,List.take_append_of_le_length hl]
 ·rw[List.all_append,h.2]
  simpa using hy
theorem wpList_append_t5 (w:World) {ops:Array Oper} {rest:List Oper} {o:Oper} {a:Act} {Q:Exit→Act→World→Prop} (hgd:o.guard=none) (s z:Operand)
  (ho:o.op= .call { callee:= .builtin .append,args:= #[s,z],argTypes:= #[62,62] })
  (base:Nat) (v:Value) (l:List Itm) (x:Itm) (A:Addr) (cap:Nat) (hs:a.eval s=v) (hz:a.eval z= .slice (some A) 1 cap) (hown:OwnT w base v l) (hr:RowG encT 2 w (some A) [x]) (hx:Apart w base v.ownBlock x)
  (hml:l.length+1≤maxLen) (hb:(l.length+1)*32≤140737488355328) (hbase:base≤w.heap.size)
  (h:∀v' w',OwnT w' base v' (l++[x])→Below base w w'→w.grownBy w' v.ownBlock→(v'.ownBlock=v.ownBlock∨v'.ownBlock=some w.heap.size)→wpList Tryz.prog ops Q rest (a.put o.dst v') w'):wpList Tryz.prog ops Q (o::rest) a w :=
 wpList_plain hgd fun _ hK=>by
  obtain ⟨i0,hi,hz0,hz1,hz2⟩:=info_parts Tryz.infoT
  obtain ⟨v',w',g1,g2,g3,_,g5⟩:=run_append_own_at (P:=Tryz.prog) w base 62 o.type 90 i0 (.agg #[.slice none 0 0,.int .i64 0]) 2 32 Tryz.underlying62 hi hz0 hz1 hz2 rfl (by omega) v l.length (flatG encT l) hown.own A 1 cap (flatG encT [x]) (flatG_length encT_len [x]) (hr.cells encT_len (by omega)) (fun u hu=>flatG_one encT_one u [x] hu) hml hb hbase
  have h2:OwnT w' base v' (l++[x]):=by
   refine ⟨?_,fun y hy=> ?_⟩
   ·show w'.ownsRow base _ 2 v' (l++[x]).length (flatG encT (l++[x]))
    rw[List.length_append,flatG_append]
    exact g2
   ·rcases List.mem_append.1 hy with k|k
    ·exact (hown.each y k).grown g3 g5
    ·have:y=x:=by simpa using k
     subst this
     exact hx.grown g3 g5
  unfold Oper.wp execOp
  simp only[ho,resolve,invoke,builtin,Sem.run_bind,Sem.run_pure,Result.andThen_ok,List.map_toArray,List.map_cons,List.map_nil,hs,hz,g1]
  exact hK _ _ (h v' w' h2 (OwnG.grown_below hown.own g3 hbase) g3 g5)

set_option maxRecDepth 100000 in
set_option maxHeartbeats 2000000 in
theorem pjoin_any (a b:List Itm) (A B:Option Addr) (ca cb:Nat) (c v:Int) (w:World) (hal:a.length≤400) (hbl:b.length≤400) (ha:Lv w A ca a) (hb:Lv w B cb b) (hc:∀x∈a,inB c 0 ((x.r.length:Int)-1)=true) (hv:∀x∈b,inB v 0 ((x.r.length:Int)-1)=true) (hoa:∀x∈a,okR x.r=true∧okW x.n=true) (hob:∀x∈b,okR x.r=true∧okW x.n=true) :
  Calls Tryz.prog 141 #[.slice A a.length ca,.slice B b.length cb,.int .i64 c,.int .i64 v] w fun e w'=>∃(L:List Itm) (C:Option Addr) (k:Nat),e= .returned (.tuple #[.slice C L.length k,.int .i64 (pjnE (a.map Itm.z) (b.map Itm.z) c v)])∧L.map Itm.z=pjnF (a.map Itm.z) (b.map Itm.z) c v∧Lv w' C k L∧Below w.heap.size w w'∧NwT w' k w.heap.size C L:=by
 have hH:Hid (Lv w A ca a∧Lv w B cb b∧(∀x∈a,inB c 0 ((x.r.length:Int)-1)=true)∧(∀x∈a,okR x.r=true∧okW x.n=true)∧(∀x∈b,okR x.r=true∧okW x.n=true)):=⟨ha,hb,hc,hoa,hob⟩
 have hG0:=groups_any b B cb v w hbl hb.items hv (fun x hx=>(hob x hx).1)
 have hG:Hid _:=hG0
 obtain ⟨E,hE⟩:∃E,pjnE (a.map Itm.z) (b.map Itm.z) c v=E:=⟨_,rfl⟩
 have hEH:Hid (pjnE (a.map Itm.z) (b.map Itm.z) c v=E):=hE
 rw[hE]
 clear hG0 ha hb hc hv hoa hob hE
 go_enter Tryz.func141,Tryz.ntmps141
 go_wp2_with fail
 refine Calls.mono (show Calls _ _ _ _ _ from hG.out) ?_
 rintro e w1 ⟨gs,vv,D,rfl,hR0⟩
 have hR:Hid (GInv w w1 b v b.length vv gs D):=hR0
 obtain ⟨GA,gcap,hvv,_,hrow,_⟩:=hR.out.gps.own.row encP_len
 have hrw:Hid (RowG encP 2 w1 GA gs):=hrow
 subst hvv
 clear hR0 hrow hG
 have hinv:Hid (GInvL v (gs.map Grp.z) (b.map Itm.z)):=by
  show GInvL _ _ _
  have:=grpL_inv (b.map Itm.z) v
  rw[←List.take_length (l:=b),←hR.out.z,List.take_length] at this
  exact this
 go_wp2
 go_loopw [12,28] (fun u i wr=>∃(k:Nat) (L:List Itm),k≤a.length∧i= .int .i64 k∧Hid (Some401 L (pairL ((a.take k).map Itm.z) (b.map Itm.z) c v)∧L.length≤401∧OwnT wr w1.heap.size u L∧Below w1.heap.size w1 wr)) (fun _ i _=>a.length-(intOf i).toNat)
 case atStart=>exact ⟨0,[],Nat.zero_le _,rfl,⟨rfl,rfl⟩,by simp,OwnT.nil _ _,Below.refl _ _⟩
 case round =>
  obtain ⟨k,L,hk,rfl,hS⟩:=hrel
  by_cases hlt:k<a.length
  ·have hltz:(k:Int)<(a.length:Int):=by omega
   have hI:Hid (Items wr A a):=(hH.out.1.items.below hR.out.bel).below hS.out.2.2.2
   obtain ⟨bb,off,rfl,hb,hcs⟩:=hI.out.at hlt
   obtain ⟨x,hx⟩:∃x,a[k]=x:=⟨_,rfl⟩
   obtain ⟨e0,e1⟩:=hcs k hlt
   rw[hx] at e0 e1
   have hxm:x∈a:=by rw[←hx];exact List.getElem_mem hlt
   obtain ⟨rb,ro,cn,hp,hrb,hcn,hcl,hcell⟩:=rowI_atI (hI.out.each x hxm).1 (hH.out.2.2.1 x hxm)
   have hst:Hid (pairL ((a.take (k+1)).map Itm.z) (b.map Itm.z) c v=pairL ((a.take k).map Itm.z) (b.map Itm.z) c v++prs x.z ((b.map Itm.z).filter fun y=>decide (atI y.1 v=atI x.r c))):=by show _=_;rw[pair_take hlt,hx]
   have hxH:Hid (x∈a):=hxm
   obtain ⟨nn,hnn⟩:∃nn,atI x.r c=nn:=⟨_,rfl⟩
   have hkey:keyOf Tryz.prog 3 (.int .i64 nn)=some (.int .i64 nn):=keyOf_int_mk Tryz.underlying3 (by rw[←hnn];exact wfN (okN_at (hH.out.2.2.2.1 x hxm).1))
   rw[hnn] at hcell hst
   rw[hp] at e0
   obtain ⟨WX,hWX⟩:∃WX,(wr.alloc (.cells #[.slice (some ⟨rb,ro,none⟩) x.r.length x.c,.int .i64 x.n] 90))=WX:=⟨_,rfl⟩
   have hgX:Hid (Gr wr WX):=by show Gr _ _;rw[←hWX];exact (Gr.refl _).alloc _
   have hbX:Hid (Below w1.heap.size w1 WX):=hS.out.2.2.2.trans (hgX.out.below.mono hS.out.2.2.2.size)
   have y0:WX.cell? ⟨rb,ro+cn,none⟩=some (.int .i64 nn):=(hgX.out.below.cell (p:=⟨rb,ro+cn,none⟩) hrb).trans hcell
   have x0:WX.cell? ⟨wr.heap.size,0,none⟩=some (.slice (some ⟨rb,ro,none⟩) x.r.length x.c):=by rw[←hWX];exact box1 (Gr.refl _) rfl
   have x1:WX.cell? ⟨wr.heap.size,1,none⟩=some (.int .i64 x.n):=by rw[←hWX];exact box1 (Gr.refl _) rfl
   have hsX:wr.heap.size<WX.heap.size:=by rw[←hWX];simp
   have hcz:(cn:Int)<(x.r.length:Int):=by omega
   have hpH:Hid (x.p=some ⟨rb,ro,none⟩∧RowI WX x.p x.r):=⟨hp,(hI.out.each x hxm).1.gr hgX.out⟩
   obtain rfl:=hcn
   clear hcs hx hxm hnn hp hcell hcl
   have hmp:Hid (WX.ownsMap Tryz.prog 3 (plainElem Tryz.prog 3) w.heap.size b.length D):=ownsMap_below hR.out.map hbX.out
   cases hhas:Maps.has D (.int .i64 nn)
   ·have hno:Hid ((b.map Itm.z).filter (fun y=>decide (atI y.1 v=nn))=[]):=by
     show _=_
     rw[List.filter_eq_nil_iff]
     intro y hy e
     obtain ⟨g,hg,e2⟩:=hinv.out.all y hy
     obtain ⟨g',hg',rfl⟩:=List.mem_map.1 hg
     have h1:=hR.out.plc.has nn
     rw[hhas] at h1
     have:=List.any_eq_false.1 h1.symm g' hg'
     simp at this
     exact this (e2.trans (by simpa using e))
    have hfin:Hid (Some401 L (pairL ((a.take (k+1)).map Itm.z) (b.map Itm.z) cn v)∧L.length≤401∧OwnT WX w1.heap.size u12 L∧Below w1.heap.size w1 WX):=⟨by rw[hst.out,hno.out];simpa[prs] using hS.out.1,hS.out.2.1,hS.out.2.2.1.gr hgX.out,hbX.out⟩
    go_wp2_with (first
     | (at_lookup;refine wpList_lookup_own_ok_int _ rfl _ _ 208 rfl 3 3 .i64 lawI Tryz.underlying208 Tryz.underlying3 (zeroI _) w.heap.size b.length _ rfl hmp.out _ _ rfl hkey ?_;intro c' hat' hwc)
     | fail)
    go_roundw
    case rel=>exact ⟨k+1,L,by omega,by go_num,hfin⟩
    case measure=>simp[intOf];omega
   ·obtain ⟨i,hi_,hin,hatB⟩:=hR.out.plc.find hhas
    have hatH:Hid (D.atKey (.int .i64 nn) (.lit (.int .i64 0))= .lit (.int .i64 i)):=hatB
    obtain ⟨G,gof,hGA,hGb,hgc⟩:=hrw.out.at hi_
    subst hGA
    obtain ⟨g,hg⟩:∃g,gs[i]=g:=⟨_,rfl⟩
    have g1:WX.cell? ⟨G,gof+i*2+1,none⟩=some (.slice g.p g.l.length g.c):=by
     have:=hgc i hi_ 1 (by omega)
     rw[hg] at this
     exact (hbX.out.cell (p:=⟨G,gof+i*2+1,none⟩) hGb).trans (by simpa[encP,Grp.v] using this)
    have hiz:(i:Int)<(gs.length:Int):=by omega
    have hgm:Hid (g∈gs):=by show _∈_;rw[←hg];exact List.getElem_mem hi_
    have hgl:Hid (g.l.map Itm.z=(b.map Itm.z).filter fun y=>decide (atI y.1 v=nn)):=by
     have:=hinv.out.pick g.z (List.mem_map.2 ⟨g,hgm.out,rfl⟩)
     have hn:g.z.1=nn:=by rw[←hin,hg];rfl
     rw[hn] at this
     exact this
    have hg4:g.l.length≤400:=Nat.le_trans (hR.out.sub g hgm.out).1 hbl
    clear hgc hg hi_ hin hatB
    go_wp2_with (first
     | (at_lookup;refine wpList_lookup_own_ok_int _ rfl _ _ 208 rfl 3 3 .i64 lawI Tryz.underlying208 Tryz.underlying3 (zeroI _) w.heap.size b.length _ rfl hmp.out _ _ rfl hkey ?_;intro c' hat' hwc;(obtain rfl:c'=(i:Int):=by (rw[hatH.out] at hat';cases hat';rfl)))
     | fail)
    obtain ⟨xb,hxb⟩:∃xb,wr.heap.size=xb:=⟨_,rfl⟩
    have hub:Hid (∀b,u12.ownBlock=some b→b≠xb):=fun b hb e=>by have:=(World.ownsRow.lt hS.out.2.2.1.own b hb).2;omega
    obtain ⟨P,hP⟩:∃P,pairL ((a.take k).map Itm.z) (b.map Itm.z) cn v=P:=⟨_,rfl⟩
    have hO:Hid (Some401 L P∧L.length≤401∧OwnT WX w1.heap.size u12 L∧pairL ((a.take (k+1)).map Itm.z) (b.map Itm.z) cn v=P++prs x.z (g.l.map Itm.z)):=⟨by rw[←hP];exact hS.out.1,hS.out.2.1,hS.out.2.2.1.gr hgX.out,by rw[hst.out,hP,hgl.out]⟩
    have hxW:Hid (okR x.r=true∧okW x.n=true):=hH.out.2.2.2.1 x hxH.out
    rw[hxb] at x0 x1 hsX ⊢
    clear hmp hhas hat' hwc hkey y0 hS hst hgX hxb hWX hI
    go_loopw [12,50] (fun u i wi=>∃(m:Nat) (M:List Itm),m≤g.l.length∧i= .int .i64 m∧Hid (Some401 M (P++prs x.z ((g.l.take m).map Itm.z))∧M.length≤401∧OwnT wi w1.heap.size u M∧Below w1.heap.size w1 wi∧(∀b,u.ownBlock=some b→b≠xb)∧wi.cell? ⟨xb,0,none⟩=some (.slice (some ⟨rb,ro,none⟩) x.r.length x.c)∧wi.cell? ⟨xb,1,none⟩=some (.int .i64 x.n)∧xb<wi.heap.size)) (fun _ i _=>g.l.length-(intOf i).toNat)
    case atStart=>exact ⟨0,L,Nat.zero_le _,rfl,by simpa[prs] using hO.out.1,hO.out.2.1,hO.out.2.2.1,hbX.out,hub.out,x0,x1,hsX⟩
    case round =>
     obtain ⟨m,M,hm,rfl,hJ⟩:=hrel
     by_cases hlt2:m<g.l.length
     ·have hltz2:(m:Int)<(g.l.length:Int):=by omega
      have hIy:Hid (Items wr g.p g.l):=hR.out.items hH.out.2.1.items hJ.out.2.2.2.1 hgm.out
      obtain ⟨yb,yof,hyp,hyb,hycs⟩:=hIy.out.at hlt2
      obtain ⟨y,hy⟩:∃y,g.l[m]=y:=⟨_,rfl⟩
      obtain ⟨e2,e3⟩:=hycs m hlt2
      rw[hy] at e2 e3
      have hym:Hid (y∈g.l):=by show _∈_;rw[←hy];exact List.getElem_mem hlt2
      have hyW:Hid (okR y.r=true∧okW y.n=true):=hH.out.2.2.2.2 y ((hR.out.sub g hgm.out).2 y hym.out)
      have hst2:Hid (P++prs x.z ((g.l.take (m+1)).map Itm.z)=(P++prs x.z ((g.l.take m).map Itm.z))++[(x.r++y.r,x.n*y.n)]):=by show _=_;rw[prs_take hlt2,hy,List.append_assoc];rfl
      have hbad:Hid (okW (x.n*y.n)=false→E=5∧pjnF (a.map Itm.z) (b.map Itm.z) cn v=[]):=fun hn=>by
       have hin:((x.r++y.r,x.n*y.n):Zit)∈pairL (a.map Itm.z) (b.map Itm.z) cn v:=by
        refine pair_sub (k:=k+1) _ _ _ ?_
        rw[hO.out.2.2.2]
        exact List.mem_append.2 (Or.inr (List.mem_map.2 ⟨y.z,List.mem_map.2 ⟨y,hym.out,rfl⟩,rfl⟩))
       have hE5:pjnE (a.map Itm.z) (b.map Itm.z) cn v=5:=by
        unfold pjnE
        rw[if_neg]
        intro h
        have:=List.all_eq_true.1 h _ hin
        rw[hn] at this
        cases this
       exact ⟨by rw[←hEH.out,hE5],by unfold pjnF;rw[if_neg (by rw[hE5];decide)]⟩
      have hmb: -1125899906842624≤x.n*y.n∧x.n*y.n≤1125899906842624:=by
       have h1:=hxW.out.2
       have h2:=hyW.out.2
       simp only[okW,inB,Bool.and_eq_true,decide_eq_true_eq] at h1 h2
       exact mul_bound (x:=x.n) (y:=y.n) ⟨by omega,by omega⟩ h2
      have hw1:IntKind.i64.wrap (x.n*y.n)=x.n*y.n:=by rw[IntKind.wrap_i64];omega
      obtain ⟨WY,hWY⟩:∃WY,(wr.alloc (.cells #[.slice y.p y.r.length y.c,.int .i64 y.n] 90))=WY:=⟨_,rfl⟩
      have hgY:Hid (Gr wr WY):=by show Gr _ _;rw[←hWY];exact (Gr.refl _).alloc _
      have z0:WY.cell? ⟨wr.heap.size,0,none⟩=some (.slice y.p y.r.length y.c):=by rw[←hWY];exact box1 (Gr.refl _) rfl
      have z1:WY.cell? ⟨wr.heap.size,1,none⟩=some (.int .i64 y.n):=by rw[←hWY];exact box1 (Gr.refl _) rfl
      have hsY:wr.heap.size<WY.heap.size:=by rw[←hWY];simp
      have k0:WY.cell? ⟨xb,0,none⟩=some (.slice (some ⟨rb,ro,none⟩) x.r.length x.c):=(hgY.out.below.cell (p:=⟨xb,0,none⟩) hJ.out.2.2.2.2.2.2.2).trans hJ.out.2.2.2.2.2.1
      have k1:WY.cell? ⟨xb,1,none⟩=some (.int .i64 x.n):=(hgY.out.below.cell (p:=⟨xb,1,none⟩) hJ.out.2.2.2.2.2.2.2).trans hJ.out.2.2.2.2.2.2.1
      have hbY:Hid (Below w1.heap.size w1 WY):=hJ.out.2.2.2.1.trans (hgY.out.below.mono hJ.out.2.2.2.1.size)
      have hB5:Hid (Below w.heap.size w WY):=hR.out.bel.trans (hbY.out.mono hR.out.bel.size)
      obtain ⟨N,hN⟩:∃N,x.n*y.n=N:=⟨_,rfl⟩
      rw[hN] at hw1 hst2 hbad hmb
      have hNH:Hid (x.n*y.n=N):=hN
      rw[hyp]
      clear hycs hy
      by_cases hn1:N < -1048576
      ·have hfin:Hid (E=5∧pjnF (a.map Itm.z) (b.map Itm.z) cn v=[]):=hbad.out (by simp[okW,inB];omega)
       go_wp2
       go_ret2
       exact ⟨[],none,0,by rw[hfin.out.1];rfl,by rw[hfin.out.2];rfl,⟨⟨Or.inl rfl,fun x hx=>(by cases hx)⟩,fun _=>rfl,Nat.zero_le _⟩,hB5.out,NwT.none _ _⟩
      ·by_cases hn2:1048576<N
       ·have hfin:Hid (E=5∧pjnF (a.map Itm.z) (b.map Itm.z) cn v=[]):=hbad.out (by simp[okW,inB];omega)
        go_wp2
        go_ret2
        exact ⟨[],none,0,by rw[hfin.out.1];rfl,by rw[hfin.out.2];rfl,⟨⟨Or.inl rfl,fun x hx=>(by cases hx)⟩,fun _=>rfl,Nat.zero_le _⟩,hB5.out,NwT.none _ _⟩
       ·have hNok:Hid (okW N=true):=by show _=_;simp[okW,inB];omega
        obtain ⟨MA,mc,hmu,hmn,_,_⟩:=hJ.out.2.2.1.items
        subst hmu
        by_cases hfull:M.length≤400
        ·have hfz:(M.length:Int)≤400:=by omega
         obtain ⟨R,hRR⟩:∃R,x.r++y.r=R:=⟨_,rfl⟩
         have hx8:x.r.length≤8:=by have:=hxW.out.1;simp only[okR,Bool.and_eq_true,decide_eq_true_eq] at this;exact this.1
         have hy8:y.r.length≤8:=by have:=hyW.out.1;simp only[okR,Bool.and_eq_true,decide_eq_true_eq] at this;exact this.1
         have hcall0:=both_any x.r y.r (some ⟨rb,ro,none⟩) y.p x.c y.c WY hx8 hy8 (fun h=>by cases h) (hIy.out.each y hym.out).2.2 (by rw[←hpH.out.1];exact (((hH.out.1.items.each x hxH.out).1.below hB5.out))) ((hIy.out.each y hym.out).1.gr hgY.out)
         rw[hRR] at hcall0 hst2
         have hcall:Hid _:=hcall0
         have hR16:Hid (R.length≤16):=by show _≤_;rw[←hRR];simp;omega
         clear hcall0 hRR hx8 hy8
         go_wp2_with fail
         refine Calls.mono (show Calls _ _ _ _ _ from hcall.out) ?_
         rintro e w3 ⟨C,c2,rfl,r1,r2,r3,r4⟩
         have hb3:Hid (Below WY.heap.size WY w3∧Below w1.heap.size w1 w3):=⟨r4,hbY.out.trans (r4.mono hbY.out.size)⟩
         have hoX:Hid (OwnT (w3.alloc (.cells #[.slice C R.length c2,.int .i64 N] 90)) w1.heap.size (.slice MA M.length mc) M∧RowG encT 2 (w3.alloc (.cells #[.slice C R.length c2,.int .i64 N] 90)) (some ⟨w3.heap.size,0,none⟩) [(⟨C,c2,R,N⟩:Itm)]∧Apart (w3.alloc (.cells #[.slice C R.length c2,.int .i64 N] 90)) w1.heap.size (Value.slice MA M.length mc).ownBlock (⟨C,c2,R,N⟩:Itm)∧M.length+1≤maxLen∧(M.length+1)*32≤140737488355328∧Below w1.heap.size w1 (w3.alloc (.cells #[.slice C R.length c2,.int .i64 N] 90))):=by
          have h16:=hR16.out
          refine ⟨((hJ.out.2.2.1.gr hgY.out).below r4).gr ((Gr.refl _).alloc _),rowNewT rfl (⟨C,c2,R,N⟩:Itm) _,⟨r1.gr ((Gr.refl _).alloc _),Nat.le_trans h16 (by decide),r2,fun ad had=>⟨?_,?_,?_⟩⟩,by unfold maxLen;omega,by omega,hb3.out.2.alloc hb3.out.2.size _⟩
          ·have h1:=(r3 ad had).1
           have h2:=hbY.out.size
           omega
          ·have h1:=(r3 ad had).2
           simp;omega
          ·intro e
           have h1:=(World.ownsRow.lt hJ.out.2.2.1.own ad.block e).2
           have h2:=(r3 ad had).1
           omega
         have c0:(w3.alloc (.cells #[.slice C R.length c2,.int .i64 N] 90)).cell? ⟨xb,0,none⟩=some (.slice (some ⟨rb,ro,none⟩) x.r.length x.c):=(((r4.trans (((Gr.refl w3).alloc _).below.mono r4.size)).cell (p:=⟨xb,0,none⟩) (Nat.lt_of_lt_of_le hJ.out.2.2.2.2.2.2.2 hgY.out.size)).trans k0)
         have c1:(w3.alloc (.cells #[.slice C R.length c2,.int .i64 N] 90)).cell? ⟨xb,1,none⟩=some (.int .i64 x.n):=(((r4.trans (((Gr.refl w3).alloc _).below.mono r4.size)).cell (p:=⟨xb,1,none⟩) (Nat.lt_of_lt_of_le hJ.out.2.2.2.2.2.2.2 hgY.out.size)).trans k1)
         have hxl3:xb<(w3.alloc (.cells #[.slice C R.length c2,.int .i64 N] 90)).heap.size:=Nat.lt_of_lt_of_le hJ.out.2.2.2.2.2.2.2 (Nat.le_trans hgY.out.size (Nat.le_trans r4.size (by simp)))
         have hcH:Hid ((w3.alloc (.cells #[.slice C R.length c2,.int .i64 N] 90)).cell? ⟨xb,0,none⟩=some (.slice (some ⟨rb,ro,none⟩) x.r.length x.c)∧(w3.alloc (.cells #[.slice C R.length c2,.int .i64 N] 90)).cell? ⟨xb,1,none⟩=some (.int .i64 x.n)∧xb<(w3.alloc (.cells #[.slice C R.length c2,.int .i64 N] 90)).heap.size):=⟨c0,c1,hxl3⟩
         have q1:w3.cell? ⟨wr.heap.size,1,none⟩=some (.int .i64 y.n):=(r4.cell (p:=⟨wr.heap.size,1,none⟩) hsY).trans z1
         clear r1 r2 r3 r4 hcall c0 c1 hxl3
         go_wp2_with (at_builtin;refine wpList_append_t5 _ rfl _ _ rfl w1.heap.size (.slice MA M.length mc) M (⟨C,c2,R,N⟩:Itm) ⟨w3.heap.size,0,none⟩ 1 rfl rfl hoX.out.1 hoX.out.2.1 hoX.out.2.2.1 hoX.out.2.2.2.1 hoX.out.2.2.2.2.1 hoX.out.2.2.2.2.2.size ?_;intro v4 w4 hown4 hb4 hg4' hloc4)
         have hfin:Hid (Some401 (M++[(⟨C,c2,R,N⟩:Itm)]) (P++prs x.z ((g.l.take (m+1)).map Itm.z))∧(M++[(⟨C,c2,R,N⟩:Itm)]).length≤401∧OwnT w4 w1.heap.size v4 (M++[(⟨C,c2,R,N⟩:Itm)])∧Below w1.heap.size w1 w4∧(∀b,v4.ownBlock=some b→b≠xb)∧w4.cell? ⟨xb,0,none⟩=some (.slice (some ⟨rb,ro,none⟩) x.r.length x.c)∧w4.cell? ⟨xb,1,none⟩=some (.int .i64 x.n)∧xb<w4.heap.size):=by
          have hne:some xb≠(Value.slice MA M.length mc).ownBlock:=fun e=>hJ.out.2.2.2.2.1 xb e.symm rfl
          refine ⟨by rw[hst2.out];exact some_more (y:=(⟨C,c2,R,N⟩:Itm)) hJ.out.1 hfull hNok.out,by simp;omega,hown4,hoX.out.2.2.2.2.2.trans hb4,fun bl hbl'=> ?_,(World.cell?_of_block (a:=⟨xb,0,none⟩) (hg4'.block _ hcH.out.2.2 hne)).trans hcH.out.1,(World.cell?_of_block (a:=⟨xb,1,none⟩) (hg4'.block _ hcH.out.2.2 hne)).trans hcH.out.2.1,Nat.lt_of_lt_of_le hcH.out.2.2 hg4'.size⟩
          rcases hloc4 with e|e
          ·rw[e] at hbl';exact hJ.out.2.2.2.2.1 bl hbl'
          ·rw[e] at hbl'
           have h1:=hcH.out.2.2
           intro e2
           simp at hbl' h1
           omega
         clear hown4 hb4 hg4' hloc4
         go_roundw
         case rel=>exact ⟨m+1,M++[(⟨C,c2,R,N⟩:Itm)],by omega,by go_num,hfin⟩
         case measure=>simp[intOf];omega
        ·have hfz:¬(M.length:Int)≤400:=by omega
         have hfin:Hid (Some401 M (P++prs x.z ((g.l.take (m+1)).map Itm.z))∧M.length≤401∧OwnT WY w1.heap.size (.slice MA M.length mc) M∧Below w1.heap.size w1 WY∧(∀b,(Value.slice MA M.length mc).ownBlock=some b→b≠xb)∧WY.cell? ⟨xb,0,none⟩=some (.slice (some ⟨rb,ro,none⟩) x.r.length x.c)∧WY.cell? ⟨xb,1,none⟩=some (.int .i64 x.n)∧xb<WY.heap.size):=⟨by rw[hst2.out];exact some_full hJ.out.1 hfull hNok.out,hJ.out.2.1,hJ.out.2.2.1.gr hgY.out,hbY.out,hJ.out.2.2.2.2.1,k0,k1,Nat.lt_of_lt_of_le hJ.out.2.2.2.2.2.2.2 hgY.out.size⟩
         go_wp2
         go_roundw
         case rel=>exact ⟨m+1,M,by omega,by go_num,hfin⟩
         case measure=>simp[intOf];omega
     ·have hltz2:¬(m:Int)<(g.l.length:Int):=by omega
      have hfin:Hid (Some401 M (pairL ((a.take (k+1)).map Itm.z) (b.map Itm.z) cn v)∧M.length≤401∧OwnT wr w1.heap.size u12 M∧Below w1.heap.size w1 wr):=⟨by
       have:=hJ.out.1
       rw[List.take_of_length_le (by omega)] at this
       rw[hO.out.2.2.2];exact this,hJ.out.2.1,hJ.out.2.2.1,hJ.out.2.2.2.1⟩
      go_wp2
      go_roundw
      case rel=>exact ⟨k+1,M,by omega,by go_num,hfin⟩
      case measure=>simp[intOf];omega
  ·have hltz:¬(k:Int)<(a.length:Int):=by omega
   obtain ⟨A2,cap2,hv2,hn2,hit,_⟩:=hS.out.2.2.1.items
   have hall:Hid (L.map Itm.z=(pairL (a.map Itm.z) (b.map Itm.z) c v).take 401∧pjnE (a.map Itm.z) (b.map Itm.z) c v=normE ((pairL (a.map Itm.z) (b.map Itm.z) c v).take 401)):=by
    have h1:=hS.out.1
    rw[List.take_of_length_le (by omega)] at h1
    exact ⟨h1.1,by unfold pjnE;rw[if_pos h1.2]⟩
   have hN0:=normVn (W:=wr) (A:=A2) (c:=cap2) (l:=L) ⟨hit,hn2,by have:=hS.out.2.1;unfold maxLen;omega⟩ hall.out.1
   have hN:Hid _:=hN0
   have hBw:Hid (Below w.heap.size w wr):=hR.out.bel.trans (hS.out.2.2.2.mono hR.out.bel.size)
   have hEn:Hid (normE ((pairL (a.map Itm.z) (b.map Itm.z) c v).take 401)=E):=by show _=_;rw[←hall.out.2,hEH.out]
   subst hv2
   clear hit hn2 hN0
   go_wp2_with fail
   refine Calls.mono (show Calls _ _ _ _ _ from hN.out) ?_
   rintro e w2 ⟨L2,C2,k2,rfl,h1,h2,h3,h4⟩
   rw[hEn.out]
   have hfin:Hid (L2.map Itm.z=pjnF (a.map Itm.z) (b.map Itm.z) c v∧Lv w2 C2 k2 L2∧Below w.heap.size w w2∧NwT w2 k2 w.heap.size C2 L2):=by
    refine ⟨?_,h2,hBw.out.trans (h3.mono hBw.out.size),h4.mono hBw.out.size⟩
    rw[h1]
    unfold pjnF
    rw[hall.out.2]
    by_cases e:normE ((pairL (a.map Itm.z) (b.map Itm.z) c v).take 401)=0
    ·rw[if_pos e]
    ·rw[if_neg e];exact normL_no e
   clear h1 h2 h3 h4 hN
   go_wp2
   go_ret2
   exact ⟨L2,C2,k2,rfl,hfin.out.1,hfin.out.2.1,hfin.out.2.2.1,hfin.out.2.2.2⟩
end Go.Proofs.YtkadjjmkokhldaaGreat

namespace Go.Proofs.YtkadjjmkokhldaaGreat
open Go.RowKit Go.Sort Go.Maps

/-- What a step that takes one set asks of it. -/
structure OneOk (s:Stp) (l:List Itm):Prop where
 len:l.length≤400
 ok:∀x∈l,okR x.r=true∧okW x.n=true
 k2:s.k=2→inB s.o 1 3=true∧∀x∈l,inB s.c 0 ((x.r.length:Int)-1)=true
 k3:s.k=3→s.l.length≤8∧∀x∈l,∀c∈s.l,inB c 0 ((x.r.length:Int)-1)=true
 k8:s.k=8→∀x∈l,inB s.c 0 ((x.r.length:Int)-1)=true
 k9:s.k=9→∀x∈l,inB s.c 0 ((x.r.length:Int)-1)=true∧inB s.v 0 ((x.r.length:Int)-1)=true

set_option maxRecDepth 100000 in
set_option maxHeartbeats 1000000 in
theorem one_any (s:Stp) (l:List Itm) (A:Option Addr) (cap:Nat) (w:World) (hk:s.k=2∨s.k=3∨s.k=8∨s.k=7∨s.k=9) (ho:OneOk s l) (hr:Items w A l) (hs:RowI w s.p s.l) :
  Calls Tryz.prog 143 #[.agg #[.int .i64 s.k,.int .i64 s.a,.int .i64 s.b,.int .i64 s.c,.int .i64 s.o,.int .i64 s.v,.slice s.p s.l.length s.n],.slice A l.length cap] w fun e w'=>∃(L:List Itm) (C:Option Addr) (k:Nat),e= .returned (.slice C L.length k)∧L.map Itm.z=oneF s (l.map Itm.z)∧Lv w' C k L∧L.length≤400∧Below w.heap.size w w':=by
 have hgX:Hid (Gr w (w.alloc (.cells #[.int .i64 s.k,.int .i64 s.a,.int .i64 s.b,.int .i64 s.c,.int .i64 s.o,.int .i64 s.v,.slice s.p s.l.length s.n] 48))):=(Gr.refl _).alloc _
 have hH:Hid (OneOk s l∧Items w A l∧RowI w s.p s.l):=⟨ho,hr,hs⟩
 clear ho hr hs
 rcases hk with hk|hk|hk|hk|hk
 ·have hC0:=where_any l A cap s.c s.o s.v (w.alloc (.cells #[.int .i64 2,.int .i64 s.a,.int .i64 s.b,.int .i64 s.c,.int .i64 s.o,.int .i64 s.v,.slice s.p s.l.length s.n] 48)) hH.out.1.len (hH.out.2.1.gr ((Gr.refl _).alloc _)) (hH.out.1.k2 hk).2 (hH.out.1.k2 hk).1
  have hC:Hid _:=hC0
  have hF:Hid (oneF s (l.map Itm.z)=whereL (l.map Itm.z) s.c s.o s.v):=by show _=_;unfold oneF;rw[if_pos hk]
  clear hC0
  rw[hk]
  clear hk
  go_enter Tryz.func143,Tryz.ntmps143
  go_wp2_with fail
  refine Calls.mono (show Calls _ _ _ _ _ from hC.out) ?_
  rintro e w2 ⟨L,C,k,rfl,h1,h2,h3,h4⟩
  have hfin:Hid (L.map Itm.z=oneF s (l.map Itm.z)∧Lv w2 C k L∧Below w.heap.size w w2):=⟨by rw[hF.out];exact h1,h2,((Gr.refl _).alloc _).below.trans (h4.mono (by simp))⟩
  clear h1 h2 h4
  go_wp2
  go_ret
  exact ⟨L,C,k,rfl,hfin.out.1,hfin.out.2.1,h3,hfin.out.2.2⟩
 ·have hC0:=pick_any l A s.p cap s.n s.l (w.alloc (.cells #[.int .i64 3,.int .i64 s.a,.int .i64 s.b,.int .i64 s.c,.int .i64 s.o,.int .i64 s.v,.slice s.p s.l.length s.n] 48)) hH.out.1.len (hH.out.1.k3 hk).1 (hH.out.2.1.gr ((Gr.refl _).alloc _)) (hH.out.2.2.gr ((Gr.refl _).alloc _)) (hH.out.1.k3 hk).2
  have hC:Hid _:=hC0
  have hF:Hid (oneF s (l.map Itm.z)=pickL (l.map Itm.z) s.l):=by show _=_;unfold oneF;rw[if_neg (by omega),if_pos hk]
  clear hC0
  rw[hk]
  clear hk
  go_enter Tryz.func143,Tryz.ntmps143
  go_wp2_with fail
  refine Calls.mono (show Calls _ _ _ _ _ from hC.out) ?_
  rintro e w2 ⟨L,C,k,rfl,h1,h2,h3,h4⟩
  have hfin:Hid (L.map Itm.z=oneF s (l.map Itm.z)∧Lv w2 C k L∧Below w.heap.size w w2):=⟨by rw[hF.out];exact h1,h2,((Gr.refl _).alloc _).below.trans (h4.mono (by simp))⟩
  clear h1 h2 h4
  go_wp2
  go_ret
  exact ⟨L,C,k,rfl,hfin.out.1,hfin.out.2.1,h3,hfin.out.2.2⟩
 ·have hC0:=count_any l A cap s.c (w.alloc (.cells #[.int .i64 8,.int .i64 s.a,.int .i64 s.b,.int .i64 s.c,.int .i64 s.o,.int .i64 s.v,.slice s.p s.l.length s.n] 48)) hH.out.1.len (hH.out.2.1.gr ((Gr.refl _).alloc _)) (hH.out.1.k8 hk) hH.out.1.ok
  have hC:Hid _:=hC0
  have hF:Hid (oneF s (l.map Itm.z)=countL (l.map Itm.z) s.c):=by show _=_;unfold oneF;rw[if_neg (by omega),if_neg (by omega),if_neg (by omega),if_pos hk]
  clear hC0
  rw[hk]
  clear hk
  go_enter Tryz.func143,Tryz.ntmps143
  go_wp2_with fail
  refine Calls.mono (show Calls _ _ _ _ _ from hC.out) ?_
  rintro e w2 ⟨L,C,k,rfl,h1,h2,h3,h4⟩
  have hfin:Hid (L.map Itm.z=oneF s (l.map Itm.z)∧Lv w2 C k L∧Below w.heap.size w w2):=⟨by rw[hF.out];exact h1,h2,((Gr.refl _).alloc _).below.trans (h4.mono (by simp))⟩
  clear h1 h2 h4
  go_wp2
  go_ret
  exact ⟨L,C,k,rfl,hfin.out.1,hfin.out.2.1,h3,hfin.out.2.2⟩
 ·have hC0:=dist_any l A cap (w.alloc (.cells #[.int .i64 7,.int .i64 s.a,.int .i64 s.b,.int .i64 s.c,.int .i64 s.o,.int .i64 s.v,.slice s.p s.l.length s.n] 48)) hH.out.1.len (hH.out.2.1.gr ((Gr.refl _).alloc _))
  have hC:Hid _:=hC0
  have hF:Hid (oneF s (l.map Itm.z)=distL (l.map Itm.z)):=by show _=_;unfold oneF;rw[if_neg (by omega),if_neg (by omega),if_pos hk]
  clear hC0
  rw[hk]
  clear hk
  go_enter Tryz.func143,Tryz.ntmps143
  go_wp2_with fail
  refine Calls.mono (show Calls _ _ _ _ _ from hC.out) ?_
  rintro e w2 ⟨L,C,k,rfl,h1,h2,h3,h4⟩
  have hfin:Hid (L.map Itm.z=oneF s (l.map Itm.z)∧Lv w2 C k L∧Below w.heap.size w w2):=⟨by rw[hF.out];exact h1,h2,((Gr.refl _).alloc _).below.trans (h4.mono (by simp))⟩
  clear h1 h2 h4
  go_wp2
  go_ret
  exact ⟨L,C,k,rfl,hfin.out.1,hfin.out.2.1,h3,hfin.out.2.2⟩
 ·have hC0:=sumP_any l A cap s.c s.v (w.alloc (.cells #[.int .i64 9,.int .i64 s.a,.int .i64 s.b,.int .i64 s.c,.int .i64 s.o,.int .i64 s.v,.slice s.p s.l.length s.n] 48)) hH.out.1.len (hH.out.2.1.gr ((Gr.refl _).alloc _)) (fun x hx=>(hH.out.1.k9 hk x hx).1) (fun x hx=>(hH.out.1.k9 hk x hx).2) hH.out.1.ok
  have hC:Hid _:=hC0
  have hF:Hid (oneF s (l.map Itm.z)=sumL (l.map Itm.z) s.c s.v):=by show _=_;unfold oneF;rw[if_neg (by omega),if_neg (by omega),if_neg (by omega),if_neg (by omega)]
  clear hC0
  rw[hk]
  clear hk
  go_enter Tryz.func143,Tryz.ntmps143
  go_wp2_with fail
  refine Calls.mono (show Calls _ _ _ _ _ from hC.out) ?_
  rintro e w2 ⟨L,C,k,rfl,h1,h2,h3,h4⟩
  have hfin:Hid (L.map Itm.z=oneF s (l.map Itm.z)∧Lv w2 C k L∧Below w.heap.size w w2):=⟨by rw[hF.out];exact h1,h2,((Gr.refl _).alloc _).below.trans (h4.mono (by simp))⟩
  clear h1 h2 h4
  go_wp2
  go_ret
  exact ⟨L,C,k,rfl,hfin.out.1,hfin.out.2.1,h3,hfin.out.2.2⟩

theorem negL_ok' {b:List Zit} (h:errZ b=0):negL b=negP b:=by unfold negL;rw[if_pos h];rfl
set_option maxRecDepth 100000 in
set_option maxHeartbeats 1000000 in
theorem pminus_any (a b:List Itm) (A B:Option Addr) (ca cb:Nat) (w:World) (ha:Lv w A ca a) (hb:Lv w B cb b) (he:errZ (b.map Itm.z)=0) :
  Calls Tryz.prog 142 #[.slice A a.length ca,.slice B b.length cb] w fun e w'=>∃(L:List Itm) (C:Option Addr) (k:Nat),e= .returned (.tuple #[.slice C L.length k,.int .i64 (minE (a.map Itm.z) (b.map Itm.z))])∧L.map Itm.z=minF (a.map Itm.z) (b.map Itm.z)∧Lv w' C k L∧Below w.heap.size w w'∧NwT w' k w.heap.size C L:=by
 have hN0:=negV hb (m:=b.map Itm.z) rfl
 have hN:Hid _:=hN0
 have hH:Hid (Lv w A ca a∧errZ (b.map Itm.z)=0):=⟨ha,he⟩
 clear hN0 ha hb
 rw[he] at hN
 clear he
 go_enter Tryz.func142,Tryz.ntmps142
 go_wp2_with fail
 refine Calls.mono (show Calls _ _ _ _ _ from hN.out) ?_
 rintro e w1 ⟨L1,C1,k1,rfl,h1,h2,h3⟩
 have hA0:=addVn (hH.out.1.below h3) h2 (m:=a.map Itm.z) (n:=negP (b.map Itm.z)) rfl (by rw[h1,negL_ok' hH.out.2])
 have hA:Hid _:=hA0
 have hB:Hid (Below w.heap.size w w1):=h3
 clear hA0 h1 h2 h3 hN
 go_wp2_with fail
 refine Calls.mono (show Calls _ _ _ _ _ from hA.out) ?_
 rintro e w2 ⟨L,C,k,rfl,h1,h2,h3,h4⟩
 have hNw:Hid (NwT w2 k w.heap.size C L):=h4.mono hB.out.size
 have hfin:Hid (addE (a.map Itm.z) (negP (b.map Itm.z))=minE (a.map Itm.z) (b.map Itm.z)∧L.map Itm.z=minF (a.map Itm.z) (b.map Itm.z)∧Lv w2 C k L∧Below w.heap.size w w2):=by
  have hm:minE (a.map Itm.z) (b.map Itm.z)=addE (a.map Itm.z) (negP (b.map Itm.z)):=by unfold minE;rw[if_pos hH.out.2]
  refine ⟨hm.symm,?_,h2,hB.out.trans (h3.mono hB.out.size)⟩
  rw[h1]
  unfold minF
  rw[hm]
  by_cases e:addE (a.map Itm.z) (negP (b.map Itm.z))=0
  ·rw[if_pos e]
  ·rw[if_neg e];unfold addL;rw[if_neg e]
 clear h1 h2 h3 h4 hA
 go_wp2
 go_ret2
 exact ⟨L,C,k,by rw[hfin.out.1];rfl,hfin.out.2.1,hfin.out.2.2.1,hfin.out.2.2.2,hNw.out⟩
theorem minusV {W:World} {A B:Option Addr} {c d:Nat} {l r:List Itm} (h:Lv W A c l) (h':Lv W B d r) (he:errZ (r.map Itm.z)=0) {m n:List Zit} (hm:l.map Itm.z=m) (hn:r.map Itm.z=n) :
  Calls Tryz.prog 142 #[.slice A l.length c,.slice B r.length d] W fun e w'=>∃(L:List Itm) (C:Option Addr) (k:Nat),e= .returned (.tuple #[.slice C L.length k,.int .i64 (minE m n)])∧L.map Itm.z=minF m n∧Lv w' C k L∧Below W.heap.size W w'∧NwT w' k W.heap.size C L:=by
 subst hm hn
 exact pminus_any l r A B c d W h h' he
/-- What a join asks of its sets. -/
structure JoinOk (c v:Int) (l r:List Itm):Prop where
 la:l.length≤400
 lb:r.length≤400
 c:∀x∈l,inB c 0 ((x.r.length:Int)-1)=true
 v:∀x∈r,inB v 0 ((x.r.length:Int)-1)=true
 oa:∀x∈l,okR x.r=true∧okW x.n=true
 ob:∀x∈r,okR x.r=true∧okW x.n=true
theorem joinV {W:World} {A B:Option Addr} {c d:Nat} {l r:List Itm} {cc v:Int} (h:Lv W A c l) (h':Lv W B d r) (hJ:JoinOk cc v l r) {m n:List Zit} (hm:l.map Itm.z=m) (hn:r.map Itm.z=n) :
  Calls Tryz.prog 141 #[.slice A l.length c,.slice B r.length d,.int .i64 cc,.int .i64 v] W fun e w'=>∃(L:List Itm) (C:Option Addr) (k:Nat),e= .returned (.tuple #[.slice C L.length k,.int .i64 (pjnE m n cc v)])∧L.map Itm.z=pjnF m n cc v∧Lv w' C k L∧Below W.heap.size W w'∧NwT w' k W.heap.size C L:=by
 subst hm hn
 exact pjoin_any l r A B c d cc v W hJ.la hJ.lb h h' hJ.c hJ.v hJ.oa hJ.ob
end Go.Proofs.YtkadjjmkokhldaaGreat
