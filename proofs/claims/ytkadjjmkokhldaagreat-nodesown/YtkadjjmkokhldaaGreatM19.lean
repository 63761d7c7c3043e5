/-
  plain.where.
  Groups of items in memory: the list of groups, and each one's items, in blocks of their own.
  Groups: where the group of each number stands; one more group, one more item.
-/
import Derived.Test.YtkadjjmkokhldaaGreatM18
import Derived.Maps.OwnSet
namespace Go.Proofs.YtkadjjmkokhldaaGreat
open Go.RowKit Go.Sort

theorem where_take {l:List Itm} {k:Nat} (h:k<l.length) (c o v:Int):whereL ((l.take (k+1)).map Itm.z) c o v=whereL ((l.take k).map Itm.z) c o v++(if toB (atI l[k].r c) o v=true then [l[k].z] else []):=by
 rw[List.take_succ_eq_append_getElem h,List.map_append]
 unfold whereL
 rw[List.filter_append]
 congr 1
 by_cases e:toB (atI l[k].r c) o v=true
 ·rw[if_pos e];simp[Itm.z,e]
 ·rw[if_neg e];simp[Itm.z,e]
/-- A number of a row, in memory. -/
theorem rowI_atI {w:World} {p:Option Addr} {r:List Int} {c:Int} (h:RowI w p r) (hc:inB c 0 ((r.length:Int)-1)=true):∃(b off:Nat) (n:Nat),p=some ⟨b,off,none⟩∧b<w.heap.size∧c=n∧n<r.length∧w.cell? ⟨b,off+n,none⟩=some (.int .i64 (atI r c)):=by
 simp only[inB,Bool.and_eq_true,decide_eq_true_eq] at hc
 have hn:c.toNat<r.length:=by omega
 obtain ⟨b,off,hp,hb,hcs⟩:=h.at hn
 refine ⟨b,off,c.toNat,hp,hb,by omega,hn,?_⟩
 have:=hcs c.toNat hn 0 (by omega)
 simp only[Nat.mul_one,Nat.add_zero] at this
 rw[this]
 unfold atI
 rw[List.getD_eq_getElem?_getD,List.getElem?_eq_getElem hn]
 rfl

set_option maxRecDepth 100000 in
set_option maxHeartbeats 1000000 in
theorem where_any (l:List Itm) (A:Option Addr) (cap:Nat) (c o v:Int) (w:World) (hl:l.length≤400) (hr:Items w A l) (hc:∀x∈l,inB c 0 ((x.r.length:Int)-1)=true) (ho:inB o 1 3=true) :
  Calls Tryz.prog 160 #[.slice A l.length cap,.int .i64 c,.int .i64 o,.int .i64 v] w fun e w'=>∃(L:List Itm) (C:Option Addr) (k:Nat),e= .returned (.slice C L.length k)∧L.map Itm.z=whereL (l.map Itm.z) c o v∧Lv w' C k L∧L.length≤400∧Below w.heap.size w w':=by
 have hrH:Hid (Items w A l):=hr
 have hcH:Hid (∀x∈l,inB c 0 ((x.r.length:Int)-1)=true):=hc
 have hoH:Hid (inB o 1 3=true):=ho
 clear hr hc ho
 go_enter Tryz.func160,Tryz.ntmps160
 go_wp2
 go_loopw [9,14] (fun u i wr=>∃(k:Nat) (L:List Itm),k≤l.length∧i= .int .i64 k∧Hid (L.length≤k∧L.map Itm.z=whereL ((l.take k).map Itm.z) c o v∧(∀x∈L,x∈l)∧OwnG encT 2 90 wr w.heap.size u L∧Below w.heap.size w wr)) (fun _ i _=>l.length-(intOf i).toNat)
 case atStart=>exact ⟨0,[],Nat.zero_le _,rfl,Nat.le_refl _,rfl,fun x hx=>(by cases hx),OwnG.nil _ _ _ _ _,Below.refl _ _⟩
 case round =>
  obtain ⟨k,L,hk,rfl,hR⟩:=hrel
  by_cases hlt:k<l.length
  ·have hltz:(k:Int)<(l.length:Int):=by omega
   have hI:Hid (Items wr A l):=hrH.out.below hR.out.2.2.2.2
   obtain ⟨bb,off,rfl,hb,hcs⟩:=hI.out.at hlt
   obtain ⟨x,hx⟩:∃x,l[k]=x:=⟨_,rfl⟩
   obtain ⟨e0,e1⟩:=hcs k hlt
   rw[hx] at e0 e1
   have hxm:x∈l:=by rw[←hx];exact List.getElem_mem hlt
   obtain ⟨rb,ro,cn,hp,hrb,hcn,hcl,hcell⟩:=rowI_atI (hI.out.each x hxm).1 (hcH.out x hxm)
   have hst:Hid (whereL ((l.take (k+1)).map Itm.z) c o v=whereL ((l.take k).map Itm.z) c o v++(if toB (atI x.r c) o v=true then [x.z] else [])):=by show _=_;rw[where_take hlt,hx]
   have hxH:Hid (x∈l):=hxm
   obtain ⟨nn,hnn⟩:∃nn,atI x.r c=nn:=⟨_,rfl⟩
   have hto:Hid (∀w,Calls Tryz.prog 179 #[.int .i64 nn,.int .i64 o,.int .i64 v] w fun e w'=>e= .returned (.bool (toB nn o v))∧w'=w):=fun w=>isTo_any nn o v w hoH.out
   rw[hnn] at hcell hst
   rw[hp] at e0
   have hgX:Hid (Gr wr (wr.alloc (.cells #[.slice (some ⟨rb,ro,none⟩) x.r.length x.c,.int .i64 x.n] 90))):=(Gr.refl _).alloc _
   have y0:(wr.alloc (.cells #[.slice (some ⟨rb,ro,none⟩) x.r.length x.c,.int .i64 x.n] 90)).cell? ⟨rb,ro+cn,none⟩=some (.int .i64 nn):=(hgX.out.cell (p:=⟨rb,ro+cn,none⟩) hrb).trans hcell
   have hcz:(cn:Int)<(x.r.length:Int):=by omega
   have hpH:Hid (x.p=some ⟨rb,ro,none⟩):=hp
   obtain rfl:=hcn
   clear hcs hx hxm hnn hp hcell hcl
   obtain ⟨tt,htt⟩:∃tt,toB nn o v=tt:=⟨_,rfl⟩
   have httH:Hid (toB nn o v=tt):=htt
   rw[htt] at hto
   clear htt
   cases tt
   ·have hst':Hid (whereL ((l.take (k+1)).map Itm.z) cn o v=whereL ((l.take k).map Itm.z) cn o v):=by
     show _=_;rw[hst.out,httH.out];simp
    have hfin:Hid (L.length≤k+1∧L.map Itm.z=whereL ((l.take (k+1)).map Itm.z) cn o v∧(∀x∈L,x∈l)∧OwnG encT 2 90 (wr.alloc (.cells #[.slice (some ⟨rb,ro,none⟩) x.r.length x.c,.int .i64 x.n] 90)) w.heap.size u9 L∧Below w.heap.size w (wr.alloc (.cells #[.slice (some ⟨rb,ro,none⟩) x.r.length x.c,.int .i64 x.n] 90))) :=
     ⟨by have:=hR.out.1;omega,by rw[hst'.out];exact hR.out.2.1,hR.out.2.2.1,hR.out.2.2.2.1.gr hgX.out,hR.out.2.2.2.2.trans (hgX.out.below.mono hR.out.2.2.2.2.size)⟩
    go_wp2_with (go_at_call 179;refine (hto.out _).mono ?_;rintro e w' ⟨rfl,hw'⟩;subst w')
    go_roundw
    case rel=>exact ⟨k+1,L,by omega,by go_num,hfin.out⟩
    case measure=>simp[intOf];omega
   ·have hst':Hid (whereL ((l.take (k+1)).map Itm.z) cn o v=whereL ((l.take k).map Itm.z) cn o v++[x.z]):=by
     show _=_;rw[hst.out,httH.out];simp
    have hoX:Hid (OwnG encT 2 90 ((wr.alloc (.cells #[.slice (some ⟨rb,ro,none⟩) x.r.length x.c,.int .i64 x.n] 90)).alloc (.cells #[.slice (some ⟨rb,ro,none⟩) x.r.length x.c,.int .i64 x.n] 90)) w.heap.size u9 L∧RowG encT 2 ((wr.alloc (.cells #[.slice (some ⟨rb,ro,none⟩) x.r.length x.c,.int .i64 x.n] 90)).alloc (.cells #[.slice (some ⟨rb,ro,none⟩) x.r.length x.c,.int .i64 x.n] 90)) (some ⟨wr.heap.size+1,0,none⟩) [x]∧L.length+[x].length≤maxLen∧(L.length+[x].length)*32≤140737488355328∧Below w.heap.size w ((wr.alloc (.cells #[.slice (some ⟨rb,ro,none⟩) x.r.length x.c,.int .i64 x.n] 90)).alloc (.cells #[.slice (some ⟨rb,ro,none⟩) x.r.length x.c,.int .i64 x.n] 90))):=by
     have hLk:=hR.out.1
     refine ⟨hR.out.2.2.2.1.gr (hgX.out.alloc _),?_,by unfold maxLen;simp;omega,by simp;omega,hR.out.2.2.2.2.trans ((hgX.out.alloc _).below.mono hR.out.2.2.2.2.size)⟩
     rw[←hpH.out]
     exact rowNewT (by simp) x _
    go_wp2_with (first|(go_at_call 179;refine (hto.out _).mono ?_;rintro e w' ⟨rfl,hw'⟩;subst w')|(at_builtin;refine wpList_append_ts _ rfl (.tmp 26) (.tmp 28) rfl w.heap.size u9 L [x] (some ⟨wr.heap.size+1,0,none⟩) 1 rfl rfl hoX.out.1 hoX.out.2.1 (fun h=>by cases h) hoX.out.2.2.1 hoX.out.2.2.2.1 hoX.out.2.2.2.2.size ?_;intro v3 w3 hown3 hg3))
    have hfin:Hid ((L++[x]).length≤k+1∧(L++[x]).map Itm.z=whereL ((l.take (k+1)).map Itm.z) cn o v∧(∀y∈L++[x],y∈l)∧OwnG encT 2 90 w3 w.heap.size v3 (L++[x])∧Below w.heap.size w w3):=by
     refine ⟨by have:=hR.out.1;simp;omega,by rw[hst'.out,List.map_append,hR.out.2.1];rfl,fun y hy=> ?_,hown3,hoX.out.2.2.2.2.trans (hoX.out.1.grown_below hg3 hoX.out.2.2.2.2.size)⟩
     rcases List.mem_append.1 hy with h|h
     ·exact hR.out.2.2.1 y h
     ·rw[List.mem_singleton.1 h];exact hxH.out
    clear hown3 hg3
    go_roundw
    case rel=>exact ⟨k+1,L++[x],by omega,by go_num,hfin.out⟩
    case measure=>simp[intOf];omega
  ·have hltz:¬(k:Int)<(l.length:Int):=by omega
   have hke:l.take k=l:=List.take_of_length_le (by omega)
   obtain ⟨A2,cap2,hv2,hn1,hit,hcp,_,_⟩:=OwnG.full encT_len hR.out.2.2.2.1
   have hn2:NilC A2 L.length cap2:=NilC.mk hn1 hcp
   clear hn1 hcp
   have hlL:L.length≤400:=by have:=hR.out.1;omega
   have hfin:Hid (L.map Itm.z=whereL (l.map Itm.z) c o v∧Lv wr A2 cap2 L∧Below w.heap.size w wr):=by
    refine ⟨by have:=hR.out.2.1;rw[hke] at this;exact this,⟨⟨hit,fun x hx=> ?_⟩,hn2,by unfold maxLen;omega⟩,hR.out.2.2.2.2⟩
    have:=(hrH.out.below hR.out.2.2.2.2).each x (hR.out.2.2.1 x hx)
    exact this
   subst hv2
   clear hke hit hn2
   go_wp2
   go_ret
   exact ⟨L,A2,cap2,rfl,hfin.out.1,hfin.out.2.1,hlL,hfin.out.2.2⟩
end Go.Proofs.YtkadjjmkokhldaaGreat

namespace Go.Proofs.YtkadjjmkokhldaaGreat
open Go.RowKit Go.Sort Go.Maps

structure Grp where
 n:Int
 p:Option Addr
 c:Nat
 l:List Itm
def Grp.v (g:Grp):Value:= .slice g.p g.l.length g.c
def Grp.z (g:Grp):Int×List Zit:=(g.n,g.l.map Itm.z)
def encP (g:Grp):List Value:=[.int .i64 g.n,g.v]
theorem encP_len (g:Grp):(encP g).length=2:=rfl
theorem encP_one (g:Grp):∀u∈encP g,u.oneCell'=true:=by
 intro u hu
 simp[encP,Grp.v] at hu
 rcases hu with h|h<;>rw[h]<;>rfl
theorem Tryz.infoP:(Tryz.prog.info? 212).map (fun i=>(i.zero,i.size,i.bytes))=some (some (.agg #[.int .i64 0,.slice none 0 0]),2,32):=by kernel_rfl
theorem Tryz.infoT2:(Tryz.prog.info? 90).map (fun i=>(i.zero,i.size,i.bytes))=some (some (.agg #[.slice none 0 0,.int .i64 0]),2,32):=by kernel_rfl

/-- No two groups' items lie in one block. -/
def Two (g h:Grp):Prop:=∀b,g.v.ownBlock=some b→h.v.ownBlock≠some b
structure Gps (w:World) (B:Nat) (v:Value) (gs:List Grp):Prop where
 own:OwnG encP 2 212 w B v gs
 each:∀g∈gs,OwnG encT 2 90 w B g.v g.l
 apart:gs.Pairwise Two
theorem Gps.nil (w:World) (B:Nat):Gps w B (.slice none 0 0) []:=⟨OwnG.nil _ _ _ _ _,fun g hg=>(by cases hg),List.Pairwise.nil⟩
theorem Gps.below {w w':World} {B:Nat} {v:Value} {gs:List Grp} (h:Gps w B v gs) (q:Below w.heap.size w w'):Gps w' B v gs:=⟨h.own.below q,fun g hg=>(h.each g hg).below q,h.apart⟩
theorem Gps.gr {w w':World} {B:Nat} {v:Value} {gs:List Grp} (h:Gps w B v gs) (q:Gr w w'):Gps w' B v gs:=h.below q.below
theorem OwnG.keep {α : Type} {enc: α → List Value} {k:Nat} {e:TypeId} {w w':World} {base:Nat} {v:Value} {l:List α} {row:Option Nat} (h:OwnG enc k e w base v l) (hg:w.grownBy w' row) (hne:v.ownBlock=none∨v.ownBlock≠row):OwnG enc k e w' base v l:=World.ownsRow.kept h hg hne
/-- A block of groups is none of items. -/
theorem own_ne {α β : Type} {enc: α → List Value} {enc': β → List Value} {k k':Nat} {e e':TypeId} {w:World} {base base':Nat} {v v':Value} {l:List α} {l':List β} (h:OwnG enc k e w base v l) (h':OwnG enc' k' e' w base' v' l') (hne:e≠e'):v.ownBlock=none∨v.ownBlock≠v'.ownBlock:=by
 rcases h.2 with ⟨hv,_⟩|⟨g,cap,cur,hv,_,hg,_⟩
 ·exact Or.inl (by rw[hv];rfl)
 ·rcases h'.2 with ⟨hv',_⟩|⟨g',cap',cur',hv',_,hg',_⟩
  ·refine Or.inr ?_
   rw[hv,hv'];intro k;cases k
  ·refine Or.inr ?_
   rw[hv,hv']
   intro k
   have:g=g':=by simpa[Value.ownBlock] using k
   subst this
   rw[hg] at hg'
   simp at hg'
   exact hne hg'.2
/-- One more group, with no items. -/
theorem Gps.more {w w':World} {B:Nat} {v v':Value} {gs:List Grp} {n:Int} (h:Gps w B v gs) (ho:OwnG encP 2 212 w' B v' (gs++[⟨n,none,0,[]⟩])) (hg:w.grownBy w' v.ownBlock):Gps w' B v' (gs++[⟨n,none,0,[]⟩]):=by
 refine ⟨ho,fun g hg'=> ?_,?_⟩
 ·rcases List.mem_append.1 hg' with k|k
  ·exact (h.each g k).keep hg (own_ne (h.each g k) h.own (by decide))
  ·rw[List.mem_singleton.1 k];exact OwnG.nil _ _ _ _ _
 ·refine List.pairwise_append.2 ⟨h.apart,List.pairwise_singleton _ _,fun a _ b hb=> ?_⟩
  rw[List.mem_singleton.1 hb]
  intro x _ k
  cases k
theorem flatP_set:∀(gs:List Grp) (i:Nat) (hi:i<gs.length) (g':Grp),g'.n=gs[i].n→flatG encP (gs.set i g')=(flatG encP gs).set (i*2+1) g'.v
 | g::t,0,_,g',h=>by
  have h':g'.n=g.n:=h
  simp[flatG,encP,h']
 | g::t,i+1,hi,g',h=>by
  have ih:=flatP_set t i (by simpa using hi) g' (by simpa using h)
  have e:(i+1)*2+1=(i*2+1)+2:=by omega
  simp only[flatG,List.set_cons_succ,List.flatMap_cons] at ih ⊢
  rw[ih,e]
  rfl
/-- The block behind a store. -/
theorem own_store {w:World} {B:Nat} {v:Value} {gs:List Grp} {i:Nat} (hi:i<gs.length) {g':Grp} (hn:g'.n=gs[i].n) (h:OwnG encP 2 212 w B v gs) {G:Nat} (hG:v.ownBlock=some G):OwnG encP 2 212 (w.setCell ⟨G,i*2+1,none⟩ g'.v) B v (gs.set i g'):=by
 refine ⟨flatG_length encP_len _,?_⟩
 rcases h.2 with ⟨hv,hz⟩|⟨g,cap,cur,hv,hb,hg,hle,hcm,hcs,htk⟩
 ·rw[hv] at hG;cases hG
 ·rw[hv] at hG
  have:g=G:=by simpa[Value.ownBlock] using hG
  subst this
  refine Or.inr ⟨g,cap,cur.setIfInBounds (i*2+1) g'.v,by rw[hv,List.length_set],hb,?_,by rw[List.length_set];exact hle,hcm,by simpa using hcs,?_⟩
  ·have hlt:=lt_of_block hg
   have h':w.heap[g]= .cells cur 212 (0,0):=by simpa[Array.getElem?_eq_getElem hlt] using hg
   show (w.heap.modify g _)[g]? = _
   rw[Array.getElem?_eq_getElem (by simpa using hlt),Array.getElem_modify_self,h']
   rfl
  ·rw[List.length_set,flatP_set gs i hi g' hn,←htk]
   simp[List.take_set]
theorem grown_set (W:World) (a:Addr) (u:Value):W.grownBy (W.setCell a u) (some a.block) :=
 ⟨rfl,rfl,rfl,by simp[World.setCell],fun j _ hne=>Below.heap_setCell _ _ _ _ (fun e=>hne (by rw[e]))⟩
/-- One more item in a group. -/
theorem Gps.item {w w':World} {B:Nat} {v:Value} {gs:List Grp} (h:Gps w B v gs) {i:Nat} (hi:i<gs.length) {g':Grp} (hn:g'.n=gs[i].n) (ho:OwnG encT 2 90 w' B g'.v g'.l) (hg:w.grownBy w' gs[i].v.ownBlock) (hloc:g'.v.ownBlock=gs[i].v.ownBlock∨g'.v.ownBlock=some w.heap.size) {G:Nat} (hG:v.ownBlock=some G) :
  Gps (w'.setCell ⟨G,i*2+1,none⟩ g'.v) B v (gs.set i g'):=by
 have hin:gs[i]∈gs:=List.getElem_mem hi
 have hown':=h.own.keep hg (own_ne h.own (h.each _ hin) (by decide))
 have hap:=List.pairwise_iff_getElem.1 h.apart
 have hsym:∀(a b:Nat) (ha:a<gs.length) (hb:b<gs.length),a≠b→Two gs[a] gs[b]:=fun a b ha hb hne=>by
  rcases Nat.lt_or_ge a b with k|k
  ·exact hap a b ha hb k
  ·intro x e1 e2
   exact hap b a hb ha (by omega) x e2 e1
 have hlt:∀(a:Nat) (ha:a<gs.length) x,gs[a].v.ownBlock=some x→x<w.heap.size:=fun a ha x e=>(World.ownsRow.lt (h.each _ (List.getElem_mem ha)) x e).2
 have hnew:∀(a:Nat) (ha:a<gs.length),a≠i→Two gs[a] g'∧Two g' gs[a]:=fun a ha hne=>by
  have k:∀x,gs[a].v.ownBlock=some x→g'.v.ownBlock≠some x:=fun x e1 e2=>by
   rcases hloc with e|e
   ·rw[e] at e2;exact hsym a i ha hi hne x e1 e2
   ·rw[e] at e2
    have:=hlt a ha x e1
    have:w.heap.size=x:=by simpa using e2
    omega
  exact ⟨k,fun x e1 e2=>k x e2 e1⟩
 refine ⟨own_store hi hn hown' hG,fun g hg'=> ?_,?_⟩
 ·obtain ⟨j,hj,rfl⟩:=List.mem_iff_getElem.1 hg'
  have hj':j<gs.length:=by simpa using hj
  rw[List.getElem_set]
  by_cases e:i=j
  ·rw[if_pos e]
   have:=own_ne ho hown' (by decide)
   rw[hG] at this
   exact ho.keep (grown_set _ _ _) this
  ·rw[if_neg e]
   have k1:=(h.each _ (List.getElem_mem hj')).keep hg (by
    cases e2:gs[j].v.ownBlock with
    | none=>exact Or.inl rfl
    | some x=>exact Or.inr (fun e3=>hsym j i hj' hi (fun k=>e k.symm) x e2 e3.symm))
   have:=own_ne k1 hown' (by decide)
   rw[hG] at this
   exact k1.keep (grown_set _ _ _) this
 ·refine List.pairwise_iff_getElem.2 fun a b ha hb hab=> ?_
  have ha':a<gs.length:=by simpa using ha
  have hb':b<gs.length:=by simpa using hb
  rw[List.getElem_set,List.getElem_set]
  by_cases e1:i=a
  ·rw[if_pos e1,if_neg (by omega)]
   exact (hnew b hb' (by omega)).2
  ·rw[if_neg e1]
   by_cases e2:i=b
   ·rw[if_pos e2]
    exact (hnew a ha' (by omega)).1
   ·rw[if_neg e2]
    exact hap a b ha' hb' hab
end Go.Proofs.YtkadjjmkokhldaaGreat

namespace Go.Proofs.YtkadjjmkokhldaaGreat
open Go.RowKit Go.Sort Go.Maps

theorem wpList_append_p (w:World) {ops:Array Oper} {rest:List Oper} {o:Oper} {a:Act} {Q:Exit→Act→World→Prop} (hgd:o.guard=none) (s x:Operand)
  (ho:o.op= .call { callee:= .builtin .append,args:= #[s,x],argTypes:= #[207,207] })
  (base:Nat) (v:Value) (l m:List Grp) (A:Option Addr) (cap:Nat) (hs:a.eval s=v) (hx:a.eval x= .slice A m.length cap) (hown:OwnG encP 2 212 w base v l) (hr:RowG encP 2 w A m) (hA:A=none→cap=0)
  (hml:l.length+m.length≤maxLen) (hb:(l.length+m.length)*32≤140737488355328) (hbase:base≤w.heap.size)
  (h:∀v' w',OwnG encP 2 212 w' base v' (l++m)→w.grownBy w' v.ownBlock→wpList Tryz.prog ops Q rest (a.put o.dst v') w'):wpList Tryz.prog ops Q (o::rest) a w :=
 wpList_plain hgd fun _ hK=>wp_append_g encP_len encP_one (by omega) 207 Tryz.underlying207 (.agg #[.int .i64 0,.slice none 0 0]) 32 Tryz.infoP rfl w s x ho base v l m A cap hs hx hown hr hA hml hb hbase fun v' w' h2 h3=>hK _ _ (h v' w' h2 h3)
theorem step_append_l (w:World) {ops:Array Oper} {o:Oper} {a:Act} {K:Act→World→Prop} {Q:Exit→Act→World→Prop} {E:Prop} (hgd:o.guard=none) (s z:Operand)
  (ho:o.op= .call { callee:= .builtin .append,args:= #[s,z],argTypes:= #[62,62] })
  (base:Nat) (v:Value) (l:List Itm) (x:Itm) (A:Addr) (cap:Nat) (hs:a.eval s=v) (hz:a.eval z= .slice (some A) 1 cap) (hown:OwnG encT 2 90 w base v l) (hr:RowG encT 2 w (some A) [x])
  (hml:l.length+1≤maxLen) (hb:(l.length+1)*32≤140737488355328) (hbase:base≤w.heap.size)
  (h:∀v' w',OwnG encT 2 90 w' base v' (l++[x])→w.grownBy w' v.ownBlock→(v'.ownBlock=v.ownBlock∨v'.ownBlock=some w.heap.size)→K (a.put o.dst v') w') :
  if Region.wanted o (yielded ops a.tmps)=true then Oper.wp Tryz.prog o a w K Q else E:=by
 have hw:Region.wanted o (yielded ops a.tmps)=true:=by simp[Region.wanted,hgd]
 rw[if_pos hw]
 obtain ⟨i0,hi,hz0,hz1,hz2⟩:=info_parts Tryz.infoT2
 obtain ⟨v',w',g1,g2,g3,_,g5⟩:=run_append_own_at (P:=Tryz.prog) w base 62 o.type 90 i0 (.agg #[.slice none 0 0,.int .i64 0]) 2 32 Tryz.underlying62 hi hz0 hz1 hz2 rfl (by omega) v l.length (flatG encT l) hown A 1 cap (flatG encT [x]) (flatG_length encT_len [x]) (hr.cells encT_len (by omega)) (fun u hu=>flatG_one encT_one u [x] hu) hml hb hbase
 have h2:OwnG encT 2 90 w' base v' (l++[x]):=by
  show w'.ownsRow base _ 2 v' (l++[x]).length (flatG encT (l++[x]))
  rw[List.length_append,flatG_append]
  exact g2
 unfold Oper.wp execOp
 simp only[ho,resolve,invoke,builtin,Sem.run_bind,Sem.run_pure,Result.andThen_ok,List.map_toArray,List.map_cons,List.map_nil,hs,hz,g1]
 exact h v' w' h2 g3 g5

theorem putG_new:∀ {G:List (Int×List Zit)} {n:Int} {x:Zit},(∀g∈G,g.1≠n)→putG G n x=G++[(n,[x])]
 | [],_,_,_=>rfl
 | g::t,n,x,h=>by
  have h1:=h g (List.mem_cons_self ..)
  have ih:=putG_new (x:=x) (fun y hy=>h y (List.mem_cons_of_mem _ hy))
  simp only[putG,if_neg h1,ih,List.cons_append]
theorem putG_at:∀ {G:List (Int×List Zit)} {n:Int} {x:Zit} {i:Nat} (hi:i<G.length),G[i].1=n→G.Pairwise (fun a b=>a.1≠b.1)→putG G n x=G.set i (n,G[i].2++[x])
 | g::t,n,x,0,_,h,_=>by
  have h':g.1=n:=h
  simp[putG,h']
 | g::t,n,x,i+1,hi,h,hp=>by
  have hp':=List.pairwise_cons.1 hp
  have hi':i<t.length:=by simpa using hi
  have h':t[i].1=n:=by simpa using h
  have h1:g.1≠n:=by rw[←h'];exact hp'.1 _ (List.getElem_mem hi')
  have ih:=putG_at (x:=x) hi' h' hp'.2
  simp only[putG,if_neg h1,ih,List.set_cons_succ,List.getElem_cons_succ]
theorem grpL_take {l:List Itm} {k:Nat} (h:k<l.length) (c:Int):grpL ((l.take (k+1)).map Itm.z) c=putG (grpL ((l.take k).map Itm.z) c) (atI l[k].r c) l[k].z:=by
 rw[List.take_succ_eq_append_getElem h,List.map_append]
 unfold grpL
 rw[List.foldl_append]
 rfl

/-- Where the group of each number stands, as the map has it. -/
structure Plc (D:DataW Unit) (gs:List Grp):Prop where
 has:∀n:Int,Maps.has D (.int .i64 n)=gs.any (fun g=>decide (g.n=n))
 pos:∀i (hi:i<gs.length),D.atKey (.int .i64 gs[i].n) (.lit (.int .i64 0))= .lit (.int .i64 i)
 uniq:gs.Pairwise fun a b=>a.n≠b.n
 map:IsMap D
theorem Plc.nil:Plc (.map []) []:=⟨fun n=>rfl,fun i hi=>absurd hi (by simp),List.Pairwise.nil,⟨[],rfl⟩⟩
theorem Plc.set {D:DataW Unit} {gs:List Grp} (h:Plc D gs) {i:Nat} (hi:i<gs.length) {g':Grp} (hn:g'.n=gs[i].n):Plc D (gs.set i g'):=by
 have hm:(gs.set i g').map (·.n)=gs.map (·.n):=by
  apply List.ext_getElem (by simp)
  intro j h1 h2
  simp only[List.getElem_map,List.getElem_set]
  split
  ·rename_i e;subst e;exact hn
  ·rfl
 refine ⟨fun n=> ?_,fun j hj=> ?_,?_,h.map⟩
 ·rw[h.has n]
  have e:∀L:List Grp,L.any (fun g=>decide (g.n=n))=(L.map (·.n)).any (fun m=>decide (m=n)):=fun L=>by rw[List.any_map];rfl
  rw[e,e,hm]
 ·have hj':j<gs.length:=by simpa using hj
  have e:(gs.set i g')[j].n=gs[j].n:=by
   have:=congrArg (·[j]?) hm
   simp only[List.getElem?_map,List.getElem?_eq_getElem hj,List.getElem?_eq_getElem hj',Option.map_some] at this
   exact Option.some.inj this
  rw[e];exact h.pos j hj'
 ·have e:∀L:List Grp,(L.map (·.n)).Pairwise (· ≠ ·)→L.Pairwise fun a b=>a.n≠b.n:=fun L hL=>List.pairwise_map.1 hL
  apply e
  rw[hm]
  exact List.pairwise_map.2 h.uniq
theorem Plc.more {D:DataW Unit} {gs:List Grp} (h:Plc D gs) {n:Int} (hno:Maps.has D (.int .i64 n)=false):Plc (D.put (.int .i64 n) (.lit (.int .i64 gs.length))) (gs++[⟨n,none,0,[]⟩]):=by
 have hno':∀g∈gs,g.n≠n:=fun g hg e=>by
  rw[h.has n] at hno
  have:=List.any_eq_false.1 hno g hg
  simp[e] at this
 refine ⟨fun m=> ?_,fun j hj=> ?_,?_,?_⟩
 ·rw[List.any_append]
  by_cases e:m=n
  ·subst e
   rw[has_put_same h.map (show WideAt.IsKeyLit (.int .i64 m) from trivial)]
   simp
  ·rw[has_put_other (fun k=>e (by cases k;rfl)),h.has m]
   have:decide (n=m)=false:=by simpa using fun k=>e k.symm
   simp[this]
 ·by_cases e:j<gs.length
  ·rw[List.getElem_append_left e]
   rw[atKey_put_other (fun k=>hno' _ (List.getElem_mem e) (by cases k;rfl))]
   exact h.pos j e
  ·have e2:j=gs.length:=by simp at hj;omega
   subst e2
   rw[List.getElem_append_right (Nat.le_refl _)]
   simp only[Nat.sub_self,List.getElem_cons_zero]
   exact atKey_put_same h.map (show WideAt.IsKeyLit (.int .i64 n) from trivial) _ _
 ·exact List.pairwise_append.2 ⟨h.uniq,List.pairwise_singleton _ _,fun a ha b hb=>by rw[List.mem_singleton.1 hb];exact hno' a ha⟩
 ·obtain ⟨es,he⟩:=h.map
  rw[he]
  exact ⟨_,rfl⟩
theorem Plc.find {D:DataW Unit} {gs:List Grp} (h:Plc D gs) {n:Int} (hy:Maps.has D (.int .i64 n)=true):∃i,∃hi:i<gs.length,gs[i].n=n∧D.atKey (.int .i64 n) (.lit (.int .i64 0))= .lit (.int .i64 i):=by
 rw[h.has n] at hy
 obtain ⟨g,hg,e⟩:=List.any_eq_true.1 hy
 obtain ⟨i,hi,rfl⟩:=List.mem_iff_getElem.1 hg
 have e':gs[i].n=n:=by simpa using e
 exact ⟨i,hi,e',by rw[←e'];exact h.pos i hi⟩
theorem rowNewP {W:World} {n:Nat} (hn:W.heap.size=n) (m:Int) (T:TypeId):RowG encP 2 (W.alloc (.cells #[.int .i64 m,.slice none 0 0] T)) (some ⟨n,0,none⟩) [⟨m,none,0,[]⟩]:=by
 subst hn
 refine Or.inr ⟨W.heap.size,0,rfl,by simp,fun j hj i hi=> ?_⟩
 obtain rfl:j=0:=by simp at hj;omega
 have hi':i=0∨i=1:=by omega
 rcases hi' with rfl|rfl
 ·exact box1 (w:=W) (Gr.refl _) (j:=0) rfl
 ·exact box1 (w:=W) (Gr.refl _) (j:=1) rfl
theorem lawI:Keyed Tryz.prog 3:=int_keyed Tryz.underlying3
theorem zeroI (w:World):(zeroValue 3).run Tryz.prog w= .ok (.int .i64 0) w:=by kernel_rfl
theorem wfN {n:Int} (h:okN n=true):(Lit.int .i64 n).wf=true:=by
 simp only[okN,inB,Bool.and_eq_true,decide_eq_true_eq] at h
 exact WalkArith.wf_i64 ⟨by omega,by omega⟩
theorem okN_at {r:List Int} (h:okR r=true) {c:Int}:okN (atI r c)=true:=by
 unfold okR at h
 simp only[Bool.and_eq_true,List.all_eq_true] at h
 unfold atI
 rw[List.getD_eq_getElem?_getD]
 cases e:r[c.toNat]? with
 | none=>rfl
 | some y=>exact h.2 y (List.mem_of_getElem? e)
end Go.Proofs.YtkadjjmkokhldaaGreat
