/-
  Cells in memory of the call's own, and what append makes of them.
  slices.SortFunc at cells: by their dots.
  table.Del: the table that deletes a row.
  dot.Join: the context that has what one of both has.
  Plain facts: a right context is told by the dots that it has; what fold makes has just what went in.
  table.mergeCells: the cells that both tables have, or that one has and the other hasn't seen, by their dots.
-/
import Derived.Test.YtckeonpnfankhaaGreatDoorM19
import Derived.Deep.RegionHeld
set_option maxRecDepth 100000
set_option maxHeartbeats 8000000
namespace Go.Proofs.YtckeonpnfankhaaGreatDoor
open Go.RowKit Go.Sort

abbrev dv (w:World) (base:Nat) (v:Value) (l:List Cel):Prop:=ai gn 5 97 w base v l
theorem Tryz.infoC:(Tryz.prog.info? 97).map (fun i=>(i.zero,i.size,i.bytes))=some (some (.agg #[.int .i64 0,.int .i64 0,.int .i64 0,.int .i64 0,.int .i64 0]),5,40):=by kernel_rfl

theorem jo {W:World} {n:Nat} (hn:W.heap.size=n) (x:Cel) (T:TypeId):bj (W.alloc (.cells #[.int .i64 x.1.1,.int .i64 x.1.2,.int .i64 x.2.1,.int .i64 x.2.2.1,.int .i64 x.2.2.2] T)) (some ⟨n,0,none⟩) [x]:=by
 subst hn
 refine oR ⟨W.heap.size,0,rfl,by simp,fun j hj i hi=> ?_⟩
 obtain rfl:j=0:=by simp at hj;omega
 match i,hi with
 | 0,_=>exact aa (w:=W) (gR _) (j:=0) rfl
 | 1,_=>exact aa (w:=W) (gR _) (j:=1) rfl
 | 2,_=>exact aa (w:=W) (gR _) (j:=2) rfl
 | 3,_=>exact aa (w:=W) (gR _) (j:=3) rfl
 | 4,_=>exact aa (w:=W) (gR _) (j:=4) rfl

theorem dy (w:World) {ops:Array Oper} {rest:List Oper} {o:Oper} {a:Act} {Q:Exit→Act→World→Prop} (hgd:o.guard=none) (s x:Operand)
  (ho:o.op= .call { callee:= .builtin .append,args:= #[s,x],argTypes:= #[39,39] })
  (base:Nat) (v:Value) (l m:List Cel) (A:Option Addr) (cap:Nat) (hs:a.eval s=v) (hx:a.eval x= .slice A m.length cap) (hown:dv w base v l) (hr:bj w A m) (hA:A=none→cap=0)
  (hml:l.length+m.length≤maxLen) (hb:(l.length+m.length)*40≤140737488355328) (hbase:base≤w.heap.size)
  (h:∀v' w',dv w' base v' (l++m)→w.grownBy w' v.ownBlock→wpList Tryz.prog ops Q rest (a.put o.dst v') w'):wpList Tryz.prog ops Q (o::rest) a w :=
 wpList_plain hgd fun _ hK=>eA dt lE (by omega) 39 Tryz.underlying39 (.agg #[.int .i64 0,.int .i64 0,.int .i64 0,.int .i64 0,.int .i64 0]) 40 Tryz.infoC rfl w s x ho base v l m A cap hs hx hown hr hA hml hb hbase fun v' w' h2 h3=>hK _ _ (h v' w' h2 h3)

theorem gy {p:Cel→Bool} {l:List Cel} {k:Nat} (h:k<l.length) {x:Cel} (hx:l[k]=x):(l.take (k+1)).filter p=(l.take k).filter p++(if p x then [x] else []):=by
 rw[List.take_succ_eq_append_getElem h,List.filter_append,hx]
 cases hq:p x<;>simp[hq]
theorem mE (p:Cel→Bool) (l:List Cel) (k:Nat):((l.take k).filter p).length≤l.length:=nT (List.length_filter_le _ _) (by rw[List.length_take];omega)

end Go.Proofs.YtckeonpnfankhaaGreatDoor

namespace Go.Proofs.YtckeonpnfankhaaGreatDoor
open Go.RowKit Go.Sort Go.Shelf Go.Lib

def rn (l:List Cel):Prop:=∀x∈l,∀y∈l,x.1=y.1→x=y
def fm (x y:Cel):Bool:=bq x.1 y.1
def fP (l:List Cel):List Cel:=l.mergeSort fun x y=> !fm y x

theorem oX (x y:Cel):fm x y=true↔x.1.1<y.1.1∨(x.1.1=y.1.1∧x.1.2<y.1.2):=j7 _ _
theorem je (x y:Cel):fm x y=false↔y.1.1<x.1.1∨(x.1.1=y.1.1∧y.1.2≤x.1.2):=by
 simp[fm,bq];omega
theorem zC {cf:Cel→Cel→Int} (hcf:∀x y,ltOf cf x y=fm x y):SWO (ltOf cf) where
 irrefl x:=by rw[hcf];simp[fm,bq]
 trans x y z h1 h2:=by rw[hcf,oX] at *;omega
 ntrans x y z h1 h2:=by rw[hcf,je] at *;omega
theorem gB (l:List Cel):(fP l).length=l.length:=by simp[fP]
theorem gZ (l:List Cel):(fP l).Perm l:=List.mergeSort_perm _ _
theorem mz (l:List Cel):(fP l).Pairwise fun x y=>(!fm y x)=true:=by
 refine List.pairwise_mergeSort ?_ ?_ _
 ·intro a b c h1 h2
  simp only[Bool.not_eq_true',je] at h1 h2 ⊢
  omega
 ·intro a b
  cases h:fm b a
  ·simp
  ·have:fm a b=false:=by rw[je];rw[oX] at h;omega
   simp[this]
theorem rz {x y:Cel} (h1:(!fm y x)=true) (h2:(!fm x y)=true):x.1=y.1:=by
 simp only[Bool.not_eq_true',je] at h1 h2
 exact Prod.ext (by omega) (by omega)
theorem wO {l m:List Cel} (hu:rn l) (hp:m.Perm l) (hs:m.Pairwise fun x y=>(!fm y x)=true):m=fP l:=by
 refine List.Perm.eq_of_pairwise (le:=fun x y=>(!fm y x)=true) ?_ hs (mz l) (hp.trans (gZ l).symm)
 intro a b ha hb h1 h2
 exact hu a (hp.mem_iff.1 ha) b ((gZ l).mem_iff.1 hb) (rz h1 h2)
theorem ud {l:List Cel} (hn:(l.map (·.1)).Nodup):Asc (fP l):=by
 have h1:=mz l
 have h2:((fP l).map (·.1)).Nodup:=((gZ l).map (·.1)).nodup_iff.2 hn
 have h3:(fP l).Pairwise fun x y=>x.1≠y.1:=List.pairwise_map.1 h2
 unfold Asc
 refine (h1.and h3).imp ?_
 intro x y ⟨h4,h5⟩
 cases h6:bq x.1 y.1
 ·exfalso
  refine h5 (rz h4 ?_)
  show (!bq x.1 y.1)=true
  rw[h6];rfl
 ·rfl

theorem xP {w:World} {g:Nat} {l:List Cel} (h:bj w (some ⟨g,0,none⟩) l) (hf:∀j,w.frozen? ⟨g,j,none⟩=false):HoldsK gn 5 w g 0 l.toArray:=by
 intro t ht
 rw[size_flatK] at ht
 rw[get_flatK _ _ _ t ht]
 simp only[List.size_toArray] at ht
 have hk:t / 5<l.length:=by omega
 refine ⟨?_,hf _⟩
 obtain ⟨b,off,hA,hb,hc⟩:=h.at hk
 obtain ⟨rfl,rfl⟩:g=b∧0=off:=by injection hA with hA;injection hA with h1 h2;exact ⟨h1,h2⟩
 have e:l.toArray[t / 5]! = l[t / 5]:=by simp[hk]
 rw[e]
 have:=hc (t / 5) hk (t % 5) (Nat.mod_lt _ (by omega))
 rw[show 0+t / 5*5+t % 5=0+t from by omega] at this
 rw[this]
 have hm:t % 5<5:=Nat.mod_lt _ (by omega)
 match t % 5,hm with
 | 0,_=>rfl
 | 1,_=>rfl
 | 2,_=>rfl
 | 3,_=>rfl
 | 4,_=>rfl

theorem zi {w:World} {g:Nat} {l:List Cel} (h:HoldsK gn 5 w g 0 l.toArray) (hg:g<w.heap.size):bj w (some ⟨g,0,none⟩) l:=by
 refine oR ⟨g,0,rfl,hg,fun j hj i hi=> ?_⟩
 have h0:=(h (j*5+i) (by rw[size_flatK];simp;omega)).1
 rw[get_flatK _ _ _ _ (by simp;omega)] at h0
 rw[show (j*5+i) / 5=j from by omega,show (j*5+i) % 5=i from by omega] at h0
 have e:l.toArray[j]! = l[j]:=by simp[hj]
 rw[e] at h0
 rw[show 0+j*5+i=0+(j*5+i) from by omega,h0]
 match i,hi with
 | 0,_=>rfl
 | 1,_=>rfl
 | 2,_=>rfl
 | 3,_=>rfl
 | 4,_=>rfl

theorem oq {w:World} {g n base:Nat} {os:Array Obj} {d:Array Cel} (hb:base≤g) (hs:base≤w.heap.size):Go.RowKit.Below base w (sortWorldK gn 5 w g 0 n d os):=by
 refine ⟨rfl,rfl,rfl,by simp[sortWorldK,grow,putRowK],fun k hk=> ?_⟩
 show ((putRowK gn 5 (Sort.ahead w n) g 0 d).heap++os)[k]? = _
 rw[Array.getElem?_append_left (by simp[putRowK];omega)]
 show ((Sort.ahead w n).heap.modify g _)[k]? = _
 rw[Array.getElem?_modify,if_neg (by omega)]
 rfl

theorem xv {cf:Cel→Cel→Int} (hcf:∀x y,ltOf cf x y=fm x y) (fid:Nat) (cb:Array Value) (eg:∀args w,(callFunc fid args).run Tryz.prog w= .ok (.enter fid args) w) (g cap:Nat) (l:List Cel) (w:World) (hcmp:CmpLays Tryz.prog fid cb gn 5 cf g 0 l.length w) (hu:rn l) (hH:HoldsK gn 5 w g 0 l.toArray) (hg:g<w.heap.size) (hsz:l.length<4611686018427387904) :
  Calls Tryz.prog 165 #[.slice (some ⟨g,0,none⟩) l.length cap,.func (.func fid) #[] cb] w fun e w'=>e= .returned (.tuple #[])∧bj w' (some ⟨g,0,none⟩) (fP l)∧∀base,base≤g→base≤w.heap.size→Go.RowKit.Below base w w':=by
 have hcon:=AnyQ.slices_SortFunc Tryz.sortCell 5 Tryz.isAgg97 Tryz.sizeOf97 gn (fun _=>rfl) lE cf (zC hcf) fid cb g 0 cap l.toArray w eg (by simpa using hcmp) hH hg (by simpa using hsz)
 change Calls Tryz.prog 165 _ _ _ at hcon
 simp only[List.size_toArray] at hcon
 refine hcon.mono ?_
 rintro e w' ⟨he,d',n,os,hp,hs,hw⟩
 obtain ⟨hsz',_,hperm⟩:=hp
 simp only[List.size_toArray] at hsz'
 have e1:d'.extract 0 l.length=d':=by rw[←hsz'];exact Array.extract_size
 have e2:(l.toArray.extract 0 l.length).toList=l:=by simp
 rw[e1,e2] at hperm
 have hpw:d'.toList.Pairwise fun x y=>(!fm y x)=true:=by
  rw[List.pairwise_iff_getElem]
  intro i j hi hj hij
  have hi':i<d'.size:=by simpa using hi
  have hj':j<d'.size:=by simpa using hj
  have:=hs i j (nZ _) hij (by omega)
  rw[getElem!_pos d' j hj',getElem!_pos d' i hi',hcf] at this
  simpa using this
 have hd:d'=(fP l).toArray:=by
  have:=wO hu hperm hpw
  rw[←this]
 subst hd
 refine ⟨he,?_,fun base h1 h2=>by rw[hw];exact oq h1 h2⟩
 have hH':HoldsK gn 5 w' g 0 (fP l).toArray:=by
  rw[hw]
  refine holdsK_grow _ _ _ _ _ _ _ (by simp[putRowK];exact hg) ?_
  exact holdsK_putRowK _ _ _ _ _ l.toArray _ (holdsK_ahead _ _ _ _ _ _ _ hH) (by simp[gB])
 refine zi hH' ?_
 rw[hw]
 simp[sortWorldK,grow,putRowK]
 omega

theorem uV {cf:Cel→Cel→Int} (hcf:∀x y,ltOf cf x y=fm x y) (fid:Nat) (cb:Array Value) (eg:∀args w,(callFunc fid args).run Tryz.prog w= .ok (.enter fid args) w) (base:Nat) (v:Value) (l:List Cel) (w:World) (hcmp:∀g,CmpLays Tryz.prog fid cb gn 5 cf g 0 l.length w) (hu:rn l) (hown:dv w base v l) (hb:base≤w.heap.size) (hsz:l.length<4611686018427387904) :
  Calls Tryz.prog 165 #[v,.func (.func fid) #[] cb] w fun e w'=>e= .returned (.tuple #[])∧(∃C cap,v= .slice C (fP l).length cap∧bj w' C (fP l)∧(C=none→cap=0)∧∀a,C=some a→base≤a.block)∧Go.RowKit.Below base w w':=by
 obtain ⟨A,cap,rfl,hA,hrow,hcap,hlt,hfz⟩:=ai.full dt hown
 by_cases h0:l=[]
 ·subst h0
  have hcon:=AnyF.slices_SortFunc_none Tryz.sortCell A cap (.func (.func fid) #[] cb) w
  change Calls Tryz.prog 165 _ _ _ at hcon
  refine hcon.mono ?_
  rintro e w' ⟨he,rfl⟩
  exact ⟨he,⟨A,cap,by simp[fP],oL (by simp[fP]),hA,fun a ha=>(hlt a ha).1⟩,bR _ _⟩
 ·have hpos:0<l.length:=List.length_pos_iff.2 h0
  obtain ⟨b,off,hAe,hbb,_⟩:=hrow.at hpos
  subst hAe
  have h5:=hlt _ rfl
  obtain rfl:off=0:=h5.2.2.1
  refine (xv hcf fid cb eg b cap l w (hcmp b) hu (xP hrow (hfz _ rfl)) hbb hsz).mono ?_
  rintro e w' ⟨he,hr',hbel⟩
  refine ⟨he,⟨_,cap,by rw[gB],hr',hA,fun a ha=>(hlt a ha).1⟩,hbel base h5.1 hb⟩

theorem yF (x y:Cel):ltOf (fun x y:Cel=>dO x.1 y.1) x y=fm x y:=by
 unfold ltOf fm
 cases h:bq x.1 y.1
 ·have:=gI h
  simp;omega
 ·simp[gK h]
theorem xH (blk off size:Nat) (w:World):CmpLays Tryz.prog 68 #[] gn 5 (fun x y:Cel=>dO x.1 y.1) blk off size w :=
 fun _ _ _ _ x y=>kH x y _

end Go.Proofs.YtckeonpnfankhaaGreatDoor

namespace Go.Proofs.YtckeonpnfankhaaGreatDoor
open Go.RowKit Go.Sort

def eD (t:Tab) (key:Int):Int:=if aq t≠0 then aq t else if inB key 0 49=false then 1 else if t.e.any (e9 key)=false then 4 else bJ (am (e9 key) t.e)
def cC (t:Tab) (key:Int):Ctx:=if eD t key=0 then aA (am (e9 key) t.e) else aG

structure Six (w:World) (B:Nat) (u0 u1 u2 u3 u4 u5:Value):Prop where
 k0:w.cell? ⟨B,0,none⟩=some u0
 k1:w.cell? ⟨B,1,none⟩=some u1
 k2:w.cell? ⟨B,2,none⟩=some u2
 k3:w.cell? ⟨B,3,none⟩=some u3
 k4:w.cell? ⟨B,4,none⟩=some u4
 k5:w.cell? ⟨B,5,none⟩=some u5
 fz:∀j,w.frozen? ⟨B,j,none⟩=false
 lt:B<w.heap.size
theorem Six.new (w:World) (u0 u1 u2 u3 u4 u5:Value) (T:TypeId) {B:Nat} (hB:B=w.heap.size):Six (w.alloc (.cells #[u0,u1,u2,u3,u4,u5] T)) B u0 u1 u2 u3 u4 u5:=by
 subst hB
 exact ⟨aa (gR _) rfl,aa (gR _) rfl,aa (gR _) rfl,aa (gR _) rfl,aa (gR _) rfl,aa (gR _) rfl,fun j=>ew (gR _) j,by simp⟩
theorem Six.belowB {w w':World} {B N:Nat} {u0 u1 u2 u3 u4 u5:Value} (h:Six w B u0 u1 u2 u3 u4 u5) (k:Below N w w') (hB:B<N):Six w' B u0 u1 u2 u3 u4 u5 :=
 ⟨(k.cell (p:=⟨B,0,none⟩) hB).trans h.k0,(k.cell (p:=⟨B,1,none⟩) hB).trans h.k1,(k.cell (p:=⟨B,2,none⟩) hB).trans h.k2,(k.cell (p:=⟨B,3,none⟩) hB).trans h.k3,(k.cell (p:=⟨B,4,none⟩) hB).trans h.k4,(k.cell (p:=⟨B,5,none⟩) hB).trans h.k5,fun j=>(k.frozen (p:=⟨B,j,none⟩) hB).trans (h.fz j),nL h.lt k.size⟩
theorem Six.below {w w':World} {B:Nat} {u0 u1 u2 u3 u4 u5:Value} (h:Six w B u0 u1 u2 u3 u4 u5) (k:Below w.heap.size w w'):Six w' B u0 u1 u2 u3 u4 u5:=h.belowB k h.lt
theorem Six.gr {w w':World} {B:Nat} {u0 u1 u2 u3 u4 u5:Value} (h:Six w B u0 u1 u2 u3 u4 u5) (k:Gr w w'):Six w' B u0 u1 u2 u3 u4 u5:=h.below k.below
theorem Six.set {w:World} {B:Nat} {u0 u1 u2 u3 u4 u5:Value} (h:Six w B u0 u1 u2 u3 u4 u5) (v0 v1 v2 v3 v4 v5:Value):Six ((((((w.setCell ⟨B,0,none⟩ v0).setCell ⟨B,1,none⟩ v1).setCell ⟨B,2,none⟩ v2).setCell ⟨B,3,none⟩ v3).setCell ⟨B,4,none⟩ v4).setCell ⟨B,5,none⟩ v5) B v0 v1 v2 v3 v4 v5:=by
 have e0:=h.k0
 have e1:=h.k1
 have e2:=h.k2
 have e3:=h.k3
 have e4:=h.k4
 have e5:=h.k5
 refine ⟨?_,?_,?_,?_,?_,?_,fun j=> ?_,by simpa[World.setCell] using h.lt⟩
 ·exact ab (ab (ab (ab (ab (ab e0)))))
 ·exact ab (ab (ab (ab (ab (ab e1)))))
 ·exact ab (ab (ab (ab (ab (ab e2)))))
 ·exact ab (ab (ab (ab (ab (ab e3)))))
 ·exact ab (ab (ab (ab (ab (ab e4)))))
 ·exact ab (ab (ab (ab (ab (ab e5)))))
 ·simp only[World.frozen?_setCell];exact h.fz j
abbrev xm (w:World) (B:Nat):Prop:=Six w B (.int .i64 0) (.int .i64 0) (.int .i64 0) (.int .i64 0) (.slice none 0 0) (.slice none 0 0)

theorem aj {n:Nat} {w W:World} (h:Below n w W) {B:Nat} (hB:n≤B) (u0 u1 u2 u3 u4 u5:Value):Below n w ((((((W.setCell ⟨B,0,none⟩ u0).setCell ⟨B,1,none⟩ u1).setCell ⟨B,2,none⟩ u2).setCell ⟨B,3,none⟩ u3).setCell ⟨B,4,none⟩ u4).setCell ⟨B,5,none⟩ u5):=(aY h hB u0 u1 u2 u3 u4).setCell hB u5
theorem ax.setCell {α : Type} {enc: α → List Value} {k:Nat} {w:World} {A:Option Addr} {l:List α} (h:ax enc k w A l) {B m:Nat} (u:Value) (hA:∀x,A=some x→x.block≠B):ax enc k (w.setCell ⟨B,m,none⟩ u) A l:=by
 rcases h with h|⟨b,off,rfl,hb,hc⟩
 ·exact oL h
 ·have hne:=hA _ rfl
  refine oR ⟨b,off,rfl,by simpa[World.setCell] using hb,fun j hj i hi=> ?_⟩
  rw[←hc j hj i hi]
  exact World.cell?_setCell_other _ _ _ _ (by intro e;injection e with e1;exact hne e1.symm)

theorem wU (t:Tab) (A:Option Addr) (ca:Nat) (D:Option Addr) (cd:Nat) (key:Int) (w:World) (hl:t.c.l.length≤maxLen) (hel:t.e.length≤maxLen) (hr:Row w A t.c.l) (hd:bj w D t.e) :
  Calls Tryz.prog 105 #[.agg (T6 t A ca D cd).toArray,.int .i64 key] w fun e w'=>∃C cp,e= .returned (.tuple #[.agg #[.int .i64 (cC t key).c0,.int .i64 (cC t key).c1,.int .i64 (cC t key).c2,.int .i64 (cC t key).c3,.slice C (cC t key).l.length cp,.slice none 0 0],.int .i64 (eD t key)])∧Row w' C (cC t key).l∧(C=none→cp=0)∧(∀a,C=some a→w.heap.size≤a.block)∧Below w.heap.size w w':=by
 have hg0:Gr w (((w.alloc (.cells #[.int .i64 t.c.c0,.int .i64 t.c.c1,.int .i64 t.c.c2,.int .i64 t.c.c3,.slice A t.c.l.length ca,.slice D t.e.length cd] 41)).alloc (.cells #[.int .i64 key] 3)).alloc (.cells #[.int .i64 0,.int .i64 0,.int .i64 0,.int .i64 0,.slice none 0 0,.slice none 0 0] 41)):=(((gR w).alloc _).alloc _).alloc _
 have ht0:TabAt (((w.alloc (.cells #[.int .i64 t.c.c0,.int .i64 t.c.c1,.int .i64 t.c.c2,.int .i64 t.c.c3,.slice A t.c.l.length ca,.slice D t.e.length cd] 41)).alloc (.cells #[.int .i64 key] 3)).alloc (.cells #[.int .i64 0,.int .i64 0,.int .i64 0,.int .i64 0,.slice none 0 0,.slice none 0 0] 41)) w.heap.size t A ca D cd:=(TabAt.new 41 hr hd rfl).gr (((gR _).alloc _).alloc _)
 have hk0:(((w.alloc (.cells #[.int .i64 t.c.c0,.int .i64 t.c.c1,.int .i64 t.c.c2,.int .i64 t.c.c3,.slice A t.c.l.length ca,.slice D t.e.length cd] 41)).alloc (.cells #[.int .i64 key] 3)).alloc (.cells #[.int .i64 0,.int .i64 0,.int .i64 0,.int .i64 0,.slice none 0 0,.slice none 0 0] 41)).cell? ⟨w.heap.size+1,0,none⟩=some (.int .i64 key):=lX ((gR _).alloc _) rfl
 have hz0:xm (((w.alloc (.cells #[.int .i64 t.c.c0,.int .i64 t.c.c1,.int .i64 t.c.c2,.int .i64 t.c.c3,.slice A t.c.l.length ca,.slice D t.e.length cd] 41)).alloc (.cells #[.int .i64 key] 3)).alloc (.cells #[.int .i64 0,.int .i64 0,.int .i64 0,.int .i64 0,.slice none 0 0,.slice none 0 0] 41)) (w.heap.size+1+1):=Six.new _ _ _ _ _ _ _ 41 (by simp)
 have hck:=ec t A ca D cd (((w.alloc (.cells #[.int .i64 t.c.c0,.int .i64 t.c.c1,.int .i64 t.c.c2,.int .i64 t.c.c3,.slice A t.c.l.length ca,.slice D t.e.length cd] 41)).alloc (.cells #[.int .i64 key] 3)).alloc (.cells #[.int .i64 0,.int .i64 0,.int .i64 0,.int .i64 0,.slice none 0 0,.slice none 0 0] 41)) hl hel ht0.row ht0.rowC
 have hckH:Hid _:=hck
 clear hck
 go_enter Tryz.func105,Tryz.ntmps105
 go_wp2_with fail
 refine cM (show Calls _ _ _ _ _ from hckH.out) ?_
 rintro e w1 ⟨rfl,hg1⟩
 clear hckH
 have hs0:w.heap.size+1+1<w1.heap.size:=(hz0.gr hg1).lt
 have ht1:=ht0.gr hg1
 have hz1:=hz0.gr hg1
 have hk1:=(hg1.cell (p:=⟨w.heap.size+1,0,none⟩) (by simp)).trans hk0
 have hgw1:Gr w w1:=hg0.trans hg1
 clear hg0 ht0 hk0 hz0 hg1
 obtain ⟨z0,z1,z2,z3,z4,z5,zf,zlt⟩:=(show Six _ _ _ _ _ _ _ _ from hz1)
 by_cases he:aq t=0
 ·have heb:(aq t != 0)=false:=by simpa using he
  have heH:Hid (aq t=0):=he
  have hel4:t.e.length≤400:=(ag he).2.1
  clear he
  cases hky:inB key 0 49
  ·have hfin:Hid (eD t key=1∧cC t key=aG):=by
    have h1:eD t key=1:=by simp[eD,heH.out,hky]
    exact ⟨h1,by simp[cC,h1]⟩
   go_wp2_with (go_at_call 94;refine (rD hky _).mono ?_;rintro e w1 ⟨rfl,rfl⟩)
   rw[hfin.out.1,hfin.out.2]
   exact bodyPost_ret (v:= .tuple #[.agg #[.int .i64 0,.int .i64 0,.int .i64 0,.int .i64 0,.slice none 0 0,.slice none 0 0],.int .i64 1]) (by simp[results,Tryz.results105,go_sem,z0,z1,z2,z3,z4,z5]) rfl ⟨none,0,rfl,oL rfl,fun _=>rfl,(fun x hx=>by cases hx),aj hgw1.below (by omega) _ _ _ _ _ _⟩
  ·have k5:=ht1.k5
   have eg:∀args w,(callFunc 158 args).run Tryz.prog w= .ok (.enter 158 args) w:=enters_of Tryz.func158 (by kernel_rfl) rfl
   have hcf:=fb (e9 key) 158 #[.pointer (some ⟨w.heap.size+1,0,none⟩)] eg t.e D cd w1 hel ht1.rowC (yK key (w.heap.size+1) w1 (by omega) hk1)
   have hcfH:Hid _:=hcf
   clear hcf
   go_wp2_with (first|(go_at_call 94;refine (rD hky _).mono ?_;rintro e w1 ⟨rfl,rfl⟩)|fail)
   refine cM (show Calls _ _ _ _ _ from hcfH.out) ?_
   rintro e w2 ⟨rfl,hg2⟩
   clear hcfH z0 z1 z2 z3 z4 z5 zf zlt k5
   have ht2:=ht1.gr hg2
   have k5:=ht2.k5
   have hk2:=(hg2.cell (p:=⟨w.heap.size+1,0,none⟩) (show w.heap.size+1<_ by omega)).trans hk1
   have hs2:w.heap.size+1+1<w2.heap.size:=(hz1.gr hg2).lt
   obtain ⟨z0,z1,z2,z3,z4,z5,zf,zlt⟩:=(show Six _ _ _ _ _ _ _ _ from hz1.gr hg2)
   have hgw2:Gr w w2:=hgw1.trans hg2
   cases han:t.e.any (e9 key)
   ·have hfin:Hid (eD t key=4∧cC t key=aG):=by
     have h1:eD t key=4:=by unfold eD;rw[if_neg (by simpa using heH.out),if_neg (by simp[hky]),if_pos han]
     exact ⟨h1,by simp[cC,h1]⟩
    go_wp2
    rw[hfin.out.1,hfin.out.2]
    exact bodyPost_ret (v:= .tuple #[.agg #[.int .i64 0,.int .i64 0,.int .i64 0,.int .i64 0,.slice none 0 0,.slice none 0 0],.int .i64 4]) (by simp[results,Tryz.results105,go_sem,z0,z1,z2,z3,z4,z5]) rfl ⟨none,0,rfl,oL rfl,fun _=>rfl,(fun x hx=>by cases hx),aj hgw2.below (by omega) _ _ _ _ _ _⟩
   ·have hco:=im (e9 key) 158 #[.pointer (some ⟨w.heap.size+1,0,none⟩)] eg t.e D cd w2 hel4 ht2.rowC (fun W hW x=>oK key (w.heap.size+1) x W (by have:=hW.size;omega) ((hW.cell (p:=⟨w.heap.size+1,0,none⟩) (show w.heap.size+1<_ by omega)).trans hk2))
    have hcoH:Hid _:=hco
    clear hco
    go_wp2_with fail
    refine cM (show Calls _ _ _ _ _ from hcoH.out) ?_
    rintro e w3 ⟨C,cp,rfl,hrow3,hC,hCb,hb3⟩
    clear hcoH z0 z1 z2 z3 z4 z5 zf zlt k5
    have hz3:=(hz1.gr hg2).below hb3
    obtain ⟨z0,z1,z2,z3,z4,z5,zf,zlt⟩:=(show Six _ _ _ _ _ _ _ _ from hz3)
    have hs3:w2.heap.size≤w3.heap.size:=hb3.size
    have hbw3:Hid (Below w.heap.size w w3):=hgw2.below.trans (hb3.mono (by omega))
    have hmD:Hid (eD t key=bJ (am (e9 key) t.e)):=by
     show eD t key=_
     unfold eD
     rw[if_neg (by simpa using heH.out),if_neg (by simp[hky]),if_neg (by simp[han])]
    have hmE:Hid (bJ (am (e9 key) t.e)=0→cC t key=aA (am (e9 key) t.e)):=fun h0=>by
     unfold cC
     rw[hmD.out,if_pos h0]
    have hmZ:Hid (bJ (am (e9 key) t.e)≠0→cC t key=aG):=fun h0=>by
     unfold cC
     rw[hmD.out,if_neg h0]
    obtain ⟨F,hF⟩:∃F,aA (am (e9 key) t.e)=F:=⟨_,rfl⟩
    obtain ⟨E,hE⟩:∃E,bJ (am (e9 key) t.e)=E:=⟨_,rfl⟩
    rw[hF] at hrow3 hmE ⊢
    rw[hE] at hmE hmZ hmD ⊢
    clear hF hE han
    have hCn:∀a,C=some a→a.block≠w.heap.size+1+1:=fun a ha=>by have:=hCb a ha;omega
    by_cases hE0:E=0
    ·have hfin:Hid (eD t key=0∧cC t key=F):=⟨hmD.out.trans hE0,hmE.out hE0⟩
     subst hE0
     have hV:=(hz3.set (.int .i64 F.c0) (.int .i64 F.c1) (.int .i64 F.c2) (.int .i64 F.c3) (.slice C F.l.length cp) (.slice none 0 0)).gr ((gR _).alloc (.cells #[.int .i64 F.c0,.int .i64 F.c1,.int .i64 F.c2,.int .i64 F.c3,.slice C F.l.length cp] 38))
     have hrV:Row _ C F.l:=(((((((hrow3.setCell (B:=w.heap.size+1+1) (j:=0) (.int .i64 F.c0) hCn).setCell (j:=1) (.int .i64 F.c1) hCn).setCell (j:=2) (.int .i64 F.c2) hCn).setCell (j:=3) (.int .i64 F.c3) hCn).setCell (j:=4) (.slice C F.l.length cp) hCn).setCell (j:=5) (.slice none 0 0) hCn)).gr ((gR _).alloc (.cells #[.int .i64 F.c0,.int .i64 F.c1,.int .i64 F.c2,.int .i64 F.c3,.slice C F.l.length cp] 38))
     have hbV:=(aj hbw3.out (B:=w.heap.size+1+1) (by omega) (.int .i64 F.c0) (.int .i64 F.c1) (.int .i64 F.c2) (.int .i64 F.c3) (.slice C F.l.length cp) (.slice none 0 0)).alloc (by simp;omega) (.cells #[.int .i64 F.c0,.int .i64 F.c1,.int .i64 F.c2,.int .i64 F.c3,.slice C F.l.length cp] 38)
     have hVH:Hid _:=hV
     have hbVH:Hid _:=hbV
     have hrVH:Hid _:=hrV
     clear hV hbV hrV
     go_wp2
     obtain ⟨v0,v1,v2,v3,v4,v5,vf,vlt⟩:=(show Six _ _ _ _ _ _ _ _ from hVH.out)
     have hbV:=hbVH.out
     have hrV:=hrVH.out
     rw[hfin.out.1,hfin.out.2]
     generalize World.alloc _ _=V at v0 v1 v2 v3 v4 v5 hbV hrV ⊢
     exact bodyPost_ret (v:= .tuple #[.agg #[.int .i64 F.c0,.int .i64 F.c1,.int .i64 F.c2,.int .i64 F.c3,.slice C F.l.length cp,.slice none 0 0],.int .i64 0]) (by simp[results,Tryz.results105,go_sem,v0,v1,v2,v3,v4,v5]) rfl ⟨C,cp,rfl,hrV,hC,fun a ha=>nT (by omega) (hCb a ha),hbV⟩
    ·have hfin:Hid (eD t key=E∧cC t key=aG):=⟨hmD.out,hmZ.out hE0⟩
     have hEb:(E != 0)=true:=by simpa using hE0
     clear hE0
     have hV:=(hz3.set (.int .i64 0) (.int .i64 0) (.int .i64 0) (.int .i64 0) (.slice none 0 0) (.slice none 0 0)).gr ((gR _).alloc (.cells #[.int .i64 F.c0,.int .i64 F.c1,.int .i64 F.c2,.int .i64 F.c3,.slice C F.l.length cp] 38))
     have hbV:=(aj hbw3.out (B:=w.heap.size+1+1) (by omega) (.int .i64 0) (.int .i64 0) (.int .i64 0) (.int .i64 0) (.slice none 0 0) (.slice none 0 0)).alloc (by simp;omega) (.cells #[.int .i64 F.c0,.int .i64 F.c1,.int .i64 F.c2,.int .i64 F.c3,.slice C F.l.length cp] 38)
     have hVH:Hid _:=hV
     have hbVH:Hid _:=hbV
     clear hV hbV
     go_wp2
     obtain ⟨v0,v1,v2,v3,v4,v5,vf,vlt⟩:=(show Six _ _ _ _ _ _ _ _ from hVH.out)
     have hbV:=hbVH.out
     rw[hfin.out.1,hfin.out.2]
     generalize World.alloc _ _=V at v0 v1 v2 v3 v4 v5 hbV ⊢
     exact bodyPost_ret (v:= .tuple #[.agg #[.int .i64 0,.int .i64 0,.int .i64 0,.int .i64 0,.slice none 0 0,.slice none 0 0],.int .i64 E]) (by simp[results,Tryz.results105,go_sem,v0,v1,v2,v3,v4,v5]) rfl ⟨none,0,rfl,oL rfl,fun _=>rfl,(fun x hx=>by cases hx),hbV⟩
 ·have hfin:Hid (eD t key=aq t∧cC t key=aG):=by
   have h1:eD t key=aq t:=by simp[eD,he]
   exact ⟨h1,by simp[cC,h1,he]⟩
  have heb:(aq t != 0)=true:=by simpa using he
  clear he
  go_wp2
  rw[hfin.out.1,hfin.out.2]
  exact bodyPost_ret (v:= .tuple #[.agg #[.int .i64 0,.int .i64 0,.int .i64 0,.int .i64 0,.slice none 0 0,.slice none 0 0],.int .i64 (aq t)]) (by simp[results,Tryz.results105,go_sem,z0,z1,z2,z3,z4,z5]) rfl ⟨none,0,rfl,oL rfl,fun _=>rfl,(fun x hx=>by cases hx),aj hgw1.below (by omega) _ _ _ _ _ _⟩


def jS (a b:Ctx):Ctx:=⟨max a.c0 b.c0,max a.c1 b.c1,max a.c2 b.c2,max a.c3 b.c3,[]⟩
def cX (a b:Ctx):Ctx:=dS (jS a b) (a.l++b.l)
def aD (a b:Ctx):Int:=if eU a b=0 then (if 400<(cX a b).l.length then 2 else 0) else eU a b
def az (a b:Ctx):Ctx:=if aD a b=0 then cX a b else aG

theorem mx (a b:Ctx) (x:Int):clk (jS a b) x=max (clk a x) (clk b x):=by
 unfold clk jS
 by_cases h0:x=0
 ·simp[h0]
 ·by_cases h1:x=1
  ·simp[h1]
  ·by_cases h2:x=2
   ·simp[h2]
   ·simp[h0,h1,h2]
theorem oz {a b:Ctx} (ha:bu a=true) (hb:bu b=true):bu (jS a b)=true:=by
 refine kB fun x h0 h4=> ?_
 have h1:=ch ha x h0 h4
 have h2:=ch hb x h0 h4
 rw[mx]
 simp only[inB,Bool.and_eq_true,decide_eq_true_eq]
 omega

structure ClkAt (w:World) (B:Nat) (x0 x1 x2 x3:Int):Prop where
 k0:w.cell? ⟨B,0,none⟩=some (.int .i64 x0)
 k1:w.cell? ⟨B,1,none⟩=some (.int .i64 x1)
 k2:w.cell? ⟨B,2,none⟩=some (.int .i64 x2)
 k3:w.cell? ⟨B,3,none⟩=some (.int .i64 x3)
 fz:∀j,w.frozen? ⟨B,j,none⟩=false
 lt:B<w.heap.size

def jP (a b:Ctx) (k:Nat):Int×Int×Int×Int:=(if 0<k then max a.c0 b.c0 else a.c0,if 1<k then max a.c1 b.c1 else a.c1,if 2<k then max a.c2 b.c2 else a.c2,if 3<k then max a.c3 b.c3 else a.c3)

theorem ClkAt.set {w:World} {B:Nat} {x0 x1 x2 x3:Int} (h:ClkAt w B x0 x1 x2 x3) (j:Nat) (u:Int):ClkAt (w.setCell ⟨B,j,none⟩ (.int .i64 u)) B (if 0=j then u else x0) (if 1=j then u else x1) (if 2=j then u else x2) (if 3=j then u else x3):=by
 refine ⟨?_,?_,?_,?_,fun i=>by rw[World.frozen?_setCell];exact h.fz i,by simpa[World.setCell] using h.lt⟩
 ·rw[ab h.k0];split<;>rfl
 ·rw[ab h.k1];split<;>rfl
 ·rw[ab h.k2];split<;>rfl
 ·rw[ab h.k3];split<;>rfl

theorem oE (a b:Ctx) (A B:Option Addr) (ca cb:Nat) (w:World) (hal:a.l.length≤maxLen) (hbl:b.l.length≤maxLen) (hra:Row w A a.l) (hrb:Row w B b.l) (hA:A=none→ca=0) (hB:B=none→cb=0) :
  Calls Tryz.prog 107 #[.agg #[.int .i64 a.c0,.int .i64 a.c1,.int .i64 a.c2,.int .i64 a.c3,.slice A a.l.length ca],.agg #[.int .i64 b.c0,.int .i64 b.c1,.int .i64 b.c2,.int .i64 b.c3,.slice B b.l.length cb]] w fun e w'=>∃C cp,e= .returned (.tuple #[.agg #[.int .i64 (az a b).c0,.int .i64 (az a b).c1,.int .i64 (az a b).c2,.int .i64 (az a b).c3,.slice C (az a b).l.length cp],.int .i64 (aD a b)])∧Row w' C (az a b).l∧(C=none→cp=0)∧(∀x,C=some x→w.heap.size≤x.block)∧Below w.heap.size w w':=by
 have hg0:Gr w (((w.alloc (.cells #[.int .i64 a.c0,.int .i64 a.c1,.int .i64 a.c2,.int .i64 a.c3,.slice A a.l.length ca] 38)).alloc (.cells #[.int .i64 b.c0,.int .i64 b.c1,.int .i64 b.c2,.int .i64 b.c3,.slice B b.l.length cb] 38)).alloc (.cells #[.int .i64 0,.int .i64 0,.int .i64 0,.int .i64 0,.slice none 0 0] 38)):=(((gR w).alloc _).alloc _).alloc _
 have ha0:CtxAt (((w.alloc (.cells #[.int .i64 a.c0,.int .i64 a.c1,.int .i64 a.c2,.int .i64 a.c3,.slice A a.l.length ca] 38)).alloc (.cells #[.int .i64 b.c0,.int .i64 b.c1,.int .i64 b.c2,.int .i64 b.c3,.slice B b.l.length cb] 38)).alloc (.cells #[.int .i64 0,.int .i64 0,.int .i64 0,.int .i64 0,.slice none 0 0] 38)) w.heap.size a A ca:=(CtxAt.new 38 hra rfl).gr (((gR _).alloc _).alloc _)
 have hb0:CtxAt (((w.alloc (.cells #[.int .i64 a.c0,.int .i64 a.c1,.int .i64 a.c2,.int .i64 a.c3,.slice A a.l.length ca] 38)).alloc (.cells #[.int .i64 b.c0,.int .i64 b.c1,.int .i64 b.c2,.int .i64 b.c3,.slice B b.l.length cb] 38)).alloc (.cells #[.int .i64 0,.int .i64 0,.int .i64 0,.int .i64 0,.slice none 0 0] 38)) (w.heap.size+1) b B cb:=(CtxAt.new 38 (hrb.gr ((gR _).alloc _)) (by simp)).gr ((gR _).alloc _)
 have hz0:CtxAt (((w.alloc (.cells #[.int .i64 a.c0,.int .i64 a.c1,.int .i64 a.c2,.int .i64 a.c3,.slice A a.l.length ca] 38)).alloc (.cells #[.int .i64 b.c0,.int .i64 b.c1,.int .i64 b.c2,.int .i64 b.c3,.slice B b.l.length cb] 38)).alloc (.cells #[.int .i64 0,.int .i64 0,.int .i64 0,.int .i64 0,.slice none 0 0] 38)) (w.heap.size+1+1) aG none 0:=CtxAt.new (c:=aG) (A:=none) (cap:=0) 38 (oL rfl) (by simp)
 have hzf0:∀j,(((w.alloc (.cells #[.int .i64 a.c0,.int .i64 a.c1,.int .i64 a.c2,.int .i64 a.c3,.slice A a.l.length ca] 38)).alloc (.cells #[.int .i64 b.c0,.int .i64 b.c1,.int .i64 b.c2,.int .i64 b.c3,.slice B b.l.length cb] 38)).alloc (.cells #[.int .i64 0,.int .i64 0,.int .i64 0,.int .i64 0,.slice none 0 0] 38)).frozen? ⟨w.heap.size+1+1,j,none⟩=false:=fun j=>by
  have:=ew (w:=(w.alloc (.cells #[.int .i64 a.c0,.int .i64 a.c1,.int .i64 a.c2,.int .i64 a.c3,.slice A a.l.length ca] 38)).alloc (.cells #[.int .i64 b.c0,.int .i64 b.c1,.int .i64 b.c2,.int .i64 b.c3,.slice B b.l.length cb] 38)) (gR (((w.alloc (.cells #[.int .i64 a.c0,.int .i64 a.c1,.int .i64 a.c2,.int .i64 a.c3,.slice A a.l.length ca] 38)).alloc (.cells #[.int .i64 b.c0,.int .i64 b.c1,.int .i64 b.c2,.int .i64 b.c3,.slice B b.l.length cb] 38)).alloc (.cells #[.int .i64 0,.int .i64 0,.int .i64 0,.int .i64 0,.slice none 0 0] 38))) j
  simpa using this
 have hck:=lS a b A B ca cb (((w.alloc (.cells #[.int .i64 a.c0,.int .i64 a.c1,.int .i64 a.c2,.int .i64 a.c3,.slice A a.l.length ca] 38)).alloc (.cells #[.int .i64 b.c0,.int .i64 b.c1,.int .i64 b.c2,.int .i64 b.c3,.slice B b.l.length cb] 38)).alloc (.cells #[.int .i64 0,.int .i64 0,.int .i64 0,.int .i64 0,.slice none 0 0] 38)) hal hbl (hra.gr hg0) (hrb.gr hg0)
 have hckH:Hid _:=hck
 clear hck
 unfold maxLen at hal hbl
 go_enter Tryz.func107,Tryz.ntmps107
 go_wp2_with fail
 refine cM (show Calls _ _ _ _ _ from hckH.out) ?_
 rintro e w1 ⟨rfl,hg1⟩
 clear hckH
 have ha1:=ha0.gr hg1
 have hb1:=hb0.gr hg1
 have hz1:=hz0.gr hg1
 have hzf1:∀j,w1.frozen? ⟨w.heap.size+1+1,j,none⟩=false:=fun j=>(hg1.below.frozen (p:=⟨w.heap.size+1+1,j,none⟩) hz0.lt).trans (hzf0 j)
 have hbw1:Hid (Below w.heap.size w w1):=(hg0.trans hg1).below
 clear ha0 hb0 hz0 hzf0 hg1 hg0
 obtain ⟨z0,z1,z2,z3,z4,zlt,_⟩:=(show CtxAt _ _ _ _ _ from hz1)
 by_cases he:eU a b=0
 ·have heb:(eU a b != 0)=false:=by simpa using he
  have heH:Hid (eU a b=0):=he
  clear he
  have hab:=kv heH.out
  have hpa:=bw hab.1
  have hpb:=bw hab.2
  have hal4:a.l.length≤400:=hpa.2.1
  have hbl4:b.l.length≤400:=hpb.2.1
  have hHH:Hid (bu (jS a b)=true∧(∀x∈srt (a.l++b.l),al x=true)):=⟨oz hpa.1 hpb.1,fun x hx=>by
   rcases List.mem_append.1 (iZ hx) with h|h
   ·exact iS hab.1 x h
   ·exact iS hab.2 x h⟩
  clear hpa hpb hab
  obtain ⟨a0,a1,a2,a3,a4,alt,_⟩:=(show CtxAt _ _ _ _ _ from ha1)
  obtain ⟨b0,b1,b2,b3,b4,blt,_⟩:=(show CtxAt _ _ _ _ _ from hb1)
  have i0:∀w,(Instr.index 35 (.agg #[.int .i64 b.c0,.int .i64 b.c1,.int .i64 b.c2,.int .i64 b.c3]) (.int .i64 0)).run Tryz.prog w= .ok (.int .i64 b.c0) w:=fun _=>by kernel_rfl
  have i1:∀w,(Instr.index 35 (.agg #[.int .i64 b.c0,.int .i64 b.c1,.int .i64 b.c2,.int .i64 b.c3]) (.int .i64 1)).run Tryz.prog w= .ok (.int .i64 b.c1) w:=fun _=>by kernel_rfl
  have i2:∀w,(Instr.index 35 (.agg #[.int .i64 b.c0,.int .i64 b.c1,.int .i64 b.c2,.int .i64 b.c3]) (.int .i64 2)).run Tryz.prog w= .ok (.int .i64 b.c2) w:=fun _=>by kernel_rfl
  have i3:∀w,(Instr.index 35 (.agg #[.int .i64 b.c0,.int .i64 b.c1,.int .i64 b.c2,.int .i64 b.c3]) (.int .i64 3)).run Tryz.prog w= .ok (.int .i64 b.c3) w:=fun _=>by kernel_rfl
  have hk0:ClkAt (w1.alloc (.cells #[.int .i64 a.c0,.int .i64 a.c1,.int .i64 a.c2,.int .i64 a.c3] 35)) w1.heap.size a.c0 a.c1 a.c2 a.c3:=⟨aa (gR _) rfl,aa (gR _) rfl,aa (gR _) rfl,aa (gR _) rfl,fun j=>ew (gR _) j,by simp⟩
  go_wp2
  clear a0 a1 a2 a3 a4 b0 b1 b2 b3 b4
  go_loopw [22] (fun i wr=>∃k:Nat,k≤4∧i= .int .i64 k∧ClkAt wr w1.heap.size (jP a b k).1 (jP a b k).2.1 (jP a b k).2.2.1 (jP a b k).2.2.2∧Below w1.heap.size w1 wr) (fun i _=>4-(intOf i).toNat)
  case atStart=>exact ⟨0,by omega,rfl,hk0,(bR _ _).alloc (nR _) _⟩
  case round =>
   obtain ⟨k,hk,rfl,hck,hbel⟩:=hrel
   have hf0:=hck.fz 0
   have hf1:=hck.fz 1
   have hf2:=hck.fz 2
   have hf3:=hck.fz 3
   by_cases hlt:k<4
   ·have h4:k=0∨k=1∨k=2∨k=3:=by omega
    obtain ⟨c0,c1,c2,c3,cf,clt⟩:=(show ClkAt _ _ _ _ _ _ from hck)
    rcases h4 with rfl|rfl|rfl|rfl
    ·simp only[jP] at c0 c1 c2 c3 hck
     go_wp2
     go_roundw
     case rel=>exact ⟨1,by omega,by go_num,by have:=hck.set 0 (max a.c0 b.c0);simpa[jP] using this,hbel.setCell (nR _) _⟩
     case measure=>simp[intOf]
    ·simp only[jP] at c0 c1 c2 c3 hck
     go_wp2
     go_roundw
     case rel=>exact ⟨2,by omega,by go_num,by have:=hck.set 1 (max a.c1 b.c1);simpa[jP] using this,hbel.setCell (nR _) _⟩
     case measure=>simp[intOf]
    ·simp only[jP] at c0 c1 c2 c3 hck
     go_wp2
     go_roundw
     case rel=>exact ⟨3,by omega,by go_num,by have:=hck.set 2 (max a.c2 b.c2);simpa[jP] using this,hbel.setCell (nR _) _⟩
     case measure=>simp[intOf]
    ·simp only[jP] at c0 c1 c2 c3 hck
     go_wp2
     go_roundw
     case rel=>exact ⟨4,by omega,by go_num,by have:=hck.set 3 (max a.c3 b.c3);simpa[jP] using this,hbel.setCell (nR _) _⟩
     case measure=>simp[intOf]
   ·obtain rfl:k=4:=by omega
    simp only[jP] at hck
    simp only[show (0<4)=True from by simp,show (1<4)=True from by simp,show (2<4)=True from by simp,show (3<4)=True from by simp,if_true] at hck
    have haR:=ha1.below hbel
    have hbR:=hb1.below hbel
    have hzR:=hz1.below hbel
    have hzfR:∀j,wr.frozen? ⟨w.heap.size+1+1,j,none⟩=false:=fun j=>(hbel.frozen (p:=⟨w.heap.size+1+1,j,none⟩) zlt).trans (hzf1 j)
    have hbwR:Hid (Below w.heap.size w wr):=hbw1.out.trans (hbel.mono hbw1.out.size)
    obtain ⟨F,hF⟩:∃F,au (jS a b) (srt (a.l++b.l)) (srt (a.l++b.l)).length=F:=⟨_,rfl⟩
    have hris:∀(W:World),Below wr.heap.size wr W→Calls Tryz.prog 164 #[.slice A a.l.length ca,.slice B b.l.length cb] W fun e w'=>∃C1 cp1,e= .returned (.slice C1 (srt (a.l++b.l)).length cp1)∧Row w' C1 (srt (a.l++b.l))∧Below wr.heap.size wr w'∧Below W.heap.size W w':=fun W hb =>
     (l9 a.l b.l A B ca cb W (haR.row.below hb) (hbR.row.below hb) hA hB hal4 hbl4).mono fun e w' ⟨C1,cp1,h1,h2,h3⟩=>⟨C1,cp1,h1,h2,hb.trans (h3.mono hb.size),h3⟩
    have hfold:∀(W:World) (C1:Option Addr) (cp1:Nat),Row W C1 (srt (a.l++b.l))→Below wr.heap.size wr W→Calls Tryz.prog 163 #[.agg #[.int .i64 (max a.c0 b.c0),.int .i64 (max a.c1 b.c1),.int .i64 (max a.c2 b.c2),.int .i64 (max a.c3 b.c3)],.slice C1 (srt (a.l++b.l)).length cp1] W fun e w'=>∃C2 cp2,e= .returned (.agg #[.int .i64 F.c0,.int .i64 F.c1,.int .i64 F.c2,.int .i64 F.c3,.slice C2 F.l.length cp2])∧Row w' C2 F.l∧(C2=none→cp2=0)∧(∀x,C2=some x→W.heap.size≤x.block)∧Below wr.heap.size wr w'∧Below W.heap.size W w':=fun W C1 cp1 hr1 hb=>by
     have h:=oM (jS a b) (srt (a.l++b.l)) C1 cp1 W rfl hHH.out.1 (by rw[eT,List.length_append];omega) hHH.out.2 hr1
     rw[hF] at h
     exact h.mono fun e w' ⟨C2,cp2,h1,h2,h3,h4,h5⟩=>⟨C2,cp2,h1,h2,h3,h4,hb.trans (h5.mono hb.size),h5⟩
    have hFF:Hid (cX a b=F):=hF
    have hrisH:Hid (∀(W:World),Below wr.heap.size wr W→_):=hris
    have hfoldH:Hid (∀(W:World) (C1:Option Addr) (cp1:Nat),Row W C1 (srt (a.l++b.l))→Below wr.heap.size wr W→_):=hfold
    clear hris hfold i0 i1 i2 i3 hF
    obtain ⟨c0,c1,c2,c3,cf,clt⟩:=(show ClkAt _ _ _ _ _ _ from hck)
    obtain ⟨a0,a1,a2,a3,a4,alt',_⟩:=(show CtxAt _ _ _ _ _ from haR)
    obtain ⟨b0,b1,b2,b3,b4,blt',_⟩:=(show CtxAt _ _ _ _ _ from hbR)
    have hKeep:Hid (∀w':World,Below wr.heap.size wr w'→(fun w'=>w'.cell? ⟨w1.heap.size,0,none⟩=some (.int .i64 (max a.c0 b.c0))∧w'.cell? ⟨w1.heap.size,1,none⟩=some (.int .i64 (max a.c1 b.c1))∧w'.cell? ⟨w1.heap.size,2,none⟩=some (.int .i64 (max a.c2 b.c2))∧w'.cell? ⟨w1.heap.size,3,none⟩=some (.int .i64 (max a.c3 b.c3))∧w'.cell? ⟨w.heap.size,4,none⟩=some (.slice A a.l.length ca)∧w'.cell? ⟨w.heap.size+1,4,none⟩=some (.slice B b.l.length cb)) w'):=fun w' hb=>⟨(hb.cell (p:=⟨w1.heap.size,0,none⟩) clt).trans c0,(hb.cell (p:=⟨w1.heap.size,1,none⟩) clt).trans c1,(hb.cell (p:=⟨w1.heap.size,2,none⟩) clt).trans c2,(hb.cell (p:=⟨w1.heap.size,3,none⟩) clt).trans c3,(hb.cell (p:=⟨w.heap.size,4,none⟩) alt').trans a4,(hb.cell (p:=⟨w.heap.size+1,4,none⟩) blt').trans b4⟩
    have hZR:Hid (ZAt wr (w.heap.size+1+1)):=⟨hzR.k0,hzR.k1,hzR.k2,hzR.k3,hzR.k4,hzfR,hzR.lt⟩
    go_wp2
    have hbd:Below wr.heap.size wr wr.drew:=(bR _ _).drew
    have hbdA:Hid (Below wr.heap.size wr (wr.drew.alloc (.cells #[.int .i64 0,.int .i64 0,.int .i64 0,.int .i64 0,.slice none 0 0] 38))):=hbd.alloc (nR _) _
    clear a0 a1 a2 a3 a4 b0 b1 b2 b3 b4 c0 c1 c2 c3 cf hck haR hbR hzR z0 z1 z2 z3 z4 hf0 hf1 hf2 hf3 hk0 hzf1 hzfR ha1 hb1 hz1
    go_region_held (fun w'=>w'.cell? ⟨w1.heap.size,0,none⟩=some (.int .i64 (max a.c0 b.c0))∧w'.cell? ⟨w1.heap.size,1,none⟩=some (.int .i64 (max a.c1 b.c1))∧w'.cell? ⟨w1.heap.size,2,none⟩=some (.int .i64 (max a.c2 b.c2))∧w'.cell? ⟨w1.heap.size,3,none⟩=some (.int .i64 (max a.c3 b.c3))∧w'.cell? ⟨w.heap.size,4,none⟩=some (.slice A a.l.length ca)∧w'.cell? ⟨w.heap.size+1,4,none⟩=some (.slice B b.l.length cb)) (first|exact hKeep.out _ hbd|exact hKeep.out _ hbdA.out|exact hKeep.out _ hbX.out|exact hKeep.out _ (hbX.out.alloc hbX.out.size _)|exact hKeep.out _ hbY.out|exact hKeep.out _ (hbY.out.alloc hbY.out.size _)|exact hKeep.out _ (aY hbY.out (by first|exact nR _|exact hbX.out.size) _ _ _ _ _)) (first|(go_at_call 164;(first|refine cM (show Calls _ _ _ _ _ from hrisH.out _ hbd) ?_|refine cM (show Calls _ _ _ _ _ from hrisH.out _ hbdA.out) ?_);rintro e wX ⟨C1,cp1,rfl,hrowX,hbX0,hX0⟩;have hbX:Hid (Below wr.heap.size wr wX):=hbX0;have hrX:Hid (Row wX C1 (srt (a.l++b.l))):=hrowX;clear hbX0 hrowX;first|(have hzX:Hid (ZAt wX wr.heap.size):=(ZAt.new wr.drew 38 rfl).below hX0;clear hX0)|clear hX0)|(go_at_call 163;(first|refine cM (show Calls _ _ _ _ _ from hfoldH.out _ C1 cp1 hrX.out hbX.out) ?_|refine cM (show Calls _ _ _ _ _ from hfoldH.out _ C1 cp1 (hrX.out.gr ((gR _).alloc _)) (hbX.out.alloc hbX.out.size _)) ?_);rintro e wY ⟨C2,cp2,rfl,hrowY,hCY,hCbY0,hbY0,hY0⟩;have hbY:Hid (Below wr.heap.size wr wY):=hbY0;have hrY:Hid (Row wY C2 F.l):=hrowY;have hCbY:Hid (∀x,C2=some x→_):=hCbY0;clear hbY0 hrowY hCbY0;first|(have hzY:Hid (ZAt wY wr.heap.size):=hzX.out.below hY0;obtain ⟨y0,y1,y2,y3,y4,yf,ylt⟩:=hzY.out)|(have hzY:Hid (ZAt wY wX.heap.size):=(ZAt.new wX 38 rfl).below hY0;obtain ⟨y0,y1,y2,y3,y4,yf,ylt⟩:=hzY.out)|skip))
    ·have hwr:w.heap.size+1+1<wr.heap.size:=hZR.out.lt
     have hFV:CtxAt (wY.alloc (.cells #[.int .i64 F.c0,.int .i64 F.c1,.int .i64 F.c2,.int .i64 F.c3,.slice C2 F.l.length cp2] 38)) wY.heap.size F C2 cp2:=CtxAt.new 38 hrY.out rfl
     have hZV:ZAt (wY.alloc (.cells #[.int .i64 F.c0,.int .i64 F.c1,.int .i64 F.c2,.int .i64 F.c3,.slice C2 F.l.length cp2] 38)) (w.heap.size+1+1):=(hZR.out.below hbY.out).below ((bR _ _).alloc (nR _) _)
     have hbV:Hid (Below w.heap.size w (wY.alloc (.cells #[.int .i64 F.c0,.int .i64 F.c1,.int .i64 F.c2,.int .i64 F.c3,.slice C2 F.l.length cp2] 38))):=(hbwR.out.trans (hbY.out.mono hbwR.out.size)).alloc (nT hbwR.out.size hbY.out.size) _
     have hC2:Hid (∀x,C2=some x→w.heap.size+1+1<x.block):=fun x hx=>by have h1:=hCbY.out x hx;have h2:=hbX.out.size;first|omega|(simp at h1;omega)
     generalize (wY.alloc (.cells #[.int .i64 F.c0,.int .i64 F.c1,.int .i64 F.c2,.int .i64 F.c3,.slice C2 F.l.length cp2] 38))=V at hFV hZV hbV ⊢
     obtain ⟨f0,f1,f2,f3,f4,flt,frow⟩:=(show CtxAt _ _ _ _ _ from hFV)
     obtain ⟨z0,z1,z2,z3,z4,zf,zl⟩:=(show ZAt _ _ from hZV)
     by_cases h400:400<F.l.length
     ·have h400z:(400:Int)<(F.l.length:Int):=by omega
      have hfin:Hid (aD a b=2∧az a b=aG):=by
       have h1:aD a b=2:=by unfold aD;rw[if_pos heH.out,hFF.out,if_pos h400]
       exact ⟨h1,by simp[az,h1]⟩
      go_wp2
      rw[hfin.out.1,hfin.out.2]
      exact bodyPost_ret (v:= .tuple #[.agg #[.int .i64 0,.int .i64 0,.int .i64 0,.int .i64 0,.slice none 0 0],.int .i64 2]) (by simp[results,Tryz.results107,go_sem,z0,z1,z2,z3,z4]) rfl ⟨none,0,rfl,oL rfl,fun _=>rfl,(fun x hx=>by cases hx),aY hbV.out (by omega) _ _ _ _ _⟩
     ·have h400z:¬(400:Int)<(F.l.length:Int):=by omega
      have hfin:Hid (aD a b=0∧az a b=F):=by
       have h1:aD a b=0:=by unfold aD;rw[if_pos heH.out,hFF.out,if_neg h400]
       exact ⟨h1,by simp[az,h1,hFF.out]⟩
      have hCn:∀x,C2=some x→x.block≠w.heap.size+1+1:=fun x hx=>by have:=hC2.out x hx;omega
      go_wp2
      rw[hfin.out.1,hfin.out.2]
      refine bodyPost_ret (v:= .tuple #[.agg #[.int .i64 F.c0,.int .i64 F.c1,.int .i64 F.c2,.int .i64 F.c3,.slice C2 F.l.length cp2],.int .i64 0]) (by simp[results,Tryz.results107,go_sem,z0,z1,z2,z3,z4]) rfl ⟨C2,cp2,rfl,?_,hCY,fun x hx=>by have:=hC2.out x hx;omega,aY hbV.out (by omega) _ _ _ _ _⟩
      exact ((((frow.setCell _ hCn).setCell _ hCn).setCell _ hCn).setCell _ hCn).setCell _ hCn
    ·have hwr:w.heap.size+1+1<wr.heap.size:=hZR.out.lt
     have hFV:CtxAt (((((wY.setCell ⟨wX.heap.size,0,none⟩ (.int .i64 F.c0)).setCell ⟨wX.heap.size,1,none⟩ (.int .i64 F.c1)).setCell ⟨wX.heap.size,2,none⟩ (.int .i64 F.c2)).setCell ⟨wX.heap.size,3,none⟩ (.int .i64 F.c3)).setCell ⟨wX.heap.size,4,none⟩ (.slice C2 F.l.length cp2)) wX.heap.size F C2 cp2:=(hzY.out.ctx).set hrY.out (fun x hx=>by have:=hCbY.out x hx;first|omega|(simp at this;omega))
     have hZV:ZAt (((((wY.setCell ⟨wX.heap.size,0,none⟩ (.int .i64 F.c0)).setCell ⟨wX.heap.size,1,none⟩ (.int .i64 F.c1)).setCell ⟨wX.heap.size,2,none⟩ (.int .i64 F.c2)).setCell ⟨wX.heap.size,3,none⟩ (.int .i64 F.c3)).setCell ⟨wX.heap.size,4,none⟩ (.slice C2 F.l.length cp2)) (w.heap.size+1+1):=(hZR.out.below hbY.out).other5 _ _ _ _ _ (by have:=hbX.out.size;omega)
     have hbV:Hid (Below w.heap.size w (((((wY.setCell ⟨wX.heap.size,0,none⟩ (.int .i64 F.c0)).setCell ⟨wX.heap.size,1,none⟩ (.int .i64 F.c1)).setCell ⟨wX.heap.size,2,none⟩ (.int .i64 F.c2)).setCell ⟨wX.heap.size,3,none⟩ (.int .i64 F.c3)).setCell ⟨wX.heap.size,4,none⟩ (.slice C2 F.l.length cp2))):=aY (hbwR.out.trans (hbY.out.mono hbwR.out.size)) (by have:=hbX.out.size;omega) _ _ _ _ _
     have hC2:Hid (∀x,C2=some x→w.heap.size+1+1<x.block):=fun x hx=>by have h1:=hCbY.out x hx;have h2:=hbX.out.size;first|omega|(simp at h1;omega)
     generalize (((((wY.setCell ⟨wX.heap.size,0,none⟩ (.int .i64 F.c0)).setCell ⟨wX.heap.size,1,none⟩ (.int .i64 F.c1)).setCell ⟨wX.heap.size,2,none⟩ (.int .i64 F.c2)).setCell ⟨wX.heap.size,3,none⟩ (.int .i64 F.c3)).setCell ⟨wX.heap.size,4,none⟩ (.slice C2 F.l.length cp2))=V at hFV hZV hbV ⊢
     obtain ⟨f0,f1,f2,f3,f4,flt,frow⟩:=(show CtxAt _ _ _ _ _ from hFV)
     obtain ⟨z0,z1,z2,z3,z4,zf,zl⟩:=(show ZAt _ _ from hZV)
     by_cases h400:400<F.l.length
     ·have h400z:(400:Int)<(F.l.length:Int):=by omega
      have hfin:Hid (aD a b=2∧az a b=aG):=by
       have h1:aD a b=2:=by unfold aD;rw[if_pos heH.out,hFF.out,if_pos h400]
       exact ⟨h1,by simp[az,h1]⟩
      go_wp2
      rw[hfin.out.1,hfin.out.2]
      exact bodyPost_ret (v:= .tuple #[.agg #[.int .i64 0,.int .i64 0,.int .i64 0,.int .i64 0,.slice none 0 0],.int .i64 2]) (by simp[results,Tryz.results107,go_sem,z0,z1,z2,z3,z4]) rfl ⟨none,0,rfl,oL rfl,fun _=>rfl,(fun x hx=>by cases hx),aY hbV.out (by omega) _ _ _ _ _⟩
     ·have h400z:¬(400:Int)<(F.l.length:Int):=by omega
      have hfin:Hid (aD a b=0∧az a b=F):=by
       have h1:aD a b=0:=by unfold aD;rw[if_pos heH.out,hFF.out,if_neg h400]
       exact ⟨h1,by simp[az,h1,hFF.out]⟩
      have hCn:∀x,C2=some x→x.block≠w.heap.size+1+1:=fun x hx=>by have:=hC2.out x hx;omega
      go_wp2
      rw[hfin.out.1,hfin.out.2]
      refine bodyPost_ret (v:= .tuple #[.agg #[.int .i64 F.c0,.int .i64 F.c1,.int .i64 F.c2,.int .i64 F.c3,.slice C2 F.l.length cp2],.int .i64 0]) (by simp[results,Tryz.results107,go_sem,z0,z1,z2,z3,z4]) rfl ⟨C2,cp2,rfl,?_,hCY,fun x hx=>by have:=hC2.out x hx;omega,aY hbV.out (by omega) _ _ _ _ _⟩
      exact ((((frow.setCell _ hCn).setCell _ hCn).setCell _ hCn).setCell _ hCn).setCell _ hCn
    ·have hwr:w.heap.size+1+1<wr.heap.size:=hZR.out.lt
     have hFV:CtxAt (((((wY.setCell ⟨wr.heap.size,0,none⟩ (.int .i64 F.c0)).setCell ⟨wr.heap.size,1,none⟩ (.int .i64 F.c1)).setCell ⟨wr.heap.size,2,none⟩ (.int .i64 F.c2)).setCell ⟨wr.heap.size,3,none⟩ (.int .i64 F.c3)).setCell ⟨wr.heap.size,4,none⟩ (.slice C2 F.l.length cp2)) wr.heap.size F C2 cp2:=(hzY.out.ctx).set hrY.out (fun x hx=>by have:=hCbY.out x hx;have:=hzX.out.lt;omega)
     have hZV:ZAt (((((wY.setCell ⟨wr.heap.size,0,none⟩ (.int .i64 F.c0)).setCell ⟨wr.heap.size,1,none⟩ (.int .i64 F.c1)).setCell ⟨wr.heap.size,2,none⟩ (.int .i64 F.c2)).setCell ⟨wr.heap.size,3,none⟩ (.int .i64 F.c3)).setCell ⟨wr.heap.size,4,none⟩ (.slice C2 F.l.length cp2)) (w.heap.size+1+1):=(hZR.out.below hbY.out).other5 _ _ _ _ _ (by omega)
     have hbV:Hid (Below w.heap.size w (((((wY.setCell ⟨wr.heap.size,0,none⟩ (.int .i64 F.c0)).setCell ⟨wr.heap.size,1,none⟩ (.int .i64 F.c1)).setCell ⟨wr.heap.size,2,none⟩ (.int .i64 F.c2)).setCell ⟨wr.heap.size,3,none⟩ (.int .i64 F.c3)).setCell ⟨wr.heap.size,4,none⟩ (.slice C2 F.l.length cp2))):=aY (hbwR.out.trans (hbY.out.mono hbwR.out.size)) (by omega) _ _ _ _ _
     have hC2:Hid (∀x,C2=some x→w.heap.size+1+1<x.block):=fun x hx=>by have h1:=hCbY.out x hx;have h2:=hbX.out.size;first|omega|(simp at h1;omega)
     generalize (((((wY.setCell ⟨wr.heap.size,0,none⟩ (.int .i64 F.c0)).setCell ⟨wr.heap.size,1,none⟩ (.int .i64 F.c1)).setCell ⟨wr.heap.size,2,none⟩ (.int .i64 F.c2)).setCell ⟨wr.heap.size,3,none⟩ (.int .i64 F.c3)).setCell ⟨wr.heap.size,4,none⟩ (.slice C2 F.l.length cp2))=V at hFV hZV hbV ⊢
     obtain ⟨f0,f1,f2,f3,f4,flt,frow⟩:=(show CtxAt _ _ _ _ _ from hFV)
     obtain ⟨z0,z1,z2,z3,z4,zf,zl⟩:=(show ZAt _ _ from hZV)
     by_cases h400:400<F.l.length
     ·have h400z:(400:Int)<(F.l.length:Int):=by omega
      have hfin:Hid (aD a b=2∧az a b=aG):=by
       have h1:aD a b=2:=by unfold aD;rw[if_pos heH.out,hFF.out,if_pos h400]
       exact ⟨h1,by simp[az,h1]⟩
      go_wp2
      rw[hfin.out.1,hfin.out.2]
      exact bodyPost_ret (v:= .tuple #[.agg #[.int .i64 0,.int .i64 0,.int .i64 0,.int .i64 0,.slice none 0 0],.int .i64 2]) (by simp[results,Tryz.results107,go_sem,z0,z1,z2,z3,z4]) rfl ⟨none,0,rfl,oL rfl,fun _=>rfl,(fun x hx=>by cases hx),aY hbV.out (by omega) _ _ _ _ _⟩
     ·have h400z:¬(400:Int)<(F.l.length:Int):=by omega
      have hfin:Hid (aD a b=0∧az a b=F):=by
       have h1:aD a b=0:=by unfold aD;rw[if_pos heH.out,hFF.out,if_neg h400]
       exact ⟨h1,by simp[az,h1,hFF.out]⟩
      have hCn:∀x,C2=some x→x.block≠w.heap.size+1+1:=fun x hx=>by have:=hC2.out x hx;omega
      go_wp2
      rw[hfin.out.1,hfin.out.2]
      refine bodyPost_ret (v:= .tuple #[.agg #[.int .i64 F.c0,.int .i64 F.c1,.int .i64 F.c2,.int .i64 F.c3,.slice C2 F.l.length cp2],.int .i64 0]) (by simp[results,Tryz.results107,go_sem,z0,z1,z2,z3,z4]) rfl ⟨C2,cp2,rfl,?_,hCY,fun x hx=>by have:=hC2.out x hx;omega,aY hbV.out (by omega) _ _ _ _ _⟩
      exact ((((frow.setCell _ hCn).setCell _ hCn).setCell _ hCn).setCell _ hCn).setCell _ hCn
 ·have hfin:Hid (aD a b=eU a b∧az a b=aG):=by
   have h1:aD a b=eU a b:=by simp[aD,he]
   exact ⟨h1,by simp[az,h1,he]⟩
  have heb:(eU a b != 0)=true:=by simpa using he
  clear he
  go_wp2
  rw[hfin.out.1,hfin.out.2]
  exact bodyPost_ret (v:= .tuple #[.agg #[.int .i64 0,.int .i64 0,.int .i64 0,.int .i64 0,.slice none 0 0],.int .i64 (eU a b)]) (by simp[results,Tryz.results107,go_sem,z0,z1,z2,z3,z4]) rfl ⟨none,0,rfl,oL rfl,fun _=>rfl,(fun x hx=>by cases hx),aY hbw1.out (by omega) _ _ _ _ _⟩

structure Can (c:Ctx):Prop where
 ck:bu c=true
 right:∀y∈c.l,al y=true
 above:∀y∈c.l,clk c y.1+1<y.2
 rise:c.l.Pairwise fun x y=>bq x y=true

theorem rH (x:Int×Int):bq x x=false:=by simp[bq]
theorem rR {x y z:Int×Int} (h:bq x y=true) (k:bq y z=true):bq x z=true:=by rw[j5] at *;omega
theorem uL {x y:Int×Int} (h:bq x y=true) (k:bq y x=true):x=y:=by rw[j5] at *;omega
theorem xu {x y:Int×Int} (h:leD x y) (k:x≠y):bq x y=true:=by
 rw[j5]
 rw[fO] at h
 by_cases h1:x.1=y.1
 ·have:x.2≠y.2:=fun h2=>k (Prod.ext h1 h2)
  omega
 ·omega

theorem cL {c:Ctx} (h:aJ c=0):Can c:=by
 have hp:=bw h
 have hr:=iS h
 refine ⟨hp.1,hr,?_,?_⟩
 ·intro y hy
  obtain ⟨j,hj,rfl⟩:=List.getElem_of_mem hy
  have:=hp.2.2 j hj
  cases j with
  | zero=>rw[eO hj rfl] at this;simp at this;omega
  | succ m=>rw[dJ hj rfl rfl] at this;simp at this;omega
 ·have step:∀m (hm:m+1<c.l.length),bq c.l[m] c.l[m+1]=true:=by
   intro m hm
   have:=hp.2.2 (m+1) hm
   rw[dJ hm rfl rfl] at this
   simp at this
   exact this.1.2
  rw[List.pairwise_iff_getElem]
  intro i j hi hj hij
  obtain ⟨d,rfl⟩:∃d,j=i+d+1:=⟨j-i-1,by omega⟩
  clear hij
  induction d with
  | zero=>exact step i hj
  | succ d ih=>exact rR (ih (by omega)) (step (i+d+1) hj)

theorem iV {c:Ctx} (h:Can c) (hl:c.l.length≤400):aJ c=0:=by
 refine rj h.ck hl fun k hk=> ?_
 have hr:=h.right _ (gM hk)
 have ha:=h.above _ (gM hk)
 cases k with
 | zero=>rw[eO hk rfl,hr];simp;omega
 | succ m =>
  have hb:=(List.pairwise_iff_getElem.1 h.rise) m (m+1) (by omega) hk (by omega)
  rw[dJ hk rfl rfl,hr,hb];simp;omega

theorem mX {c:Ctx} (h:Can c) {x:Int×Int} (hx:af c x=true):0≤x.1∧x.1<4∧1≤x.2:=by
 rcases (aF c x).1 hx with hm|hm
 ·have:=dL (h.right x hm);omega
 ·omega

theorem mm {c d:Ctx} (hc:Can c) (hd:Can d) (h:∀x,af c x=true→af d x=true) (n:Int) (h0:0≤n) (h4:n<4):clk c n≤clk d n:=by
 have hk:=ch hc.ck n h0 h4
 have hk':=ch hd.ck n h0 h4
 rcases Int.lt_or_le (clk d n) (clk c n) with hlt|hle
 ·have h1:af c (n,clk d n+1)=true:=(aF _ _).2 (oR ⟨h0,by show n≤3;omega,by show 1≤clk d n+1;omega,by show clk d n+1≤clk c n;omega⟩)
  rcases (aF _ _).1 (h _ h1) with hm|hm
  ·have:clk d n+1<clk d n+1:=hd.above _ hm
   omega
  ·have:clk d n+1≤clk d n:=hm.2.2.2
   omega
 ·exact hle

theorem qx {c d:Ctx} (hc:Can c) (hd:Can d) (h:∀x,af c x=true↔af d x=true):c=d:=by
 have hk:∀n,0≤n→n<4→clk c n=clk d n:=fun n h0 h4=>Int.le_antisymm (mm hc hd (fun x=>(h x).1) n h0 h4) (mm hd hc (fun x=>(h x).2) n h0 h4)
 have hm:∀ {c d:Ctx},Can c→Can d→(∀x,af c x=true↔af d x=true)→(∀n,0≤n→n<4→clk c n=clk d n)→∀x∈c.l,x∈d.l:=by
  intro c d hc hd h hk x hx
  have h1:=(h x).1 ((aF c x).2 (oL hx))
  rcases (aF d x).1 h1 with hm|hm
  ·exact hm
  ·have:=hc.above x hx
   have:=hk x.1 hm.1 (by omega)
   omega
 have hl:c.l=d.l:=by
  refine List.Perm.eq_of_pairwise (fun a b _ _ h1 h2=>uL h1 h2) hc.rise hd.rise ?_
  have nd:∀ {c:Ctx},Can c→c.l.Nodup:=fun hc=>hc.rise.imp fun hxy e=>by rw[e,rH] at hxy;cases hxy
  exact (List.perm_ext_iff_of_nodup (nd hc) (nd hd)).2 fun x=>⟨hm hc hd h hk x,hm hd hc (fun x=>(h x).symm) (fun n h0 h4=>(hk n h0 h4).symm) x⟩
 have k0:=hk 0 (by omega) (by omega)
 have k1:=hk 1 (by omega) (by omega)
 have k2:=hk 2 (by omega) (by omega)
 have k3:=hk 3 (by omega) (by omega)
 simp[clk] at k0 k1 k2 k3
 obtain ⟨c0,c1,c2,c3,cl⟩:=c
 obtain ⟨d0,d1,d2,d3,dl⟩:=d
 simp only at k0 k1 k2 k3 hl
 subst k0 k1 k2 k3 hl
 rfl

theorem tu {c:Ctx} {x:Int×Int} (hx:al x=true) (z:Int×Int):af (cR c x) z=true↔af c z=true∨z=x:=by
 have hn:=dL hx
 unfold cR
 by_cases hh:af c x=true
 ·rw[if_pos hh]
  constructor
  ·exact oL
  ·rintro (h|rfl)
   ·exact h
   ·exact hh
 ·rw[if_neg hh]
  by_cases h2:x.2=clk c x.1+1
  ·rw[if_pos h2,aF,aF,dR]
   constructor
   ·rintro (h|h)
    ·exact oL (oL h)
    ·rw[dE c x.1 x.2 z.1 hn.1 hn.2.1 h.1 (by omega)] at h
     by_cases hz:z.1=x.1
     ·rw[if_pos hz] at h
      by_cases hz2:z.2=x.2
      ·exact oR (Prod.ext hz hz2)
      ·exact oL (oR ⟨h.1,h.2.1,h.2.2.1,by rw[hz];omega⟩)
     ·rw[if_neg hz] at h
      exact oL (oR h)
   ·rintro ((h|h)|rfl)
    ·exact oL h
    ·refine oR ⟨h.1,h.2.1,h.2.2.1,?_⟩
     rw[dE c x.1 x.2 z.1 hn.1 hn.2.1 h.1 (by omega)]
     by_cases hz:z.1=x.1
     ·rw[if_pos hz]
      have:=h.2.2.2
      rw[hz] at this
      omega
     ·rw[if_neg hz];exact h.2.2.2
    ·refine oR ⟨hn.1,by omega,hn.2.2.1,?_⟩
     rw[dE c z.1 z.2 z.1 hn.1 hn.2.1 hn.1 hn.2.1,if_pos rfl]
     exact Int.le_refl _
  ·rw[if_neg h2,aF,aF]
   show (z∈c.l++[x]∨_)↔_
   rw[List.mem_append]
   constructor
   ·rintro ((h|h)|h)
    ·exact oL (oL h)
    ·exact oR (by simpa using h)
    ·exact oL (oR h)
   ·rintro ((h|h)|h)
    ·exact oL (oL h)
    ·exact oR h
    ·exact oL (oR (by simp[h]))

theorem vB (l:List (Int×Int)):∀(c:Ctx),(∀x∈l,al x=true)→∀z,af (l.foldl cR c) z=true↔af c z=true∨z∈l:=by
 induction l with
 | nil=>intro c _ z;simp
 | cons x l ih =>
  intro c hr z
  show af (l.foldl cR (cR c x)) z=true↔_
  rw[ih (cR c x) (fun y hy=>hr y (List.mem_cons_of_mem _ hy)) z,tu (hr x (List.mem_cons_self ..)),List.mem_cons]
  constructor
  ·rintro ((h|h)|h)
   ·exact oL h
   ·exact oR (oL h)
   ·exact oR (oR h)
  ·rintro (h|h|h)
   ·exact oL (oL h)
   ·exact oL (oR h)
   ·exact oR h

theorem sm {c:Ctx} {p:Option (Int×Int)} {x:Int×Int} {r:List (Int×Int)} (hc:Can c) (h:Mid c p (x::r)) (hx:al x=true) (hs:∀y∈r,leD x y):Can (cR c x):=by
 have hm:=lA h hx hs
 have hle:∀y∈c.l,leD y x:=fun y hy=>by
  obtain ⟨q,hq,hyq⟩:=h.last y hy
  exact i7 hyq (h.rest q hq x (mS ..))
 have hmid:=hm.2
 rw[←hm.1] at hmid
 have hclk:bu (cR c x)=true:=by rw[hm.1];exact pD hc.ck hx
 refine ⟨hclk,?_,hmid.above,?_⟩
 ·unfold cR
  by_cases hh:af c x=true
  ·rw[if_pos hh];exact hc.right
  ·rw[if_neg hh]
   by_cases h2:x.2=clk c x.1+1
   ·rw[if_pos h2,dR];exact hc.right
   ·rw[if_neg h2]
    intro y hy
    rcases List.mem_append.1 hy with hy|hy
    ·exact hc.right y hy
    ·obtain rfl:y=x:=by simpa using hy
     exact hx
 ·unfold cR
  by_cases hh:af c x=true
  ·rw[if_pos hh];exact hc.rise
  ·rw[if_neg hh]
   by_cases h2:x.2=clk c x.1+1
   ·rw[if_pos h2,dR];exact hc.rise
   ·rw[if_neg h2]
    refine List.pairwise_append.2 ⟨hc.rise,List.pairwise_singleton _ _,?_⟩
    intro y hy z hz
    obtain rfl:z=x:=by simpa using hz
    exact xu (hle y hy) fun e=>hh ((aF _ _).2 (oL (by rw[←e];exact hy)))

theorem vm (l:List (Int×Int)):∀(c:Ctx) (p:Option (Int×Int)),Can c→Mid c p l→l.Pairwise leD→(∀x∈l,al x=true)→Can (l.foldl cR c):=by
 induction l with
 | nil=>intro c p hc _ _ _;exact hc
 | cons x l ih =>
  intro c p hc h hs hr
  have hp:=List.pairwise_cons.1 hs
  have hm:=lA h (hr x (mS ..)) hp.1
  have hmid:=hm.2
  rw[←hm.1] at hmid
  exact ih (cR c x) (some x) (sm hc h (hr x (mS ..)) hp.1) hmid hp.2 (fun y hy=>hr y (mC _ hy))

theorem vh {c:Ctx} (hc:c.l=[]) (hk:bu c=true):Can c :=
 ⟨hk,(fun y hy=>by rw[hc] at hy;cases hy),(fun y hy=>by rw[hc] at hy;cases hy),by rw[hc];exact List.Pairwise.nil⟩

theorem mq {c:Ctx} (hc:c.l=[]) (hk:bu c=true) {l:List (Int×Int)} (hr:∀x∈l,al x=true):Can (dS c l):=by
 rw[jU hc hr]
 exact vm (srt l) c none (vh hc hk) (mP hc _) (l7 l) (fun x hx=>hr x (iZ hx))
theorem mn {c:Ctx} (hc:c.l=[]) {l:List (Int×Int)} (hr:∀x∈l,al x=true) (z:Int×Int):af (dS c l) z=true↔af c z=true∨z∈l:=by
 rw[jU hc hr,vB (srt l) c (fun x hx=>hr x (iZ hx)) z,(uY l).mem_iff]

theorem eL {a b:Ctx} (ha:Can a) (hb:Can b):Can (cX a b) :=
 mq rfl (oz ha.ck hb.ck) fun x hx=>by
  rcases List.mem_append.1 hx with h|h
  ·exact ha.right x h
  ·exact hb.right x h
theorem ee {a b:Ctx} (ha:Can a) (hb:Can b) (z:Int×Int):af (cX a b) z=true↔af a z=true∨af b z=true:=by
 unfold cX
 rw[mn rfl (fun x hx=>by
  rcases List.mem_append.1 hx with h|h
  ·exact ha.right x h
  ·exact hb.right x h) z,List.mem_append]
 have hz:af (jS a b) z=true↔0≤z.1∧z.1≤3∧1≤z.2∧z.2≤max (clk a z.1) (clk b z.1):=by
  rw[aF,mx]
  constructor
  ·rintro (h|h)
   ·cases h
   ·exact h
  ·exact oR
 rw[hz,aF,aF]
 constructor
 ·rintro (h|h|h)
  ·by_cases h1:z.2≤clk a z.1
   ·exact oL (oR ⟨h.1,h.2.1,h.2.2.1,h1⟩)
   ·exact oR (oR ⟨h.1,h.2.1,h.2.2.1,by omega⟩)
  ·exact oL (oL h)
  ·exact oR (oL h)
 ·rintro ((h|h)|(h|h))
  ·exact oR (oL h)
  ·exact oL ⟨h.1,h.2.1,h.2.2.1,by omega⟩
  ·exact oR (oR h)
  ·exact oL ⟨h.1,h.2.1,h.2.2.1,by omega⟩

theorem dT {a b:Ctx} (h:aD a b=0):Can a∧Can b∧eU a b=0∧az a b=cX a b∧(cX a b).l.length≤400:=by
 have he:eU a b=0:=by
  unfold aD at h
  by_cases he:eU a b=0
  ·exact he
  ·rw[if_neg he] at h;exact absurd h he
 have hl:(cX a b).l.length≤400:=by
  unfold aD at h
  rw[if_pos he] at h
  by_cases hl:400<(cX a b).l.length
  ·rw[if_pos hl] at h;cases h
  ·omega
 exact ⟨cL (kv he).1,cL (kv he).2,he,by simp[az,h],hl⟩
theorem kW {a b:Ctx} (ha:aJ a=0) (hb:aJ b=0) (hl:(cX a b).l.length≤400):aD a b=0:=by
 have he:eU a b=0:=by unfold eU;rw[if_pos ha];exact hb
 unfold aD
 rw[if_pos he,if_neg (by omega)]
theorem kA {a b:Ctx} (ha:Can a) (hb:Can b):cX a b=cX b a :=
 qx (eL ha hb) (eL hb ha) fun x=>by rw[ee ha hb,ee hb ha,or_comm]

end Go.Proofs.YtckeonpnfankhaaGreatDoor

namespace Go.Proofs.YtckeonpnfankhaaGreatDoor
open Go.RowKit Go.Sort Go.Shelf Go.Lib

def fj (b:Tab) (x:Cel):Bool:=gl b.e x.1 || !af b.c x.1
def eV (a:Tab) (x:Cel):Bool:= !af a.c x.1
def both (a b:Tab):List Cel:=a.e.filter (fj b)++b.e.filter (eV a)
def mrg (a b:Tab):List Cel:=fP (both a b)

theorem bO {t:Tab} (h:aq t=0) {x:Cel} (hx:x∈t.e):af t.c x.1=true:=by
 obtain ⟨j,hj,rfl⟩:=List.getElem_of_mem hx
 have hk:=(ag h).2.2 j hj
 have hg:t.e.getD j ((0,0),0,0,0)=t.e[j]:=by simp[hj]
 unfold dW at hk
 rw[hg] at hk
 simp only[Bool.and_eq_true] at hk
 exact hk.1.1
theorem dM {t:Tab} (h:aq t=0):Asc t.e:=by
 have hp:=(ag h).2.2
 have step:∀j (hj:j+1<t.e.length),bq (t.e[j]'(by omega)).1 t.e[j+1].1=true:=by
  intro j hj
  have hk:=hp (j+1) hj
  rw[e8 hj rfl rfl] at hk
  simp only[Bool.and_eq_true] at hk
  exact hk.2
 have far:∀d i (hi:i+d+1<t.e.length),bq (t.e[i]'(by omega)).1 (t.e[i+d+1]'hi).1=true:=by
  intro d
  induction d with
  | zero=>intro i hi;exact step i hi
  | succ d ih =>
   intro i hi
   have h1:=ih i (by omega)
   have h2:=step (i+d+1) (by omega)
   exact fN h1 h2
 unfold Asc
 rw[List.pairwise_iff_getElem]
 intro i j hi hj hij
 have:=far (j-i-1) i (by omega)
 have e:i+(j-i-1)+1=j:=by omega
 simp only[e] at this
 exact this
theorem ig {l:List Cel} (h:Asc l):(l.map (·.1)).Nodup:=by
 unfold List.Nodup
 rw[List.pairwise_map]
 exact h.imp fun h=>gP h
theorem iC {l:List Cel} (h:(l.map (·.1)).Nodup):rn l:=by
 intro x hx y hy e
 obtain ⟨i,hi,rfl⟩:=List.getElem_of_mem hx
 obtain ⟨j,hj,rfl⟩:=List.getElem_of_mem hy
 unfold List.Nodup at h
 rw[List.pairwise_map] at h
 rcases Nat.lt_trichotomy i j with h1|h1|h1
 ·exact absurd e ((List.pairwise_iff_getElem.1 h) i j hi hj h1)
 ·subst h1;rfl
 ·exact absurd e.symm ((List.pairwise_iff_getElem.1 h) j i hj hi h1)
theorem kO {a b:Tab} (ha:aq a=0) (hb:aq b=0):((both a b).map (·.1)).Nodup:=by
 unfold both
 rw[List.map_append,List.nodup_append]
 refine ⟨?_,?_,?_⟩
 ·exact (ig (dM ha)).sublist (List.filter_sublist.map _)
 ·exact (ig (dM hb)).sublist (List.filter_sublist.map _)
 ·intro d hd d' hd' e
  subst e
  obtain ⟨x,hx,rfl⟩:=List.mem_map.1 hd
  obtain ⟨y,hy,e⟩:=List.mem_map.1 hd'
  have h1:=bO ha (List.mem_filter.1 hx).1
  have h2:=(List.mem_filter.1 hy).2
  unfold eV at h2
  rw[e,h1] at h2
  cases h2
theorem fh {a b:Tab} (ha:aq a=0) (hb:aq b=0):Asc (mrg a b):=ud (kO ha hb)
theorem po (a b:Tab):(both a b).length≤a.e.length+b.e.length:=by
 unfold both
 rw[List.length_append]
 have:=List.length_filter_le (fj b) a.e
 have:=List.length_filter_le (eV a) b.e
 omega

theorem lj (a b:Tab) (A B C D:Option Addr) (ca cb cc cd:Nat) (w:World) (ha:aq a=0) (hb:aq b=0) (hra:Row w A a.c.l) (hrb:Row w B b.c.l) (hrc:bj w C a.e) (hrd:bj w D b.e) :
  Calls Tryz.prog 108 #[.agg (T6 a A ca C cc).toArray,.agg (T6 b B cb D cd).toArray] w fun e w'=>∃E ce,e= .returned (.slice E (mrg a b).length ce)∧bj w' E (mrg a b)∧(E=none→ce=0)∧(∀x,E=some x→w.heap.size≤x.block)∧Below w.heap.size w w':=by
 have hgX:Gr w ((w.alloc (.cells #[.int .i64 a.c.c0,.int .i64 a.c.c1,.int .i64 a.c.c2,.int .i64 a.c.c3,.slice A a.c.l.length ca,.slice C a.e.length cc] 41)).alloc (.cells #[.int .i64 b.c.c0,.int .i64 b.c.c1,.int .i64 b.c.c2,.int .i64 b.c.c3,.slice B b.c.l.length cb,.slice D b.e.length cd] 41)):=((gR _).alloc _).alloc _
 have hA0:TabAt ((w.alloc (.cells #[.int .i64 a.c.c0,.int .i64 a.c.c1,.int .i64 a.c.c2,.int .i64 a.c.c3,.slice A a.c.l.length ca,.slice C a.e.length cc] 41)).alloc (.cells #[.int .i64 b.c.c0,.int .i64 b.c.c1,.int .i64 b.c.c2,.int .i64 b.c.c3,.slice B b.c.l.length cb,.slice D b.e.length cd] 41)) w.heap.size a A ca C cc:=(TabAt.new 41 hra hrc rfl).gr ((gR _).alloc _)
 have hB0:TabAt ((w.alloc (.cells #[.int .i64 a.c.c0,.int .i64 a.c.c1,.int .i64 a.c.c2,.int .i64 a.c.c3,.slice A a.c.l.length ca,.slice C a.e.length cc] 41)).alloc (.cells #[.int .i64 b.c.c0,.int .i64 b.c.c1,.int .i64 b.c.c2,.int .i64 b.c.c3,.slice B b.c.l.length cb,.slice D b.e.length cd] 41)) (w.heap.size+1) b B cb D cd:=TabAt.new 41 (hrb.gr ((gR _).alloc _)) (hrd.gr ((gR _).alloc _)) (by simp)
 have hbw0:Below w.heap.size w ((w.alloc (.cells #[.int .i64 a.c.c0,.int .i64 a.c.c1,.int .i64 a.c.c2,.int .i64 a.c.c3,.slice A a.c.l.length ca,.slice C a.e.length cc] 41)).alloc (.cells #[.int .i64 b.c.c0,.int .i64 b.c.c1,.int .i64 b.c.c2,.int .i64 b.c.c3,.slice B b.c.l.length cb,.slice D b.e.length cd] 41)):=hgX.below
 have hal:a.e.length≤400:=(ag ha).2.1
 have hbl:b.e.length≤400:=(ag hb).2.1
 have a5:=hA0.k5
 go_enter Tryz.func108,Tryz.ntmps108
 go_wp2
 generalize ((w.alloc (.cells #[.int .i64 a.c.c0,.int .i64 a.c.c1,.int .i64 a.c.c2,.int .i64 a.c.c3,.slice A a.c.l.length ca,.slice C a.e.length cc] 41)).alloc (.cells #[.int .i64 b.c.c0,.int .i64 b.c.c1,.int .i64 b.c.c2,.int .i64 b.c.c3,.slice B b.c.l.length cb,.slice D b.e.length cd] 41))=w0 at hA0 hB0 hbw0 a5 ⊢
 have haH:Hid (aq a=0):=ha
 have hbH:Hid (aq b=0):=hb
 have hascb:Hid (Asc b.e):=dM hb
 have hcl:Hid (a.c.l.length≤maxLen∧b.c.l.length≤maxLen):=by
  have h1:=(bw (ag ha).1).2.1
  have h2:=(bw (ag hb).1).2.1
  exact ⟨nT h1 (by decide),nT h2 (by decide)⟩
 clear a5 ha hb hgX
 go_loopw [5,15] (fun v i wr=>∃k:Nat,k≤a.e.length∧i= .int .i64 k∧dv wr w0.heap.size v ((a.e.take k).filter (fj b))∧Below w0.heap.size w0 wr) (fun _ i _=>a.e.length-(intOf i).toNat)
 case atStart=>exact ⟨0,by omega,rfl,ai.nil _ _ _ _ _,bR _ _⟩
 case round =>
  obtain ⟨k,hk,rfl,hov,hbel⟩:=hrel
  obtain ⟨A1,cap1,rfl,hA1,hrow1,hlt1⟩:=ai.row dt hov
  have hAR:=hA0.below hbel
  have hBR:=hB0.below hbel
  have hsR:w0.heap.size≤wr.heap.size:=hbel.size
  by_cases hlt:k<a.e.length
  ·have hltz:(k:Int)<(a.e.length:Int):=by omega
   obtain ⟨bb,off,rfl,hbb,hcs⟩:=bj.get hAR.rowC hlt
   obtain ⟨x,hx⟩:∃x,a.e[k]=x:=⟨_,rfl⟩
   obtain ⟨e0,e1,e2,e3,e4⟩:=hcs k hlt
   rw[hx] at e0 e1 e2 e3 e4
   have hst:=gy (p:=fj b) hlt hx
   clear hcs hx
   obtain ⟨M,HM⟩:∃M,(a.e.take k).filter (fj b)=M:=⟨_,rfl⟩
   have hMl:M.length≤400:=by rw[←HM];exact nT (mE _ _ _) hal
   rw[HM] at hov hst hrow1 ⊢
   clear HM
   have hovH:Hid (dv wr w0.heap.size (.slice A1 M.length cap1) M):=hov
   have hbelH:Hid (Below w0.heap.size w0 wr):=hbel
   have hgX:Gr wr (wr.alloc (.cells #[.int .i64 x.1.1,.int .i64 x.1.2,.int .i64 x.2.1,.int .i64 x.2.2.1,.int .i64 x.2.2.2] 97)):=(gR _).alloc _
   have hxA:=CelAt.new (w:=wr) x 97 rfl
   have hBX:=hBR.gr hgX
   have b5:=hBX.k5
   obtain ⟨x0,x1,x2,x3,x4,xlt⟩:=(show CelAt _ _ _ from hxA)
   have hbs:=ke b.e D cd x _ hbl hBX.rowC hascb.out
   have hbsH:Hid _:=hbs
   clear hov hbel hrow1 hbs
   go_wp2_with fail
   refine cM (show Calls _ _ _ _ _ from hbsH.out) ?_
   rintro e w2 ⟨ix,rfl,-,hg2⟩
   clear hbsH x0 x1 x2 x3 x4 b5
   have hx2:=hxA.gr hg2
   have hB2:=hBX.gr hg2
   have hgW:Gr wr w2:=hgX.trans hg2
   clear hgX hg2 hxA hBX xlt
   obtain ⟨x0,x1,x2,x3,x4,xlt⟩:=(show CelAt _ _ _ from hx2)
   cases hm:gl b.e x.1
   ·obtain ⟨b0,b1,b2,b3,b4,b5,blt,brow,browC⟩:=(show TabAt _ _ _ _ _ _ _ from hB2)
    have hha:=jf b.c B cb x.1 w2 hcl.out.2 brow
    have hhaH:Hid _:=hha
    clear hha
    go_wp2_with fail
    refine cM (show Calls _ _ _ _ _ from hhaH.out) ?_
    rintro e w3 ⟨rfl,hg3⟩
    clear hhaH x0 x1 x2 x3 x4 b0 b1 b2 b3 b4 b5
    have hgW3:Gr wr w3:=hgW.trans hg3
    obtain ⟨x0,x1,x2,x3,x4,xlt3⟩:=(show CelAt _ _ _ from hx2.gr hg3)
    cases hq:af b.c x.1
    ·have hst2:Hid ((a.e.take (k+1)).filter (fj b)=M++[x]):=by show _=_;rw[hst,if_pos (by simp[fj,hm,hq])]
     have hbd:Hid (M.length+[x].length≤maxLen∧(M.length+[x].length)*40≤140737488355328):=by show _∧_;unfold maxLen;simp only[List.length_cons,List.length_nil];omega
     clear hst
     go_wp2_with (at_builtin;refine dy _ rfl _ _ rfl w0.heap.size (.slice A1 M.length cap1) M [x] (some ⟨w3.heap.size,0,none⟩) 1 rfl rfl ?ho ?hr (fun h=>by cases h) hbd.out.1 hbd.out.2 ?hs ?_)
     case ho=>exact hovH.out.gr (hgW3.alloc _)
     case hr=>exact jo rfl _ _
     case hs=>have:=hgW3.size;simp;omega
     intro v1 w4 hown1 hgr1
     have hb3:Hid (Below w0.heap.size w0 w4):=hbelH.out.trans (((hgW3.alloc _).below.mono hsR).trans (ai.grown_below (hovH.out.gr (hgW3.alloc _)) hgr1 (by have:=hgW3.size;simp;omega)))
     have hownH:Hid (dv w4 w0.heap.size v1 (M++[x])):=hown1
     clear hown1 hgr1
     go_wp2
     go_roundw
     case rel=>exact ⟨k+1,by omega,by go_num,by rw[hst2.out];exact hownH.out,hb3.out⟩
     case measure=>simp[intOf];omega
    ·have hst2:Hid ((a.e.take (k+1)).filter (fj b)=M):=by show _=_;rw[hst,if_neg (by simp[fj,hm,hq])];simp
     clear hst
     go_wp2
     go_roundw
     case rel=>exact ⟨k+1,by omega,by go_num,by rw[hst2.out];exact hovH.out.gr hgW3,hbelH.out.trans (hgW3.below.mono hsR)⟩
     case measure=>simp[intOf];omega
   ·have hst2:Hid ((a.e.take (k+1)).filter (fj b)=M++[x]):=by show _=_;rw[hst,if_pos (by simp[fj,hm])]
    have hbd:Hid (M.length+[x].length≤maxLen∧(M.length+[x].length)*40≤140737488355328):=by show _∧_;unfold maxLen;simp only[List.length_cons,List.length_nil];omega
    clear hst
    go_wp2_with (at_builtin;refine dy _ rfl _ _ rfl w0.heap.size (.slice A1 M.length cap1) M [x] (some ⟨w2.heap.size,0,none⟩) 1 rfl rfl ?ho ?hr (fun h=>by cases h) hbd.out.1 hbd.out.2 ?hs ?_)
    case ho=>exact hovH.out.gr (hgW.alloc _)
    case hr=>exact jo rfl _ _
    case hs=>have:=hgW.size;simp;omega
    intro v1 w4 hown1 hgr1
    have hb3:Hid (Below w0.heap.size w0 w4):=hbelH.out.trans (((hgW.alloc _).below.mono hsR).trans (ai.grown_below (hovH.out.gr (hgW.alloc _)) hgr1 (by have:=hgW.size;simp;omega)))
    have hownH:Hid (dv w4 w0.heap.size v1 (M++[x])):=hown1
    clear hown1 hgr1
    go_wp2
    go_roundw
    case rel=>exact ⟨k+1,by omega,by go_num,by rw[hst2.out];exact hownH.out,hb3.out⟩
    case measure=>simp[intOf];omega
  ·have hltz:¬(k:Int)<(a.e.length:Int):=by omega
   have hke:a.e.take k=a.e:=List.take_of_length_le (by omega)
   rw[hke] at hov hrow1 ⊢
   clear hke
   have b5:=hBR.k5
   obtain ⟨F,HF⟩:∃F,a.e.filter (fj b)=F:=⟨_,rfl⟩
   have hFl:F.length≤400:=by rw[←HF];exact nT (List.length_filter_le _ _) hal
   rw[HF] at hov hrow1 ⊢
   have HFH:Hid (a.e.filter (fj b)=F):=HF
   have hovF:Hid (dv wr w0.heap.size (.slice A1 F.length cap1) F):=hov
   have hbelF:Hid (Below w0.heap.size w0 wr):=hbel
   clear HF hov hbel hrow1 hAR
   go_wp2
   clear b5 hBR
   go_loopw [5,43] (fun v i wq=>∃k:Nat,k≤b.e.length∧i= .int .i64 k∧dv wq w0.heap.size v (F++(b.e.take k).filter (eV a))∧Below w0.heap.size w0 wq) (fun _ i _=>b.e.length-(intOf i).toNat)
   case atStart=>exact ⟨0,by omega,rfl,by simpa using hovF.out,hbelF.out⟩
   case round =>
    rename World=>wq
    obtain ⟨j,hj,rfl,hov,hbel⟩:=hrel
    obtain ⟨A2,cap2,rfl,hA2,hrow2,hlt2⟩:=ai.row dt hov
    have hAR:=hA0.below hbel
    have hBR:=hB0.below hbel
    have hsQ:w0.heap.size≤wq.heap.size:=hbel.size
    by_cases hjt:j<b.e.length
    ·have hltz2:(j:Int)<(b.e.length:Int):=by omega
     obtain ⟨bb,off,rfl,hbb,hcs⟩:=bj.get hBR.rowC hjt
     obtain ⟨x,hx⟩:∃x,b.e[j]=x:=⟨_,rfl⟩
     obtain ⟨e0,e1,e2,e3,e4⟩:=hcs j hjt
     rw[hx] at e0 e1 e2 e3 e4
     have hst:=gy (p:=eV a) hjt hx
     clear hcs hx
     obtain ⟨M,HM⟩:∃M,F++(b.e.take j).filter (eV a)=M:=⟨_,rfl⟩
     have hMl:M.length≤800:=by
      rw[←HM,List.length_append]
      have:=mE (eV a) b.e j
      omega
     have hstM:F++(b.e.take (j+1)).filter (eV a)=M++(if eV a x then [x] else []):=by rw[hst,←List.append_assoc,HM]
     rw[HM] at hov hrow2 ⊢
     clear HM hst
     have hovH:Hid (dv wq w0.heap.size (.slice A2 M.length cap2) M):=hov
     have hbelH:Hid (Below w0.heap.size w0 wq):=hbel
     have hgX:Gr wq (wq.alloc (.cells #[.int .i64 x.1.1,.int .i64 x.1.2,.int .i64 x.2.1,.int .i64 x.2.2.1,.int .i64 x.2.2.2] 97)):=(gR _).alloc _
     have hxA:=CelAt.new (w:=wq) x 97 rfl
     have hAX:=hAR.gr hgX
     obtain ⟨a0,a1,a2,a3,a4,a5,alt,arow,arowC⟩:=(show TabAt _ _ _ _ _ _ _ from hAX)
     obtain ⟨x0,x1,x2,x3,x4,xlt⟩:=(show CelAt _ _ _ from hxA)
     have hha:=jf a.c A ca x.1 _ hcl.out.1 arow
     have hhaH:Hid _:=hha
     clear hov hbel hrow2 hha
     go_wp2_with fail
     refine cM (show Calls _ _ _ _ _ from hhaH.out) ?_
     rintro e w3 ⟨rfl,hg3⟩
     clear hhaH x0 x1 x2 x3 x4 a0 a1 a2 a3 a4 a5
     have hgW3:Gr wq w3:=hgX.trans hg3
     obtain ⟨x0,x1,x2,x3,x4,xlt3⟩:=(show CelAt _ _ _ from hxA.gr hg3)
     cases hq:af a.c x.1
     ·have hst2:Hid (F++(b.e.take (j+1)).filter (eV a)=M++[x]):=by show _=_;rw[hstM,if_pos (by simp[eV,hq])]
      have hbd:Hid (M.length+[x].length≤maxLen∧(M.length+[x].length)*40≤140737488355328):=by show _∧_;unfold maxLen;simp only[List.length_cons,List.length_nil];omega
      clear hstM
      go_wp2_with (at_builtin;refine dy _ rfl _ _ rfl w0.heap.size (.slice A2 M.length cap2) M [x] (some ⟨w3.heap.size,0,none⟩) 1 rfl rfl ?ho ?hr (fun h=>by cases h) hbd.out.1 hbd.out.2 ?hs ?_)
      case ho=>exact hovH.out.gr (hgW3.alloc _)
      case hr=>exact jo rfl _ _
      case hs=>have:=hgW3.size;simp;omega
      intro v1 w4 hown1 hgr1
      have hb3:Hid (Below w0.heap.size w0 w4):=hbelH.out.trans (((hgW3.alloc _).below.mono hsQ).trans (ai.grown_below (hovH.out.gr (hgW3.alloc _)) hgr1 (by have:=hgW3.size;simp;omega)))
      have hownH:Hid (dv w4 w0.heap.size v1 (M++[x])):=hown1
      clear hown1 hgr1
      go_wp2
      go_roundw
      case rel=>exact ⟨j+1,by omega,by go_num,by rw[hst2.out];exact hownH.out,hb3.out⟩
      case measure=>simp[intOf];omega
     ·have hst2:Hid (F++(b.e.take (j+1)).filter (eV a)=M):=by show _=_;rw[hstM,if_neg (by simp[eV,hq])];simp
      clear hstM
      go_wp2
      go_roundw
      case rel=>exact ⟨j+1,by omega,by go_num,by rw[hst2.out];exact hovH.out.gr hgW3,hbelH.out.trans (hgW3.below.mono hsQ)⟩
      case measure=>simp[intOf];omega
    ·have hltz2:¬(j:Int)<(b.e.length:Int):=by omega
     have hke:b.e.take j=b.e:=List.take_of_length_le (by omega)
     rw[hke] at hov hrow2 ⊢
     clear hke
     have hbo:F++b.e.filter (eV a)=both a b:=by unfold both;rw[HFH.out]
     rw[hbo] at hov hrow2 ⊢
     have hM:=po a b
     have hso:=uV (fun x y=>yF x y) 68 #[] (enters_of Tryz.func68 (by kernel_rfl) rfl) w0.heap.size _ (both a b) wq (fun g=>xH g 0 _ wq) (iC (kO haH.out hbH.out)) hov hsQ (by omega)
     have hsoH:Hid _:=hso
     have hbwQ:Below w.heap.size w wq:=hbw0.trans (hbel.mono hbw0.size)
     have hs0:=hbw0.size
     have hmr:Hid (mrg a b=fP (both a b)):=rfl
     clear hso hov hrow2 hbo hBR hAR
     generalize both a b=M at hsoH hmr ⊢
     go_wp2_with fail
     refine cM (show Calls _ _ _ _ _ from hsoH.out) ?_
     rintro e w4 ⟨rfl,⟨E,ce,hvE,hrE,hE0,hEb⟩,hb4⟩
     clear hsoH
     go_wp2
     go_ret
     exact ⟨E,ce,by rw[hmr.out,←hvE];rfl,by rw[hmr.out];exact hrE,hE0,fun x hx=>nT hs0 (hEb x hx),hbwQ.trans (hb4.mono hs0)⟩

end Go.Proofs.YtckeonpnfankhaaGreatDoor
