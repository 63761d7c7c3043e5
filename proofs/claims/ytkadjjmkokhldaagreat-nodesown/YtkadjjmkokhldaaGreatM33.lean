/-
  table.clash: has a cell of one list the dot of one of the other, and is another one?
  Cells in memory of the call's own, and what append makes of them.
  slices.SortFunc at cells: by their dots.
-/
import Derived.Test.YtkadjjmkokhldaaGreatM32
import Derived.Test.YtkadjjmkokhldaaGreatM06
import Derived.Test.YtkadjjmkokhldaaGreatM03
import Derived.Test.YtkadjjmkokhldaaGreatM01
namespace Go.Proofs.YtkadjjmkokhldaaGreat
open Go.RowKit Go.Sort

/-- One of the cells has the dot of x, and is another one. -/
def clP (l:List Cel) (x:Cel):Bool:=l.any fun y=>decide (y.1=x.1) && !celEq y x

theorem asc_uniq {l:List Cel} (hs:Asc l) {i j:Nat} (hi:i<l.length) (hj:j<l.length) (h:l[i].1=l[j].1):i=j:=by
 rcases Nat.lt_trichotomy i j with h1|h1|h1
 ·have:=(List.pairwise_iff_getElem.1 hs) i j hi hj h1
  exact absurd h (befT_ne this)
 ·exact h1
 ·have:=(List.pairwise_iff_getElem.1 hs) j i hj hi h1
  exact absurd h.symm (befT_ne this)
theorem clP_at {l:List Cel} {x:Cel} (hs:Asc l) {i:Nat} (hi:i<l.length) (h:l[i].1=x.1):clP l x= !celEq l[i] x:=by
 cases hq:celEq l[i] x
 ·unfold clP
  show _=true
  rw[List.any_eq_true]
  exact ⟨l[i],List.getElem_mem hi,by rw[hq];simpa using h⟩
 ·unfold clP
  show _=false
  rw[List.any_eq_false]
  intro y hy
  obtain ⟨j,hj,rfl⟩:=List.getElem_of_mem hy
  by_cases hd:l[j].1=x.1
  ·obtain rfl:=asc_uniq hs hi hj (h.trans hd.symm)
   rw[hq];simp
  ·simp[hd]
theorem clP_none {l:List Cel} {x:Cel} (h:memD l x.1=false):clP l x=false:=by
 unfold memD at h
 rw[List.any_eq_false] at h
 unfold clP
 rw[List.any_eq_false]
 intro y hy
 have:=h y hy
 simp at this ⊢
 intro he
 exact absurd he this

set_option maxRecDepth 100000 in
set_option maxHeartbeats 1000000 in
theorem clash1_any (l:List Cel) (B:Option Addr) (cb:Nat) (p:Nat) (x:Cel) (w:World) (hl:l.length≤400) (hp:p<w.heap.size) (kp:w.cell? ⟨p,0,none⟩=some (.slice B l.length cb)) (hr:RowC w B l) (hs:Asc l) :
  Calls Tryz.prog 61 #[.agg #[.int .i64 x.1.1,.int .i64 x.1.2,.int .i64 x.2.1,.int .i64 x.2.2.1,.int .i64 x.2.2.2],.pointer (some ⟨p,0,none⟩)] w fun e w'=>e= .returned (.bool (clP l x))∧Gr w w':=by
 have mixed:Tryz.prog.follows .mixedOrders=true:=by kernel_rfl
 have hx0:CelAt (w.alloc (.cells #[.int .i64 x.1.1,.int .i64 x.1.2,.int .i64 x.2.1,.int .i64 x.2.2.1,.int .i64 x.2.2.2] 55)) w.heap.size x:=CelAt.new x 55 rfl
 have hg0:Gr w (w.alloc (.cells #[.int .i64 x.1.1,.int .i64 x.1.2,.int .i64 x.2.1,.int .i64 x.2.2.1,.int .i64 x.2.2.2] 55)):=(Gr.refl w).alloc _
 go_enter Tryz.func61,Tryz.ntmps61
 go_wp2_with fail
 refine (bsearch_any l B cb x _ hl (hr.gr hg0) hs).mono ?_
 rintro e w1 ⟨i,rfl,hf,hg1⟩
 have hgW:Gr w w1:=hg0.trans hg1
 have kp1:w1.cell? ⟨p,0,none⟩=some (.slice B l.length cb):=(hgW.cell (p:=⟨p,0,none⟩) hp).trans kp
 have hp1:p<w1.heap.size:=Nat.lt_of_lt_of_le hp hgW.size
 have hx1:=hx0.gr hg1
 have hr1:=hr.gr hgW
 clear hx0 hg0 hg1 kp hr
 cases hm:memD l x.1
 ·have hfin:Hid (clP l x=false):=clP_none hm
  clear hf
  go_wp2
  refine wp_region_quiet_grown mixed (by kernel_rfl) ?_
  repeat (go_big_quiet_step (fail))
  refine wpQuiet_nil ?_
  rintro _ ⟨⟨nq2,osq2⟩,rfl⟩
  go_wp2
  go_ret
  rw[hfin.out]
  exact ⟨rfl,hgW.trans ⟨nq2,osq2,rfl⟩⟩
 ·obtain ⟨hi,hd⟩:=hf hm
  have hfin:Hid (clP l x= !celEq l[i] x):=clP_at hs hi hd
  have hiz:(i:Int)<(l.length:Int):=by omega
  obtain ⟨bb,off,rfl,hb,hcs⟩:=RowC.get hr1 hi
  obtain ⟨y,hy⟩:∃y,l[i]=y:=⟨_,rfl⟩
  obtain ⟨e0,e1,e2,e3,e4⟩:=hcs i hi
  rw[hy] at e0 e1 e2 e3 e4 hfin
  have q0:=cell_grown (a:=⟨bb,off+i*5,none⟩) hb e0
  have q1:=cell_grown (a:=⟨bb,off+i*5+1,none⟩) hb e1
  have q2:=cell_grown (a:=⟨bb,off+i*5+2,none⟩) hb e2
  have q3:=cell_grown (a:=⟨bb,off+i*5+3,none⟩) hb e3
  have q4:=cell_grown (a:=⟨bb,off+i*5+4,none⟩) hb e4
  have kG:=cell_grown (a:=⟨p,0,none⟩) hp1 kp1
  obtain ⟨x0,x1,x2,x3,x4⟩:=hx1.G
  have hE:=neqCel
  have hG:=guardCel
  clear e0 e1 e2 e3 e4 hcs hf hd hy hs
  go_wp2
  refine wp_region_quiet_grown mixed (by kernel_rfl) ?_
  repeat (go_big_quiet_step (fail))
  refine wpQuiet_nil ?_
  rintro _ ⟨⟨nq2,osq2⟩,rfl⟩
  go_wp2
  go_ret
  rw[hfin.out]
  exact ⟨rfl,hgW.trans ⟨nq2,osq2,rfl⟩⟩

set_option maxRecDepth 100000 in
set_option maxHeartbeats 1000000 in
theorem clash_any (a b:List Cel) (A B:Option Addr) (ca cb:Nat) (w:World) (hal:a.length≤400) (hbl:b.length≤400) (hra:RowC w A a) (hrb:RowC w B b) (hs:Asc b) :
  Calls Tryz.prog 39 #[.slice A a.length ca,.slice B b.length cb] w fun e w'=>e= .returned (.bool (a.any (clP b)))∧Gr w w':=by
 have hg0:Gr w (w.alloc (.cells #[.slice B b.length cb] 35)):=(Gr.refl w).alloc _
 have k0:(w.alloc (.cells #[.slice B b.length cb] 35)).cell? ⟨w.heap.size,0,none⟩=some (.slice B b.length cb):=box1 (Gr.refl _) rfl
 have hlt0:w.heap.size<(w.alloc (.cells #[.slice B b.length cb] 35)).heap.size:=by simp
 have hpr:PredG 61 #[.pointer (some ⟨w.heap.size,0,none⟩)] (clP b) (w.alloc (.cells #[.slice B b.length cb] 35)):=fun W hg x =>
  clash1_any b B cb w.heap.size x W hbl (Nat.lt_of_lt_of_le hlt0 hg.size) ((hg.cell (p:=⟨w.heap.size,0,none⟩) hlt0).trans k0) (hrb.gr (hg0.trans hg)) hs
 have hc:=containsFuncC_any (clP b) 61 #[.pointer (some ⟨w.heap.size,0,none⟩)] (enters_of Tryz.func61 (by kernel_rfl) rfl) a A ca _ (by unfold maxLen;omega) (hra.gr hg0) hpr
 have hcH:Hid _:=hc
 clear hc hpr
 go_enter Tryz.func39,Tryz.ntmps39
 go_wp2_with fail
 refine Calls.mono (show Calls _ _ _ _ _ from hcH.out) ?_
 rintro e w1 ⟨rfl,hg1⟩
 go_wp2
 go_ret
 exact ⟨rfl,hg0.trans hg1⟩

end Go.Proofs.YtkadjjmkokhldaaGreat

namespace Go.Proofs.YtkadjjmkokhldaaGreat
open Go.RowKit Go.Sort

abbrev OwnC (w:World) (base:Nat) (v:Value) (l:List Cel):Prop:=OwnG encC 5 55 w base v l
theorem Tryz.infoC:(Tryz.prog.info? 55).map (fun i=>(i.zero,i.size,i.bytes))=some (some (.agg #[.int .i64 0,.int .i64 0,.int .i64 0,.int .i64 0,.int .i64 0]),5,40):=by kernel_rfl

theorem rowNewCl {W:World} {n:Nat} (hn:W.heap.size=n) (x:Cel) (T:TypeId):RowC (W.alloc (.cells #[.int .i64 x.1.1,.int .i64 x.1.2,.int .i64 x.2.1,.int .i64 x.2.2.1,.int .i64 x.2.2.2] T)) (some ⟨n,0,none⟩) [x]:=by
 subst hn
 refine Or.inr ⟨W.heap.size,0,rfl,by simp,fun j hj i hi=> ?_⟩
 obtain rfl:j=0:=by simp at hj;omega
 match i,hi with
 | 0,_=>exact box1 (w:=W) (Gr.refl _) (j:=0) rfl
 | 1,_=>exact box1 (w:=W) (Gr.refl _) (j:=1) rfl
 | 2,_=>exact box1 (w:=W) (Gr.refl _) (j:=2) rfl
 | 3,_=>exact box1 (w:=W) (Gr.refl _) (j:=3) rfl
 | 4,_=>exact box1 (w:=W) (Gr.refl _) (j:=4) rfl

theorem wpList_append_c (w:World) {ops:Array Oper} {rest:List Oper} {o:Oper} {a:Act} {Q:Exit→Act→World→Prop} (hgd:o.guard=none) (s x:Operand)
  (ho:o.op= .call { callee:= .builtin .append,args:= #[s,x],argTypes:= #[35,35] })
  (base:Nat) (v:Value) (l m:List Cel) (A:Option Addr) (cap:Nat) (hs:a.eval s=v) (hx:a.eval x= .slice A m.length cap) (hown:OwnC w base v l) (hr:RowC w A m) (hA:A=none→cap=0)
  (hml:l.length+m.length≤maxLen) (hb:(l.length+m.length)*40≤140737488355328) (hbase:base≤w.heap.size)
  (h:∀v' w',OwnC w' base v' (l++m)→w.grownBy w' v.ownBlock→wpList Tryz.prog ops Q rest (a.put o.dst v') w'):wpList Tryz.prog ops Q (o::rest) a w :=
 wpList_plain hgd fun _ hK=>wp_append_g encC_len encC_one (by omega) 35 Tryz.underlying35 (.agg #[.int .i64 0,.int .i64 0,.int .i64 0,.int .i64 0,.int .i64 0]) 40 Tryz.infoC rfl w s x ho base v l m A cap hs hx hown hr hA hml hb hbase fun v' w' h2 h3=>hK _ _ (h v' w' h2 h3)

theorem filter_take {p:Cel→Bool} {l:List Cel} {k:Nat} (h:k<l.length) {x:Cel} (hx:l[k]=x):(l.take (k+1)).filter p=(l.take k).filter p++(if p x then [x] else []):=by
 rw[List.take_succ_eq_append_getElem h,List.filter_append,hx]
 cases hq:p x<;>simp[hq]
theorem filter_le (p:Cel→Bool) (l:List Cel) (k:Nat):((l.take k).filter p).length≤l.length:=Nat.le_trans (List.length_filter_le _ _) (by rw[List.length_take];omega)

end Go.Proofs.YtkadjjmkokhldaaGreat

namespace Go.Proofs.YtkadjjmkokhldaaGreat
open Go.RowKit Go.Sort Go.Shelf Go.Lib

/-- No two cells have one dot. -/
def UniqD (l:List Cel):Prop:=∀x∈l,∀y∈l,x.1=y.1→x=y
/-- One cell ahead of another, by their dots. -/
def befC (x y:Cel):Bool:=befB x.1 y.1
/-- The cells of a list, sorted by their dots. -/
def srtC (l:List Cel):List Cel:=l.mergeSort fun x y=> !befC y x

theorem befC_iff (x y:Cel):befC x y=true↔x.1.1<y.1.1∨(x.1.1=y.1.1∧x.1.2<y.1.2):=befT_iff _ _
theorem befC_not (x y:Cel):befC x y=false↔y.1.1<x.1.1∨(x.1.1=y.1.1∧y.1.2≤x.1.2):=by
 simp[befC,befB];omega
theorem swoC {cf:Cel→Cel→Int} (hcf:∀x y,ltOf cf x y=befC x y):SWO (ltOf cf) where
 irrefl x:=by rw[hcf];simp[befC,befB]
 trans x y z h1 h2:=by rw[hcf,befC_iff] at *;omega
 ntrans x y z h1 h2:=by rw[hcf,befC_not] at *;omega
theorem srtC_length (l:List Cel):(srtC l).length=l.length:=by simp[srtC]
theorem srtC_perm (l:List Cel):(srtC l).Perm l:=List.mergeSort_perm _ _
theorem srtC_pair (l:List Cel):(srtC l).Pairwise fun x y=>(!befC y x)=true:=by
 refine List.pairwise_mergeSort ?_ ?_ _
 ·intro a b c h1 h2
  simp only[Bool.not_eq_true',befC_not] at h1 h2 ⊢
  omega
 ·intro a b
  cases h:befC b a
  ·simp
  ·have:befC a b=false:=by rw[befC_not];rw[befC_iff] at h;omega
   simp[this]
theorem dots_eq {x y:Cel} (h1:(!befC y x)=true) (h2:(!befC x y)=true):x.1=y.1:=by
 simp only[Bool.not_eq_true',befC_not] at h1 h2
 exact Prod.ext (by omega) (by omega)
theorem srtC_eq {l m:List Cel} (hu:UniqD l) (hp:m.Perm l) (hs:m.Pairwise fun x y=>(!befC y x)=true):m=srtC l:=by
 refine List.Perm.eq_of_pairwise (le:=fun x y=>(!befC y x)=true) ?_ hs (srtC_pair l) (hp.trans (srtC_perm l).symm)
 intro a b ha hb h1 h2
 exact hu a (hp.mem_iff.1 ha) b ((srtC_perm l).mem_iff.1 hb) (dots_eq h1 h2)
/-- Distinct dots, sorted: rising. -/
theorem srtC_asc {l:List Cel} (hn:(l.map (·.1)).Nodup):Asc (srtC l):=by
 have h1:=srtC_pair l
 have h2:((srtC l).map (·.1)).Nodup:=((srtC_perm l).map (·.1)).nodup_iff.2 hn
 have h3:(srtC l).Pairwise fun x y=>x.1≠y.1:=List.pairwise_map.1 h2
 unfold Asc
 refine (h1.and h3).imp ?_
 intro x y ⟨h4,h5⟩
 cases h6:befB x.1 y.1
 ·exfalso
  refine h5 (dots_eq h4 ?_)
  show (!befB x.1 y.1)=true
  rw[h6];rfl
 ·rfl

theorem holdsC {w:World} {g:Nat} {l:List Cel} (h:RowC w (some ⟨g,0,none⟩) l) (hf:∀j,w.frozen? ⟨g,j,none⟩=false):HoldsK encC 5 w g 0 l.toArray:=by
 intro t ht
 rw[size_flatK] at ht
 rw[get_flatK _ _ _ t ht]
 simp only[List.size_toArray] at ht
 have hk:t / 5<l.length:=by omega
 refine ⟨?_,hf _⟩
 obtain ⟨b,off,hA,hb,hc⟩:=h.at hk
 obtain ⟨rfl,rfl⟩:g=b∧0=off:=by injection hA with hA;injection hA with h1 h2;exact ⟨h1,h2⟩
 have e:l.toArray[t / 5]! = l[t / 5]:=by simp[hk]
 rw[e]
 have:=hc (t / 5) hk (t % 5) (Nat.mod_lt _ (by omega))
 rw[show 0+t / 5*5+t % 5=0+t from by omega] at this
 rw[this]
 have hm:t % 5<5:=Nat.mod_lt _ (by omega)
 match t % 5,hm with
 | 0,_=>rfl
 | 1,_=>rfl
 | 2,_=>rfl
 | 3,_=>rfl
 | 4,_=>rfl

theorem rowKC {w:World} {g:Nat} {l:List Cel} (h:HoldsK encC 5 w g 0 l.toArray) (hg:g<w.heap.size):RowC w (some ⟨g,0,none⟩) l:=by
 refine Or.inr ⟨g,0,rfl,hg,fun j hj i hi=> ?_⟩
 have h0:=(h (j*5+i) (by rw[size_flatK];simp;omega)).1
 rw[get_flatK _ _ _ _ (by simp;omega)] at h0
 rw[show (j*5+i) / 5=j from by omega,show (j*5+i) % 5=i from by omega] at h0
 have e:l.toArray[j]! = l[j]:=by simp[hj]
 rw[e] at h0
 rw[show 0+j*5+i=0+(j*5+i) from by omega,h0]
 match i,hi with
 | 0,_=>rfl
 | 1,_=>rfl
 | 2,_=>rfl
 | 3,_=>rfl
 | 4,_=>rfl

theorem below_sortC {w:World} {g n base:Nat} {os:Array Obj} {d:Array Cel} (hb:base≤g) (hs:base≤w.heap.size):Go.RowKit.Below base w (sortWorldK encC 5 w g 0 n d os):=by
 refine ⟨rfl,rfl,rfl,by simp[sortWorldK,grow,putRowK],fun k hk=> ?_⟩
 show ((putRowK encC 5 (Sort.ahead w n) g 0 d).heap++os)[k]? = _
 rw[Array.getElem?_append_left (by simp[putRowK];omega)]
 show ((Sort.ahead w n).heap.modify g _)[k]? = _
 rw[Array.getElem?_modify,if_neg (by omega)]
 rfl

theorem sortCB {cf:Cel→Cel→Int} (hcf:∀x y,ltOf cf x y=befC x y) (fid:Nat) (cb:Array Value) (eg:∀args w,(callFunc fid args).run Tryz.prog w= .ok (.enter fid args) w) (g cap:Nat) (l:List Cel) (w:World) (hcmp:CmpLays Tryz.prog fid cb encC 5 cf g 0 l.length w) (hu:UniqD l) (hH:HoldsK encC 5 w g 0 l.toArray) (hg:g<w.heap.size) (hsz:l.length<4611686018427387904) :
  Calls Tryz.prog 66 #[.slice (some ⟨g,0,none⟩) l.length cap,.func (.func fid) #[] cb] w fun e w'=>e= .returned (.tuple #[])∧RowC w' (some ⟨g,0,none⟩) (srtC l)∧∀base,base≤g→base≤w.heap.size→Go.RowKit.Below base w w':=by
 have hcon:=AnyQ.slices_SortFunc Tryz.sortCell 5 Tryz.isAgg55 Tryz.sizeOf55 encC (fun _=>rfl) encC_one cf (swoC hcf) fid cb g 0 cap l.toArray w eg (by simpa using hcmp) hH hg (by simpa using hsz)
 change Calls Tryz.prog 66 _ _ _ at hcon
 simp only[List.size_toArray] at hcon
 refine hcon.mono ?_
 rintro e w' ⟨he,d',n,os,hp,hs,hw⟩
 obtain ⟨hsz',_,hperm⟩:=hp
 simp only[List.size_toArray] at hsz'
 have e1:d'.extract 0 l.length=d':=by rw[←hsz'];exact Array.extract_size
 have e2:(l.toArray.extract 0 l.length).toList=l:=by simp
 rw[e1,e2] at hperm
 have hpw:d'.toList.Pairwise fun x y=>(!befC y x)=true:=by
  rw[List.pairwise_iff_getElem]
  intro i j hi hj hij
  have hi':i<d'.size:=by simpa using hi
  have hj':j<d'.size:=by simpa using hj
  have:=hs i j (Nat.zero_le _) hij (by omega)
  rw[getElem!_pos d' j hj',getElem!_pos d' i hi',hcf] at this
  simpa using this
 have hd:d'=(srtC l).toArray:=by
  have:=srtC_eq hu hperm hpw
  rw[←this]
 subst hd
 refine ⟨he,?_,fun base h1 h2=>by rw[hw];exact below_sortC h1 h2⟩
 have hH':HoldsK encC 5 w' g 0 (srtC l).toArray:=by
  rw[hw]
  refine holdsK_grow _ _ _ _ _ _ _ (by simp[putRowK];exact hg) ?_
  exact holdsK_putRowK _ _ _ _ _ l.toArray _ (holdsK_ahead _ _ _ _ _ _ _ hH) (by simp[srtC_length])
 refine rowKC hH' ?_
 rw[hw]
 simp[sortWorldK,grow,putRowK]
 omega

theorem sortOwnC {cf:Cel→Cel→Int} (hcf:∀x y,ltOf cf x y=befC x y) (fid:Nat) (cb:Array Value) (eg:∀args w,(callFunc fid args).run Tryz.prog w= .ok (.enter fid args) w) (base:Nat) (v:Value) (l:List Cel) (w:World) (hcmp:∀g,CmpLays Tryz.prog fid cb encC 5 cf g 0 l.length w) (hu:UniqD l) (hown:OwnC w base v l) (hb:base≤w.heap.size) (hsz:l.length<4611686018427387904) :
  Calls Tryz.prog 66 #[v,.func (.func fid) #[] cb] w fun e w'=>e= .returned (.tuple #[])∧(∃C cap,v= .slice C (srtC l).length cap∧RowC w' C (srtC l)∧(C=none→cap=0)∧∀a,C=some a→base≤a.block)∧Go.RowKit.Below base w w':=by
 obtain ⟨A,cap,rfl,hA,hrow,hcap,hlt,hfz⟩:=OwnG.full encC_len hown
 by_cases h0:l=[]
 ·subst h0
  have hcon:=AnyF.slices_SortFunc_none Tryz.sortCell A cap (.func (.func fid) #[] cb) w
  change Calls Tryz.prog 66 _ _ _ at hcon
  refine hcon.mono ?_
  rintro e w' ⟨he,rfl⟩
  exact ⟨he,⟨A,cap,by simp[srtC],Or.inl (by simp[srtC]),hA,fun a ha=>(hlt a ha).1⟩,Below.refl _ _⟩
 ·have hpos:0<l.length:=List.length_pos_iff.2 h0
  obtain ⟨b,off,hAe,hbb,_⟩:=hrow.at hpos
  subst hAe
  have h5:=hlt _ rfl
  obtain rfl:off=0:=h5.2.2.1
  refine (sortCB hcf fid cb eg b cap l w (hcmp b) hu (holdsC hrow (hfz _ rfl)) hbb hsz).mono ?_
  rintro e w' ⟨he,hr',hbel⟩
  refine ⟨he,⟨_,cap,by rw[srtC_length],hr',hA,fun a ha=>(hlt a ha).1⟩,hbel base h5.1 hb⟩

theorem ltOrd (x y:Cel):ltOf (fun x y:Cel=>ordI x.1 y.1) x y=befC x y:=by
 unfold ltOf befC
 cases h:befB x.1 y.1
 ·have:=ordI_not h
  simp;omega
 ·simp[ordI_bef h]
theorem cmpOrd (blk off size:Nat) (w:World):CmpLays Tryz.prog 60 #[] encC 5 (fun x y:Cel=>ordI x.1 y.1) blk off size w :=
 fun _ _ _ _ x y=>orderC_any x y _

end Go.Proofs.YtkadjjmkokhldaaGreat
