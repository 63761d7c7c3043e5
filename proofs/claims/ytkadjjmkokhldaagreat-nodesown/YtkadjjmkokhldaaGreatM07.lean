/-
  Lists of numbers: slices.Sort and slices.Compact at them, table.risingOnce, table.Values, table.Keys.
  The small functions of package zset: isWeight, isRow.
  slices.Compare at numbers, and zset.Order: they tell the order of two rows.
-/
import Derived.Test.YtkadjjmkokhldaaGreatM01
import Derived.Test.YtkadjjmkokhldaaGreatM03
import Derived.Test.YtkadjjmkokhldaaGreatM06
namespace Go.Proofs.YtkadjjmkokhldaaGreat
open Go.RowKit Go.Sort Go.Shelf Go.Lib

/-- A number's cell. -/
def encI (x:Int):List Value:=[.int .i64 x]
theorem encI_len (x:Int):(encI x).length=1:=rfl
theorem encI_one (x:Int):∀u∈encI x,u.oneCell'=true:=by
 intro u hu
 simp[encI] at hu
 rw[hu];rfl
abbrev RowI (w:World) (A:Option Addr) (l:List Int):Prop:=RowG encI 1 w A l
abbrev OwnI (w:World) (base:Nat) (v:Value) (l:List Int):Prop:=OwnG encI 1 3 w base v l

theorem compactUpTo_le (d:Array Int):∀m,(compactUpTo d m).length≤m
 | 0=>by simp[compactUpTo]
 | m+1=>by
  have:=compactUpTo_le d m
  rw[compactUpTo_succ,List.length_append]
  split<;>simp<;>omega
theorem compact_le (l:List Int):(compact l).length≤l.length:=compactUpTo_le _ _
/-- Rising, each once. -/
def onceL (l:List Int):List Int:=compact (l.mergeSort fun x y=>decide (x≤y))
theorem onceL_len (l:List Int):(onceL l).length≤l.length:=by
 unfold onceL
 refine Nat.le_trans (compact_le _) ?_
 simp

theorem holdsI {w:World} {g:Nat} {l:List Int} (h:RowI w (some ⟨g,0,none⟩) l) (hf:∀j,w.frozen? ⟨g,j,none⟩=false):Holds (Value.int .i64) w g 0 l.toArray:=by
 intro j hj
 have hj':j<l.length:=by simpa using hj
 obtain ⟨b,off,hA,hb,hc⟩:=h.at hj'
 obtain ⟨rfl,rfl⟩:g=b∧0=off:=by injection hA with hA;injection hA with h1 h2;exact ⟨h1,h2⟩
 refine ⟨?_,hf _⟩
 have:=hc j hj' 0 (by omega)
 have e:l.toArray[j]! = l[j]:=by simp[hj']
 rw[e]
 simpa[encI] using this
theorem rowI_of {w:World} {g:Nat} {l m:List Int} (h:Holds (Value.int .i64) w g 0 (l++m).toArray) (hg:g<w.heap.size):RowI w (some ⟨g,0,none⟩) l:=by
 refine Or.inr ⟨g,0,rfl,hg,fun j hj i hi=> ?_⟩
 obtain rfl:i=0:=by omega
 have h0:=(h j (by simp;omega)).1
 have e:(l++m).toArray[j]! = l[j]:=by
  have h1:j<(l++m).length:=by rw[List.length_append];omega
  have h2:(l++m).toArray[j]! = (l++m)[j]:=by
   rw[getElem!_pos (l++m).toArray j (by simpa using h1)]
   rfl
  rw[h2,List.getElem_append_left hj]
 rw[e] at h0
 simpa[encI] using h0
theorem below_putI {w:World} {g n base:Nat} {d:Array Int} (hb:base≤g):Below base w (putRow (Value.int .i64) (Sort.ahead w n) g 0 d):=by
 refine ⟨rfl,rfl,rfl,by simp[putRow,mapBlock,Sort.ahead],fun k hk=> ?_⟩
 show ((Sort.ahead w n).heap.modify g _)[k]? = _
 rw[Array.getElem?_modify,if_neg (by omega)]
 rfl
theorem size_putI {w:World} {g n:Nat} {d:Array Int}:(putRow (Value.int .i64) (Sort.ahead w n) g 0 d).heap.size=w.heap.size:=by simp[putRow,mapBlock,Sort.ahead]

theorem sortI (g cap:Nat) (l:List Int) (w:World) (hH:Holds (Value.int .i64) w g 0 l.toArray) (hg:g<w.heap.size) (hsz:l.length<4611686018427387904) :
  Calls Tryz.prog 115 #[.slice (some ⟨g,0,none⟩) l.length cap] w fun e w'=>e= .returned (.tuple #[])∧Holds (Value.int .i64) w' g 0 (l.mergeSort fun x y=>decide (x≤y)).toArray∧g<w'.heap.size∧∀base,base≤g→Below base w w':=by
 have hcon:=Any.slices_Sort_int Tryz.sortInt g 0 cap l w hH hg hsz
 change Calls Tryz.prog 115 _ _ _ at hcon
 refine hcon.mono ?_
 rintro e w' ⟨he,n,os,hw⟩
 have hs:g<(putRow (Value.int .i64) (Sort.ahead w n) g 0 (l.mergeSort fun x y=>decide (x≤y)).toArray).heap.size:=by rw[size_putI];exact hg
 refine ⟨he,?_,?_,fun base hb=> ?_⟩
 ·rw[hw]
  exact holds_grow _ _ _ _ _ _ hs (holds_putRow _ _ _ _ l.toArray _ (holds_ahead _ _ _ _ _ _ hH) (by simp))
 ·rw[hw];simp only[grow,Array.size_append];omega
 ·rw[hw]
  refine (below_putI (n:=n) (d:=(l.mergeSort fun x y=>decide (x≤y)).toArray) hb).trans ?_
  have hgr:Gr (putRow (Value.int .i64) (Sort.ahead w n) g 0 (l.mergeSort fun x y=>decide (x≤y)).toArray) (grow (putRow (Value.int .i64) (Sort.ahead w n) g 0 (l.mergeSort fun x y=>decide (x≤y)).toArray) os):=⟨0,os,rfl⟩
  exact hgr.below.mono (by rw[size_putI];omega)

theorem sort_none (A:Option Addr) (cap:Nat) (w:World):Calls Tryz.prog 115 #[.slice A 0 cap] w fun e w'=>e= .returned (.tuple #[])∧w'=w :=
 Any.slices_Sort_int_none Tryz.sortInt A cap w

theorem compactI (g cap:Nat) (l:List Int) (w:World) (hH:Holds (Value.int .i64) w g 0 l.toArray) (hg:g<w.heap.size) (hsz:l.length≤9223372036854775807) (hcap:l.length≤cap) :
  Calls Tryz.prog 116 #[.slice (some ⟨g,0,none⟩) l.length cap] w fun e w'=>e= .returned (.slice (some ⟨g,0,none⟩) (compact l).length cap)∧RowI w' (some ⟨g,0,none⟩) (compact l)∧∀base,base≤g→Below base w w':=by
 have hcon:=Any.slices_Compact_int Tryz.compactInt g 0 cap l w hH hsz hcap
 change Calls Tryz.prog 116 _ _ _ at hcon
 refine hcon.mono ?_
 rintro e w' ⟨he,n,hw⟩
 refine ⟨he,?_,fun base hb=>by rw[hw];exact below_putI hb⟩
 rw[hw]
 refine rowI_of (m:=List.replicate (l.length-(compact l).length) 0) (holds_putRow _ _ _ _ l.toArray _ (holds_ahead _ _ _ _ _ _ hH) ?_) (by rw[size_putI];exact hg)
 have:=compact_le l
 simp
 omega
theorem compact_none (A:Option Addr) (cap:Nat) (w:World):Calls Tryz.prog 116 #[.slice A 0 cap] w fun e w'=>e= .returned (.slice A 0 cap)∧w'=w :=
 Any.slices_Compact_int_empty Tryz.compactInt A cap w

set_option maxHeartbeats 1000000 in
theorem risingOnce_any (l:List Int) (base:Nat) (v:Value) (w:World) (hown:OwnI w base v l) (hl:l.length<4611686018427387904) :
  Calls Tryz.prog 90 #[v] w fun e w'=>∃C cp,e= .returned (.slice C (onceL l).length cp)∧RowI w' C (onceL l)∧Below base w w':=by
 obtain ⟨A,cap,rfl,hA,hrow,hcap,hlt,hfz⟩:=OwnG.full encI_len hown
 by_cases h0:l=[]
 ·subst h0
  have hz:onceL []=[]:=List.eq_nil_of_length_eq_zero (Nat.le_zero.1 (onceL_len []))
  rw[hz]
  go_enter Tryz.func90,Tryz.ntmps90
  go_wp2_with (first|(go_at_call 115;refine (sort_none _ _ _).mono ?_;rintro e w ⟨rfl,rfl⟩)|(go_at_call 116;refine (compact_none _ _ _).mono ?_;rintro e w ⟨rfl,rfl⟩))
  go_ret
  exact ⟨A,cap,rfl,Or.inl rfl,Below.refl _ _⟩
 ·have hpos:0<l.length:=List.length_pos_iff.2 h0
  obtain ⟨b,off,hAe,hb,_⟩:=hrow.at hpos
  subst hAe
  have h5:=hlt _ rfl
  obtain rfl:off=0:=h5.2.2.1
  have hH:=holdsI hrow (hfz _ rfl)
  have hs:=sortI b cap l w hH hb hl
  have hsH:Hid _:=hs
  have hone:Hid (onceL l=compact (l.mergeSort fun x y=>decide (x≤y))):=rfl
  clear hs
  go_enter Tryz.func90,Tryz.ntmps90
  go_wp2_with fail
  refine Calls.mono (show Calls _ _ _ _ _ from hsH.out) ?_
  rintro e w1 ⟨rfl,hH1,hg1,hb1⟩
  have hlen:(l.mergeSort fun x y=>decide (x≤y)).length=l.length:=by simp
  have hc:=compactI b cap (l.mergeSort fun x y=>decide (x≤y)) w1 hH1 hg1 (by rw[hlen];omega) (by rw[hlen];exact hcap)
  rw[hlen,←hone.out] at hc
  have hcH:Hid _:=hc
  clear hsH hc hlen hH1
  go_wp2_with fail
  refine Calls.mono (show Calls _ _ _ _ _ from hcH.out) ?_
  rintro e w2 ⟨rfl,hr2,hb2⟩
  go_wp2
  go_ret
  exact ⟨_,_,rfl,hr2,(hb1 base h5.1).trans (hb2 base h5.1)⟩

/-- The values of the cells of a row and column. -/
def valsOf (key col:Int) (l:List Cel):List Int:=(l.filter (fitP key col)).map (·.2.2.2)
/-- The keys of cells. -/
def keysOf (l:List Cel):List Int:=l.map (·.2.1)
theorem valsOf_take {key col:Int} {l:List Cel} {k:Nat} (h:k<l.length) {x:Cel} (hx:l[k]=x):valsOf key col (l.take (k+1))=valsOf key col (l.take k)++(if fitP key col x then [x.2.2.2] else []):=by
 unfold valsOf
 rw[List.take_succ_eq_append_getElem h,List.filter_append,List.map_append,hx]
 cases hq:fitP key col x<;>simp[hq]
theorem keysOf_take {l:List Cel} {k:Nat} (h:k<l.length) {x:Cel} (hx:l[k]=x):keysOf (l.take (k+1))=keysOf (l.take k)++[x.2.1]:=by
 unfold keysOf
 rw[List.take_succ_eq_append_getElem h,List.map_append,hx]
 simp
theorem valsOf_len (key col:Int) (l:List Cel):(valsOf key col l).length≤l.length:=by
 unfold valsOf
 rw[List.length_map]
 exact List.length_filter_le _ _
theorem keysOf_len (l:List Cel):(keysOf l).length≤l.length:=by unfold keysOf;rw[List.length_map];exact Nat.le_refl _

theorem Tryz.infoI:(Tryz.prog.info? 3).map (fun i=>(i.zero,i.size,i.bytes))=some (some (.int .i64 0),1,8):=by kernel_rfl

theorem rowNewI {W:World} {n:Nat} (hn:W.heap.size=n) (x:Int) (T:TypeId):RowI (W.alloc (.cells #[.int .i64 x] T)) (some ⟨n,0,none⟩) [x]:=by
 subst hn
 refine Or.inr ⟨W.heap.size,0,rfl,by simp,fun j hj i hi=> ?_⟩
 obtain rfl:j=0:=by simp at hj;omega
 obtain rfl:i=0:=by omega
 exact box1 (w:=W) (Gr.refl _) (j:=0) rfl

theorem wpList_append_i (w:World) {ops:Array Oper} {rest:List Oper} {o:Oper} {a:Act} {Q:Exit→Act→World→Prop} (hgd:o.guard=none) (s x:Operand)
  (ho:o.op= .call { callee:= .builtin .append,args:= #[s,x],argTypes:= #[46,46] })
  (base:Nat) (v:Value) (l m:List Int) (A:Option Addr) (cap:Nat) (hs:a.eval s=v) (hx:a.eval x= .slice A m.length cap) (hown:OwnI w base v l) (hr:RowI w A m) (hA:A=none→cap=0)
  (hml:l.length+m.length≤maxLen) (hb:(l.length+m.length)*8≤140737488355328) (hbase:base≤w.heap.size)
  (h:∀v' w',OwnI w' base v' (l++m)→w.grownBy w' v.ownBlock→wpList Tryz.prog ops Q rest (a.put o.dst v') w'):wpList Tryz.prog ops Q (o::rest) a w :=
 wpList_plain hgd fun _ hK=>wp_append_g encI_len encI_one (by omega) 46 Tryz.underlying46 (.int .i64 0) 8 Tryz.infoI rfl w s x ho base v l m A cap hs hx hown hr hA hml hb hbase fun v' w' h2 h3=>hK _ _ (h v' w' h2 h3)

set_option maxRecDepth 100000 in
set_option maxHeartbeats 1000000 in
theorem values_any (t:Tab) (A:Option Addr) (ca:Nat) (D:Option Addr) (cd:Nat) (key col:Int) (w:World) (hsz:t.e.length*40≤140737488355328) (hr:Row w A t.c.l) (hd:RowC w D t.e) :
  Calls Tryz.prog 75 #[.agg #[.int .i64 t.c.c0,.int .i64 t.c.c1,.int .i64 t.c.c2,.int .i64 t.c.c3,.slice A t.c.l.length ca,.slice D t.e.length cd],.int .i64 key,.int .i64 col] w fun e w'=>∃C cp,e= .returned (.slice C (onceL (valsOf key col t.e)).length cp)∧RowI w' C (onceL (valsOf key col t.e))∧Below w.heap.size w w':=by
 have ht0:TabAt (w.alloc (.cells #[.int .i64 t.c.c0,.int .i64 t.c.c1,.int .i64 t.c.c2,.int .i64 t.c.c3,.slice A t.c.l.length ca,.slice D t.e.length cd] 37)) w.heap.size t A ca D cd:=TabAt.new 37 hr hd rfl
 have hbw0:Below w.heap.size w (w.alloc (.cells #[.int .i64 t.c.c0,.int .i64 t.c.c1,.int .i64 t.c.c2,.int .i64 t.c.c3,.slice A t.c.l.length ca,.slice D t.e.length cd] 37)):=((Gr.refl w).alloc _).below
 have k5:=ht0.k5
 go_enter Tryz.func75,Tryz.ntmps75
 go_wp2
 generalize w.alloc (.cells #[.int .i64 t.c.c0,.int .i64 t.c.c1,.int .i64 t.c.c2,.int .i64 t.c.c3,.slice A t.c.l.length ca,.slice D t.e.length cd] 37)=w0 at ht0 hbw0 k5 ⊢
 clear k5
 go_loopw [7,13] (fun v i wr=>∃k:Nat,k≤t.e.length∧i= .int .i64 k∧OwnI wr w0.heap.size v (valsOf key col (t.e.take k))∧Below w0.heap.size w0 wr) (fun _ i _=>t.e.length-(intOf i).toNat)
 case atStart=>exact ⟨0,by omega,rfl,OwnG.nil _ _ _ _ _,Below.refl _ _⟩
 case round =>
  obtain ⟨k,hk,rfl,hov,hbel⟩:=hrel
  obtain ⟨A1,cap1,rfl,hA1,hrow1,hlt1⟩:=OwnG.row encI_len hov
  have htR:=ht0.below hbel
  have hsR:w0.heap.size≤wr.heap.size:=hbel.size
  by_cases hlt:k<t.e.length
  ·have hltz:(k:Int)<(t.e.length:Int):=by omega
   obtain ⟨bb,off,rfl,hb,hcs⟩:=RowC.get htR.rowC hlt
   obtain ⟨x,hx⟩:∃x,t.e[k]=x:=⟨_,rfl⟩
   obtain ⟨e0,e1,e2,e3,e4⟩:=hcs k hlt
   rw[hx] at e0 e1 e2 e3 e4
   have hst:=valsOf_take (key:=key) (col:=col) hlt hx
   clear hcs hx
   obtain ⟨M,HM⟩:∃M,valsOf key col (t.e.take k)=M:=⟨_,rfl⟩
   have hMl:M.length≤t.e.length:=by rw[←HM];exact Nat.le_trans (valsOf_len _ _ _) (by rw[List.length_take];omega)
   rw[HM] at hov hst hrow1 ⊢
   clear HM
   have hovH:Hid (OwnI wr w0.heap.size (.slice A1 M.length cap1) M):=hov
   have hbelH:Hid (Below w0.heap.size w0 wr):=hbel
   have hgX:Gr wr (wr.alloc (.cells #[.int .i64 x.1.1,.int .i64 x.1.2,.int .i64 x.2.1,.int .i64 x.2.2.1,.int .i64 x.2.2.2] 55)):=(Gr.refl _).alloc _
   obtain ⟨x0,x1,x2,x3,x4,xlt⟩:=(show CelAt _ _ _ from CelAt.new (w:=wr) x 55 rfl)
   clear hov hbel hrow1
   by_cases hq:x.2.1=key
   ·have hqb:(x.2.1==key)=true:=by simpa using hq
    by_cases hq2:x.2.2.1=col
    ·have hqb2:(x.2.2.1==col)=true:=by simpa using hq2
     have hst2:Hid (valsOf key col (t.e.take (k+1))=M++[x.2.2.2]):=by show _=_;rw[hst,if_pos (by simp[fitP,hq,hq2])]
     have hbd:Hid (M.length+[x.2.2.2].length≤maxLen∧(M.length+[x.2.2.2].length)*8≤140737488355328):=by show _∧_;unfold maxLen;simp only[List.length_cons,List.length_nil];omega
     clear hst hq hq2
     go_wp2_with (at_builtin;refine wpList_append_i _ rfl _ _ rfl w0.heap.size (.slice A1 M.length cap1) M [x.2.2.2] (some ⟨wr.heap.size+1,0,none⟩) 1 rfl rfl ?ho ?hr (fun h=>by cases h) hbd.out.1 hbd.out.2 ?hs ?_)
     case ho=>exact hovH.out.gr (hgX.alloc _)
     case hr=>exact rowNewI (by simp) _ _
     case hs=>simp;omega
     intro v1 w3 hown1 hgr1
     have hb3:Hid (Below w0.heap.size w0 w3):=hbelH.out.trans (((hgX.alloc _).below.mono hsR).trans (OwnG.grown_below (hovH.out.gr (hgX.alloc _)) hgr1 (by simp;omega)))
     have hownH:Hid (OwnI w3 w0.heap.size v1 (M++[x.2.2.2])):=hown1
     clear hown1 hgr1
     go_wp2
     go_roundw
     case rel=>exact ⟨k+1,by omega,by go_num,by rw[hst2.out];exact hownH.out,hb3.out⟩
     case measure=>simp[intOf];omega
    ·have hqb2:(x.2.2.1==col)=false:=by simpa using hq2
     have hst2:Hid (valsOf key col (t.e.take (k+1))=M):=by show _=_;rw[hst,if_neg (by simp[fitP,hq2])];simp
     clear hst hq hq2
     go_wp2
     go_roundw
     case rel=>exact ⟨k+1,by omega,by go_num,by rw[hst2.out];exact hovH.out.gr hgX,hbelH.out.trans (hgX.below.mono hsR)⟩
     case measure=>simp[intOf];omega
   ·have hqb:(x.2.1==key)=false:=by simpa using hq
    have hst2:Hid (valsOf key col (t.e.take (k+1))=M):=by show _=_;rw[hst,if_neg (by simp[fitP,hq])];simp
    clear hst hq
    go_wp2
    go_roundw
    case rel=>exact ⟨k+1,by omega,by go_num,by rw[hst2.out];exact hovH.out.gr hgX,hbelH.out.trans (hgX.below.mono hsR)⟩
    case measure=>simp[intOf];omega
  ·have hltz:¬(k:Int)<(t.e.length:Int):=by omega
   have hke:t.e.take k=t.e:=List.take_of_length_le (by omega)
   rw[hke] at hov hrow1 ⊢
   clear hke
   have hMl:(valsOf key col t.e).length≤t.e.length:=valsOf_len _ _ _
   obtain ⟨M,HM⟩:∃M,valsOf key col t.e=M:=⟨_,rfl⟩
   rw[HM] at hov hrow1 hMl ⊢
   have HMH:Hid (valsOf key col t.e=M):=HM
   clear HM
   have hro:=risingOnce_any M w0.heap.size _ wr hov (by omega)
   have hroH:Hid _:=hro
   have hbwR:Below w.heap.size w wr:=hbw0.trans (hbel.mono hbw0.size)
   have hbs:=hbw0.size
   clear hro hov hrow1
   go_wp2_with fail
   refine Calls.mono (show Calls _ _ _ _ _ from hroH.out) ?_
   rintro e w2 ⟨C,cp,rfl,hr2,hb2⟩
   clear hroH
   go_wp2
   go_ret
   rw[HMH.out]
   exact ⟨C,cp,rfl,hr2,hbwR.trans (hb2.mono hbs)⟩

set_option maxRecDepth 100000 in
set_option maxHeartbeats 1000000 in
theorem keys_any (t:Tab) (A:Option Addr) (ca:Nat) (D:Option Addr) (cd:Nat) (w:World) (hsz:t.e.length*40≤140737488355328) (hr:Row w A t.c.l) (hd:RowC w D t.e) :
  Calls Tryz.prog 73 #[.agg #[.int .i64 t.c.c0,.int .i64 t.c.c1,.int .i64 t.c.c2,.int .i64 t.c.c3,.slice A t.c.l.length ca,.slice D t.e.length cd]] w fun e w'=>∃C cp,e= .returned (.slice C (onceL (keysOf t.e)).length cp)∧RowI w' C (onceL (keysOf t.e))∧Below w.heap.size w w':=by
 have ht0:TabAt (w.alloc (.cells #[.int .i64 t.c.c0,.int .i64 t.c.c1,.int .i64 t.c.c2,.int .i64 t.c.c3,.slice A t.c.l.length ca,.slice D t.e.length cd] 37)) w.heap.size t A ca D cd:=TabAt.new 37 hr hd rfl
 have hbw0:Below w.heap.size w (w.alloc (.cells #[.int .i64 t.c.c0,.int .i64 t.c.c1,.int .i64 t.c.c2,.int .i64 t.c.c3,.slice A t.c.l.length ca,.slice D t.e.length cd] 37)):=((Gr.refl w).alloc _).below
 have k5:=ht0.k5
 go_enter Tryz.func73,Tryz.ntmps73
 go_wp2
 generalize w.alloc (.cells #[.int .i64 t.c.c0,.int .i64 t.c.c1,.int .i64 t.c.c2,.int .i64 t.c.c3,.slice A t.c.l.length ca,.slice D t.e.length cd] 37)=w0 at ht0 hbw0 k5 ⊢
 clear k5
 go_loopw [3,9] (fun v i wr=>∃k:Nat,k≤t.e.length∧i= .int .i64 k∧OwnI wr w0.heap.size v (keysOf (t.e.take k))∧Below w0.heap.size w0 wr) (fun _ i _=>t.e.length-(intOf i).toNat)
 case atStart=>exact ⟨0,by omega,rfl,OwnG.nil _ _ _ _ _,Below.refl _ _⟩
 case round =>
  obtain ⟨k,hk,rfl,hov,hbel⟩:=hrel
  obtain ⟨A1,cap1,rfl,hA1,hrow1,hlt1⟩:=OwnG.row encI_len hov
  have htR:=ht0.below hbel
  have hsR:w0.heap.size≤wr.heap.size:=hbel.size
  by_cases hlt:k<t.e.length
  ·have hltz:(k:Int)<(t.e.length:Int):=by omega
   obtain ⟨bb,off,rfl,hb,hcs⟩:=RowC.get htR.rowC hlt
   obtain ⟨x,hx⟩:∃x,t.e[k]=x:=⟨_,rfl⟩
   obtain ⟨e0,e1,e2,e3,e4⟩:=hcs k hlt
   rw[hx] at e0 e1 e2 e3 e4
   have hst:=keysOf_take hlt hx
   clear hcs hx
   obtain ⟨M,HM⟩:∃M,keysOf (t.e.take k)=M:=⟨_,rfl⟩
   have hMl:M.length≤t.e.length:=by rw[←HM];exact Nat.le_trans (keysOf_len _) (by rw[List.length_take];omega)
   rw[HM] at hov hst hrow1 ⊢
   clear HM
   have hovH:Hid (OwnI wr w0.heap.size (.slice A1 M.length cap1) M):=hov
   have hbelH:Hid (Below w0.heap.size w0 wr):=hbel
   have hgX:Gr wr (wr.alloc (.cells #[.int .i64 x.1.1,.int .i64 x.1.2,.int .i64 x.2.1,.int .i64 x.2.2.1,.int .i64 x.2.2.2] 55)):=(Gr.refl _).alloc _
   obtain ⟨x0,x1,x2,x3,x4,xlt⟩:=(show CelAt _ _ _ from CelAt.new (w:=wr) x 55 rfl)
   clear hov hbel hrow1
   have hst2:Hid (keysOf (t.e.take (k+1))=M++[x.2.1]):=by show _=_;rw[hst]
   have hbd:Hid (M.length+[x.2.1].length≤maxLen∧(M.length+[x.2.1].length)*8≤140737488355328):=by show _∧_;unfold maxLen;simp only[List.length_cons,List.length_nil];omega
   clear hst
   go_wp2_with (at_builtin;refine wpList_append_i _ rfl _ _ rfl w0.heap.size (.slice A1 M.length cap1) M [x.2.1] (some ⟨wr.heap.size+1,0,none⟩) 1 rfl rfl ?ho ?hr (fun h=>by cases h) hbd.out.1 hbd.out.2 ?hs ?_)
   case ho=>exact hovH.out.gr (hgX.alloc _)
   case hr=>exact rowNewI (by simp) _ _
   case hs=>simp;omega
   intro v1 w3 hown1 hgr1
   have hb3:Hid (Below w0.heap.size w0 w3):=hbelH.out.trans (((hgX.alloc _).below.mono hsR).trans (OwnG.grown_below (hovH.out.gr (hgX.alloc _)) hgr1 (by simp;omega)))
   have hownH:Hid (OwnI w3 w0.heap.size v1 (M++[x.2.1])):=hown1
   clear hown1 hgr1
   go_wp2
   go_roundw
   case rel=>exact ⟨k+1,by omega,by go_num,by rw[hst2.out];exact hownH.out,hb3.out⟩
   case measure=>simp[intOf];omega
  ·have hltz:¬(k:Int)<(t.e.length:Int):=by omega
   have hke:t.e.take k=t.e:=List.take_of_length_le (by omega)
   rw[hke] at hov hrow1 ⊢
   clear hke
   have hMl:(keysOf t.e).length≤t.e.length:=keysOf_len _
   obtain ⟨M,HM⟩:∃M,keysOf t.e=M:=⟨_,rfl⟩
   rw[HM] at hov hrow1 hMl ⊢
   have HMH:Hid (keysOf t.e=M):=HM
   clear HM
   have hro:=risingOnce_any M w0.heap.size _ wr hov (by omega)
   have hroH:Hid _:=hro
   have hbwR:Below w.heap.size w wr:=hbw0.trans (hbel.mono hbw0.size)
   have hbs:=hbw0.size
   clear hro hov hrow1
   go_wp2_with fail
   refine Calls.mono (show Calls _ _ _ _ _ from hroH.out) ?_
   rintro e w2 ⟨C,cp,rfl,hr2,hb2⟩
   clear hroH
   go_wp2
   go_ret
   rw[HMH.out]
   exact ⟨C,cp,rfl,hr2,hbwR.trans (hb2.mono hbs)⟩

end Go.Proofs.YtkadjjmkokhldaaGreat

namespace Go.Proofs.YtkadjjmkokhldaaGreat
open Go.RowKit Go.Sort

/-- May a row be there so many times? -/
def okW (n:Int):Bool:=inB n (-1048576) 1048576
/-- May a row hold this number? -/
def okN (n:Int):Bool:=inB n (-1073741824) 1073741824
/-- May an item have this row? -/
def okR (l:List Int):Bool:=decide (l.length≤8) && l.all okN

set_option maxHeartbeats 400000 in
theorem isWeight_any (n:Int) (w:World) :
  Calls Tryz.prog 105 #[.int .i64 n] w fun e w'=>e= .returned (.bool (okW n))∧w'=w:=by
 by_cases h1: -1048576≤n
 ·by_cases h2:n≤1048576
  ·have e:okW n=true:=by simp[okW,inB];omega
   rw[e];clear e
   go_enter Tryz.func105,Tryz.ntmps105
   go_wp2
   go_ret
   exact ⟨rfl,rfl⟩
  ·have e:okW n=false:=by simp[okW,inB];omega
   rw[e];clear e
   go_enter Tryz.func105,Tryz.ntmps105
   go_wp2
   go_ret
   exact ⟨rfl,rfl⟩
 ·have e:okW n=false:=by simp[okW,inB];omega
  rw[e];clear e
  go_enter Tryz.func105,Tryz.ntmps105
  go_wp2
  go_ret
  exact ⟨rfl,rfl⟩

set_option maxHeartbeats 1000000 in
theorem isRow_any (l:List Int) (A:Option Addr) (cap:Nat) (w:World) (hl:l.length≤maxLen) (hr:RowI w A l) :
  Calls Tryz.prog 104 #[.slice A l.length cap] w fun e w'=>e= .returned (.bool (okR l))∧Gr w w':=by
 unfold maxLen at hl
 by_cases h8:8<l.length
 ·have e:okR l=false:=by simp[okR];omega
  rw[e];clear e
  have h8z:(8:Int)<(l.length:Int):=by omega
  go_enter Tryz.func104,Tryz.ntmps104
  go_wp2
  go_ret
  exact ⟨rfl,Gr.refl _⟩
 ·have h8z:¬(8:Int)<(l.length:Int):=by omega
  go_enter Tryz.func104,Tryz.ntmps104
  go_wp2
  go_loopw [10] (fun i wr=>∃k:Nat,k≤l.length∧i= .int .i64 k∧Hid (∀j (h:j<l.length),j<k→okN l[j]=true)∧Gr w wr) (fun i _=>l.length-(intOf i).toNat)
  case atStart=>exact ⟨0,Nat.zero_le _,rfl,fun j _ hj=>absurd hj (Nat.not_lt_zero _),Gr.refl _⟩
  case round =>
   obtain ⟨k,hk,rfl,hno,hgr⟩:=hrel
   by_cases hlt:k<l.length
   ·have hltz:(k:Int)<(l.length:Int):=by omega
    obtain ⟨bb,off,rfl,hb,hcs⟩:=(hr.gr hgr).at hlt
    have e0:=hcs k hlt 0 (by omega)
    obtain ⟨y,hy⟩:∃y,l[k]=y:=⟨_,rfl⟩
    rw[hy] at e0
    have e1:wr.cell? ⟨bb,off+k,none⟩=some (.int .i64 y):=by simpa[encI] using e0
    have hyH:Hid (l[k]=y):=hy
    clear hcs e0 hy
    have hbad:Hid (okN y=false→okR l=false):=by
     intro h
     unfold okR
     have:l.all okN=false:=by
      rw[List.all_eq_false]
      exact ⟨y,by rw[←hyH.out];exact List.getElem_mem hlt,by simp[h]⟩
     rw[this];simp
    by_cases q1:y < -1073741824
    ·have hfin:Hid (okR l=false):=hbad.out (by simp[okN,inB];omega)
     go_wp2
     go_ret
     exact ⟨by rw[hfin.out];rfl,hgr⟩
    ·by_cases q2:1073741824<y
     ·have hfin:Hid (okR l=false):=hbad.out (by simp[okN,inB];omega)
      go_wp2
      go_ret
      exact ⟨by rw[hfin.out];rfl,hgr⟩
     ·have hne:Hid (okN l[k]=true):=by show okN l[k]=true;rw[hyH.out];simp[okN,inB];omega
      go_wp2
      go_roundw
      case rel =>
       refine ⟨k+1,by omega,by go_num,?_,hgr⟩
       intro j hj hjk
       by_cases e:j=k
       ·subst e;exact hne
       ·exact hno j hj (by omega)
      case measure=>simp[intOf];omega
   ·have hltz:¬(k:Int)<(l.length:Int):=by omega
    have hfin:Hid (okR l=true):=by
     show okR l=true
     unfold okR
     have:l.all okN=true:=by
      rw[List.all_eq_true]
      intro x hx
      obtain ⟨j,hj,e⟩:=List.getElem_of_mem hx
      rw[←e];exact hno j hj (by omega)
     rw[this];simp;omega
    go_wp2
    go_ret
    exact ⟨by rw[hfin.out];rfl,hgr⟩

end Go.Proofs.YtkadjjmkokhldaaGreat

namespace Go.Proofs.YtkadjjmkokhldaaGreat
open Go.RowKit Go.Sort

/-- The order of two rows. -/
def cmpL:List Int→List Int→Int
 | [],[]=>0
 | [],_::_=> -1
 | _::_,[]=>1
 | x::a,y::b=>if cmpI x y=0 then cmpL a b else cmpI x y

theorem cmpL_drop {a b:List Int}:∀k,k≤a.length→k≤b.length→(∀j (h1:j<a.length) (h2:j<b.length),j<k→cmpI a[j] b[j]=0)→cmpL a b=cmpL (a.drop k) (b.drop k):=by
 intro k
 induction k with
 | zero=>intros;simp
 | succ k ih =>
  intro h1 h2 h
  rw[ih (by omega) (by omega) fun j h3 h4 h5=>h j h3 h4 (by omega)]
  rw[List.drop_eq_getElem_cons (show k<a.length by omega),List.drop_eq_getElem_cons (show k<b.length by omega)]
  show (if cmpI a[k] b[k]=0 then _ else _)=_
  rw[if_pos (h k (by omega) (by omega) (by omega))]
theorem cmpL_at {a b:List Int} {k:Nat} (h1:k<a.length) (h2:k<b.length) (h:∀j (h1:j<a.length) (h2:j<b.length),j<k→cmpI a[j] b[j]=0) (hne:cmpI a[k] b[k]≠0):cmpL a b=cmpI a[k] b[k]:=by
 rw[cmpL_drop k (by omega) (by omega) h,List.drop_eq_getElem_cons h1,List.drop_eq_getElem_cons h2]
 show (if cmpI a[k] b[k]=0 then _ else _)=_
 rw[if_neg hne]
theorem cmpL_long {a b:List Int} {k:Nat} (h1:k<a.length) (h2:k=b.length) (h:∀j (h1:j<a.length) (h2:j<b.length),j<k→cmpI a[j] b[j]=0):cmpL a b=1:=by
 rw[cmpL_drop k (by omega) (by omega) h,List.drop_eq_getElem_cons h1,show b.drop k=[] from List.drop_eq_nil_of_le (by omega)]
 rfl
theorem cmpL_end {a b:List Int} (hab:a.length≤b.length) (h:∀j (h1:j<a.length) (h2:j<b.length),j<a.length→cmpI a[j] b[j]=0):cmpL a b=if a.length<b.length then -1 else 0:=by
 rw[cmpL_drop a.length (by omega) hab h,List.drop_eq_nil_of_le (Nat.le_refl _)]
 by_cases k:a.length<b.length
 ·rw[if_pos k,List.drop_eq_getElem_cons k];rfl
 ·rw[if_neg k,List.drop_eq_nil_of_le (by omega)];rfl

set_option maxHeartbeats 1000000 in
theorem compare_any (a b:List Int) (A B:Option Addr) (ca cb:Nat) (w:World) (hal:a.length≤maxLen) (hra:RowI w A a) (hrb:RowI w B b) :
  Calls Tryz.prog 131 #[.slice A a.length ca,.slice B b.length cb] w fun e w'=>e= .returned (.int .i64 (cmpL a b))∧Gr w w':=by
 unfold maxLen at hal
 go_enter Tryz.func131,Tryz.ntmps131
 go_wp2
 go_loopw [11] (fun i wr=>∃k:Nat,k≤a.length∧k≤b.length∧i= .int .i64 k∧Hid (∀j (h1:j<a.length) (h2:j<b.length),j<k→cmpI a[j] b[j]=0)∧Gr w wr) (fun i _=>a.length-(intOf i).toNat)
 case atStart=>exact ⟨0,Nat.zero_le _,Nat.zero_le _,rfl,fun j _ _ hj=>absurd hj (Nat.not_lt_zero _),Gr.refl _⟩
 case round =>
  obtain ⟨k,hk,hk2,rfl,hno,hgr⟩:=hrel
  by_cases hlt:k<a.length
  ·have hltz:(k:Int)<(a.length:Int):=by omega
   obtain ⟨bb,off,rfl,hb,hcs⟩:=(hra.gr hgr).at hlt
   have e0:=hcs k hlt 0 (by omega)
   obtain ⟨x,hx⟩:∃y,a[k]=y:=⟨_,rfl⟩
   rw[hx] at e0
   have e1:wr.cell? ⟨bb,off+k,none⟩=some (.int .i64 x):=by simpa[encI] using e0
   have hxH:Hid (a[k]=x):=hx
   clear hcs e0 hx
   by_cases hlt2:k<b.length
   ·have hlt2z:(k:Int)<(b.length:Int):=by omega
    obtain ⟨bc,of2,rfl,hb2,hcs⟩:=(hrb.gr hgr).at hlt2
    have e0:=hcs k hlt2 0 (by omega)
    obtain ⟨y,hy⟩:∃y,b[k]=y:=⟨_,rfl⟩
    rw[hy] at e0
    have e2:wr.cell? ⟨bc,of2+k,none⟩=some (.int .i64 y):=by simpa[encI] using e0
    have hyH:Hid (b[k]=y):=hy
    clear hcs e0 hy
    obtain ⟨c,hc⟩:∃c,cmpI x y=c:=⟨_,rfl⟩
    have hcH:Hid (cmpI x y=c):=hc
    have hcm:=cmp_any x y wr
    rw[hc] at hcm
    have hcmH:Hid _:=hcm
    clear hcm hc
    cases hq:(c != 0)
    ·have hc0:c=0:=by simpa using hq
     have hne:Hid (cmpI a[k] b[k]=0):=by show cmpI _ _=0;rw[hxH.out,hyH.out,hcH.out,hc0]
     clear hc0
     go_wp2_with (go_at_call 91;(refine Calls.mono (show Calls _ _ _ _ _ from hcmH.out) ?_);rintro e w' ⟨rfl,rfl⟩)
     go_roundw
     case rel =>
      refine ⟨k+1,by omega,by omega,by go_num,?_,hgr⟩
      intro j hj hj2 hjk
      by_cases e:j=k
      ·subst e;exact hne
      ·exact hno j hj hj2 (by omega)
     case measure=>simp[intOf];omega
    ·have hfin:Hid (cmpL a b=c):=by
      have hc0:c≠0:=by simpa using hq
      show _=_
      rw[cmpL_at hlt hlt2 hno (by rw[hxH.out,hyH.out,hcH.out];exact hc0),hxH.out,hyH.out,hcH.out]
     go_wp2_with (go_at_call 91;(refine Calls.mono (show Calls _ _ _ _ _ from hcmH.out) ?_);rintro e w' ⟨rfl,rfl⟩)
     go_ret
     exact ⟨by rw[hfin.out];rfl,hgr⟩
   ·have hlt2z:(b.length:Int)≤(k:Int):=by omega
    have hfin:Hid (cmpL a b=1):=cmpL_long hlt (by omega) hno
    go_wp2
    go_ret
    exact ⟨by rw[hfin.out];rfl,hgr⟩
  ·have hltz:¬(k:Int)<(a.length:Int):=by omega
   have hka:k=a.length:=by omega
   have hend:=cmpL_end (a:=a) (b:=b) (by omega) (fun j h1 h2 _=>hno j h1 h2 (by omega))
   by_cases hab:a.length<b.length
   ·have hfin:Hid (cmpL a b= -1):=by show _=_;rw[hend,if_pos hab]
    have habz:(a.length:Int)<(b.length:Int):=by omega
    clear hend hka
    go_wp2
    go_ret
    exact ⟨by rw[hfin.out];rfl,hgr⟩
   ·have hfin:Hid (cmpL a b=0):=by show _=_;rw[hend,if_neg hab]
    have habz:¬(a.length:Int)<(b.length:Int):=by omega
    clear hend hka
    go_wp2
    go_ret
    exact ⟨by rw[hfin.out];rfl,hgr⟩
set_option maxHeartbeats 1000000 in
theorem orderR_any (a b:List Int) (A B:Option Addr) (ca cb:Nat) (w:World) (hal:a.length≤maxLen) (hra:RowI w A a) (hrb:RowI w B b) :
  Calls Tryz.prog 106 #[.slice A a.length ca,.slice B b.length cb] w fun e w'=>e= .returned (.int .i64 (cmpL a b))∧Gr w w':=by
 go_enter Tryz.func106,Tryz.ntmps106
 go_wp2_with fail
 refine (compare_any a b A B ca cb _ hal hra hrb).mono ?_
 rintro e w' ⟨rfl,hg⟩
 go_wp2
 go_ret
 exact ⟨rfl,hg⟩

end Go.Proofs.YtkadjjmkokhldaaGreat
