/-
  table.contextOf and what is handed to it; slices.ContainsFunc at cells, with what table.Del hands in.
  Lists of numbers: slices.Sort and slices.Compact at them, table.risingOnce, table.Values, table.Keys.
  The small functions of package zset: isWeight, isRow.
  slices.Compare at numbers, and zset.Order: they tell the order of two rows.
  Items (a row and how many times it is there): what they are in memory; what zset.Check answers.
  A list of items of one's own, whose rows are one's own too: what an append of one more item leaves.
-/
import Derived.Test.YtckeonpnfankhaaGreatDoorM03
set_option maxRecDepth 100000
set_option maxHeartbeats 8000000
namespace Go.Proofs.YtckeonpnfankhaaGreatDoor
open Go.RowKit Go.Sort

def am (p:Cel→Bool) (l:List Cel):List (Int×Int):=(l.filter p).map (·.1)

def d8 (key col:Int) (x:Cel):Bool:=decide (x.2.1=key) && decide (x.2.2.1=col)
def e9 (key:Int) (x:Cel):Bool:=decide (x.2.1=key)

theorem uP (key col:Int) (p q:Nat) (x:Cel) (w:World) (hp:p<w.heap.size) (hq:q<w.heap.size) (kp:w.cell? ⟨p,0,none⟩=some (.int .i64 key)) (kq:w.cell? ⟨q,0,none⟩=some (.int .i64 col)) :
  Calls Tryz.prog 156 #[.agg #[.int .i64 x.1.1,.int .i64 x.1.2,.int .i64 x.2.1,.int .i64 x.2.2.1,.int .i64 x.2.2.2],.pointer (some ⟨p,0,none⟩),.pointer (some ⟨q,0,none⟩)] w fun e w'=>e= .returned (.bool (d8 key col x))∧Gr w w':=by
 by_cases h1:x.2.1=key
 ·by_cases h2:x.2.2.1=col
  ·have e:d8 key col x=true:=by simp[d8,h1,h2]
   rw[e];clear e
   go_enter Tryz.func156,Tryz.ntmps156
   go_wp2
   go_ret
   exact ⟨rfl,(gR _).alloc _⟩
  ·have e:d8 key col x=false:=by simp[d8,h2]
   rw[e];clear e
   go_enter Tryz.func156,Tryz.ntmps156
   go_wp2
   go_ret
   exact ⟨by simpa using h2,(gR _).alloc _⟩
 ·have e:d8 key col x=false:=by simp[d8,h1]
  rw[e];clear e
  go_enter Tryz.func156,Tryz.ntmps156
  go_wp2
  go_ret
  exact ⟨rfl,(gR _).alloc _⟩

theorem oK (key:Int) (p:Nat) (x:Cel) (w:World) (hp:p<w.heap.size) (kp:w.cell? ⟨p,0,none⟩=some (.int .i64 key)) :
  Calls Tryz.prog 158 #[.agg #[.int .i64 x.1.1,.int .i64 x.1.2,.int .i64 x.2.1,.int .i64 x.2.2.1,.int .i64 x.2.2.2],.pointer (some ⟨p,0,none⟩)] w fun e w'=>e= .returned (.bool (e9 key x))∧Gr w w':=by
 by_cases h1:x.2.1=key
 ·have e:e9 key x=true:=by simp[e9,h1]
  rw[e];clear e
  go_enter Tryz.func158,Tryz.ntmps158
  go_wp2
  go_ret
  exact ⟨by simp[h1],(gR _).alloc _⟩
 ·have e:e9 key x=false:=by simp[e9,h1]
  rw[e];clear e
  go_enter Tryz.func158,Tryz.ntmps158
  go_wp2
  go_ret
  exact ⟨by simpa using h1,(gR _).alloc _⟩

def qY (g:Nat) (lb:Array Value) (p:Cel→Bool) (w:World):Prop:=∀W,Gr w W→∀x:Cel,Calls Tryz.prog g (#[.agg #[.int .i64 x.1.1,.int .i64 x.1.2,.int .i64 x.2.1,.int .i64 x.2.2.1,.int .i64 x.2.2.2]]++lb) W fun e w'=>e= .returned (.bool (p x))∧Gr W w'

theorem yK (key:Int) (p:Nat) (w:World) (hp:p<w.heap.size) (kp:w.cell? ⟨p,0,none⟩=some (.int .i64 key)):qY 158 #[.pointer (some ⟨p,0,none⟩)] (e9 key) w :=
 fun W hg x=>oK key p x W (nL hp hg.size) ((hg.cell (p:=⟨p,0,none⟩) hp).trans kp)

theorem lm (p:Cel→Bool) (g:Nat) (lb:Array Value) (hfn:∀args w,(callFunc g args).run Tryz.prog w= .ok (.enter g args) w) (l:List Cel) (A:Option Addr) (cap:Nat) (w:World) (hl:l.length≤maxLen) (hr:bj w A l) (hp:qY g lb p w) :
  Calls Tryz.prog 195 #[.slice A l.length cap,.func (.func g) #[] lb] w fun e w'=>∃r:Int,e= .returned (.int .i64 r)∧Hid (decide (0≤r)=l.any p)∧Gr w w':=by
 unfold maxLen at hl
 go_enter Tryz.func195,Tryz.ntmps195
 go_wp2
 go_loopw [8] (fun i wr=>∃k:Nat,k≤l.length∧i= .int .i64 k∧Hid (∀j (h:j<l.length),j<k→p l[j]=false)∧Gr w wr) (fun i _=>l.length-(intOf i).toNat)
 case atStart=>exact ⟨0,nZ _,rfl,fun j _ hj=>absurd hj (Nat.not_lt_zero _),gR _⟩
 case round =>
  obtain ⟨k,hk,rfl,hno,hgr⟩:=hrel
  by_cases hlt:k<l.length
  ·have hltz:(k:Int)<(l.length:Int):=by omega
   obtain ⟨bb,off,rfl,hb,hcs⟩:=bj.get (hr.gr hgr) hlt
   obtain ⟨x,hx⟩:∃x,l[k]=x:=⟨_,rfl⟩
   obtain ⟨e0,e1,e2,e3,e4⟩:=hcs k hlt
   rw[hx] at e0 e1 e2 e3 e4
   have hxH:Hid (l[k]=x):=hx
   clear hcs hx
   have hcall:=hp wr hgr x
   have hcallH:Hid _:=hcall
   clear hcall
   go_wp2
   refine cM (show Calls _ _ _ _ _ from hcallH.out) ?_
   rintro e w2 ⟨rfl,hg2⟩
   clear hcallH
   cases hq:p x
   ·go_wp2
    go_roundw
    case rel =>
     refine ⟨k+1,by omega,by go_num,?_,hgr.trans hg2⟩
     intro j hj hjk
     by_cases e:j=k
     ·subst e;rw[hxH.out];exact hq
     ·exact hno j hj (by omega)
    case measure=>simp[intOf];omega
   ·have hfin:Hid (decide ((0:Int)≤(k:Int))=l.any p):=by
     have:l.any p=true:=by
      rw[List.any_eq_true]
      exact ⟨l[k],gM hlt,by rw[hxH.out,hq]⟩
     show decide _=_
     rw[this];simp
    go_wp2
    go_ret
    exact ⟨_,rfl,hfin,hgr.trans hg2⟩
  ·have hltz:¬(k:Int)<(l.length:Int):=by omega
   have hfin:Hid (decide ((0:Int)≤ -1)=l.any p):=by
    have:l.any p=false:=by
     rw[List.any_eq_false]
     intro x hx
     obtain ⟨j,hj,rfl⟩:=List.getElem_of_mem hx
     rw[hno j hj (by omega)];simp
    show decide _=_
    rw[this];simp
   go_wp2
   go_ret
   exact ⟨_,rfl,hfin,hgr⟩

theorem fb (p:Cel→Bool) (g:Nat) (lb:Array Value) (hfn:∀args w,(callFunc g args).run Tryz.prog w= .ok (.enter g args) w) (l:List Cel) (A:Option Addr) (cap:Nat) (w:World) (hl:l.length≤maxLen) (hr:bj w A l) (hp:qY g lb p w) :
  Calls Tryz.prog 159 #[.slice A l.length cap,.func (.func g) #[] lb] w fun e w'=>e= .returned (.bool (l.any p))∧Gr w w':=by
 go_enter Tryz.func159,Tryz.ntmps159
 go_wp2_with fail
 refine (lm p g lb hfn l A cap _ hl hr hp).mono ?_
 rintro e w' ⟨r,rfl,hrr,hg⟩
 go_wp2
 go_ret
 exact ⟨by rw[←hrr.out];rfl,hg⟩

theorem jX {p:Cel→Bool} {l:List Cel} {k:Nat} (h:k<l.length) {x:Cel} (hx:l[k]=x):am p (l.take (k+1))=am p (l.take k)++(if p x then [x.1] else []):=by
 unfold am
 rw[List.take_succ_eq_append_getElem h,List.filter_append,List.map_append,hx]
 cases hq:p x<;>simp[hq]
theorem dB (p:Cel→Bool) (l:List Cel):(am p l).length≤l.length:=by
 unfold am
 rw[List.length_map]
 exact List.length_filter_le _ _

theorem im (p:Cel→Bool) (g:Nat) (lb:Array Value) (hfn:∀args w,(callFunc g args).run Tryz.prog w= .ok (.enter g args) w) (l:List Cel) (A:Option Addr) (cap:Nat) (w:World) (hl:l.length≤400) (hr:bj w A l) (hp:∀W,Below w.heap.size w W→∀x:Cel,Calls Tryz.prog g (#[.agg #[.int .i64 x.1.1,.int .i64 x.1.2,.int .i64 x.2.1,.int .i64 x.2.2.1,.int .i64 x.2.2.2]]++lb) W fun e w'=>e= .returned (.bool (p x))∧Gr W w') :
  Calls Tryz.prog 155 #[.slice A l.length cap,.func (.func g) #[] lb] w fun e w'=>∃C cp,e= .returned (.tuple #[.agg #[.int .i64 (aA (am p l)).c0,.int .i64 (aA (am p l)).c1,.int .i64 (aA (am p l)).c2,.int .i64 (aA (am p l)).c3,.slice C (aA (am p l)).l.length cp],.int .i64 (bJ (am p l))])∧Row w' C (aA (am p l)).l∧(C=none→cp=0)∧(∀a,C=some a→w.heap.size≤a.block)∧Below w.heap.size w w':=by
 have hz0:ZAt (w.alloc (.cells #[.int .i64 0,.int .i64 0,.int .i64 0,.int .i64 0,.slice none 0 0] 38)) w.heap.size:=ZAt.new w 38 rfl
 have hbw0:Hid (Below w.heap.size w (w.alloc (.cells #[.int .i64 0,.int .i64 0,.int .i64 0,.int .i64 0,.slice none 0 0] 38))):=((gR w).alloc _).below
 have hsz0:(w.alloc (.cells #[.int .i64 0,.int .i64 0,.int .i64 0,.int .i64 0,.slice none 0 0] 38)).heap.size=w.heap.size+1:=by simp
 go_enter Tryz.func155,Tryz.ntmps155
 go_wp2
 generalize w.alloc (.cells #[.int .i64 0,.int .i64 0,.int .i64 0,.int .i64 0,.slice none 0 0] 38)=w0 at hz0 hbw0 hsz0 ⊢
 have hszH:Hid (w0.heap.size=w.heap.size+1):=hsz0
 clear hsz0
 go_loopw [6,11] (fun v i wr=>∃k:Nat,k≤l.length∧i= .int .i64 k∧Own wr (w.heap.size+1) v (am p (l.take k))∧Below (w.heap.size+1) w0 wr) (fun _ i _=>l.length-(intOf i).toNat)
 case atStart=>exact ⟨0,by omega,rfl,Own.nil _ _,bR _ _⟩
 case round =>
  obtain ⟨k,hk,rfl,hov,hbel⟩:=hrel
  obtain ⟨A1,cap1,rfl,hA1,hrow1,hlt1⟩:=hov.row
  have hsR:w.heap.size+1≤wr.heap.size:=by have:=hbel.size;have:=hszH.out;omega
  have hbwR:Below w.heap.size w wr:=hbw0.out.trans (hbel.mono (by omega))
  by_cases hlt:k<l.length
  ·have hltz:(k:Int)<(l.length:Int):=by omega
   obtain ⟨bb,off,rfl,hb,hcs⟩:=bj.get (hr.below hbwR) hlt
   obtain ⟨x,hx⟩:∃x,l[k]=x:=⟨_,rfl⟩
   obtain ⟨e0,e1,e2,e3,e4⟩:=hcs k hlt
   rw[hx] at e0 e1 e2 e3 e4
   have hst:=jX (p:=p) hlt hx
   clear hcs hx
   have hgX:Gr wr (wr.alloc (.cells #[.int .i64 x.1.1,.int .i64 x.1.2,.int .i64 x.2.1,.int .i64 x.2.2.1,.int .i64 x.2.2.2] 97)):=(gR _).alloc _
   have hxX:=CelAt.new (w:=wr) x 97 rfl
   have hcall:=hp (wr.alloc (.cells #[.int .i64 x.1.1,.int .i64 x.1.2,.int .i64 x.2.1,.int .i64 x.2.2.1,.int .i64 x.2.2.2] 97)) (hbwR.trans (hgX.below.mono (by omega))) x
   have hcallH:Hid _:=hcall
   clear hcall
   obtain ⟨M,HM⟩:∃M,am p (l.take k)=M:=⟨_,rfl⟩
   have hMl:M.length≤400:=by rw[←HM];exact nT (dB _ _) (by rw[List.length_take];omega)
   rw[HM] at hov hst hrow1 ⊢
   clear HM
   obtain ⟨x0,x1,x2,x3,x4,xlt⟩:=(show CelAt _ _ _ from hxX)
   have hovH:Hid (Own wr (w.heap.size+1) (.slice A1 M.length cap1) M):=hov
   have hbelH:Hid (Below (w.heap.size+1) w0 wr):=hbel
   clear hov hbel hrow1
   go_wp2
   refine cM (show Calls _ _ _ _ _ from hcallH.out) ?_
   rintro e w2 ⟨rfl,hg2⟩
   clear hcallH x0 x1 x2 x3 x4
   have hg02:Gr wr w2:=hgX.trans hg2
   obtain ⟨x0,x1,x2,x3,x4,xlt2⟩:=(show CelAt _ _ _ from hxX.gr hg2)
   cases hq:p x
   ·have hst2:Hid (am p (l.take (k+1))=M):=by show _=_;rw[hst,hq];simp
    clear hst
    go_wp2
    go_roundw
    case rel=>exact ⟨k+1,by omega,by go_num,by rw[hst2.out];exact hovH.out.gr hg02,hbelH.out.trans (hg02.below.mono (by omega))⟩
    case measure=>simp[intOf];omega
   ·have hst2:Hid (am p (l.take (k+1))=M++[x.1]):=by show _=_;rw[hst,hq];simp
    have hbd:Hid ((M.length+[x.1].length)*16≤140737488355328):=by show _≤_;simp only[List.length_cons,List.length_nil];omega
    clear hst
    go_wp2_with (at_builtin;refine aE _ rfl _ _ rfl (w.heap.size+1) (.slice A1 M.length cap1) M [x.1] (some ⟨w2.heap.size,0,none⟩) 1 rfl rfl ?ho ?hr (fun h=>by cases h) hbd.out ?hs ?_)
    case ho=>exact hovH.out.gr (hg02.alloc _)
    case hr=>exact gE rfl x.1.1 x.1.2 _
    case hs=>have:=(hg02.alloc (.cells #[.int .i64 x.1.1,.int .i64 x.1.2] 95)).size;simp at this ⊢;omega
    intro v1 w3 hown1 hgr1 hat1
    have hb3:Hid (Below (w.heap.size+1) w0 w3):=hbelH.out.trans (((hg02.alloc _).below.mono (by omega)).trans (Own.grown_below (hovH.out.gr (hg02.alloc _)) hgr1 (by have:=(hg02.alloc (.cells #[.int .i64 x.1.1,.int .i64 x.1.2] 95)).size;simp at this ⊢;omega)))
    have hownH:Hid (Own w3 (w.heap.size+1) v1 (M++[x.1])):=hown1
    clear hown1 hgr1 hat1
    go_wp2
    go_roundw
    case rel=>exact ⟨k+1,by omega,by go_num,by rw[hst2.out];exact hownH.out,hb3.out⟩
    case measure=>simp[intOf];omega
  ·have hltz:¬(k:Int)<(l.length:Int):=by omega
   have hke:l.take k=l:=List.take_of_length_le (by omega)
   rw[hke] at hov hrow1 ⊢
   obtain ⟨M,HM⟩:∃M,am p l=M:=⟨_,rfl⟩
   have hMl:M.length≤400:=by rw[←HM];exact nT (dB _ _) hl
   rw[HM] at hov hrow1 ⊢
   have HMH:Hid (am p l=M):=HM
   clear HM hke
   have hmk:=oJ M A1 cap1 wr (by unfold maxLen;omega) hA1 hrow1
   have hmkH:Hid _:=hmk
   have hzR:=(hz0.below (hbel.mono (by have:=hszH.out;omega)))
   clear hmk hov
   go_wp2_with fail
   refine cM (show Calls _ _ _ _ _ from hmkH.out) ?_
   rintro e w2 ⟨C,cp,rfl,hrow2,hC,hCb,hb2⟩
   clear hmkH
   obtain ⟨z0,z1,z2,z3,z4,zf,zlt⟩:=(show ZAt _ _ from hzR.below hb2)
   have hCn:∀a,C=some a→a.block≠w.heap.size:=fun a ha=>by have:=hCb a ha;omega
   have hbw2:Hid (Below w.heap.size w w2):=hbwR.trans (hb2.mono (by omega))
   obtain ⟨F,hF⟩:∃F,aA M=F:=⟨_,rfl⟩
   rw[hF] at hrow2 ⊢
   have HF:Hid (aA M=F):=hF
   clear hF
   go_wp2
   rw[HMH.out,HF.out]
   refine bodyPost_ret (v:= .tuple #[.agg #[.int .i64 F.c0,.int .i64 F.c1,.int .i64 F.c2,.int .i64 F.c3,.slice C F.l.length cp],.int .i64 (bJ M)]) (by simp[results,Tryz.results155,go_sem,z0,z1,z2,z3,z4]) rfl ⟨C,cp,rfl,?_,hC,fun a ha=>nT (by omega) (hCb a ha),?_⟩
   ·exact ((((hrow2.setCell _ hCn).setCell _ hCn).setCell _ hCn).setCell _ hCn).setCell _ hCn
   ·exact aY hbw2.out (nR _) _ _ _ _ _

end Go.Proofs.YtckeonpnfankhaaGreatDoor

namespace Go.Proofs.YtckeonpnfankhaaGreatDoor
open Go.RowKit Go.Sort Go.Shelf Go.Lib

def fK (x:Int):List Value:=[.int .i64 x]
theorem bV (x:Int):(fK x).length=1:=rfl
theorem vy (x:Int):∀u∈fK x,u.oneCell'=true:=by
 intro u hu
 simp[fK] at hu
 rw[hu];rfl
abbrev ay (w:World) (A:Option Addr) (l:List Int):Prop:=ax fK 1 w A l
abbrev ef (w:World) (base:Nat) (v:Value) (l:List Int):Prop:=ai fK 1 3 w base v l

theorem gt (d:Array Int):∀m,(compactUpTo d m).length≤m
 | 0=>by simp[compactUpTo]
 | m+1=>by
  have:=gt d m
  rw[compactUpTo_succ,List.length_append]
  split<;>simp<;>omega
theorem lC (l:List Int):(compact l).length≤l.length:=gt _ _
def cF (l:List Int):List Int:=compact (l.mergeSort fun x y=>decide (x≤y))
theorem gW (l:List Int):(cF l).length≤l.length:=by
 unfold cF
 refine nT (lC _) ?_
 simp

theorem xL {w:World} {g:Nat} {l:List Int} (h:ay w (some ⟨g,0,none⟩) l) (hf:∀j,w.frozen? ⟨g,j,none⟩=false):Holds (Value.int .i64) w g 0 l.toArray:=by
 intro j hj
 have hj':j<l.length:=by simpa using hj
 obtain ⟨b,off,hA,hb,hc⟩:=h.at hj'
 obtain ⟨rfl,rfl⟩:g=b∧0=off:=by injection hA with hA;injection hA with h1 h2;exact ⟨h1,h2⟩
 refine ⟨?_,hf _⟩
 have:=hc j hj' 0 (by omega)
 have e:l.toArray[j]! = l[j]:=by simp[hj']
 rw[e]
 simpa[fK] using this
theorem vU {w:World} {g:Nat} {l m:List Int} (h:Holds (Value.int .i64) w g 0 (l++m).toArray) (hg:g<w.heap.size):ay w (some ⟨g,0,none⟩) l:=by
 refine oR ⟨g,0,rfl,hg,fun j hj i hi=> ?_⟩
 obtain rfl:i=0:=by omega
 have h0:=(h j (by simp;omega)).1
 have e:(l++m).toArray[j]! = l[j]:=by
  have h1:j<(l++m).length:=by rw[List.length_append];omega
  have h2:(l++m).toArray[j]! = (l++m)[j]:=by
   rw[getElem!_pos (l++m).toArray j (by simpa using h1)]
   rfl
  rw[h2,List.getElem_append_left hj]
 rw[e] at h0
 simpa[fK] using h0
theorem kS {w:World} {g n base:Nat} {d:Array Int} (hb:base≤g):Below base w (putRow (Value.int .i64) (Sort.ahead w n) g 0 d):=by
 refine ⟨rfl,rfl,rfl,by simp[putRow,mapBlock,Sort.ahead],fun k hk=> ?_⟩
 show ((Sort.ahead w n).heap.modify g _)[k]? = _
 rw[Array.getElem?_modify,if_neg (by omega)]
 rfl
theorem jv {w:World} {g n:Nat} {d:Array Int}:(putRow (Value.int .i64) (Sort.ahead w n) g 0 d).heap.size=w.heap.size:=by simp[putRow,mapBlock,Sort.ahead]

theorem yB (g cap:Nat) (l:List Int) (w:World) (hH:Holds (Value.int .i64) w g 0 l.toArray) (hg:g<w.heap.size) (hsz:l.length<4611686018427387904) :
  Calls Tryz.prog 72 #[.slice (some ⟨g,0,none⟩) l.length cap] w fun e w'=>e= .returned (.tuple #[])∧Holds (Value.int .i64) w' g 0 (l.mergeSort fun x y=>decide (x≤y)).toArray∧g<w'.heap.size∧∀base,base≤g→Below base w w':=by
 have hcon:=Any.slices_Sort_int Tryz.sortInt g 0 cap l w hH hg hsz
 change Calls Tryz.prog 72 _ _ _ at hcon
 refine hcon.mono ?_
 rintro e w' ⟨he,n,os,hw⟩
 have hs:g<(putRow (Value.int .i64) (Sort.ahead w n) g 0 (l.mergeSort fun x y=>decide (x≤y)).toArray).heap.size:=by rw[jv];exact hg
 refine ⟨he,?_,?_,fun base hb=> ?_⟩
 ·rw[hw]
  exact holds_grow _ _ _ _ _ _ hs (holds_putRow _ _ _ _ l.toArray _ (holds_ahead _ _ _ _ _ _ hH) (by simp))
 ·rw[hw];simp only[grow,Array.size_append];omega
 ·rw[hw]
  refine (kS (n:=n) (d:=(l.mergeSort fun x y=>decide (x≤y)).toArray) hb).trans ?_
  have hgr:Gr (putRow (Value.int .i64) (Sort.ahead w n) g 0 (l.mergeSort fun x y=>decide (x≤y)).toArray) (grow (putRow (Value.int .i64) (Sort.ahead w n) g 0 (l.mergeSort fun x y=>decide (x≤y)).toArray) os):=⟨0,os,rfl⟩
  exact hgr.below.mono (by rw[jv];omega)

theorem tv (A:Option Addr) (cap:Nat) (w:World):Calls Tryz.prog 72 #[.slice A 0 cap] w fun e w'=>e= .returned (.tuple #[])∧w'=w :=
 Any.slices_Sort_int_none Tryz.sortInt A cap w

theorem uW (g cap:Nat) (l:List Int) (w:World) (hH:Holds (Value.int .i64) w g 0 l.toArray) (hg:g<w.heap.size) (hsz:l.length≤9223372036854775807) (hcap:l.length≤cap) :
  Calls Tryz.prog 73 #[.slice (some ⟨g,0,none⟩) l.length cap] w fun e w'=>e= .returned (.slice (some ⟨g,0,none⟩) (compact l).length cap)∧ay w' (some ⟨g,0,none⟩) (compact l)∧∀base,base≤g→Below base w w':=by
 have hcon:=Any.slices_Compact_int Tryz.compactInt g 0 cap l w hH hsz hcap
 change Calls Tryz.prog 73 _ _ _ at hcon
 refine hcon.mono ?_
 rintro e w' ⟨he,n,hw⟩
 refine ⟨he,?_,fun base hb=>by rw[hw];exact kS hb⟩
 rw[hw]
 refine vU (m:=List.replicate (l.length-(compact l).length) 0) (holds_putRow _ _ _ _ l.toArray _ (holds_ahead _ _ _ _ _ _ hH) ?_) (by rw[jv];exact hg)
 have:=lC l
 simp
 omega
theorem nu (A:Option Addr) (cap:Nat) (w:World):Calls Tryz.prog 73 #[.slice A 0 cap] w fun e w'=>e= .returned (.slice A 0 cap)∧w'=w :=
 Any.slices_Compact_int_empty Tryz.compactInt A cap w

theorem gp (l:List Int) (base:Nat) (v:Value) (w:World) (hown:ef w base v l) (hl:l.length<4611686018427387904) :
  Calls Tryz.prog 50 #[v] w fun e w'=>∃C cp,e= .returned (.slice C (cF l).length cp)∧ay w' C (cF l)∧Below base w w':=by
 obtain ⟨A,cap,rfl,hA,hrow,hcap,hlt,hfz⟩:=ai.full bV hown
 by_cases h0:l=[]
 ·subst h0
  have hz:cF []=[]:=List.eq_nil_of_length_eq_zero (Nat.le_zero.1 (gW []))
  rw[hz]
  go_enter Tryz.func50,Tryz.ntmps50
  go_wp2_with (first|(go_at_call 72;refine (tv _ _ _).mono ?_;rintro e w ⟨rfl,rfl⟩)|(go_at_call 73;refine (nu _ _ _).mono ?_;rintro e w ⟨rfl,rfl⟩))
  go_ret
  exact ⟨A,cap,rfl,oL rfl,bR _ _⟩
 ·have hpos:0<l.length:=List.length_pos_iff.2 h0
  obtain ⟨b,off,hAe,hb,_⟩:=hrow.at hpos
  subst hAe
  have h5:=hlt _ rfl
  obtain rfl:off=0:=h5.2.2.1
  have hH:=xL hrow (hfz _ rfl)
  have hs:=yB b cap l w hH hb hl
  have hsH:Hid _:=hs
  have hone:Hid (cF l=compact (l.mergeSort fun x y=>decide (x≤y))):=rfl
  clear hs
  go_enter Tryz.func50,Tryz.ntmps50
  go_wp2_with fail
  refine cM (show Calls _ _ _ _ _ from hsH.out) ?_
  rintro e w1 ⟨rfl,hH1,hg1,hb1⟩
  have hlen:(l.mergeSort fun x y=>decide (x≤y)).length=l.length:=by simp
  have hc:=uW b cap (l.mergeSort fun x y=>decide (x≤y)) w1 hH1 hg1 (by rw[hlen];omega) (by rw[hlen];exact hcap)
  rw[hlen,←hone.out] at hc
  have hcH:Hid _:=hc
  clear hsH hc hlen hH1
  go_wp2_with fail
  refine cM (show Calls _ _ _ _ _ from hcH.out) ?_
  rintro e w2 ⟨rfl,hr2,hb2⟩
  go_wp2
  go_ret
  exact ⟨_,_,rfl,hr2,(hb1 base h5.1).trans (hb2 base h5.1)⟩

def bI (key col:Int) (l:List Cel):List Int:=(l.filter (d8 key col)).map (·.2.2.2)
def bU (l:List Cel):List Int:=l.map (·.2.1)
theorem pq {key col:Int} {l:List Cel} {k:Nat} (h:k<l.length) {x:Cel} (hx:l[k]=x):bI key col (l.take (k+1))=bI key col (l.take k)++(if d8 key col x then [x.2.2.2] else []):=by
 unfold bI
 rw[List.take_succ_eq_append_getElem h,List.filter_append,List.map_append,hx]
 cases hq:d8 key col x<;>simp[hq]
theorem pv {l:List Cel} {k:Nat} (h:k<l.length) {x:Cel} (hx:l[k]=x):bU (l.take (k+1))=bU (l.take k)++[x.2.1]:=by
 unfold bU
 rw[List.take_succ_eq_append_getElem h,List.map_append,hx]
 simp
theorem iM (key col:Int) (l:List Cel):(bI key col l).length≤l.length:=by
 unfold bI
 rw[List.length_map]
 exact List.length_filter_le _ _
theorem fZ (l:List Cel):(bU l).length≤l.length:=by unfold bU;rw[List.length_map];exact nR _

theorem Tryz.infoI:(Tryz.prog.info? 3).map (fun i=>(i.zero,i.size,i.bytes))=some (some (.int .i64 0),1,8):=by kernel_rfl

theorem gV {W:World} {n:Nat} (hn:W.heap.size=n) (x:Int) (T:TypeId):ay (W.alloc (.cells #[.int .i64 x] T)) (some ⟨n,0,none⟩) [x]:=by
 subst hn
 refine oR ⟨W.heap.size,0,rfl,by simp,fun j hj i hi=> ?_⟩
 obtain rfl:j=0:=by simp at hj;omega
 obtain rfl:i=0:=by omega
 exact aa (w:=W) (gR _) (j:=0) rfl

theorem aR (w:World) {ops:Array Oper} {rest:List Oper} {o:Oper} {a:Act} {Q:Exit→Act→World→Prop} (hgd:o.guard=none) (s x:Operand)
  (ho:o.op= .call { callee:= .builtin .append,args:= #[s,x],argTypes:= #[23,23] })
  (base:Nat) (v:Value) (l m:List Int) (A:Option Addr) (cap:Nat) (hs:a.eval s=v) (hx:a.eval x= .slice A m.length cap) (hown:ef w base v l) (hr:ay w A m) (hA:A=none→cap=0)
  (hml:l.length+m.length≤maxLen) (hb:(l.length+m.length)*8≤140737488355328) (hbase:base≤w.heap.size)
  (h:∀v' w',ef w' base v' (l++m)→w.grownBy w' v.ownBlock→wpList Tryz.prog ops Q rest (a.put o.dst v') w'):wpList Tryz.prog ops Q (o::rest) a w :=
 wpList_plain hgd fun _ hK=>eA bV vy (by omega) 23 Tryz.underlying23 (.int .i64 0) 8 Tryz.infoI rfl w s x ho base v l m A cap hs hx hown hr hA hml hb hbase fun v' w' h2 h3=>hK _ _ (h v' w' h2 h3)

theorem pH (t:Tab) (A:Option Addr) (ca:Nat) (D:Option Addr) (cd:Nat) (key col:Int) (w:World) (hsz:t.e.length*40≤140737488355328) (hr:Row w A t.c.l) (hd:bj w D t.e) :
  Calls Tryz.prog 27 #[.agg (T6 t A ca D cd).toArray,.int .i64 key,.int .i64 col] w fun e w'=>∃C cp,e= .returned (.slice C (cF (bI key col t.e)).length cp)∧ay w' C (cF (bI key col t.e))∧Below w.heap.size w w':=by
 have ht0:TabAt (w.alloc (.cells #[.int .i64 t.c.c0,.int .i64 t.c.c1,.int .i64 t.c.c2,.int .i64 t.c.c3,.slice A t.c.l.length ca,.slice D t.e.length cd] 41)) w.heap.size t A ca D cd:=TabAt.new 41 hr hd rfl
 have hbw0:Below w.heap.size w (w.alloc (.cells #[.int .i64 t.c.c0,.int .i64 t.c.c1,.int .i64 t.c.c2,.int .i64 t.c.c3,.slice A t.c.l.length ca,.slice D t.e.length cd] 41)):=((gR w).alloc _).below
 have k5:=ht0.k5
 go_enter Tryz.func27,Tryz.ntmps27
 go_wp2
 generalize w.alloc (.cells #[.int .i64 t.c.c0,.int .i64 t.c.c1,.int .i64 t.c.c2,.int .i64 t.c.c3,.slice A t.c.l.length ca,.slice D t.e.length cd] 41)=w0 at ht0 hbw0 k5 ⊢
 clear k5
 go_loopw [7,13] (fun v i wr=>∃k:Nat,k≤t.e.length∧i= .int .i64 k∧ef wr w0.heap.size v (bI key col (t.e.take k))∧Below w0.heap.size w0 wr) (fun _ i _=>t.e.length-(intOf i).toNat)
 case atStart=>exact ⟨0,by omega,rfl,ai.nil _ _ _ _ _,bR _ _⟩
 case round =>
  obtain ⟨k,hk,rfl,hov,hbel⟩:=hrel
  obtain ⟨A1,cap1,rfl,hA1,hrow1,hlt1⟩:=ai.row bV hov
  have htR:=ht0.below hbel
  have hsR:w0.heap.size≤wr.heap.size:=hbel.size
  by_cases hlt:k<t.e.length
  ·have hltz:(k:Int)<(t.e.length:Int):=by omega
   obtain ⟨bb,off,rfl,hb,hcs⟩:=bj.get htR.rowC hlt
   obtain ⟨x,hx⟩:∃x,t.e[k]=x:=⟨_,rfl⟩
   obtain ⟨e0,e1,e2,e3,e4⟩:=hcs k hlt
   rw[hx] at e0 e1 e2 e3 e4
   have hst:=pq (key:=key) (col:=col) hlt hx
   clear hcs hx
   obtain ⟨M,HM⟩:∃M,bI key col (t.e.take k)=M:=⟨_,rfl⟩
   have hMl:M.length≤t.e.length:=by rw[←HM];exact nT (iM _ _ _) (by rw[List.length_take];omega)
   rw[HM] at hov hst hrow1 ⊢
   clear HM
   have hovH:Hid (ef wr w0.heap.size (.slice A1 M.length cap1) M):=hov
   have hbelH:Hid (Below w0.heap.size w0 wr):=hbel
   have hgX:Gr wr (wr.alloc (.cells #[.int .i64 x.1.1,.int .i64 x.1.2,.int .i64 x.2.1,.int .i64 x.2.2.1,.int .i64 x.2.2.2] 97)):=(gR _).alloc _
   obtain ⟨x0,x1,x2,x3,x4,xlt⟩:=(show CelAt _ _ _ from CelAt.new (w:=wr) x 97 rfl)
   clear hov hbel hrow1
   by_cases hq:x.2.1=key
   ·have hqb:(x.2.1==key)=true:=by simpa using hq
    by_cases hq2:x.2.2.1=col
    ·have hqb2:(x.2.2.1==col)=true:=by simpa using hq2
     have hst2:Hid (bI key col (t.e.take (k+1))=M++[x.2.2.2]):=by show _=_;rw[hst,if_pos (by simp[d8,hq,hq2])]
     have hbd:Hid (M.length+[x.2.2.2].length≤maxLen∧(M.length+[x.2.2.2].length)*8≤140737488355328):=by show _∧_;unfold maxLen;simp only[List.length_cons,List.length_nil];omega
     clear hst hq hq2
     go_wp2_with (at_builtin;refine aR _ rfl _ _ rfl w0.heap.size (.slice A1 M.length cap1) M [x.2.2.2] (some ⟨wr.heap.size+1,0,none⟩) 1 rfl rfl ?ho ?hr (fun h=>by cases h) hbd.out.1 hbd.out.2 ?hs ?_)
     case ho=>exact hovH.out.gr (hgX.alloc _)
     case hr=>exact gV (by simp) _ _
     case hs=>simp;omega
     intro v1 w3 hown1 hgr1
     have hb3:Hid (Below w0.heap.size w0 w3):=hbelH.out.trans (((hgX.alloc _).below.mono hsR).trans (ai.grown_below (hovH.out.gr (hgX.alloc _)) hgr1 (by simp;omega)))
     have hownH:Hid (ef w3 w0.heap.size v1 (M++[x.2.2.2])):=hown1
     clear hown1 hgr1
     go_wp2
     go_roundw
     case rel=>exact ⟨k+1,by omega,by go_num,by rw[hst2.out];exact hownH.out,hb3.out⟩
     case measure=>simp[intOf];omega
    ·have hqb2:(x.2.2.1==col)=false:=by simpa using hq2
     have hst2:Hid (bI key col (t.e.take (k+1))=M):=by show _=_;rw[hst,if_neg (by simp[d8,hq2])];simp
     clear hst hq hq2
     go_wp2
     go_roundw
     case rel=>exact ⟨k+1,by omega,by go_num,by rw[hst2.out];exact hovH.out.gr hgX,hbelH.out.trans (hgX.below.mono hsR)⟩
     case measure=>simp[intOf];omega
   ·have hqb:(x.2.1==key)=false:=by simpa using hq
    have hst2:Hid (bI key col (t.e.take (k+1))=M):=by show _=_;rw[hst,if_neg (by simp[d8,hq])];simp
    clear hst hq
    go_wp2
    go_roundw
    case rel=>exact ⟨k+1,by omega,by go_num,by rw[hst2.out];exact hovH.out.gr hgX,hbelH.out.trans (hgX.below.mono hsR)⟩
    case measure=>simp[intOf];omega
  ·have hltz:¬(k:Int)<(t.e.length:Int):=by omega
   have hke:t.e.take k=t.e:=List.take_of_length_le (by omega)
   rw[hke] at hov hrow1 ⊢
   clear hke
   have hMl:(bI key col t.e).length≤t.e.length:=iM _ _ _
   obtain ⟨M,HM⟩:∃M,bI key col t.e=M:=⟨_,rfl⟩
   rw[HM] at hov hrow1 hMl ⊢
   have HMH:Hid (bI key col t.e=M):=HM
   clear HM
   have hro:=gp M w0.heap.size _ wr hov (by omega)
   have hroH:Hid _:=hro
   have hbwR:Below w.heap.size w wr:=hbw0.trans (hbel.mono hbw0.size)
   have hbs:=hbw0.size
   clear hro hov hrow1
   go_wp2_with fail
   refine cM (show Calls _ _ _ _ _ from hroH.out) ?_
   rintro e w2 ⟨C,cp,rfl,hr2,hb2⟩
   clear hroH
   go_wp2
   go_ret
   rw[HMH.out]
   exact ⟨C,cp,rfl,hr2,hbwR.trans (hb2.mono hbs)⟩

theorem tO (t:Tab) (A:Option Addr) (ca:Nat) (D:Option Addr) (cd:Nat) (w:World) (hsz:t.e.length*40≤140737488355328) (hr:Row w A t.c.l) (hd:bj w D t.e) :
  Calls Tryz.prog 44 #[.agg (T6 t A ca D cd).toArray] w fun e w'=>∃C cp,e= .returned (.slice C (cF (bU t.e)).length cp)∧ay w' C (cF (bU t.e))∧Below w.heap.size w w':=by
 have ht0:TabAt (w.alloc (.cells #[.int .i64 t.c.c0,.int .i64 t.c.c1,.int .i64 t.c.c2,.int .i64 t.c.c3,.slice A t.c.l.length ca,.slice D t.e.length cd] 41)) w.heap.size t A ca D cd:=TabAt.new 41 hr hd rfl
 have hbw0:Below w.heap.size w (w.alloc (.cells #[.int .i64 t.c.c0,.int .i64 t.c.c1,.int .i64 t.c.c2,.int .i64 t.c.c3,.slice A t.c.l.length ca,.slice D t.e.length cd] 41)):=((gR w).alloc _).below
 have k5:=ht0.k5
 go_enter Tryz.func44,Tryz.ntmps44
 go_wp2
 generalize w.alloc (.cells #[.int .i64 t.c.c0,.int .i64 t.c.c1,.int .i64 t.c.c2,.int .i64 t.c.c3,.slice A t.c.l.length ca,.slice D t.e.length cd] 41)=w0 at ht0 hbw0 k5 ⊢
 clear k5
 go_loopw [3,9] (fun v i wr=>∃k:Nat,k≤t.e.length∧i= .int .i64 k∧ef wr w0.heap.size v (bU (t.e.take k))∧Below w0.heap.size w0 wr) (fun _ i _=>t.e.length-(intOf i).toNat)
 case atStart=>exact ⟨0,by omega,rfl,ai.nil _ _ _ _ _,bR _ _⟩
 case round =>
  obtain ⟨k,hk,rfl,hov,hbel⟩:=hrel
  obtain ⟨A1,cap1,rfl,hA1,hrow1,hlt1⟩:=ai.row bV hov
  have htR:=ht0.below hbel
  have hsR:w0.heap.size≤wr.heap.size:=hbel.size
  by_cases hlt:k<t.e.length
  ·have hltz:(k:Int)<(t.e.length:Int):=by omega
   obtain ⟨bb,off,rfl,hb,hcs⟩:=bj.get htR.rowC hlt
   obtain ⟨x,hx⟩:∃x,t.e[k]=x:=⟨_,rfl⟩
   obtain ⟨e0,e1,e2,e3,e4⟩:=hcs k hlt
   rw[hx] at e0 e1 e2 e3 e4
   have hst:=pv hlt hx
   clear hcs hx
   obtain ⟨M,HM⟩:∃M,bU (t.e.take k)=M:=⟨_,rfl⟩
   have hMl:M.length≤t.e.length:=by rw[←HM];exact nT (fZ _) (by rw[List.length_take];omega)
   rw[HM] at hov hst hrow1 ⊢
   clear HM
   have hovH:Hid (ef wr w0.heap.size (.slice A1 M.length cap1) M):=hov
   have hbelH:Hid (Below w0.heap.size w0 wr):=hbel
   have hgX:Gr wr (wr.alloc (.cells #[.int .i64 x.1.1,.int .i64 x.1.2,.int .i64 x.2.1,.int .i64 x.2.2.1,.int .i64 x.2.2.2] 97)):=(gR _).alloc _
   obtain ⟨x0,x1,x2,x3,x4,xlt⟩:=(show CelAt _ _ _ from CelAt.new (w:=wr) x 97 rfl)
   clear hov hbel hrow1
   have hst2:Hid (bU (t.e.take (k+1))=M++[x.2.1]):=by show _=_;rw[hst]
   have hbd:Hid (M.length+[x.2.1].length≤maxLen∧(M.length+[x.2.1].length)*8≤140737488355328):=by show _∧_;unfold maxLen;simp only[List.length_cons,List.length_nil];omega
   clear hst
   go_wp2_with (at_builtin;refine aR _ rfl _ _ rfl w0.heap.size (.slice A1 M.length cap1) M [x.2.1] (some ⟨wr.heap.size+1,0,none⟩) 1 rfl rfl ?ho ?hr (fun h=>by cases h) hbd.out.1 hbd.out.2 ?hs ?_)
   case ho=>exact hovH.out.gr (hgX.alloc _)
   case hr=>exact gV (by simp) _ _
   case hs=>simp;omega
   intro v1 w3 hown1 hgr1
   have hb3:Hid (Below w0.heap.size w0 w3):=hbelH.out.trans (((hgX.alloc _).below.mono hsR).trans (ai.grown_below (hovH.out.gr (hgX.alloc _)) hgr1 (by simp;omega)))
   have hownH:Hid (ef w3 w0.heap.size v1 (M++[x.2.1])):=hown1
   clear hown1 hgr1
   go_wp2
   go_roundw
   case rel=>exact ⟨k+1,by omega,by go_num,by rw[hst2.out];exact hownH.out,hb3.out⟩
   case measure=>simp[intOf];omega
  ·have hltz:¬(k:Int)<(t.e.length:Int):=by omega
   have hke:t.e.take k=t.e:=List.take_of_length_le (by omega)
   rw[hke] at hov hrow1 ⊢
   clear hke
   have hMl:(bU t.e).length≤t.e.length:=fZ _
   obtain ⟨M,HM⟩:∃M,bU t.e=M:=⟨_,rfl⟩
   rw[HM] at hov hrow1 hMl ⊢
   have HMH:Hid (bU t.e=M):=HM
   clear HM
   have hro:=gp M w0.heap.size _ wr hov (by omega)
   have hroH:Hid _:=hro
   have hbwR:Below w.heap.size w wr:=hbw0.trans (hbel.mono hbw0.size)
   have hbs:=hbw0.size
   clear hro hov hrow1
   go_wp2_with fail
   refine cM (show Calls _ _ _ _ _ from hroH.out) ?_
   rintro e w2 ⟨C,cp,rfl,hr2,hb2⟩
   clear hroH
   go_wp2
   go_ret
   rw[HMH.out]
   exact ⟨C,cp,rfl,hr2,hbwR.trans (hb2.mono hbs)⟩

end Go.Proofs.YtckeonpnfankhaaGreatDoor

namespace Go.Proofs.YtckeonpnfankhaaGreatDoor
open Go.RowKit Go.Sort

def okW (n:Int):Bool:=inB n (-1048576) 1048576
def okN (n:Int):Bool:=inB n (-1073741824) 1073741824
def okR (l:List Int):Bool:=decide (l.length≤8) && l.all okN

theorem fS (n:Int) (w:World) :
  Calls Tryz.prog 132 #[.int .i64 n] w fun e w'=>e= .returned (.bool (okW n))∧w'=w:=by
 by_cases h1: -1048576≤n
 ·by_cases h2:n≤1048576
  ·have e:okW n=true:=by simp[okW,inB];omega
   rw[e];clear e
   go_enter Tryz.func132,Tryz.ntmps132
   go_wp2
   go_ret
   exact ⟨rfl,rfl⟩
  ·have e:okW n=false:=by simp[okW,inB];omega
   rw[e];clear e
   go_enter Tryz.func132,Tryz.ntmps132
   go_wp2
   go_ret
   exact ⟨rfl,rfl⟩
 ·have e:okW n=false:=by simp[okW,inB];omega
  rw[e];clear e
  go_enter Tryz.func132,Tryz.ntmps132
  go_wp2
  go_ret
  exact ⟨rfl,rfl⟩

theorem mD (l:List Int) (A:Option Addr) (cap:Nat) (w:World) (hl:l.length≤maxLen) (hr:ay w A l) :
  Calls Tryz.prog 131 #[.slice A l.length cap] w fun e w'=>e= .returned (.bool (okR l))∧Gr w w':=by
 unfold maxLen at hl
 by_cases h8:8<l.length
 ·have e:okR l=false:=by simp[okR];omega
  rw[e];clear e
  have h8z:(8:Int)<(l.length:Int):=by omega
  go_enter Tryz.func131,Tryz.ntmps131
  go_wp2
  go_ret
  exact ⟨rfl,gR _⟩
 ·have h8z:¬(8:Int)<(l.length:Int):=by omega
  go_enter Tryz.func131,Tryz.ntmps131
  go_wp2
  go_loopw [10] (fun i wr=>∃k:Nat,k≤l.length∧i= .int .i64 k∧Hid (∀j (h:j<l.length),j<k→okN l[j]=true)∧Gr w wr) (fun i _=>l.length-(intOf i).toNat)
  case atStart=>exact ⟨0,nZ _,rfl,fun j _ hj=>absurd hj (Nat.not_lt_zero _),gR _⟩
  case round =>
   obtain ⟨k,hk,rfl,hno,hgr⟩:=hrel
   by_cases hlt:k<l.length
   ·have hltz:(k:Int)<(l.length:Int):=by omega
    obtain ⟨bb,off,rfl,hb,hcs⟩:=(hr.gr hgr).at hlt
    have e0:=hcs k hlt 0 (by omega)
    obtain ⟨y,hy⟩:∃y,l[k]=y:=⟨_,rfl⟩
    rw[hy] at e0
    have e1:wr.cell? ⟨bb,off+k,none⟩=some (.int .i64 y):=by simpa[fK] using e0
    have hyH:Hid (l[k]=y):=hy
    clear hcs e0 hy
    have hbad:Hid (okN y=false→okR l=false):=by
     intro h
     unfold okR
     have:l.all okN=false:=by
      rw[List.all_eq_false]
      exact ⟨y,by rw[←hyH.out];exact gM hlt,by simp[h]⟩
     rw[this];simp
    by_cases q1:y < -1073741824
    ·have hfin:Hid (okR l=false):=hbad.out (by simp[okN,inB];omega)
     go_wp2
     go_ret
     exact ⟨by rw[hfin.out];rfl,hgr⟩
    ·by_cases q2:1073741824<y
     ·have hfin:Hid (okR l=false):=hbad.out (by simp[okN,inB];omega)
      go_wp2
      go_ret
      exact ⟨by rw[hfin.out];rfl,hgr⟩
     ·have hne:Hid (okN l[k]=true):=by show okN l[k]=true;rw[hyH.out];simp[okN,inB];omega
      go_wp2
      go_roundw
      case rel =>
       refine ⟨k+1,by omega,by go_num,?_,hgr⟩
       intro j hj hjk
       by_cases e:j=k
       ·subst e;exact hne
       ·exact hno j hj (by omega)
      case measure=>simp[intOf];omega
   ·have hltz:¬(k:Int)<(l.length:Int):=by omega
    have hfin:Hid (okR l=true):=by
     show okR l=true
     unfold okR
     have:l.all okN=true:=by
      rw[List.all_eq_true]
      intro x hx
      obtain ⟨j,hj,e⟩:=List.getElem_of_mem hx
      rw[←e];exact hno j hj (by omega)
     rw[this];simp;omega
    go_wp2
    go_ret
    exact ⟨by rw[hfin.out];rfl,hgr⟩


def aB:List Int→List Int→Int
 | [],[]=>0
 | [],_::_=> -1
 | _::_,[]=>1
 | x::a,y::b=>if bg x y=0 then aB a b else bg x y

theorem jB {a b:List Int}:∀k,k≤a.length→k≤b.length→(∀j (h1:j<a.length) (h2:j<b.length),j<k→bg a[j] b[j]=0)→aB a b=aB (a.drop k) (b.drop k):=by
 intro k
 induction k with
 | zero=>intros;simp
 | succ k ih =>
  intro h1 h2 h
  rw[ih (by omega) (by omega) fun j h3 h4 h5=>h j h3 h4 (by omega)]
  rw[List.drop_eq_getElem_cons (show k<a.length by omega),List.drop_eq_getElem_cons (show k<b.length by omega)]
  show (if bg a[k] b[k]=0 then _ else _)=_
  rw[if_pos (h k (by omega) (by omega) (by omega))]
theorem wA {a b:List Int} {k:Nat} (h1:k<a.length) (h2:k<b.length) (h:∀j (h1:j<a.length) (h2:j<b.length),j<k→bg a[j] b[j]=0) (hne:bg a[k] b[k]≠0):aB a b=bg a[k] b[k]:=by
 rw[jB k (by omega) (by omega) h,List.drop_eq_getElem_cons h1,List.drop_eq_getElem_cons h2]
 show (if bg a[k] b[k]=0 then _ else _)=_
 rw[if_neg hne]
theorem sJ {a b:List Int} {k:Nat} (h1:k<a.length) (h2:k=b.length) (h:∀j (h1:j<a.length) (h2:j<b.length),j<k→bg a[j] b[j]=0):aB a b=1:=by
 rw[jB k (by omega) (by omega) h,List.drop_eq_getElem_cons h1,show b.drop k=[] from List.drop_eq_nil_of_le (by omega)]
 rfl
theorem vp {a b:List Int} (hab:a.length≤b.length) (h:∀j (h1:j<a.length) (h2:j<b.length),j<a.length→bg a[j] b[j]=0):aB a b=if a.length<b.length then -1 else 0:=by
 rw[jB a.length (by omega) hab h,List.drop_eq_nil_of_le (Nat.le_refl _)]
 by_cases k:a.length<b.length
 ·rw[if_pos k,List.drop_eq_getElem_cons k];rfl
 ·rw[if_neg k,List.drop_eq_nil_of_le (by omega)];rfl

theorem oA (a b:List Int) (A B:Option Addr) (ca cb:Nat) (w:World) (hal:a.length≤maxLen) (hra:ay w A a) (hrb:ay w B b) :
  Calls Tryz.prog 182 #[.slice A a.length ca,.slice B b.length cb] w fun e w'=>e= .returned (.int .i64 (aB a b))∧Gr w w':=by
 unfold maxLen at hal
 go_enter Tryz.func182,Tryz.ntmps182
 go_wp2
 go_loopw [11] (fun i wr=>∃k:Nat,k≤a.length∧k≤b.length∧i= .int .i64 k∧Hid (∀j (h1:j<a.length) (h2:j<b.length),j<k→bg a[j] b[j]=0)∧Gr w wr) (fun i _=>a.length-(intOf i).toNat)
 case atStart=>exact ⟨0,nZ _,nZ _,rfl,fun j _ _ hj=>absurd hj (Nat.not_lt_zero _),gR _⟩
 case round =>
  obtain ⟨k,hk,hk2,rfl,hno,hgr⟩:=hrel
  by_cases hlt:k<a.length
  ·have hltz:(k:Int)<(a.length:Int):=by omega
   obtain ⟨bb,off,rfl,hb,hcs⟩:=(hra.gr hgr).at hlt
   have e0:=hcs k hlt 0 (by omega)
   obtain ⟨x,hx⟩:∃y,a[k]=y:=⟨_,rfl⟩
   rw[hx] at e0
   have e1:wr.cell? ⟨bb,off+k,none⟩=some (.int .i64 x):=by simpa[fK] using e0
   have hxH:Hid (a[k]=x):=hx
   clear hcs e0 hx
   by_cases hlt2:k<b.length
   ·have hlt2z:(k:Int)<(b.length:Int):=by omega
    obtain ⟨bc,of2,rfl,hb2,hcs⟩:=(hrb.gr hgr).at hlt2
    have e0:=hcs k hlt2 0 (by omega)
    obtain ⟨y,hy⟩:∃y,b[k]=y:=⟨_,rfl⟩
    rw[hy] at e0
    have e2:wr.cell? ⟨bc,of2+k,none⟩=some (.int .i64 y):=by simpa[fK] using e0
    have hyH:Hid (b[k]=y):=hy
    clear hcs e0 hy
    obtain ⟨c,hc⟩:∃c,bg x y=c:=⟨_,rfl⟩
    have hcH:Hid (bg x y=c):=hc
    have hcm:=jl x y wr
    rw[hc] at hcm
    have hcmH:Hid _:=hcm
    clear hcm hc
    cases hq:(c != 0)
    ·have hc0:c=0:=by simpa using hq
     have hne:Hid (bg a[k] b[k]=0):=by show bg _ _=0;rw[hxH.out,hyH.out,hcH.out,hc0]
     clear hc0
     go_wp2_with (go_at_call 129;(refine cM (show Calls _ _ _ _ _ from hcmH.out) ?_);rintro e w' ⟨rfl,rfl⟩)
     go_roundw
     case rel =>
      refine ⟨k+1,by omega,by omega,by go_num,?_,hgr⟩
      intro j hj hj2 hjk
      by_cases e:j=k
      ·subst e;exact hne
      ·exact hno j hj hj2 (by omega)
     case measure=>simp[intOf];omega
    ·have hfin:Hid (aB a b=c):=by
      have hc0:c≠0:=by simpa using hq
      show _=_
      rw[wA hlt hlt2 hno (by rw[hxH.out,hyH.out,hcH.out];exact hc0),hxH.out,hyH.out,hcH.out]
     go_wp2_with (go_at_call 129;(refine cM (show Calls _ _ _ _ _ from hcmH.out) ?_);rintro e w' ⟨rfl,rfl⟩)
     go_ret
     exact ⟨by rw[hfin.out];rfl,hgr⟩
   ·have hlt2z:(b.length:Int)≤(k:Int):=by omega
    have hfin:Hid (aB a b=1):=sJ hlt (by omega) hno
    go_wp2
    go_ret
    exact ⟨by rw[hfin.out];rfl,hgr⟩
  ·have hltz:¬(k:Int)<(a.length:Int):=by omega
   have hka:k=a.length:=by omega
   have hend:=vp (a:=a) (b:=b) (by omega) (fun j h1 h2 _=>hno j h1 h2 (by omega))
   by_cases hab:a.length<b.length
   ·have hfin:Hid (aB a b= -1):=by show _=_;rw[hend,if_pos hab]
    have habz:(a.length:Int)<(b.length:Int):=by omega
    clear hend hka
    go_wp2
    go_ret
    exact ⟨by rw[hfin.out];rfl,hgr⟩
   ·have hfin:Hid (aB a b=0):=by show _=_;rw[hend,if_neg hab]
    have habz:¬(a.length:Int)<(b.length:Int):=by omega
    clear hend hka
    go_wp2
    go_ret
    exact ⟨by rw[hfin.out];rfl,hgr⟩
theorem eW (a b:List Int) (A B:Option Addr) (ca cb:Nat) (w:World) (hal:a.length≤maxLen) (hra:ay w A a) (hrb:ay w B b) :
  Calls Tryz.prog 133 #[.slice A a.length ca,.slice B b.length cb] w fun e w'=>e= .returned (.int .i64 (aB a b))∧Gr w w':=by
 go_enter Tryz.func133,Tryz.ntmps133
 go_wp2_with fail
 refine (oA a b A B ca cb _ hal hra hrb).mono ?_
 rintro e w' ⟨rfl,hg⟩
 go_wp2
 go_ret
 exact ⟨rfl,hg⟩


structure Itm where
 p:Option Addr
 c:Nat
 r:List Int
 n:Int
def aI (x:Itm):List Value:=[.slice x.p x.r.length x.c,.int .i64 x.n]
theorem bB (x:Itm):(aI x).length=2:=rfl
theorem fp (x:Itm):∀u∈aI x,u.oneCell'=true:=by
 intro u hu
 simp[aI] at hu
 rcases hu with rfl|rfl<;>rfl
def dx (A:Option Addr) (n c:Nat):Prop:=Unit→(if A.isNone then c else 0)+(n-c)=0
theorem dx.z {A:Option Addr} {n c:Nat} (h:dx A n c):A=none→c=0:=fun e=>by
 subst e
 have h1:c+(n-c)=0:=h ()
 omega
theorem dx.cap {A:Option Addr} {n c:Nat} (h:dx A n c):n≤c:=by
 have:=h ()
 omega
theorem dx.mk {A:Option Addr} {n c:Nat} (h:A=none→c=0) (k:n≤c):dx A n c:=fun _=>by
 cases A with
 | none=>rw[h rfl] at k ⊢;simp;omega
 | some a=>simp;omega
structure Items (w:World) (A:Option Addr) (l:List Itm):Prop where
 row:ax aI 2 w A l
 each:∀x∈l,ay w x.p x.r∧x.r.length≤maxLen∧(x.p=none→x.c=0)
theorem Items.below {w w':World} {A:Option Addr} {l:List Itm} (h:Items w A l) (q:Below w.heap.size w w'):Items w' A l:=⟨h.row.below q,fun x hx=>⟨(h.each x hx).1.below q,(h.each x hx).2⟩⟩
theorem Items.gr {w w':World} {A:Option Addr} {l:List Itm} (h:Items w A l) (q:Gr w w'):Items w' A l:=h.below q.below
theorem Items.at {w:World} {A:Option Addr} {l:List Itm} (h:Items w A l) {k:Nat} (hk:k<l.length):∃b off,A=some ⟨b,off,none⟩∧b<w.heap.size∧∀j (hj:j<l.length),w.cell? ⟨b,off+j*2,none⟩=some (.slice l[j].p l[j].r.length l[j].c)∧w.cell? ⟨b,off+j*2+1,none⟩=some (.int .i64 l[j].n):=by
 obtain ⟨b,off,hA,hb,hc⟩:=h.row.at hk
 exact ⟨b,off,hA,hb,fun j hj=>⟨hc j hj 0 (by omega),hc j hj 1 (by omega)⟩⟩

abbrev Zit:=List Int×Int
def Itm.z (x:Itm):Zit:=(x.r,x.n)
def okZ (x:Zit):Bool:=okR x.1 && okW x.2 && decide (x.2≠0)
def jk (l:List Zit) (k:Nat):Bool:=decide (k=0) || decide (aB (l.getD (k-1) ([],0)).1 (l.getD k ([],0)).1<0)
def av (l:List Zit):Int:=if 400<l.length then 2 else if ∃k,k<l.length∧(okZ (l.getD k ([],0)) && jk l k)=false then 5 else 0


theorem Tryz.infoT:(Tryz.prog.info? 101).map (fun i=>(i.zero,i.size,i.bytes))=some (some (.agg #[.slice none 0 0,.int .i64 0]),2,32):=by kernel_rfl

structure Apart (w:World) (base:Nat) (ob:Option Nat) (x:Itm):Prop where
 row:ay w x.p x.r
 len:x.r.length≤maxLen
 nil:x.p=none→x.c=0
 own:∀a,x.p=some a→base≤a.block∧a.block<w.heap.size∧ob≠some a.block
structure OwnT (w:World) (base:Nat) (v:Value) (l:List Itm):Prop where
 own:ai aI 2 101 w base v l
 each:∀x∈l,Apart w base v.ownBlock x
def iA (n:Nat) (C:Option Addr) (L:List Itm):Prop:=(∀a,C=some a→n≤a.block)∧∀x∈L,∀a,x.p=some a→n≤a.block
theorem iA.none (n:Nat):iA n none []:=⟨fun a h=>(by cases h),fun x hx=>(by cases hx)⟩
theorem iA.mono {n m:Nat} {C:Option Addr} {L:List Itm} (h:iA n C L) (hm:m≤n):iA m C L:=⟨fun a ha=>nT hm (h.1 a ha),fun x hx a ha=>nT hm (h.2 x hx a ha)⟩
def eH (w:World) (A:Option Addr) (c:Nat):Prop:=∀a,A=some a→a.off=0∧a.spot=none∧∃cur,w.heap[a.block]? = some (.cells cur 3 (0,0))∧c≤cur.size∧c≤maxLen
def fF (w:World) (A:Option Addr) (c:Nat):Prop:=∀a,A=some a→a.off=0∧a.spot=none∧∃cur,w.heap[a.block]? = some (.cells cur 101 (0,0))∧c*2≤cur.size∧c≤maxLen
def eI (w:World) (L:List Itm):Prop:=∀x∈L,eH w x.p x.c∧x.r.length≤x.c
theorem eH.lt {w:World} {A:Option Addr} {c:Nat} (h:eH w A c):∀a,A=some a→a.block<w.heap.size:=fun a ha=>by
 obtain ⟨_,_,cur,hc,_⟩:=h a ha
 exact (Array.getElem?_eq_some_iff.1 hc).1
theorem fF.lt {w:World} {A:Option Addr} {c:Nat} (h:fF w A c):∀a,A=some a→a.block<w.heap.size:=fun a ha=>by
 obtain ⟨_,_,cur,hc,_⟩:=h a ha
 exact (Array.getElem?_eq_some_iff.1 hc).1
theorem eH.block {w w':World} {A:Option Addr} {c:Nat} (h:eH w A c) (k:∀a,A=some a→w'.heap[a.block]? = w.heap[a.block]?):eH w' A c:=fun a ha=>by
 obtain ⟨h1,h2,cur,hc,h3⟩:=h a ha
 exact ⟨h1,h2,cur,(k a ha).trans hc,h3⟩
theorem fF.block {w w':World} {A:Option Addr} {c:Nat} (h:fF w A c) (k:∀a,A=some a→w'.heap[a.block]? = w.heap[a.block]?):fF w' A c:=fun a ha=>by
 obtain ⟨h1,h2,cur,hc,h3⟩:=h a ha
 exact ⟨h1,h2,cur,(k a ha).trans hc,h3⟩
theorem eH.below {w w':World} {A:Option Addr} {c:Nat} (h:eH w A c) (q:Below w.heap.size w w'):eH w' A c:=h.block fun a ha=>q.block _ (h.lt a ha)
theorem fF.below {w w':World} {A:Option Addr} {c:Nat} (h:fF w A c) (q:Below w.heap.size w w'):fF w' A c:=h.block fun a ha=>q.block _ (h.lt a ha)
theorem eI.below {w w':World} {L:List Itm} (h:eI w L) (q:Below w.heap.size w w'):eI w' L:=fun x hx=>⟨(h x hx).1.below q,(h x hx).2⟩
theorem eH.grown {w w':World} {A:Option Addr} {c:Nat} {row:Option Nat} (h:eH w A c) (q:w.grownBy w' row) (hne:∀g,row=some g→∃cur T,w.heap[g]? = some (.cells cur T (0,0))∧T≠3):eH w' A c:=h.block fun a ha=>q.block _ (h.lt a ha) fun e=>by
 obtain ⟨_,_,cur,hc,_⟩:=h a ha
 obtain ⟨cur',T,hc',hT⟩:=hne _ e.symm
 rw[hc] at hc'
 injection hc' with hc'
 injection hc' with _ h2
 exact hT h2.symm
theorem fF.grown {w w':World} {A:Option Addr} {c:Nat} {row:Option Nat} (h:fF w A c) (q:w.grownBy w' row) (hne:∀g,row=some g→∃cur T,w.heap[g]? = some (.cells cur T (0,0))∧T≠101):fF w' A c:=h.block fun a ha=>q.block _ (h.lt a ha) fun e=>by
 obtain ⟨_,_,cur,hc,_⟩:=h a ha
 obtain ⟨cur',T,hc',hT⟩:=hne _ e.symm
 rw[hc] at hc'
 injection hc' with hc'
 injection hc' with _ h2
 exact hT h2.symm
theorem eI.grown {w w':World} {L:List Itm} {row:Option Nat} (h:eI w L) (q:w.grownBy w' row) (hne:∀g,row=some g→∃cur T,w.heap[g]? = some (.cells cur T (0,0))∧T≠3):eI w' L:=fun x hx=>⟨(h x hx).1.grown q hne,(h x hx).2⟩
theorem ai.typed {α : Type} {enc: α → List Value} {k:Nat} {e:TypeId} {w:World} {base:Nat} {v:Value} {l:List α} (h:ai enc k e w base v l) {E:TypeId} (hE:e≠E):∀g,v.ownBlock=some g→∃cur T,w.heap[g]? = some (.cells cur T (0,0))∧T≠E:=by
 intro g hg
 rcases h.2 with ⟨hv,_⟩|⟨g',cap,cur,hv,_,hc,_⟩
 ·rw[hv] at hg;cases hg
 ·rw[hv] at hg
  obtain rfl:=sI hg
  exact ⟨cur,e,hc,hE⟩
theorem ai.roomA {w:World} {base:Nat} {A:Option Addr} {n cap:Nat} {l:List Itm} (h:ai aI 2 101 w base (.slice A n cap) l):fF w A cap:=by
 intro a ha
 rcases h.2 with ⟨hv,_⟩|⟨g',cap',cur,hv,_,hc,_,hm,hs,_⟩
 ·rw[ha] at hv;injection hv with h1;cases h1
 ·rw[ha] at hv
  injection hv with h1 _ h3
  injection h1 with h1
  subst h1 h3
  exact ⟨rfl,rfl,cur,hc,by omega,hm⟩
theorem ai.roomI {w:World} {base:Nat} {A:Option Addr} {n cap:Nat} {l:List Int} (h:ai fK 1 3 w base (.slice A n cap) l):eH w A cap:=by
 intro a ha
 rcases h.2 with ⟨hv,_⟩|⟨g',cap',cur,hv,_,hc,_,hm,hs,_⟩
 ·rw[ha] at hv;injection hv with h1;cases h1
 ·rw[ha] at hv
  injection hv with h1 _ h3
  injection h1 with h1
  subst h1 h3
  exact ⟨rfl,rfl,cur,hc,by omega,hm⟩
structure NwT (w:World) (k n:Nat) (C:Option Addr) (L:List Itm):Prop where
 new:iA n C L
 arr:fF w C k
 rows:eI w L
theorem NwT.none (w:World) (n:Nat):NwT w 0 n none []:=⟨iA.none n,fun a h=>(by cases h),fun x hx=>(by cases hx)⟩
theorem NwT.mono {w:World} {k n m:Nat} {C:Option Addr} {L:List Itm} (h:NwT w k n C L) (hm:m≤n):NwT w k m C L:=⟨h.new.mono hm,h.arr,h.rows⟩
theorem NwT.below {w w':World} {k n:Nat} {C:Option Addr} {L:List Itm} (h:NwT w k n C L) (q:Below w.heap.size w w'):NwT w' k n C L:=⟨h.new,h.arr.below q,h.rows.below q⟩
theorem OwnT.nil (w:World) (base:Nat):OwnT w base (.slice none 0 0) []:=⟨ai.nil _ _ _ _ _,fun x hx=>by cases hx⟩
theorem Apart.below {w w':World} {base:Nat} {ob:Option Nat} {x:Itm} (h:Apart w base ob x) (q:Below w.heap.size w w'):Apart w' base ob x :=
 ⟨h.row.below q,h.len,h.nil,fun a ha=>⟨(h.own a ha).1,nL (h.own a ha).2.1 q.size,(h.own a ha).2.2⟩⟩
theorem OwnT.below {w w':World} {base:Nat} {v:Value} {l:List Itm} (h:OwnT w base v l) (q:Below w.heap.size w w'):OwnT w' base v l:=⟨h.own.below q,fun x hx=>(h.each x hx).below q⟩
theorem OwnT.gr {w w':World} {base:Nat} {v:Value} {l:List Itm} (h:OwnT w base v l) (q:Gr w w'):OwnT w' base v l:=h.below q.below
theorem OwnT.items {w:World} {base:Nat} {v:Value} {l:List Itm} (h:OwnT w base v l):∃A cap,v= .slice A l.length cap∧dx A l.length cap∧Items w A l∧(∀a,A=some a→base≤a.block∧a.block<w.heap.size):=by
 obtain ⟨A,cap,hv,hA,hr,hc,ha,_⟩:=ai.full bB h.own
 exact ⟨A,cap,hv,dx.mk hA hc,⟨hr,fun x hx=>⟨(h.each x hx).row,(h.each x hx).len,(h.each x hx).nil⟩⟩,fun a e=>⟨(ha a e).1,(ha a e).2.1⟩⟩
theorem Apart.grown {w w':World} {base:Nat} {ob ob':Option Nat} {x:Itm} (h:Apart w base ob x) (q:w.grownBy w' ob) (hob:ob'=ob∨ob'=some w.heap.size):Apart w' base ob' x:=by
 refine ⟨?_,h.len,h.nil,fun a ha=>⟨(h.own a ha).1,nL (h.own a ha).2.1 q.size,?_⟩⟩
 ·rcases h.row with k|⟨b,off,hp,hb,hc⟩
  ·exact oL k
  ·refine oR ⟨b,off,hp,nL hb q.size,fun j hj i hi=> ?_⟩
   have hne:=(h.own _ hp).2.2
   rw[World.cell?_of_block (a:=⟨b,off+j*1+i,none⟩) (q.block b hb fun e=>hne e.symm)]
   exact hc j hj i hi
 ·rcases hob with e|e
  ·rw[e];exact (h.own a ha).2.2
  ·rw[e]
   intro k
   injection k with k
   have:=(h.own a ha).2.1
   omega
theorem fT (w:World) (ty:TypeId) (base:Nat) (v:Value) (l:List Itm) (x:Itm) (A:Addr) (cap:Nat) (hown:OwnT w base v l) (hr:ax aI 2 w (some A) [x]) (hx:Apart w base v.ownBlock x)
  (hml:l.length+1≤maxLen) (hb:(l.length+1)*32≤140737488355328) (hbase:base≤w.heap.size) :
  ∃v' w',(Builtin.append_ #[58,58] ty #[v,.slice (some A) 1 cap]).run Tryz.prog w= .ok v' w'∧OwnT w' base v' (l++[x])∧Below base w w'∧w.grownBy w' v.ownBlock:=by
 obtain ⟨i0,hi,hz0,hz1,hz2⟩:=info_parts Tryz.infoT
 obtain ⟨v',w',g1,g2,g3,_,g5⟩:=run_append_own_at (P:=Tryz.prog) w base 58 ty 101 i0 (.agg #[.slice none 0 0,.int .i64 0]) 2 32 Tryz.underlying58 hi hz0 hz1 hz2 rfl (by omega) v l.length (aM aI l) hown.own A 1 cap (aM aI [x]) (br bB [x]) (hr.cells bB (by omega)) (fun u hu=>dH fp u [x] hu) hml hb hbase
 refine ⟨v',w',g1,⟨?_,fun y hy=> ?_⟩,ai.grown_below hown.own g3 hbase,g3⟩
 ·show w'.ownsRow base _ 2 v' (l++[x]).length (aM aI (l++[x]))
  rw[List.length_append,co]
  exact g2
 ·rcases List.mem_append.1 hy with k|k
  ·exact (hown.each y k).grown g3 g5
  ·have:y=x:=by simpa using k
   subst this
   exact hx.grown g3 g5
theorem eF (w:World) {ops:Array Oper} {rest:List Oper} {o:Oper} {a:Act} {Q:Exit→Act→World→Prop} (hgd:o.guard=none) (s z:Operand)
  (ho:o.op= .call { callee:= .builtin .append,args:= #[s,z],argTypes:= #[58,58] })
  (base:Nat) (v:Value) (l:List Itm) (x:Itm) (A:Addr) (cap:Nat) (hs:a.eval s=v) (hz:a.eval z= .slice (some A) 1 cap) (hown:OwnT w base v l) (hr:ax aI 2 w (some A) [x]) (hx:Apart w base v.ownBlock x)
  (hml:l.length+1≤maxLen) (hb:(l.length+1)*32≤140737488355328) (hbase:base≤w.heap.size)
  (h:∀v' w',OwnT w' base v' (l++[x])→Below base w w'→wpList Tryz.prog ops Q rest (a.put o.dst v') w'):wpList Tryz.prog ops Q (o::rest) a w :=
 wpList_plain hgd fun _ hK=>by
  obtain ⟨v',w',hr,h2,h3,_⟩:=fT w o.type base v l x A cap hown hr hx hml hb hbase
  unfold Oper.wp execOp
  simp only[ho,resolve,invoke,builtin,Sem.run_bind,Sem.run_pure,Result.andThen_ok,List.map_toArray,List.map_cons,List.map_nil,hs,hz,hr]
  exact hK _ _ (h v' w' h2 h3)
theorem jD (w:World) {ops:Array Oper} {rest:List Oper} {o:Oper} {a:Act} {Q:Exit→Act→World→Prop} (hgd:o.guard=none) (s z:Operand)
  (ho:o.op= .call { callee:= .builtin .append,args:= #[s,z],argTypes:= #[58,58] })
  (base:Nat) (v:Value) (l:List Itm) (x:Itm) (A:Addr) (cap:Nat) (hs:a.eval s=v) (hz:a.eval z= .slice (some A) 1 cap) (hown:OwnT w base v l) (hr:ax aI 2 w (some A) [x]) (hx:Apart w base v.ownBlock x)
  (hml:l.length+1≤maxLen) (hb:(l.length+1)*32≤140737488355328) (hbase:base≤w.heap.size)
  (h:∀v' w',OwnT w' base v' (l++[x])→Below base w w'→w.grownBy w' v.ownBlock→wpList Tryz.prog ops Q rest (a.put o.dst v') w'):wpList Tryz.prog ops Q (o::rest) a w :=
 wpList_plain hgd fun _ hK=>by
  obtain ⟨v',w',hr,h2,h3,h4⟩:=fT w o.type base v l x A cap hown hr hx hml hb hbase
  unfold Oper.wp execOp
  simp only[ho,resolve,invoke,builtin,Sem.run_bind,Sem.run_pure,Result.andThen_ok,List.map_toArray,List.map_cons,List.map_nil,hs,hz,hr]
  exact hK _ _ (h v' w' h2 h3 h4)
theorem iq (w:World) {ops:Array Oper} {o:Oper} {a:Act} {K:Act→World→Prop} {Q:Exit→Act→World→Prop} {E:Prop} (hgd:o.guard=none) (s z:Operand)
  (ho:o.op= .call { callee:= .builtin .append,args:= #[s,z],argTypes:= #[58,58] })
  (base:Nat) (v:Value) (l:List Itm) (x:Itm) (A:Addr) (cap:Nat) (hs:a.eval s=v) (hz:a.eval z= .slice (some A) 1 cap) (hown:OwnT w base v l) (hr:ax aI 2 w (some A) [x]) (hx:Apart w base v.ownBlock x)
  (hml:l.length+1≤maxLen) (hb:(l.length+1)*32≤140737488355328) (hbase:base≤w.heap.size)
  (h:∀v' w',OwnT w' base v' (l++[x])→Below base w w'→w.grownBy w' v.ownBlock→K (a.put o.dst v') w') :
  if Region.wanted o (yielded ops a.tmps)=true then Oper.wp Tryz.prog o a w K Q else E:=by
 have hw:Region.wanted o (yielded ops a.tmps)=true:=by simp[Region.wanted,hgd]
 rw[if_pos hw]
 obtain ⟨v',w',hr,h2,h3,h4⟩:=fT w o.type base v l x A cap hown hr hx hml hb hbase
 unfold Oper.wp execOp
 simp only[ho,resolve,invoke,builtin,Sem.run_bind,Sem.run_pure,Result.andThen_ok,List.map_toArray,List.map_cons,List.map_nil,hs,hz,hr]
 exact h v' w' h2 h3 h4

structure Lv (W:World) (A:Option Addr) (c:Nat) (l:List Itm):Prop where
 items:Items W A l
 nilc:dx A l.length c
 len:l.length≤maxLen
theorem Lv.nil {W:World} {A:Option Addr} {c:Nat} {l:List Itm} (h:Lv W A c l):A=none→c=0:=h.nilc.z
theorem Lv.below {W W':World} {A:Option Addr} {c:Nat} {l:List Itm} (h:Lv W A c l) (q:Below W.heap.size W W'):Lv W' A c l:=⟨h.items.below q,h.nilc,h.len⟩
theorem Lv.gr {W W':World} {A:Option Addr} {c:Nat} {l:List Itm} (h:Lv W A c l) (q:Gr W W'):Lv W' A c l:=h.below q.below

end Go.Proofs.YtckeonpnfankhaaGreatDoor
