import Derived.Test.YtkefkplnamkicabGreatDoorM02
set_option maxRecDepth 100000
set_option maxHeartbeats 8000000
open Go.Ending renaming returned → Z
open Go.IntKind renaming i64 → I
open Go.Obj renaming cells → H
open Go.Proofs.Tryz renaming prog → J
open Go.Value renaming int → V, slice → O, tuple → Y, agg → X, bool → U, pointer → R
namespace Go.Proofs.YtkefkplnamkicabGreatDoor
open Go.RowKit Go.Sort Go.Shelf Go.Lib

def m9 (x:Int×Int):List Value:=[V I x.1,V I x.2]

theorem ltD (x y:Int×Int):ltOf dY x y=br x y:=by
 unfold ltOf
 cases h:br x y
 ·have:=gL h
  simp;omega
 ·rw[gK h];simp

theorem j9 (x y:Int×Int):br x y=true↔x.1<y.1∨(x.1=y.1∧x.2<y.2):=by simp[br]
theorem kK (x y:Int×Int):br x y=false↔y.1<x.1∨(x.1=y.1∧y.2≤x.2):=by
 simp[br];omega

theorem Ad:SWO (ltOf dY) where
 irrefl x:=by rw[ltD];simp[br]
 trans x y z h1 h2:=by rw[ltD,j9] at *;omega
 ntrans x y z h1 h2:=by rw[ltD,kK] at *;omega

theorem Ae (x y:Int×Int) (h1:ltOf dY x y=false) (h2:ltOf dY y x=false):x=y:=by
 rw[ltD,kK] at *
 exact Prod.ext (by omega) (by omega)

def srt (l:List (Int×Int)):List (Int×Int):=l.mergeSort fun x y=> !ltOf dY y x

theorem eY (l:List (Int×Int)):(srt l).length=l.length:=by simp[srt]

theorem zZ (blk off size:Nat) (w:World):CmpLays J 63 #[] m9 2 dY blk off size w :=
 fun _ _ _ _ x y=>jQ x y _

theorem yu {w:World} {g off:Nat} {l:List (Int×Int)} (hc:∀j (h:j<l.length),w.cell? ⟨g,off+j*2,none⟩=some (V I l[j].1)∧w.cell? ⟨g,off+j*2+1,none⟩=some (V I l[j].2)) (hf:∀j,w.frozen? ⟨g,j,none⟩=false):HoldsK m9 2 w g off l.toArray:=by
 intro t ht
 rw[size_flatK] at ht
 rw[get_flatK _ _ _ t ht]
 simp only[List.size_toArray] at ht
 have hk:t / 2<l.length:=by omega
 refine ⟨?_,hf _⟩
 have e:l.toArray[t / 2]! = l[t / 2]:=by simp[hk]
 rw[e]
 have:=hc (t / 2) hk
 by_cases he:t % 2=0
 ·rw[he,show off+t=off+t / 2*2 from by omega,this.1];rfl
 ·rw[show t % 2=1 from by omega,show off+t=off+t / 2*2+1 from by omega,this.2];rfl

theorem Aa {w:World} {g off:Nat} {l:List (Int×Int)} (h:HoldsK m9 2 w g off l.toArray) (hg:g<w.heap.size):Row w (some ⟨g,off,none⟩) l:=by
 refine oR ⟨g,off,rfl,hg,fun j hj=> ?_⟩
 have h0:=(h (j*2) (by rw[size_flatK];simp;omega)).1
 have h1:=(h (j*2+1) (by rw[size_flatK];simp;omega)).1
 rw[get_flatK _ _ _ _ (by simp;omega)] at h0 h1
 rw[show j*2 / 2=j from by omega,show j*2 % 2=0 from by omega] at h0
 rw[show (j*2+1) / 2=j from by omega,show (j*2+1) % 2=1 from by omega] at h1
 have e:l.toArray[j]! = l[j]:=by simp[hj]
 rw[e] at h0 h1
 exact ⟨h0,h1⟩

theorem pY {w:World} {g n base:Nat} {os:Array Obj} {d:Array (Int×Int)} (hb:base≤g) (hs:base≤w.heap.size):Below base w (sortWorldK m9 2 w g 0 n d os):=by
 refine ⟨rfl,rfl,rfl,by simp[sortWorldK,grow,putRowK],fun k hk=> ?_⟩
 show ((putRowK m9 2 (Sort.ahead w n) g 0 d).heap++os)[k]? = _
 rw[Array.getElem?_append_left (by simp[putRowK];omega)]
 show ((Sort.ahead w n).heap.modify g _)[k]? = _
 rw[Array.getElem?_modify,if_neg (by omega)]
 rfl

theorem zB (g cap:Nat) (l:List (Int×Int)) (w:World) (hH:HoldsK m9 2 w g 0 l.toArray) (hg:g<w.heap.size) (hsz:l.length<4611686018427387904) :
  Calls J 129 #[O (some ⟨g,0,none⟩) l.length cap,.func (.func 63) #[] #[]] w fun e w'=>e= Z (Y #[])∧Row w' (some ⟨g,0,none⟩) (srt l)∧∀base,base≤g→base≤w.heap.size→Below base w w':=by
 have eg:∀args w,(callFunc 63 args).run J w= .ok (.enter 63 args) w:=enters_of Tryz.func63 (by kernel_rfl) rfl
 have hcon:=AnyQ.slices_SortFunc_total Tryz.sortDot 2 Tryz.isAgg83 Tryz.sizeOf83 m9 (fun _=>rfl) (fun x v hv=>by simp[m9] at hv;rcases hv with rfl|rfl<;>rfl) dY Ad 63 #[] g 0 cap l.toArray w eg (zZ g 0 _ w) hH hg (by simpa using hsz) Ae
 change Calls J 129 _ _ _ at hcon
 simp only[List.size_toArray] at hcon
 refine hcon.mono ?_
 rintro e w' ⟨he,n,os,hw⟩
 refine ⟨he,?_,fun base h1 h2=>by rw[hw];exact pY h1 h2⟩
 have hH':HoldsK m9 2 w' g 0 (srt l).toArray:=by
  rw[hw]
  refine holdsK_grow _ _ _ _ _ _ _ (by simp[putRowK];exact hg) ?_
  exact holdsK_putRowK _ _ _ _ _ l.toArray _ (holdsK_ahead _ _ _ _ _ _ _ hH) (by simp)
 refine Aa hH' ?_
 rw[hw]
 simp[sortWorldK,grow,putRowK]
 omega

theorem xF (base:Nat) (v:Value) (l:List (Int×Int)) (w:World) (hown:Own w base v l) (hb:base≤w.heap.size) (hsz:l.length<4611686018427387904) :
  Calls J 129 #[v,.func (.func 63) #[] #[]] w fun e w'=>e= Z (Y #[])∧(∃C cap,v= O C (srt l).length cap∧Row w' C (srt l))∧Below base w w':=by
 rcases hown.2 with ⟨hv,hn⟩|⟨g,cap,cur,hv,hbg,hg,_⟩
 ·obtain rfl:l=[]:=List.eq_nil_of_length_eq_zero hn
  have hcon:=AnyF.slices_SortFunc_none Tryz.sortDot none 0 (.func (.func 63) #[] #[]) w
  change Calls J 129 _ _ _ at hcon
  rw[hv]
  refine hcon.mono ?_
  rintro e w' ⟨he,rfl⟩
  exact ⟨he,⟨none,0,by simp[srt],oL (by simp[srt])⟩,bR _ _⟩
 ·have hlt:g<w.heap.size:=(Array.getElem?_eq_some_iff.1 hg).1
  have hc:=hown.cells (g:=g) (by rw[hv];rfl)
  have hH:HoldsK m9 2 w g 0 l.toArray:=by
   refine yu (fun j hj=> ?_) (fun j=> ?_)
   ·have e:=l7 l j hj
    have c0:=hc _ _ e.1
    have c1:=hc _ _ e.2
    rw[Addr.add_lit] at c0 c1
    exact ⟨c0,c1⟩
   ·have:=World.ownsRow.frozenAt (by rw[←hv];exact hown) (g:=g) (cap:=cap) j
    exact this
  rw[hv]
  refine (zB g cap l w hH hlt hsz).mono ?_
  rintro e w' ⟨he,hrow,hbel⟩
  exact ⟨he,⟨_,cap,by rw[eY],hrow⟩,hbel base hbg hb⟩

theorem lK (a b:List (Int×Int)) (A B:Option Addr) (ca cb:Nat) (w:World) (ha:Row w A a) (hb:Row w B b) (hA:A=none→ca=0) (hB:B=none→cb=0) (hal:a.length≤400) (hbl:b.length≤400) :
  Calls J 101 #[O A a.length ca,O B b.length cb] w fun e w'=>∃C cap,e= Z (O C (srt (a++b)).length cap)∧Row w' C (srt (a++b))∧Below w.heap.size w w':=by
 obtain ⟨i0,hi,hz0,hz1,hz2⟩:=info_parts Tryz.info83
 go_enter Tryz.func101,Tryz.ntmps101
 have hbd:(a.length+b.length)*16≤140737488355328:=by omega
 have hbd0:(([]:List (Int×Int)).length+a.length)*16≤140737488355328:=by simp;omega
 go_wp2_with (first|(at_make;refine wpList_make_own _ rfl _ (.tmp 10) 37 rfl w.heap.size 83 i0 _ 2 Tryz.underlying37 hi hz0 hz1 I I _ (a.length+b.length) rfl rfl (by omega) (by rw[hz2];omega) (by unfold maxLen;omega) (nR _) ?_;intro w1 hown1 hgr1)|(at_builtin;refine aF _ rfl (.tmp 12) (.tmp 13) rfl w.heap.size (O (some ⟨w.heap.size,0,none⟩) 0 (a.length+b.length)) [] a A ca rfl rfl hown1 (ha.below ((bR _ w).grown hgr1 (nR _) (fun k e=>by cases e))) hA hbd0 hgr1.size ?_;intro v2 w2 hown2 hgr2 _;simp only[List.nil_append] at hown2)|(at_builtin;refine aF _ rfl (.tmp 15) (.tmp 16) rfl w.heap.size v2 a b B cb rfl rfl hown2 (hb.below (((bR _ w).grown hgr1 (nR _) (fun k e=>by cases e)).trans (Own.grown_below (l:=[]) hown1 hgr2 hgr1.size))) hB hbd (nT hgr1.size hgr2.size) ?_;intro v3 w3 hown3 hgr3 _)|fail)
 have hb3:Below w.heap.size w w3:=(((bR _ w).grown hgr1 (nR _) (fun k e=>by cases e)).trans (Own.grown_below (l:=[]) hown1 hgr2 hgr1.size)).trans (hown2.grown_below hgr3 (nT hgr1.size hgr2.size))
 refine (xF w.heap.size v3 (a++b) w3 hown3 hb3.size (by rw[List.length_append];omega)).mono ?_
 rintro e w4 ⟨rfl,⟨C,cap,hv,hrow⟩,hbel⟩
 have hbel4:=hb3.trans hbel
 clear hown1 hgr1 hown2 hgr2 hown3 hgr3 hb3 hbel
 go_wp2
 go_ret
 exact ⟨C,cap,by rw[←hv];rfl,hrow,hbel4⟩

def aH:Ctx:=⟨0,0,0,0,[]⟩
def bM (l:List (Int×Int)):Int:=if 400<l.length then 2 else if lX l=true then 5 else 0
def dU (c:Ctx) (l:List (Int×Int)):Ctx:=au c (srt l) (srt l).length
def aA (l:List (Int×Int)):Ctx:=if bM l=0 then dU aH l else aH

theorem jx {l:List (Int×Int)} {x:Int×Int} (h:x∈srt l):x∈l:=by
 unfold srt at h
 exact (List.mergeSort_perm l _).mem_iff.1 h

theorem pg (l:List (Int×Int)) (A:Option Addr) (cap:Nat) (w:World) (hl:l.length≤maxLen) (hA:A=none→cap=0) (hr:Row w A l) :
  Calls J 107 #[O A l.length cap] w fun e w'=>∃C cp,e= Z (Y #[X #[V I (aA l).c0,V I (aA l).c1,V I (aA l).c2,V I (aA l).c3,O C (aA l).l.length cp],V I (bM l)])∧Row w' C (aA l).l∧(C=none→cp=0)∧(∀a,C=some a→w.heap.size≤a.block)∧Below w.heap.size w w':=by
 unfold maxLen at hl
 have hg0:=gR (w.alloc (H #[V I 0,V I 0,V I 0,V I 0,O none 0 0] 39))
 have r0:=ab hg0 (j:=0) rfl
 have r1:=ab hg0 (j:=1) rfl
 have r2:=ab hg0 (j:=2) rfl
 have r3:=ab hg0 (j:=3) rfl
 have r4:=ab hg0 (j:=4) rfl
 have rf:=fun j=>eC hg0 j
 by_cases h400:400<l.length
 ·have h400z:(400:Int)<(l.length:Int):=by omega
  have hfin:Hid (bM l=2∧aA l=aH):=by
   have:bM l=2:=by simp[bM,h400]
   exact ⟨this,by simp[aA,this]⟩
  go_enter Tryz.func107,Tryz.ntmps107
  go_wp2
  rw[hfin.out.1,hfin.out.2]
  exact bodyPost_ret (v:= Y #[X #[V I 0,V I 0,V I 0,V I 0,O none 0 0],V I 2]) (by simp[results,Tryz.results107,go_sem]) rfl ⟨none,0,rfl,oL rfl,fun _=>rfl,(fun a ha=>by cases ha),(bR _ _).alloc (nR _) _⟩
 ·have h400z:¬(400:Int)<(l.length:Int):=by omega
  clear r0 r1 r2 r3 r4 rf hg0
  go_enter Tryz.func107,Tryz.ntmps107
  go_wp2
  go_loopw [12] (fun i wr=>∃k:Nat,k≤l.length∧i= V I k∧Hid (∀j (h:j<l.length),j<k→al l[j]=true)∧Gr (w.alloc (H #[V I 0,V I 0,V I 0,V I 0,O none 0 0] 39)) wr) (fun i _=>l.length-(intOf i).toNat)
  case atStart=>exact ⟨0,nZ _,rfl,fun j _ hj=>absurd hj (Nat.not_lt_zero _),gR _⟩
  case round =>
   obtain ⟨k,hk,rfl,hno,hgr⟩:=hrel
   have r0:=ab hgr (j:=0) rfl
   have r1:=ab hgr (j:=1) rfl
   have r2:=ab hgr (j:=2) rfl
   have r3:=ab hgr (j:=3) rfl
   have r4:=ab hgr (j:=4) rfl
   have rf:=fun j=>eC hgr j
   by_cases hlt:k<l.length
   ·have hltz:(k:Int)<(l.length:Int):=by omega
    obtain ⟨b,off,rfl,hb,hcs⟩:=(hr.gr (cv hgr)).at hlt
    obtain ⟨x,y,hx⟩:∃x y,l[k]=(x,y):=⟨_,_,rfl⟩
    have e0:=(hcs k hlt).1
    have e1:=(hcs k hlt).2
    rw[hx] at e0 e1
    have hxH:Hid (l[k]=(x,y)):=hx
    clear hcs hx
    cases hq:al (x,y)
    ·have hfin:Hid (bM l=5∧aA l=aH):=by
      have:bM l=5:=by simp[bM,h400,wG hlt hxH.out hq]
      exact ⟨this,by simp[aA,this]⟩
     go_wp2_with (go_at_call 62;refine (gA hq _).mono ?_;rintro e w1 ⟨rfl,hg1⟩;have hgA:=(hgr.alloc (H #[V I x,V I y] 83)).trans hg1;have q0:=ab hgA (j:=0) rfl;have q1:=ab hgA (j:=1) rfl;have q2:=ab hgA (j:=2) rfl;have q3:=ab hgA (j:=3) rfl;have q4:=ab hgA (j:=4) rfl;have qf:=fun j=>eC hgA j)
     rw[hfin.out.1,hfin.out.2]
     exact bodyPost_ret (v:= Y #[X #[V I 0,V I 0,V I 0,V I 0,O none 0 0],V I 5]) (by simp[results,Tryz.results107,go_sem,q0,q1,q2,q3,q4]) rfl ⟨none,0,rfl,oL rfl,fun _=>rfl,(fun a ha=>by cases ha),((((((cv hgA).below.setCell (by simp) _).setCell (by simp) _).setCell (by simp) _).setCell (by simp) _).setCell (by simp) _)⟩
    ·go_wp2_with (go_at_call 62;refine (gA hq _).mono ?_;rintro e w1 ⟨rfl,hg1⟩)
     go_roundw
     case rel =>
      refine ⟨k+1,by omega,by go_num,?_,(hgr.alloc _).trans hg1⟩
      intro j hj hjk
      by_cases e:j=k
      ·subst e;rw[hxH.out];exact hq
      ·exact hno j hj (by omega)
     case measure=>simp[intOf];omega
   ·have hltz:¬(k:Int)<(l.length:Int):=by omega
    have hbad:lX l=false:=oq fun j hj=>hno j hj (by omega)
    have hfin:Hid (bM l=0∧aA l=dU aH l):=by
     have:bM l=0:=by simp[bM,h400,hbad]
     exact ⟨this,by simp[aA,this]⟩
    have hall:Hid (∀x∈srt l,al x=true):=fun x hx=>tY hbad x (jx hx)
    clear hbad r0 r1 r2 r3 r4 rf
    have hris:=lK l [] A none cap 0 wr (hr.gr (cv hgr)) (oL rfl) hA (fun _=>rfl) (by omega) (by simp)
    simp only[List.length_nil,List.append_nil] at hris
    have hrisH:Hid _:=hris
    clear hris
    go_wp2_with fail
    refine cM (show Calls _ _ _ _ _ from hrisH.out) ?_
    rintro e w1 ⟨C1,cp1,rfl,hrow1,hb1⟩
    clear hrisH
    have hfold:=oP aH (srt l) C1 cp1 w1 rfl (by decide) (by rw[eY];omega) hall.out hrow1
    change Calls J 100 #[X #[V I 0,V I 0,V I 0,V I 0],O C1 (srt l).length cp1] w1 _ at hfold
    have hfoldH:Hid _:=hfold
    clear hfold
    go_wp2_with fail
    refine cM (show Calls _ _ _ _ _ from hfoldH.out) ?_
    rintro e w2 ⟨C2,cp2,rfl,hrow2,hC2,hCb,hb2⟩
    clear hfoldH
    obtain ⟨F,hF⟩:∃F,au aH (srt l) (srt l).length=F:=⟨_,rfl⟩
    rw[hF] at hrow2 ⊢
    have HF:Hid (dU aH l=F):=hF
    clear hF
    have hsz:=hgr.size
    simp only[World.size_alloc] at hsz
    have hb2':Below (w.heap.size+1) wr w2:=(hb1.mono (by omega)).trans (hb2.mono (by have:=hb1.size;omega))
    have s0:=(hb2'.cell (p:=⟨w.heap.size,0,none⟩) (by simp)).trans (ab hgr (j:=0) rfl)
    have s1:=(hb2'.cell (p:=⟨w.heap.size,1,none⟩) (by simp)).trans (ab hgr (j:=1) rfl)
    have s2:=(hb2'.cell (p:=⟨w.heap.size,2,none⟩) (by simp)).trans (ab hgr (j:=2) rfl)
    have s3:=(hb2'.cell (p:=⟨w.heap.size,3,none⟩) (by simp)).trans (ab hgr (j:=3) rfl)
    have s4:=(hb2'.cell (p:=⟨w.heap.size,4,none⟩) (by simp)).trans (ab hgr (j:=4) rfl)
    have sf:∀j,w2.frozen? ⟨w.heap.size,j,none⟩=false:=fun j=>(hb2'.frozen (p:=⟨w.heap.size,j,none⟩) (by simp)).trans (eC hgr j)
    have hbw:Hid (Below w.heap.size w w2):=(cv hgr).below.trans (hb2'.mono (by omega))
    have hCn:∀a,C2=some a→a.block≠w.heap.size:=fun a ha=>by have:=hCb a ha;have:=hb1.size;omega
    have hw1:w.heap.size≤w1.heap.size:=by have:=hb1.size;omega
    clear hb2' hb1 hb2
    go_wp2
    rw[hfin.out.1,hfin.out.2,HF.out]
    refine bodyPost_ret (v:= Y #[X #[V I F.c0,V I F.c1,V I F.c2,V I F.c3,O C2 F.l.length cp2],V I 0]) (by simp[results,Tryz.results107,go_sem,s0,s1,s2,s3,s4]) rfl ⟨C2,cp2,rfl,?_,hC2,fun a ha=>nT (by omega) (hCb a ha),?_⟩
    ·exact ((((hrow2.setCell _ hCn).setCell _ hCn).setCell _ hCn).setCell _ hCn).setCell _ hCn
    ·exact ((((hbw.out.setCell (nR _) _).setCell (nR _) _).setCell (nR _) _).setCell (nR _) _).setCell (nR _) _

def aq (p:Cel→Bool) (l:List Cel):List (Int×Int):=(l.filter p).map (·.1)

def cI (key col:Int) (x:Cel):Bool:=decide (x.2.1=key) && decide (x.2.2.1=col)
def dP (key:Int) (x:Cel):Bool:=decide (x.2.1=key)

theorem uG (key col:Int) (p q:Nat) (x:Cel) (w:World) (hp:p<w.heap.size) (hq:q<w.heap.size) (kp:w.cell? ⟨p,0,none⟩=some (V I key)) (kq:w.cell? ⟨q,0,none⟩=some (V I col)) :
  Calls J 106 #[X #[V I x.1.1,V I x.1.2,V I x.2.1,V I x.2.2.1,V I x.2.2.2],R (some ⟨p,0,none⟩),R (some ⟨q,0,none⟩)] w fun e w'=>e= Z (U (cI key col x))∧Gr w w':=by
 by_cases h1:x.2.1=key
 ·by_cases h2:x.2.2.1=col
  ·have e:cI key col x=true:=by simp[cI,h1,h2]
   rw[e];clear e
   go_enter Tryz.func106,Tryz.ntmps106
   go_wp2
   go_ret
   exact ⟨rfl,(gR _).alloc _⟩
  ·have e:cI key col x=false:=by simp[cI,h2]
   rw[e];clear e
   go_enter Tryz.func106,Tryz.ntmps106
   go_wp2
   go_ret
   exact ⟨by simpa using h2,(gR _).alloc _⟩
 ·have e:cI key col x=false:=by simp[cI,h1]
  rw[e];clear e
  go_enter Tryz.func106,Tryz.ntmps106
  go_wp2
  go_ret
  exact ⟨rfl,(gR _).alloc _⟩

theorem oJ (key:Int) (p:Nat) (x:Cel) (w:World) (hp:p<w.heap.size) (kp:w.cell? ⟨p,0,none⟩=some (V I key)) :
  Calls J 108 #[X #[V I x.1.1,V I x.1.2,V I x.2.1,V I x.2.2.1,V I x.2.2.2],R (some ⟨p,0,none⟩)] w fun e w'=>e= Z (U (dP key x))∧Gr w w':=by
 by_cases h1:x.2.1=key
 ·have e:dP key x=true:=by simp[dP,h1]
  rw[e];clear e
  go_enter Tryz.func108,Tryz.ntmps108
  go_wp2
  go_ret
  exact ⟨by simp[h1],(gR _).alloc _⟩
 ·have e:dP key x=false:=by simp[dP,h1]
  rw[e];clear e
  go_enter Tryz.func108,Tryz.ntmps108
  go_wp2
  go_ret
  exact ⟨by simpa using h1,(gR _).alloc _⟩

def rn (g:Nat) (lb:Array Value) (p:Cel→Bool) (w:World):Prop:=∀W,Gr w W→∀x:Cel,Calls J g (#[X #[V I x.1.1,V I x.1.2,V I x.2.1,V I x.2.2.1,V I x.2.2.2]]++lb) W fun e w'=>e= Z (U (p x))∧Gr W w'

theorem zu (key:Int) (p:Nat) (w:World) (hp:p<w.heap.size) (kp:w.cell? ⟨p,0,none⟩=some (V I key)):rn 108 #[R (some ⟨p,0,none⟩)] (dP key) w :=
 fun W hg x=>oJ key p x W (nL hp hg.size) ((hg.cell (p:=⟨p,0,none⟩) hp).trans kp)

theorem lh (p:Cel→Bool) (g:Nat) (lb:Array Value) (hfn:∀args w,(callFunc g args).run J w= .ok (.enter g args) w) (l:List Cel) (A:Option Addr) (cap:Nat) (w:World) (hl:l.length≤maxLen) (hr:bA w A l) (hp:rn g lb p w) :
  Calls J 128 #[O A l.length cap,.func (.func g) #[] lb] w fun e w'=>∃r:Int,e= Z (V I r)∧Hid (decide (0≤r)=l.any p)∧Gr w w':=by
 unfold maxLen at hl
 go_enter Tryz.func128,Tryz.ntmps128
 go_wp2
 go_loopw [8] (fun i wr=>∃k:Nat,k≤l.length∧i= V I k∧Hid (∀j (h:j<l.length),j<k→p l[j]=false)∧Gr w wr) (fun i _=>l.length-(intOf i).toNat)
 case atStart=>exact ⟨0,nZ _,rfl,fun j _ hj=>absurd hj (Nat.not_lt_zero _),gR _⟩
 case round =>
  obtain ⟨k,hk,rfl,hno,hgr⟩:=hrel
  by_cases hlt:k<l.length
  ·have hltz:(k:Int)<(l.length:Int):=by omega
   obtain ⟨bb,off,rfl,hb,hcs⟩:=bA.get (hr.gr hgr) hlt
   obtain ⟨x,hx⟩:∃x,l[k]=x:=⟨_,rfl⟩
   obtain ⟨e0,e1,e2,e3,e4⟩:=hcs k hlt
   rw[hx] at e0 e1 e2 e3 e4
   have hxH:Hid (l[k]=x):=hx
   clear hcs hx
   have hcall:=hp wr hgr x
   have hcallH:Hid _:=hcall
   clear hcall
   go_wp2
   refine cM (show Calls _ _ _ _ _ from hcallH.out) ?_
   rintro e w2 ⟨rfl,hg2⟩
   clear hcallH
   cases hq:p x
   ·go_wp2
    go_roundw
    case rel =>
     refine ⟨k+1,by omega,by go_num,?_,hgr.trans hg2⟩
     intro j hj hjk
     by_cases e:j=k
     ·subst e;rw[hxH.out];exact hq
     ·exact hno j hj (by omega)
    case measure=>simp[intOf];omega
   ·have hfin:Hid (decide ((0:Int)≤(k:Int))=l.any p):=by
     have:l.any p=true:=by
      rw[List.any_eq_true]
      exact ⟨l[k],gM hlt,by rw[hxH.out,hq]⟩
     show decide _=_
     rw[this];simp
    go_wp2
    go_ret
    exact ⟨_,rfl,hfin,hgr.trans hg2⟩
  ·have hltz:¬(k:Int)<(l.length:Int):=by omega
   have hfin:Hid (decide ((0:Int)≤ -1)=l.any p):=by
    have:l.any p=false:=by
     rw[List.any_eq_false]
     intro x hx
     obtain ⟨j,hj,rfl⟩:=List.getElem_of_mem hx
     rw[hno j hj (by omega)];simp
    show decide _=_
    rw[this];simp
   go_wp2
   go_ret
   exact ⟨_,rfl,hfin,hgr⟩

theorem ff (p:Cel→Bool) (g:Nat) (lb:Array Value) (hfn:∀args w,(callFunc g args).run J w= .ok (.enter g args) w) (l:List Cel) (A:Option Addr) (cap:Nat) (w:World) (hl:l.length≤maxLen) (hr:bA w A l) (hp:rn g lb p w) :
  Calls J 96 #[O A l.length cap,.func (.func g) #[] lb] w fun e w'=>e= Z (U (l.any p))∧Gr w w':=by
 go_enter Tryz.func96,Tryz.ntmps96
 go_wp2_with fail
 refine (lh p g lb hfn l A cap _ hl hr hp).mono ?_
 rintro e w' ⟨r,rfl,hrr,hg⟩
 go_wp2
 go_ret
 exact ⟨by rw[←hrr.out];rfl,hg⟩

theorem k7 {p:Cel→Bool} {l:List Cel} {k:Nat} (h:k<l.length) {x:Cel} (hx:l[k]=x):aq p (l.take (k+1))=aq p (l.take k)++(if p x then [x.1] else []):=by
 unfold aq
 rw[List.take_succ_eq_append_getElem h,List.filter_append,List.map_append,hx]
 cases hq:p x<;>simp[hq]
theorem dH (p:Cel→Bool) (l:List Cel):(aq p l).length≤l.length:=by
 unfold aq
 rw[List.length_map]
 exact List.length_filter_le _ _

theorem iw (p:Cel→Bool) (g:Nat) (lb:Array Value) (hfn:∀args w,(callFunc g args).run J w= .ok (.enter g args) w) (l:List Cel) (A:Option Addr) (cap:Nat) (w:World) (hl:l.length≤400) (hr:bA w A l) (hp:∀W,Below w.heap.size w W→∀x:Cel,Calls J g (#[X #[V I x.1.1,V I x.1.2,V I x.2.1,V I x.2.2.1,V I x.2.2.2]]++lb) W fun e w'=>e= Z (U (p x))∧Gr W w') :
  Calls J 105 #[O A l.length cap,.func (.func g) #[] lb] w fun e w'=>∃C cp,e= Z (Y #[X #[V I (aA (aq p l)).c0,V I (aA (aq p l)).c1,V I (aA (aq p l)).c2,V I (aA (aq p l)).c3,O C (aA (aq p l)).l.length cp],V I (bM (aq p l))])∧Row w' C (aA (aq p l)).l∧(C=none→cp=0)∧(∀a,C=some a→w.heap.size≤a.block)∧Below w.heap.size w w':=by
 have hz0:ZAt (w.alloc (H #[V I 0,V I 0,V I 0,V I 0,O none 0 0] 39)) w.heap.size:=ZAt.new w 39 rfl
 have hbw0:Hid (Below w.heap.size w (w.alloc (H #[V I 0,V I 0,V I 0,V I 0,O none 0 0] 39))):=((gR w).alloc _).below
 have hsz0:(w.alloc (H #[V I 0,V I 0,V I 0,V I 0,O none 0 0] 39)).heap.size=w.heap.size+1:=by simp
 go_enter Tryz.func105,Tryz.ntmps105
 go_wp2
 generalize w.alloc (H #[V I 0,V I 0,V I 0,V I 0,O none 0 0] 39)=w0 at hz0 hbw0 hsz0 ⊢
 have hszH:Hid (w0.heap.size=w.heap.size+1):=hsz0
 clear hsz0
 go_loopw [6,11] (fun v i wr=>∃k:Nat,k≤l.length∧i= V I k∧Own wr (w.heap.size+1) v (aq p (l.take k))∧Below (w.heap.size+1) w0 wr) (fun _ i _=>l.length-(intOf i).toNat)
 case atStart=>exact ⟨0,by omega,rfl,Own.nil _ _,bR _ _⟩
 case round =>
  obtain ⟨k,hk,rfl,hov,hbel⟩:=hrel
  obtain ⟨A1,cap1,rfl,hA1,hrow1,hlt1⟩:=hov.row
  have hsR:w.heap.size+1≤wr.heap.size:=by have:=hbel.size;have:=hszH.out;omega
  have hbwR:Below w.heap.size w wr:=hbw0.out.trans (hbel.mono (by omega))
  by_cases hlt:k<l.length
  ·have hltz:(k:Int)<(l.length:Int):=by omega
   obtain ⟨bb,off,rfl,hb,hcs⟩:=bA.get (hr.below hbwR) hlt
   obtain ⟨x,hx⟩:∃x,l[k]=x:=⟨_,rfl⟩
   obtain ⟨e0,e1,e2,e3,e4⟩:=hcs k hlt
   rw[hx] at e0 e1 e2 e3 e4
   have hst:=k7 (p:=p) hlt hx
   clear hcs hx
   have hgX:Gr wr (wr.alloc (H #[V I x.1.1,V I x.1.2,V I x.2.1,V I x.2.2.1,V I x.2.2.2] 85)):=(gR _).alloc _
   have hxX:=CelAt.new (w:=wr) x 85 rfl
   have hcall:=hp (wr.alloc (H #[V I x.1.1,V I x.1.2,V I x.2.1,V I x.2.2.1,V I x.2.2.2] 85)) (hbwR.trans (hgX.below.mono (by omega))) x
   have hcallH:Hid _:=hcall
   clear hcall
   obtain ⟨M,HM⟩:∃M,aq p (l.take k)=M:=⟨_,rfl⟩
   have hMl:M.length≤400:=by rw[←HM];exact nT (dH _ _) (by rw[List.length_take];omega)
   rw[HM] at hov hst hrow1 ⊢
   clear HM
   obtain ⟨x0,x1,x2,x3,x4,xlt⟩:=(show CelAt _ _ _ from hxX)
   have hovH:Hid (Own wr (w.heap.size+1) (O A1 M.length cap1) M):=hov
   have hbelH:Hid (Below (w.heap.size+1) w0 wr):=hbel
   clear hov hbel hrow1
   go_wp2
   refine cM (show Calls _ _ _ _ _ from hcallH.out) ?_
   rintro e w2 ⟨rfl,hg2⟩
   clear hcallH x0 x1 x2 x3 x4
   have hg02:Gr wr w2:=hgX.trans hg2
   obtain ⟨x0,x1,x2,x3,x4,xlt2⟩:=(show CelAt _ _ _ from hxX.gr hg2)
   cases hq:p x
   ·have hst2:Hid (aq p (l.take (k+1))=M):=by show _=_;rw[hst,hq];simp
    clear hst
    go_wp2
    go_roundw
    case rel=>exact ⟨k+1,by omega,by go_num,by rw[hst2.out];exact hovH.out.gr hg02,hbelH.out.trans (hg02.below.mono (by omega))⟩
    case measure=>simp[intOf];omega
   ·have hst2:Hid (aq p (l.take (k+1))=M++[x.1]):=by show _=_;rw[hst,hq];simp
    have hbd:Hid ((M.length+[x.1].length)*16≤140737488355328):=by show _≤_;simp only[List.length_cons,List.length_nil];omega
    clear hst
    go_wp2_with (at_builtin;refine aF _ rfl _ _ rfl (w.heap.size+1) (O A1 M.length cap1) M [x.1] (some ⟨w2.heap.size,0,none⟩) 1 rfl rfl ?ho ?hr (fun h=>by cases h) hbd.out ?hs ?_)
    case ho=>exact hovH.out.gr (hg02.alloc _)
    case hr=>exact gQ rfl x.1.1 x.1.2 _
    case hs=>have:=(hg02.alloc (H #[V I x.1.1,V I x.1.2] 83)).size;simp at this ⊢;omega
    intro v1 w3 hown1 hgr1 hat1
    have hb3:Hid (Below (w.heap.size+1) w0 w3):=hbelH.out.trans (((hg02.alloc _).below.mono (by omega)).trans (Own.grown_below (hovH.out.gr (hg02.alloc _)) hgr1 (by have:=(hg02.alloc (H #[V I x.1.1,V I x.1.2] 83)).size;simp at this ⊢;omega)))
    have hownH:Hid (Own w3 (w.heap.size+1) v1 (M++[x.1])):=hown1
    clear hown1 hgr1 hat1
    go_wp2
    go_roundw
    case rel=>exact ⟨k+1,by omega,by go_num,by rw[hst2.out];exact hownH.out,hb3.out⟩
    case measure=>simp[intOf];omega
  ·have hltz:¬(k:Int)<(l.length:Int):=by omega
   have hke:l.take k=l:=List.take_of_length_le (by omega)
   rw[hke] at hov hrow1 ⊢
   obtain ⟨M,HM⟩:∃M,aq p l=M:=⟨_,rfl⟩
   have hMl:M.length≤400:=by rw[←HM];exact nT (dH _ _) hl
   rw[HM] at hov hrow1 ⊢
   have HMH:Hid (aq p l=M):=HM
   clear HM hke
   have hmk:=pg M A1 cap1 wr (by unfold maxLen;omega) hA1 hrow1
   have hmkH:Hid _:=hmk
   have hzR:=(hz0.below (hbel.mono (by have:=hszH.out;omega)))
   clear hmk hov
   go_wp2_with fail
   refine cM (show Calls _ _ _ _ _ from hmkH.out) ?_
   rintro e w2 ⟨C,cp,rfl,hrow2,hC,hCb,hb2⟩
   clear hmkH
   obtain ⟨z0,z1,z2,z3,z4,zf,zlt⟩:=(show ZAt _ _ from hzR.below hb2)
   have hCn:∀a,C=some a→a.block≠w.heap.size:=fun a ha=>by have:=hCb a ha;omega
   have hbw2:Hid (Below w.heap.size w w2):=hbwR.trans (hb2.mono (by omega))
   obtain ⟨F,hF⟩:∃F,aA M=F:=⟨_,rfl⟩
   rw[hF] at hrow2 ⊢
   have HF:Hid (aA M=F):=hF
   clear hF
   go_wp2
   rw[HMH.out,HF.out]
   refine bodyPost_ret (v:= Y #[X #[V I F.c0,V I F.c1,V I F.c2,V I F.c3,O C F.l.length cp],V I (bM M)]) (by simp[results,Tryz.results105,go_sem,z0,z1,z2,z3,z4]) rfl ⟨C,cp,rfl,?_,hC,fun a ha=>nT (by omega) (hCb a ha),?_⟩
   ·exact ((((hrow2.setCell _ hCn).setCell _ hCn).setCell _ hCn).setCell _ hCn).setCell _ hCn
   ·exact aZ hbw2.out (nR _) _ _ _ _ _


def eM (x:Int):List Value:=[V I x]
theorem bP (x:Int):(eM x).length=1:=rfl
theorem ux (x:Int):∀u∈eM x,u.oneCell'=true:=by
 intro u hu
 simp[eM] at hu
 rw[hu];rfl
abbrev ar (w:World) (A:Option Addr) (l:List Int):Prop:=ay eM 1 w A l
abbrev ed (w:World) (base:Nat) (v:Value) (l:List Int):Prop:=ai eM 1 3 w base v l

theorem gy (d:Array Int):∀m,(compactUpTo d m).length≤m
 | 0=>by simp[compactUpTo]
 | m+1=>by
  have:=gy d m
  rw[compactUpTo_succ,List.length_append]
  split<;>simp<;>omega
theorem kQ (l:List Int):(compact l).length≤l.length:=gy _ _
def aX (l:List Int):List Int:=compact (l.mergeSort fun x y=>decide (x≤y))
theorem el (l:List Int):(aX l).length≤l.length:=by
 unfold aX
 refine nT (kQ _) ?_
 simp

theorem yv {w:World} {g:Nat} {l:List Int} (h:ar w (some ⟨g,0,none⟩) l) (hf:∀j,w.frozen? ⟨g,j,none⟩=false):Holds (Value.int I) w g 0 l.toArray:=by
 intro j hj
 have hj':j<l.length:=by simpa using hj
 obtain ⟨b,off,hA,hb,hc⟩:=h.at hj'
 obtain ⟨rfl,rfl⟩:g=b∧0=off:=by injection hA with hA;injection hA with h1 h2;exact ⟨h1,h2⟩
 refine ⟨?_,hf _⟩
 have:=hc j hj' 0 (by omega)
 have e:l.toArray[j]! = l[j]:=by simp[hj']
 rw[e]
 simpa[eM] using this
theorem xv {w:World} {g:Nat} {l m:List Int} (h:Holds (Value.int I) w g 0 (l++m).toArray) (hg:g<w.heap.size):ar w (some ⟨g,0,none⟩) l:=by
 refine oR ⟨g,0,rfl,hg,fun j hj i hi=> ?_⟩
 obtain rfl:i=0:=by omega
 have h0:=(h j (by simp;omega)).1
 have e:(l++m).toArray[j]! = l[j]:=by
  have h1:j<(l++m).length:=by rw[List.length_append];omega
  have h2:(l++m).toArray[j]! = (l++m)[j]:=by
   rw[getElem!_pos (l++m).toArray j (by simpa using h1)]
   rfl
  rw[h2,List.getElem_append_left hj]
 rw[e] at h0
 simpa[eM] using h0
theorem kL {w:World} {g n base:Nat} {d:Array Int} (hb:base≤g):Below base w (putRow (Value.int I) (Sort.ahead w n) g 0 d):=by
 refine ⟨rfl,rfl,rfl,by simp[putRow,mapBlock,Sort.ahead],fun k hk=> ?_⟩
 show ((Sort.ahead w n).heap.modify g _)[k]? = _
 rw[Array.getElem?_modify,if_neg (by omega)]
 rfl
theorem jU {w:World} {g n:Nat} {d:Array Int}:(putRow (Value.int I) (Sort.ahead w n) g 0 d).heap.size=w.heap.size:=by simp[putRow,mapBlock,Sort.ahead]

theorem zC (g cap:Nat) (l:List Int) (w:World) (hH:Holds (Value.int I) w g 0 l.toArray) (hg:g<w.heap.size) (hsz:l.length<4611686018427387904) :
  Calls J 42 #[O (some ⟨g,0,none⟩) l.length cap] w fun e w'=>e= Z (Y #[])∧Holds (Value.int I) w' g 0 (l.mergeSort fun x y=>decide (x≤y)).toArray∧g<w'.heap.size∧∀base,base≤g→Below base w w':=by
 have hcon:=Any.slices_Sort_int Tryz.sortInt g 0 cap l w hH hg hsz
 change Calls J 42 _ _ _ at hcon
 refine hcon.mono ?_
 rintro e w' ⟨he,n,os,hw⟩
 have hs:g<(putRow (Value.int I) (Sort.ahead w n) g 0 (l.mergeSort fun x y=>decide (x≤y)).toArray).heap.size:=by rw[jU];exact hg
 refine ⟨he,?_,?_,fun base hb=> ?_⟩
 ·rw[hw]
  exact holds_grow _ _ _ _ _ _ hs (holds_putRow _ _ _ _ l.toArray _ (holds_ahead _ _ _ _ _ _ hH) (by simp))
 ·rw[hw];simp only[grow,Array.size_append];omega
 ·rw[hw]
  refine (kL (n:=n) (d:=(l.mergeSort fun x y=>decide (x≤y)).toArray) hb).trans ?_
  have hgr:Gr (putRow (Value.int I) (Sort.ahead w n) g 0 (l.mergeSort fun x y=>decide (x≤y)).toArray) (grow (putRow (Value.int I) (Sort.ahead w n) g 0 (l.mergeSort fun x y=>decide (x≤y)).toArray) os):=⟨0,os,rfl⟩
  exact hgr.below.mono (by rw[jU];omega)

theorem tD (A:Option Addr) (cap:Nat) (w:World):Calls J 42 #[O A 0 cap] w fun e w'=>e= Z (Y #[])∧w'=w :=
 Any.slices_Sort_int_none Tryz.sortInt A cap w

theorem uo (g cap:Nat) (l:List Int) (w:World) (hH:Holds (Value.int I) w g 0 l.toArray) (hg:g<w.heap.size) (hsz:l.length≤9223372036854775807) (hcap:l.length≤cap) :
  Calls J 43 #[O (some ⟨g,0,none⟩) l.length cap] w fun e w'=>e= Z (O (some ⟨g,0,none⟩) (compact l).length cap)∧ar w' (some ⟨g,0,none⟩) (compact l)∧∀base,base≤g→Below base w w':=by
 have hcon:=Any.slices_Compact_int Tryz.compactInt g 0 cap l w hH hsz hcap
 change Calls J 43 _ _ _ at hcon
 refine hcon.mono ?_
 rintro e w' ⟨he,n,hw⟩
 refine ⟨he,?_,fun base hb=>by rw[hw];exact kL hb⟩
 rw[hw]
 refine xv (m:=List.replicate (l.length-(compact l).length) 0) (holds_putRow _ _ _ _ l.toArray _ (holds_ahead _ _ _ _ _ _ hH) ?_) (by rw[jU];exact hg)
 have:=kQ l
 simp
 omega
theorem nO (A:Option Addr) (cap:Nat) (w:World):Calls J 43 #[O A 0 cap] w fun e w'=>e= Z (O A 0 cap)∧w'=w :=
 Any.slices_Compact_int_empty Tryz.compactInt A cap w

theorem gO (l:List Int) (base:Nat) (v:Value) (w:World) (hown:ed w base v l) (hl:l.length<4611686018427387904) :
  Calls J 27 #[v] w fun e w'=>∃C cp,e= Z (O C (aX l).length cp)∧ar w' C (aX l)∧Below base w w':=by
 obtain ⟨A,cap,rfl,hA,hrow,hcap,hlt,hfz⟩:=ai.full bP hown
 by_cases h0:l=[]
 ·subst h0
  have hz:aX []=[]:=List.eq_nil_of_length_eq_zero (Nat.le_zero.1 (el []))
  rw[hz]
  go_enter Tryz.func27,Tryz.ntmps27
  go_wp2_with (first|(go_at_call 42;refine (tD _ _ _).mono ?_;rintro e w ⟨rfl,rfl⟩)|(go_at_call 43;refine (nO _ _ _).mono ?_;rintro e w ⟨rfl,rfl⟩))
  go_ret
  exact ⟨A,cap,rfl,oL rfl,bR _ _⟩
 ·have hpos:0<l.length:=List.length_pos_iff.2 h0
  obtain ⟨b,off,hAe,hb,_⟩:=hrow.at hpos
  subst hAe
  have h5:=hlt _ rfl
  obtain rfl:off=0:=h5.2.2.1
  have hH:=yv hrow (hfz _ rfl)
  have hs:=zC b cap l w hH hb hl
  have hsH:Hid _:=hs
  have hone:Hid (aX l=compact (l.mergeSort fun x y=>decide (x≤y))):=rfl
  clear hs
  go_enter Tryz.func27,Tryz.ntmps27
  go_wp2_with fail
  refine cM (show Calls _ _ _ _ _ from hsH.out) ?_
  rintro e w1 ⟨rfl,hH1,hg1,hb1⟩
  have hlen:(l.mergeSort fun x y=>decide (x≤y)).length=l.length:=by simp
  have hc:=uo b cap (l.mergeSort fun x y=>decide (x≤y)) w1 hH1 hg1 (by rw[hlen];omega) (by rw[hlen];exact hcap)
  rw[hlen,←hone.out] at hc
  have hcH:Hid _:=hc
  clear hsH hc hlen hH1
  go_wp2_with fail
  refine cM (show Calls _ _ _ _ _ from hcH.out) ?_
  rintro e w2 ⟨rfl,hr2,hb2⟩
  go_wp2
  go_ret
  exact ⟨_,_,rfl,hr2,(hb1 base h5.1).trans (hb2 base h5.1)⟩

def aK (key col:Int) (l:List Cel):List Int:=(l.filter (cI key col)).map (·.2.2.2)
def aT (l:List Cel):List Int:=l.map (·.2.1)
theorem pS {key col:Int} {l:List Cel} {k:Nat} (h:k<l.length) {x:Cel} (hx:l[k]=x):aK key col (l.take (k+1))=aK key col (l.take k)++(if cI key col x then [x.2.2.2] else []):=by
 unfold aK
 rw[List.take_succ_eq_append_getElem h,List.filter_append,List.map_append,hx]
 cases hq:cI key col x<;>simp[hq]
theorem pf {l:List Cel} {k:Nat} (h:k<l.length) {x:Cel} (hx:l[k]=x):aT (l.take (k+1))=aT (l.take k)++[x.2.1]:=by
 unfold aT
 rw[List.take_succ_eq_append_getElem h,List.map_append,hx]
 simp
theorem j5 (key col:Int) (l:List Cel):(aK key col l).length≤l.length:=by
 unfold aK
 rw[List.length_map]
 exact List.length_filter_le _ _
theorem fZ (l:List Cel):(aT l).length≤l.length:=by unfold aT;rw[List.length_map];exact nR _

theorem Tryz.infoI:(Tryz.prog.info? 3).map (fun i=>(i.zero,i.size,i.bytes))=some (some (V I 0),1,8):=by kernel_rfl

theorem im {W:World} {n:Nat} (hn:W.heap.size=n) (x:Int) (T:TypeId):ar (W.alloc (H #[V I x] T)) (some ⟨n,0,none⟩) [x]:=by
 subst hn
 refine oR ⟨W.heap.size,0,rfl,by simp,fun j hj i hi=> ?_⟩
 obtain rfl:j=0:=by simp at hj;omega
 obtain rfl:i=0:=by omega
 exact ab (w:=W) (gR _) (j:=0) rfl

theorem aW (w:World) {ops:Array Oper} {rest:List Oper} {o:Oper} {a:Act} {Q:Exit→Act→World→Prop} (hgd:o.guard=none) (s x:Operand)
  (ho:o.op= .call { callee:= .builtin .append,args:= #[s,x],argTypes:= #[34,34] })
  (base:Nat) (v:Value) (l m:List Int) (A:Option Addr) (cap:Nat) (hs:a.eval s=v) (hx:a.eval x= O A m.length cap) (hown:ed w base v l) (hr:ar w A m) (hA:A=none→cap=0)
  (hml:l.length+m.length≤maxLen) (hb:(l.length+m.length)*8≤140737488355328) (hbase:base≤w.heap.size)
  (h:∀v' w',ed w' base v' (l++m)→w.grownBy w' v.ownBlock→wpList J ops Q rest (a.put o.dst v') w'):wpList J ops Q (o::rest) a w :=
 wpList_plain hgd fun _ hK=>eG bP ux (by omega) 34 Tryz.underlying34 (V I 0) 8 Tryz.infoI rfl w s x ho base v l m A cap hs hx hown hr hA hml hb hbase fun v' w' h2 h3=>hK _ _ (h v' w' h2 h3)

theorem gj (t:Tab) (A:Option Addr) (ca:Nat) (D:Option Addr) (cd:Nat) (key col:Int) (w:World) (hsz:t.e.length*40≤140737488355328) (hr:Row w A t.c.l) (hd:bA w D t.e) :
  Calls J 13 #[X (T6 t A ca D cd).toArray,V I key,V I col] w fun e w'=>∃C cp,e= Z (O C (aX (aK key col t.e)).length cp)∧ar w' C (aX (aK key col t.e))∧Below w.heap.size w w':=by
 have ht0:TabAt (w.alloc (H #[V I t.c.c0,V I t.c.c1,V I t.c.c2,V I t.c.c3,O A t.c.l.length ca,O D t.e.length cd] 42)) w.heap.size t A ca D cd:=TabAt.new 42 hr hd rfl
 have hbw0:Below w.heap.size w (w.alloc (H #[V I t.c.c0,V I t.c.c1,V I t.c.c2,V I t.c.c3,O A t.c.l.length ca,O D t.e.length cd] 42)):=((gR w).alloc _).below
 have k5:=ht0.k5
 go_enter Tryz.func13,Tryz.ntmps13
 go_wp2
 generalize w.alloc (H #[V I t.c.c0,V I t.c.c1,V I t.c.c2,V I t.c.c3,O A t.c.l.length ca,O D t.e.length cd] 42)=w0 at ht0 hbw0 k5 ⊢
 clear k5
 go_loopw [7,13] (fun v i wr=>∃k:Nat,k≤t.e.length∧i= V I k∧ed wr w0.heap.size v (aK key col (t.e.take k))∧Below w0.heap.size w0 wr) (fun _ i _=>t.e.length-(intOf i).toNat)
 case atStart=>exact ⟨0,by omega,rfl,ai.nil _ _ _ _ _,bR _ _⟩
 case round =>
  obtain ⟨k,hk,rfl,hov,hbel⟩:=hrel
  obtain ⟨A1,cap1,rfl,hA1,hrow1,hlt1⟩:=ai.row bP hov
  have htR:=ht0.below hbel
  have hsR:w0.heap.size≤wr.heap.size:=hbel.size
  by_cases hlt:k<t.e.length
  ·have hltz:(k:Int)<(t.e.length:Int):=by omega
   obtain ⟨bb,off,rfl,hb,hcs⟩:=bA.get htR.rowC hlt
   obtain ⟨x,hx⟩:∃x,t.e[k]=x:=⟨_,rfl⟩
   obtain ⟨e0,e1,e2,e3,e4⟩:=hcs k hlt
   rw[hx] at e0 e1 e2 e3 e4
   have hst:=pS (key:=key) (col:=col) hlt hx
   clear hcs hx
   obtain ⟨M,HM⟩:∃M,aK key col (t.e.take k)=M:=⟨_,rfl⟩
   have hMl:M.length≤t.e.length:=by rw[←HM];exact nT (j5 _ _ _) (by rw[List.length_take];omega)
   rw[HM] at hov hst hrow1 ⊢
   clear HM
   have hovH:Hid (ed wr w0.heap.size (O A1 M.length cap1) M):=hov
   have hbelH:Hid (Below w0.heap.size w0 wr):=hbel
   have hgX:Gr wr (wr.alloc (H #[V I x.1.1,V I x.1.2,V I x.2.1,V I x.2.2.1,V I x.2.2.2] 85)):=(gR _).alloc _
   obtain ⟨x0,x1,x2,x3,x4,xlt⟩:=(show CelAt _ _ _ from CelAt.new (w:=wr) x 85 rfl)
   clear hov hbel hrow1
   by_cases hq:x.2.1=key
   ·have hqb:(x.2.1==key)=true:=by simpa using hq
    by_cases hq2:x.2.2.1=col
    ·have hqb2:(x.2.2.1==col)=true:=by simpa using hq2
     have hst2:Hid (aK key col (t.e.take (k+1))=M++[x.2.2.2]):=by show _=_;rw[hst,if_pos (by simp[cI,hq,hq2])]
     have hbd:Hid (M.length+[x.2.2.2].length≤maxLen∧(M.length+[x.2.2.2].length)*8≤140737488355328):=by show _∧_;unfold maxLen;simp only[List.length_cons,List.length_nil];omega
     clear hst hq hq2
     go_wp2_with (at_builtin;refine aW _ rfl _ _ rfl w0.heap.size (O A1 M.length cap1) M [x.2.2.2] (some ⟨wr.heap.size+1,0,none⟩) 1 rfl rfl ?ho ?hr (fun h=>by cases h) hbd.out.1 hbd.out.2 ?hs ?_)
     case ho=>exact hovH.out.gr (hgX.alloc _)
     case hr=>exact im (by simp) _ _
     case hs=>simp;omega
     intro v1 w3 hown1 hgr1
     have hb3:Hid (Below w0.heap.size w0 w3):=hbelH.out.trans (((hgX.alloc _).below.mono hsR).trans (ai.grown_below (hovH.out.gr (hgX.alloc _)) hgr1 (by simp;omega)))
     have hownH:Hid (ed w3 w0.heap.size v1 (M++[x.2.2.2])):=hown1
     clear hown1 hgr1
     go_wp2
     go_roundw
     case rel=>exact ⟨k+1,by omega,by go_num,by rw[hst2.out];exact hownH.out,hb3.out⟩
     case measure=>simp[intOf];omega
    ·have hqb2:(x.2.2.1==col)=false:=by simpa using hq2
     have hst2:Hid (aK key col (t.e.take (k+1))=M):=by show _=_;rw[hst,if_neg (by simp[cI,hq2])];simp
     clear hst hq hq2
     go_wp2
     go_roundw
     case rel=>exact ⟨k+1,by omega,by go_num,by rw[hst2.out];exact hovH.out.gr hgX,hbelH.out.trans (hgX.below.mono hsR)⟩
     case measure=>simp[intOf];omega
   ·have hqb:(x.2.1==key)=false:=by simpa using hq
    have hst2:Hid (aK key col (t.e.take (k+1))=M):=by show _=_;rw[hst,if_neg (by simp[cI,hq])];simp
    clear hst hq
    go_wp2
    go_roundw
    case rel=>exact ⟨k+1,by omega,by go_num,by rw[hst2.out];exact hovH.out.gr hgX,hbelH.out.trans (hgX.below.mono hsR)⟩
    case measure=>simp[intOf];omega
  ·have hltz:¬(k:Int)<(t.e.length:Int):=by omega
   have hke:t.e.take k=t.e:=List.take_of_length_le (by omega)
   rw[hke] at hov hrow1 ⊢
   clear hke
   have hMl:(aK key col t.e).length≤t.e.length:=j5 _ _ _
   obtain ⟨M,HM⟩:∃M,aK key col t.e=M:=⟨_,rfl⟩
   rw[HM] at hov hrow1 hMl ⊢
   have HMH:Hid (aK key col t.e=M):=HM
   clear HM
   have hro:=gO M w0.heap.size _ wr hov (by omega)
   have hroH:Hid _:=hro
   have hbwR:Below w.heap.size w wr:=hbw0.trans (hbel.mono hbw0.size)
   have hbs:=hbw0.size
   clear hro hov hrow1
   go_wp2_with fail
   refine cM (show Calls _ _ _ _ _ from hroH.out) ?_
   rintro e w2 ⟨C,cp,rfl,hr2,hb2⟩
   clear hroH
   go_wp2
   go_ret
   rw[HMH.out]
   exact ⟨C,cp,rfl,hr2,hbwR.trans (hb2.mono hbs)⟩

theorem lm (t:Tab) (A:Option Addr) (ca:Nat) (D:Option Addr) (cd:Nat) (w:World) (hsz:t.e.length*40≤140737488355328) (hr:Row w A t.c.l) (hd:bA w D t.e) :
  Calls J 16 #[X (T6 t A ca D cd).toArray] w fun e w'=>∃C cp,e= Z (O C (aX (aT t.e)).length cp)∧ar w' C (aX (aT t.e))∧Below w.heap.size w w':=by
 have ht0:TabAt (w.alloc (H #[V I t.c.c0,V I t.c.c1,V I t.c.c2,V I t.c.c3,O A t.c.l.length ca,O D t.e.length cd] 42)) w.heap.size t A ca D cd:=TabAt.new 42 hr hd rfl
 have hbw0:Below w.heap.size w (w.alloc (H #[V I t.c.c0,V I t.c.c1,V I t.c.c2,V I t.c.c3,O A t.c.l.length ca,O D t.e.length cd] 42)):=((gR w).alloc _).below
 have k5:=ht0.k5
 go_enter Tryz.func16,Tryz.ntmps16
 go_wp2
 generalize w.alloc (H #[V I t.c.c0,V I t.c.c1,V I t.c.c2,V I t.c.c3,O A t.c.l.length ca,O D t.e.length cd] 42)=w0 at ht0 hbw0 k5 ⊢
 clear k5
 go_loopw [3,9] (fun v i wr=>∃k:Nat,k≤t.e.length∧i= V I k∧ed wr w0.heap.size v (aT (t.e.take k))∧Below w0.heap.size w0 wr) (fun _ i _=>t.e.length-(intOf i).toNat)
 case atStart=>exact ⟨0,by omega,rfl,ai.nil _ _ _ _ _,bR _ _⟩
 case round =>
  obtain ⟨k,hk,rfl,hov,hbel⟩:=hrel
  obtain ⟨A1,cap1,rfl,hA1,hrow1,hlt1⟩:=ai.row bP hov
  have htR:=ht0.below hbel
  have hsR:w0.heap.size≤wr.heap.size:=hbel.size
  by_cases hlt:k<t.e.length
  ·have hltz:(k:Int)<(t.e.length:Int):=by omega
   obtain ⟨bb,off,rfl,hb,hcs⟩:=bA.get htR.rowC hlt
   obtain ⟨x,hx⟩:∃x,t.e[k]=x:=⟨_,rfl⟩
   obtain ⟨e0,e1,e2,e3,e4⟩:=hcs k hlt
   rw[hx] at e0 e1 e2 e3 e4
   have hst:=pf hlt hx
   clear hcs hx
   obtain ⟨M,HM⟩:∃M,aT (t.e.take k)=M:=⟨_,rfl⟩
   have hMl:M.length≤t.e.length:=by rw[←HM];exact nT (fZ _) (by rw[List.length_take];omega)
   rw[HM] at hov hst hrow1 ⊢
   clear HM
   have hovH:Hid (ed wr w0.heap.size (O A1 M.length cap1) M):=hov
   have hbelH:Hid (Below w0.heap.size w0 wr):=hbel
   have hgX:Gr wr (wr.alloc (H #[V I x.1.1,V I x.1.2,V I x.2.1,V I x.2.2.1,V I x.2.2.2] 85)):=(gR _).alloc _
   obtain ⟨x0,x1,x2,x3,x4,xlt⟩:=(show CelAt _ _ _ from CelAt.new (w:=wr) x 85 rfl)
   clear hov hbel hrow1
   have hst2:Hid (aT (t.e.take (k+1))=M++[x.2.1]):=by show _=_;rw[hst]
   have hbd:Hid (M.length+[x.2.1].length≤maxLen∧(M.length+[x.2.1].length)*8≤140737488355328):=by show _∧_;unfold maxLen;simp only[List.length_cons,List.length_nil];omega
   clear hst
   go_wp2_with (at_builtin;refine aW _ rfl _ _ rfl w0.heap.size (O A1 M.length cap1) M [x.2.1] (some ⟨wr.heap.size+1,0,none⟩) 1 rfl rfl ?ho ?hr (fun h=>by cases h) hbd.out.1 hbd.out.2 ?hs ?_)
   case ho=>exact hovH.out.gr (hgX.alloc _)
   case hr=>exact im (by simp) _ _
   case hs=>simp;omega
   intro v1 w3 hown1 hgr1
   have hb3:Hid (Below w0.heap.size w0 w3):=hbelH.out.trans (((hgX.alloc _).below.mono hsR).trans (ai.grown_below (hovH.out.gr (hgX.alloc _)) hgr1 (by simp;omega)))
   have hownH:Hid (ed w3 w0.heap.size v1 (M++[x.2.1])):=hown1
   clear hown1 hgr1
   go_wp2
   go_roundw
   case rel=>exact ⟨k+1,by omega,by go_num,by rw[hst2.out];exact hownH.out,hb3.out⟩
   case measure=>simp[intOf];omega
  ·have hltz:¬(k:Int)<(t.e.length:Int):=by omega
   have hke:t.e.take k=t.e:=List.take_of_length_le (by omega)
   rw[hke] at hov hrow1 ⊢
   clear hke
   have hMl:(aT t.e).length≤t.e.length:=fZ _
   obtain ⟨M,HM⟩:∃M,aT t.e=M:=⟨_,rfl⟩
   rw[HM] at hov hrow1 hMl ⊢
   have HMH:Hid (aT t.e=M):=HM
   clear HM
   have hro:=gO M w0.heap.size _ wr hov (by omega)
   have hroH:Hid _:=hro
   have hbwR:Below w.heap.size w wr:=hbw0.trans (hbel.mono hbw0.size)
   have hbs:=hbw0.size
   clear hro hov hrow1
   go_wp2_with fail
   refine cM (show Calls _ _ _ _ _ from hroH.out) ?_
   rintro e w2 ⟨C,cp,rfl,hr2,hb2⟩
   clear hroH
   go_wp2
   go_ret
   rw[HMH.out]
   exact ⟨C,cp,rfl,hr2,hbwR.trans (hb2.mono hbs)⟩


def okW (n:Int):Bool:=inB n (-1048576) 1048576
def okN (n:Int):Bool:=inB n (-1073741824) 1073741824
def okR (l:List Int):Bool:=decide (l.length≤8) && l.all okN

theorem fY (n:Int) (w:World) :
  Calls J 163 #[V I n] w fun e w'=>e= Z (U (okW n))∧w'=w:=by
 by_cases h1: -1048576≤n
 ·by_cases h2:n≤1048576
  ·have e:okW n=true:=by simp[okW,inB];omega
   rw[e];clear e
   go_enter Tryz.func163,Tryz.ntmps163
   go_wp2
   go_ret
   exact ⟨rfl,rfl⟩
  ·have e:okW n=false:=by simp[okW,inB];omega
   rw[e];clear e
   go_enter Tryz.func163,Tryz.ntmps163
   go_wp2
   go_ret
   exact ⟨rfl,rfl⟩
 ·have e:okW n=false:=by simp[okW,inB];omega
  rw[e];clear e
  go_enter Tryz.func163,Tryz.ntmps163
  go_wp2
  go_ret
  exact ⟨rfl,rfl⟩

theorem mO (l:List Int) (A:Option Addr) (cap:Nat) (w:World) (hl:l.length≤maxLen) (hr:ar w A l) :
  Calls J 162 #[O A l.length cap] w fun e w'=>e= Z (U (okR l))∧Gr w w':=by
 unfold maxLen at hl
 by_cases h8:8<l.length
 ·have e:okR l=false:=by simp[okR];omega
  rw[e];clear e
  have h8z:(8:Int)<(l.length:Int):=by omega
  go_enter Tryz.func162,Tryz.ntmps162
  go_wp2
  go_ret
  exact ⟨rfl,gR _⟩
 ·have h8z:¬(8:Int)<(l.length:Int):=by omega
  go_enter Tryz.func162,Tryz.ntmps162
  go_wp2
  go_loopw [10] (fun i wr=>∃k:Nat,k≤l.length∧i= V I k∧Hid (∀j (h:j<l.length),j<k→okN l[j]=true)∧Gr w wr) (fun i _=>l.length-(intOf i).toNat)
  case atStart=>exact ⟨0,nZ _,rfl,fun j _ hj=>absurd hj (Nat.not_lt_zero _),gR _⟩
  case round =>
   obtain ⟨k,hk,rfl,hno,hgr⟩:=hrel
   by_cases hlt:k<l.length
   ·have hltz:(k:Int)<(l.length:Int):=by omega
    obtain ⟨bb,off,rfl,hb,hcs⟩:=(hr.gr hgr).at hlt
    have e0:=hcs k hlt 0 (by omega)
    obtain ⟨y,hy⟩:∃y,l[k]=y:=⟨_,rfl⟩
    rw[hy] at e0
    have e1:wr.cell? ⟨bb,off+k,none⟩=some (V I y):=by simpa[eM] using e0
    have hyH:Hid (l[k]=y):=hy
    clear hcs e0 hy
    have hbad:Hid (okN y=false→okR l=false):=by
     intro h
     unfold okR
     have:l.all okN=false:=by
      rw[List.all_eq_false]
      exact ⟨y,by rw[←hyH.out];exact gM hlt,by simp[h]⟩
     rw[this];simp
    by_cases q1:y < -1073741824
    ·have hfin:Hid (okR l=false):=hbad.out (by simp[okN,inB];omega)
     go_wp2
     go_ret
     exact ⟨by rw[hfin.out];rfl,hgr⟩
    ·by_cases q2:1073741824<y
     ·have hfin:Hid (okR l=false):=hbad.out (by simp[okN,inB];omega)
      go_wp2
      go_ret
      exact ⟨by rw[hfin.out];rfl,hgr⟩
     ·have hne:Hid (okN l[k]=true):=by show okN l[k]=true;rw[hyH.out];simp[okN,inB];omega
      go_wp2
      go_roundw
      case rel =>
       refine ⟨k+1,by omega,by go_num,?_,hgr⟩
       intro j hj hjk
       by_cases e:j=k
       ·subst e;exact hne
       ·exact hno j hj (by omega)
      case measure=>simp[intOf];omega
   ·have hltz:¬(k:Int)<(l.length:Int):=by omega
    have hfin:Hid (okR l=true):=by
     show okR l=true
     unfold okR
     have:l.all okN=true:=by
      rw[List.all_eq_true]
      intro x hx
      obtain ⟨j,hj,e⟩:=List.getElem_of_mem hx
      rw[←e];exact hno j hj (by omega)
     rw[this];simp;omega
    go_wp2
    go_ret
    exact ⟨by rw[hfin.out];rfl,hgr⟩


def aB:List Int→List Int→Int
 | [],[]=>0
 | [],_::_=> -1
 | _::_,[]=>1
 | x::a,y::b=>if bj x y=0 then aB a b else bj x y

theorem jG {a b:List Int}:∀k,k≤a.length→k≤b.length→(∀j (h1:j<a.length) (h2:j<b.length),j<k→bj a[j] b[j]=0)→aB a b=aB (a.drop k) (b.drop k):=by
 intro k
 induction k with
 | zero=>intros;simp
 | succ k ih =>
  intro h1 h2 h
  rw[ih (by omega) (by omega) fun j h3 h4 h5=>h j h3 h4 (by omega)]
  rw[List.drop_eq_getElem_cons (show k<a.length by omega),List.drop_eq_getElem_cons (show k<b.length by omega)]
  show (if bj a[k] b[k]=0 then _ else _)=_
  rw[if_pos (h k (by omega) (by omega) (by omega))]
theorem wJ {a b:List Int} {k:Nat} (h1:k<a.length) (h2:k<b.length) (h:∀j (h1:j<a.length) (h2:j<b.length),j<k→bj a[j] b[j]=0) (hne:bj a[k] b[k]≠0):aB a b=bj a[k] b[k]:=by
 rw[jG k (by omega) (by omega) h,List.drop_eq_getElem_cons h1,List.drop_eq_getElem_cons h2]
 show (if bj a[k] b[k]=0 then _ else _)=_
 rw[if_neg hne]
theorem sm {a b:List Int} {k:Nat} (h1:k<a.length) (h2:k=b.length) (h:∀j (h1:j<a.length) (h2:j<b.length),j<k→bj a[j] b[j]=0):aB a b=1:=by
 rw[jG k (by omega) (by omega) h,List.drop_eq_getElem_cons h1,show b.drop k=[] from List.drop_eq_nil_of_le (by omega)]
 rfl
theorem ul {a b:List Int} (hab:a.length≤b.length) (h:∀j (h1:j<a.length) (h2:j<b.length),j<a.length→bj a[j] b[j]=0):aB a b=if a.length<b.length then -1 else 0:=by
 rw[jG a.length (by omega) hab h,List.drop_eq_nil_of_le (Nat.le_refl _)]
 by_cases k:a.length<b.length
 ·rw[if_pos k,List.drop_eq_getElem_cons k];rfl
 ·rw[if_neg k,List.drop_eq_nil_of_le (by omega)];rfl

theorem oB (a b:List Int) (A B:Option Addr) (ca cb:Nat) (w:World) (hal:a.length≤maxLen) (hra:ar w A a) (hrb:ar w B b) :
  Calls J 194 #[O A a.length ca,O B b.length cb] w fun e w'=>e= Z (V I (aB a b))∧Gr w w':=by
 unfold maxLen at hal
 go_enter Tryz.func194,Tryz.ntmps194
 go_wp2
 go_loopw [11] (fun i wr=>∃k:Nat,k≤a.length∧k≤b.length∧i= V I k∧Hid (∀j (h1:j<a.length) (h2:j<b.length),j<k→bj a[j] b[j]=0)∧Gr w wr) (fun i _=>a.length-(intOf i).toNat)
 case atStart=>exact ⟨0,nZ _,nZ _,rfl,fun j _ _ hj=>absurd hj (Nat.not_lt_zero _),gR _⟩
 case round =>
  obtain ⟨k,hk,hk2,rfl,hno,hgr⟩:=hrel
  by_cases hlt:k<a.length
  ·have hltz:(k:Int)<(a.length:Int):=by omega
   obtain ⟨bb,off,rfl,hb,hcs⟩:=(hra.gr hgr).at hlt
   have e0:=hcs k hlt 0 (by omega)
   obtain ⟨x,hx⟩:∃y,a[k]=y:=⟨_,rfl⟩
   rw[hx] at e0
   have e1:wr.cell? ⟨bb,off+k,none⟩=some (V I x):=by simpa[eM] using e0
   have hxH:Hid (a[k]=x):=hx
   clear hcs e0 hx
   by_cases hlt2:k<b.length
   ·have hlt2z:(k:Int)<(b.length:Int):=by omega
    obtain ⟨bc,of2,rfl,hb2,hcs⟩:=(hrb.gr hgr).at hlt2
    have e0:=hcs k hlt2 0 (by omega)
    obtain ⟨y,hy⟩:∃y,b[k]=y:=⟨_,rfl⟩
    rw[hy] at e0
    have e2:wr.cell? ⟨bc,of2+k,none⟩=some (V I y):=by simpa[eM] using e0
    have hyH:Hid (b[k]=y):=hy
    clear hcs e0 hy
    obtain ⟨c,hc⟩:∃c,bj x y=c:=⟨_,rfl⟩
    have hcH:Hid (bj x y=c):=hc
    have hcm:=jd x y wr
    rw[hc] at hcm
    have hcmH:Hid _:=hcm
    clear hcm hc
    cases hq:(c != 0)
    ·have hc0:c=0:=by simpa using hq
     have hne:Hid (bj a[k] b[k]=0):=by show bj _ _=0;rw[hxH.out,hyH.out,hcH.out,hc0]
     clear hc0
     go_wp2_with (go_at_call 94;(refine cM (show Calls _ _ _ _ _ from hcmH.out) ?_);rintro e w' ⟨rfl,rfl⟩)
     go_roundw
     case rel =>
      refine ⟨k+1,by omega,by omega,by go_num,?_,hgr⟩
      intro j hj hj2 hjk
      by_cases e:j=k
      ·subst e;exact hne
      ·exact hno j hj hj2 (by omega)
     case measure=>simp[intOf];omega
    ·have hfin:Hid (aB a b=c):=by
      have hc0:c≠0:=by simpa using hq
      show _=_
      rw[wJ hlt hlt2 hno (by rw[hxH.out,hyH.out,hcH.out];exact hc0),hxH.out,hyH.out,hcH.out]
     go_wp2_with (go_at_call 94;(refine cM (show Calls _ _ _ _ _ from hcmH.out) ?_);rintro e w' ⟨rfl,rfl⟩)
     go_ret
     exact ⟨by rw[hfin.out];rfl,hgr⟩
   ·have hlt2z:(b.length:Int)≤(k:Int):=by omega
    have hfin:Hid (aB a b=1):=sm hlt (by omega) hno
    go_wp2
    go_ret
    exact ⟨by rw[hfin.out];rfl,hgr⟩
  ·have hltz:¬(k:Int)<(a.length:Int):=by omega
   have hka:k=a.length:=by omega
   have hend:=ul (a:=a) (b:=b) (by omega) (fun j h1 h2 _=>hno j h1 h2 (by omega))
   by_cases hab:a.length<b.length
   ·have hfin:Hid (aB a b= -1):=by show _=_;rw[hend,if_pos hab]
    have habz:(a.length:Int)<(b.length:Int):=by omega
    clear hend hka
    go_wp2
    go_ret
    exact ⟨by rw[hfin.out];rfl,hgr⟩
   ·have hfin:Hid (aB a b=0):=by show _=_;rw[hend,if_neg hab]
    have habz:¬(a.length:Int)<(b.length:Int):=by omega
    clear hend hka
    go_wp2
    go_ret
    exact ⟨by rw[hfin.out];rfl,hgr⟩
theorem eV (a b:List Int) (A B:Option Addr) (ca cb:Nat) (w:World) (hal:a.length≤maxLen) (hra:ar w A a) (hrb:ar w B b) :
  Calls J 164 #[O A a.length ca,O B b.length cb] w fun e w'=>e= Z (V I (aB a b))∧Gr w w':=by
 go_enter Tryz.func164,Tryz.ntmps164
 go_wp2_with fail
 refine (oB a b A B ca cb _ hal hra hrb).mono ?_
 rintro e w' ⟨rfl,hg⟩
 go_wp2
 go_ret
 exact ⟨rfl,hg⟩


structure Itm where
 p:Option Addr
 c:Nat
 r:List Int
 n:Int
def aM (x:Itm):List Value:=[O x.p x.r.length x.c,V I x.n]
theorem bD (x:Itm):(aM x).length=2:=rfl
theorem fw (x:Itm):∀u∈aM x,u.oneCell'=true:=by
 intro u hu
 simp[aM] at hu
 rcases hu with rfl|rfl<;>rfl
def du (A:Option Addr) (n c:Nat):Prop:=Unit→(if A.isNone then c else 0)+(n-c)=0
theorem du.z {A:Option Addr} {n c:Nat} (h:du A n c):A=none→c=0:=fun e=>by
 subst e
 have h1:c+(n-c)=0:=h ()
 omega
theorem du.cap {A:Option Addr} {n c:Nat} (h:du A n c):n≤c:=by
 have:=h ()
 omega
theorem du.mk {A:Option Addr} {n c:Nat} (h:A=none→c=0) (k:n≤c):du A n c:=fun _=>by
 cases A with
 | none=>rw[h rfl] at k ⊢;simp;omega
 | some a=>simp;omega
structure Items (w:World) (A:Option Addr) (l:List Itm):Prop where
 row:ay aM 2 w A l
 each:∀x∈l,ar w x.p x.r∧x.r.length≤maxLen∧(x.p=none→x.c=0)
theorem Items.below {w w':World} {A:Option Addr} {l:List Itm} (h:Items w A l) (q:Below w.heap.size w w'):Items w' A l:=⟨h.row.below q,fun x hx=>⟨(h.each x hx).1.below q,(h.each x hx).2⟩⟩
theorem Items.gr {w w':World} {A:Option Addr} {l:List Itm} (h:Items w A l) (q:Gr w w'):Items w' A l:=h.below q.below
theorem Items.at {w:World} {A:Option Addr} {l:List Itm} (h:Items w A l) {k:Nat} (hk:k<l.length):∃b off,A=some ⟨b,off,none⟩∧b<w.heap.size∧∀j (hj:j<l.length),w.cell? ⟨b,off+j*2,none⟩=some (.slice l[j].p l[j].r.length l[j].c)∧w.cell? ⟨b,off+j*2+1,none⟩=some (V I l[j].n):=by
 obtain ⟨b,off,hA,hb,hc⟩:=h.row.at hk
 exact ⟨b,off,hA,hb,fun j hj=>⟨hc j hj 0 (by omega),hc j hj 1 (by omega)⟩⟩

abbrev Zit:=List Int×Int
def Itm.z (x:Itm):Zit:=(x.r,x.n)
def okZ (x:Zit):Bool:=okR x.1 && okW x.2 && decide (x.2≠0)
def ji (l:List Zit) (k:Nat):Bool:=decide (k=0) || decide (aB (l.getD (k-1) ([],0)).1 (l.getD k ([],0)).1<0)
def aw (l:List Zit):Int:=if 400<l.length then 2 else if ∃k,k<l.length∧(okZ (l.getD k ([],0)) && ji l k)=false then 5 else 0


theorem Tryz.infoT:(Tryz.prog.info? 58).map (fun i=>(i.zero,i.size,i.bytes))=some (some (X #[O none 0 0,V I 0]),2,32):=by kernel_rfl

structure Apart (w:World) (base:Nat) (ob:Option Nat) (x:Itm):Prop where
 row:ar w x.p x.r
 len:x.r.length≤maxLen
 nil:x.p=none→x.c=0
 own:∀a,x.p=some a→base≤a.block∧a.block<w.heap.size∧ob≠some a.block
structure OwnT (w:World) (base:Nat) (v:Value) (l:List Itm):Prop where
 own:ai aM 2 58 w base v l
 each:∀x∈l,Apart w base v.ownBlock x
def iE (n:Nat) (C:Option Addr) (L:List Itm):Prop:=(∀a,C=some a→n≤a.block)∧∀x∈L,∀a,x.p=some a→n≤a.block
theorem iE.none (n:Nat):iE n none []:=⟨fun a h=>(by cases h),fun x hx=>(by cases hx)⟩
theorem iE.mono {n m:Nat} {C:Option Addr} {L:List Itm} (h:iE n C L) (hm:m≤n):iE m C L:=⟨fun a ha=>nT hm (h.1 a ha),fun x hx a ha=>nT hm (h.2 x hx a ha)⟩
def eK (w:World) (A:Option Addr) (c:Nat):Prop:=∀a,A=some a→a.off=0∧a.spot=none∧∃cur,w.heap[a.block]? = some (H cur 3 (0,0))∧c≤cur.size∧c≤maxLen
def fs (w:World) (A:Option Addr) (c:Nat):Prop:=∀a,A=some a→a.off=0∧a.spot=none∧∃cur,w.heap[a.block]? = some (H cur 58 (0,0))∧c*2≤cur.size∧c≤maxLen
def eL (w:World) (L:List Itm):Prop:=∀x∈L,eK w x.p x.c∧x.r.length≤x.c
theorem eK.lt {w:World} {A:Option Addr} {c:Nat} (h:eK w A c):∀a,A=some a→a.block<w.heap.size:=fun a ha=>by
 obtain ⟨_,_,cur,hc,_⟩:=h a ha
 exact (Array.getElem?_eq_some_iff.1 hc).1
theorem fs.lt {w:World} {A:Option Addr} {c:Nat} (h:fs w A c):∀a,A=some a→a.block<w.heap.size:=fun a ha=>by
 obtain ⟨_,_,cur,hc,_⟩:=h a ha
 exact (Array.getElem?_eq_some_iff.1 hc).1
theorem eK.block {w w':World} {A:Option Addr} {c:Nat} (h:eK w A c) (k:∀a,A=some a→w'.heap[a.block]? = w.heap[a.block]?):eK w' A c:=fun a ha=>by
 obtain ⟨h1,h2,cur,hc,h3⟩:=h a ha
 exact ⟨h1,h2,cur,(k a ha).trans hc,h3⟩
theorem fs.block {w w':World} {A:Option Addr} {c:Nat} (h:fs w A c) (k:∀a,A=some a→w'.heap[a.block]? = w.heap[a.block]?):fs w' A c:=fun a ha=>by
 obtain ⟨h1,h2,cur,hc,h3⟩:=h a ha
 exact ⟨h1,h2,cur,(k a ha).trans hc,h3⟩
theorem eK.below {w w':World} {A:Option Addr} {c:Nat} (h:eK w A c) (q:Below w.heap.size w w'):eK w' A c:=h.block fun a ha=>q.block _ (h.lt a ha)
theorem fs.below {w w':World} {A:Option Addr} {c:Nat} (h:fs w A c) (q:Below w.heap.size w w'):fs w' A c:=h.block fun a ha=>q.block _ (h.lt a ha)
theorem eL.below {w w':World} {L:List Itm} (h:eL w L) (q:Below w.heap.size w w'):eL w' L:=fun x hx=>⟨(h x hx).1.below q,(h x hx).2⟩
theorem eK.grown {w w':World} {A:Option Addr} {c:Nat} {row:Option Nat} (h:eK w A c) (q:w.grownBy w' row) (hne:∀g,row=some g→∃cur T,w.heap[g]? = some (H cur T (0,0))∧T≠3):eK w' A c:=h.block fun a ha=>q.block _ (h.lt a ha) fun e=>by
 obtain ⟨_,_,cur,hc,_⟩:=h a ha
 obtain ⟨cur',T,hc',hT⟩:=hne _ e.symm
 rw[hc] at hc'
 injection hc' with hc'
 injection hc' with _ h2
 exact hT h2.symm
theorem fs.grown {w w':World} {A:Option Addr} {c:Nat} {row:Option Nat} (h:fs w A c) (q:w.grownBy w' row) (hne:∀g,row=some g→∃cur T,w.heap[g]? = some (H cur T (0,0))∧T≠58):fs w' A c:=h.block fun a ha=>q.block _ (h.lt a ha) fun e=>by
 obtain ⟨_,_,cur,hc,_⟩:=h a ha
 obtain ⟨cur',T,hc',hT⟩:=hne _ e.symm
 rw[hc] at hc'
 injection hc' with hc'
 injection hc' with _ h2
 exact hT h2.symm
theorem eL.grown {w w':World} {L:List Itm} {row:Option Nat} (h:eL w L) (q:w.grownBy w' row) (hne:∀g,row=some g→∃cur T,w.heap[g]? = some (H cur T (0,0))∧T≠3):eL w' L:=fun x hx=>⟨(h x hx).1.grown q hne,(h x hx).2⟩
theorem ai.typed {α : Type} {enc: α → List Value} {k:Nat} {e:TypeId} {w:World} {base:Nat} {v:Value} {l:List α} (h:ai enc k e w base v l) {E:TypeId} (hE:e≠E):∀g,v.ownBlock=some g→∃cur T,w.heap[g]? = some (H cur T (0,0))∧T≠E:=by
 intro g hg
 rcases h.2 with ⟨hv,_⟩|⟨g',cap,cur,hv,_,hc,_⟩
 ·rw[hv] at hg;cases hg
 ·rw[hv] at hg
  obtain rfl:=sI hg
  exact ⟨cur,e,hc,hE⟩
theorem ai.roomA {w:World} {base:Nat} {A:Option Addr} {n cap:Nat} {l:List Itm} (h:ai aM 2 58 w base (O A n cap) l):fs w A cap:=by
 intro a ha
 rcases h.2 with ⟨hv,_⟩|⟨g',cap',cur,hv,_,hc,_,hm,hs,_⟩
 ·rw[ha] at hv;injection hv with h1;cases h1
 ·rw[ha] at hv
  injection hv with h1 _ h3
  injection h1 with h1
  subst h1 h3
  exact ⟨rfl,rfl,cur,hc,by omega,hm⟩
theorem ai.roomI {w:World} {base:Nat} {A:Option Addr} {n cap:Nat} {l:List Int} (h:ai eM 1 3 w base (O A n cap) l):eK w A cap:=by
 intro a ha
 rcases h.2 with ⟨hv,_⟩|⟨g',cap',cur,hv,_,hc,_,hm,hs,_⟩
 ·rw[ha] at hv;injection hv with h1;cases h1
 ·rw[ha] at hv
  injection hv with h1 _ h3
  injection h1 with h1
  subst h1 h3
  exact ⟨rfl,rfl,cur,hc,by omega,hm⟩
structure NwT (w:World) (k n:Nat) (C:Option Addr) (L:List Itm):Prop where
 new:iE n C L
 arr:fs w C k
 rows:eL w L
theorem NwT.none (w:World) (n:Nat):NwT w 0 n none []:=⟨iE.none n,fun a h=>(by cases h),fun x hx=>(by cases hx)⟩
theorem NwT.mono {w:World} {k n m:Nat} {C:Option Addr} {L:List Itm} (h:NwT w k n C L) (hm:m≤n):NwT w k m C L:=⟨h.new.mono hm,h.arr,h.rows⟩
theorem NwT.below {w w':World} {k n:Nat} {C:Option Addr} {L:List Itm} (h:NwT w k n C L) (q:Below w.heap.size w w'):NwT w' k n C L:=⟨h.new,h.arr.below q,h.rows.below q⟩
theorem OwnT.nil (w:World) (base:Nat):OwnT w base (O none 0 0) []:=⟨ai.nil _ _ _ _ _,fun x hx=>by cases hx⟩
theorem Apart.below {w w':World} {base:Nat} {ob:Option Nat} {x:Itm} (h:Apart w base ob x) (q:Below w.heap.size w w'):Apart w' base ob x :=
 ⟨h.row.below q,h.len,h.nil,fun a ha=>⟨(h.own a ha).1,nL (h.own a ha).2.1 q.size,(h.own a ha).2.2⟩⟩
theorem OwnT.below {w w':World} {base:Nat} {v:Value} {l:List Itm} (h:OwnT w base v l) (q:Below w.heap.size w w'):OwnT w' base v l:=⟨h.own.below q,fun x hx=>(h.each x hx).below q⟩
theorem OwnT.gr {w w':World} {base:Nat} {v:Value} {l:List Itm} (h:OwnT w base v l) (q:Gr w w'):OwnT w' base v l:=h.below q.below
theorem OwnT.items {w:World} {base:Nat} {v:Value} {l:List Itm} (h:OwnT w base v l):∃A cap,v= O A l.length cap∧du A l.length cap∧Items w A l∧(∀a,A=some a→base≤a.block∧a.block<w.heap.size):=by
 obtain ⟨A,cap,hv,hA,hr,hc,ha,_⟩:=ai.full bD h.own
 exact ⟨A,cap,hv,du.mk hA hc,⟨hr,fun x hx=>⟨(h.each x hx).row,(h.each x hx).len,(h.each x hx).nil⟩⟩,fun a e=>⟨(ha a e).1,(ha a e).2.1⟩⟩
theorem Apart.grown {w w':World} {base:Nat} {ob ob':Option Nat} {x:Itm} (h:Apart w base ob x) (q:w.grownBy w' ob) (hob:ob'=ob∨ob'=some w.heap.size):Apart w' base ob' x:=by
 refine ⟨?_,h.len,h.nil,fun a ha=>⟨(h.own a ha).1,nL (h.own a ha).2.1 q.size,?_⟩⟩
 ·rcases h.row with k|⟨b,off,hp,hb,hc⟩
  ·exact oL k
  ·refine oR ⟨b,off,hp,nL hb q.size,fun j hj i hi=> ?_⟩
   have hne:=(h.own _ hp).2.2
   rw[World.cell?_of_block (a:=⟨b,off+j*1+i,none⟩) (q.block b hb fun e=>hne e.symm)]
   exact hc j hj i hi
 ·rcases hob with e|e
  ·rw[e];exact (h.own a ha).2.2
  ·rw[e]
   intro k
   injection k with k
   have:=(h.own a ha).2.1
   omega
theorem ge (w:World) (ty:TypeId) (base:Nat) (v:Value) (l:List Itm) (x:Itm) (A:Addr) (cap:Nat) (hown:OwnT w base v l) (hr:ay aM 2 w (some A) [x]) (hx:Apart w base v.ownBlock x)
  (hml:l.length+1≤maxLen) (hb:(l.length+1)*32≤140737488355328) (hbase:base≤w.heap.size) :
  ∃v' w',(Builtin.append_ #[53,53] ty #[v,O (some A) 1 cap]).run J w= .ok v' w'∧OwnT w' base v' (l++[x])∧Below base w w'∧w.grownBy w' v.ownBlock:=by
 obtain ⟨i0,hi,hz0,hz1,hz2⟩:=info_parts Tryz.infoT
 obtain ⟨v',w',g1,g2,g3,_,g5⟩:=run_append_own_at (P:=J) w base 53 ty 58 i0 (X #[O none 0 0,V I 0]) 2 32 Tryz.underlying53 hi hz0 hz1 hz2 rfl (by omega) v l.length (aI aM l) hown.own A 1 cap (aI aM [x]) (bu bD [x]) (hr.cells bD (by omega)) (fun u hu=>dL fw u [x] hu) hml hb hbase
 refine ⟨v',w',g1,⟨?_,fun y hy=> ?_⟩,ai.grown_below hown.own g3 hbase,g3⟩
 ·show w'.ownsRow base _ 2 v' (l++[x]).length (aI aM (l++[x]))
  rw[List.length_append,cE]
  exact g2
 ·rcases List.mem_append.1 hy with k|k
  ·exact (hown.each y k).grown g3 g5
  ·have:y=x:=by simpa using k
   subst this
   exact hx.grown g3 g5
theorem eJ (w:World) {ops:Array Oper} {rest:List Oper} {o:Oper} {a:Act} {Q:Exit→Act→World→Prop} (hgd:o.guard=none) (s z:Operand)
  (ho:o.op= .call { callee:= .builtin .append,args:= #[s,z],argTypes:= #[53,53] })
  (base:Nat) (v:Value) (l:List Itm) (x:Itm) (A:Addr) (cap:Nat) (hs:a.eval s=v) (hz:a.eval z= O (some A) 1 cap) (hown:OwnT w base v l) (hr:ay aM 2 w (some A) [x]) (hx:Apart w base v.ownBlock x)
  (hml:l.length+1≤maxLen) (hb:(l.length+1)*32≤140737488355328) (hbase:base≤w.heap.size)
  (h:∀v' w',OwnT w' base v' (l++[x])→Below base w w'→wpList J ops Q rest (a.put o.dst v') w'):wpList J ops Q (o::rest) a w :=
 wpList_plain hgd fun _ hK=>by
  obtain ⟨v',w',hr,h2,h3,_⟩:=ge w o.type base v l x A cap hown hr hx hml hb hbase
  unfold Oper.wp execOp
  simp only[ho,resolve,invoke,builtin,Sem.run_bind,Sem.run_pure,Result.andThen_ok,List.map_toArray,List.map_cons,List.map_nil,hs,hz,hr]
  exact hK _ _ (h v' w' h2 h3)
theorem jY (w:World) {ops:Array Oper} {rest:List Oper} {o:Oper} {a:Act} {Q:Exit→Act→World→Prop} (hgd:o.guard=none) (s z:Operand)
  (ho:o.op= .call { callee:= .builtin .append,args:= #[s,z],argTypes:= #[53,53] })
  (base:Nat) (v:Value) (l:List Itm) (x:Itm) (A:Addr) (cap:Nat) (hs:a.eval s=v) (hz:a.eval z= O (some A) 1 cap) (hown:OwnT w base v l) (hr:ay aM 2 w (some A) [x]) (hx:Apart w base v.ownBlock x)
  (hml:l.length+1≤maxLen) (hb:(l.length+1)*32≤140737488355328) (hbase:base≤w.heap.size)
  (h:∀v' w',OwnT w' base v' (l++[x])→Below base w w'→w.grownBy w' v.ownBlock→wpList J ops Q rest (a.put o.dst v') w'):wpList J ops Q (o::rest) a w :=
 wpList_plain hgd fun _ hK=>by
  obtain ⟨v',w',hr,h2,h3,h4⟩:=ge w o.type base v l x A cap hown hr hx hml hb hbase
  unfold Oper.wp execOp
  simp only[ho,resolve,invoke,builtin,Sem.run_bind,Sem.run_pure,Result.andThen_ok,List.map_toArray,List.map_cons,List.map_nil,hs,hz,hr]
  exact hK _ _ (h v' w' h2 h3 h4)
theorem iA (w:World) {ops:Array Oper} {o:Oper} {a:Act} {K:Act→World→Prop} {Q:Exit→Act→World→Prop} {E:Prop} (hgd:o.guard=none) (s z:Operand)
  (ho:o.op= .call { callee:= .builtin .append,args:= #[s,z],argTypes:= #[53,53] })
  (base:Nat) (v:Value) (l:List Itm) (x:Itm) (A:Addr) (cap:Nat) (hs:a.eval s=v) (hz:a.eval z= O (some A) 1 cap) (hown:OwnT w base v l) (hr:ay aM 2 w (some A) [x]) (hx:Apart w base v.ownBlock x)
  (hml:l.length+1≤maxLen) (hb:(l.length+1)*32≤140737488355328) (hbase:base≤w.heap.size)
  (h:∀v' w',OwnT w' base v' (l++[x])→Below base w w'→w.grownBy w' v.ownBlock→K (a.put o.dst v') w') :
  if Region.wanted o (yielded ops a.tmps)=true then Oper.wp J o a w K Q else E:=by
 have hw:Region.wanted o (yielded ops a.tmps)=true:=by simp[Region.wanted,hgd]
 rw[if_pos hw]
 obtain ⟨v',w',hr,h2,h3,h4⟩:=ge w o.type base v l x A cap hown hr hx hml hb hbase
 unfold Oper.wp execOp
 simp only[ho,resolve,invoke,builtin,Sem.run_bind,Sem.run_pure,Result.andThen_ok,List.map_toArray,List.map_cons,List.map_nil,hs,hz,hr]
 exact h v' w' h2 h3 h4

structure Lv (W:World) (A:Option Addr) (c:Nat) (l:List Itm):Prop where
 items:Items W A l
 nilc:du A l.length c
 len:l.length≤maxLen
theorem Lv.nil {W:World} {A:Option Addr} {c:Nat} {l:List Itm} (h:Lv W A c l):A=none→c=0:=h.nilc.z
theorem Lv.below {W W':World} {A:Option Addr} {c:Nat} {l:List Itm} (h:Lv W A c l) (q:Below W.heap.size W W'):Lv W' A c l:=⟨h.items.below q,h.nilc,h.len⟩
theorem Lv.gr {W W':World} {A:Option Addr} {c:Nat} {l:List Itm} (h:Lv W A c l) (q:Gr W W'):Lv W' A c l:=h.below q.below

end Go.Proofs.YtkefkplnamkicabGreatDoor

namespace Go.Proofs.YtkefkplnamkicabGreatDoor

theorem dd (x y:Int):(bj x y= -1∧x<y)∨(bj x y=0∧x=y)∨(bj x y=1∧y<x):=by
 unfold bj
 by_cases h:x<y
 ·rw[if_pos h];exact oL ⟨rfl,h⟩
 ·rw[if_neg h]
  by_cases k:y<x
  ·rw[if_pos k];exact oR (oR ⟨rfl,k⟩)
  ·rw[if_neg k];exact oR (oL ⟨rfl,by omega⟩)
theorem dK:∀a b:List Int,aB b a= -aB a b
 | [],[]=>rfl
 | [],_::_=>rfl
 | _::_,[]=>rfl
 | x::a,y::b=>by
  have h1:=dd x y
  have h2:=dd y x
  show (if bj y x=0 then aB b a else bj y x)= -(if bj x y=0 then aB a b else bj x y)
  by_cases e:x=y
  ·subst e
   have:bj x x=0:=by omega
   rw[if_pos this,if_pos this];exact dK a b
  ·rw[if_neg (by omega),if_neg (by omega)];omega
theorem gX:∀a:List Int,aB a a=0
 | []=>rfl
 | x::a=>by
  have h1:=dd x x
  show (if bj x x=0 then aB a a else bj x x)=0
  rw[if_pos (by omega)];exact gX a
theorem jc:∀a b:List Int,aB a b=0→a=b
 | [],[],_=>rfl
 | [],_::_,h=>by cases h
 | _::_,[],h=>by cases h
 | x::a,y::b,h=>by
  have h1:=dd x y
  have h':(if bj x y=0 then aB a b else bj x y)=0:=h
  by_cases e:bj x y=0
  ·rw[if_pos e] at h'
   obtain rfl:x=y:=by omega
   rw[jc a b h']
  ·rw[if_neg e] at h';exact absurd h' e
theorem fS:∀a b c:List Int,aB a b≤0→aB b c≤0→aB a c≤0∧(aB a b<0∨aB b c<0→aB a c<0)
 | [],b,[],h1,h2=>by
  cases b with
  | nil=>exact ⟨by decide,fun h=>by rcases h with h|h<;>cases h⟩
  | cons=>exact absurd h2 (by show ¬((1:Int)≤0);decide)
 | [],_,_::_,_,_=>⟨by show (-1:Int)≤0;decide,fun _=>by show (-1:Int)<0;decide⟩
 | _::_,[],_,h,_=>absurd h (by show ¬((1:Int)≤0);decide)
 | _::_,_::_,[],_,h=>absurd h (by show ¬((1:Int)≤0);decide)
 | x::a,y::b,z::c,h1,h2=>by
  have k1:=dd x y
  have k2:=dd y z
  have k3:=dd x z
  have h1':(if bj x y=0 then aB a b else bj x y)≤0:=h1
  have h2':(if bj y z=0 then aB b c else bj y z)≤0:=h2
  show (if bj x z=0 then aB a c else bj x z)≤0∧((if bj x y=0 then aB a b else bj x y)<0∨(if bj y z=0 then aB b c else bj y z)<0→(if bj x z=0 then aB a c else bj x z)<0)
  by_cases e1:bj x y=0
  ·rw[if_pos e1] at h1' ⊢
   by_cases e2:bj y z=0
   ·rw[if_pos e2] at h2' ⊢
    rw[if_pos (by omega)]
    exact fS a b c h1' h2'
   ·rw[if_neg e2] at h2' ⊢
    rw[if_neg (by omega)]
    exact ⟨by omega,fun _=>by omega⟩
  ·rw[if_neg e1] at h1' ⊢
   have e3:bj y z=0∨bj y z= -1:=by
    by_cases e2:bj y z=0
    ·exact oL e2
    ·rw[if_neg e2] at h2';omega
   rw[if_neg (by omega)]
   exact ⟨by omega,fun _=>by omega⟩
theorem cG {a b c:List Int} (h1:aB a b<0) (h2:aB b c<0):aB a c<0:=(fS a b c (by omega) (by omega)).2 (oL h1)
theorem fd {a b:List Int} (h:aB a b<0):a≠b:=fun e=>by rw[e,gX] at h;omega

def wt:List Zit→List Int→Int
 | [],_=>0
 | x::t,r=>(if x.1=r then x.2 else 0)+wt t r
theorem cC (a b:List Zit) (r:List Int):wt (a++b) r=wt a r+wt b r:=by
 induction a with
 | nil=>simp[wt]
 | cons x a ih=>simp only[List.cons_append,wt,ih];omega
theorem s6 {a b:List Zit} (h:a.Perm b) (r:List Int):wt a r=wt b r:=by
 induction h with
 | nil=>rfl
 | cons x _ ih=>simp only[wt,ih]
 | swap x y l=>simp only[wt];omega
 | trans _ _ h1 h2=>rw[h1,h2]
theorem iq {l:List Zit} {r:List Int} (h:∀x∈l,x.1≠r):wt l r=0:=by
 induction l with
 | nil=>rfl
 | cons x l ih =>
  simp only[wt]
  rw[if_neg (h x (by simp)),ih fun y hy=>h y (by simp[hy])];rfl
theorem og {l:List Zit} {r:List Int} (h:wt l r≠0):∃x∈l,x.1=r:=by
 induction l with
 | nil=>exact absurd rfl h
 | cons x l ih =>
  by_cases e:x.1=r
  ·exact ⟨x,by simp,e⟩
  ·simp only[wt] at h
   rw[if_neg e] at h
   obtain ⟨y,hy,hr⟩:=ih (by omega)
   exact ⟨y,by simp[hy],hr⟩
theorem ww (l:List Zit) (r:List Int):wt (l.map fun x=>(x.1,-x.2)) r= -wt l r:=by
 induction l with
 | nil=>rfl
 | cons x l ih =>
  simp only[List.map_cons,wt,ih]
  by_cases e:x.1=r
  ·rw[if_pos e,if_pos e];omega
  ·rw[if_neg e,if_neg e];omega

def eB (l:List Zit):Prop:=l.Pairwise fun x y=>aB x.1 y.1<0
def NoZ (l:List Zit):Prop:=∀x∈l,x.2≠0
theorem eB.wt {l:List Zit} (h:eB l) {x:Zit} (hx:x∈l):wt l x.1=x.2:=by
 induction l with
 | nil=>cases hx
 | cons y l ih =>
  have h':=List.pairwise_cons.1 h
  simp only[Go.Proofs.YtkefkplnamkicabGreatDoor.wt]
  rcases List.mem_cons.1 hx with e|e
  ·subst e
   rw[if_pos rfl,iq fun z hz k=>fd (h'.1 z hz) k.symm];omega
  ·rw[if_neg (fd (h'.1 x e)),ih h'.2 e];omega
theorem nk:∀ {a b:List Zit},eB a→eB b→NoZ a→NoZ b→(∀r,wt a r=wt b r)→a=b
 | [],[],_,_,_,_,_=>rfl
 | [],y::b,_,hb,_,nb,h=>by
  have h1:=h y.1
  rw[hb.wt (List.mem_cons_self ..)] at h1
  exact absurd h1.symm (nb y (mS ..))
 | x::a,[],ha,_,na,_,h=>by
  have h1:=h x.1
  rw[ha.wt (List.mem_cons_self ..)] at h1
  exact absurd h1 (na x (mS ..))
 | x::a,y::b,ha,hb,na,nb,h=>by
  have ha':=List.pairwise_cons.1 ha
  have hb':=List.pairwise_cons.1 hb
  have hx:=h x.1
  have hy:=h y.1
  rw[ha.wt (List.mem_cons_self ..)] at hx
  rw[hb.wt (List.mem_cons_self ..)] at hy
  have e:aB x.1 y.1=0:=by
   by_cases l1:aB x.1 y.1<0
   ·exfalso
    refine na x (mS ..) (hx.trans (iq fun z hz k=> ?_))
    rcases List.mem_cons.1 hz with e|e
    ·subst e;exact fd l1 k.symm
    ·exact fd (cG l1 (hb'.1 z e)) k.symm
   ·by_cases l2:aB y.1 x.1<0
    ·exfalso
     refine nb y (mS ..) (hy.symm.trans (iq fun z hz k=> ?_))
     rcases List.mem_cons.1 hz with e|e
     ·subst e;exact fd l2 k.symm
     ·exact fd (cG l2 (ha'.1 z e)) k.symm
    ·have:=dK x.1 y.1;omega
  have e1:=jc _ _ e
  have e2:x.2=y.2:=by rw[hx,e1,hb.wt (List.mem_cons_self ..)]
  obtain rfl:x=y:=Prod.ext e1 e2
  rw[nk ha'.2 hb'.2 (fun z hz=>na z (List.mem_cons_of_mem _ hz)) (fun z hz=>nb z (List.mem_cons_of_mem _ hz)) fun r=>by
   have:=h r
   simp only[Go.Proofs.YtkefkplnamkicabGreatDoor.wt] at this
   omega]

theorem i7 {l:List Zit} {k:Nat} (h:k<l.length):l.getD k ([],0)=l[k]:=by
 rw[List.getD_eq_getElem?_getD,List.getElem?_eq_getElem h];rfl
theorem bx (l:List Zit):aw l=0↔l.length≤400∧(∀x∈l,okZ x=true)∧eB l:=by
 unfold aw
 by_cases h4:400<l.length
 ·rw[if_pos h4]
  exact ⟨fun h=>absurd h (by decide),fun h=>absurd h.1 (by omega)⟩
 ·rw[if_neg h4]
  constructor
  ·intro h
   have hall:∀k,k<l.length→okZ (l.getD k ([],0))=true∧ji l k=true:=by
    intro k hk
    have:(okZ (l.getD k ([],0)) && ji l k)=true:=by
     cases e:(okZ (l.getD k ([],0)) && ji l k)
     ·rw[if_pos ⟨k,hk,e⟩] at h;cases h
     ·rfl
    simpa using this
   have hstep:∀k (h:k+1<l.length),aB l[k].1 l[k+1].1<0:=by
    intro k hk
    have:=(hall (k+1) hk).2
    unfold ji at this
    rw[Nat.add_sub_cancel,i7 hk,i7 (show k<l.length by omega)] at this
    simpa using this
   refine ⟨by omega,?_,?_⟩
   ·intro x hx
    obtain ⟨k,hk,rfl⟩:=List.mem_iff_getElem.1 hx
    have:=(hall k hk).1
    rwa [i7 hk] at this
   ·have:∀d i (hi:i+d+1<l.length),aB (l[i]'(by omega)).1 (l[i+d+1]'hi).1<0:=by
     intro d
     induction d with
     | zero=>intro i hi;exact hstep i hi
     | succ d ih=>intro i hi;exact cG (ih i (by omega)) (hstep (i+d+1) hi)
    unfold eB
    rw[List.pairwise_iff_getElem]
    intro i j hi hj hij
    have h':=this (j-i-1) i (by omega)
    have e:i+(j-i-1)+1=j:=by omega
    simpa only[e] using h'
  ·rintro ⟨_,h1,h2⟩
   rw[if_neg]
   rintro ⟨k,hk,hf⟩
   have h3:okZ (l.getD k ([],0))=true:=by rw[i7 hk];exact h1 _ (gM hk)
   have h5:ji l k=true:=by
    unfold ji
    by_cases e:k=0
    ·simp[e]
    ·rw[i7 hk,i7 (show k-1<l.length by omega)]
     have:=(List.pairwise_iff_getElem.1 h2) (k-1) k (by omega) hk (by omega)
     simp[this]
   rw[h3,h5] at hf;cases hf

def nI (l:List Zit):Prop:=∃r,okW (wt l r)=false
structure IsTot (l S:List Zit):Prop where
 rise:eB S
 noz:NoZ S
 same:∀r,wt S r=wt l r
theorem IsTot.uniq {l m S T:List Zit} (h:IsTot l S) (k:IsTot m T) (e:∀r,wt l r=wt m r):S=T:=nk h.rise k.rise h.noz k.noz fun r=>by rw[h.same,k.same,e]
theorem rP {l:List Zit} (h:∀x∈l,okZ x=true):NoZ l:=fun x hx=>by
 have:=h x hx
 unfold okZ at this
 simp at this
 exact this.2
theorem IsTot.row {l S:List Zit} (h:IsTot l S) {x:Zit} (hx:x∈S):∃y∈l,y.1=x.1:=og (by rw[←h.same,h.rise.wt hx];exact h.noz x hx)
theorem IsTot.okZ {l S:List Zit} (h:IsTot l S) (hb:¬nI l) (hr:∀x∈l,okR x.1=true):∀x∈S,okZ x=true:=by
 intro x hx
 obtain ⟨y,hy,e⟩:=h.row hx
 have h1:=hr y hy
 have h2:okW x.2=true:=by
  cases e2:okW x.2
  ·exact absurd ⟨x.1,by rw[←h.same,h.rise.wt hx];exact e2⟩ hb
  ·rfl
 unfold Go.Proofs.YtkefkplnamkicabGreatDoor.okZ
 rw[←e,h1,h2]
 simp[h.noz x hx]
theorem bL {x:Zit} (h:okZ x=true):okR x.1=true∧okW x.2=true∧x.2≠0:=by
 unfold okZ at h
 simp only[Bool.and_eq_true,decide_eq_true_eq] at h
 exact ⟨h.1.1,h.1.2,h.2⟩
theorem xq (n:Int):okW (-n)=okW n:=by
 unfold okW inB
 rw[Bool.eq_iff_iff]
 simp only[Bool.and_eq_true,decide_eq_true_eq]
 omega
theorem xm {l:List Zit} (h:aw l=0):aw (l.map fun x=>(x.1,-x.2))=0:=by
 rw[bx] at h ⊢
 refine ⟨by simpa using h.1,?_,?_⟩
 ·intro x hx
  obtain ⟨y,hy,rfl⟩:=List.mem_map.1 hx
  have:=bL (h.2.1 y hy)
  unfold okZ
  simp only[Bool.and_eq_true,decide_eq_true_eq]
  exact ⟨⟨this.1,by rw[xq];exact this.2.1⟩,by omega⟩
 ·unfold eB
  rw[List.pairwise_map]
  exact h.2.2

end Go.Proofs.YtkefkplnamkicabGreatDoor
