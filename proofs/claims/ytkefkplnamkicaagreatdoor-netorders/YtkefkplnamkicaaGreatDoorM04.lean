/-
  dot.Make: the context that has just the dots of a list.
  table.contextOf and what is handed to it; slices.ContainsFunc at cells, with what table.Del hands in.
  Lists of numbers: slices.Sort and slices.Compact at them, table.risingOnce, table.Values, table.Keys.
  The small functions of package zset: isWeight, isRow.
  slices.Compare at numbers, and zset.Order: they tell the order of two rows.
  Items (a row and how many times it is there): what they are in memory; what zset.Check answers.
-/
import Derived.Test.YtkefkplnamkicaaGreatDoorM03
set_option maxRecDepth 100000
set_option maxHeartbeats 8000000
open Go.Ending renaming returned → J
open Go.IntKind renaming i64 → I
open Go.Obj renaming cells → Z
open Go.Proofs.Tryz renaming prog → O
open Go.Value renaming int → V, slice → S, tuple → H, agg → Y, bool → X, pointer → U
namespace Go.Proofs.YtkefkplnamkicaaGreatDoor
open Go.RowKit Go.Sort

def aM:Ctx:=⟨0,0,0,0,[]⟩
def bU (l:List (Int×Int)):Int:=if 400<l.length then 2 else if nz l=true then 5 else 0
def dT (c:Ctx) (l:List (Int×Int)):Ctx:=av c (srt l) (srt l).length
def aE (l:List (Int×Int)):Ctx:=if bU l=0 then dT aM l else aM

theorem k7 {l:List (Int×Int)} {x:Int×Int} (h:x∈srt l):x∈l:=by
 unfold srt at h
 exact (List.mergeSort_perm l _).mem_iff.1 h

theorem re (l:List (Int×Int)) (A:Option Addr) (cap:Nat) (w:World) (hl:l.length≤maxLen) (hA:A=none→cap=0) (hr:Row w A l) :
  Calls O 157 #[S A l.length cap] w fun e w'=>∃C cp,e= J (H #[Y #[V I (aE l).c0,V I (aE l).c1,V I (aE l).c2,V I (aE l).c3,S C (aE l).l.length cp],V I (bU l)])∧Row w' C (aE l).l∧(C=none→cp=0)∧(∀a,C=some a→w.heap.size≤a.block)∧Below w.heap.size w w':=by
 unfold maxLen at hl
 have hg0:=gR (w.alloc (Z #[V I 0,V I 0,V I 0,V I 0,S none 0 0] 38))
 have r0:=ab hg0 (j:=0) rfl
 have r1:=ab hg0 (j:=1) rfl
 have r2:=ab hg0 (j:=2) rfl
 have r3:=ab hg0 (j:=3) rfl
 have r4:=ab hg0 (j:=4) rfl
 have rf:=fun j=>eP hg0 j
 by_cases h400:400<l.length
 ·have h400z:(400:Int)<(l.length:Int):=by omega
  have hfin:Hid (bU l=2∧aE l=aM):=by
   have:bU l=2:=by simp[bU,h400]
   exact ⟨this,by simp[aE,this]⟩
  go_enter Tryz.func157,Tryz.ntmps157
  go_wp2
  rw[hfin.out.1,hfin.out.2]
  exact bodyPost_ret (v:= H #[Y #[V I 0,V I 0,V I 0,V I 0,S none 0 0],V I 2]) (by simp[results,Tryz.results157,go_sem]) rfl ⟨none,0,rfl,oL rfl,fun _=>rfl,(fun a ha=>by cases ha),(bR _ _).alloc (nR _) _⟩
 ·have h400z:¬(400:Int)<(l.length:Int):=by omega
  clear r0 r1 r2 r3 r4 rf hg0
  go_enter Tryz.func157,Tryz.ntmps157
  go_wp2
  go_loopw [12] (fun i wr=>∃k:Nat,k≤l.length∧i= V I k∧Hid (∀j (h:j<l.length),j<k→ar l[j]=true)∧Gr (w.alloc (Z #[V I 0,V I 0,V I 0,V I 0,S none 0 0] 38)) wr) (fun i _=>l.length-(intOf i).toNat)
  case atStart=>exact ⟨0,nZ _,rfl,fun j _ hj=>absurd hj (Nat.not_lt_zero _),gR _⟩
  case round =>
   obtain ⟨k,hk,rfl,hno,hgr⟩:=hrel
   have r0:=ab hgr (j:=0) rfl
   have r1:=ab hgr (j:=1) rfl
   have r2:=ab hgr (j:=2) rfl
   have r3:=ab hgr (j:=3) rfl
   have r4:=ab hgr (j:=4) rfl
   have rf:=fun j=>eP hgr j
   by_cases hlt:k<l.length
   ·have hltz:(k:Int)<(l.length:Int):=by omega
    obtain ⟨b,off,rfl,hb,hcs⟩:=(hr.gr (ci hgr)).at hlt
    obtain ⟨x,y,hx⟩:∃x y,l[k]=(x,y):=⟨_,_,rfl⟩
    have e0:=(hcs k hlt).1
    have e1:=(hcs k hlt).2
    rw[hx] at e0 e1
    have hxH:Hid (l[k]=(x,y)):=hx
    clear hcs hx
    cases hq:ar (x,y)
    ·have hfin:Hid (bU l=5∧aE l=aM):=by
      have:bU l=5:=by simp[bU,h400,yH hlt hxH.out hq]
      exact ⟨this,by simp[aE,this]⟩
     go_wp2_with (go_at_call 90;refine (ii hq _).mono ?_;rintro e w1 ⟨rfl,hg1⟩;have hgA:=(hgr.alloc (Z #[V I x,V I y] 95)).trans hg1;have q0:=ab hgA (j:=0) rfl;have q1:=ab hgA (j:=1) rfl;have q2:=ab hgA (j:=2) rfl;have q3:=ab hgA (j:=3) rfl;have q4:=ab hgA (j:=4) rfl;have qf:=fun j=>eP hgA j)
     rw[hfin.out.1,hfin.out.2]
     exact bodyPost_ret (v:= H #[Y #[V I 0,V I 0,V I 0,V I 0,S none 0 0],V I 5]) (by simp[results,Tryz.results157,go_sem,q0,q1,q2,q3,q4]) rfl ⟨none,0,rfl,oL rfl,fun _=>rfl,(fun a ha=>by cases ha),((((((ci hgA).below.setCell (by simp) _).setCell (by simp) _).setCell (by simp) _).setCell (by simp) _).setCell (by simp) _)⟩
    ·go_wp2_with (go_at_call 90;refine (ii hq _).mono ?_;rintro e w1 ⟨rfl,hg1⟩)
     go_roundw
     case rel =>
      refine ⟨k+1,by omega,by go_num,?_,(hgr.alloc _).trans hg1⟩
      intro j hj hjk
      by_cases e:j=k
      ·subst e;rw[hxH.out];exact hq
      ·exact hno j hj (by omega)
     case measure=>simp[intOf];omega
   ·have hltz:¬(k:Int)<(l.length:Int):=by omega
    have hbad:nz l=false:=qr fun j hj=>hno j hj (by omega)
    have hfin:Hid (bU l=0∧aE l=dT aM l):=by
     have:bU l=0:=by simp[bU,h400,hbad]
     exact ⟨this,by simp[aE,this]⟩
    have hall:Hid (∀x∈srt l,ar x=true):=fun x hx=>vW hbad x (k7 hx)
    clear hbad r0 r1 r2 r3 r4 rf
    have hris:=mU l [] A none cap 0 wr (hr.gr (ci hgr)) (oL rfl) hA (fun _=>rfl) (by omega) (by simp)
    simp only[List.length_nil,List.append_nil] at hris
    have hrisH:Hid _:=hris
    clear hris
    go_wp2_with fail
    refine cM (show Calls _ _ _ _ _ from hrisH.out) ?_
    rintro e w1 ⟨C1,cp1,rfl,hrow1,hb1⟩
    clear hrisH
    have hfold:=qN aM (srt l) C1 cp1 w1 rfl (by decide) (by rw[fm];omega) hall.out hrow1
    change Calls O 163 #[Y #[V I 0,V I 0,V I 0,V I 0],S C1 (srt l).length cp1] w1 _ at hfold
    have hfoldH:Hid _:=hfold
    clear hfold
    go_wp2_with fail
    refine cM (show Calls _ _ _ _ _ from hfoldH.out) ?_
    rintro e w2 ⟨C2,cp2,rfl,hrow2,hC2,hCb,hb2⟩
    clear hfoldH
    obtain ⟨F,hF⟩:∃F,av aM (srt l) (srt l).length=F:=⟨_,rfl⟩
    rw[hF] at hrow2 ⊢
    have HF:Hid (dT aM l=F):=hF
    clear hF
    have hsz:=hgr.size
    simp only[World.size_alloc] at hsz
    have hb2':Below (w.heap.size+1) wr w2:=(hb1.mono (by omega)).trans (hb2.mono (by have:=hb1.size;omega))
    have s0:=(hb2'.cell (p:=⟨w.heap.size,0,none⟩) (by simp)).trans (ab hgr (j:=0) rfl)
    have s1:=(hb2'.cell (p:=⟨w.heap.size,1,none⟩) (by simp)).trans (ab hgr (j:=1) rfl)
    have s2:=(hb2'.cell (p:=⟨w.heap.size,2,none⟩) (by simp)).trans (ab hgr (j:=2) rfl)
    have s3:=(hb2'.cell (p:=⟨w.heap.size,3,none⟩) (by simp)).trans (ab hgr (j:=3) rfl)
    have s4:=(hb2'.cell (p:=⟨w.heap.size,4,none⟩) (by simp)).trans (ab hgr (j:=4) rfl)
    have sf:∀j,w2.frozen? ⟨w.heap.size,j,none⟩=false:=fun j=>(hb2'.frozen (p:=⟨w.heap.size,j,none⟩) (by simp)).trans (eP hgr j)
    have hbw:Hid (Below w.heap.size w w2):=(ci hgr).below.trans (hb2'.mono (by omega))
    have hCn:∀a,C2=some a→a.block≠w.heap.size:=fun a ha=>by have:=hCb a ha;have:=hb1.size;omega
    have hw1:w.heap.size≤w1.heap.size:=by have:=hb1.size;omega
    clear hb2' hb1 hb2
    go_wp2
    rw[hfin.out.1,hfin.out.2,HF.out]
    refine bodyPost_ret (v:= H #[Y #[V I F.c0,V I F.c1,V I F.c2,V I F.c3,S C2 F.l.length cp2],V I 0]) (by simp[results,Tryz.results157,go_sem,s0,s1,s2,s3,s4]) rfl ⟨C2,cp2,rfl,?_,hC2,fun a ha=>nT (by omega) (hCb a ha),?_⟩
    ·exact ((((hrow2.setCell _ hCn).setCell _ hCn).setCell _ hCn).setCell _ hCn).setCell _ hCn
    ·exact ((((hbw.out.setCell (nR _) _).setCell (nR _) _).setCell (nR _) _).setCell (nR _) _).setCell (nR _) _

def ak (p:Cel→Bool) (l:List Cel):List (Int×Int):=(l.filter p).map (·.1)

def dd (key col:Int) (x:Cel):Bool:=decide (x.2.1=key) && decide (x.2.2.1=col)
def eF (key:Int) (x:Cel):Bool:=decide (x.2.1=key)

theorem wO (key col:Int) (p q:Nat) (x:Cel) (w:World) (hp:p<w.heap.size) (hq:q<w.heap.size) (kp:w.cell? ⟨p,0,none⟩=some (V I key)) (kq:w.cell? ⟨q,0,none⟩=some (V I col)) :
  Calls O 156 #[Y #[V I x.1.1,V I x.1.2,V I x.2.1,V I x.2.2.1,V I x.2.2.2],U (some ⟨p,0,none⟩),U (some ⟨q,0,none⟩)] w fun e w'=>e= J (X (dd key col x))∧Gr w w':=by
 by_cases h1:x.2.1=key
 ·by_cases h2:x.2.2.1=col
  ·have e:dd key col x=true:=by simp[dd,h1,h2]
   rw[e];clear e
   go_enter Tryz.func156,Tryz.ntmps156
   go_wp2
   go_ret
   exact ⟨rfl,(gR _).alloc _⟩
  ·have e:dd key col x=false:=by simp[dd,h2]
   rw[e];clear e
   go_enter Tryz.func156,Tryz.ntmps156
   go_wp2
   go_ret
   exact ⟨by simpa using h2,(gR _).alloc _⟩
 ·have e:dd key col x=false:=by simp[dd,h1]
  rw[e];clear e
  go_enter Tryz.func156,Tryz.ntmps156
  go_wp2
  go_ret
  exact ⟨rfl,(gR _).alloc _⟩

theorem qI (key:Int) (p:Nat) (x:Cel) (w:World) (hp:p<w.heap.size) (kp:w.cell? ⟨p,0,none⟩=some (V I key)) :
  Calls O 158 #[Y #[V I x.1.1,V I x.1.2,V I x.2.1,V I x.2.2.1,V I x.2.2.2],U (some ⟨p,0,none⟩)] w fun e w'=>e= J (X (eF key x))∧Gr w w':=by
 by_cases h1:x.2.1=key
 ·have e:eF key x=true:=by simp[eF,h1]
  rw[e];clear e
  go_enter Tryz.func158,Tryz.ntmps158
  go_wp2
  go_ret
  exact ⟨by simp[h1],(gR _).alloc _⟩
 ·have e:eF key x=false:=by simp[eF,h1]
  rw[e];clear e
  go_enter Tryz.func158,Tryz.ntmps158
  go_wp2
  go_ret
  exact ⟨by simpa using h1,(gR _).alloc _⟩

def tv (g:Nat) (lb:Array Value) (p:Cel→Bool) (w:World):Prop:=∀W,Gr w W→∀x:Cel,Calls O g (#[Y #[V I x.1.1,V I x.1.2,V I x.2.1,V I x.2.2.1,V I x.2.2.2]]++lb) W fun e w'=>e= J (X (p x))∧Gr W w'

theorem Bg (key:Int) (p:Nat) (w:World) (hp:p<w.heap.size) (kp:w.cell? ⟨p,0,none⟩=some (V I key)):tv 158 #[U (some ⟨p,0,none⟩)] (eF key) w :=
 fun W hg x=>qI key p x W (nL hp hg.size) ((hg.cell (p:=⟨p,0,none⟩) hp).trans kp)

theorem mx (p:Cel→Bool) (g:Nat) (lb:Array Value) (hfn:∀args w,(callFunc g args).run O w= .ok (.enter g args) w) (l:List Cel) (A:Option Addr) (cap:Nat) (w:World) (hl:l.length≤maxLen) (hr:bw w A l) (hp:tv g lb p w) :
  Calls O 195 #[S A l.length cap,.func (.func g) #[] lb] w fun e w'=>∃r:Int,e= J (V I r)∧Hid (decide (0≤r)=l.any p)∧Gr w w':=by
 unfold maxLen at hl
 go_enter Tryz.func195,Tryz.ntmps195
 go_wp2
 go_loopw [8] (fun i wr=>∃k:Nat,k≤l.length∧i= V I k∧Hid (∀j (h:j<l.length),j<k→p l[j]=false)∧Gr w wr) (fun i _=>l.length-(intOf i).toNat)
 case atStart=>exact ⟨0,nZ _,rfl,fun j _ hj=>absurd hj (Nat.not_lt_zero _),gR _⟩
 case round =>
  obtain ⟨k,hk,rfl,hno,hgr⟩:=hrel
  by_cases hlt:k<l.length
  ·have hltz:(k:Int)<(l.length:Int):=by omega
   obtain ⟨bb,off,rfl,hb,hcs⟩:=bw.get (hr.gr hgr) hlt
   obtain ⟨x,hx⟩:∃x,l[k]=x:=⟨_,rfl⟩
   obtain ⟨e0,e1,e2,e3,e4⟩:=hcs k hlt
   rw[hx] at e0 e1 e2 e3 e4
   have hxH:Hid (l[k]=x):=hx
   clear hcs hx
   have hcall:=hp wr hgr x
   have hcallH:Hid _:=hcall
   clear hcall
   go_wp2
   refine cM (show Calls _ _ _ _ _ from hcallH.out) ?_
   rintro e w2 ⟨rfl,hg2⟩
   clear hcallH
   cases hq:p x
   ·go_wp2
    go_roundw
    case rel =>
     refine ⟨k+1,by omega,by go_num,?_,hgr.trans hg2⟩
     intro j hj hjk
     by_cases e:j=k
     ·subst e;rw[hxH.out];exact hq
     ·exact hno j hj (by omega)
    case measure=>simp[intOf];omega
   ·have hfin:Hid (decide ((0:Int)≤(k:Int))=l.any p):=by
     have:l.any p=true:=by
      rw[List.any_eq_true]
      exact ⟨l[k],gM hlt,by rw[hxH.out,hq]⟩
     show decide _=_
     rw[this];simp
    go_wp2
    go_ret
    exact ⟨_,rfl,hfin,hgr.trans hg2⟩
  ·have hltz:¬(k:Int)<(l.length:Int):=by omega
   have hfin:Hid (decide ((0:Int)≤ -1)=l.any p):=by
    have:l.any p=false:=by
     rw[List.any_eq_false]
     intro x hx
     obtain ⟨j,hj,rfl⟩:=List.getElem_of_mem hx
     rw[hno j hj (by omega)];simp
    show decide _=_
    rw[this];simp
   go_wp2
   go_ret
   exact ⟨_,rfl,hfin,hgr⟩

theorem fx (p:Cel→Bool) (g:Nat) (lb:Array Value) (hfn:∀args w,(callFunc g args).run O w= .ok (.enter g args) w) (l:List Cel) (A:Option Addr) (cap:Nat) (w:World) (hl:l.length≤maxLen) (hr:bw w A l) (hp:tv g lb p w) :
  Calls O 159 #[S A l.length cap,.func (.func g) #[] lb] w fun e w'=>e= J (X (l.any p))∧Gr w w':=by
 go_enter Tryz.func159,Tryz.ntmps159
 go_wp2_with fail
 refine (mx p g lb hfn l A cap _ hl hr hp).mono ?_
 rintro e w' ⟨r,rfl,hrr,hg⟩
 go_wp2
 go_ret
 exact ⟨by rw[←hrr.out];rfl,hg⟩

theorem kW {p:Cel→Bool} {l:List Cel} {k:Nat} (h:k<l.length) {x:Cel} (hx:l[k]=x):ak p (l.take (k+1))=ak p (l.take k)++(if p x then [x.1] else []):=by
 unfold ak
 rw[List.take_succ_eq_append_getElem h,List.filter_append,List.map_append,hx]
 cases hq:p x<;>simp[hq]
theorem dM (p:Cel→Bool) (l:List Cel):(ak p l).length≤l.length:=by
 unfold ak
 rw[List.length_map]
 exact List.length_filter_le _ _

theorem j7 (p:Cel→Bool) (g:Nat) (lb:Array Value) (hfn:∀args w,(callFunc g args).run O w= .ok (.enter g args) w) (l:List Cel) (A:Option Addr) (cap:Nat) (w:World) (hl:l.length≤400) (hr:bw w A l) (hp:∀W,Below w.heap.size w W→∀x:Cel,Calls O g (#[Y #[V I x.1.1,V I x.1.2,V I x.2.1,V I x.2.2.1,V I x.2.2.2]]++lb) W fun e w'=>e= J (X (p x))∧Gr W w') :
  Calls O 155 #[S A l.length cap,.func (.func g) #[] lb] w fun e w'=>∃C cp,e= J (H #[Y #[V I (aE (ak p l)).c0,V I (aE (ak p l)).c1,V I (aE (ak p l)).c2,V I (aE (ak p l)).c3,S C (aE (ak p l)).l.length cp],V I (bU (ak p l))])∧Row w' C (aE (ak p l)).l∧(C=none→cp=0)∧(∀a,C=some a→w.heap.size≤a.block)∧Below w.heap.size w w':=by
 have hz0:ZAt (w.alloc (Z #[V I 0,V I 0,V I 0,V I 0,S none 0 0] 38)) w.heap.size:=ZAt.new w 38 rfl
 have hbw0:Hid (Below w.heap.size w (w.alloc (Z #[V I 0,V I 0,V I 0,V I 0,S none 0 0] 38))):=((gR w).alloc _).below
 have hsz0:(w.alloc (Z #[V I 0,V I 0,V I 0,V I 0,S none 0 0] 38)).heap.size=w.heap.size+1:=by simp
 go_enter Tryz.func155,Tryz.ntmps155
 go_wp2
 generalize w.alloc (Z #[V I 0,V I 0,V I 0,V I 0,S none 0 0] 38)=w0 at hz0 hbw0 hsz0 ⊢
 have hszH:Hid (w0.heap.size=w.heap.size+1):=hsz0
 clear hsz0
 go_loopw [6,11] (fun v i wr=>∃k:Nat,k≤l.length∧i= V I k∧Own wr (w.heap.size+1) v (ak p (l.take k))∧Below (w.heap.size+1) w0 wr) (fun _ i _=>l.length-(intOf i).toNat)
 case atStart=>exact ⟨0,by omega,rfl,Own.nil _ _,bR _ _⟩
 case round =>
  obtain ⟨k,hk,rfl,hov,hbel⟩:=hrel
  obtain ⟨A1,cap1,rfl,hA1,hrow1,hlt1⟩:=hov.row
  have hsR:w.heap.size+1≤wr.heap.size:=by have:=hbel.size;have:=hszH.out;omega
  have hbwR:Below w.heap.size w wr:=hbw0.out.trans (hbel.mono (by omega))
  by_cases hlt:k<l.length
  ·have hltz:(k:Int)<(l.length:Int):=by omega
   obtain ⟨bb,off,rfl,hb,hcs⟩:=bw.get (hr.below hbwR) hlt
   obtain ⟨x,hx⟩:∃x,l[k]=x:=⟨_,rfl⟩
   obtain ⟨e0,e1,e2,e3,e4⟩:=hcs k hlt
   rw[hx] at e0 e1 e2 e3 e4
   have hst:=kW (p:=p) hlt hx
   clear hcs hx
   have hgX:Gr wr (wr.alloc (Z #[V I x.1.1,V I x.1.2,V I x.2.1,V I x.2.2.1,V I x.2.2.2] 97)):=(gR _).alloc _
   have hxX:=CelAt.new (w:=wr) x 97 rfl
   have hcall:=hp (wr.alloc (Z #[V I x.1.1,V I x.1.2,V I x.2.1,V I x.2.2.1,V I x.2.2.2] 97)) (hbwR.trans (hgX.below.mono (by omega))) x
   have hcallH:Hid _:=hcall
   clear hcall
   obtain ⟨M,HM⟩:∃M,ak p (l.take k)=M:=⟨_,rfl⟩
   have hMl:M.length≤400:=by rw[←HM];exact nT (dM _ _) (by rw[List.length_take];omega)
   rw[HM] at hov hst hrow1 ⊢
   clear HM
   obtain ⟨x0,x1,x2,x3,x4,xlt⟩:=(show CelAt _ _ _ from hxX)
   have hovH:Hid (Own wr (w.heap.size+1) (S A1 M.length cap1) M):=hov
   have hbelH:Hid (Below (w.heap.size+1) w0 wr):=hbel
   clear hov hbel hrow1
   go_wp2
   refine cM (show Calls _ _ _ _ _ from hcallH.out) ?_
   rintro e w2 ⟨rfl,hg2⟩
   clear hcallH x0 x1 x2 x3 x4
   have hg02:Gr wr w2:=hgX.trans hg2
   obtain ⟨x0,x1,x2,x3,x4,xlt2⟩:=(show CelAt _ _ _ from hxX.gr hg2)
   cases hq:p x
   ·have hst2:Hid (ak p (l.take (k+1))=M):=by show _=_;rw[hst,hq];simp
    clear hst
    go_wp2
    go_roundw
    case rel=>exact ⟨k+1,by omega,by go_num,by rw[hst2.out];exact hovH.out.gr hg02,hbelH.out.trans (hg02.below.mono (by omega))⟩
    case measure=>simp[intOf];omega
   ·have hst2:Hid (ak p (l.take (k+1))=M++[x.1]):=by show _=_;rw[hst,hq];simp
    have hbd:Hid ((M.length+[x.1].length)*16≤140737488355328):=by show _≤_;simp only[List.length_cons,List.length_nil];omega
    clear hst
    go_wp2_with (at_builtin;refine aJ _ rfl _ _ rfl (w.heap.size+1) (S A1 M.length cap1) M [x.1] (some ⟨w2.heap.size,0,none⟩) 1 rfl rfl ?ho ?hr (fun h=>by cases h) hbd.out ?hs ?_)
    case ho=>exact hovH.out.gr (hg02.alloc _)
    case hr=>exact iz rfl x.1.1 x.1.2 _
    case hs=>have:=(hg02.alloc (Z #[V I x.1.1,V I x.1.2] 95)).size;simp at this ⊢;omega
    intro v1 w3 hown1 hgr1 hat1
    have hb3:Hid (Below (w.heap.size+1) w0 w3):=hbelH.out.trans (((hg02.alloc _).below.mono (by omega)).trans (Own.grown_below (hovH.out.gr (hg02.alloc _)) hgr1 (by have:=(hg02.alloc (Z #[V I x.1.1,V I x.1.2] 95)).size;simp at this ⊢;omega)))
    have hownH:Hid (Own w3 (w.heap.size+1) v1 (M++[x.1])):=hown1
    clear hown1 hgr1 hat1
    go_wp2
    go_roundw
    case rel=>exact ⟨k+1,by omega,by go_num,by rw[hst2.out];exact hownH.out,hb3.out⟩
    case measure=>simp[intOf];omega
  ·have hltz:¬(k:Int)<(l.length:Int):=by omega
   have hke:l.take k=l:=List.take_of_length_le (by omega)
   rw[hke] at hov hrow1 ⊢
   obtain ⟨M,HM⟩:∃M,ak p l=M:=⟨_,rfl⟩
   have hMl:M.length≤400:=by rw[←HM];exact nT (dM _ _) hl
   rw[HM] at hov hrow1 ⊢
   have HMH:Hid (ak p l=M):=HM
   clear HM hke
   have hmk:=re M A1 cap1 wr (by unfold maxLen;omega) hA1 hrow1
   have hmkH:Hid _:=hmk
   have hzR:=(hz0.below (hbel.mono (by have:=hszH.out;omega)))
   clear hmk hov
   go_wp2_with fail
   refine cM (show Calls _ _ _ _ _ from hmkH.out) ?_
   rintro e w2 ⟨C,cp,rfl,hrow2,hC,hCb,hb2⟩
   clear hmkH
   obtain ⟨z0,z1,z2,z3,z4,zf,zlt⟩:=(show ZAt _ _ from hzR.below hb2)
   have hCn:∀a,C=some a→a.block≠w.heap.size:=fun a ha=>by have:=hCb a ha;omega
   have hbw2:Hid (Below w.heap.size w w2):=hbwR.trans (hb2.mono (by omega))
   obtain ⟨F,hF⟩:∃F,aE M=F:=⟨_,rfl⟩
   rw[hF] at hrow2 ⊢
   have HF:Hid (aE M=F):=hF
   clear hF
   go_wp2
   rw[HMH.out,HF.out]
   refine bodyPost_ret (v:= H #[Y #[V I F.c0,V I F.c1,V I F.c2,V I F.c3,S C F.l.length cp],V I (bU M)]) (by simp[results,Tryz.results155,go_sem,z0,z1,z2,z3,z4]) rfl ⟨C,cp,rfl,?_,hC,fun a ha=>nT (by omega) (hCb a ha),?_⟩
   ·exact ((((hrow2.setCell _ hCn).setCell _ hCn).setCell _ hCn).setCell _ hCn).setCell _ hCn
   ·exact bm hbw2.out (nR _) _ _ _ _ _

section
open Go.Shelf Go.Lib

def fp (x:Int):List Value:=[V I x]
theorem bZ (x:Int):(fp x).length=1:=rfl
theorem wH (x:Int):∀u∈fp x,u.oneCell'=true:=by
 intro u hu
 simp[fp] at hu
 rw[hu];rfl
abbrev ay (w:World) (A:Option Addr) (l:List Int):Prop:=au fp 1 w A l
abbrev eB (w:World) (base:Nat) (v:Value) (l:List Int):Prop:=af fp 1 3 w base v l

theorem ig (d:Array Int):∀m,(compactUpTo d m).length≤m
 | 0=>by simp[compactUpTo]
 | m+1=>by
  have:=ig d m
  rw[compactUpTo_succ,List.length_append]
  split<;>simp<;>omega
theorem lX (l:List Int):(compact l).length≤l.length:=ig _ _
def cN (l:List Int):List Int:=compact (l.mergeSort fun x y=>decide (x≤y))
theorem iS (l:List Int):(cN l).length≤l.length:=by
 unfold cN
 refine nT (lX _) ?_
 simp

theorem Au {w:World} {g:Nat} {l:List Int} (h:ay w (some ⟨g,0,none⟩) l) (hf:∀j,w.frozen? ⟨g,j,none⟩=false):Holds (Value.int I) w g 0 l.toArray:=by
 intro j hj
 have hj':j<l.length:=by simpa using hj
 obtain ⟨b,off,hA,hb,hc⟩:=h.at hj'
 obtain ⟨rfl,rfl⟩:g=b∧0=off:=by injection hA with hA;injection hA with h1 h2;exact ⟨h1,h2⟩
 refine ⟨?_,hf _⟩
 have:=hc j hj' 0 (by omega)
 have e:l.toArray[j]! = l[j]:=by simp[hj']
 rw[e]
 simpa[fp] using this
theorem zF {w:World} {g:Nat} {l m:List Int} (h:Holds (Value.int I) w g 0 (l++m).toArray) (hg:g<w.heap.size):ay w (some ⟨g,0,none⟩) l:=by
 refine oR ⟨g,0,rfl,hg,fun j hj i hi=> ?_⟩
 obtain rfl:i=0:=by omega
 have h0:=(h j (by simp;omega)).1
 have e:(l++m).toArray[j]! = l[j]:=by
  have h1:j<(l++m).length:=by rw[List.length_append];omega
  have h2:(l++m).toArray[j]! = (l++m)[j]:=by
   rw[getElem!_pos (l++m).toArray j (by simpa using h1)]
   rfl
  rw[h2,List.getElem_append_left hj]
 rw[e] at h0
 simpa[fp] using h0
theorem lR {w:World} {g n base:Nat} {d:Array Int} (hb:base≤g):Below base w (putRow (Value.int I) (Sort.ahead w n) g 0 d):=by
 refine ⟨rfl,rfl,rfl,by simp[putRow,mapBlock,Sort.ahead],fun k hk=> ?_⟩
 show ((Sort.ahead w n).heap.modify g _)[k]? = _
 rw[Array.getElem?_modify,if_neg (by omega)]
 rfl
theorem kO {w:World} {g n:Nat} {d:Array Int}:(putRow (Value.int I) (Sort.ahead w n) g 0 d).heap.size=w.heap.size:=by simp[putRow,mapBlock,Sort.ahead]

theorem Bo (g cap:Nat) (l:List Int) (w:World) (hH:Holds (Value.int I) w g 0 l.toArray) (hg:g<w.heap.size) (hsz:l.length<4611686018427387904) :
  Calls O 72 #[S (some ⟨g,0,none⟩) l.length cap] w fun e w'=>e= J (H #[])∧Holds (Value.int I) w' g 0 (l.mergeSort fun x y=>decide (x≤y)).toArray∧g<w'.heap.size∧∀base,base≤g→Below base w w':=by
 have hcon:=Any.slices_Sort_int Tryz.sortInt g 0 cap l w hH hg hsz
 change Calls O 72 _ _ _ at hcon
 refine hcon.mono ?_
 rintro e w' ⟨he,n,os,hw⟩
 have hs:g<(putRow (Value.int I) (Sort.ahead w n) g 0 (l.mergeSort fun x y=>decide (x≤y)).toArray).heap.size:=by rw[kO];exact hg
 refine ⟨he,?_,?_,fun base hb=> ?_⟩
 ·rw[hw]
  exact holds_grow _ _ _ _ _ _ hs (holds_putRow _ _ _ _ l.toArray _ (holds_ahead _ _ _ _ _ _ hH) (by simp))
 ·rw[hw];simp only[grow,Array.size_append];omega
 ·rw[hw]
  refine (lR (n:=n) (d:=(l.mergeSort fun x y=>decide (x≤y)).toArray) hb).trans ?_
  have hgr:Gr (putRow (Value.int I) (Sort.ahead w n) g 0 (l.mergeSort fun x y=>decide (x≤y)).toArray) (grow (putRow (Value.int I) (Sort.ahead w n) g 0 (l.mergeSort fun x y=>decide (x≤y)).toArray) os):=⟨0,os,rfl⟩
  exact hgr.below.mono (by rw[kO];omega)

theorem vB (A:Option Addr) (cap:Nat) (w:World):Calls O 72 #[S A 0 cap] w fun e w'=>e= J (H #[])∧w'=w :=
 Any.slices_Sort_int_none Tryz.sortInt A cap w

theorem wA (g cap:Nat) (l:List Int) (w:World) (hH:Holds (Value.int I) w g 0 l.toArray) (hg:g<w.heap.size) (hsz:l.length≤9223372036854775807) (hcap:l.length≤cap) :
  Calls O 73 #[S (some ⟨g,0,none⟩) l.length cap] w fun e w'=>e= J (S (some ⟨g,0,none⟩) (compact l).length cap)∧ay w' (some ⟨g,0,none⟩) (compact l)∧∀base,base≤g→Below base w w':=by
 have hcon:=Any.slices_Compact_int Tryz.compactInt g 0 cap l w hH hsz hcap
 change Calls O 73 _ _ _ at hcon
 refine hcon.mono ?_
 rintro e w' ⟨he,n,hw⟩
 refine ⟨he,?_,fun base hb=>by rw[hw];exact lR hb⟩
 rw[hw]
 refine zF (m:=List.replicate (l.length-(compact l).length) 0) (holds_putRow _ _ _ _ l.toArray _ (holds_ahead _ _ _ _ _ _ hH) ?_) (by rw[kO];exact hg)
 have:=lX l
 simp
 omega
theorem pE (A:Option Addr) (cap:Nat) (w:World):Calls O 73 #[S A 0 cap] w fun e w'=>e= J (S A 0 cap)∧w'=w :=
 Any.slices_Compact_int_empty Tryz.compactInt A cap w

theorem iw (l:List Int) (base:Nat) (v:Value) (w:World) (hown:eB w base v l) (hl:l.length<4611686018427387904) :
  Calls O 50 #[v] w fun e w'=>∃C cp,e= J (S C (cN l).length cp)∧ay w' C (cN l)∧Below base w w':=by
 obtain ⟨A,cap,rfl,hA,hrow,hcap,hlt,hfz⟩:=af.full bZ hown
 by_cases h0:l=[]
 ·subst h0
  have hz:cN []=[]:=List.eq_nil_of_length_eq_zero (Nat.le_zero.1 (iS []))
  rw[hz]
  go_enter Tryz.func50,Tryz.ntmps50
  go_wp2_with (first|(go_at_call 72;refine (vB _ _ _).mono ?_;rintro e w ⟨rfl,rfl⟩)|(go_at_call 73;refine (pE _ _ _).mono ?_;rintro e w ⟨rfl,rfl⟩))
  go_ret
  exact ⟨A,cap,rfl,oL rfl,bR _ _⟩
 ·have hpos:0<l.length:=List.length_pos_iff.2 h0
  obtain ⟨b,off,hAe,hb,_⟩:=hrow.at hpos
  subst hAe
  have h5:=hlt _ rfl
  obtain rfl:off=0:=h5.2.2.1
  have hH:=Au hrow (hfz _ rfl)
  have hs:=Bo b cap l w hH hb hl
  have hsH:Hid _:=hs
  have hone:Hid (cN l=compact (l.mergeSort fun x y=>decide (x≤y))):=rfl
  clear hs
  go_enter Tryz.func50,Tryz.ntmps50
  go_wp2_with fail
  refine cM (show Calls _ _ _ _ _ from hsH.out) ?_
  rintro e w1 ⟨rfl,hH1,hg1,hb1⟩
  have hlen:(l.mergeSort fun x y=>decide (x≤y)).length=l.length:=by simp
  have hc:=wA b cap (l.mergeSort fun x y=>decide (x≤y)) w1 hH1 hg1 (by rw[hlen];omega) (by rw[hlen];exact hcap)
  rw[hlen,←hone.out] at hc
  have hcH:Hid _:=hc
  clear hsH hc hlen hH1
  go_wp2_with fail
  refine cM (show Calls _ _ _ _ _ from hcH.out) ?_
  rintro e w2 ⟨rfl,hr2,hb2⟩
  go_wp2
  go_ret
  exact ⟨_,_,rfl,hr2,(hb1 base h5.1).trans (hb2 base h5.1)⟩

def bP (key col:Int) (l:List Cel):List Int:=(l.filter (dd key col)).map (·.2.2.2)
def ct (l:List Cel):List Int:=l.map (·.2.1)
theorem rM {key col:Int} {l:List Cel} {k:Nat} (h:k<l.length) {x:Cel} (hx:l[k]=x):bP key col (l.take (k+1))=bP key col (l.take k)++(if dd key col x then [x.2.2.2] else []):=by
 unfold bP
 rw[List.take_succ_eq_append_getElem h,List.filter_append,List.map_append,hx]
 cases hq:dd key col x<;>simp[hq]
theorem qZ {l:List Cel} {k:Nat} (h:k<l.length) {x:Cel} (hx:l[k]=x):ct (l.take (k+1))=ct (l.take k)++[x.2.1]:=by
 unfold ct
 rw[List.take_succ_eq_append_getElem h,List.map_append,hx]
 simp
theorem jA (key col:Int) (l:List Cel):(bP key col l).length≤l.length:=by
 unfold bP
 rw[List.length_map]
 exact List.length_filter_le _ _
theorem gG (l:List Cel):(ct l).length≤l.length:=by unfold ct;rw[List.length_map];exact nR _

theorem Tryz.infoI:(Tryz.prog.info? 3).map (fun i=>(i.zero,i.size,i.bytes))=some (some (V I 0),1,8):=by kernel_rfl

theorem iT {W:World} {n:Nat} (hn:W.heap.size=n) (x:Int) (T:TypeId):ay (W.alloc (Z #[V I x] T)) (some ⟨n,0,none⟩) [x]:=by
 subst hn
 refine oR ⟨W.heap.size,0,rfl,by simp,fun j hj i hi=> ?_⟩
 obtain rfl:j=0:=by simp at hj;omega
 obtain rfl:i=0:=by omega
 exact ab (w:=W) (gR _) (j:=0) rfl

theorem bg (w:World) {ops:Array Oper} {rest:List Oper} {o:Oper} {a:Act} {Q:Exit→Act→World→Prop} (hgd:o.guard=none) (s x:Operand)
  (ho:o.op= .call { callee:= .builtin .append,args:= #[s,x],argTypes:= #[23,23] })
  (base:Nat) (v:Value) (l m:List Int) (A:Option Addr) (cap:Nat) (hs:a.eval s=v) (hx:a.eval x= S A m.length cap) (hown:eB w base v l) (hr:ay w A m) (hA:A=none→cap=0)
  (hml:l.length+m.length≤maxLen) (hb:(l.length+m.length)*8≤140737488355328) (hbase:base≤w.heap.size)
  (h:∀v' w',eB w' base v' (l++m)→w.grownBy w' v.ownBlock→wpList O ops Q rest (a.put o.dst v') w'):wpList O ops Q (o::rest) a w :=
 wpList_plain hgd fun _ hK=>dZ bZ wH (by omega) 23 Tryz.underlying23 (V I 0) 8 Tryz.infoI rfl w s x ho base v l m A cap hs hx hown hr hA hml hb hbase fun v' w' h2 h3=>hK _ _ (h v' w' h2 h3)

theorem nv (t:Tab) (A:Option Addr) (ca:Nat) (D:Option Addr) (cd:Nat) (key col:Int) (w:World) (hsz:t.e.length*40≤140737488355328) (hr:Row w A t.c.l) (hd:bw w D t.e) :
  Calls O 27 #[Y (T6 t A ca D cd).toArray,V I key,V I col] w fun e w'=>∃C cp,e= J (S C (cN (bP key col t.e)).length cp)∧ay w' C (cN (bP key col t.e))∧Below w.heap.size w w':=by
 have ht0:TabAt (w.alloc (Z #[V I t.c.c0,V I t.c.c1,V I t.c.c2,V I t.c.c3,S A t.c.l.length ca,S D t.e.length cd] 41)) w.heap.size t A ca D cd:=TabAt.new 41 hr hd rfl
 have hbw0:Below w.heap.size w (w.alloc (Z #[V I t.c.c0,V I t.c.c1,V I t.c.c2,V I t.c.c3,S A t.c.l.length ca,S D t.e.length cd] 41)):=((gR w).alloc _).below
 have k5:=ht0.k5
 go_enter Tryz.func27,Tryz.ntmps27
 go_wp2
 generalize w.alloc (Z #[V I t.c.c0,V I t.c.c1,V I t.c.c2,V I t.c.c3,S A t.c.l.length ca,S D t.e.length cd] 41)=w0 at ht0 hbw0 k5 ⊢
 clear k5
 go_loopw [7,13] (fun v i wr=>∃k:Nat,k≤t.e.length∧i= V I k∧eB wr w0.heap.size v (bP key col (t.e.take k))∧Below w0.heap.size w0 wr) (fun _ i _=>t.e.length-(intOf i).toNat)
 case atStart=>exact ⟨0,by omega,rfl,af.nil _ _ _ _ _,bR _ _⟩
 case round =>
  obtain ⟨k,hk,rfl,hov,hbel⟩:=hrel
  obtain ⟨A1,cap1,rfl,hA1,hrow1,hlt1⟩:=af.row bZ hov
  have htR:=ht0.below hbel
  have hsR:w0.heap.size≤wr.heap.size:=hbel.size
  by_cases hlt:k<t.e.length
  ·have hltz:(k:Int)<(t.e.length:Int):=by omega
   obtain ⟨bb,off,rfl,hb,hcs⟩:=bw.get htR.rowC hlt
   obtain ⟨x,hx⟩:∃x,t.e[k]=x:=⟨_,rfl⟩
   obtain ⟨e0,e1,e2,e3,e4⟩:=hcs k hlt
   rw[hx] at e0 e1 e2 e3 e4
   have hst:=rM (key:=key) (col:=col) hlt hx
   clear hcs hx
   obtain ⟨M,HM⟩:∃M,bP key col (t.e.take k)=M:=⟨_,rfl⟩
   have hMl:M.length≤t.e.length:=by rw[←HM];exact nT (jA _ _ _) (by rw[List.length_take];omega)
   rw[HM] at hov hst hrow1 ⊢
   clear HM
   have hovH:Hid (eB wr w0.heap.size (S A1 M.length cap1) M):=hov
   have hbelH:Hid (Below w0.heap.size w0 wr):=hbel
   have hgX:Gr wr (wr.alloc (Z #[V I x.1.1,V I x.1.2,V I x.2.1,V I x.2.2.1,V I x.2.2.2] 97)):=(gR _).alloc _
   obtain ⟨x0,x1,x2,x3,x4,xlt⟩:=(show CelAt _ _ _ from CelAt.new (w:=wr) x 97 rfl)
   clear hov hbel hrow1
   by_cases hq:x.2.1=key
   ·have hqb:(x.2.1==key)=true:=by simpa using hq
    by_cases hq2:x.2.2.1=col
    ·have hqb2:(x.2.2.1==col)=true:=by simpa using hq2
     have hst2:Hid (bP key col (t.e.take (k+1))=M++[x.2.2.2]):=by show _=_;rw[hst,if_pos (by simp[dd,hq,hq2])]
     have hbd:Hid (M.length+[x.2.2.2].length≤maxLen∧(M.length+[x.2.2.2].length)*8≤140737488355328):=by show _∧_;unfold maxLen;simp only[List.length_cons,List.length_nil];omega
     clear hst hq hq2
     go_wp2_with (at_builtin;refine bg _ rfl _ _ rfl w0.heap.size (S A1 M.length cap1) M [x.2.2.2] (some ⟨wr.heap.size+1,0,none⟩) 1 rfl rfl ?ho ?hr (fun h=>by cases h) hbd.out.1 hbd.out.2 ?hs ?_)
     case ho=>exact hovH.out.gr (hgX.alloc _)
     case hr=>exact iT (by simp) _ _
     case hs=>simp;omega
     intro v1 w3 hown1 hgr1
     have hb3:Hid (Below w0.heap.size w0 w3):=hbelH.out.trans (((hgX.alloc _).below.mono hsR).trans (af.grown_below (hovH.out.gr (hgX.alloc _)) hgr1 (by simp;omega)))
     have hownH:Hid (eB w3 w0.heap.size v1 (M++[x.2.2.2])):=hown1
     clear hown1 hgr1
     go_wp2
     go_roundw
     case rel=>exact ⟨k+1,by omega,by go_num,by rw[hst2.out];exact hownH.out,hb3.out⟩
     case measure=>simp[intOf];omega
    ·have hqb2:(x.2.2.1==col)=false:=by simpa using hq2
     have hst2:Hid (bP key col (t.e.take (k+1))=M):=by show _=_;rw[hst,if_neg (by simp[dd,hq2])];simp
     clear hst hq hq2
     go_wp2
     go_roundw
     case rel=>exact ⟨k+1,by omega,by go_num,by rw[hst2.out];exact hovH.out.gr hgX,hbelH.out.trans (hgX.below.mono hsR)⟩
     case measure=>simp[intOf];omega
   ·have hqb:(x.2.1==key)=false:=by simpa using hq
    have hst2:Hid (bP key col (t.e.take (k+1))=M):=by show _=_;rw[hst,if_neg (by simp[dd,hq])];simp
    clear hst hq
    go_wp2
    go_roundw
    case rel=>exact ⟨k+1,by omega,by go_num,by rw[hst2.out];exact hovH.out.gr hgX,hbelH.out.trans (hgX.below.mono hsR)⟩
    case measure=>simp[intOf];omega
  ·have hltz:¬(k:Int)<(t.e.length:Int):=by omega
   have hke:t.e.take k=t.e:=List.take_of_length_le (by omega)
   rw[hke] at hov hrow1 ⊢
   clear hke
   have hMl:(bP key col t.e).length≤t.e.length:=jA _ _ _
   obtain ⟨M,HM⟩:∃M,bP key col t.e=M:=⟨_,rfl⟩
   rw[HM] at hov hrow1 hMl ⊢
   have HMH:Hid (bP key col t.e=M):=HM
   clear HM
   have hro:=iw M w0.heap.size _ wr hov (by omega)
   have hroH:Hid _:=hro
   have hbwR:Below w.heap.size w wr:=hbw0.trans (hbel.mono hbw0.size)
   have hbs:=hbw0.size
   clear hro hov hrow1
   go_wp2_with fail
   refine cM (show Calls _ _ _ _ _ from hroH.out) ?_
   rintro e w2 ⟨C,cp,rfl,hr2,hb2⟩
   clear hroH
   go_wp2
   go_ret
   rw[HMH.out]
   exact ⟨C,cp,rfl,hr2,hbwR.trans (hb2.mono hbs)⟩

theorem xl (t:Tab) (A:Option Addr) (ca:Nat) (D:Option Addr) (cd:Nat) (w:World) (hsz:t.e.length*40≤140737488355328) (hr:Row w A t.c.l) (hd:bw w D t.e) :
  Calls O 44 #[Y (T6 t A ca D cd).toArray] w fun e w'=>∃C cp,e= J (S C (cN (ct t.e)).length cp)∧ay w' C (cN (ct t.e))∧Below w.heap.size w w':=by
 have ht0:TabAt (w.alloc (Z #[V I t.c.c0,V I t.c.c1,V I t.c.c2,V I t.c.c3,S A t.c.l.length ca,S D t.e.length cd] 41)) w.heap.size t A ca D cd:=TabAt.new 41 hr hd rfl
 have hbw0:Below w.heap.size w (w.alloc (Z #[V I t.c.c0,V I t.c.c1,V I t.c.c2,V I t.c.c3,S A t.c.l.length ca,S D t.e.length cd] 41)):=((gR w).alloc _).below
 have k5:=ht0.k5
 go_enter Tryz.func44,Tryz.ntmps44
 go_wp2
 generalize w.alloc (Z #[V I t.c.c0,V I t.c.c1,V I t.c.c2,V I t.c.c3,S A t.c.l.length ca,S D t.e.length cd] 41)=w0 at ht0 hbw0 k5 ⊢
 clear k5
 go_loopw [3,9] (fun v i wr=>∃k:Nat,k≤t.e.length∧i= V I k∧eB wr w0.heap.size v (ct (t.e.take k))∧Below w0.heap.size w0 wr) (fun _ i _=>t.e.length-(intOf i).toNat)
 case atStart=>exact ⟨0,by omega,rfl,af.nil _ _ _ _ _,bR _ _⟩
 case round =>
  obtain ⟨k,hk,rfl,hov,hbel⟩:=hrel
  obtain ⟨A1,cap1,rfl,hA1,hrow1,hlt1⟩:=af.row bZ hov
  have htR:=ht0.below hbel
  have hsR:w0.heap.size≤wr.heap.size:=hbel.size
  by_cases hlt:k<t.e.length
  ·have hltz:(k:Int)<(t.e.length:Int):=by omega
   obtain ⟨bb,off,rfl,hb,hcs⟩:=bw.get htR.rowC hlt
   obtain ⟨x,hx⟩:∃x,t.e[k]=x:=⟨_,rfl⟩
   obtain ⟨e0,e1,e2,e3,e4⟩:=hcs k hlt
   rw[hx] at e0 e1 e2 e3 e4
   have hst:=qZ hlt hx
   clear hcs hx
   obtain ⟨M,HM⟩:∃M,ct (t.e.take k)=M:=⟨_,rfl⟩
   have hMl:M.length≤t.e.length:=by rw[←HM];exact nT (gG _) (by rw[List.length_take];omega)
   rw[HM] at hov hst hrow1 ⊢
   clear HM
   have hovH:Hid (eB wr w0.heap.size (S A1 M.length cap1) M):=hov
   have hbelH:Hid (Below w0.heap.size w0 wr):=hbel
   have hgX:Gr wr (wr.alloc (Z #[V I x.1.1,V I x.1.2,V I x.2.1,V I x.2.2.1,V I x.2.2.2] 97)):=(gR _).alloc _
   obtain ⟨x0,x1,x2,x3,x4,xlt⟩:=(show CelAt _ _ _ from CelAt.new (w:=wr) x 97 rfl)
   clear hov hbel hrow1
   have hst2:Hid (ct (t.e.take (k+1))=M++[x.2.1]):=by show _=_;rw[hst]
   have hbd:Hid (M.length+[x.2.1].length≤maxLen∧(M.length+[x.2.1].length)*8≤140737488355328):=by show _∧_;unfold maxLen;simp only[List.length_cons,List.length_nil];omega
   clear hst
   go_wp2_with (at_builtin;refine bg _ rfl _ _ rfl w0.heap.size (S A1 M.length cap1) M [x.2.1] (some ⟨wr.heap.size+1,0,none⟩) 1 rfl rfl ?ho ?hr (fun h=>by cases h) hbd.out.1 hbd.out.2 ?hs ?_)
   case ho=>exact hovH.out.gr (hgX.alloc _)
   case hr=>exact iT (by simp) _ _
   case hs=>simp;omega
   intro v1 w3 hown1 hgr1
   have hb3:Hid (Below w0.heap.size w0 w3):=hbelH.out.trans (((hgX.alloc _).below.mono hsR).trans (af.grown_below (hovH.out.gr (hgX.alloc _)) hgr1 (by simp;omega)))
   have hownH:Hid (eB w3 w0.heap.size v1 (M++[x.2.1])):=hown1
   clear hown1 hgr1
   go_wp2
   go_roundw
   case rel=>exact ⟨k+1,by omega,by go_num,by rw[hst2.out];exact hownH.out,hb3.out⟩
   case measure=>simp[intOf];omega
  ·have hltz:¬(k:Int)<(t.e.length:Int):=by omega
   have hke:t.e.take k=t.e:=List.take_of_length_le (by omega)
   rw[hke] at hov hrow1 ⊢
   clear hke
   have hMl:(ct t.e).length≤t.e.length:=gG _
   obtain ⟨M,HM⟩:∃M,ct t.e=M:=⟨_,rfl⟩
   rw[HM] at hov hrow1 hMl ⊢
   have HMH:Hid (ct t.e=M):=HM
   clear HM
   have hro:=iw M w0.heap.size _ wr hov (by omega)
   have hroH:Hid _:=hro
   have hbwR:Below w.heap.size w wr:=hbw0.trans (hbel.mono hbw0.size)
   have hbs:=hbw0.size
   clear hro hov hrow1
   go_wp2_with fail
   refine cM (show Calls _ _ _ _ _ from hroH.out) ?_
   rintro e w2 ⟨C,cp,rfl,hr2,hb2⟩
   clear hroH
   go_wp2
   go_ret
   rw[HMH.out]
   exact ⟨C,cp,rfl,hr2,hbwR.trans (hb2.mono hbs)⟩

end

def okW (n:Int):Bool:=inB n (-1048576) 1048576
def okN (n:Int):Bool:=inB n (-1073741824) 1073741824
def okR (l:List Int):Bool:=decide (l.length≤8) && l.all okN

theorem gF (n:Int) (w:World) :
  Calls O 132 #[V I n] w fun e w'=>e= J (X (okW n))∧w'=w:=by
 by_cases h1: -1048576≤n
 ·by_cases h2:n≤1048576
  ·have e:okW n=true:=by simp[okW,inB];omega
   rw[e];clear e
   go_enter Tryz.func132,Tryz.ntmps132
   go_wp2
   go_ret
   exact ⟨rfl,rfl⟩
  ·have e:okW n=false:=by simp[okW,inB];omega
   rw[e];clear e
   go_enter Tryz.func132,Tryz.ntmps132
   go_wp2
   go_ret
   exact ⟨rfl,rfl⟩
 ·have e:okW n=false:=by simp[okW,inB];omega
  rw[e];clear e
  go_enter Tryz.func132,Tryz.ntmps132
  go_wp2
  go_ret
  exact ⟨rfl,rfl⟩

theorem oI (l:List Int) (A:Option Addr) (cap:Nat) (w:World) (hl:l.length≤maxLen) (hr:ay w A l) :
  Calls O 131 #[S A l.length cap] w fun e w'=>e= J (X (okR l))∧Gr w w':=by
 unfold maxLen at hl
 by_cases h8:8<l.length
 ·have e:okR l=false:=by simp[okR];omega
  rw[e];clear e
  have h8z:(8:Int)<(l.length:Int):=by omega
  go_enter Tryz.func131,Tryz.ntmps131
  go_wp2
  go_ret
  exact ⟨rfl,gR _⟩
 ·have h8z:¬(8:Int)<(l.length:Int):=by omega
  go_enter Tryz.func131,Tryz.ntmps131
  go_wp2
  go_loopw [10] (fun i wr=>∃k:Nat,k≤l.length∧i= V I k∧Hid (∀j (h:j<l.length),j<k→okN l[j]=true)∧Gr w wr) (fun i _=>l.length-(intOf i).toNat)
  case atStart=>exact ⟨0,nZ _,rfl,fun j _ hj=>absurd hj (Nat.not_lt_zero _),gR _⟩
  case round =>
   obtain ⟨k,hk,rfl,hno,hgr⟩:=hrel
   by_cases hlt:k<l.length
   ·have hltz:(k:Int)<(l.length:Int):=by omega
    obtain ⟨bb,off,rfl,hb,hcs⟩:=(hr.gr hgr).at hlt
    have e0:=hcs k hlt 0 (by omega)
    obtain ⟨y,hy⟩:∃y,l[k]=y:=⟨_,rfl⟩
    rw[hy] at e0
    have e1:wr.cell? ⟨bb,off+k,none⟩=some (V I y):=by simpa[fp] using e0
    have hyH:Hid (l[k]=y):=hy
    clear hcs e0 hy
    have hbad:Hid (okN y=false→okR l=false):=by
     intro h
     unfold okR
     have:l.all okN=false:=by
      rw[List.all_eq_false]
      exact ⟨y,by rw[←hyH.out];exact gM hlt,by simp[h]⟩
     rw[this];simp
    by_cases q1:y < -1073741824
    ·have hfin:Hid (okR l=false):=hbad.out (by simp[okN,inB];omega)
     go_wp2
     go_ret
     exact ⟨by rw[hfin.out];rfl,hgr⟩
    ·by_cases q2:1073741824<y
     ·have hfin:Hid (okR l=false):=hbad.out (by simp[okN,inB];omega)
      go_wp2
      go_ret
      exact ⟨by rw[hfin.out];rfl,hgr⟩
     ·have hne:Hid (okN l[k]=true):=by show okN l[k]=true;rw[hyH.out];simp[okN,inB];omega
      go_wp2
      go_roundw
      case rel =>
       refine ⟨k+1,by omega,by go_num,?_,hgr⟩
       intro j hj hjk
       by_cases e:j=k
       ·subst e;exact hne
       ·exact hno j hj (by omega)
      case measure=>simp[intOf];omega
   ·have hltz:¬(k:Int)<(l.length:Int):=by omega
    have hfin:Hid (okR l=true):=by
     show okR l=true
     unfold okR
     have:l.all okN=true:=by
      rw[List.all_eq_true]
      intro x hx
      obtain ⟨j,hj,e⟩:=List.getElem_of_mem hx
      rw[←e];exact hno j hj (by omega)
     rw[this];simp;omega
    go_wp2
    go_ret
    exact ⟨by rw[hfin.out];rfl,hgr⟩


def aF:List Int→List Int→Int
 | [],[]=>0
 | [],_::_=> -1
 | _::_,[]=>1
 | x::a,y::b=>if bv x y=0 then aF a b else bv x y

theorem kn {a b:List Int}:∀k,k≤a.length→k≤b.length→(∀j (h1:j<a.length) (h2:j<b.length),j<k→bv a[j] b[j]=0)→aF a b=aF (a.drop k) (b.drop k):=by
 intro k
 induction k with
 | zero=>intros;simp
 | succ k ih =>
  intro h1 h2 h
  rw[ih (by omega) (by omega) fun j h3 h4 h5=>h j h3 h4 (by omega)]
  rw[List.drop_eq_getElem_cons (show k<a.length by omega),List.drop_eq_getElem_cons (show k<b.length by omega)]
  show (if bv a[k] b[k]=0 then _ else _)=_
  rw[if_pos (h k (by omega) (by omega) (by omega))]
theorem yL {a b:List Int} {k:Nat} (h1:k<a.length) (h2:k<b.length) (h:∀j (h1:j<a.length) (h2:j<b.length),j<k→bv a[j] b[j]=0) (hne:bv a[k] b[k]≠0):aF a b=bv a[k] b[k]:=by
 rw[kn k (by omega) (by omega) h,List.drop_eq_getElem_cons h1,List.drop_eq_getElem_cons h2]
 show (if bv a[k] b[k]=0 then _ else _)=_
 rw[if_neg hne]
theorem us {a b:List Int} {k:Nat} (h1:k<a.length) (h2:k=b.length) (h:∀j (h1:j<a.length) (h2:j<b.length),j<k→bv a[j] b[j]=0):aF a b=1:=by
 rw[kn k (by omega) (by omega) h,List.drop_eq_getElem_cons h1,show b.drop k=[] from List.drop_eq_nil_of_le (by omega)]
 rfl
theorem wu {a b:List Int} (hab:a.length≤b.length) (h:∀j (h1:j<a.length) (h2:j<b.length),j<a.length→bv a[j] b[j]=0):aF a b=if a.length<b.length then -1 else 0:=by
 rw[kn a.length (by omega) hab h,List.drop_eq_nil_of_le (Nat.le_refl _)]
 by_cases k:a.length<b.length
 ·rw[if_pos k,List.drop_eq_getElem_cons k];rfl
 ·rw[if_neg k,List.drop_eq_nil_of_le (by omega)];rfl

theorem qB (a b:List Int) (A B:Option Addr) (ca cb:Nat) (w:World) (hal:a.length≤maxLen) (hra:ay w A a) (hrb:ay w B b) :
  Calls O 182 #[S A a.length ca,S B b.length cb] w fun e w'=>e= J (V I (aF a b))∧Gr w w':=by
 unfold maxLen at hal
 go_enter Tryz.func182,Tryz.ntmps182
 go_wp2
 go_loopw [11] (fun i wr=>∃k:Nat,k≤a.length∧k≤b.length∧i= V I k∧Hid (∀j (h1:j<a.length) (h2:j<b.length),j<k→bv a[j] b[j]=0)∧Gr w wr) (fun i _=>a.length-(intOf i).toNat)
 case atStart=>exact ⟨0,nZ _,nZ _,rfl,fun j _ _ hj=>absurd hj (Nat.not_lt_zero _),gR _⟩
 case round =>
  obtain ⟨k,hk,hk2,rfl,hno,hgr⟩:=hrel
  by_cases hlt:k<a.length
  ·have hltz:(k:Int)<(a.length:Int):=by omega
   obtain ⟨bb,off,rfl,hb,hcs⟩:=(hra.gr hgr).at hlt
   have e0:=hcs k hlt 0 (by omega)
   obtain ⟨x,hx⟩:∃y,a[k]=y:=⟨_,rfl⟩
   rw[hx] at e0
   have e1:wr.cell? ⟨bb,off+k,none⟩=some (V I x):=by simpa[fp] using e0
   have hxH:Hid (a[k]=x):=hx
   clear hcs e0 hx
   by_cases hlt2:k<b.length
   ·have hlt2z:(k:Int)<(b.length:Int):=by omega
    obtain ⟨bc,of2,rfl,hb2,hcs⟩:=(hrb.gr hgr).at hlt2
    have e0:=hcs k hlt2 0 (by omega)
    obtain ⟨y,hy⟩:∃y,b[k]=y:=⟨_,rfl⟩
    rw[hy] at e0
    have e2:wr.cell? ⟨bc,of2+k,none⟩=some (V I y):=by simpa[fp] using e0
    have hyH:Hid (b[k]=y):=hy
    clear hcs e0 hy
    obtain ⟨c,hc⟩:∃c,bv x y=c:=⟨_,rfl⟩
    have hcH:Hid (bv x y=c):=hc
    have hcm:=jH x y wr
    rw[hc] at hcm
    have hcmH:Hid _:=hcm
    clear hcm hc
    cases hq:(c != 0)
    ·have hc0:c=0:=by simpa using hq
     have hne:Hid (bv a[k] b[k]=0):=by show bv _ _=0;rw[hxH.out,hyH.out,hcH.out,hc0]
     clear hc0
     go_wp2_with (go_at_call 129;(refine cM (show Calls _ _ _ _ _ from hcmH.out) ?_);rintro e w' ⟨rfl,rfl⟩)
     go_roundw
     case rel =>
      refine ⟨k+1,by omega,by omega,by go_num,?_,hgr⟩
      intro j hj hj2 hjk
      by_cases e:j=k
      ·subst e;exact hne
      ·exact hno j hj hj2 (by omega)
     case measure=>simp[intOf];omega
    ·have hfin:Hid (aF a b=c):=by
      have hc0:c≠0:=by simpa using hq
      show _=_
      rw[yL hlt hlt2 hno (by rw[hxH.out,hyH.out,hcH.out];exact hc0),hxH.out,hyH.out,hcH.out]
     go_wp2_with (go_at_call 129;(refine cM (show Calls _ _ _ _ _ from hcmH.out) ?_);rintro e w' ⟨rfl,rfl⟩)
     go_ret
     exact ⟨by rw[hfin.out];rfl,hgr⟩
   ·have hlt2z:(b.length:Int)≤(k:Int):=by omega
    have hfin:Hid (aF a b=1):=us hlt (by omega) hno
    go_wp2
    go_ret
    exact ⟨by rw[hfin.out];rfl,hgr⟩
  ·have hltz:¬(k:Int)<(a.length:Int):=by omega
   have hka:k=a.length:=by omega
   have hend:=wu (a:=a) (b:=b) (by omega) (fun j h1 h2 _=>hno j h1 h2 (by omega))
   by_cases hab:a.length<b.length
   ·have hfin:Hid (aF a b= -1):=by show _=_;rw[hend,if_pos hab]
    have habz:(a.length:Int)<(b.length:Int):=by omega
    clear hend hka
    go_wp2
    go_ret
    exact ⟨by rw[hfin.out];rfl,hgr⟩
   ·have hfin:Hid (aF a b=0):=by show _=_;rw[hend,if_neg hab]
    have habz:¬(a.length:Int)<(b.length:Int):=by omega
    clear hend hka
    go_wp2
    go_ret
    exact ⟨by rw[hfin.out];rfl,hgr⟩
theorem fi (a b:List Int) (A B:Option Addr) (ca cb:Nat) (w:World) (hal:a.length≤maxLen) (hra:ay w A a) (hrb:ay w B b) :
  Calls O 133 #[S A a.length ca,S B b.length cb] w fun e w'=>e= J (V I (aF a b))∧Gr w w':=by
 go_enter Tryz.func133,Tryz.ntmps133
 go_wp2_with fail
 refine (qB a b A B ca cb _ hal hra hrb).mono ?_
 rintro e w' ⟨rfl,hg⟩
 go_wp2
 go_ret
 exact ⟨rfl,hg⟩


structure Itm where
 p:Option Addr
 c:Nat
 r:List Int
 n:Int
def aQ (x:Itm):List Value:=[S x.p x.r.length x.c,V I x.n]
theorem bL (x:Itm):(aQ x).length=2:=rfl
theorem fT (x:Itm):∀u∈aQ x,u.oneCell'=true:=by
 intro u hu
 simp[aQ] at hu
 rcases hu with rfl|rfl<;>rfl
def dx (A:Option Addr) (n c:Nat):Prop:=Unit→(if A.isNone then c else 0)+(n-c)=0
theorem dx.z {A:Option Addr} {n c:Nat} (h:dx A n c):A=none→c=0:=fun e=>by
 subst e
 have h1:c+(n-c)=0:=h ()
 omega
theorem dx.cap {A:Option Addr} {n c:Nat} (h:dx A n c):n≤c:=by
 have:=h ()
 omega
theorem dx.mk {A:Option Addr} {n c:Nat} (h:A=none→c=0) (k:n≤c):dx A n c:=fun _=>by
 cases A with
 | none=>rw[h rfl] at k ⊢;simp;omega
 | some a=>simp;omega
structure Items (w:World) (A:Option Addr) (l:List Itm):Prop where
 row:au aQ 2 w A l
 each:∀x∈l,ay w x.p x.r∧x.r.length≤maxLen∧(x.p=none→x.c=0)
theorem Items.below {w w':World} {A:Option Addr} {l:List Itm} (h:Items w A l) (q:Below w.heap.size w w'):Items w' A l:=⟨h.row.below q,fun x hx=>⟨(h.each x hx).1.below q,(h.each x hx).2⟩⟩
theorem Items.gr {w w':World} {A:Option Addr} {l:List Itm} (h:Items w A l) (q:Gr w w'):Items w' A l:=h.below q.below
theorem Items.at {w:World} {A:Option Addr} {l:List Itm} (h:Items w A l) {k:Nat} (hk:k<l.length):∃b off,A=some ⟨b,off,none⟩∧b<w.heap.size∧∀j (hj:j<l.length),w.cell? ⟨b,off+j*2,none⟩=some (.slice l[j].p l[j].r.length l[j].c)∧w.cell? ⟨b,off+j*2+1,none⟩=some (V I l[j].n):=by
 obtain ⟨b,off,hA,hb,hc⟩:=h.row.at hk
 exact ⟨b,off,hA,hb,fun j hj=>⟨hc j hj 0 (by omega),hc j hj 1 (by omega)⟩⟩

abbrev Zit:=List Int×Int
def Itm.z (x:Itm):Zit:=(x.r,x.n)
def okZ (x:Zit):Bool:=okR x.1 && okW x.2 && decide (x.2≠0)
def jN (l:List Zit) (k:Nat):Bool:=decide (k=0) || decide (aF (l.getD (k-1) ([],0)).1 (l.getD k ([],0)).1<0)
def ax (l:List Zit):Int:=if 400<l.length then 2 else if ∃k,k<l.length∧(okZ (l.getD k ([],0)) && jN l k)=false then 5 else 0

end Go.Proofs.YtkefkplnamkicaaGreatDoor
