/-
  dot.rising: the dots of two lists, sorted, in memory of its own.
  dot.Make: the context that has just the dots of a list.
  table.contextOf and what is handed to it; slices.ContainsFunc at cells, with what table.Del hands in.
-/
import Derived.Test.YtkadjjmkokhldaaGreatM01
import Derived.Test.YtkadjjmkokhldaaGreatM03
import Derived.Test.YtkadjjmkokhldaaGreatM05
namespace Go.Proofs.YtkadjjmkokhldaaGreat
open Go.RowKit Go.Sort Go.Shelf Go.Lib

/-- A dot's two cells. -/
def encD (x:Int×Int):List Value:=[.int .i64 x.1,.int .i64 x.2]

theorem ltD (x y:Int×Int):ltOf ordI x y=befB x y:=by
 unfold ltOf
 cases h:befB x y
 ·have:=ordI_not h
  simp;omega
 ·rw[ordI_bef h];simp

theorem befB_iff (x y:Int×Int):befB x y=true↔x.1<y.1∨(x.1=y.1∧x.2<y.2):=by simp[befB]
theorem befB_not (x y:Int×Int):befB x y=false↔y.1<x.1∨(x.1=y.1∧y.2≤x.2):=by
 simp[befB];omega

theorem swoD:SWO (ltOf ordI) where
 irrefl x:=by rw[ltD];simp[befB]
 trans x y z h1 h2:=by rw[ltD,befB_iff] at *;omega
 ntrans x y z h1 h2:=by rw[ltD,befB_not] at *;omega

theorem totD (x y:Int×Int) (h1:ltOf ordI x y=false) (h2:ltOf ordI y x=false):x=y:=by
 rw[ltD,befB_not] at *
 exact Prod.ext (by omega) (by omega)

/-- The dots of a list, sorted. -/
def srt (l:List (Int×Int)):List (Int×Int):=l.mergeSort fun x y=> !ltOf ordI y x

theorem srt_length (l:List (Int×Int)):(srt l).length=l.length:=by simp[srt]

theorem cmpD (blk off size:Nat) (w:World):CmpLays Tryz.prog 79 #[] encD 2 ordI blk off size w :=
 fun _ _ _ _ x y=>order_any x y _

theorem holdsD {w:World} {g off:Nat} {l:List (Int×Int)} (hc:∀j (h:j<l.length),w.cell? ⟨g,off+j*2,none⟩=some (.int .i64 l[j].1)∧w.cell? ⟨g,off+j*2+1,none⟩=some (.int .i64 l[j].2)) (hf:∀j,w.frozen? ⟨g,j,none⟩=false):HoldsK encD 2 w g off l.toArray:=by
 intro t ht
 rw[size_flatK] at ht
 rw[get_flatK _ _ _ t ht]
 simp only[List.size_toArray] at ht
 have hk:t / 2<l.length:=by omega
 refine ⟨?_,hf _⟩
 have e:l.toArray[t / 2]! = l[t / 2]:=by simp[hk]
 rw[e]
 have:=hc (t / 2) hk
 by_cases he:t % 2=0
 ·rw[he,show off+t=off+t / 2*2 from by omega,this.1];rfl
 ·rw[show t % 2=1 from by omega,show off+t=off+t / 2*2+1 from by omega,this.2];rfl

theorem rowK {w:World} {g off:Nat} {l:List (Int×Int)} (h:HoldsK encD 2 w g off l.toArray) (hg:g<w.heap.size):Row w (some ⟨g,off,none⟩) l:=by
 refine Or.inr ⟨g,off,rfl,hg,fun j hj=> ?_⟩
 have h0:=(h (j*2) (by rw[size_flatK];simp;omega)).1
 have h1:=(h (j*2+1) (by rw[size_flatK];simp;omega)).1
 rw[get_flatK _ _ _ _ (by simp;omega)] at h0 h1
 rw[show j*2 / 2=j from by omega,show j*2 % 2=0 from by omega] at h0
 rw[show (j*2+1) / 2=j from by omega,show (j*2+1) % 2=1 from by omega] at h1
 have e:l.toArray[j]! = l[j]:=by simp[hj]
 rw[e] at h0 h1
 exact ⟨h0,h1⟩

theorem below_sort {w:World} {g n base:Nat} {os:Array Obj} {d:Array (Int×Int)} (hb:base≤g) (hs:base≤w.heap.size):Below base w (sortWorldK encD 2 w g 0 n d os):=by
 refine ⟨rfl,rfl,rfl,by simp[sortWorldK,grow,putRowK],fun k hk=> ?_⟩
 show ((putRowK encD 2 (Sort.ahead w n) g 0 d).heap++os)[k]? = _
 rw[Array.getElem?_append_left (by simp[putRowK];omega)]
 show ((Sort.ahead w n).heap.modify g _)[k]? = _
 rw[Array.getElem?_modify,if_neg (by omega)]
 rfl

theorem sortD (g cap:Nat) (l:List (Int×Int)) (w:World) (hH:HoldsK encD 2 w g 0 l.toArray) (hg:g<w.heap.size) (hsz:l.length<4611686018427387904) :
  Calls Tryz.prog 81 #[.slice (some ⟨g,0,none⟩) l.length cap,.func (.func 79) #[] #[]] w fun e w'=>e= .returned (.tuple #[])∧Row w' (some ⟨g,0,none⟩) (srt l)∧∀base,base≤g→base≤w.heap.size→Below base w w':=by
 have eg:∀args w,(callFunc 79 args).run Tryz.prog w= .ok (.enter 79 args) w:=enters_of Tryz.func79 (by kernel_rfl) rfl
 have hcon:=AnyQ.slices_SortFunc_total Tryz.sortDot 2 Tryz.isAgg52 Tryz.sizeOf52 encD (fun _=>rfl) (fun x v hv=>by simp[encD] at hv;rcases hv with rfl|rfl<;>rfl) ordI swoD 79 #[] g 0 cap l.toArray w eg (cmpD g 0 _ w) hH hg (by simpa using hsz) totD
 change Calls Tryz.prog 81 _ _ _ at hcon
 simp only[List.size_toArray] at hcon
 refine hcon.mono ?_
 rintro e w' ⟨he,n,os,hw⟩
 refine ⟨he,?_,fun base h1 h2=>by rw[hw];exact below_sort h1 h2⟩
 have hH':HoldsK encD 2 w' g 0 (srt l).toArray:=by
  rw[hw]
  refine holdsK_grow _ _ _ _ _ _ _ (by simp[putRowK];exact hg) ?_
  exact holdsK_putRowK _ _ _ _ _ l.toArray _ (holdsK_ahead _ _ _ _ _ _ _ hH) (by simp)
 refine rowK hH' ?_
 rw[hw]
 simp[sortWorldK,grow,putRowK]
 omega

theorem sortOwn (base:Nat) (v:Value) (l:List (Int×Int)) (w:World) (hown:Own w base v l) (hb:base≤w.heap.size) (hsz:l.length<4611686018427387904) :
  Calls Tryz.prog 81 #[v,.func (.func 79) #[] #[]] w fun e w'=>e= .returned (.tuple #[])∧(∃C cap,v= .slice C (srt l).length cap∧Row w' C (srt l))∧Below base w w':=by
 rcases hown.2 with ⟨hv,hn⟩|⟨g,cap,cur,hv,hbg,hg,_⟩
 ·obtain rfl:l=[]:=List.eq_nil_of_length_eq_zero hn
  have hcon:=AnyF.slices_SortFunc_none Tryz.sortDot none 0 (.func (.func 79) #[] #[]) w
  change Calls Tryz.prog 81 _ _ _ at hcon
  rw[hv]
  refine hcon.mono ?_
  rintro e w' ⟨he,rfl⟩
  exact ⟨he,⟨none,0,by simp[srt],Or.inl (by simp[srt])⟩,Below.refl _ _⟩
 ·have hlt:g<w.heap.size:=(Array.getElem?_eq_some_iff.1 hg).1
  have hc:=hown.cells (g:=g) (by rw[hv];rfl)
  have hH:HoldsK encD 2 w g 0 l.toArray:=by
   refine holdsD (fun j hj=> ?_) (fun j=> ?_)
   ·have e:=flat_get l j hj
    have c0:=hc _ _ e.1
    have c1:=hc _ _ e.2
    rw[Addr.add_lit] at c0 c1
    exact ⟨c0,c1⟩
   ·have:=World.ownsRow.frozenAt (by rw[←hv];exact hown) (g:=g) (cap:=cap) j
    exact this
  rw[hv]
  refine (sortD g cap l w hH hlt hsz).mono ?_
  rintro e w' ⟨he,hrow,hbel⟩
  exact ⟨he,⟨_,cap,by rw[srt_length],hrow⟩,hbel base hbg hb⟩

set_option maxHeartbeats 1000000 in
theorem rising_any (a b:List (Int×Int)) (A B:Option Addr) (ca cb:Nat) (w:World) (ha:Row w A a) (hb:Row w B b) (hA:A=none→ca=0) (hB:B=none→cb=0) (hal:a.length≤400) (hbl:b.length≤400) :
  Calls Tryz.prog 65 #[.slice A a.length ca,.slice B b.length cb] w fun e w'=>∃C cap,e= .returned (.slice C (srt (a++b)).length cap)∧Row w' C (srt (a++b))∧Below w.heap.size w w':=by
 obtain ⟨i0,hi,hz0,hz1,hz2⟩:=info_parts Tryz.info52
 go_enter Tryz.func65,Tryz.ntmps65
 have hbd:(a.length+b.length)*16≤140737488355328:=by omega
 have hbd0:(([]:List (Int×Int)).length+a.length)*16≤140737488355328:=by simp;omega
 go_wp2_with (first|(at_make;refine wpList_make_own _ rfl _ (.tmp 10) 32 rfl w.heap.size 52 i0 _ 2 Tryz.underlying32 hi hz0 hz1 .i64 .i64 _ (a.length+b.length) rfl rfl (by omega) (by rw[hz2];omega) (by unfold maxLen;omega) (Nat.le_refl _) ?_;intro w1 hown1 hgr1)|(at_builtin;refine wpList_append_dots _ rfl (.tmp 12) (.tmp 13) rfl w.heap.size (.slice (some ⟨w.heap.size,0,none⟩) 0 (a.length+b.length)) [] a A ca rfl rfl hown1 (ha.below ((Below.refl _ w).grown hgr1 (Nat.le_refl _) (fun k e=>by cases e))) hA hbd0 hgr1.size ?_;intro v2 w2 hown2 hgr2 _;simp only[List.nil_append] at hown2)|(at_builtin;refine wpList_append_dots _ rfl (.tmp 15) (.tmp 16) rfl w.heap.size v2 a b B cb rfl rfl hown2 (hb.below (((Below.refl _ w).grown hgr1 (Nat.le_refl _) (fun k e=>by cases e)).trans (Own.grown_below (l:=[]) hown1 hgr2 hgr1.size))) hB hbd (Nat.le_trans hgr1.size hgr2.size) ?_;intro v3 w3 hown3 hgr3 _)|fail)
 have hb3:Below w.heap.size w w3:=(((Below.refl _ w).grown hgr1 (Nat.le_refl _) (fun k e=>by cases e)).trans (Own.grown_below (l:=[]) hown1 hgr2 hgr1.size)).trans (hown2.grown_below hgr3 (Nat.le_trans hgr1.size hgr2.size))
 refine (sortOwn w.heap.size v3 (a++b) w3 hown3 hb3.size (by rw[List.length_append];omega)).mono ?_
 rintro e w4 ⟨rfl,⟨C,cap,hv,hrow⟩,hbel⟩
 have hbel4:=hb3.trans hbel
 clear hown1 hgr1 hown2 hgr2 hown3 hgr3 hb3 hbel
 go_wp2
 go_ret
 exact ⟨C,cap,by rw[←hv];rfl,hrow,hbel4⟩
end Go.Proofs.YtkadjjmkokhldaaGreat

namespace Go.Proofs.YtkadjjmkokhldaaGreat
open Go.RowKit Go.Sort

/-- No context. -/
def zeroC:Ctx:=⟨0,0,0,0,[]⟩
/-- The error that Make tells. -/
def makeE (l:List (Int×Int)):Int:=if 400<l.length then 2 else if badL l=true then 5 else 0
/-- The context that fold makes of a clock and of dots, sorted. -/
def foldS (c:Ctx) (l:List (Int×Int)):Ctx:=foldTo c (srt l) (srt l).length
/-- The context that Make tells. -/
def makeC (l:List (Int×Int)):Ctx:=if makeE l=0 then foldS zeroC l else zeroC

theorem srt_mem {l:List (Int×Int)} {x:Int×Int} (h:x∈srt l):x∈l:=by
 unfold srt at h
 exact (List.mergeSort_perm l _).mem_iff.1 h

set_option maxHeartbeats 2000000 in
theorem make_any (l:List (Int×Int)) (A:Option Addr) (cap:Nat) (w:World) (hl:l.length≤maxLen) (hA:A=none→cap=0) (hr:Row w A l) :
  Calls Tryz.prog 54 #[.slice A l.length cap] w fun e w'=>∃C cp,e= .returned (.tuple #[.agg #[.int .i64 (makeC l).c0,.int .i64 (makeC l).c1,.int .i64 (makeC l).c2,.int .i64 (makeC l).c3,.slice C (makeC l).l.length cp],.int .i64 (makeE l)])∧Row w' C (makeC l).l∧(C=none→cp=0)∧(∀a,C=some a→w.heap.size≤a.block)∧Below w.heap.size w w':=by
 unfold maxLen at hl
 have hg0:=Gr.refl (w.alloc (.cells #[.int .i64 0,.int .i64 0,.int .i64 0,.int .i64 0,.slice none 0 0] 34))
 have r0:=box1 hg0 (j:=0) rfl
 have r1:=box1 hg0 (j:=1) rfl
 have r2:=box1 hg0 (j:=2) rfl
 have r3:=box1 hg0 (j:=3) rfl
 have r4:=box1 hg0 (j:=4) rfl
 have rf:=fun j=>box1f hg0 j
 by_cases h400:400<l.length
 ·have h400z:(400:Int)<(l.length:Int):=by omega
  have hfin:Hid (makeE l=2∧makeC l=zeroC):=by
   have:makeE l=2:=by simp[makeE,h400]
   exact ⟨this,by simp[makeC,this]⟩
  go_enter Tryz.func54,Tryz.ntmps54
  go_wp2
  rw[hfin.out.1,hfin.out.2]
  exact bodyPost_ret (v:= .tuple #[.agg #[.int .i64 0,.int .i64 0,.int .i64 0,.int .i64 0,.slice none 0 0],.int .i64 2]) (by simp[results,Tryz.results54,go_sem]) rfl ⟨none,0,rfl,Or.inl rfl,fun _=>rfl,(fun a ha=>by cases ha),(Below.refl _ _).alloc (Nat.le_refl _) _⟩
 ·have h400z:¬(400:Int)<(l.length:Int):=by omega
  clear r0 r1 r2 r3 r4 rf hg0
  go_enter Tryz.func54,Tryz.ntmps54
  go_wp2
  go_loopw [12] (fun i wr=>∃k:Nat,k≤l.length∧i= .int .i64 k∧Hid (∀j (h:j<l.length),j<k→rightB l[j]=true)∧Gr (w.alloc (.cells #[.int .i64 0,.int .i64 0,.int .i64 0,.int .i64 0,.slice none 0 0] 34)) wr) (fun i _=>l.length-(intOf i).toNat)
  case atStart=>exact ⟨0,Nat.zero_le _,rfl,fun j _ hj=>absurd hj (Nat.not_lt_zero _),Gr.refl _⟩
  case round =>
   obtain ⟨k,hk,rfl,hno,hgr⟩:=hrel
   have r0:=box1 hgr (j:=0) rfl
   have r1:=box1 hgr (j:=1) rfl
   have r2:=box1 hgr (j:=2) rfl
   have r3:=box1 hgr (j:=3) rfl
   have r4:=box1 hgr (j:=4) rfl
   have rf:=fun j=>box1f hgr j
   by_cases hlt:k<l.length
   ·have hltz:(k:Int)<(l.length:Int):=by omega
    obtain ⟨b,off,rfl,hb,hcs⟩:=(hr.gr (unbox hgr)).at hlt
    obtain ⟨x,y,hx⟩:∃x y,l[k]=(x,y):=⟨_,_,rfl⟩
    have e0:=(hcs k hlt).1
    have e1:=(hcs k hlt).2
    rw[hx] at e0 e1
    have hxH:Hid (l[k]=(x,y)):=hx
    clear hcs hx
    cases hq:rightB (x,y)
    ·have hfin:Hid (makeE l=5∧makeC l=zeroC):=by
      have:makeE l=5:=by simp[makeE,h400,badL_at hlt hxH.out hq]
      exact ⟨this,by simp[makeC,this]⟩
     go_wp2_with (go_at_call 77;refine (dright_g hq _).mono ?_;rintro e w1 ⟨rfl,hg1⟩;have hgA:=(hgr.alloc (.cells #[.int .i64 x,.int .i64 y] 52)).trans hg1;have q0:=box1 hgA (j:=0) rfl;have q1:=box1 hgA (j:=1) rfl;have q2:=box1 hgA (j:=2) rfl;have q3:=box1 hgA (j:=3) rfl;have q4:=box1 hgA (j:=4) rfl;have qf:=fun j=>box1f hgA j)
     rw[hfin.out.1,hfin.out.2]
     exact bodyPost_ret (v:= .tuple #[.agg #[.int .i64 0,.int .i64 0,.int .i64 0,.int .i64 0,.slice none 0 0],.int .i64 5]) (by simp[results,Tryz.results54,go_sem,q0,q1,q2,q3,q4]) rfl ⟨none,0,rfl,Or.inl rfl,fun _=>rfl,(fun a ha=>by cases ha),((((((unbox hgA).below.setCell (by simp) _).setCell (by simp) _).setCell (by simp) _).setCell (by simp) _).setCell (by simp) _)⟩
    ·go_wp2_with (go_at_call 77;refine (dright_g hq _).mono ?_;rintro e w1 ⟨rfl,hg1⟩)
     go_roundw
     case rel =>
      refine ⟨k+1,by omega,by go_num,?_,(hgr.alloc _).trans hg1⟩
      intro j hj hjk
      by_cases e:j=k
      ·subst e;rw[hxH.out];exact hq
      ·exact hno j hj (by omega)
     case measure=>simp[intOf];omega
   ·have hltz:¬(k:Int)<(l.length:Int):=by omega
    have hbad:badL l=false:=badL_not fun j hj=>hno j hj (by omega)
    have hfin:Hid (makeE l=0∧makeC l=foldS zeroC l):=by
     have:makeE l=0:=by simp[makeE,h400,hbad]
     exact ⟨this,by simp[makeC,this]⟩
    have hall:Hid (∀x∈srt l,rightB x=true):=fun x hx=>badL_all hbad x (srt_mem hx)
    clear hbad r0 r1 r2 r3 r4 rf
    have hris:=rising_any l [] A none cap 0 wr (hr.gr (unbox hgr)) (Or.inl rfl) hA (fun _=>rfl) (by omega) (by simp)
    simp only[List.length_nil,List.append_nil] at hris
    have hrisH:Hid _:=hris
    clear hris
    go_wp2_with fail
    refine Calls.mono (show Calls _ _ _ _ _ from hrisH.out) ?_
    rintro e w1 ⟨C1,cp1,rfl,hrow1,hb1⟩
    clear hrisH
    have hfold:=fold_any zeroC (srt l) C1 cp1 w1 rfl (by decide) (by rw[srt_length];omega) hall.out hrow1
    change Calls Tryz.prog 64 #[.agg #[.int .i64 0,.int .i64 0,.int .i64 0,.int .i64 0],.slice C1 (srt l).length cp1] w1 _ at hfold
    have hfoldH:Hid _:=hfold
    clear hfold
    go_wp2_with fail
    refine Calls.mono (show Calls _ _ _ _ _ from hfoldH.out) ?_
    rintro e w2 ⟨C2,cp2,rfl,hrow2,hC2,hCb,hb2⟩
    clear hfoldH
    obtain ⟨F,hF⟩:∃F,foldTo zeroC (srt l) (srt l).length=F:=⟨_,rfl⟩
    rw[hF] at hrow2 ⊢
    have HF:Hid (foldS zeroC l=F):=hF
    clear hF
    have hsz:=hgr.size
    simp only[World.size_alloc] at hsz
    have hb2':Below (w.heap.size+1) wr w2:=(hb1.mono (by omega)).trans (hb2.mono (by have:=hb1.size;omega))
    have s0:=(hb2'.cell (p:=⟨w.heap.size,0,none⟩) (by simp)).trans (box1 hgr (j:=0) rfl)
    have s1:=(hb2'.cell (p:=⟨w.heap.size,1,none⟩) (by simp)).trans (box1 hgr (j:=1) rfl)
    have s2:=(hb2'.cell (p:=⟨w.heap.size,2,none⟩) (by simp)).trans (box1 hgr (j:=2) rfl)
    have s3:=(hb2'.cell (p:=⟨w.heap.size,3,none⟩) (by simp)).trans (box1 hgr (j:=3) rfl)
    have s4:=(hb2'.cell (p:=⟨w.heap.size,4,none⟩) (by simp)).trans (box1 hgr (j:=4) rfl)
    have sf:∀j,w2.frozen? ⟨w.heap.size,j,none⟩=false:=fun j=>(hb2'.frozen (p:=⟨w.heap.size,j,none⟩) (by simp)).trans (box1f hgr j)
    have hbw:Hid (Below w.heap.size w w2):=(unbox hgr).below.trans (hb2'.mono (by omega))
    have hCn:∀a,C2=some a→a.block≠w.heap.size:=fun a ha=>by have:=hCb a ha;have:=hb1.size;omega
    have hw1:w.heap.size≤w1.heap.size:=by have:=hb1.size;omega
    clear hb2' hb1 hb2
    go_wp2
    rw[hfin.out.1,hfin.out.2,HF.out]
    refine bodyPost_ret (v:= .tuple #[.agg #[.int .i64 F.c0,.int .i64 F.c1,.int .i64 F.c2,.int .i64 F.c3,.slice C2 F.l.length cp2],.int .i64 0]) (by simp[results,Tryz.results54,go_sem,s0,s1,s2,s3,s4]) rfl ⟨C2,cp2,rfl,?_,hC2,fun a ha=>Nat.le_trans (by omega) (hCb a ha),?_⟩
    ·exact ((((hrow2.setCell _ hCn).setCell _ hCn).setCell _ hCn).setCell _ hCn).setCell _ hCn
    ·exact ((((hbw.out.setCell (Nat.le_refl _) _).setCell (Nat.le_refl _) _).setCell (Nat.le_refl _) _).setCell (Nat.le_refl _) _).setCell (Nat.le_refl _) _
end Go.Proofs.YtkadjjmkokhldaaGreat

namespace Go.Proofs.YtkadjjmkokhldaaGreat
open Go.RowKit Go.Sort

/-- The dots of the cells that fit. -/
def dotsOf (p:Cel→Bool) (l:List Cel):List (Int×Int):=(l.filter p).map (·.1)

/-- A cell of a row and column. -/
def fitP (key col:Int) (x:Cel):Bool:=decide (x.2.1=key) && decide (x.2.2.1=col)
/-- A cell of a row. -/
def fitD (key:Int) (x:Cel):Bool:=decide (x.2.1=key)

set_option maxHeartbeats 1000000 in
theorem fitP_any (key col:Int) (p q:Nat) (x:Cel) (w:World) (hp:p<w.heap.size) (hq:q<w.heap.size) (kp:w.cell? ⟨p,0,none⟩=some (.int .i64 key)) (kq:w.cell? ⟨q,0,none⟩=some (.int .i64 col)) :
  Calls Tryz.prog 53 #[.agg #[.int .i64 x.1.1,.int .i64 x.1.2,.int .i64 x.2.1,.int .i64 x.2.2.1,.int .i64 x.2.2.2],.pointer (some ⟨p,0,none⟩),.pointer (some ⟨q,0,none⟩)] w fun e w'=>e= .returned (.bool (fitP key col x))∧Gr w w':=by
 by_cases h1:x.2.1=key
 ·by_cases h2:x.2.2.1=col
  ·have e:fitP key col x=true:=by simp[fitP,h1,h2]
   rw[e];clear e
   go_enter Tryz.func53,Tryz.ntmps53
   go_wp2
   go_ret
   exact ⟨rfl,(Gr.refl _).alloc _⟩
  ·have e:fitP key col x=false:=by simp[fitP,h2]
   rw[e];clear e
   go_enter Tryz.func53,Tryz.ntmps53
   go_wp2
   go_ret
   exact ⟨by simpa using h2,(Gr.refl _).alloc _⟩
 ·have e:fitP key col x=false:=by simp[fitP,h1]
  rw[e];clear e
  go_enter Tryz.func53,Tryz.ntmps53
  go_wp2
  go_ret
  exact ⟨rfl,(Gr.refl _).alloc _⟩

set_option maxHeartbeats 1000000 in
theorem fitD_any (key:Int) (p:Nat) (x:Cel) (w:World) (hp:p<w.heap.size) (kp:w.cell? ⟨p,0,none⟩=some (.int .i64 key)) :
  Calls Tryz.prog 56 #[.agg #[.int .i64 x.1.1,.int .i64 x.1.2,.int .i64 x.2.1,.int .i64 x.2.2.1,.int .i64 x.2.2.2],.pointer (some ⟨p,0,none⟩)] w fun e w'=>e= .returned (.bool (fitD key x))∧Gr w w':=by
 by_cases h1:x.2.1=key
 ·have e:fitD key x=true:=by simp[fitD,h1]
  rw[e];clear e
  go_enter Tryz.func56,Tryz.ntmps56
  go_wp2
  go_ret
  exact ⟨by simp[h1],(Gr.refl _).alloc _⟩
 ·have e:fitD key x=false:=by simp[fitD,h1]
  rw[e];clear e
  go_enter Tryz.func56,Tryz.ntmps56
  go_wp2
  go_ret
  exact ⟨by simpa using h1,(Gr.refl _).alloc _⟩

/-- A function of cells that reads alone: what it answers, in whatever has grown of w. -/
def PredG (g:Nat) (lb:Array Value) (p:Cel→Bool) (w:World):Prop:=∀W,Gr w W→∀x:Cel,Calls Tryz.prog g (#[.agg #[.int .i64 x.1.1,.int .i64 x.1.2,.int .i64 x.2.1,.int .i64 x.2.2.1,.int .i64 x.2.2.2]]++lb) W fun e w'=>e= .returned (.bool (p x))∧Gr W w'

theorem predD (key:Int) (p:Nat) (w:World) (hp:p<w.heap.size) (kp:w.cell? ⟨p,0,none⟩=some (.int .i64 key)):PredG 56 #[.pointer (some ⟨p,0,none⟩)] (fitD key) w :=
 fun W hg x=>fitD_any key p x W (Nat.lt_of_lt_of_le hp hg.size) ((hg.cell (p:=⟨p,0,none⟩) hp).trans kp)

set_option maxHeartbeats 1000000 in
theorem indexFuncC_any (p:Cel→Bool) (g:Nat) (lb:Array Value) (hfn:∀args w,(callFunc g args).run Tryz.prog w= .ok (.enter g args) w) (l:List Cel) (A:Option Addr) (cap:Nat) (w:World) (hl:l.length≤maxLen) (hr:RowC w A l) (hp:PredG g lb p w) :
  Calls Tryz.prog 78 #[.slice A l.length cap,.func (.func g) #[] lb] w fun e w'=>∃r:Int,e= .returned (.int .i64 r)∧Hid (decide (0≤r)=l.any p)∧Gr w w':=by
 unfold maxLen at hl
 go_enter Tryz.func78,Tryz.ntmps78
 go_wp2
 go_loopw [8] (fun i wr=>∃k:Nat,k≤l.length∧i= .int .i64 k∧Hid (∀j (h:j<l.length),j<k→p l[j]=false)∧Gr w wr) (fun i _=>l.length-(intOf i).toNat)
 case atStart=>exact ⟨0,Nat.zero_le _,rfl,fun j _ hj=>absurd hj (Nat.not_lt_zero _),Gr.refl _⟩
 case round =>
  obtain ⟨k,hk,rfl,hno,hgr⟩:=hrel
  by_cases hlt:k<l.length
  ·have hltz:(k:Int)<(l.length:Int):=by omega
   obtain ⟨bb,off,rfl,hb,hcs⟩:=RowC.get (hr.gr hgr) hlt
   obtain ⟨x,hx⟩:∃x,l[k]=x:=⟨_,rfl⟩
   obtain ⟨e0,e1,e2,e3,e4⟩:=hcs k hlt
   rw[hx] at e0 e1 e2 e3 e4
   have hxH:Hid (l[k]=x):=hx
   clear hcs hx
   have hcall:=hp wr hgr x
   have hcallH:Hid _:=hcall
   clear hcall
   go_wp2
   refine Calls.mono (show Calls _ _ _ _ _ from hcallH.out) ?_
   rintro e w2 ⟨rfl,hg2⟩
   clear hcallH
   cases hq:p x
   ·go_wp2
    go_roundw
    case rel =>
     refine ⟨k+1,by omega,by go_num,?_,hgr.trans hg2⟩
     intro j hj hjk
     by_cases e:j=k
     ·subst e;rw[hxH.out];exact hq
     ·exact hno j hj (by omega)
    case measure=>simp[intOf];omega
   ·have hfin:Hid (decide ((0:Int)≤(k:Int))=l.any p):=by
     have:l.any p=true:=by
      rw[List.any_eq_true]
      exact ⟨l[k],List.getElem_mem hlt,by rw[hxH.out,hq]⟩
     show decide _=_
     rw[this];simp
    go_wp2
    go_ret
    exact ⟨_,rfl,hfin,hgr.trans hg2⟩
  ·have hltz:¬(k:Int)<(l.length:Int):=by omega
   have hfin:Hid (decide ((0:Int)≤ -1)=l.any p):=by
    have:l.any p=false:=by
     rw[List.any_eq_false]
     intro x hx
     obtain ⟨j,hj,rfl⟩:=List.getElem_of_mem hx
     rw[hno j hj (by omega)];simp
    show decide _=_
    rw[this];simp
   go_wp2
   go_ret
   exact ⟨_,rfl,hfin,hgr⟩

set_option maxHeartbeats 1000000 in
theorem containsFuncC_any (p:Cel→Bool) (g:Nat) (lb:Array Value) (hfn:∀args w,(callFunc g args).run Tryz.prog w= .ok (.enter g args) w) (l:List Cel) (A:Option Addr) (cap:Nat) (w:World) (hl:l.length≤maxLen) (hr:RowC w A l) (hp:PredG g lb p w) :
  Calls Tryz.prog 57 #[.slice A l.length cap,.func (.func g) #[] lb] w fun e w'=>e= .returned (.bool (l.any p))∧Gr w w':=by
 go_enter Tryz.func57,Tryz.ntmps57
 go_wp2_with fail
 refine (indexFuncC_any p g lb hfn l A cap _ hl hr hp).mono ?_
 rintro e w' ⟨r,rfl,hrr,hg⟩
 go_wp2
 go_ret
 exact ⟨by rw[←hrr.out];rfl,hg⟩

theorem dotsOf_take {p:Cel→Bool} {l:List Cel} {k:Nat} (h:k<l.length) {x:Cel} (hx:l[k]=x):dotsOf p (l.take (k+1))=dotsOf p (l.take k)++(if p x then [x.1] else []):=by
 unfold dotsOf
 rw[List.take_succ_eq_append_getElem h,List.filter_append,List.map_append,hx]
 cases hq:p x<;>simp[hq]
theorem dotsOf_len (p:Cel→Bool) (l:List Cel):(dotsOf p l).length≤l.length:=by
 unfold dotsOf
 rw[List.length_map]
 exact List.length_filter_le _ _

set_option maxHeartbeats 2000000 in
theorem contextOf_any (p:Cel→Bool) (g:Nat) (lb:Array Value) (hfn:∀args w,(callFunc g args).run Tryz.prog w= .ok (.enter g args) w) (l:List Cel) (A:Option Addr) (cap:Nat) (w:World) (hl:l.length≤400) (hr:RowC w A l) (hp:∀W,Below w.heap.size w W→∀x:Cel,Calls Tryz.prog g (#[.agg #[.int .i64 x.1.1,.int .i64 x.1.2,.int .i64 x.2.1,.int .i64 x.2.2.1,.int .i64 x.2.2.2]]++lb) W fun e w'=>e= .returned (.bool (p x))∧Gr W w') :
  Calls Tryz.prog 52 #[.slice A l.length cap,.func (.func g) #[] lb] w fun e w'=>∃C cp,e= .returned (.tuple #[.agg #[.int .i64 (makeC (dotsOf p l)).c0,.int .i64 (makeC (dotsOf p l)).c1,.int .i64 (makeC (dotsOf p l)).c2,.int .i64 (makeC (dotsOf p l)).c3,.slice C (makeC (dotsOf p l)).l.length cp],.int .i64 (makeE (dotsOf p l))])∧Row w' C (makeC (dotsOf p l)).l∧(C=none→cp=0)∧(∀a,C=some a→w.heap.size≤a.block)∧Below w.heap.size w w':=by
 have hz0:ZAt (w.alloc (.cells #[.int .i64 0,.int .i64 0,.int .i64 0,.int .i64 0,.slice none 0 0] 34)) w.heap.size:=ZAt.new w 34 rfl
 have hbw0:Hid (Below w.heap.size w (w.alloc (.cells #[.int .i64 0,.int .i64 0,.int .i64 0,.int .i64 0,.slice none 0 0] 34))):=((Gr.refl w).alloc _).below
 have hsz0:(w.alloc (.cells #[.int .i64 0,.int .i64 0,.int .i64 0,.int .i64 0,.slice none 0 0] 34)).heap.size=w.heap.size+1:=by simp
 go_enter Tryz.func52,Tryz.ntmps52
 go_wp2
 generalize w.alloc (.cells #[.int .i64 0,.int .i64 0,.int .i64 0,.int .i64 0,.slice none 0 0] 34)=w0 at hz0 hbw0 hsz0 ⊢
 have hszH:Hid (w0.heap.size=w.heap.size+1):=hsz0
 clear hsz0
 go_loopw [6,11] (fun v i wr=>∃k:Nat,k≤l.length∧i= .int .i64 k∧Own wr (w.heap.size+1) v (dotsOf p (l.take k))∧Below (w.heap.size+1) w0 wr) (fun _ i _=>l.length-(intOf i).toNat)
 case atStart=>exact ⟨0,by omega,rfl,Own.nil _ _,Below.refl _ _⟩
 case round =>
  obtain ⟨k,hk,rfl,hov,hbel⟩:=hrel
  obtain ⟨A1,cap1,rfl,hA1,hrow1,hlt1⟩:=hov.row
  have hsR:w.heap.size+1≤wr.heap.size:=by have:=hbel.size;have:=hszH.out;omega
  have hbwR:Below w.heap.size w wr:=hbw0.out.trans (hbel.mono (by omega))
  by_cases hlt:k<l.length
  ·have hltz:(k:Int)<(l.length:Int):=by omega
   obtain ⟨bb,off,rfl,hb,hcs⟩:=RowC.get (hr.below hbwR) hlt
   obtain ⟨x,hx⟩:∃x,l[k]=x:=⟨_,rfl⟩
   obtain ⟨e0,e1,e2,e3,e4⟩:=hcs k hlt
   rw[hx] at e0 e1 e2 e3 e4
   have hst:=dotsOf_take (p:=p) hlt hx
   clear hcs hx
   have hgX:Gr wr (wr.alloc (.cells #[.int .i64 x.1.1,.int .i64 x.1.2,.int .i64 x.2.1,.int .i64 x.2.2.1,.int .i64 x.2.2.2] 55)):=(Gr.refl _).alloc _
   have hxX:=CelAt.new (w:=wr) x 55 rfl
   have hcall:=hp (wr.alloc (.cells #[.int .i64 x.1.1,.int .i64 x.1.2,.int .i64 x.2.1,.int .i64 x.2.2.1,.int .i64 x.2.2.2] 55)) (hbwR.trans (hgX.below.mono (by omega))) x
   have hcallH:Hid _:=hcall
   clear hcall
   obtain ⟨M,HM⟩:∃M,dotsOf p (l.take k)=M:=⟨_,rfl⟩
   have hMl:M.length≤400:=by rw[←HM];exact Nat.le_trans (dotsOf_len _ _) (by rw[List.length_take];omega)
   rw[HM] at hov hst hrow1 ⊢
   clear HM
   obtain ⟨x0,x1,x2,x3,x4,xlt⟩:=(show CelAt _ _ _ from hxX)
   have hovH:Hid (Own wr (w.heap.size+1) (.slice A1 M.length cap1) M):=hov
   have hbelH:Hid (Below (w.heap.size+1) w0 wr):=hbel
   clear hov hbel hrow1
   go_wp2
   refine Calls.mono (show Calls _ _ _ _ _ from hcallH.out) ?_
   rintro e w2 ⟨rfl,hg2⟩
   clear hcallH x0 x1 x2 x3 x4
   have hg02:Gr wr w2:=hgX.trans hg2
   obtain ⟨x0,x1,x2,x3,x4,xlt2⟩:=(show CelAt _ _ _ from hxX.gr hg2)
   cases hq:p x
   ·have hst2:Hid (dotsOf p (l.take (k+1))=M):=by show _=_;rw[hst,hq];simp
    clear hst
    go_wp2
    go_roundw
    case rel=>exact ⟨k+1,by omega,by go_num,by rw[hst2.out];exact hovH.out.gr hg02,hbelH.out.trans (hg02.below.mono (by omega))⟩
    case measure=>simp[intOf];omega
   ·have hst2:Hid (dotsOf p (l.take (k+1))=M++[x.1]):=by show _=_;rw[hst,hq];simp
    have hbd:Hid ((M.length+[x.1].length)*16≤140737488355328):=by show _≤_;simp only[List.length_cons,List.length_nil];omega
    clear hst
    go_wp2_with (at_builtin;refine wpList_append_dots _ rfl _ _ rfl (w.heap.size+1) (.slice A1 M.length cap1) M [x.1] (some ⟨w2.heap.size,0,none⟩) 1 rfl rfl ?ho ?hr (fun h=>by cases h) hbd.out ?hs ?_)
    case ho=>exact hovH.out.gr (hg02.alloc _)
    case hr=>exact rowNew rfl x.1.1 x.1.2 _
    case hs=>have:=(hg02.alloc (.cells #[.int .i64 x.1.1,.int .i64 x.1.2] 52)).size;simp at this ⊢;omega
    intro v1 w3 hown1 hgr1 hat1
    have hb3:Hid (Below (w.heap.size+1) w0 w3):=hbelH.out.trans (((hg02.alloc _).below.mono (by omega)).trans (Own.grown_below (hovH.out.gr (hg02.alloc _)) hgr1 (by have:=(hg02.alloc (.cells #[.int .i64 x.1.1,.int .i64 x.1.2] 52)).size;simp at this ⊢;omega)))
    have hownH:Hid (Own w3 (w.heap.size+1) v1 (M++[x.1])):=hown1
    clear hown1 hgr1 hat1
    go_wp2
    go_roundw
    case rel=>exact ⟨k+1,by omega,by go_num,by rw[hst2.out];exact hownH.out,hb3.out⟩
    case measure=>simp[intOf];omega
  ·have hltz:¬(k:Int)<(l.length:Int):=by omega
   have hke:l.take k=l:=List.take_of_length_le (by omega)
   rw[hke] at hov hrow1 ⊢
   obtain ⟨M,HM⟩:∃M,dotsOf p l=M:=⟨_,rfl⟩
   have hMl:M.length≤400:=by rw[←HM];exact Nat.le_trans (dotsOf_len _ _) hl
   rw[HM] at hov hrow1 ⊢
   have HMH:Hid (dotsOf p l=M):=HM
   clear HM hke
   have hmk:=make_any M A1 cap1 wr (by unfold maxLen;omega) hA1 hrow1
   have hmkH:Hid _:=hmk
   have hzR:=(hz0.below (hbel.mono (by have:=hszH.out;omega)))
   clear hmk hov
   go_wp2_with fail
   refine Calls.mono (show Calls _ _ _ _ _ from hmkH.out) ?_
   rintro e w2 ⟨C,cp,rfl,hrow2,hC,hCb,hb2⟩
   clear hmkH
   obtain ⟨z0,z1,z2,z3,z4,zf,zlt⟩:=(show ZAt _ _ from hzR.below hb2)
   have hCn:∀a,C=some a→a.block≠w.heap.size:=fun a ha=>by have:=hCb a ha;omega
   have hbw2:Hid (Below w.heap.size w w2):=hbwR.trans (hb2.mono (by omega))
   obtain ⟨F,hF⟩:∃F,makeC M=F:=⟨_,rfl⟩
   rw[hF] at hrow2 ⊢
   have HF:Hid (makeC M=F):=hF
   clear hF
   go_wp2
   rw[HMH.out,HF.out]
   refine bodyPost_ret (v:= .tuple #[.agg #[.int .i64 F.c0,.int .i64 F.c1,.int .i64 F.c2,.int .i64 F.c3,.slice C F.l.length cp],.int .i64 (makeE M)]) (by simp[results,Tryz.results52,go_sem,z0,z1,z2,z3,z4]) rfl ⟨C,cp,rfl,?_,hC,fun a ha=>Nat.le_trans (by omega) (hCb a ha),?_⟩
   ·exact ((((hrow2.setCell _ hCn).setCell _ hCn).setCell _ hCn).setCell _ hCn).setCell _ hCn
   ·exact below_set5 hbw2.out (Nat.le_refl _) _ _ _ _ _

end Go.Proofs.YtkadjjmkokhldaaGreat
