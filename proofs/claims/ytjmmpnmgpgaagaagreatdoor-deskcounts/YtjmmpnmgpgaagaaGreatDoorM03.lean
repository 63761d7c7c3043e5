import Derived.Test.YtjmmpnmgpgaagaaGreatDoorM02
set_option maxRecDepth 100000
set_option maxHeartbeats 8000000
open Go renaming World → O, Addr → Y, Calls → N, Value → ib
open Go.Ending renaming returned → X
open Go.IntKind renaming i64 → I
open Go.Obj renaming cells → ia
open Go.Proofs.Tryz renaming prog → J
open Go.RowKit renaming Below → H, Hid → U
open Go.Value renaming int → V, slice → Z, tuple → ic, agg → ik, bool → ix, pointer → ka
namespace Go.Proofs.YtjmmpnmgpgaagaaGreatDoor
open Go.RowKit Go.Sort Go.Shelf Go.Lib

def oF (x:Int×Int):List ib:=[V I x.1,V I x.2]

theorem ltD (x y:Int×Int):ltOf eA x y=br x y:=by
 unfold ltOf
 cases h:br x y
 ·have:=iU h
  simp;omega
 ·rw[iT h];simp

theorem kv (x y:Int×Int):br x y=true↔x.1<y.1\/(x.1=y.1/\x.2<y.2):=by simp[br]
theorem mH (x y:Int×Int):br x y=false↔y.1<x.1\/(x.1=y.1/\y.2<=x.2):=by
 simp[br];omega

theorem F3:SWO (ltOf eA) where
 irrefl x:=by rw[ltD];simp[br]
 trans x y z h1 h2:=by rw[ltD,kv] at *;omega
 ntrans x y z h1 h2:=by rw[ltD,mH] at *;omega

theorem F5 (x y:Int×Int) (f:ltOf eA x y=false) (g:ltOf eA y x=false):x=y:=by
 rw[ltD,mH] at *
 exact Prod.ext (by omega) (by omega)

def srt (l:List (Int×Int)):List (Int×Int):=l.mergeSort fun x y=> !ltOf eA y x

theorem fI (l:List (Int×Int)):(srt l).length=l.length:=by simp[srt]

theorem ES (f g size:Nat) (w:O):CmpLays J 150 #[] oF 2 eA f g size w :=
 fun _ _ _ _ x y=>lE x y _

theorem Da {w:O} {g f:Nat} {l:List (Int×Int)} (r:∀j (h:j<l.length),w.cell? ⟨g,f+j*2,none⟩=some (V I l[j].1)/\w.cell? ⟨g,f+j*2+1,none⟩=some (V I l[j].2)) (C:∀j,w.frozen? ⟨g,j,none⟩=false):HoldsK oF 2 w g f l.toArray:=by
 intro t k
 rw[size_flatK] at k
 rw[get_flatK _ _ _ t k]
 simp only[List.size_toArray] at k
 have n:t / 2<l.length:=by omega
 refine ⟨?_,C _⟩
 have e:l.toArray[t / 2]! = l[t / 2]:=by simp[n]
 rw[e]
 have:=r (t / 2) n
 by_cases u:t % 2=0
 ·rw[u,show f+t=f+t / 2*2 from by omega,this.1];rfl
 ·rw[show t % 2=1 from by omega,show f+t=f+t / 2*2+1 from by omega,this.2];rfl

theorem EZ {w:O} {g f:Nat} {l:List (Int×Int)} (h:HoldsK oF 2 w g f l.toArray) (r:g<w.heap.size):Row w (some ⟨g,f,none⟩) l:=by
 refine oR ⟨g,f,rfl,r,fun j u=> ?_⟩
 have k:=(h (j*2) (by rw[size_flatK];simp;omega)).1
 have n:=(h (j*2+1) (by rw[size_flatK];simp;omega)).1
 rw[get_flatK _ _ _ _ (by simp;omega)] at k n
 rw[show j*2 / 2=j from by omega,show j*2 % 2=0 from by omega] at k
 rw[show (j*2+1) / 2=j from by omega,show (j*2+1) % 2=1 from by omega] at n
 have e:l.toArray[j]! = l[j]:=by simp[u]
 rw[e] at k n
 exact ⟨k,n⟩

theorem tw {w:O} {g n base:Nat} {os:Array Obj} {d:Array (Int×Int)} (f:base<=g) (j:base<=w.heap.size):H base w (sortWorldK oF 2 w g 0 n d os):=by
 refine ⟨rfl,rfl,rfl,by simp[sortWorldK,grow,putRowK],fun k h=> ?_⟩
 show ((putRowK oF 2 (Sort.ahead w n) g 0 d).heap++os)[k]? = _
 rw[Array.getElem?_append_left (by simp[putRowK];omega)]
 show ((Sort.ahead w n).heap.modify g _)[k]? = _
 rw[Array.getElem?_modify,if_neg (by omega)]
 rfl

theorem Eq (g cap:Nat) (l:List (Int×Int)) (w:O) (C:HoldsK oF 2 w g 0 l.toArray) (E:g<w.heap.size) (r:l.length<4611686018427387904) :
  N J 230 #[Z (some ⟨g,0,none⟩) l.length cap,.func (.func 150) #[] #[]] w fun e w'=>e= X (ic #[])/\Row w' (some ⟨g,0,none⟩) (srt l)/\∀f,f<=g->f<=w.heap.size->H f w w':=by
 have L:∀j w,(callFunc 150 j).run J w= .ok (.enter 150 j) w:=enters_of Tryz.func150 (by kernel_rfl) rfl
 have h:=AnyQ.slices_SortFunc_total Tryz.sortDot 2 Tryz.isAgg185 Tryz.sizeOf185 oF (fun _=>rfl) (fun x v F=>by simp[oF] at F;rcases F with rfl|rfl<;>rfl) eA F3 150 #[] g 0 cap l.toArray w L (ES g 0 _ w) C E (by simpa using r) F5
 change N J 230 _ _ _ at h
 simp only[List.size_toArray] at h
 refine h.mono ?_
 rintro e w' ⟨he,n,os,u⟩
 refine ⟨he,?_,fun f R h2=>by rw[u];exact tw R h2⟩
 have k:HoldsK oF 2 w' g 0 (srt l).toArray:=by
  rw[u]
  refine holdsK_grow _ _ _ _ _ _ _ (by simp[putRowK];exact E) ?_
  exact holdsK_putRowK _ _ _ _ _ l.toArray _ (holdsK_ahead _ _ _ _ _ _ _ C) (by simp)
 refine EZ k ?_
 rw[u]
 simp[sortWorldK,grow,putRowK]
 omega

theorem Cf (base:Nat) (v:ib) (l:List (Int×Int)) (w:O) (f:Own w base v l) (hb:base<=w.heap.size) (F:l.length<4611686018427387904) :
  N J 230 #[v,.func (.func 150) #[] #[]] w fun e w'=>e= X (ic #[])/\(∃C cap,v= Z C (srt l).length cap/\Row w' C (srt l))/\H base w w':=by
 rcases f.2 with ⟨r,hn⟩|⟨g,cap,cur,r,hbg,hg,_⟩
 ·obtain rfl:l=[]:=List.eq_nil_of_length_eq_zero hn
  have h:=AnyF.slices_SortFunc_none Tryz.sortDot none 0 (.func (.func 150) #[] #[]) w
  change N J 230 _ _ _ at h
  rw[r]
  refine h.mono ?_
  rintro e w' ⟨u,rfl⟩
  exact ⟨u,⟨none,0,by simp[srt],oL (by simp[srt])⟩,bR _ _⟩
 ·have E:g<w.heap.size:=(Array.getElem?_eq_some_iff.1 hg).1
  have hc:=f.cells (g:=g) (by rw[r];rfl)
  have hH:HoldsK oF 2 w g 0 l.toArray:=by
   refine Da (fun j hj=> ?_) (fun j=> ?_)
   ·have e:=nh l j hj
    have L:=hc _ _ e.1
    have R:=hc _ _ e.2
    rw[Addr.add_lit] at L R
    exact ⟨L,R⟩
   ·have:=World.ownsRow.frozenAt (by rw[<-r];exact f) (g:=g) (cap:=cap) j
    exact this
  rw[r]
  refine (Eq g cap l w hH E F).mono ?_
  rintro e w' ⟨u,n,k⟩
  exact ⟨u,⟨_,cap,by rw[fI],n⟩,k base hbg hb⟩

theorem nW (a b:List (Int×Int)) (A B:Option Y) (ca cb:Nat) (w:O) (ha:Row w A a) (hb:Row w B b) (hA:A=none->ca=0) (hB:B=none->cb=0) (ap:a.length<=400) (a0:b.length<=400) :
  N J 193 #[Z A a.length ca,Z B b.length cb] w fun e w'=>∃C cap,e= X (Z C (srt (a++b)).length cap)/\Row w' C (srt (a++b))/\H w.heap.size w w':=by
 obtain ⟨i0,hi,ah,an,ao⟩:=info_parts Tryz.info185
 go_enter Tryz.func193,Tryz.ntmps193
 have ad:(a.length+b.length)*16<=140737488355328:=by omega
 have L:(([]:List (Int×Int)).length+a.length)*16<=140737488355328:=by simp;omega
 go_wp2_with (first|(at_make;refine wpList_make_own _ rfl _ (.tmp 10) 51 rfl w.heap.size 185 i0 _ 2 Tryz.underlying51 hi ah an I I _ (a.length+b.length) rfl rfl (by omega) (by rw[ao];omega) (by unfold maxLen;omega) (nR _) ?_;intro w1 g f)|(at_builtin;refine aF _ rfl (.tmp 12) (.tmp 13) rfl w.heap.size (Z (some ⟨w.heap.size,0,none⟩) 0 (a.length+b.length)) [] a A ca rfl rfl g (ha.below ((bR _ w).grown f (nR _) (fun k e=>by cases e))) hA L f.size ?_;intro v2 w2 h j _;simp only[List.nil_append] at h)|(at_builtin;refine aF _ rfl (.tmp 15) (.tmp 16) rfl w.heap.size v2 a b B cb rfl rfl h (hb.below (((bR _ w).grown f (nR _) (fun k e=>by cases e)).trans (Own.grown_below (l:=[]) g j f.size))) hB ad (nT f.size j.size) ?_;intro v3 w3 n u _)|fail)
 have E:H w.heap.size w w3:=(((bR _ w).grown f (nR _) (fun k e=>by cases e)).trans (Own.grown_below (l:=[]) g j f.size)).trans (h.grown_below u (nT f.size j.size))
 refine (Cf w.heap.size v3 (a++b) w3 n E.size (by rw[List.length_append];omega)).mono ?_
 rintro e w4 ⟨rfl,⟨C,cap,hv,R⟩,r⟩
 have F:=E.trans r
 clear g f h j n u E r
 go_wp2
 go_ret
 exact ⟨C,cap,by rw[<-hv];rfl,R,F⟩

def aI:Ctx:=⟨0,0,0,0,[]⟩
def bL (l:List (Int×Int)):Int:=if 400<l.length then 2 else if oB l=true then 5 else 0
def gp (c:Ctx) (l:List (Int×Int)):Ctx:=ax c (srt l) (srt l).length
def aH (l:List (Int×Int)):Ctx:=if bL l=0 then gp aI l else aI

theorem kT {l:List (Int×Int)} {x:Int×Int} (h:x∈srt l):x∈l:=by
 unfold srt at h
 exact (List.mergeSort_perm l _).mem_iff.1 h

theorem sr (l:List (Int×Int)) (A:Option Y) (cap:Nat) (w:O) (hl:l.length<=maxLen) (hA:A=none->cap=0) (hr:Row w A l) :
  N J 199 #[Z A l.length cap] w fun e w'=>∃C cp,e= X (ic #[ik (ja7 (aH l) C cp),V I (bL l)])/\Row w' C (aH l).l/\(C=none->cp=0)/\(∀a,C=some a->w.heap.size<=a.block)/\H w.heap.size w w':=by
 unfold maxLen at hl
 have u:=gR (w.alloc (ia #[V I 0,V I 0,V I 0,V I 0,Z none 0 0] 53))
 have r0:=aa u (j:=0) rfl
 have r1:=aa u (j:=1) rfl
 have r2:=aa u (j:=2) rfl
 have r3:=aa u (j:=3) rfl
 have r4:=aa u (j:=4) rfl
 have rf:=fun j=>f9 u j
 by_cases R:400<l.length
 ·have a2:(400:Int)<(l.length:Int):=by omega
  have n:U (bL l=2/\aH l=aI):=by
   have:bL l=2:=by simp[bL,R]
   exact ⟨this,by simp[aH,this]⟩
  go_enter Tryz.func199,Tryz.ntmps199
  go_wp2
  rw[n.out.1,n.out.2]
  exact bodyPost_ret (v:= ic #[ik #[V I 0,V I 0,V I 0,V I 0,Z none 0 0],V I 2]) (by simp[results,Tryz.results199,go_sem]) rfl ⟨none,0,rfl,oL rfl,fun _=>rfl,(fun a ha=>by cases ha),(bR _ _).alloc (nR _) _⟩
 ·have a2:¬(400:Int)<(l.length:Int):=by omega
  clear r0 r1 r2 r3 r4 rf u
  go_enter Tryz.func199,Tryz.ntmps199
  go_wp2
  go_loopw [12] (fun i wr=>∃k:Nat,k<=l.length/\i= V I k/\U (∀j (h:j<l.length),j<k->am l[j]=true)/\Gr (w.alloc (ia #[V I 0,V I 0,V I 0,V I 0,Z none 0 0] 53)) wr) (fun i _=>l.length-(intOf i).toNat)
  case atStart=>exact ⟨0,nZ _,rfl,fun j _ hj=>absurd hj (Nat.not_lt_zero _),gR _⟩
  case round =>
   obtain ⟨k,hk,rfl,bc,f⟩:=hrel
   have r0:=aa f (j:=0) rfl
   have r1:=aa f (j:=1) rfl
   have r2:=aa f (j:=2) rfl
   have r3:=aa f (j:=3) rfl
   have r4:=aa f (j:=4) rfl
   have rf:=fun j=>f9 f j
   by_cases a1:k<l.length
   ·have bb:(k:Int)<(l.length:Int):=by omega
    obtain ⟨b,bp,rfl,hb,a3⟩:=(hr.gr (cC f)).at a1
    obtain ⟨x,y,hx⟩:∃x y,l[k]=(x,y):=⟨_,_,rfl⟩
    have e0:=(a3 k a1).1
    have e1:=(a3 k a1).2
    rw[hx] at e0 e1
    have bd:U (l[k]=(x,y)):=hx
    clear a3 hx
    cases hq:am (x,y)
    ·have n:U (bL l=5/\aH l=aI):=by
      have:bL l=5:=by simp[bL,R,Bb a1 bd.out hq]
      exact ⟨this,by simp[aH,this]⟩
     go_wp2_with (go_at_call 149;refine (iM hq _).mono ?_;rintro e w1 ⟨rfl,a4⟩;have E:=(f.alloc (ia #[V I x,V I y] 185)).trans a4;have q0:=aa E (j:=0) rfl;have q1:=aa E (j:=1) rfl;have q2:=aa E (j:=2) rfl;have q3:=aa E (j:=3) rfl;have q4:=aa E (j:=4) rfl;have qf:=fun j=>f9 E j)
     rw[n.out.1,n.out.2]
     exact bodyPost_ret (v:= ic #[ik #[V I 0,V I 0,V I 0,V I 0,Z none 0 0],V I 5]) (by simp[results,Tryz.results199,go_sem,q0,q1,q2,q3,q4]) rfl ⟨none,0,rfl,oL rfl,fun _=>rfl,(fun a ha=>by cases ha),((((((cC E).below.setCell (by simp) _).setCell (by simp) _).setCell (by simp) _).setCell (by simp) _).setCell (by simp) _)⟩
    ·go_wp2_with (go_at_call 149;refine (iM hq _).mono ?_;rintro e w1 ⟨rfl,a4⟩)
     go_roundw
     case rel =>
      refine ⟨k+1,by omega,by go_num,?_,(f.alloc _).trans a4⟩
      intro j hj bn
      by_cases e:j=k
      ·subst e;rw[bd.out];exact hq
      ·exact bc j hj (by omega)
     case measure=>simp[intOf];omega
   ·have bb:¬(k:Int)<(l.length:Int):=by omega
    have an:oB l=false:=ru fun j hj=>bc j hj (by omega)
    have n:U (bL l=0/\aH l=gp aI l):=by
     have:bL l=0:=by simp[bL,R,an]
     exact ⟨this,by simp[aH,this]⟩
    have a9:U (∀x∈srt l,am x=true):=fun x hx=>yF an x (kT hx)
    clear an r0 r1 r2 r3 r4 rf
    have ao:=nW l [] A none cap 0 wr (hr.gr (cC f)) (oL rfl) hA (fun _=>rfl) (by omega) (by simp)
    simp only[List.length_nil,List.append_nil] at ao
    have ap:U _:=ao
    clear ao
    go_wp2_with fail
    refine ja0 ap ?_
    rintro e w1 ⟨C1,a6,rfl,a5,ah⟩
    clear ap
    have r:=rU aI (srt l) C1 a6 w1 rfl (by decide) (by rw[fI];omega) a9.out a5
    change N J 192 #[ik #[V I 0,V I 0,V I 0,V I 0],Z C1 (srt l).length a6] w1 _ at r
    have L:U _:=r
    clear r
    go_wp2_with fail
    refine ja0 L ?_
    rintro e w2 ⟨C2,a7,rfl,a0,be,a8,ba⟩
    clear L
    obtain ⟨F,hF⟩:∃F,ax aI (srt l) (srt l).length=F:=⟨_,rfl⟩
    rw[hF] at a0 ⊢
    have HF:U (gp aI l=F):=hF
    clear hF
    have bl:=f.size
    simp only[World.size_alloc] at bl
    have g:H (w.heap.size+1) wr w2:=(ah.mono (by omega)).trans (ba.mono (by have:=ah.size;omega))
    have s0:=(g.cell (p:=⟨w.heap.size,0,none⟩) (by simp)).trans (aa f (j:=0) rfl)
    have s1:=(g.cell (p:=⟨w.heap.size,1,none⟩) (by simp)).trans (aa f (j:=1) rfl)
    have s2:=(g.cell (p:=⟨w.heap.size,2,none⟩) (by simp)).trans (aa f (j:=2) rfl)
    have s3:=(g.cell (p:=⟨w.heap.size,3,none⟩) (by simp)).trans (aa f (j:=3) rfl)
    have s4:=(g.cell (p:=⟨w.heap.size,4,none⟩) (by simp)).trans (aa f (j:=4) rfl)
    have sf:∀j,w2.frozen? ⟨w.heap.size,j,none⟩=false:=fun j=>(g.frozen (p:=⟨w.heap.size,j,none⟩) (by simp)).trans (f9 f j)
    have bh:U (H w.heap.size w w2):=(cC f).below.trans (g.mono (by omega))
    have ad:∀a,C2=some a->a.block≠w.heap.size:=fun a ha=>by have:=a8 a ha;have:=ah.size;omega
    have bo:w.heap.size<=w1.heap.size:=by have:=ah.size;omega
    clear g ah ba
    go_wp2
    rw[n.out.1,n.out.2,HF.out]
    refine bodyPost_ret (v:= ic #[ik (ja7 F C2 a7),V I 0]) (by simp[results,Tryz.results199,go_sem,s0,s1,s2,s3,s4]) rfl ⟨C2,a7,rfl,?_,be,fun a ha=>nT (by omega) (a8 a ha),?_⟩
    ·exact ((((a0.setCell _ ad).setCell _ ad).setCell _ ad).setCell _ ad).setCell _ ad
    ·exact ((((bh.out.setCell (nR _) _).setCell (nR _) _).setCell (nR _) _).setCell (nR _) _).setCell (nR _) _

def ar (p:Cel->Bool) (l:List Cel):List (Int×Int):=(l.filter p).map (·.1)

def dn (key col:Int) (x:Cel):Bool:=decide (x.2.1=key) && decide (x.2.2.1=col)
def eP (key:Int) (x:Cel):Bool:=decide (x.2.1=key)

theorem zu (key col:Int) (p q:Nat) (x:Cel) (w:O) (h:p<w.heap.size) (j:q<w.heap.size) (k:w.cell? ⟨p,0,none⟩=some (V I key)) (n:w.cell? ⟨q,0,none⟩=some (V I col)) :
  N J 198 #[ik #[V I x.1.1,V I x.1.2,V I x.2.1,V I x.2.2.1,V I x.2.2.2],ka (some ⟨p,0,none⟩),ka (some ⟨q,0,none⟩)] w fun e w'=>e= X (ix (dn key col x))/\Gr w w':=by
 by_cases g:x.2.1=key
 ·by_cases f:x.2.2.1=col
  ·have e:dn key col x=true:=by simp[dn,g,f]
   rw[e];clear e
   go_enter Tryz.func198,Tryz.ntmps198
   go_wp2
   go_ret
   exact ⟨rfl,(gR _).alloc _⟩
  ·have e:dn key col x=false:=by simp[dn,f]
   rw[e];clear e
   go_enter Tryz.func198,Tryz.ntmps198
   go_wp2
   go_ret
   exact ⟨by simpa using f,(gR _).alloc _⟩
 ·have e:dn key col x=false:=by simp[dn,g]
  rw[e];clear e
  go_enter Tryz.func198,Tryz.ntmps198
  go_wp2
  go_ret
  exact ⟨rfl,(gR _).alloc _⟩

theorem rP (key:Int) (p:Nat) (x:Cel) (w:O) (g:p<w.heap.size) (h:w.cell? ⟨p,0,none⟩=some (V I key)) :
  N J 200 #[ik #[V I x.1.1,V I x.1.2,V I x.2.1,V I x.2.2.1,V I x.2.2.2],ka (some ⟨p,0,none⟩)] w fun e w'=>e= X (ix (eP key x))/\Gr w w':=by
 by_cases f:x.2.1=key
 ·have e:eP key x=true:=by simp[eP,f]
  rw[e];clear e
  go_enter Tryz.func200,Tryz.ntmps200
  go_wp2
  go_ret
  exact ⟨by simp[f],(gR _).alloc _⟩
 ·have e:eP key x=false:=by simp[eP,f]
  rw[e];clear e
  go_enter Tryz.func200,Tryz.ntmps200
  go_wp2
  go_ret
  exact ⟨by simpa using f,(gR _).alloc _⟩

def uT (g:Nat) (lb:Array ib) (p:Cel->Bool) (w:O):Prop:=∀W,Gr w W->∀x:Cel,N J g (#[ik #[V I x.1.1,V I x.1.2,V I x.2.1,V I x.2.2.1,V I x.2.2.2]]++lb) W fun e w'=>e= X (ix (p x))/\Gr W w'

theorem Ek (key:Int) (p:Nat) (w:O) (g:p<w.heap.size) (h:w.cell? ⟨p,0,none⟩=some (V I key)):uT 200 #[ka (some ⟨p,0,none⟩)] (eP key) w :=
 fun W f x=>rP key p x W (nL g f.size) ((f.cell (p:=⟨p,0,none⟩) g).trans h)

theorem ns (p:Cel->Bool) (g:Nat) (lb:Array ib) (ao:∀E w,(callFunc g E).run J w= .ok (.enter g E) w) (l:List Cel) (A:Option Y) (cap:Nat) (w:O) (hl:l.length<=maxLen) (hr:bF w A l) (hp:uT g lb p w) :
  N J 229 #[Z A l.length cap,.func (.func g) #[] lb] w fun e w'=>∃r:Int,e= X (V I r)/\U (decide (0<=r)=l.any p)/\Gr w w':=by
 unfold maxLen at hl
 go_enter Tryz.func229,Tryz.ntmps229
 go_wp2
 go_loopw [8] (fun i wr=>∃k:Nat,k<=l.length/\i= V I k/\U (∀j (h:j<l.length),j<k->p l[j]=false)/\Gr w wr) (fun i _=>l.length-(intOf i).toNat)
 case atStart=>exact ⟨0,nZ _,rfl,fun j _ hj=>absurd hj (Nat.not_lt_zero _),gR _⟩
 case round =>
  obtain ⟨k,hk,rfl,ah,C⟩:=hrel
  by_cases F:k<l.length
  ·have ad:(k:Int)<(l.length:Int):=by omega
   obtain ⟨bb,a0,rfl,hb,L⟩:=bF.get (hr.gr C) F
   obtain ⟨x,hx⟩:∃x,l[k]=x:=⟨_,rfl⟩
   obtain ⟨e0,e1,e2,e3,e4⟩:=L k F
   rw[hx] at e0 e1 e2 e3 e4
   have an:=ja1 hx
   clear L hx
   have n:=hp wr C x
   have f:U _:=n
   clear n
   go_wp2
   refine ja0 f ?_
   rintro e w2 ⟨rfl,R⟩
   clear f
   cases hq:p x
   ·go_wp2
    go_roundw
    case rel =>
     refine ⟨k+1,by omega,by go_num,?_,C.trans R⟩
     intro j hj ap
     by_cases e:j=k
     ·subst e;rw[an.out];exact hq
     ·exact ah j hj (by omega)
    case measure=>simp[intOf];omega
   ·have u:U (decide ((0:Int)<=(k:Int))=l.any p):=by
     have:l.any p=true:=by
      rw[List.any_eq_true]
      exact ⟨l[k],gM F,by rw[an.out,hq]⟩
     show decide _=_
     rw[this];simp
    go_wp2
    go_ret
    exact ⟨_,rfl,u,C.trans R⟩
  ·have ad:¬(k:Int)<(l.length:Int):=by omega
   have u:U (decide ((0:Int)<= -1)=l.any p):=by
    have:l.any p=false:=by
     rw[List.any_eq_false]
     intro x hx
     obtain ⟨j,hj,rfl⟩:=List.getElem_of_mem hx
     rw[ah j hj (by omega)];simp
    show decide _=_
    rw[this];simp
   go_wp2
   go_ret
   exact ⟨_,rfl,u,C⟩

theorem fQ (p:Cel->Bool) (g:Nat) (k:Array ib) (h:∀f w,(callFunc g f).run J w= .ok (.enter g f) w) (l:List Cel) (A:Option Y) (cap:Nat) (w:O) (u:l.length<=maxLen) (E:bF w A l) (C:uT g k p w) :
  N J 188 #[Z A l.length cap,.func (.func g) #[] k] w fun e w'=>e= X (ix (l.any p))/\Gr w w':=by
 go_enter Tryz.func188,Tryz.ntmps188
 go_wp2_with fail
 refine (ns p g k h l A cap _ u E C).mono ?_
 rintro e w' ⟨r,rfl,j,n⟩
 go_wp2
 go_ret
 exact ⟨by rw[<-j.out];rfl,n⟩

theorem lT {p:Cel->Bool} {l:List Cel} {k:Nat} (h:k<l.length) {x:Cel} (g:l[k]=x):ar p (l.take (k+1))=ar p (l.take k)++(if p x then [x.1] else []):=by
 unfold ar
 rw[List.take_succ_eq_append_getElem h,List.filter_append,List.map_append,g]
 cases f:p x<;>simp[f]
theorem dX (p:Cel->Bool) (l:List Cel):(ar p l).length<=l.length:=by
 unfold ar
 rw[List.length_map]
 exact List.length_filter_le _ _

theorem jH (p:Cel->Bool) (g:Nat) (lb:Array ib) (b6:∀a2 w,(callFunc g a2).run J w= .ok (.enter g a2) w) (l:List Cel) (A:Option Y) (cap:Nat) (w:O) (hl:l.length<=400) (hr:bF w A l) (hp:∀W,H w.heap.size w W->∀x:Cel,N J g (#[ik #[V I x.1.1,V I x.1.2,V I x.2.1,V I x.2.2.1,V I x.2.2.2]]++lb) W fun e w'=>e= X (ix (p x))/\Gr W w') :
  N J 197 #[Z A l.length cap,.func (.func g) #[] lb] w fun e w'=>∃C cp,e= X (ic #[ik #[V I (aH (ar p l)).c0,V I (aH (ar p l)).c1,V I (aH (ar p l)).c2,V I (aH (ar p l)).c3,Z C (aH (ar p l)).l.length cp],V I (bL (ar p l))])/\Row w' C (aH (ar p l)).l/\(C=none->cp=0)/\(∀a,C=some a->w.heap.size<=a.block)/\H w.heap.size w w':=by
 have bC:ZAt (w.alloc (ia #[V I 0,V I 0,V I 0,V I 0,Z none 0 0] 53)) w.heap.size:=ZAt.new w 53 rfl
 have a4:U (H w.heap.size w (w.alloc (ia #[V I 0,V I 0,V I 0,V I 0,Z none 0 0] 53))):=((gR w).alloc _).below
 have a1:(w.alloc (ia #[V I 0,V I 0,V I 0,V I 0,Z none 0 0] 53)).heap.size=w.heap.size+1:=by simp
 go_enter Tryz.func197,Tryz.ntmps197
 go_wp2
 generalize w.alloc (ia #[V I 0,V I 0,V I 0,V I 0,Z none 0 0] 53)=w0 at bC a4 a1 ⊢
 have a7:=ja1 a1
 clear a1
 go_loopw [6,11] (fun v i wr=>∃k:Nat,k<=l.length/\i= V I k/\Own wr (w.heap.size+1) v (ar p (l.take k))/\H (w.heap.size+1) w0 wr) (fun _ i _=>l.length-(intOf i).toNat)
 case atStart=>exact ⟨0,by omega,rfl,Own.nil _ _,bR _ _⟩
 case round =>
  obtain ⟨k,hk,rfl,r,n⟩:=hrel
  obtain ⟨A1,a3,rfl,bN,j,b4⟩:=r.row
  have b7:w.heap.size+1<=wr.heap.size:=by have:=n.size;have:=a7.out;omega
  have R:H w.heap.size w wr:=a4.out.trans (n.mono (by omega))
  by_cases a8:k<l.length
  ·have bp:(k:Int)<(l.length:Int):=by omega
   obtain ⟨bb,b8,rfl,hb,bh⟩:=bF.get (hr.below R) a8
   obtain ⟨x,hx⟩:∃x,l[k]=x:=⟨_,rfl⟩
   obtain ⟨e0,e1,e2,e3,e4⟩:=bh k a8
   rw[hx] at e0 e1 e2 e3 e4
   have ap:=lT (p:=p) a8 hx
   clear bh hx
   have bn:Gr wr (wr.alloc (ia #[V I x.1.1,V I x.1.2,V I x.2.1,V I x.2.2.1,V I x.2.2.2] 187)):=(gR _).alloc _
   have bt:=CelAt.new (w:=wr) x 187 rfl
   have ad:=hp (wr.alloc (ia #[V I x.1.1,V I x.1.2,V I x.2.1,V I x.2.2.1,V I x.2.2.2] 187)) (R.trans (bn.below.mono (by omega))) x
   have u:U _:=ad
   clear ad
   obtain ⟨M,HM⟩:∃M,ar p (l.take k)=M:=⟨_,rfl⟩
   have b0:M.length<=400:=by rw[<-HM];exact nT (dX _ _) (by rw[List.length_take];omega)
   rw[HM] at r ap j ⊢
   clear HM
   obtain ⟨x0,x1,x2,x3,x4,b9⟩:=(show CelAt _ _ _ from bt)
   have ah:=ja1 r
   have L:=ja1 n
   clear r n j
   go_wp2
   refine ja0 u ?_
   rintro e w2 ⟨rfl,bl⟩
   clear u x0 x1 x2 x3 x4
   have f:Gr wr w2:=bn.trans bl
   obtain ⟨x0,x1,x2,x3,x4,b5⟩:=(show CelAt _ _ _ from bt.gr bl)
   cases hq:p x
   ·have a0:U (ar p (l.take (k+1))=M):=by show _=_;rw[ap,hq];simp
    clear ap
    go_wp2
    go_roundw
    case rel=>exact ⟨k+1,by omega,by go_num,by rw[a0.out];exact ah.out.gr f,L.out.trans (f.below.mono (by omega))⟩
    case measure=>simp[intOf];omega
   ·have a0:U (ar p (l.take (k+1))=M++[x.1]):=by show _=_;rw[ap,hq];simp
    have b2:U ((M.length+[x.1].length)*16<=140737488355328):=by show _<=_;simp only[List.length_cons,List.length_nil];omega
    clear ap
    go_wp2_with (at_builtin;refine aF _ rfl _ _ rfl (w.heap.size+1) (Z A1 M.length a3) M [x.1] (some ⟨w2.heap.size,0,none⟩) 1 rfl rfl ?ho ?hr (fun h=>by cases h) b2.out ?hs ?_)
    case ho=>exact ah.out.gr (f.alloc _)
    case hr=>exact iZ rfl x.1.1 x.1.2 _
    case hs=>have:=(f.alloc (ia #[V I x.1.1,V I x.1.2] 185)).size;simp at this ⊢;omega
    intro v1 w3 an a5 bc
    have b1:U (H (w.heap.size+1) w0 w3):=L.out.trans (((f.alloc _).below.mono (by omega)).trans (Own.grown_below (ah.out.gr (f.alloc _)) a5 (by have:=(f.alloc (ia #[V I x.1.1,V I x.1.2] 185)).size;simp at this ⊢;omega)))
    have a9:=ja1 an
    clear an a5 bc
    go_wp2
    go_roundw
    case rel=>exact ⟨k+1,by omega,by go_num,by rw[a0.out];exact a9.out,b1.out⟩
    case measure=>simp[intOf];omega
  ·have bp:¬(k:Int)<(l.length:Int):=by omega
   have bo:l.take k=l:=List.take_of_length_le (by omega)
   rw[bo] at r j ⊢
   obtain ⟨M,HM⟩:∃M,ar p l=M:=⟨_,rfl⟩
   have b0:M.length<=400:=by rw[<-HM];exact nT (dX _ _) hl
   rw[HM] at r j ⊢
   have bG:=ja1 HM
   clear HM bo
   have bs:=sr M A1 a3 wr (by unfold maxLen;omega) bN j
   have a6:U _:=bs
   have b3:=(bC.below (n.mono (by have:=a7.out;omega)))
   clear bs r
   go_wp2_with fail
   refine ja0 a6 ?_
   rintro e w2 ⟨C,cp,rfl,ao,hC,ba,bd⟩
   clear a6
   obtain ⟨z0,z1,z2,z3,z4,zf,cc⟩:=(show ZAt _ _ from b3.below bd)
   have E:∀a,C=some a->a.block≠w.heap.size:=fun a ha=>by have:=ba a ha;omega
   have be:U (H w.heap.size w w2):=R.trans (bd.mono (by omega))
   obtain ⟨F,hF⟩:∃F,aH M=F:=⟨_,rfl⟩
   rw[hF] at ao ⊢
   have HF:=ja1 hF
   clear hF
   go_wp2
   rw[bG.out,HF.out]
   refine bodyPost_ret (v:= ic #[ik (ja7 F C cp),V I (bL M)]) (by simp[results,Tryz.results197,go_sem,z0,z1,z2,z3,z4]) rfl ⟨C,cp,rfl,?_,hC,fun a ha=>nT (by omega) (ba a ha),?_⟩
   ·exact ((((ao.setCell _ E).setCell _ E).setCell _ E).setCell _ E).setCell _ E
   ·exact aZ be.out (nR _) _ _ _ _ _


def df (x:Int):List ib:=[V I x]
theorem bS (x:Int):(df x).length=1:=rfl
theorem zj (x:Int):∀u∈df x,u.oneCell'=true:=by
 intro u f
 simp[df] at f
 rw[f];rfl
abbrev al (w:O) (A:Option Y) (l:List Int):Prop:=az df 1 w A l
abbrev dr (w:O) (base:Nat) (v:ib) (l:List Int):Prop:=ae df 1 3 w base v l

theorem iK (d:Array Int):∀m,(compactUpTo d m).length<=m
 | 0=>by simp[compactUpTo]
 | m+1=>by
  have:=iK d m
  rw[compactUpTo_succ,List.length_append]
  split<;>simp<;>omega
theorem mN (l:List Int):(compact l).length<=l.length:=iK _ _
def cQ (l:List Int):List Int:=compact (l.mergeSort fun x y=>decide (x<=y))
theorem jr (l:List Int):(cQ l).length<=l.length:=by
 unfold cQ
 refine nT (mN _) ?_
 simp

theorem Db {w:O} {g:Nat} {l:List Int} (h:al w (some ⟨g,0,none⟩) l) (u:∀j,w.frozen? ⟨g,j,none⟩=false):Holds (Value.int I) w g 0 l.toArray:=by
 intro j C
 have f:j<l.length:=by simpa using C
 obtain ⟨b,n,k,E,r⟩:=h.at f
 obtain ⟨rfl,rfl⟩:g=b/\0=n:=by injection k with k;injection k with h1 h2;exact ⟨h1,h2⟩
 refine ⟨?_,u _⟩
 have:=r j f 0 (by omega)
 have e:l.toArray[j]! = l[j]:=by simp[f]
 rw[e]
 simpa[df] using this
theorem BZ {w:O} {g:Nat} {l m:List Int} (h:Holds (Value.int I) w g 0 (l++m).toArray) (r:g<w.heap.size):al w (some ⟨g,0,none⟩) l:=by
 refine oR ⟨g,0,rfl,r,fun j u i hi=> ?_⟩
 obtain rfl:i=0:=by omega
 have f:=(h j (by simp;omega)).1
 have e:(l++m).toArray[j]! = l[j]:=by
  have k:j<(l++m).length:=by rw[List.length_append];omega
  have n:(l++m).toArray[j]! = (l++m)[j]:=by
   rw[getElem!_pos (l++m).toArray j (by simpa using k)]
   rfl
  rw[n,List.getElem_append_left u]
 rw[e] at f
 simpa[df] using f
theorem mI {w:O} {g n base:Nat} {d:Array Int} (f:base<=g):H base w (putRow (Value.int I) (Sort.ahead w n) g 0 d):=by
 refine ⟨rfl,rfl,rfl,by simp[putRow,mapBlock,Sort.ahead],fun k h=> ?_⟩
 show ((Sort.ahead w n).heap.modify g _)[k]? = _
 rw[Array.getElem?_modify,if_neg (by omega)]
 rfl
theorem lJ {w:O} {g n:Nat} {d:Array Int}:(putRow (Value.int I) (Sort.ahead w n) g 0 d).heap.size=w.heap.size:=by simp[putRow,mapBlock,Sort.ahead]

theorem Er (g cap:Nat) (l:List Int) (w:O) (u:Holds (Value.int I) w g 0 l.toArray) (C:g<w.heap.size) (k:l.length<4611686018427387904) :
  N J 154 #[Z (some ⟨g,0,none⟩) l.length cap] w fun e w'=>e= X (ic #[])/\Holds (Value.int I) w' g 0 (l.mergeSort fun x y=>decide (x<=y)).toArray/\g<w'.heap.size/\∀f,f<=g->H f w w':=by
 have h:=Any.slices_Sort_int Tryz.sortInt g 0 cap l w u C k
 change N J 154 _ _ _ at h
 refine h.mono ?_
 rintro e w' ⟨L,n,E,r⟩
 have R:g<(putRow (Value.int I) (Sort.ahead w n) g 0 (l.mergeSort fun x y=>decide (x<=y)).toArray).heap.size:=by rw[lJ];exact C
 refine ⟨L,?_,?_,fun f F=> ?_⟩
 ·rw[r]
  exact holds_grow _ _ _ _ _ _ R (holds_putRow _ _ _ _ l.toArray _ (holds_ahead _ _ _ _ _ _ u) (by simp))
 ·rw[r];simp only[grow,Array.size_append];omega
 ·rw[r]
  refine (mI (n:=n) (d:=(l.mergeSort fun x y=>decide (x<=y)).toArray) F).trans ?_
  have j:Gr (putRow (Value.int I) (Sort.ahead w n) g 0 (l.mergeSort fun x y=>decide (x<=y)).toArray) (grow (putRow (Value.int I) (Sort.ahead w n) g 0 (l.mergeSort fun x y=>decide (x<=y)).toArray) E):=⟨0,E,rfl⟩
  exact j.below.mono (by rw[lJ];omega)

theorem ya (A:Option Y) (cap:Nat) (w:O):N J 154 #[Z A 0 cap] w fun e w'=>e= X (ic #[])/\w'=w :=
 Any.slices_Sort_int_none Tryz.sortInt A cap w

theorem yY (g cap:Nat) (l:List Int) (w:O) (r:Holds (Value.int I) w g 0 l.toArray) (F:g<w.heap.size) (k:l.length<=9223372036854775807) (j:l.length<=cap) :
  N J 155 #[Z (some ⟨g,0,none⟩) l.length cap] w fun e w'=>e= X (Z (some ⟨g,0,none⟩) (compact l).length cap)/\al w' (some ⟨g,0,none⟩) (compact l)/\∀f,f<=g->H f w w':=by
 have h:=Any.slices_Compact_int Tryz.compactInt g 0 cap l w r k j
 change N J 155 _ _ _ at h
 refine h.mono ?_
 rintro e w' ⟨E,n,u⟩
 refine ⟨E,?_,fun f C=>by rw[u];exact mI C⟩
 rw[u]
 refine BZ (m:=List.replicate (l.length-(compact l).length) 0) (holds_putRow _ _ _ _ l.toArray _ (holds_ahead _ _ _ _ _ _ r) ?_) (by rw[lJ];exact F)
 have:=mN l
 simp
 omega
theorem qy (A:Option Y) (cap:Nat) (w:O):N J 155 #[Z A 0 cap] w fun e w'=>e= X (Z A 0 cap)/\w'=w :=
 Any.slices_Compact_int_empty Tryz.compactInt A cap w

theorem iX (l:List Int) (base:Nat) (v:ib) (w:O) (n:dr w base v l) (hl:l.length<4611686018427387904) :
  N J 121 #[v] w fun e w'=>∃C cp,e= X (Z C (cQ l).length cp)/\al w' C (cQ l)/\H base w w':=by
 obtain ⟨A,cap,rfl,hA,g,j,ao,ah⟩:=ae.full bS n
 by_cases h0:l=[]
 ·subst h0
  have hz:cQ []=[]:=List.eq_nil_of_length_eq_zero (Nat.le_zero.1 (jr []))
  rw[hz]
  go_enter Tryz.func121,Tryz.ntmps121
  go_wp2_with (first|(go_at_call 154;refine (ya _ _ _).mono ?_;rintro e w ⟨rfl,rfl⟩)|(go_at_call 155;refine (qy _ _ _).mono ?_;rintro e w ⟨rfl,rfl⟩))
  go_ret
  exact ⟨A,cap,rfl,oL rfl,bR _ _⟩
 ·have r:0<l.length:=List.length_pos_iff.2 h0
  obtain ⟨b,a0,F,hb,_⟩:=g.at r
  subst F
  have E:=ao _ rfl
  obtain rfl:a0=0:=E.2.2.1
  have hH:=Db g (ah _ rfl)
  have hs:=Er b cap l w hH hb hl
  have u:U _:=hs
  have k:U (cQ l=compact (l.mergeSort fun x y=>decide (x<=y))):=rfl
  clear hs
  go_enter Tryz.func121,Tryz.ntmps121
  go_wp2_with fail
  refine ja0 u ?_
  rintro e w1 ⟨rfl,h,an,L⟩
  have f:(l.mergeSort fun x y=>decide (x<=y)).length=l.length:=by simp
  have hc:=yY b cap (l.mergeSort fun x y=>decide (x<=y)) w1 h an (by rw[f];omega) (by rw[f];exact j)
  rw[f,<-k.out] at hc
  have ad:U _:=hc
  clear u hc f h
  go_wp2_with fail
  refine ja0 ad ?_
  rintro e w2 ⟨rfl,ap,R⟩
  go_wp2
  go_ret
  exact ⟨_,_,rfl,ap,(L base E.1).trans (R base E.1)⟩

def bO (key col:Int) (l:List Cel):List Int:=(l.filter (dn key col)).map (·.2.2.2)
def cg (l:List Cel):List Int:=l.map (·.2.1)
theorem th {key col:Int} {l:List Cel} {k:Nat} (h:k<l.length) {x:Cel} (g:l[k]=x):bO key col (l.take (k+1))=bO key col (l.take k)++(if dn key col x then [x.2.2.2] else []):=by
 unfold bO
 rw[List.take_succ_eq_append_getElem h,List.filter_append,List.map_append,g]
 cases f:dn key col x<;>simp[f]
theorem sn {l:List Cel} {k:Nat} (h:k<l.length) {x:Cel} (f:l[k]=x):cg (l.take (k+1))=cg (l.take k)++[x.2.1]:=by
 unfold cg
 rw[List.take_succ_eq_append_getElem h,List.map_append,f]
 simp
theorem ko (key col:Int) (l:List Cel):(bO key col l).length<=l.length:=by
 unfold bO
 rw[List.length_map]
 exact List.length_filter_le _ _
theorem gZ (l:List Cel):(cg l).length<=l.length:=by unfold cg;rw[List.length_map];exact nR _

theorem Tryz.infoI:(Tryz.prog.info? 3).map (fun i=>(i.zero,i.size,i.bytes))=some (some (V I 0),1,8):=by kernel_rfl

theorem ii {W:O} {n:Nat} (g:W.heap.size=n) (x:Int) (T:TypeId):al (W.alloc (ia #[V I x] T)) (some ⟨n,0,none⟩) [x]:=by
 subst g
 refine oR ⟨W.heap.size,0,rfl,by simp,fun j f i hi=> ?_⟩
 obtain rfl:j=0:=by simp at f;omega
 obtain rfl:i=0:=by omega
 exact aa (w:=W) (gR _) (j:=0) rfl

theorem aJ (w:O) {ops:Array Oper} {f:List Oper} {o:Oper} {a:Act} {Q:Exit->Act->O->Prop} (n:o.guard=none) (s x:Operand)
  (R:o.op= .call { callee:= .builtin .append,args:= #[s,x],argTypes:= #[77,77] })
  (base:Nat) (v:ib) (l m:List Int) (A:Option Y) (cap:Nat) (hs:a.eval s=v) (hx:a.eval x= Z A m.length cap) (j:dr w base v l) (hr:al w A m) (E:A=none->cap=0)
  (r:l.length+m.length<=maxLen) (L:(l.length+m.length)*8<=140737488355328) (g:base<=w.heap.size)
  (h:∀k w',dr w' base k (l++m)->w.grownBy w' v.ownBlock->wpList J ops Q f (a.put o.dst k) w'):wpList J ops Q (o::f) a w :=
 wpList_plain n fun _ F=>cU bS zj (by omega) 77 Tryz.underlying77 (V I 0) 8 Tryz.infoI rfl w s x R base v l m A cap hs hx j hr E r L g fun k w' u C=>F _ _ (h k w' u C)

theorem uM (t:Tab) (A:Option Y) (ca:Nat) (D:Option Y) (cd:Nat) (key col:Int) (w:O) (bt:t.e.length*40<=140737488355328) (hr:Row w A t.c.l) (hd:bF w D t.e) :
  N J 88 #[ik (T6 t A ca D cd).toArray,V I key,V I col] w fun e w'=>∃C cp,e= X (Z C (cQ (bO key col t.e)).length cp)/\al w' C (cQ (bO key col t.e))/\H w.heap.size w w':=by
 have a1:TabAt (w.alloc (ia #[V I t.c.c0,V I t.c.c1,V I t.c.c2,V I t.c.c3,Z A t.c.l.length ca,Z D t.e.length cd] 56)) w.heap.size t A ca D cd:=TabAt.new 56 hr hd rfl
 have F:H w.heap.size w (w.alloc (ia #[V I t.c.c0,V I t.c.c1,V I t.c.c2,V I t.c.c3,Z A t.c.l.length ca,Z D t.e.length cd] 56)):=((gR w).alloc _).below
 have k5:=a1.k5
 go_enter Tryz.func88,Tryz.ntmps88
 go_wp2
 generalize w.alloc (ia #[V I t.c.c0,V I t.c.c1,V I t.c.c2,V I t.c.c3,Z A t.c.l.length ca,Z D t.e.length cd] 56)=w0 at a1 F k5 ⊢
 clear k5
 go_loopw [7,13] (fun v i wr=>∃k:Nat,k<=t.e.length/\i= V I k/\dr wr w0.heap.size v (bO key col (t.e.take k))/\H w0.heap.size w0 wr) (fun _ i _=>t.e.length-(intOf i).toNat)
 case atStart=>exact ⟨0,by omega,rfl,ae.nil _ _ _ _ _,bR _ _⟩
 case round =>
  obtain ⟨k,hk,rfl,j,g⟩:=hrel
  obtain ⟨A1,a2,rfl,bs,f,bp⟩:=ae.row bS j
  have bo:=a1.below g
  have a0:w0.heap.size<=wr.heap.size:=g.size
  by_cases ao:k<t.e.length
  ·have a8:(k:Int)<(t.e.length:Int):=by omega
   obtain ⟨bb,bC,rfl,hb,a6⟩:=bF.get bo.rowC ao
   obtain ⟨x,hx⟩:∃x,t.e[k]=x:=⟨_,rfl⟩
   obtain ⟨e0,e1,e2,e3,e4⟩:=a6 k ao
   rw[hx] at e0 e1 e2 e3 e4
   have E:=th (key:=key) (col:=col) ao hx
   clear a6 hx
   obtain ⟨M,HM⟩:∃M,bO key col (t.e.take k)=M:=⟨_,rfl⟩
   have a3:M.length<=t.e.length:=by rw[<-HM];exact nT (ko _ _ _) (by rw[List.length_take];omega)
   rw[HM] at j E f ⊢
   clear HM
   have L:=ja1 j
   have r:=ja1 g
   have u:Gr wr (wr.alloc (ia #[V I x.1.1,V I x.1.2,V I x.2.1,V I x.2.2.1,V I x.2.2.2] 187)):=(gR _).alloc _
   obtain ⟨x0,x1,x2,x3,x4,bG⟩:=(show CelAt _ _ _ from CelAt.new (w:=wr) x 187 rfl)
   clear j g f
   by_cases hq:x.2.1=key
   ·have bl:(x.2.1==key)=true:=by simpa using hq
    by_cases R:x.2.2.1=col
    ·have a9:(x.2.2.1==col)=true:=by simpa using R
     have n:U (bO key col (t.e.take (k+1))=M++[x.2.2.2]):=by show _=_;rw[E,if_pos (by simp[dn,hq,R])]
     have a4:U (M.length+[x.2.2.2].length<=maxLen/\(M.length+[x.2.2.2].length)*8<=140737488355328):=by show _/\_;unfold maxLen;simp only[List.length_cons,List.length_nil];omega
     clear E hq R
     go_wp2_with (at_builtin;refine aJ _ rfl _ _ rfl w0.heap.size (Z A1 M.length a2) M [x.2.2.2] (some ⟨wr.heap.size+1,0,none⟩) 1 rfl rfl ?ho ?hr (fun h=>by cases h) a4.out.1 a4.out.2 ?hs ?_)
     case ho=>exact L.out.gr (u.alloc _)
     case hr=>exact ii (by simp) _ _
     case hs=>simp;omega
     intro v1 w3 ad ah
     have be:U (H w0.heap.size w0 w3):=r.out.trans (((u.alloc _).below.mono a0).trans (ae.grown_below (L.out.gr (u.alloc _)) ah (by simp;omega)))
     have ap:=ja1 ad
     clear ad ah
     go_wp2
     go_roundw
     case rel=>exact ⟨k+1,by omega,by go_num,by rw[n.out];exact ap.out,be.out⟩
     case measure=>simp[intOf];omega
    ·have a9:(x.2.2.1==col)=false:=by simpa using R
     have n:U (bO key col (t.e.take (k+1))=M):=by show _=_;rw[E,if_neg (by simp[dn,R])];simp
     clear E hq R
     go_wp2
     go_roundw
     case rel=>exact ⟨k+1,by omega,by go_num,by rw[n.out];exact L.out.gr u,r.out.trans (u.below.mono a0)⟩
     case measure=>simp[intOf];omega
   ·have bl:(x.2.1==key)=false:=by simpa using hq
    have n:U (bO key col (t.e.take (k+1))=M):=by show _=_;rw[E,if_neg (by simp[dn,hq])];simp
    clear E hq
    go_wp2
    go_roundw
    case rel=>exact ⟨k+1,by omega,by go_num,by rw[n.out];exact L.out.gr u,r.out.trans (u.below.mono a0)⟩
    case measure=>simp[intOf];omega
  ·have a8:¬(k:Int)<(t.e.length:Int):=by omega
   have a7:t.e.take k=t.e:=List.take_of_length_le (by omega)
   rw[a7] at j f ⊢
   clear a7
   have a3:(bO key col t.e).length<=t.e.length:=ko _ _ _
   obtain ⟨M,HM⟩:∃M,bO key col t.e=M:=⟨_,rfl⟩
   rw[HM] at j f a3 ⊢
   have bc:=ja1 HM
   clear HM
   have ba:=iX M w0.heap.size _ wr j (by omega)
   have an:U _:=ba
   have a5:H w.heap.size w wr:=F.trans (g.mono F.size)
   have bh:=F.size
   clear ba j f
   go_wp2_with fail
   refine ja0 an ?_
   rintro e w2 ⟨C,cp,rfl,bn,bd⟩
   clear an
   go_wp2
   go_ret
   rw[bc.out]
   exact ⟨C,cp,rfl,bn,a5.trans (bd.mono bh)⟩

theorem zL (t:Tab) (A:Option Y) (ca:Nat) (D:Option Y) (cd:Nat) (w:O) (bp:t.e.length*40<=140737488355328) (hr:Row w A t.c.l) (hd:bF w D t.e) :
  N J 86 #[ik (T6 t A ca D cd).toArray] w fun e w'=>∃C cp,e= X (Z C (cQ (cg t.e)).length cp)/\al w' C (cQ (cg t.e))/\H w.heap.size w w':=by
 have ap:TabAt (w.alloc (ia #[V I t.c.c0,V I t.c.c1,V I t.c.c2,V I t.c.c3,Z A t.c.l.length ca,Z D t.e.length cd] 56)) w.heap.size t A ca D cd:=TabAt.new 56 hr hd rfl
 have n:H w.heap.size w (w.alloc (ia #[V I t.c.c0,V I t.c.c1,V I t.c.c2,V I t.c.c3,Z A t.c.l.length ca,Z D t.e.length cd] 56)):=((gR w).alloc _).below
 have k5:=ap.k5
 go_enter Tryz.func86,Tryz.ntmps86
 go_wp2
 generalize w.alloc (ia #[V I t.c.c0,V I t.c.c1,V I t.c.c2,V I t.c.c3,Z A t.c.l.length ca,Z D t.e.length cd] 56)=w0 at ap n k5 ⊢
 clear k5
 go_loopw [3,9] (fun v i wr=>∃k:Nat,k<=t.e.length/\i= V I k/\dr wr w0.heap.size v (cg (t.e.take k))/\H w0.heap.size w0 wr) (fun _ i _=>t.e.length-(intOf i).toNat)
 case atStart=>exact ⟨0,by omega,rfl,ae.nil _ _ _ _ _,bR _ _⟩
 case round =>
  obtain ⟨k,hk,rfl,j,g⟩:=hrel
  obtain ⟨A1,a0,rfl,bo,f,bn⟩:=ae.row bS j
  have bl:=ap.below g
  have bh:w0.heap.size<=wr.heap.size:=g.size
  by_cases ah:k<t.e.length
  ·have a6:(k:Int)<(t.e.length:Int):=by omega
   obtain ⟨bb,bs,rfl,hb,a4⟩:=bF.get bl.rowC ah
   obtain ⟨x,hx⟩:∃x,t.e[k]=x:=⟨_,rfl⟩
   obtain ⟨e0,e1,e2,e3,e4⟩:=a4 k ah
   rw[hx] at e0 e1 e2 e3 e4
   have ao:=sn ah hx
   clear a4 hx
   obtain ⟨M,L⟩:∃M,cg (t.e.take k)=M:=⟨_,rfl⟩
   have a1:M.length<=t.e.length:=by rw[<-L];exact nT (gZ _) (by rw[List.length_take];omega)
   rw[L] at j ao f ⊢
   clear L
   have E:=ja1 j
   have R:=ja1 g
   have ad:Gr wr (wr.alloc (ia #[V I x.1.1,V I x.1.2,V I x.2.1,V I x.2.2.1,V I x.2.2.2] 187)):=(gR _).alloc _
   obtain ⟨x0,x1,x2,x3,x4,bt⟩:=(show CelAt _ _ _ from CelAt.new (w:=wr) x 187 rfl)
   clear j g f
   have a8:U (cg (t.e.take (k+1))=M++[x.2.1]):=by show _=_;rw[ao]
   have a2:U (M.length+[x.2.1].length<=maxLen/\(M.length+[x.2.1].length)*8<=140737488355328):=by show _/\_;unfold maxLen;simp only[List.length_cons,List.length_nil];omega
   clear ao
   go_wp2_with (at_builtin;refine aJ _ rfl _ _ rfl w0.heap.size (Z A1 M.length a0) M [x.2.1] (some ⟨wr.heap.size+1,0,none⟩) 1 rfl rfl ?ho ?hr (fun h=>by cases h) a2.out.1 a2.out.2 ?hs ?_)
   case ho=>exact E.out.gr (ad.alloc _)
   case hr=>exact ii (by simp) _ _
   case hs=>simp;omega
   intro v1 w3 r u
   have bc:U (H w0.heap.size w0 w3):=R.out.trans (((ad.alloc _).below.mono bh).trans (ae.grown_below (E.out.gr (ad.alloc _)) u (by simp;omega)))
   have an:=ja1 r
   clear r u
   go_wp2
   go_roundw
   case rel=>exact ⟨k+1,by omega,by go_num,by rw[a8.out];exact an.out,bc.out⟩
   case measure=>simp[intOf];omega
  ·have a6:¬(k:Int)<(t.e.length:Int):=by omega
   have a5:t.e.take k=t.e:=List.take_of_length_le (by omega)
   rw[a5] at j f ⊢
   clear a5
   have a1:(cg t.e).length<=t.e.length:=gZ _
   obtain ⟨M,L⟩:∃M,cg t.e=M:=⟨_,rfl⟩
   rw[L] at j f a1 ⊢
   have a9:=ja1 L
   clear L
   have a7:=iX M w0.heap.size _ wr j (by omega)
   have F:U _:=a7
   have a3:H w.heap.size w wr:=n.trans (g.mono n.size)
   have bd:=n.size
   clear a7 j f
   go_wp2_with fail
   refine ja0 F ?_
   rintro e w2 ⟨C,cp,rfl,be,ba⟩
   clear F
   go_wp2
   go_ret
   rw[a9.out]
   exact ⟨C,cp,rfl,be,a3.trans (ba.mono bd)⟩


def okW (n:Int):Bool:=inB n (-1048576) 1048576
def okN (n:Int):Bool:=inB n (-1073741824) 1073741824
def okR (l:List Int):Bool:=decide (l.length<=8) && l.all okN

theorem gY (n:Int) (w:O) :
  N J 183 #[V I n] w fun e w'=>e= X (ix (okW n))/\w'=w:=by
 by_cases f: -1048576<=n
 ·by_cases g:n<=1048576
  ·have e:okW n=true:=by simp[okW,inB];omega
   rw[e];clear e
   go_enter Tryz.func183,Tryz.ntmps183
   go_wp2
   go_ret
   exact ⟨rfl,rfl⟩
  ·have e:okW n=false:=by simp[okW,inB];omega
   rw[e];clear e
   go_enter Tryz.func183,Tryz.ntmps183
   go_wp2
   go_ret
   exact ⟨rfl,rfl⟩
 ·have e:okW n=false:=by simp[okW,inB];omega
  rw[e];clear e
  go_enter Tryz.func183,Tryz.ntmps183
  go_wp2
  go_ret
  exact ⟨rfl,rfl⟩

theorem pJ (l:List Int) (A:Option Y) (cap:Nat) (w:O) (hl:l.length<=maxLen) (hr:al w A l) :
  N J 182 #[Z A l.length cap] w fun e w'=>e= X (ix (okR l))/\Gr w w':=by
 unfold maxLen at hl
 by_cases h8:8<l.length
 ·have e:okR l=false:=by simp[okR];omega
  rw[e];clear e
  have ad:(8:Int)<(l.length:Int):=by omega
  go_enter Tryz.func182,Tryz.ntmps182
  go_wp2
  go_ret
  exact ⟨rfl,gR _⟩
 ·have ad:¬(8:Int)<(l.length:Int):=by omega
  go_enter Tryz.func182,Tryz.ntmps182
  go_wp2
  go_loopw [10] (fun i wr=>∃k:Nat,k<=l.length/\i= V I k/\U (∀j (h:j<l.length),j<k->okN l[j]=true)/\Gr w wr) (fun i _=>l.length-(intOf i).toNat)
  case atStart=>exact ⟨0,nZ _,rfl,fun j _ C=>absurd C (Nat.not_lt_zero _),gR _⟩
  case round =>
   obtain ⟨k,hk,rfl,F,g⟩:=hrel
   by_cases r:k<l.length
   ·have E:(k:Int)<(l.length:Int):=by omega
    obtain ⟨bb,an,rfl,hb,u⟩:=(hr.gr g).at r
    have R:=u k r 0 (by omega)
    obtain ⟨y,hy⟩:∃y,l[k]=y:=⟨_,rfl⟩
    rw[hy] at R
    have e1:wr.cell? ⟨bb,an+k,none⟩=some (V I y):=by simpa[df] using R
    have L:=ja1 hy
    clear u R hy
    have n:U (okN y=false->okR l=false):=by
     intro h
     unfold okR
     have:l.all okN=false:=by
      rw[List.all_eq_false]
      exact ⟨y,by rw[<-L.out];exact gM r,by simp[h]⟩
     rw[this];simp
    by_cases q1:y < -1073741824
    ·have f:U (okR l=false):=n.out (by simp[okN,inB];omega)
     go_wp2
     go_ret
     exact ⟨by rw[f.out];rfl,g⟩
    ·by_cases q2:1073741824<y
     ·have f:U (okR l=false):=n.out (by simp[okN,inB];omega)
      go_wp2
      go_ret
      exact ⟨by rw[f.out];rfl,g⟩
     ·have ah:U (okN l[k]=true):=by show okN l[k]=true;rw[L.out];simp[okN,inB];omega
      go_wp2
      go_roundw
      case rel =>
       refine ⟨k+1,by omega,by go_num,?_,g⟩
       intro j C ao
       by_cases e:j=k
       ·subst e;exact ah
       ·exact F j C (by omega)
      case measure=>simp[intOf];omega
   ·have E:¬(k:Int)<(l.length:Int):=by omega
    have f:U (okR l=true):=by
     show okR l=true
     unfold okR
     have:l.all okN=true:=by
      rw[List.all_eq_true]
      intro x hx
      obtain ⟨j,C,e⟩:=List.getElem_of_mem hx
      rw[<-e];exact F j C (by omega)
     rw[this];simp;omega
    go_wp2
    go_ret
    exact ⟨by rw[f.out];rfl,g⟩


def aC:List Int->List Int->Int
 | [],[]=>0
 | [],_::_=> -1
 | _::_,[]=>1
 | x::a,y::b=>if aQ x y=0 then aC a b else aQ x y

theorem lg {a b:List Int}:∀k,k<=a.length->k<=b.length->(∀j (f:j<a.length) (g:j<b.length),j<k->aQ a[j] b[j]=0)->aC a b=aC (a.drop k) (b.drop k):=by
 intro k
 induction k with
 | zero=>intros;simp
 | succ k ih =>
  intro f g h
  rw[ih (by omega) (by omega) fun j n r u=>h j n r (by omega)]
  rw[List.drop_eq_getElem_cons (show k<a.length by omega),List.drop_eq_getElem_cons (show k<b.length by omega)]
  show (if aQ a[k] b[k]=0 then _ else _)=_
  rw[if_pos (h k (by omega) (by omega) (by omega))]
theorem Be {a b:List Int} {k:Nat} (g:k<a.length) (n:k<b.length) (h:∀j (g:j<a.length) (n:j<b.length),j<k->aQ a[j] b[j]=0) (f:aQ a[k] b[k]≠0):aC a b=aQ a[k] b[k]:=by
 rw[lg k (by omega) (by omega) h,List.drop_eq_getElem_cons g,List.drop_eq_getElem_cons n]
 show (if aQ a[k] b[k]=0 then _ else _)=_
 rw[if_neg f]
theorem wy {a b:List Int} {k:Nat} (f:k<a.length) (g:k=b.length) (h:∀j (f:j<a.length) (g:j<b.length),j<k->aQ a[j] b[j]=0):aC a b=1:=by
 rw[lg k (by omega) (by omega) h,List.drop_eq_getElem_cons f,show b.drop k=[] from List.drop_eq_nil_of_le (by omega)]
 rfl
theorem yT {a b:List Int} (f:a.length<=b.length) (h:∀j (h1:j<a.length) (h2:j<b.length),j<a.length->aQ a[j] b[j]=0):aC a b=if a.length<b.length then -1 else 0:=by
 rw[lg a.length (by omega) f h,List.drop_eq_nil_of_le (Nat.le_refl _)]
 by_cases k:a.length<b.length
 ·rw[if_pos k,List.drop_eq_getElem_cons k];rfl
 ·rw[if_neg k,List.drop_eq_nil_of_le (by omega)];rfl

theorem rC (a b:List Int) (A B:Option Y) (ca cb:Nat) (w:O) (a3:a.length<=maxLen) (a6:al w A a) (a7:al w B b) :
  N J 185 #[Z A a.length ca,Z B b.length cb] w fun e w'=>e= X (V I (aC a b))/\Gr w w':=by
 unfold maxLen at a3
 go_enter Tryz.func185,Tryz.ntmps185
 go_wp2
 go_loopw [11] (fun i wr=>∃k:Nat,k<=a.length/\k<=b.length/\i= V I k/\U (∀j (h1:j<a.length) (h2:j<b.length),j<k->aQ a[j] b[j]=0)/\Gr w wr) (fun i _=>a.length-(intOf i).toNat)
 case atStart=>exact ⟨0,nZ _,nZ _,rfl,fun j _ _ hj=>absurd hj (Nat.not_lt_zero _),gR _⟩
 case round =>
  obtain ⟨k,hk,be,rfl,E,g⟩:=hrel
  by_cases C:k<a.length
  ·have a2:(k:Int)<(a.length:Int):=by omega
   obtain ⟨bb,a9,rfl,hb,n⟩:=(a6.gr g).at C
   have L:=n k C 0 (by omega)
   obtain ⟨x,hx⟩:∃y,a[k]=y:=⟨_,rfl⟩
   rw[hx] at L
   have e1:wr.cell? ⟨bb,a9+k,none⟩=some (V I x):=by simpa[df] using L
   have an:=ja1 hx
   clear n L hx
   by_cases r:k<b.length
   ·have ah:(k:Int)<(b.length:Int):=by omega
    obtain ⟨bc,a8,rfl,ba,n⟩:=(a7.gr g).at r
    have L:=n k r 0 (by omega)
    obtain ⟨y,hy⟩:∃y,b[k]=y:=⟨_,rfl⟩
    rw[hy] at L
    have e2:wr.cell? ⟨bc,a8+k,none⟩=some (V I y):=by simpa[df] using L
    have ao:=ja1 hy
    clear n L hy
    obtain ⟨c,hc⟩:∃c,aQ x y=c:=⟨_,rfl⟩
    have R:=ja1 hc
    have ad:=jk x y wr
    rw[hc] at ad
    have F:U _:=ad
    clear ad hc
    cases hq:(c != 0)
    ·have u:c=0:=by simpa using hq
     have a5:U (aQ a[k] b[k]=0):=by show aQ _ _=0;rw[an.out,ao.out,R.out,u]
     clear u
     go_wp2_with (go_at_call 178;(refine ja0 F ?_);rintro e w' ⟨rfl,rfl⟩)
     go_roundw
     case rel =>
      refine ⟨k+1,by omega,by omega,by go_num,?_,g⟩
      intro j hj a4 bd
      by_cases e:j=k
      ·subst e;exact a5
      ·exact E j hj a4 (by omega)
     case measure=>simp[intOf];omega
    ·have f:U (aC a b=c):=by
      have u:c≠0:=by simpa using hq
      show _=_
      rw[Be C r E (by rw[an.out,ao.out,R.out];exact u),an.out,ao.out,R.out]
     go_wp2_with (go_at_call 178;(refine ja0 F ?_);rintro e w' ⟨rfl,rfl⟩)
     go_ret
     exact ⟨by rw[f.out];rfl,g⟩
   ·have ah:(b.length:Int)<=(k:Int):=by omega
    have f:U (aC a b=1):=wy C (by omega) E
    go_wp2
    go_ret
    exact ⟨by rw[f.out];rfl,g⟩
  ·have a2:¬(k:Int)<(a.length:Int):=by omega
   have a1:k=a.length:=by omega
   have h:=yT (a:=a) (b:=b) (by omega) (fun j h1 h2 _=>E j h1 h2 (by omega))
   by_cases ap:a.length<b.length
   ·have f:U (aC a b= -1):=by show _=_;rw[h,if_pos ap]
    have a0:(a.length:Int)<(b.length:Int):=by omega
    clear h a1
    go_wp2
    go_ret
    exact ⟨by rw[f.out];rfl,g⟩
   ·have f:U (aC a b=0):=by show _=_;rw[h,if_neg ap]
    have a0:¬(a.length:Int)<(b.length:Int):=by omega
    clear h a1
    go_wp2
    go_ret
    exact ⟨by rw[f.out];rfl,g⟩
theorem eU (a b:List Int) (A B:Option Y) (ca cb:Nat) (w:O) (f:a.length<=maxLen) (g:al w A a) (h:al w B b) :
  N J 159 #[Z A a.length ca,Z B b.length cb] w fun e w'=>e= X (V I (aC a b))/\Gr w w':=by
 go_enter Tryz.func159,Tryz.ntmps159
 go_wp2_with fail
 refine (rC a b A B ca cb _ f g h).mono ?_
 rintro e w' ⟨rfl,j⟩
 go_wp2
 go_ret
 exact ⟨rfl,j⟩


structure Itm where
 p:Option Y
 c:Nat
 r:List Int
 n:Int
def aD (x:Itm):List ib:=[Z x.p x.r.length x.c,V I x.n]
theorem bz (x:Itm):(aD x).length=2:=rfl
theorem fC (x:Itm):∀u∈aD x,u.oneCell'=true:=by
 intro u f
 simp[aD] at f
 rcases f with rfl|rfl<;>rfl
def cV (A:Option Y) (n c:Nat):Prop:=Unit->(if A.isNone then c else 0)+(n-c)=0
theorem cV.z {A:Option Y} {n c:Nat} (h:cV A n c):A=none->c=0:=fun e=>by
 subst e
 have f:c+(n-c)=0:=h ()
 omega
theorem cV.cap {A:Option Y} {n c:Nat} (h:cV A n c):n<=c:=by
 have:=h ()
 omega
theorem cV.mk {A:Option Y} {n c:Nat} (h:A=none->c=0) (k:n<=c):cV A n c:=fun _=>by
 cases A with
 | none=>rw[h rfl] at k ⊢;simp;omega
 | some a=>simp;omega
structure Items (w:O) (A:Option Y) (l:List Itm):Prop where
 row:az aD 2 w A l
 each:∀x∈l,al w x.p x.r/\x.r.length<=maxLen/\(x.p=none->x.c=0)
theorem Items.below {w w':O} {A:Option Y} {l:List Itm} (h:Items w A l) (q:H w.heap.size w w'):Items w' A l:=⟨h.row.below q,fun x f=>⟨(h.each x f).1.below q,(h.each x f).2⟩⟩
theorem Items.gr {w w':O} {A:Option Y} {l:List Itm} (h:Items w A l) (q:Gr w w'):Items w' A l:=h.below q.below
theorem Items.at {w:O} {A:Option Y} {l:List Itm} (h:Items w A l) {k:Nat} (F:k<l.length):∃b f,A=some ⟨b,f,none⟩/\b<w.heap.size/\∀j (g:j<l.length),w.cell? ⟨b,f+j*2,none⟩=some (.slice l[j].p l[j].r.length l[j].c)/\w.cell? ⟨b,f+j*2+1,none⟩=some (V I l[j].n):=by
 obtain ⟨b,f,C,E,u⟩:=h.row.at F
 exact ⟨b,f,C,E,fun j g=>⟨u j g 0 (by omega),u j g 1 (by omega)⟩⟩

abbrev Zit:=List Int×Int
def Itm.z (x:Itm):Zit:=(x.r,x.n)
def okZ (x:Zit):Bool:=okR x.1 && okW x.2 && decide (x.2≠0)
def kF (l:List Zit) (k:Nat):Bool:=decide (k=0) || decide (aC (l.getD (k-1) ([],0)).1 (l.getD k ([],0)).1<0)
def aq (l:List Zit):Int:=if 400<l.length then 2 else if ∃k,k<l.length/\(okZ (l.getD k ([],0)) && kF l k)=false then 5 else 0


theorem Tryz.infoT:(Tryz.prog.info? 151).map (fun i=>(i.zero,i.size,i.bytes))=some (some (ik #[Z none 0 0,V I 0]),2,32):=by kernel_rfl

structure Apart (w:O) (base:Nat) (ob:Option Nat) (x:Itm):Prop where
 row:al w x.p x.r
 len:x.r.length<=maxLen
 nil:x.p=none->x.c=0
 own:∀a,x.p=some a->base<=a.block/\a.block<w.heap.size/\ob≠some a.block
structure OwnT (w:O) (base:Nat) (v:ib) (l:List Itm):Prop where
 own:ae aD 2 151 w base v l
 each:∀x∈l,Apart w base v.ownBlock x
def jP (n:Nat) (C:Option Y) (L:List Itm):Prop:=(∀a,C=some a->n<=a.block)/\∀x∈L,∀a,x.p=some a->n<=a.block
theorem jP.none (n:Nat):jP n none []:=⟨fun a h=>(by cases h),fun x f=>(by cases f)⟩
theorem jP.mono {n m:Nat} {C:Option Y} {L:List Itm} (h:jP n C L) (g:m<=n):jP m C L:=⟨fun a f=>nT g (h.1 a f),fun x j a f=>nT g (h.2 x j a f)⟩
def fl (w:O) (A:Option Y) (c:Nat):Prop:=∀a,A=some a->a.off=0/\a.spot=none/\∃cur,w.heap[a.block]? = some (ia cur 3 (0,0))/\c<=cur.size/\c<=maxLen
def gg (w:O) (A:Option Y) (c:Nat):Prop:=∀a,A=some a->a.off=0/\a.spot=none/\∃cur,w.heap[a.block]? = some (ia cur 151 (0,0))/\c*2<=cur.size/\c<=maxLen
def fm (w:O) (L:List Itm):Prop:=∀x∈L,fl w x.p x.c/\x.r.length<=x.c
theorem fl.lt {w:O} {A:Option Y} {c:Nat} (h:fl w A c):∀a,A=some a->a.block<w.heap.size:=fun a g=>by
 obtain ⟨_,_,f,j,_⟩:=h a g
 exact (Array.getElem?_eq_some_iff.1 j).1
theorem gg.lt {w:O} {A:Option Y} {c:Nat} (h:gg w A c):∀a,A=some a->a.block<w.heap.size:=fun a g=>by
 obtain ⟨_,_,f,j,_⟩:=h a g
 exact (Array.getElem?_eq_some_iff.1 j).1
theorem fl.block {w w':O} {A:Option Y} {c:Nat} (h:fl w A c) (k:∀a,A=some a->w'.heap[a.block]? = w.heap[a.block]?):fl w' A c:=fun a g=>by
 obtain ⟨j,n,f,u,r⟩:=h a g
 exact ⟨j,n,f,(k a g).trans u,r⟩
theorem gg.block {w w':O} {A:Option Y} {c:Nat} (h:gg w A c) (k:∀a,A=some a->w'.heap[a.block]? = w.heap[a.block]?):gg w' A c:=fun a g=>by
 obtain ⟨j,n,f,u,r⟩:=h a g
 exact ⟨j,n,f,(k a g).trans u,r⟩
theorem fl.below {w w':O} {A:Option Y} {c:Nat} (h:fl w A c) (q:H w.heap.size w w'):fl w' A c:=h.block fun a f=>q.block _ (h.lt a f)
theorem gg.below {w w':O} {A:Option Y} {c:Nat} (h:gg w A c) (q:H w.heap.size w w'):gg w' A c:=h.block fun a f=>q.block _ (h.lt a f)
theorem fm.below {w w':O} {L:List Itm} (h:fm w L) (q:H w.heap.size w w'):fm w' L:=fun x f=>⟨(h x f).1.below q,(h x f).2⟩
theorem fl.grown {w w':O} {A:Option Y} {c:Nat} {row:Option Nat} (h:fl w A c) (q:w.grownBy w' row) (k:∀g,row=some g->∃j E,w.heap[g]? = some (ia j E (0,0))/\E≠3):fl w' A c:=h.block fun a r=>q.block _ (h.lt a r) fun e=>by
 obtain ⟨_,_,j,C,_⟩:=h a r
 obtain ⟨n,E,f,u⟩:=k _ e.symm
 rw[C] at f
 injection f with f
 injection f with _ h2
 exact u h2.symm
theorem gg.grown {w w':O} {A:Option Y} {c:Nat} {row:Option Nat} (h:gg w A c) (q:w.grownBy w' row) (k:∀g,row=some g->∃j E,w.heap[g]? = some (ia j E (0,0))/\E≠151):gg w' A c:=h.block fun a r=>q.block _ (h.lt a r) fun e=>by
 obtain ⟨_,_,j,C,_⟩:=h a r
 obtain ⟨n,E,f,u⟩:=k _ e.symm
 rw[C] at f
 injection f with f
 injection f with _ h2
 exact u h2.symm
theorem fm.grown {w w':O} {L:List Itm} {row:Option Nat} (h:fm w L) (q:w.grownBy w' row) (j:∀g,row=some g->∃f n,w.heap[g]? = some (ia f n (0,0))/\n≠3):fm w' L:=fun x k=>⟨(h x k).1.grown q j,(h x k).2⟩
theorem ae.typed {α : Type} {enc: α -> List ib} {k:Nat} {e:TypeId} {w:O} {base:Nat} {v:ib} {l:List α} (h:ae enc k e w base v l) {E:TypeId} (r:e≠E):∀g,v.ownBlock=some g->∃f u,w.heap[g]? = some (ia f u (0,0))/\u≠E:=by
 intro g j
 rcases h.2 with ⟨n,_⟩|⟨g',cap,f,n,_,hc,_⟩
 ·rw[n] at j;cases j
 ·rw[n] at j
  obtain rfl:=sI j
  exact ⟨f,e,hc,r⟩
theorem ae.roomA {w:O} {base:Nat} {A:Option Y} {n cap:Nat} {l:List Itm} (h:ae aD 2 151 w base (Z A n cap) l):gg w A cap:=by
 intro a g
 rcases h.2 with ⟨f,_⟩|⟨g',cap',cur,f,_,hc,_,hm,hs,_⟩
 ·rw[g] at f;injection f with h1;cases h1
 ·rw[g] at f
  injection f with h1 _ h3
  injection h1 with h1
  subst h1 h3
  exact ⟨rfl,rfl,cur,hc,by omega,hm⟩
theorem ae.roomI {w:O} {base:Nat} {A:Option Y} {n cap:Nat} {l:List Int} (h:ae df 1 3 w base (Z A n cap) l):fl w A cap:=by
 intro a g
 rcases h.2 with ⟨f,_⟩|⟨g',cap',cur,f,_,hc,_,hm,hs,_⟩
 ·rw[g] at f;injection f with h1;cases h1
 ·rw[g] at f
  injection f with h1 _ h3
  injection h1 with h1
  subst h1 h3
  exact ⟨rfl,rfl,cur,hc,by omega,hm⟩
structure NwT (w:O) (k n:Nat) (C:Option Y) (L:List Itm):Prop where
 new:jP n C L
 arr:gg w C k
 rows:fm w L
theorem NwT.none (w:O) (n:Nat):NwT w 0 n none []:=⟨jP.none n,fun a h=>(by cases h),fun x f=>(by cases f)⟩
theorem NwT.mono {w:O} {k n m:Nat} {C:Option Y} {L:List Itm} (h:NwT w k n C L) (f:m<=n):NwT w k m C L:=⟨h.new.mono f,h.arr,h.rows⟩
theorem NwT.below {w w':O} {k n:Nat} {C:Option Y} {L:List Itm} (h:NwT w k n C L) (q:H w.heap.size w w'):NwT w' k n C L:=⟨h.new,h.arr.below q,h.rows.below q⟩
theorem OwnT.nil (w:O) (base:Nat):OwnT w base (Z none 0 0) []:=⟨ae.nil _ _ _ _ _,fun x f=>by cases f⟩
theorem Apart.below {w w':O} {base:Nat} {g:Option Nat} {x:Itm} (h:Apart w base g x) (q:H w.heap.size w w'):Apart w' base g x :=
 ⟨h.row.below q,h.len,h.nil,fun a f=>⟨(h.own a f).1,nL (h.own a f).2.1 q.size,(h.own a f).2.2⟩⟩
theorem OwnT.below {w w':O} {base:Nat} {v:ib} {l:List Itm} (h:OwnT w base v l) (q:H w.heap.size w w'):OwnT w' base v l:=⟨h.own.below q,fun x f=>(h.each x f).below q⟩
theorem OwnT.gr {w w':O} {base:Nat} {v:ib} {l:List Itm} (h:OwnT w base v l) (q:Gr w w'):OwnT w' base v l:=h.below q.below
theorem OwnT.items {w:O} {base:Nat} {v:ib} {l:List Itm} (h:OwnT w base v l):∃A cap,v= Z A l.length cap/\cV A l.length cap/\Items w A l/\(∀a,A=some a->base<=a.block/\a.block<w.heap.size):=by
 obtain ⟨A,cap,r,j,n,k,g,_⟩:=ae.full bz h.own
 exact ⟨A,cap,r,cV.mk j k,⟨n,fun x f=>⟨(h.each x f).row,(h.each x f).len,(h.each x f).nil⟩⟩,fun a e=>⟨(g a e).1,(g a e).2.1⟩⟩
theorem Apart.grown {w w':O} {base:Nat} {u f:Option Nat} {x:Itm} (h:Apart w base u x) (q:w.grownBy w' u) (r:f=u\/f=some w.heap.size):Apart w' base f x:=by
 refine ⟨?_,h.len,h.nil,fun a g=>⟨(h.own a g).1,nL (h.own a g).2.1 q.size,?_⟩⟩
 ·rcases h.row with k|⟨b,off,hp,hb,hc⟩
  ·exact oL k
  ·refine oR ⟨b,off,hp,nL hb q.size,fun j C i hi=> ?_⟩
   have n:=(h.own _ hp).2.2
   rw[World.cell?_of_block (a:=⟨b,off+j*1+i,none⟩) (q.block b hb fun e=>n e.symm)]
   exact hc j C i hi
 ·rcases r with e|e
  ·rw[e];exact (h.own a g).2.2
  ·rw[e]
   intro k
   injection k with k
   have:=(h.own a g).2.1
   omega
theorem il (w:O) (L:TypeId) (base:Nat) (v:ib) (l:List Itm) (x:Itm) (A:Y) (cap:Nat) (g:OwnT w base v l) (hr:az aD 2 w (some A) [x]) (hx:Apart w base v.ownBlock x)
  (n:l.length+1<=maxLen) (hb:(l.length+1)*32<=140737488355328) (f:base<=w.heap.size) :
  ∃h w',(Builtin.append_ #[59,59] L #[v,Z (some A) 1 cap]).run J w= .ok h w'/\OwnT w' base h (l++[x])/\H base w w'/\w.grownBy w' v.ownBlock:=by
 obtain ⟨i0,hi,r,C,E⟩:=info_parts Tryz.infoT
 obtain ⟨h,w',R,g2,j,_,F⟩:=run_append_own_at (P:=J) w base 59 L 151 i0 (ik #[Z none 0 0,V I 0]) 2 32 Tryz.underlying59 hi r C E rfl (by omega) v l.length (aL aD l) g.own A 1 cap (aL aD [x]) (aW bz [x]) (hr.cells bz (by omega)) (fun u hu=>ec fC u [x] hu) n hb f
 refine ⟨h,w',R,⟨?_,fun y hy=> ?_⟩,ae.grown_below g.own j f,j⟩
 ·show w'.ownsRow base _ 2 h (l++[x]).length (aL aD (l++[x]))
  rw[List.length_append,cH]
  exact g2
 ·rcases List.mem_append.1 hy with k|k
  ·exact (g.each y k).grown j F
  ·have:y=x:=by simpa using k
   subst this
   exact hx.grown j F
theorem fi (w:O) {ops:Array Oper} {f:List Oper} {o:Oper} {a:Act} {Q:Exit->Act->O->Prop} (n:o.guard=none) (s z:Operand)
  (R:o.op= .call { callee:= .builtin .append,args:= #[s,z],argTypes:= #[59,59] })
  (base:Nat) (v:ib) (l:List Itm) (x:Itm) (A:Y) (cap:Nat) (hs:a.eval s=v) (hz:a.eval z= Z (some A) 1 cap) (j:OwnT w base v l) (u:az aD 2 w (some A) [x]) (hx:Apart w base v.ownBlock x)
  (r:l.length+1<=maxLen) (L:(l.length+1)*32<=140737488355328) (g:base<=w.heap.size)
  (h:∀k w',OwnT w' base k (l++[x])->H base w w'->wpList J ops Q f (a.put o.dst k) w'):wpList J ops Q (o::f) a w :=
 wpList_plain n fun _ F=>by
  obtain ⟨k,w',u,C,E,_⟩:=il w o.type base v l x A cap j u hx r L g
  unfold Oper.wp execOp
  simp only[R,resolve,invoke,builtin,Sem.run_bind,Sem.run_pure,Result.andThen_ok,List.map_toArray,List.map_cons,List.map_nil,hs,hz,u]
  exact F _ _ (h k w' C E)
theorem lP (w:O) {ops:Array Oper} {f:List Oper} {o:Oper} {a:Act} {Q:Exit->Act->O->Prop} (n:o.guard=none) (s z:Operand)
  (ho:o.op= .call { callee:= .builtin .append,args:= #[s,z],argTypes:= #[59,59] })
  (base:Nat) (v:ib) (l:List Itm) (x:Itm) (A:Y) (cap:Nat) (hs:a.eval s=v) (hz:a.eval z= Z (some A) 1 cap) (j:OwnT w base v l) (u:az aD 2 w (some A) [x]) (hx:Apart w base v.ownBlock x)
  (r:l.length+1<=maxLen) (R:(l.length+1)*32<=140737488355328) (g:base<=w.heap.size)
  (h:∀k w',OwnT w' base k (l++[x])->H base w w'->w.grownBy w' v.ownBlock->wpList J ops Q f (a.put o.dst k) w'):wpList J ops Q (o::f) a w :=
 wpList_plain n fun _ L=>by
  obtain ⟨k,w',u,C,E,F⟩:=il w o.type base v l x A cap j u hx r R g
  unfold Oper.wp execOp
  simp only[ho,resolve,invoke,builtin,Sem.run_bind,Sem.run_pure,Result.andThen_ok,List.map_toArray,List.map_cons,List.map_nil,hs,hz,u]
  exact L _ _ (h k w' C E F)
theorem jN (w:O) {ops:Array Oper} {o:Oper} {a:Act} {K:Act->O->Prop} {Q:Exit->Act->O->Prop} {E:Prop} (k:o.guard=none) (s z:Operand)
  (R:o.op= .call { callee:= .builtin .append,args:= #[s,z],argTypes:= #[59,59] })
  (base:Nat) (v:ib) (l:List Itm) (x:Itm) (A:Y) (cap:Nat) (hs:a.eval s=v) (hz:a.eval z= Z (some A) 1 cap) (g:OwnT w base v l) (r:az aD 2 w (some A) [x]) (hx:Apart w base v.ownBlock x)
  (n:l.length+1<=maxLen) (L:(l.length+1)*32<=140737488355328) (f:base<=w.heap.size)
  (h:∀j w',OwnT w' base j (l++[x])->H base w w'->w.grownBy w' v.ownBlock->K (a.put o.dst j) w') :
  if Region.wanted o (yielded ops a.tmps)=true then Oper.wp J o a w K Q else E:=by
 have hw:Region.wanted o (yielded ops a.tmps)=true:=by simp[Region.wanted,k]
 rw[if_pos hw]
 obtain ⟨j,w',r,u,C,F⟩:=il w o.type base v l x A cap g r hx n L f
 unfold Oper.wp execOp
 simp only[R,resolve,invoke,builtin,Sem.run_bind,Sem.run_pure,Result.andThen_ok,List.map_toArray,List.map_cons,List.map_nil,hs,hz,r]
 exact h j w' u C F

structure Lv (W:O) (A:Option Y) (c:Nat) (l:List Itm):Prop where
 items:Items W A l
 nilc:cV A l.length c
 len:l.length<=maxLen
theorem Lv.nil {W:O} {A:Option Y} {c:Nat} {l:List Itm} (h:Lv W A c l):A=none->c=0:=h.nilc.z
theorem Lv.below {W f:O} {A:Option Y} {c:Nat} {l:List Itm} (h:Lv W A c l) (q:H W.heap.size W f):Lv f A c l:=⟨h.items.below q,h.nilc,h.len⟩
theorem Lv.gr {W f:O} {A:Option Y} {c:Nat} {l:List Itm} (h:Lv W A c l) (q:Gr W f):Lv f A c l:=h.below q.below

end Go.Proofs.YtjmmpnmgpgaagaaGreatDoor

namespace Go.Proofs.YtjmmpnmgpgaagaaGreatDoor

theorem bI (x y:Int):(aQ x y= -1/\x<y)\/(aQ x y=0/\x=y)\/(aQ x y=1/\y<x):=by
 unfold aQ
 by_cases h:x<y
 ·rw[if_pos h];exact oL ⟨rfl,h⟩
 ·rw[if_neg h]
  by_cases k:y<x
  ·rw[if_pos k];exact oR (oR ⟨rfl,k⟩)
  ·rw[if_neg k];exact oR (oL ⟨rfl,by omega⟩)
theorem dD:∀a b:List Int,aC b a= -aC a b
 | [],[]=>rfl
 | [],_::_=>rfl
 | _::_,[]=>rfl
 | x::a,y::b=>by
  have f:=bI x y
  have g:=bI y x
  show (if aQ y x=0 then aC b a else aQ y x)= -(if aQ x y=0 then aC a b else aQ x y)
  by_cases e:x=y
  ·subst e
   have:aQ x x=0:=by omega
   rw[if_pos this,if_pos this];exact dD a b
  ·rw[if_neg (by omega),if_neg (by omega)];omega
theorem jj:∀a:List Int,aC a a=0
 | []=>rfl
 | x::a=>by
  have f:=bI x x
  show (if aQ x x=0 then aC a a else aQ x x)=0
  rw[if_pos (by omega)];exact jj a
theorem ji:∀a b:List Int,aC a b=0->a=b
 | [],[],_=>rfl
 | [],_::_,h=>by cases h
 | _::_,[],h=>by cases h
 | x::a,y::b,h=>by
  have g:=bI x y
  have f:(if aQ x y=0 then aC a b else aQ x y)=0:=h
  by_cases e:aQ x y=0
  ·rw[if_pos e] at f
   obtain rfl:x=y:=by omega
   rw[ji a b f]
  ·rw[if_neg e] at f;exact absurd f e
theorem fA:∀a b c:List Int,aC a b<=0->aC b c<=0->aC a c<=0/\(aC a b<0\/aC b c<0->aC a c<0)
 | [],b,[],h1,h2=>by
  cases b with
  | nil=>exact ⟨by decide,fun h=>by rcases h with h|h<;>cases h⟩
  | cons=>exact absurd h2 (by show ¬((1:Int)<=0);decide)
 | [],_,_::_,_,_=>⟨by show (-1:Int)<=0;decide,fun _=>by show (-1:Int)<0;decide⟩
 | _::_,[],_,h,_=>absurd h (by show ¬((1:Int)<=0);decide)
 | _::_,_::_,[],_,h=>absurd h (by show ¬((1:Int)<=0);decide)
 | x::a,y::b,z::c,h1,h2=>by
  have r:=bI x y
  have u:=bI y z
  have C:=bI x z
  have g:(if aQ x y=0 then aC a b else aQ x y)<=0:=h1
  have f:(if aQ y z=0 then aC b c else aQ y z)<=0:=h2
  show (if aQ x z=0 then aC a c else aQ x z)<=0/\((if aQ x y=0 then aC a b else aQ x y)<0\/(if aQ y z=0 then aC b c else aQ y z)<0->(if aQ x z=0 then aC a c else aQ x z)<0)
  by_cases k:aQ x y=0
  ·rw[if_pos k] at g ⊢
   by_cases j:aQ y z=0
   ·rw[if_pos j] at f ⊢
    rw[if_pos (by omega)]
    exact fA a b c g f
   ·rw[if_neg j] at f ⊢
    rw[if_neg (by omega)]
    exact ⟨by omega,fun _=>by omega⟩
  ·rw[if_neg k] at g ⊢
   have n:aQ y z=0\/aQ y z= -1:=by
    by_cases j:aQ y z=0
    ·exact oL j
    ·rw[if_neg j] at f;omega
   rw[if_neg (by omega)]
   exact ⟨by omega,fun _=>by omega⟩
theorem cL {a b c:List Int} (f:aC a b<0) (g:aC b c<0):aC a c<0:=(fA a b c (by omega) (by omega)).2 (oL f)
theorem fO {a b:List Int} (h:aC a b<0):a≠b:=fun e=>by rw[e,jj] at h;omega

def wt:List Zit->List Int->Int
 | [],_=>0
 | x::t,r=>(if x.1=r then x.2 else 0)+wt t r
theorem eh (a b:List Zit) (r:List Int):wt (a++b) r=wt a r+wt b r:=by
 induction a with
 | nil=>simp[wt]
 | cons x a ih=>simp only[List.cons_append,wt,ih];omega
theorem vU {a b:List Zit} (h:a.Perm b) (r:List Int):wt a r=wt b r:=by
 induction h with
 | nil=>rfl
 | cons x _ ih=>simp only[wt,ih]
 | swap x y l=>simp only[wt];omega
 | trans _ _ h1 h2=>rw[h1,h2]
theorem jA {l:List Zit} {r:List Int} (h:∀x∈l,x.1≠r):wt l r=0:=by
 induction l with
 | nil=>rfl
 | cons x l ih =>
  simp only[wt]
  rw[if_neg (h x (by simp)),ih fun y f=>h y (by simp[f])];rfl
theorem rh {l:List Zit} {r:List Int} (h:wt l r≠0):∃x∈l,x.1=r:=by
 induction l with
 | nil=>exact absurd rfl h
 | cons x l ih =>
  by_cases e:x.1=r
  ·exact ⟨x,by simp,e⟩
  ·simp only[wt] at h
   rw[if_neg e] at h
   obtain ⟨y,g,f⟩:=ih (by omega)
   exact ⟨y,by simp[g],f⟩
theorem B4 (l:List Zit) (r:List Int):wt (l.map fun x=>(x.1,-x.2)) r= -wt l r:=by
 induction l with
 | nil=>rfl
 | cons x l ih =>
  simp only[List.map_cons,wt,ih]
  by_cases e:x.1=r
  ·rw[if_pos e,if_pos e];omega
  ·rw[if_neg e,if_neg e];omega

def f8 (l:List Zit):Prop:=l.Pairwise fun x y=>aC x.1 y.1<0
def NoZ (l:List Zit):Prop:=∀x∈l,x.2≠0
theorem f8.wt {l:List Zit} (h:f8 l) {x:Zit} (g:x∈l):wt l x.1=x.2:=by
 induction l with
 | nil=>cases g
 | cons y l ih =>
  have f:=List.pairwise_cons.1 h
  simp only[Go.Proofs.YtjmmpnmgpgaagaaGreatDoor.wt]
  rcases List.mem_cons.1 g with e|e
  ·subst e
   rw[if_pos rfl,jA fun z j k=>fO (f.1 z j) k.symm];omega
  ·rw[if_neg (fO (f.1 x e)),ih f.2 e];omega
theorem pY:∀ {a b:List Zit},f8 a->f8 b->NoZ a->NoZ b->(∀r,wt a r=wt b r)->a=b
 | [],[],_,_,_,_,_=>rfl
 | [],y::b,_,hb,_,nb,h=>by
  have g:=h y.1
  rw[hb.wt (List.mem_cons_self ..)] at g
  exact absurd g.symm (nb y (mS ..))
 | x::a,[],ha,_,na,_,h=>by
  have g:=h x.1
  rw[ha.wt (List.mem_cons_self ..)] at g
  exact absurd g (na x (mS ..))
 | x::a,y::b,ha,hb,na,nb,h=>by
  have j:=List.pairwise_cons.1 ha
  have n:=List.pairwise_cons.1 hb
  have u:=h x.1
  have E:=h y.1
  rw[ha.wt (List.mem_cons_self ..)] at u
  rw[hb.wt (List.mem_cons_self ..)] at E
  have e:aC x.1 y.1=0:=by
   by_cases F:aC x.1 y.1<0
   ·exfalso
    refine na x (mS ..) (u.trans (jA fun z f k=> ?_))
    rcases List.mem_cons.1 f with e|e
    ·subst e;exact fO F k.symm
    ·exact fO (cL F (n.1 z e)) k.symm
   ·by_cases L:aC y.1 x.1<0
    ·exfalso
     refine nb y (mS ..) (E.symm.trans (jA fun z f k=> ?_))
     rcases List.mem_cons.1 f with e|e
     ·subst e;exact fO L k.symm
     ·exact fO (cL L (j.1 z e)) k.symm
    ·have:=dD x.1 y.1;omega
  have C:=ji _ _ e
  have R:x.2=y.2:=by rw[u,C,hb.wt (List.mem_cons_self ..)]
  obtain rfl:x=y:=Prod.ext C R
  rw[pY j.2 n.2 (fun z f=>na z (List.mem_cons_of_mem _ f)) (fun z f=>nb z (List.mem_cons_of_mem _ f)) fun r=>by
   have:=h r
   simp only[Go.Proofs.YtjmmpnmgpgaagaaGreatDoor.wt] at this
   omega]

theorem jm {l:List Zit} {k:Nat} (h:k<l.length):l.getD k ([],0)=l[k]:=by
 rw[List.getD_eq_getElem?_getD,List.getElem?_eq_getElem h];rfl
theorem aR (l:List Zit):aq l=0↔l.length<=400/\(∀x∈l,okZ x=true)/\f8 l:=by
 unfold aq
 by_cases r:400<l.length
 ·rw[if_pos r]
  exact ⟨fun h=>absurd h (by decide),fun h=>absurd h.1 (by omega)⟩
 ·rw[if_neg r]
  constructor
  ·intro h
   have n:∀k,k<l.length->okZ (l.getD k ([],0))=true/\kF l k=true:=by
    intro k f
    have:(okZ (l.getD k ([],0)) && kF l k)=true:=by
     cases e:(okZ (l.getD k ([],0)) && kF l k)
     ·rw[if_pos ⟨k,f,e⟩] at h;cases h
     ·rfl
    simpa using this
   have g:∀k (h:k+1<l.length),aC l[k].1 l[k+1].1<0:=by
    intro k f
    have:=(n (k+1) f).2
    unfold kF at this
    rw[Nat.add_sub_cancel,jm f,jm (show k<l.length by omega)] at this
    simpa using this
   refine ⟨by omega,?_,?_⟩
   ·intro x hx
    obtain ⟨k,f,rfl⟩:=List.mem_iff_getElem.1 hx
    have:=(n k f).1
    rwa [jm f] at this
   ·have:∀d i (hi:i+d+1<l.length),aC (l[i]'(by omega)).1 (l[i+d+1]'hi).1<0:=by
     intro d
     induction d with
     | zero=>intro i hi;exact g i hi
     | succ d ih=>intro i hi;exact cL (ih i (by omega)) (g (i+d+1) hi)
    unfold f8
    rw[List.pairwise_iff_getElem]
    intro i j hi hj ad
    have C:=this (j-i-1) i (by omega)
    have e:i+(j-i-1)+1=j:=by omega
    simpa only[e] using C
  ·rintro ⟨_,E,F⟩
   rw[if_neg]
   rintro ⟨k,f,u⟩
   have L:okZ (l.getD k ([],0))=true:=by rw[jm f];exact E _ (gM f)
   have R:kF l k=true:=by
    unfold kF
    by_cases e:k=0
    ·simp[e]
    ·rw[jm f,jm (show k-1<l.length by omega)]
     have:=(List.pairwise_iff_getElem.1 F) (k-1) k (by omega) f (by omega)
     simp[this]
   rw[L,R] at u;cases u

def qt (l:List Zit):Prop:=∃r,okW (wt l r)=false
structure IsTot (l S:List Zit):Prop where
 rise:f8 S
 noz:NoZ S
 same:∀r,wt S r=wt l r
theorem IsTot.uniq {l m S T:List Zit} (h:IsTot l S) (k:IsTot m T) (e:∀r,wt l r=wt m r):S=T:=pY h.rise k.rise h.noz k.noz fun r=>by rw[h.same,k.same,e]
theorem vG {l:List Zit} (h:∀x∈l,okZ x=true):NoZ l:=fun x f=>by
 have:=h x f
 unfold okZ at this
 simp at this
 exact this.2
theorem IsTot.row {l S:List Zit} (h:IsTot l S) {x:Zit} (f:x∈S):∃y∈l,y.1=x.1:=rh (by rw[<-h.same,h.rise.wt f];exact h.noz x f)
theorem IsTot.okZ {l S:List Zit} (h:IsTot l S) (n:¬qt l) (r:∀x∈l,okR x.1=true):∀x∈S,okZ x=true:=by
 intro x f
 obtain ⟨y,u,e⟩:=h.row f
 have j:=r y u
 have k:okW x.2=true:=by
  cases g:okW x.2
  ·exact absurd ⟨x.1,by rw[<-h.same,h.rise.wt f];exact g⟩ n
  ·rfl
 unfold Go.Proofs.YtjmmpnmgpgaagaaGreatDoor.okZ
 rw[<-e,j,k]
 simp[h.noz x f]
theorem bA {x:Zit} (h:okZ x=true):okR x.1=true/\okW x.2=true/\x.2≠0:=by
 unfold okZ at h
 simp only[Bool.and_eq_true,decide_eq_true_eq] at h
 exact ⟨h.1.1,h.1.2,h.2⟩
theorem BN (n:Int):okW (-n)=okW n:=by
 unfold okW inB
 rw[Bool.eq_iff_iff]
 simp only[Bool.and_eq_true,decide_eq_true_eq]
 omega
theorem BI {l:List Zit} (h:aq l=0):aq (l.map fun x=>(x.1,-x.2))=0:=by
 rw[aR] at h ⊢
 refine ⟨by simpa using h.1,?_,?_⟩
 ·intro x f
  obtain ⟨y,g,rfl⟩:=List.mem_map.1 f
  have:=bA (h.2.1 y g)
  unfold okZ
  simp only[Bool.and_eq_true,decide_eq_true_eq]
  exact ⟨⟨this.1,by rw[BN];exact this.2.1⟩,by omega⟩
 ·unfold f8
  rw[List.pairwise_map]
  exact h.2.2

end Go.Proofs.YtjmmpnmgpgaagaaGreatDoor
