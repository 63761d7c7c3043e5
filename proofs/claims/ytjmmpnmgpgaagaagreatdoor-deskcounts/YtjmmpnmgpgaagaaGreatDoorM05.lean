import Derived.Test.YtjmmpnmgpgaagaaGreatDoorM04
import Derived.ProofKit
import Derived.OpenShut
import Derived.ChangeOld
import Derived.Deep.SlicePairs
import Derived.Lib.SmallJoins
import Derived.Shelf.Small.Strs
set_option maxRecDepth 100000
set_option maxHeartbeats 8000000
open Go renaming Addr → Z, World → Y, Calls → P
open Go.Ending renaming returned → J
open Go.IntKind renaming i64 → X
open Go.Proofs.Tryz renaming prog → V
open Go.RowKit renaming Hid → O, Below → K
open Go.Value renaming slice → I, int → U, tuple → Q
namespace Go.Proofs.YtjmmpnmgpgaagaaGreatDoor

theorem se {x:Zit}:∀ {S:List Zit},(gX x S).length<=S.length+1
 | []=>by
  unfold gX
  by_cases e:x.2=0
  ·rw[if_pos e];simp
  ·rw[if_neg e];simp
 | y::t=>by
  unfold gX
  by_cases f:aC x.1 y.1<0
  ·rw[if_pos f]
   by_cases e:x.2=0
   ·rw[if_pos e];simp
   ·rw[if_neg e];simp
  ·rw[if_neg f]
   by_cases g:aC x.1 y.1=0
   ·rw[if_pos g]
    by_cases e:x.2+y.2=0
    ·rw[if_pos e];simp;omega
    ·rw[if_neg e];simp
   ·rw[if_neg g]
    have:= @se x t
    simp;omega
theorem kW:∀l:List Zit,(dh l).length<=l.length
 | []=>by simp[dh]
 | x::t=>by
  have f:=kW t
  have g:= @se x (dh t)
  show (gX x (dh t)).length<=_
  simp;omega
theorem m9 {l:List Zit} (h:bY l=0):l.length<=400/\(∀x∈l,okR x.1=true/\okW x.2=true)/\dq l=0:=by
 unfold bY at h
 by_cases g:400<l.length
 ·rw[if_pos g] at h;cases h
 ·rw[if_neg g] at h
  by_cases f:l.all (fun x=>okR x.1 && okW x.2)=true
  ·rw[if_pos f] at h
   exact ⟨by omega,fun x j=>by simpa using List.all_eq_true.1 f x j,h⟩
  ·rw[if_neg f] at h;cases h
theorem vE {l:List Zit} (h:bY l=0):dA l=dh l/\aq (dh l)=0:=by
 have p:=m9 h
 refine ⟨by unfold dA;rw[if_pos h],(aR _).2 ⟨nT (kW l) p.1,?_,(bB l).rise⟩⟩
 exact (bB l).okZ (ql p.2.2) fun x f=>(p.2.1 x f).1
theorem add_comm {a b:List Zit} (h:aY a b=0):aY b a=0/\bw a b=bw b a:=by
 have j:∀r,wt (b++a) r=wt (a++b) r:=fun r=>by rw[eh,eh];omega
 have e:aY b a=0:=by
  unfold aY at h ⊢
  by_cases f:aq a=0
  ·rw[if_pos f] at h
   by_cases g:aq b=0
   ·rw[if_pos g] at h
    rw[if_pos g,if_pos f,yk j,jx j];exact h
   ·rw[if_neg g] at h;exact absurd h g
  ·rw[if_neg f] at h;exact absurd h f
 refine ⟨e,?_⟩
 unfold bw
 rw[if_pos h,if_pos e,jx j]
end Go.Proofs.YtjmmpnmgpgaagaaGreatDoor

namespace Go.Proofs.YtjmmpnmgpgaagaaGreatDoor
open Go.RowKit Go.Sort

theorem us {l:List Itm} {k:Nat} (f:¬ 400<l.length) (j:k<l.length) (h:(okR l[k].r && okW l[k].n)=false):bY (l.map Itm.z)=5:=by
 unfold bY
 rw[if_neg (by simpa using f),if_neg]
 intro g
 have:=List.all_eq_true.1 g l[k].z (List.mem_map.2 ⟨l[k],gM j,rfl⟩)
 unfold Itm.z at this
 rw[h] at this;cases this
theorem xz {l:List Itm} (f:¬ 400<l.length) (h:∀j (h:j<l.length),okR l[j].r=true/\okW l[j].n=true):bY (l.map Itm.z)=dq (l.map Itm.z):=by
 unfold bY
 rw[if_neg (by simpa using f),if_pos]
 rw[List.all_eq_true]
 intro x k
 obtain ⟨y,u,rfl⟩:=List.mem_map.1 k
 obtain ⟨j,g,rfl⟩:=List.mem_iff_getElem.1 u
 have:=h j g
 simp[Itm.z,this.1,this.2]
theorem nH {l:List Zit} (h:bY l≠0):dA l=[]:=by unfold dA;rw[if_neg h]

theorem Ab (l:List Itm) (A:Option Z) (cap:Nat) (w:Y) (hl:l.length<=maxLen) (hA:A=none->cap=0) (hr:Items w A l) :
  P V 259 #[I A l.length cap] w fun e w'=>∃(L:List Itm) (C:Option Z) (c:Nat),e= J (Q #[I C L.length c,U X (bY (l.map Itm.z))])/\L.map Itm.z=dA (l.map Itm.z)/\Items w' C L/\cV C L.length c/\K w.heap.size w w'/\NwT w' c w.heap.size C L:=by
 have bn:Tryz.prog.follows .mixedOrders=true:=by kernel_rfl
 unfold maxLen at hl
 have a5:=ja2 hr hA
 clear hr hA
 by_cases h4:400<l.length
 ·have e:O (bY (l.map Itm.z)=2):=by show _=_;unfold bY;rw[if_pos (by simpa using h4)]
  have e2:O (dA (l.map Itm.z)=[]):=nH (by rw[e.out];decide)
  have bh:(400:Int)<(l.length:Int):=by omega
  go_enter Tryz.func259,Tryz.ntmps259
  go_wp2
  go_ret2
  exact ⟨[],none,0,by rw[e.out];rfl,by rw[e2.out];rfl,⟨oL rfl,fun x hx=>by cases hx⟩,fun _=>rfl,bR _ _,NwT.none _ _⟩
 ·have bh:¬(400:Int)<(l.length:Int):=by omega
  go_enter Tryz.func259,Tryz.ntmps259
  go_wp2
  go_loopw [11] (fun i wr=>∃k:Nat,k<=l.length/\i= U X k/\O (∀j (h:j<l.length),j<k->okR l[j].r=true/\okW l[j].n=true)/\Gr w wr) (fun i _=>l.length-(intOf i).toNat)
  case atStart=>exact ⟨0,by omega,rfl,fun j _ h=>by omega,gR _⟩
  case round =>
   rename Y=>g
   obtain ⟨k,hk,rfl,ad,E⟩:=hrel
   by_cases F:k<l.length
   ·have a9:(k:Int)<(l.length:Int):=by omega
    have a6:=ja1 (a5.out.1.gr E)
    obtain ⟨b,bp,rfl,hb,a7⟩:=a6.out.at F
    obtain ⟨x,hx⟩:∃x,l[k]=x:=⟨_,rfl⟩
    obtain ⟨e0,e1⟩:=a7 k F
    rw[hx] at e0 e1
    have bd:=ja1 hx
    have be:O (al g x.p x.r/\x.r.length<=maxLen):=⟨(a6.out.each x (by rw[<-hx];exact gM F)).1,(a6.out.each x (by rw[<-hx];exact gM F)).2.1⟩
    clear a7 hx
    have a8:Gr g (g.alloc (.cells #[I x.p x.r.length x.c,U X x.n] 151)):=(gR _).alloc _
    have x0:(g.alloc (.cells #[I x.p x.r.length x.c,U X x.n] 151)).cell? ⟨g.heap.size,0,none⟩=some (I x.p x.r.length x.c):=aa (gR _) rfl
    have x1:(g.alloc (.cells #[I x.p x.r.length x.c,U X x.n] 151)).cell? ⟨g.heap.size,1,none⟩=some (U X x.n):=aa (gR _) rfl
    have a2:=pJ x.r x.p x.c (g.alloc (.cells #[I x.p x.r.length x.c,U X x.n] 151)) be.out.2 (be.out.1.gr a8)
    have ao:O _:=a2
    clear a2
    go_wp2_with fail
    refine ja0 ao ?_
    rintro e w2 ⟨rfl,a4⟩
    clear ao x0 x1
    have an:Gr w w2:=(E.trans a8).trans a4
    have x0:w2.cell? ⟨g.heap.size,0,none⟩=some (I x.p x.r.length x.c):=aa a4 rfl
    have x1:w2.cell? ⟨g.heap.size,1,none⟩=some (U X x.n):=aa a4 rfl
    have ah:O ((okR x.r && okW x.n)=false->bY (l.map Itm.z)=5/\dA (l.map Itm.z)=[]):=fun h=>by
     have h5:=us h4 F (by rw[bd.out];exact h)
     exact ⟨h5,nH (by rw[h5];decide)⟩
    cases bb:okR x.r
    ·have f:O (bY (l.map Itm.z)=5/\dA (l.map Itm.z)=[]):=ah.out (by simp[bb])
     go_wp2
     go_ret2
     exact ⟨[],none,0,by rw[f.out.1];rfl,by rw[f.out.2];rfl,⟨oL rfl,fun x hx=>by cases hx⟩,fun _=>rfl,an.below,NwT.none _ _⟩
    ·have R:=gY x.n w2
     cases a0:okW x.n
     ·have f:O (bY (l.map Itm.z)=5/\dA (l.map Itm.z)=[]):=ah.out (by simp[a0])
      rw[a0] at R
      have ap:O _:=R
      clear R
      go_wp2_with (go_at_call 183;(refine ja0 ap ?_);rintro e w' ⟨rfl,rfl⟩)
      go_ret2
      exact ⟨[],none,0,by rw[f.out.1];rfl,by rw[f.out.2];rfl,⟨oL rfl,fun x hx=>by cases hx⟩,fun _=>rfl,an.below,NwT.none _ _⟩
     ·rw[a0] at R
      have ap:O _:=R
      clear R
      have ba:O (okR l[k].r=true/\okW l[k].n=true):=by show _/\_;rw[bd.out];exact ⟨bb,a0⟩
      go_wp2_with (go_at_call 183;(refine ja0 ap ?_);rintro e w' ⟨rfl,rfl⟩)
      go_roundw
      case rel =>
       refine ⟨k+1,F,by go_num,?_,an⟩
       intro j hj bo
       by_cases e:j=k
       ·subst e;exact ba.out
       ·exact ad j hj (by omega)
      case measure=>simp[intOf];omega
   ·have a9:¬(k:Int)<(l.length:Int):=by omega
    have a1:O (∀j (h:j<l.length),okR l[j].r=true/\okW l[j].n=true):=fun j h=>ad j h (by omega)
    have f:O (bY (l.map Itm.z)=dq (l.map Itm.z)/\dA (l.map Itm.z)=ol (l.map Itm.z)):=by
     have h1:=xz h4 a1.out
     refine ⟨h1,?_⟩
     unfold dA ol
     rw[h1]
    have bc:=pd l A cap g a5.out.2 (a5.out.1.gr E) (by omega) (fun x hx=>by
     obtain ⟨j,hj,rfl⟩:=List.mem_iff_getElem.1 hx
     have:=a1.out j hj
     refine ⟨this.2,?_⟩
     have h8:=this.1
     simp only[okR,Bool.and_eq_true,decide_eq_true_eq] at h8
     exact h8.1)
    have a3:O _:=bc
    clear ad bc
    go_wp2_with fail
    refine ja0 a3 ?_
    rintro e w3 ⟨L,C,c,rfl,h1,h2,h3,h4,h5⟩
    have bl:=ja1 (h5.mono E.size)
    have u:O (L.map Itm.z=dA (l.map Itm.z)/\Items w3 C L/\cV C L.length c/\K w.heap.size w w3):=⟨by rw[h1,f.out.2],h2,h3,E.below.trans (h4.mono E.size)⟩
    clear h1 h2 h3 h4 h5 a3
    go_wp2
    go_ret2
    exact ⟨L,C,c,by rw[f.out.1];rfl,u.out.1,u.out.2.1,u.out.2.2.1,u.out.2.2.2,bl.out⟩

theorem CI {a b:List Zit} (h:aq a≠0):aY a b=aq a/\bw a b=[]:=by
 have e:aY a b=aq a:=by unfold aY;rw[if_neg h]
 exact ⟨e,by unfold bw;rw[e,if_neg h]⟩
theorem CJ {a b:List Zit} (f:aq a=0) (h:aq b≠0):aY a b=aq b/\bw a b=[]:=by
 have e:aY a b=aq b:=by unfold aY;rw[if_pos f,if_neg h]
 exact ⟨e,by unfold bw;rw[e,if_neg h]⟩
theorem CM {a b:List Zit} (f:aq a=0) (g:aq b=0) (h:dq (a++b)≠0):aY a b=dq (a++b)/\bw a b=[]:=by
 have e:aY a b=dq (a++b):=by unfold aY;rw[if_pos f,if_pos g,if_neg h]
 exact ⟨e,by unfold bw;rw[e,if_neg h]⟩
theorem CK {a b:List Zit} (f:aq a=0) (g:aq b=0) (h:dq (a++b)=0) (j:400<(dh (a++b)).length):aY a b=2/\bw a b=[]:=by
 have e:aY a b=2:=by unfold aY;rw[if_pos f,if_pos g,if_pos h,if_pos j]
 exact ⟨e,by unfold bw;rw[e,if_neg (by decide)]⟩
theorem CL {a b:List Zit} (f:aq a=0) (g:aq b=0) (h:dq (a++b)=0) (j:¬ 400<(dh (a++b)).length):aY a b=0/\bw a b=dh (a++b):=by
 have e:aY a b=0:=by unfold aY;rw[if_pos f,if_pos g,if_pos h,if_neg j]
 exact ⟨e,by unfold bw;rw[if_pos e]⟩
theorem gm {l:List Itm} (h:aq (l.map Itm.z)=0):l.length<=400/\∀x∈l,okW x.n=true/\x.r.length<=8:=by
 have f:=(aR _).1 h
 refine ⟨by simpa using f.1,fun x k=> ?_⟩
 have g:=bA (f.2.1 x.z (List.mem_map.2 ⟨x,k,rfl⟩))
 have j:=g.1
 simp only[okR,Bool.and_eq_true,decide_eq_true_eq] at j
 exact ⟨g.2.1,j.1⟩

theorem uV (a b:List Itm) (A B:Option Z) (ca cb:Nat) (w:Y) (a8:a.length<=maxLen) (a9:b.length<=maxLen) (hA:A=none->ca=0) (hB:B=none->cb=0) (a5:Items w A a) (bd:Items w B b) :
  P V 202 #[I A a.length ca,I B b.length cb] w fun e w'=>∃(L:List Itm) (C:Option Z) (c:Nat),e= J (Q #[I C L.length c,U X (aY (a.map Itm.z) (b.map Itm.z))])/\L.map Itm.z=bw (a.map Itm.z) (b.map Itm.z)/\Items w' C L/\cV C L.length c/\K w.heap.size w w'/\NwT w' c w.heap.size C L:=by
 have ad:=fy a A ca w a8 a5
 have j:O _:=ad
 have n:=ja5 a5 bd hA hB a9
 clear ad a5 bd hA hB a8 a9
 go_enter Tryz.func202,Tryz.ntmps202
 go_wp2_with fail
 refine ja0 j ?_
 rintro e w1 ⟨rfl,a1⟩
 clear j
 obtain ⟨E,hE⟩:∃E,aq (a.map Itm.z)=E:=⟨_,rfl⟩
 have ao:=ja1 hE
 rw[hE]
 clear hE
 cases hq:(E != 0)
 ·have r:E=0:=by simpa using hq
  have k:O (aq (a.map Itm.z)=0):=by show _=_;rw[ao.out,r]
  subst r
  clear ao
  have ad:=fy b B cb w1 n.out.2.2.2.2 (n.out.2.1.gr a1)
  have j:O _:=ad
  clear ad
  go_wp2_with fail
  refine ja0 j ?_
  rintro e w2 ⟨rfl,ba⟩
  clear j
  obtain ⟨F,hF⟩:∃E,aq (b.map Itm.z)=E:=⟨_,rfl⟩
  have ap:=ja1 hF
  rw[hF]
  clear hF
  cases bb:(F != 0)
  ·have u:F=0:=by simpa using bb
   have an:O (aq (b.map Itm.z)=0):=by show _=_;rw[ap.out,u]
   subst u
   clear ap
   have ah:Gr w w2:=a1.trans ba
   have be:=pf a b A B ca cb w2 n.out.2.2.1 n.out.2.2.2.1 (n.out.1.gr ah) (n.out.2.1.gr ah) (gm k.out).1 (gm an.out).1 (gm k.out).2 (gm an.out).2
   have a2:O _:=be
   clear be
   go_wp2_with fail
   refine ja0 a2 ?_
   rintro e w3 ⟨L,C,c,rfl,h1,h2,h3,h4,h5⟩
   have bl:=ja1 (h5.mono ah.size)
   have h:=ja4 h1 h2 h3 (ah.below.trans (h4.mono ah.size))
   clear h1 h2 h3 h4 h5 a2
   obtain ⟨G,hG⟩:∃G,dq (a.map Itm.z++b.map Itm.z)=G:=⟨_,rfl⟩
   have a0:=ja1 hG
   rw[hG]
   clear hG
   cases bc:(G != 0)
   ·have R:G=0:=by simpa using bc
    have a3:O (dq (a.map Itm.z++b.map Itm.z)=0):=by show _=_;rw[a0.out,R]
    subst R
    clear a0
    have a7:O (L.map Itm.z=dh (a.map Itm.z++b.map Itm.z)):=by show _=_;rw[h.out.1,vQ a3.out]
    have a6:O ((dh (a.map Itm.z++b.map Itm.z)).length=L.length):=by show _=_;rw[<-a7.out,List.length_map]
    by_cases h4:400<L.length
    ·have bh:(400:Int)<(L.length:Int):=by omega
     have f:=CK k.out an.out a3.out (by rw[a6.out];exact h4)
     have g:=ja1 f
     clear f
     go_wp2
     go_ret2
     exact ⟨[],none,0,by rw[g.out.1];rfl,by rw[g.out.2];rfl,⟨oL rfl,fun x hx=>by cases hx⟩,fun _=>rfl,h.out.2.2.2,NwT.none _ _⟩
    ·have bh:¬(400:Int)<(L.length:Int):=by omega
     have f:=CL k.out an.out a3.out (by rw[a6.out];exact h4)
     have g:=ja1 f
     clear f
     go_wp2
     go_ret2
     exact ⟨L,C,c,by rw[g.out.1];rfl,by rw[g.out.2];exact a7.out,h.out.2.1,h.out.2.2.1,h.out.2.2.2,bl.out⟩
   ·have R:G≠0:=by simpa using bc
    have g:O (aY (a.map Itm.z) (b.map Itm.z)=G/\bw (a.map Itm.z) (b.map Itm.z)=[]):=by
     have:=CM k.out an.out (by rw[a0.out];exact R)
     rw[a0.out] at this
     exact this
    clear R
    go_wp2
    go_ret2
    exact ⟨[],none,0,by rw[g.out.1];rfl,by rw[g.out.2];rfl,⟨oL rfl,fun x hx=>by cases hx⟩,fun _=>rfl,h.out.2.2.2,NwT.none _ _⟩
  ·have u:F≠0:=by simpa using bb
   have f:O (aY (a.map Itm.z) (b.map Itm.z)=F/\bw (a.map Itm.z) (b.map Itm.z)=[]):=by
    have:=CJ (b:=b.map Itm.z) k.out (by rw[ap.out];exact u)
    rw[ap.out] at this
    exact this
   have a4:=ja1 ((a1.trans ba).below)
   clear u
   go_wp2
   go_ret2
   exact ⟨[],none,0,by rw[f.out.1];rfl,by rw[f.out.2];rfl,⟨oL rfl,fun x hx=>by cases hx⟩,fun _=>rfl,a4.out,NwT.none _ _⟩
 ·have r:E≠0:=by simpa using hq
  have f:O (aY (a.map Itm.z) (b.map Itm.z)=E/\bw (a.map Itm.z) (b.map Itm.z)=[]):=by
   have:=CI (b:=b.map Itm.z) (show aq (a.map Itm.z)≠0 by rw[ao.out];exact r)
   rw[ao.out] at this
   exact this
  have a4:=ja1 a1.below
  clear r
  go_wp2
  go_ret2
  exact ⟨[],none,0,by rw[f.out.1];rfl,by rw[f.out.2];rfl,⟨oL rfl,fun x hx=>by cases hx⟩,fun _=>rfl,a4.out,NwT.none _ _⟩
theorem B6 (a b:List Itm) (A B:Option Z) (ca cb:Nat) (w:Y) (f:a.length<=maxLen) (g:b.length<=maxLen) (F:A=none->ca=0) (R:B=none->cb=0) (h:Items w A a) (j:Items w B b) :
  P V 202 #[I A a.length ca,I B b.length cb] w fun e w'=>∃(L:List Itm) (C:Option Z) (c:Nat),e= J (Q #[I C L.length c,U X (aY (a.map Itm.z) (b.map Itm.z))])/\L.map Itm.z=bw (a.map Itm.z) (b.map Itm.z)/\Items w' C L/\cV C L.length c/\K w.heap.size w w':=by
 refine (uV a b A B ca cb w f g F R h j).mono ?_
 rintro e w' ⟨L,C,c,k,n,r,u,E,_⟩
 exact ⟨L,C,c,k,n,r,u,E⟩

section
open Go.ChangeShapes Go.WideShapes Go.ChangeAt Go.Deep

theorem Ee:ownKnob Tryz.prog.godebug=none:=by kernel_rfl
theorem laidAll:laidOutB V=true:=by kernel_rfl

variable {H:Type} {enc:TypeId×Value->H} {W:Y}

end
section
open Go.ChangeShapes Go.WideShapes Go.ChangeAt Go.Deep

variable {H:Type} {enc:TypeId×Value->H} {W:Y}

end
end Go.Proofs.YtjmmpnmgpgaagaaGreatDoor

namespace Go.Proofs.YtjmmpnmgpgaagaaGreatDoor
open Go.ChangeShapes Go.WideShapes Go.ChangeAt Go.RowKit Go.Deep

variable {H:Type} {enc:TypeId×Value->H} {W:Y}

end Go.Proofs.YtjmmpnmgpgaagaaGreatDoor

namespace Go.Proofs.YtjmmpnmgpgaagaaGreatDoor
open Go.RowKit Go.Sort

theorem mA {L:List Itm} {m:List Zit} (h:L.map Itm.z=m) (f:m.length<=400):L.length<=maxLen:=by
 have:L.length=m.length:=by rw[<-h,List.length_map]
 unfold maxLen;omega
theorem xA (l:List Zit):(dA l).length<=400:=by
 unfold dA
 by_cases h:bY l=0
 ·rw[if_pos h];exact nT (kW l) (m9 h).1
 ·rw[if_neg h];simp
theorem A5 (l:List Zit):(iG l).length<=400:=by
 unfold iG
 by_cases h:aq l=0
 ·rw[if_pos h,List.length_map];exact ((aR _).1 h).1
 ·rw[if_neg h];simp
theorem rl (a b:List Zit):(bw a b).length<=400:=by
 unfold bw
 by_cases h:aY a b=0
 ·rw[if_pos h]
  by_cases k:400<(dh (a++b)).length
  ·exfalso
   unfold aY at h
   by_cases f:aq a=0
   ·rw[if_pos f] at h
    by_cases g:aq b=0
    ·rw[if_pos g] at h
     by_cases j:dq (a++b)=0
     ·rw[if_pos j,if_pos k] at h;cases h
     ·rw[if_neg j] at h;exact j h
    ·rw[if_neg g] at h;exact g h
   ·rw[if_neg f] at h;exact f h
  ·omega
 ·rw[if_neg h];simp
theorem qN {W:Y} {A:Option Z} {c:Nat} {l:List Itm} (h:Lv W A c l) {m:List Zit} (u:l.map Itm.z=m) :
  P V 259 #[I A l.length c] W fun e w'=>∃(L:List Itm) (C:Option Z) (k:Nat),e= J (Q #[I C L.length k,U X (bY m)])/\L.map Itm.z=dA m/\Lv w' C k L/\K W.heap.size W w'/\NwT w' k W.heap.size C L:=by
 subst u
 refine (Ab l A c W h.len h.nil h.items).mono ?_
 rintro e w' ⟨L,C,k,g,f,j,n,r⟩
 exact ⟨L,C,k,g,f,⟨j,n,mA f (xA _)⟩,r⟩
theorem Ea {W:Y} {A:Option Z} {c:Nat} {l:List Itm} (h:Lv W A c l) {m:List Zit} (u:l.map Itm.z=m) :
  P V 195 #[I A l.length c] W fun e w'=>∃(L:List Itm) (C:Option Z) (k:Nat),e= J (Q #[I C L.length k,U X (aq m)])/\L.map Itm.z=iG m/\Lv w' C k L/\K W.heap.size W w':=by
 subst u
 refine (BJ l A c W h.len h.items).mono ?_
 rintro e w' ⟨L,C,k,g,f,j,n,r⟩
 exact ⟨L,C,k,g,f,⟨j,n,mA f (A5 _)⟩,r⟩
theorem DK {W:Y} {A B:Option Z} {c d:Nat} {l r:List Itm} (h:Lv W A c l) (f:Lv W B d r) {m n:List Zit} (R:l.map Itm.z=m) (hn:r.map Itm.z=n) :
  P V 202 #[I A l.length c,I B r.length d] W fun e w'=>∃(L:List Itm) (C:Option Z) (k:Nat),e= J (Q #[I C L.length k,U X (aY m n)])/\L.map Itm.z=bw m n/\Lv w' C k L/\K W.heap.size W w':=by
 subst R
 subst hn
 refine (B6 l r A B c d W h.len f.len h.nil f.nil h.items f.items).mono ?_
 rintro e w' ⟨L,C,k,j,g,u,E,F⟩
 exact ⟨L,C,k,j,g,⟨u,E,mA g (rl _ _)⟩,F⟩
theorem rm {W:Y} {A B:Option Z} {c d:Nat} {l r:List Itm} (h:Lv W A c l) (f:Lv W B d r) {m n:List Zit} (R:l.map Itm.z=m) (hn:r.map Itm.z=n) :
  P V 202 #[I A l.length c,I B r.length d] W fun e w'=>∃(L:List Itm) (C:Option Z) (k:Nat),e= J (Q #[I C L.length k,U X (aY m n)])/\L.map Itm.z=bw m n/\Lv w' C k L/\K W.heap.size W w'/\NwT w' k W.heap.size C L:=by
 subst R
 subst hn
 refine (uV l r A B c d W h.len f.len h.nil f.nil h.items f.items).mono ?_
 rintro e w' ⟨L,C,k,j,g,u,E,F⟩
 exact ⟨L,C,k,j,g,⟨u,E,mA g (rl _ _)⟩,F⟩
theorem yN {W:Y} {A:Option Z} {c:Nat} {l:List Itm} (h:Lv W A c l) {m:List Zit} (f:l.map Itm.z=m) :
  P V 156 #[I A l.length c] W fun e w'=>e= J (U X (aq m))/\Gr W w':=by
 subst f
 exact fy l A c W h.len h.items

end Go.Proofs.YtjmmpnmgpgaagaaGreatDoor



namespace Go.Proofs
open Go.Shelf
def Tryz.laysIndexByte_ren:Go.Shelf.Ren:=⟨fun|137=>205|217=>46|266=>67|n=>n,fun|9=>9|5=>5|3=>3|n=>n,fun|n=>n⟩
theorem Tryz.laysIndexByte:Go.Proofs.Lays.n137 V Tryz.laysIndexByte_ren:={
 mixed:=by kernel_rfl
 f137:=Tryz.func205.trans (congrArg some (by kernel_rfl))
 f217:=Tryz.func46.trans (congrArg some (by kernel_rfl))
 f266:=Tryz.func67.trans (congrArg some (by kernel_rfl))
 t3:=Tryz.underlying3
 a3:=Tryz.isAgg3
 z3:=Tryz.sizeOf3
 v3:=Tryz.zeroValue3
 t5:=Tryz.underlying5
 a5:=Tryz.isAgg5
 z5:=Tryz.sizeOf5
 v5:=Tryz.zeroValue5
 t9:=Tryz.underlying9
 a9:=Tryz.isAgg9
 z9:=Tryz.sizeOf9
 v9:=Tryz.zeroValue9 }
end Go.Proofs
