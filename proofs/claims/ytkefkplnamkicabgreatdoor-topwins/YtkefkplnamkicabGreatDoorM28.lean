import Derived.Test.YtkefkplnamkicabGreatDoorM27
set_option maxRecDepth 100000
set_option maxHeartbeats 8000000
open Go.Ending renaming returned → J
open Go.IntKind renaming i64 → I
open Go.Obj renaming cells → X
open Go.Proofs.Tryz renaming prog → O
open Go.Value renaming int → V, pointer → Z, slice → H, string → Y, bool → U, agg → K, tuple → R
namespace Go.Proofs.YtkefkplnamkicabGreatDoor
open Go.RowKit Go.Sort

theorem xz {W:World} {n:Nat} (hn:W.heap.size=n) (s:Stp) (T:TypeId):ay iH 7 (W.alloc (X #[V I s.k,V I s.a,V I s.b,V I s.c,V I s.o,V I s.v,H s.p s.l.length s.n] T)) (some ⟨n,0,none⟩) [s]:=by
 subst hn
 refine oR ⟨W.heap.size,0,rfl,by simp,fun j hj i hi=> ?_⟩
 obtain rfl:j=0:=by simp at hj;omega
 have hh:i=0∨i=1∨i=2∨i=3∨i=4∨i=5∨i=6:=by omega
 rcases hh with rfl|rfl|rfl|rfl|rfl|rfl|rfl
 ·exact ab (w:=W) (gR _) (j:=0) rfl
 ·exact ab (w:=W) (gR _) (j:=1) rfl
 ·exact ab (w:=W) (gR _) (j:=2) rfl
 ·exact ab (w:=W) (gR _) (j:=3) rfl
 ·exact ab (w:=W) (gR _) (j:=4) rfl
 ·exact ab (w:=W) (gR _) (j:=5) rfl
 ·exact ab (w:=W) (gR _) (j:=6) rfl
theorem NwQ.none (n:Nat):NwQ n none []:=⟨fun a ha=>(by cases ha),fun s hs=>(by cases hs)⟩
def Ab:Value→Nat
 | Y b=>b.size
 | _=>0
theorem ri {a r:List UInt8} (h:(10:UInt8) ∉ a):iC (a++10::r)=match gm a with
  | none=>none
  | some s=>(iC r).map (s :: ·):=by
 unfold iC
 rw[eX _ _ h]
 cases e:aD 10 r with
 | nil=>exact absurd e (fK _ _)
 | cons y t =>
  rw[ln]
  cases gm a with
  | none=>rfl
  | some s=>cases ln (y::t)<;>rfl
def Pre (x y:List UInt8) (q0:List Stp):Prop:=iC x=(iC y).map (q0++ ·)
theorem Pre.next {x a r:List UInt8} {q0:List Stp} {s:Stp} (h:Pre x (a++10::r) q0) (ha:(10:UInt8) ∉ a) (hs:gm a=some s):Pre x r (q0++[s]):=by
 unfold Pre at h ⊢
 rw[h,ri ha,hs]
 cases iC r<;>simp
def jT:List (List UInt8)→Nat→Nat
 | [],_=>0
 | [y],k=>if y=[] then 0 else k
 | p::r::t,k=>match gm p with
  | none=>k
  | some _=>jT (r::t) (k+1)
theorem nv {p:List UInt8} {t:List (List UInt8)} (h:t≠[]) {k:Nat}:jT (p::t) k=match gm p with
  | none=>k
  | some _=>jT t (k+1):=by
 cases t with
 | nil=>exact absurd rfl h
 | cons r t=>rfl
def rp (x:List UInt8) (q:List Stp) (k er:Int):Prop :=
 (1024<x.length∧q=[]∧k=0∧er=2) ∨
 (x.length≤1024∧jT (aD 10 x) 1≠0∧q=[]∧k=(jT (aD 10 x) 1:Nat)∧er=3) ∨
 (x.length≤1024∧jT (aD 10 x) 1=0∧∃q0 q1,iC x=some q0∧q1.map clr=q0.map clr∧k=0∧er=bX q1∧(er=0→q=q1)∧(er≠0→q=[]))
theorem qR (x:List UInt8) (w:World) (hr:Reads w) (hx0:x.length≤maxLen):Calls O 38 #[Y ⟨x.toArray⟩] w fun e w'=>(∃A cap q k er,e= J (R #[H A q.length cap,V I k,V I er])∧0≤k∧Stps w' A q∧NwQ w.heap.size A q∧q.length≤1024∧rp x q k er)∧Below w.heap.size w w':=by
 have hx:x.length≤9223372036854775807:=by unfold maxLen at hx0;exact hx0
 go_enter Tryz.func38,Tryz.ntmps38
 by_cases hL:1024<x.length
 ·have hLz:(1024:Int)<(x.length:Int):=by omega
  go_wp2
  go_ret3
  exact ⟨⟨none,0,[],0,2,rfl,by decide,⟨oL rfl,fun s hs=>by cases hs⟩,NwQ.none _,by simp,oL ⟨hL,rfl,rfl,rfl⟩⟩,bR _ _⟩
 have hLz:¬(1024:Int)<(x.length:Int):=by omega
 go_wp2
 go_loopw [0,5,6] (fun s v i wr=>∃(y:List UInt8) (q q0:List Stp),s= Y ⟨y.toArray⟩∧i= V I ((q.length:Int)+1)∧q.length+y.length≤1024∧Hid (OwnS wr w.heap.size v q∧Below w.heap.size w wr∧q.map clr=q0.map clr∧Pre x y q0∧jT (aD 10 x) 1=jT (aD 10 y) (q.length+1))) (fun s _ _ _=>Ab s)
 case atStart=>exact ⟨x,[],[],rfl,rfl,by simp;omega,OwnS.nil _ _,bR _ _,rfl,by unfold Pre;cases iC x<;>rfl,rfl⟩
 case round =>
  obtain ⟨y,q,q0,rfl,rfl,hyl,hov⟩:=hrel
  by_cases hy:y=[]
  ·subst hy
   obtain ⟨A,cap,hvA,hA,hst⟩:=OwnS.stps hov.out.1
   subst hvA
   have hnw:=OwnS.nw hov.out.1
   have hck:=kN q A cap wr (by unfold maxLen;simp at hyl;omega) hst
   have hckH:Hid _:=hck
   have htx:Hid (iC x=some q0):=by
    have:=hov.out.2.2.2.1
    unfold Pre at this
    show _=_
    rw[this]
    simp[iC,aD,ln]
   have hsc:Hid (jT (aD 10 x) 1=0):=by show _=_;rw[hov.out.2.2.2.2];rfl
   have hmH:Hid (q.map clr=q0.map clr∧Stps wr A q∧Below w.heap.size w wr∧q.length≤1024∧NwQ w.heap.size A q):=⟨hov.out.2.2.1,hst,hov.out.2.1,by simp at hyl;omega,hnw⟩
   clear hck hov hst hA hnw
   obtain ⟨E,hE⟩:∃E,bX q=E:=⟨_,rfl⟩
   rw[hE] at hckH
   go_wp2_with fail
   refine cM (show Calls _ _ _ _ _ from hckH.out) ?_
   rintro e w2 ⟨rfl,hb2⟩
   have hfin:Hid (Stps w2 A q∧Below w.heap.size w w2):=⟨hmH.out.2.1.below hb2,hmH.out.2.2.1.trans (hb2.mono hmH.out.2.2.1.size)⟩
   clear hckH hb2
   by_cases hE0:E=0
   ·subst hE0
    have hEH:Hid (bX q=0):=hE
    clear hE
    go_wp2
    go_ret3
    exact ⟨⟨A,cap,q,0,0,rfl,by decide,hfin.out.1,hmH.out.2.2.2.2,hmH.out.2.2.2.1,oR (oR ⟨by omega,hsc.out,q0,q,htx.out,hmH.out.1,rfl,hEH.out.symm,fun _=>rfl,fun h=>absurd rfl h⟩)⟩,hfin.out.2⟩
   ·have hEb:(E==0)=false:=by simpa using hE0
    have hEH:Hid (bX q=E∧E≠0):=⟨hE,hE0⟩
    clear hE hE0
    go_wp2
    go_ret3
    exact ⟨⟨none,0,[],0,E,rfl,by decide,⟨oL rfl,fun s hs=>by cases hs⟩,NwQ.none _,by simp,oR (oR ⟨by omega,hsc.out,q0,q,htx.out,hmH.out.1,rfl,hEH.out.1.symm,fun h=>absurd h hEH.out.2,fun _=>rfl⟩)⟩,hfin.out.2⟩
  ·have hyb:(y==[])=false:=by simpa using hy
   have hcu:=wL y 10 wr (hr.below hov.out.2.1) (by omega)
   have hcuH:Hid _:=hcu
   clear hcu
   go_wp2_with fail
   refine cM (show Calls _ _ _ _ _ from hcuH.out) ?_
   rintro e w2 ⟨⟨a,r,b,rfl,hab⟩,hg2⟩
   have hal:a.length≤y.length∧r.length≤y.length:=by
    rcases hab with ⟨_,e,_⟩|⟨_,_,e,e2⟩
    ·rw[e];simp;omega
    ·rw[e,e2];simp
   have hb2:Below w.heap.size w w2:=hov.out.2.1.trans (hg2.below.mono hov.out.2.1.size)
   have hpl:=mh a w2 (hr.below hb2) (by omega)
   have hplH:Hid _:=hpl
   have hH2:Hid (Below w.heap.size w w2∧Gr wr w2):=⟨hb2,hg2⟩
   have habH:Hid _:=hab
   clear hpl hcuH hb2 hg2 hab
   go_wp2_with fail
   refine cM (show Calls _ _ _ _ _ from hplH.out) ?_
   rintro e w3 ⟨t',rfl,hb3,hres⟩
   have hb3H:Hid (Below w.heap.size w w3):=hH2.out.1.trans (hb3.mono hH2.out.1.size)
   cases b with
   | false =>
    have hfin:Hid (jT (aD 10 x) 1=q.length+1):=by
     rcases habH.out with ⟨e,_⟩|⟨_,h1,_⟩
     ·cases e
     ·show _=_
      rw[hov.out.2.2.2.2,iX y h1]
      show (if y=[] then 0 else q.length+1)=_
      rw[if_neg hy]
    clear hres hplH hov hb3
    go_wp2
    go_ret3
    exact ⟨⟨none,0,[],_,_,rfl,by omega,⟨oL rfl,fun s hs=>by cases hs⟩,NwQ.none _,by simp,oR (oL ⟨by omega,by rw[hfin.out];omega,rfl,by rw[hfin.out];push_cast;rfl,rfl⟩)⟩,hb3H.out.alloc hb3H.out.size _⟩
   | true =>
    obtain ⟨rfl,hna⟩:y=a++10::r∧(10:UInt8) ∉ a:=by
     rcases habH.out with ⟨_,h1,h2⟩|⟨e,_⟩
     ·exact ⟨h1,h2⟩
     ·cases e
    cases hla:gm a with
    | none =>
     have hfin:Hid (jT (aD 10 x) 1=q.length+1):=by show _=_;rw[hov.out.2.2.2.2,eX _ _ hna,nv (fK _ _),hla]
     clear hres hplH hov hb3 hla habH
     go_wp2
     go_ret3
     exact ⟨⟨none,0,[],_,_,rfl,by omega,⟨oL rfl,fun s hs=>by cases hs⟩,NwQ.none _,by simp,oR (oL ⟨by omega,by rw[hfin.out];omega,rfl,by rw[hfin.out];push_cast;rfl,rfl⟩)⟩,hb3H.out.alloc hb3H.out.size _⟩
    | some s0 =>
     obtain ⟨hct,hht,hft⟩:=hres s0 hla
     have hpr:Hid (Pre x r (q0++[s0])∧(q++[t']).map clr=(q0++[s0]).map clr):=⟨hov.out.2.2.2.1.next hna hla,by rw[List.map_append,List.map_append,hov.out.2.2.1];simp[hct]⟩
     have hscn:Hid (jT (aD 10 x) 1=jT (aD 10 r) ((q++[t']).length+1)):=by show _=_;rw[hov.out.2.2.2.2,eX _ _ hna,nv (fK _ _),hla];simp
     have how:Hid (OwnS w3 w.heap.size u5 q∧ApartS w3 w.heap.size u5.ownBlock t'):=⟨(hov.out.1.gr hH2.out.2).below hb3,⟨hht.1,hht.2.1,hht.2.2,fun a ha=>⟨nT hH2.out.1.size (hft a ha).1,(hft a ha).2,fun e=>by
      have h1:=(hov.out.1.own.lt _ e).2
      have h2:=(hft a ha).1
      have h3:=hH2.out.2.size
      omega⟩⟩⟩
     have hln:q.length+1+r.length≤1024:=by simp at hyl;omega
     clear hres hplH hov hb3 hla habH hct hht hft
     have hg5:Gr w3 ((w3.alloc (X #[V I t'.k,V I t'.a,V I t'.b,V I t'.c,V I t'.o,V I t'.v,H t'.p t'.l.length t'.n] 121)).alloc (X #[V I t'.k,V I t'.a,V I t'.b,V I t'.c,V I t'.o,V I t'.v,H t'.p t'.l.length t'.n] 121)):=((gR w3).alloc _).alloc _
     have hoX:Hid (OwnS ((w3.alloc (X #[V I t'.k,V I t'.a,V I t'.b,V I t'.c,V I t'.o,V I t'.v,H t'.p t'.l.length t'.n] 121)).alloc (X #[V I t'.k,V I t'.a,V I t'.b,V I t'.c,V I t'.o,V I t'.v,H t'.p t'.l.length t'.n] 121)) w.heap.size u5 q∧ay iH 7 ((w3.alloc (X #[V I t'.k,V I t'.a,V I t'.b,V I t'.c,V I t'.o,V I t'.v,H t'.p t'.l.length t'.n] 121)).alloc (X #[V I t'.k,V I t'.a,V I t'.b,V I t'.c,V I t'.o,V I t'.v,H t'.p t'.l.length t'.n] 121)) (some ⟨w3.heap.size+1,0,none⟩) [t']∧ApartS ((w3.alloc (X #[V I t'.k,V I t'.a,V I t'.b,V I t'.c,V I t'.o,V I t'.v,H t'.p t'.l.length t'.n] 121)).alloc (X #[V I t'.k,V I t'.a,V I t'.b,V I t'.c,V I t'.o,V I t'.v,H t'.p t'.l.length t'.n] 121)) w.heap.size u5.ownBlock t'∧q.length+1≤maxLen∧(q.length+1)*72≤140737488355328∧Below w.heap.size w ((w3.alloc (X #[V I t'.k,V I t'.a,V I t'.b,V I t'.c,V I t'.o,V I t'.v,H t'.p t'.l.length t'.n] 121)).alloc (X #[V I t'.k,V I t'.a,V I t'.b,V I t'.c,V I t'.o,V I t'.v,H t'.p t'.l.length t'.n] 121))):=⟨how.out.1.gr hg5,xz (by simp) t' 121,how.out.2.below hg5.below,by unfold maxLen;omega,by omega,hb3H.out.trans (hg5.below.mono hb3H.out.size)⟩
     clear how hg5
     go_wp2_with (at_builtin;refine fN _ rfl _ _ rfl w.heap.size u5 q t' ⟨w3.heap.size+1,0,none⟩ 1 rfl rfl hoX.out.1 hoX.out.2.1 hoX.out.2.2.1 hoX.out.2.2.2.1 hoX.out.2.2.2.2.1 hoX.out.2.2.2.2.2.size ?_;intro v7 w7 hown7 hb7)
     have hfin7:Hid (OwnS w7 w.heap.size v7 (q++[t'])∧Below w.heap.size w w7):=⟨hown7,hoX.out.2.2.2.2.2.trans hb7⟩
     clear hown7 hb7 hoX
     go_roundw
     case rel=>exact ⟨r,q++[t'],q0++[s0],rfl,by simp only[List.length_append,List.length_cons,List.length_nil];go_num,by simp;omega,hfin7.out.1,hfin7.out.2,hpr.out.2,hpr.out.1,hscn.out⟩
     case measure=>show r.toArray.size<(a++10::r).toArray.size;simp;omega
def tS (x:List UInt8) (q:List Stp) (er:Int):Prop:=∃k,rp x q k er
theorem qS (x:List UInt8) (w:World) (hr:Reads w) (hx0:x.length≤maxLen):Calls O 38 #[Y ⟨x.toArray⟩] w fun e w'=>(∃A cap q k er,e= J (R #[H A q.length cap,V I k,V I er])∧0≤k∧Stps w' A q∧q.length≤1024∧rp x q k er)∧Below w.heap.size w w' :=
 (qR x w hr hx0).mono fun _ _ ⟨⟨A,cap,q,k,er,h1,h2,h3,_,h5⟩,h6⟩=>⟨⟨A,cap,q,k,er,h1,h2,h3,h5⟩,h6⟩

theorem tK {w:World} {B:Nat} (a:Int) (ha:¬isN a) (x:List UInt8) :
  Calls O 24 #[Z (some ⟨B,0,none⟩),V I a,Y ⟨x.toArray⟩] w fun e w'=>e= J (V I 4)∧w'=w:=by
 have hN:Hid (∀W,Calls O 25 #[V I a] W fun e w'=>e= J (U false)∧w'=W):=i8 a ha
 clear ha
 go_enter Tryz.func24,Tryz.ntmps24
 go_wp2_with fail
 refine cM (hN.out _) ?_
 rintro e w1 ⟨rfl,rfl⟩
 go_wp2
 go_ret
 exact ⟨rfl,rfl⟩
theorem rj {w:World} {B:Nat} {P:Nat→Prop} {M:NetM} {Q:Nat→List (List Stp)} (h:NetP w B P M Q) (hr:Reads w) (i:Nat) (hi:i<4) (x:List UInt8) (hx:x.length≤maxLen) :
  Calls O 24 #[Z (some ⟨B,0,none⟩),V I i,Y ⟨x.toArray⟩] w fun e w'=>∃q ep er Q',e= J (V I er)∧tS x q ep∧bk w B P w' M Q'∧((ep≠0∧er=ep∧Q'=Q)∨(ep=0∧er=wtE q (Q i)∧Q'=mr Q i (wtQ q (Q i)))):=by
 have hN:Hid (∀W,Calls O 25 #[V I i] W fun e w'=>e= J (U true)∧w'=W):=df i hi
 have hP:Hid (Calls O 38 #[Y ⟨x.toArray⟩] w fun e w'=>(∃A cap q k er,e= J (R #[H A q.length cap,V I k,V I er])∧0≤k∧Stps w' A q∧q.length≤1024∧rp x q k er)∧Below w.heap.size w w'):=qS x w hr hx
 have hH:Hid (NetP w B P M Q∧i<4):=⟨h,hi⟩
 have hi4:(i:Int)<4:=by omega
 clear h hr hx
 go_enter Tryz.func24,Tryz.ntmps24
 go_wp2_with fail
 refine cM (hN.out _) ?_
 rintro e w1 ⟨rfl,rfl⟩
 go_wp2_with fail
 refine cM (show Calls _ _ _ _ _ from hP.out) ?_
 rintro e w2 ⟨⟨A,cap,q,k,er,rfl,f1,f2,f3,f4⟩,f5⟩
 have hF:Hid (Stps w2 A q∧q.length≤1024∧tS x q er∧Below w1.heap.size w1 w2):=⟨f2,f3,⟨k,f4⟩,f5⟩
 clear f1 f2 f3 f4 f5 hP
 by_cases he:er=0
 rotate_left
 ·have heb:(er != 0)=true:=by simpa using he
  have hfin:Hid (bk w1 B P w2 M Q∧er≠0):=⟨bk.same hH.out.1 hF.out.2.2.2,he⟩
  clear he
  go_wp2
  go_ret
  exact ⟨q,er,er,Q,rfl,hF.out.2.2.1,hfin.out.1,oL ⟨hfin.out.2,rfl,rfl⟩⟩
 subst he
 obtain ⟨E,hE⟩:∃E,wtE q (Q i)=E:=⟨_,rfl⟩
 have hW:Hid (Calls O 39 #[Z (some ⟨B,i*38,none⟩),H A q.length cap] w2 fun e w'=>e= J (V I E)∧bk w1 B P w' M (mr Q i (wtQ q (Q i)))):=by
  have hn:=hH.out.1.below hF.out.2.2.2
  have hd:=tL (hn.nd i hH.out.2) q A cap (by have:=hF.out.2.1;unfold maxLen;omega) hF.out.1
  rw[hE] at hd
  refine hd.mono ?_
  rintro e w' ⟨rfl,f1,f2⟩
  refine ⟨rfl,bk.ahead hF.out.2.2.2 hH.out.1.lt ?_⟩
  have hc:=hn.call hH.out.2 f1 f2 (nR _)
  rw[fM,fM] at hc
  exact hc
 have hEH:Hid (wtE q (Q i)=E):=hE
 clear hE
 go_wp2_with fail
 refine cM (show Calls _ _ _ _ _ from hW.out) ?_
 rintro e w3 ⟨rfl,f1⟩
 have hG:Hid _:=f1
 clear f1 hW
 go_wp2
 go_ret
 exact ⟨q,0,E,_,rfl,hF.out.2.2.1,hG.out,oR ⟨rfl,hEH.out.symm,rfl⟩⟩

theorem pF {t:Tab} {c:Ctx} (ht:am t=0) (h0:bF t c=0):am (bU t c)=0:=by
 have hs:woE t.c (aq (cw c) t.e)=0:=by
  unfold bF at h0
  rw[ht] at h0
  by_cases hc:aO c=0
  ·rw[hc] at h0;simpa using h0
  ·rw[if_neg (by simp),if_pos hc] at h0;exact absurd h0 hc
 have hd:=cZ ht (cw c)
 obtain ⟨_,h2,h3⟩:=xM hd.2 hs
 have hT:bU t c=⟨woC t.c (aq (cw c) t.e),fG c t.e⟩:=by unfold bU;rw[if_pos h0]
 rw[hT]
 refine jf h2 (nT (List.length_filter_le _ _) (af ht).2.1) (List.Pairwise.filter _ (dT ht)) fun y hy=> ?_
 have hy':=List.mem_filter.1 hy
 refine ⟨(h3 _).2 ⟨bK ht hy'.1,fun hm=> ?_⟩,dI ht hy'.1⟩
 have:=(fD ht hy'.1).1 hm
 simp[this] at hy'
def bS (N:NetM) (h:Hap):Int :=
 if h.k=1 then (if isN h.a then ndE (N.s h.a.toNat) (N.t h.a.toNat) (h.a.toNat:Nat) h.e1 h.e2 h.e3 h.e4 h.e5 else 4)
 else if h.k=2 then (if isN h.a∧isN h.b then (if N.pk.length<200 then 0 else 2) else 4)
 else if h.k=3 then (if isN h.a∧isN h.b then (if N.pk.length<200 then o9 (N.s h.a.toNat) (N.t h.a.toNat) (N.s h.b.toNat).c (N.t h.b.toNat).c else 2) else 4)
 else if h.k=4 then (if 0≤h.n then (match N.pk[h.n.toNat]? with|some p=>gJ (N.s p.1) (N.t p.1) p.2.1 p.2.2|none=>4) else 4)
 else 1
def xO (x:List UInt8) (h:Hap) (Q:Nat→List (List Stp)) (er:Int) (Q':Nat→List (List Stp)):Prop :=
 (¬isN h.a∧er=4∧Q'=Q)∨(isN h.a∧∃q ep,tS x q ep∧((ep≠0∧er=ep∧Q'=Q)∨(ep=0∧er=wtE q (Q h.a.toNat)∧Q'=mr Q h.a.toNat (wtQ q (Q h.a.toNat)))))
def wy (x:List UInt8) (N:NetM) (h:Hap) (Q:Nat→List (List Stp)) (er:Int) (Q':Nat→List (List Stp)):Prop:=(h.k≠5∧er=bS N h∧Q'=Q)∨(h.k=5∧xO x h Q er Q')
section
variable {w:World} {B:Nat} {P:Nat→Prop} {M:NetM} {Q:Nat→List (List Stp)}
theorem uu (h:NetP w B P M Q) (y:Hap) (hk:y.k=1):Calls O 21 #[Z (some ⟨B,0,none⟩),V I y.a,K #[V I y.e1,V I y.e2,V I y.e3,V I y.e4,V I y.e5]] w fun e w'=>e= J (V I (bS M y))∧bk w B P w' (aN M y) Q:=by
 by_cases ha:isN y.a
 ·obtain ⟨i,hi,hi4⟩:=jj ha
  have e1:bS M y=ndE (M.s i) (M.t i) i y.e1 y.e2 y.e3 y.e4 y.e5:=by unfold bS;rw[if_pos hk,if_pos ha,hi];rfl
  have e2:aN M y=⟨upd M.s i (ndS (M.s i) i y.e1 y.e2 y.e3 y.e4 y.e5),upd M.t i (ndT (M.t i) i y.e1 y.e2 y.e3 y.e4 y.e5),M.pk⟩:=by unfold aN;rw[if_pos hk,if_pos ha,hi];rfl
  rw[e1,e2,hi]
  exact uv h i hi4 _ _ _ _ _
 ·have e1:bS M y=4:=by unfold bS;rw[if_pos hk,if_neg ha]
  have e2:aN M y=M:=by unfold aN;rw[if_pos hk,if_neg ha]
  rw[e1,e2]
  exact wS h _ _ _ _ _ _ ha
theorem xD (k a b:Int) (hn:¬(isN a∧isN b)):Calls O 22 #[Z (some ⟨B,0,none⟩),V I k,V I a,V I b] w fun e w'=>e= J (V I 4)∧w'=w:=by
 by_cases ha:isN a
 ·obtain ⟨i,rfl,hi4⟩:=jj ha
  have h1:Hid (∀W,Calls O 25 #[V I i] W fun e w'=>e= J (U true)∧w'=W):=df i hi4
  have h2:Hid (∀W,Calls O 25 #[V I b] W fun e w'=>e= J (U false)∧w'=W):=i8 b fun k=>hn ⟨ha,k⟩
  clear hn ha
  go_enter Tryz.func22,Tryz.ntmps22
  go_wp2_with fail
  refine cM (h1.out _) ?_
  rintro e w1 ⟨rfl,rfl⟩
  go_wp2_with fail
  refine cM (h2.out _) ?_
  rintro e w0 ⟨rfl,rfl⟩
  go_wp2
  go_ret
  exact ⟨rfl,rfl⟩
 ·have h1:Hid (∀W,Calls O 25 #[V I a] W fun e w'=>e= J (U false)∧w'=W):=i8 a ha
  clear hn ha
  go_enter Tryz.func22,Tryz.ntmps22
  go_wp2_with fail
  refine cM (h1.out _) ?_
  rintro e w1 ⟨rfl,rfl⟩
  go_wp2
  go_ret
  exact ⟨rfl,rfl⟩
theorem tA (h:NetP w B P M Q) (k:Int) (i j:Nat) (hi:i<4) (hj:j<4) (hl:¬M.pk.length<200):Calls O 22 #[Z (some ⟨B,0,none⟩),V I k,V I i,V I j] w fun e w'=>e= J (V I 2)∧w'=w:=by
 obtain ⟨L,A,c,hp⟩:=h.pk
 have hc:=hp.cel
 have hL:L.length=M.pk.length:=by rw[←hp.eq,List.length_map]
 have hz:(200:Int)≤(L.length:Int):=by omega
 have h1:Hid (∀W,Calls O 25 #[V I i] W fun e w'=>e= J (U true)∧w'=W):=df i hi
 have h2:Hid (∀W,Calls O 25 #[V I j] W fun e w'=>e= J (U true)∧w'=W):=df j hj
 clear h hp hL hi hj hl
 go_enter Tryz.func22,Tryz.ntmps22
 go_wp2_with fail
 refine cM (h1.out _) ?_
 rintro e w1 ⟨rfl,rfl⟩
 go_wp2_with fail
 refine cM (h2.out _) ?_
 rintro e w0 ⟨rfl,rfl⟩
 go_wp2
 go_ret
 exact ⟨rfl,rfl⟩
theorem pC (h:NetP w B P M Q) (y:Hap) (hk:y.k=2∨y.k=3):Calls O 22 #[Z (some ⟨B,0,none⟩),V I y.k,V I y.a,V I y.b] w fun e w'=>e= J (V I (bS M y))∧bk w B P w' (aN M y) Q:=by
 have h1:¬y.k=1:=by omega
 have same:∀ {E:Int},bS M y=E→aN M y=M→Calls O 22 #[Z (some ⟨B,0,none⟩),V I y.k,V I y.a,V I y.b] w (fun e w'=>e= J (V I E)∧w'=w)→Calls O 22 #[Z (some ⟨B,0,none⟩),V I y.k,V I y.a,V I y.b] w fun e w'=>e= J (V I (bS M y))∧bk w B P w' (aN M y) Q:=by
  intro E e1 e2 hc
  rw[e1,e2]
  refine hc.mono ?_
  rintro e w' ⟨rfl,rfl⟩
  exact ⟨rfl,bk.same h (bR _ _)⟩
 by_cases hab:isN y.a∧isN y.b
 rotate_left
 ·have hab3:¬(isN y.a∧isN y.b∧M.pk.length<200):=fun k=>hab ⟨k.1,k.2.1⟩
  refine same (E:=4) ?_ ?_ (xD _ _ _ hab)
  ·unfold bS;rw[if_neg h1]
   rcases hk with hk|hk
   ·rw[if_pos hk,if_neg hab]
   ·rw[if_neg (by omega),if_pos hk,if_neg hab]
  ·unfold aN;rw[if_neg h1]
   rcases hk with hk|hk
   ·rw[if_pos hk,if_neg hab3]
   ·rw[if_neg (by omega),if_pos hk,if_neg hab3]
 obtain ⟨i,hi,hi4⟩:=jj hab.1
 obtain ⟨j,hj,hj4⟩:=jj hab.2
 by_cases hl:M.pk.length<200
 rotate_left
 ·have hab3:¬(isN y.a∧isN y.b∧M.pk.length<200):=fun k=>hl k.2.2
  refine same (E:=2) ?_ ?_ (by rw[hi,hj];exact tA h _ i j hi4 hj4 hl)
  ·unfold bS;rw[if_neg h1]
   rcases hk with hk|hk
   ·rw[if_pos hk,if_pos hab,if_neg hl]
   ·rw[if_neg (by omega),if_pos hk,if_pos hab,if_neg hl]
  ·unfold aN;rw[if_neg h1]
   rcases hk with hk|hk
   ·rw[if_pos hk,if_neg hab3]
   ·rw[if_neg (by omega),if_pos hk,if_neg hab3]
 have hab3:isN y.a∧isN y.b∧M.pk.length<200:=⟨hab.1,hab.2,hl⟩
 have ok:∀n,n<4→am (M.s n)=0∧am (M.t n)=0:=fun n hn=>⟨(h.nd n hn).ts.ok,(h.nd n hn).tt.ok⟩
 rcases hk with hk|hk
 ·have e1:bS M y=0:=by unfold bS;rw[if_neg h1,if_pos hk,if_pos hab,if_pos hl]
  have e2:aN M y=re M 0 j (M.s i) (M.t i):=by unfold aN re;rw[if_neg h1,if_pos hk,if_pos hab3,if_pos rfl,hi,hj];rfl
  rw[e1,e2,hk,hi,hj]
  exact pD h 2 i j hi4 hj4 hl (fun _=>ok i hi4) (nY h i hi4 j)
 ·have e1:bS M y=o9 (M.s i) (M.t i) (M.s j).c (M.t j).c:=by unfold bS;rw[if_neg h1,if_neg (by omega),if_pos hk,if_pos hab,if_pos hl,hi,hj];rfl
  have e2:aN M y=re M (o9 (M.s i) (M.t i) (M.s j).c (M.t j).c) j (snS (M.s i) (M.t i) (M.s j).c (M.t j).c) (snT (M.s i) (M.t i) (M.s j).c (M.t j).c):=by
   unfold aN
   rw[if_neg h1,if_neg (by omega),if_pos hk,if_pos hab3,hi,hj]
   show rx M i j=_
   unfold rx re
   by_cases h0:o9 (M.s i) (M.t i) (M.s j).c (M.t j).c=0
   ·rw[if_pos h0,if_pos h0]
    unfold snS snT
    rw[if_pos (show gf (M.s i) (M.t i) (M.s j).c (M.t j).c=0 from h0),if_pos (show gf (M.s i) (M.t i) (M.s j).c (M.t j).c=0 from h0)]
   ·rw[if_neg h0,if_neg h0]
  rw[e1,e2,hk,hi,hj]
  refine pD h 3 i j hi4 hj4 hl (fun h0=> ?_) (pu h i j hi4 hj4)
  have h0':gf (M.s i) (M.t i) (M.s j).c (M.t j).c=0:=h0
  unfold snS snT
  rw[if_pos h0',if_pos h0']
  unfold gf at h0'
  by_cases hs:bF (M.s i) (M.s j).c=0
  ·rw[if_pos hs] at h0'
   exact ⟨pF (ok i hi4).1 hs,pF (ok i hi4).2 h0'⟩
  ·rw[if_neg hs] at h0'
   exact absurd h0' hs
theorem vX (h:NetP w B P M Q) (y:Hap) (hk:y.k=4):Calls O 23 #[Z (some ⟨B,0,none⟩),V I y.n] w fun e w'=>e= J (V I (bS M y))∧bk w B P w' (aN M y) Q:=by
 have k1:¬y.k=1:=by omega
 have k2:¬y.k=2:=by omega
 have k3:¬y.k=3:=by omega
 have no:bS M y=4→aN M y=M→(y.n<0∨(M.pk.length:Int)≤y.n)→Calls O 23 #[Z (some ⟨B,0,none⟩),V I y.n] w fun e w'=>e= J (V I (bS M y))∧bk w B P w' (aN M y) Q:=fun e1 e2 hn=>by
  rw[e1,e2]
  refine (vW h y.n hn).mono ?_
  rintro e w' ⟨rfl,rfl⟩
  exact ⟨rfl,bk.same h (bR _ _)⟩
 by_cases h0:0≤y.n
 rotate_left
 ·refine no ?_ ?_ (oL (by omega))
  ·unfold bS;rw[if_neg k1,if_neg k2,if_neg k3,if_pos hk,if_neg h0]
  ·unfold aN;rw[if_neg k1,if_neg k2,if_neg k3,if_pos hk,if_neg h0]
 obtain ⟨n,hn⟩:∃n:Nat,y.n=n:=⟨y.n.toNat,by omega⟩
 cases hp:M.pk[n]? with
 | none =>
  refine no ?_ ?_ (oR (by rw[hn];have:=List.getElem?_eq_none_iff.1 hp;omega))
  ·unfold bS;rw[if_neg k1,if_neg k2,if_neg k3,if_pos hk,if_pos h0,hn,Int.toNat_natCast,hp]
  ·unfold aN;rw[if_neg k1,if_neg k2,if_neg k3,if_pos hk,if_pos h0,hn,Int.toNat_natCast,hp]
 | some p =>
  have e1:bS M y=gJ (M.s p.1) (M.t p.1) p.2.1 p.2.2:=by unfold bS;rw[if_neg k1,if_neg k2,if_neg k3,if_pos hk,if_pos h0,hn,Int.toNat_natCast,hp]
  have e2:aN M y=gt M p.1 p.2.1 p.2.2:=by unfold aN;rw[if_neg k1,if_neg k2,if_neg k3,if_pos hk,if_pos h0,hn,Int.toNat_natCast,hp]
  rw[e1,e2,hn]
  exact tF h n hp
theorem tM (h:NetP w B P M Q) (hr:Reads w) (x:List UInt8) (hx:x.length≤maxLen) (y:Hap):Calls O 24 #[Z (some ⟨B,0,none⟩),V I y.a,Y ⟨x.toArray⟩] w fun e w'=>∃er Q',e= J (V I er)∧xO x y Q er Q'∧bk w B P w' M Q':=by
 by_cases ha:isN y.a
 ·obtain ⟨i,hi,hi4⟩:=jj ha
  have hw:=rj h hr i hi4 x hx
  rw[←hi] at hw
  refine hw.mono ?_
  rintro e w' ⟨q,ep,er,Q',rfl,f1,f2,f3⟩
  refine ⟨er,Q',rfl,oR ⟨ha,q,ep,f1,?_⟩,f2⟩
  rw[hi]
  exact f3
 ·refine (tK (B:=B) y.a ha x).mono ?_
  rintro e w' ⟨rfl,rfl⟩
  exact ⟨4,Q,rfl,oL ⟨ha,rfl,rfl⟩,bk.same h (bR _ _)⟩
end
theorem wR {w:World} {B:Nat} {P:Nat→Prop} {M:NetM} {Q:Nat→List (List Stp)} (h:NetP w B P M Q) (hr:Reads w) (x:List UInt8) (hx:x.length≤maxLen) (y:Hap) :
  Calls O 8 #[Z (some ⟨B,0,none⟩),K #[V I y.k,V I y.a,V I y.b,V I y.n,V I y.e1,V I y.e2,V I y.e3,V I y.e4,V I y.e5,Y ⟨x.toArray⟩]] w fun e w'=>∃er Q',e= J (V I er)∧wy x M y Q er Q'∧bk w B P w' (aN M y) Q':=by
 obtain ⟨w1,hw1⟩:∃W,w.alloc (X #[V I y.k,V I y.a,V I y.b,V I y.n,V I y.e1,V I y.e2,V I y.e3,V I y.e4,V I y.e5,Y ⟨x.toArray⟩] 32)=W:=⟨_,rfl⟩
 have hg1:Gr w w1:=by rw[←hw1];exact (gR w).alloc _
 have hBx:Cls w1 w.heap.size [V I y.k,V I y.a,V I y.b,V I y.n,V I y.e1,V I y.e2,V I y.e3,V I y.e4,V I y.e5,Y ⟨x.toArray⟩]:=by rw[←hw1];exact Cls.new w _ _
 obtain ⟨b0,b1,b2,b3,b4,b5,b6,b7,b8,b9⟩:=oz hBx
 have h1:=h.below hg1.below
 have hr1:=hr.below hg1.below
 have hH:Hid (bk w B P w1 M Q∧Below w.heap.size w w1∧B<w.heap.size):=⟨bk.same h hg1.below,hg1.below,h.lt⟩
 have m5:¬y.k=1→¬y.k=2→¬y.k=3→¬y.k=4→aN M y=M:=fun a b c d=>by unfold aN;rw[if_neg a,if_neg b,if_neg c,if_neg d]
 clear hBx hg1 h hr
 by_cases k1:y.k=1
 ·have hC:Hid _:=uu h1 y k1
  have kb1:(y.k==1)=true:=by simp;omega
  have k5:Hid (y.k≠5):=by show _≠_;omega
  clear k1 h1 m5
  go_enter Tryz.func8,Tryz.ntmps8
  go_wp2_with fail
  try rw[hw1]
  refine cM (show Calls _ _ _ _ _ from hC.out) ?_
  rintro e w2 ⟨rfl,f1⟩
  have hF:Hid (bk w B P w2 (aN M y) Q):=f1.ahead hH.out.2.1 hH.out.2.2
  clear f1 hC
  obtain ⟨E,hE⟩:∃E,bS M y=E:=⟨_,rfl⟩
  have hEH:Hid (bS M y=E):=hE
  rw[hE]
  clear hE
  go_wp2
  go_ret
  exact ⟨E,Q,rfl,oL ⟨k5.out,hEH.out.symm,rfl⟩,hF.out⟩
 by_cases k2:y.k=2
 ·have hC:Hid _:=pC h1 y (oL k2)
  have kb1:(y.k==1)=false:=by simp;omega
  have kb2:(y.k==2)=true:=by simp;omega
  have k5:Hid (y.k≠5):=by show _≠_;omega
  clear k1 k2 h1 m5
  go_enter Tryz.func8,Tryz.ntmps8
  go_wp2_with fail
  try rw[hw1]
  refine cM (show Calls _ _ _ _ _ from hC.out) ?_
  rintro e w2 ⟨rfl,f1⟩
  have hF:Hid (bk w B P w2 (aN M y) Q):=f1.ahead hH.out.2.1 hH.out.2.2
  clear f1 hC
  obtain ⟨E,hE⟩:∃E,bS M y=E:=⟨_,rfl⟩
  have hEH:Hid (bS M y=E):=hE
  rw[hE]
  clear hE
  go_wp2
  go_ret
  exact ⟨E,Q,rfl,oL ⟨k5.out,hEH.out.symm,rfl⟩,hF.out⟩
 by_cases k3:y.k=3
 ·have hC:Hid _:=pC h1 y (oR k3)
  have kb1:(y.k==1)=false:=by simp;omega
  have kb2:(y.k==2)=false:=by simp;omega
  have kb3:(y.k==3)=true:=by simp;omega
  have k5:Hid (y.k≠5):=by show _≠_;omega
  clear k1 k2 k3 h1 m5
  go_enter Tryz.func8,Tryz.ntmps8
  go_wp2_with fail
  try rw[hw1]
  refine cM (show Calls _ _ _ _ _ from hC.out) ?_
  rintro e w2 ⟨rfl,f1⟩
  have hF:Hid (bk w B P w2 (aN M y) Q):=f1.ahead hH.out.2.1 hH.out.2.2
  clear f1 hC
  obtain ⟨E,hE⟩:∃E,bS M y=E:=⟨_,rfl⟩
  have hEH:Hid (bS M y=E):=hE
  rw[hE]
  clear hE
  go_wp2
  go_ret
  exact ⟨E,Q,rfl,oL ⟨k5.out,hEH.out.symm,rfl⟩,hF.out⟩
 by_cases k4:y.k=4
 ·have hC:Hid _:=vX h1 y k4
  have kb1:(y.k==1)=false:=by simp;omega
  have kb2:(y.k==2)=false:=by simp;omega
  have kb3:(y.k==3)=false:=by simp;omega
  have kb4:(y.k==4)=true:=by simp;omega
  have k5:Hid (y.k≠5):=by show _≠_;omega
  clear k1 k2 k3 k4 h1 m5
  go_enter Tryz.func8,Tryz.ntmps8
  go_wp2_with fail
  try rw[hw1]
  refine cM (show Calls _ _ _ _ _ from hC.out) ?_
  rintro e w2 ⟨rfl,f1⟩
  have hF:Hid (bk w B P w2 (aN M y) Q):=f1.ahead hH.out.2.1 hH.out.2.2
  clear f1 hC
  obtain ⟨E,hE⟩:∃E,bS M y=E:=⟨_,rfl⟩
  have hEH:Hid (bS M y=E):=hE
  rw[hE]
  clear hE
  go_wp2
  go_ret
  exact ⟨E,Q,rfl,oL ⟨k5.out,hEH.out.symm,rfl⟩,hF.out⟩
 have hM:Hid (aN M y=M):=m5 k1 k2 k3 k4
 have kb1:(y.k==1)=false:=by simp;omega
 have kb2:(y.k==2)=false:=by simp;omega
 have kb3:(y.k==3)=false:=by simp;omega
 have kb4:(y.k==4)=false:=by simp;omega
 by_cases k5:y.k=5
 ·have hC:Hid _:=tM h1 hr1 x hx y
  have kb5:(y.k==5)=true:=by simp;omega
  have k5H:Hid (y.k=5):=k5
  clear k1 k2 k3 k4 k5 h1 m5 hr1
  go_enter Tryz.func8,Tryz.ntmps8
  go_wp2_with fail
  try rw[hw1]
  refine cM (show Calls _ _ _ _ _ from hC.out) ?_
  rintro e w2 ⟨E,Q',rfl,f1,f2⟩
  have hF:Hid (xO x y Q E Q'∧bk w B P w2 M Q'):=⟨f1,f2.ahead hH.out.2.1 hH.out.2.2⟩
  clear f1 f2 hC
  go_wp2
  go_ret
  refine ⟨E,Q',rfl,oR ⟨k5H.out,hF.out.1⟩,?_⟩
  rw[hM.out]
  exact hF.out.2
 ·have kb5:(y.k==5)=false:=by simp;omega
  have k5H:Hid (y.k≠5∧bS M y=1):=⟨k5,by unfold bS;rw[if_neg k1,if_neg k2,if_neg k3,if_neg k4]⟩
  clear k1 k2 k3 k4 k5 h1 m5 hr1
  go_enter Tryz.func8,Tryz.ntmps8
  go_wp2
  try rw[hw1]
  go_ret
  refine ⟨1,Q,rfl,oL ⟨k5H.out.1,k5H.out.2.symm,rfl⟩,?_⟩
  rw[hM.out]
  exact hH.out.1

theorem A5 (a b c d e f g h i j k l:Value) (w:World):(Instr.field 66 (K #[a,b,c,d,e,f,g,h,i,j,k,l]) 0).run O w= .ok (K #[a,b,c,d,e,f,g,h,i,j,k,l]) w:=by kernel_rfl
def TbV (n:Nat) (w:World) (v:Value) (t:Tab):Prop:=∃(A:Option Addr) (ca:Nat) (C:Option Addr) (cc:Nat),v= K (T6 t A ca C cc).toArray∧TbW n w t A ca C cc
theorem kH {w:World} {B:Nat} {P:Nat→Prop} {M:NetM} {Q:Nat→List (List Stp)} (h:NetP w B P M Q) (i:Nat) (hi:i<4) :
  Calls O 11 #[Z (some ⟨B,0,none⟩),V I i,V I 0] w fun e w'=>∃v,e= J (R #[v,V I 0])∧TbV w.heap.size w' v (M.s i)∧Below w.heap.size w w':=by
 obtain ⟨w1,hw1⟩:∃W,w.alloc (X #[V I 0,V I 0,V I 0,V I 0,H none 0 0,H none 0 0] 42)=W:=⟨_,rfl⟩
 have hg1:Gr w w1:=by rw[←hw1];exact (gR w).alloc _
 have hC1:Hid (Cls w1 w.heap.size Z6):=by show Cls _ _ _;rw[←hw1];exact Cls.new w _ _
 have hi4:(i:Int)<4:=by omega
 have hN:Hid (∀W,Calls O 25 #[V I i] W fun e w'=>e= J (U true)∧w'=W):=df i hi
 obtain ⟨S,hS⟩:∃S,M.s i=S:=⟨_,rfl⟩
 obtain ⟨T,hT⟩:∃T,M.t i=T:=⟨_,rfl⟩
 have hWh:Hid (Calls O 26 #[Z (some ⟨B,i*38,none⟩)] w1 fun e w'=>∃(EA:Option Addr) (eca:Nat) (EC:Option Addr) (ecc:Nat) (EB:Option Addr) (ecb:Nat) (ED:Option Addr) (ecd:Nat),e= J (K (T2 S EA eca EC ecc T EB ecb ED ecd).toArray)∧TbW w1.heap.size w' S EA eca EC ecc∧TbW w1.heap.size w' T EB ecb ED ecd∧Below w1.heap.size w1 w'):=by
  have hw:=jW ((h.below hg1.below).nd i hi)
  rw[hS,hT] at hw
  refine hw.mono ?_
  rintro e w' ⟨EA,eca,EC,ecc,EB,ecb,ED,ecd,rfl,f1,f2,f3⟩
  exact ⟨EA,eca,EC,ecc,EB,ecb,ED,ecd,rfl,il f1.1 f1.2,il f2.1 f2.2,f3⟩
 rw[hS]
 have hgH:Hid (Gr w w1):=hg1
 clear h hi hg1 hS hT
 go_enter Tryz.func11,Tryz.ntmps11
 go_wp2_with fail
 try rw[hw1]
 refine cM (hN.out _) ?_
 rintro e w0 ⟨rfl,h0⟩
 have h0:=h0.symm
 subst h0
 go_wp2_with fail
 try rw[hw1]
 clear hw1
 refine cM (show Calls _ _ _ _ _ from hWh.out) ?_
 rintro e w2 ⟨EA,eca,EC,ecc,EB,ecb,ED,ecd,rfl,f1,f2,f3⟩
 have hF:Hid (TbW w1.heap.size w2 S EA eca EC ecc∧TbW w1.heap.size w2 T EB ecb ED ecd∧Below w1.heap.size w1 w2∧Cls w2 w.heap.size Z6):=⟨f1,f2,f3,hC1.out.below f3⟩
 clear f1 f2 f3 hWh
 have hx:=oU (V I S.c.c0) (V I S.c.c1) (V I S.c.c2) (V I S.c.c3) (H EA S.c.l.length eca) (H EC S.e.length ecc) (V I T.c.c0) (V I T.c.c1) (V I T.c.c2) (V I T.c.c3) (H EB T.c.l.length ecb) (H ED T.e.length ecd)
 have hy:=A5 (V I S.c.c0) (V I S.c.c1) (V I S.c.c2) (V I S.c.c3) (H EA S.c.l.length eca) (H EC S.e.length ecc) (V I T.c.c0) (V I T.c.c1) (V I T.c.c2) (V I T.c.c3) (H EB T.c.l.length ecb) (H ED T.e.length ecd)
 obtain ⟨p0,p1,p2,p3,p4,p5⟩:=fQ hF.out.2.2.2
 obtain ⟨z0,z1,z2,z3,z4,z5⟩:=sB hF.out.2.2.2
 go_wp2
 have hlt:w.heap.size<w1.heap.size:=hC1.out.lt
 have hb:Below w.heap.size w w2:=hgH.out.below.trans (hF.out.2.2.1.mono hgH.out.size)
 have hAg:Agr (fun b=>w1.heap.size≤b) w2 ((((((w2.setCell ⟨w.heap.size,0,none⟩ (V I S.c.c0)).setCell ⟨w.heap.size,1,none⟩ (V I S.c.c1)).setCell ⟨w.heap.size,2,none⟩ (V I S.c.c2)).setCell ⟨w.heap.size,3,none⟩ (V I S.c.c3)).setCell ⟨w.heap.size,4,none⟩ (H EA S.c.l.length eca)).setCell ⟨w.heap.size,5,none⟩ (H EC S.e.length ecc)):=((((((aS _ fun h=>by omega).trans (aS _ fun h=>by omega)).trans (aS _ fun h=>by omega)).trans (aS _ fun h=>by omega)).trans (aS _ fun h=>by omega)).trans (aS _ fun h=>by omega))
 have hfin:Hid (TbW w.heap.size ((((((w2.setCell ⟨w.heap.size,0,none⟩ (V I S.c.c0)).setCell ⟨w.heap.size,1,none⟩ (V I S.c.c1)).setCell ⟨w.heap.size,2,none⟩ (V I S.c.c2)).setCell ⟨w.heap.size,3,none⟩ (V I S.c.c3)).setCell ⟨w.heap.size,4,none⟩ (H EA S.c.l.length eca)).setCell ⟨w.heap.size,5,none⟩ (H EC S.e.length ecc)) S EA eca EC ecc∧Below w.heap.size w ((((((w2.setCell ⟨w.heap.size,0,none⟩ (V I S.c.c0)).setCell ⟨w.heap.size,1,none⟩ (V I S.c.c1)).setCell ⟨w.heap.size,2,none⟩ (V I S.c.c2)).setCell ⟨w.heap.size,3,none⟩ (V I S.c.c3)).setCell ⟨w.heap.size,4,none⟩ (H EA S.c.l.length eca)).setCell ⟨w.heap.size,5,none⟩ (H EC S.e.length ecc))):=⟨(hF.out.1.agr hAg).mono (by omega),((((((hb.setCell (nR _) _).setCell (nR _) _).setCell (nR _) _).setCell (nR _) _).setCell (nR _) _).setCell (nR _) _)⟩
 clear hlt hb hAg
 exact bodyPost_ret (v:= R #[K (T6 S EA eca EC ecc).toArray,V I 0]) (by simp[results,Tryz.results11,go_sem,p0,p1,p2,p3,p4,p5]) rfl ⟨_,rfl,⟨EA,eca,EC,ecc,rfl,hfin.out.1⟩,hfin.out.2⟩

theorem TbN.len {w:World} {N o:Nat} {P:Nat→Prop} {t:Tab} (h:TbN w N o P t):t.c.l.length≤maxLen∧t.e.length≤maxLen:=by
 obtain ⟨A,ca,D,cd,_,h2⟩:=h
 exact h2.len
def ml (a b:Nat):List (Nat×Nat):=(List.range b).filterMap fun j=>if j=a then none else some (a,j)
def pW (a:Nat):List (Nat×Nat):=(List.range a).flatMap fun i=>ml i 4
theorem ns (a b:Nat):ml a (b+1)=if b=a then ml a b else ml a b++[(a,b)]:=by
 unfold ml
 rw[List.range_succ,List.filterMap_append]
 by_cases h:b=a
 ·simp[h]
 ·simp[h]
theorem se (a:Nat):pW (a+1)=pW a++ml a 4:=by
 unfold pW
 rw[List.range_succ,List.flatMap_append]
 simp
theorem kn {w:World} {B:Nat} {P:Nat→Prop} {M:NetM} {Q:Nat→List (List Stp)} {c:Nat} (h:NetP w B P M Q) (hI:NInv c M) :
  Calls O 20 #[Z (some ⟨B,0,none⟩)] w fun e w'=>e= J (V I 0)∧bk w B P w' (cK.foldl cN M) Q:=by
 have mixed:Tryz.prog.follows .mixedOrders=true:=by kernel_rfl
 have hH:Hid (bk w B P w M Q∧NInv c M):=⟨bk.same h (bR _ _),hI⟩
 clear h hI
 go_enter Tryz.func20,Tryz.ntmps20
 go_wp2
 go_loopw [6] (fun v6 wr=>∃a:Nat,a≤4∧v6= V I a∧Hid (bk w B P wr ((pW a).foldl cN M) Q)) (fun v6 _=>4-(intOf v6).toNat)
 case atStart=>exact ⟨0,by omega,rfl,hH.out.1⟩
 case round =>
  obtain ⟨a,ha,rfl,hS⟩:=hrel
  by_cases ha4:a<4
  rotate_left
  ·have hz:¬(a:Int)<4:=by omega
   obtain rfl:a=4:=by omega
   go_wp2
   go_ret
   exact ⟨rfl,hS.out⟩
  have haz:(a:Int)<4:=by omega
  go_wp2
  go_loopw [9] (fun v9 wx=>∃b:Nat,b≤4∧v9= V I b∧Hid (bk w B P wx ((pW a++ml a b).foldl cN M) Q)) (fun v9 _=>4-(intOf v9).toNat)
  case atStart=>exact ⟨0,by omega,rfl,by show bk _ _ _ _ _ _;rw[show ml a 0=[] from rfl,List.append_nil];exact hS.out⟩
  case round =>
   obtain ⟨b,hb,rfl,hT⟩:=hrel
   by_cases hb4:b<4
   rotate_left
   ·have hz:¬(b:Int)<4:=by omega
    obtain rfl:b=4:=by omega
    go_wp2
    go_roundw
    case rel=>exact ⟨a+1,by omega,by go_num,by show bk _ _ _ _ _ _;rw[se];exact hT.out⟩
    case measure=>simp[intOf];omega
   have hbz:(b:Int)<4:=by omega
   by_cases hab:b=a
   ·subst hab
    have hab':((b:Int)==(b:Int))=true:=by simp
    go_wp2
    go_roundw
    case rel=>exact ⟨b+1,by omega,by go_num,by show bk _ _ _ _ _ _;rw[ns,if_pos rfl];exact hT.out⟩
    case measure=>simp[intOf];omega
   have hab':((a:Int)==(b:Int))=false:=by simp;omega
   obtain ⟨N,hN⟩:∃N,(pW a++ml a b).foldl cN M=N:=⟨_,rfl⟩
   rw[hN] at hT
   have hIn:NInv c N:=by rw[←hN];exact (NInv.tells _ hH.out.2).1
   have hNx:Hid ((pW a++ml a (b+1)).foldl cN M=cN N (a,b)):=by
    show _=_
    rw[ns,if_neg hab,←List.append_assoc,List.foldl_append,hN]
    rfl
   obtain ⟨S,hSe⟩:∃S,N.s a=S:=⟨_,rfl⟩
   obtain ⟨T,hTe⟩:∃T,N.t a=T:=⟨_,rfl⟩
   have hWh:Hid (∀W,Gr wr W→Calls O 26 #[Z (some ⟨B,a*38,none⟩)] W fun e w'=>∃(EA:Option Addr) (eca:Nat) (EC:Option Addr) (ecc:Nat) (EB:Option Addr) (ecb:Nat) (ED:Option Addr) (ecd:Nat),e= J (K (T2 S EA eca EC ecc T EB ecb ED ecd).toArray)∧TbW W.heap.size w' S EA eca EC ecc∧TbW W.heap.size w' T EB ecb ED ecd∧Below W.heap.size W w'):=fun W hW=>by
    obtain ⟨⟨P',h1,_⟩,_⟩:=hT.out
    have hw:=jW ((h1.below hW.below).nd a ha4)
    rw[hSe,hTe] at hw
    refine hw.mono ?_
    rintro e w' ⟨EA,eca,EC,ecc,EB,ecb,ED,ecd,rfl,f1,f2,f3⟩
    exact ⟨EA,eca,EC,ecc,EB,ecb,ED,ecd,rfl,il f1.1 f1.2,il f2.1 f2.2,f3⟩
   have hTk:Hid (∀W n EA eca EC ecc EB ecb ED ecd,Below wr.heap.size wr W→TbW n W S EA eca EC ecc→TbW n W T EB ecb ED ecd→Calls O 34 #[Z (some ⟨B,b*38,none⟩),K (T2 S EA eca EC ecc T EB ecb ED ecd).toArray] W fun e w'=>e= J (V I 0)∧bk w B P w' (cN N (a,b)) Q):=fun W n EA eca EC ecc EB ecb ED ecd hW r1 r2=>by
    obtain ⟨_,h0,_⟩:=hIn.tell (a,b)
    obtain ⟨⟨P',h1,h2⟩,h3⟩:=hT.out
    have hn:=h1.below hW
    have l1:=(h1.nd a ha4).ts.len
    have l2:=(h1.nd a ha4).tt.len
    rw[hSe] at l1
    rw[hTe] at l2
    have ht:=pK (hn.nd b hb4) S T EA EB EC ED eca ecb ecc ecd r1.row r1.cel r2.row r2.cel l1.1 l1.2 l2.1 l2.2 r1.nr r2.nr
    rw[←hSe,←hTe,show tkE (N.s b) (N.t b) (N.s a) (N.t a)=0 from h0,hSe,hTe] at ht
    refine ht.mono ?_
    rintro e w' ⟨rfl,f1,f2⟩
    have hc:=hn.call hb4 f1 f2 (by omega)
    rw[jV] at hc
    obtain ⟨⟨P2,k1,k2⟩,k3⟩:=hc
    rw[←hSe,←hTe] at k1
    exact ⟨rfl,⟨P2,k1,fun b hb=>(k2 b hb).elim (h2 b) fun h=>oR (nT h3.size (nT hW.size h))⟩,(h3.trans (Wr.of hW h1.lt)).trans k3⟩
   have hTH:Hid (bk w B P wr N Q):=hT.out
   clear hT hIn hN hSe hTe hS
   go_wp2
   go_region_with (first|(go_at_call 26;(with_reducible refine cM (hWh.out _ (gR wr).drew) ?_);rintro e w2 ⟨EA,eca,EC,ecc,EB,ecb,ED,ecd,rfl,f1,f2,f3⟩;have hF:Hid (TbW wr.drew.heap.size w2 S EA eca EC ecc∧TbW wr.drew.heap.size w2 T EB ecb ED ecd∧Below wr.heap.size wr w2):=⟨f1,f2,(gR wr).drew.below.trans f3⟩;clear f1 f2 f3)|(go_at_call 34;(with_reducible refine cM (hTk.out _ _ _ _ _ _ _ _ _ _ hF.out.2.2 hF.out.1 hF.out.2.1) ?_);rintro e w3 ⟨rfl,f1⟩;have hG:Hid (bk w B P w3 (cN N (a,b)) Q):=f1;clear f1))
   all_goals
    go_wp2
    go_roundw
    case rel=>exact ⟨b+1,by omega,by go_num,by show bk _ _ _ _ _ _;rw[hNx.out];exact hG.out⟩
    case measure=>simp[intOf];omega
theorem va {w:World} {B:Nat} {P:Nat→Prop} {M:NetM} {Q:Nat→List (List Stp)} {c:Nat} (h:NetP w B P M Q) (hI:NInv c M) :
  Calls O 7 #[Z (some ⟨B,0,none⟩)] w fun e w'=>e= J (V I 0)∧bk w B P w' (ci M) Q:=by
 have hT1:Hid (Calls O 20 #[Z (some ⟨B,0,none⟩)] w fun e w'=>e= J (V I 0)∧bk w B P w' (cK.foldl cN M) Q):=kn h hI
 have hT2:Hid (∀W,bk w B P W (cK.foldl cN M) Q→Calls O 20 #[Z (some ⟨B,0,none⟩)] W fun e w'=>e= J (V I 0)∧bk w B P w' (ci M) Q):=fun W hW=>by
  obtain ⟨⟨P',h1,h2⟩,h3⟩:=hW
  refine (kn h1 (NInv.tells cK hI).1).mono ?_
  rintro e w' ⟨rfl,f1⟩
  refine ⟨rfl,?_⟩
  have he:ci M=cK.foldl cN (cK.foldl cN M):=by unfold ci;rw[List.foldl_append]
  rw[he]
  obtain ⟨⟨P2,k1,k2⟩,k3⟩:=f1
  exact ⟨⟨P2,k1,fun b hb=>(k2 b hb).elim (h2 b) fun h=>oR (nT h3.size h)⟩,h3.trans k3⟩
 clear h hI
 go_enter Tryz.func7,Tryz.ntmps7
 go_wp2
 refine wp_loop_rounds 3 ?_
 rw[rounds_succ]
 go_wp2_with fail
 refine cM (show Calls _ _ _ _ _ from hT1.out) ?_
 rintro e w1 ⟨rfl,f1⟩
 have hF:Hid _:=f1
 clear f1 hT1
 go_wp2
 rw[rounds_succ]
 go_wp2_with fail
 refine cM (hT2.out w1 hF.out) ?_
 rintro e w2 ⟨rfl,f1⟩
 have hG:Hid _:=f1
 clear f1 hT2
 go_wp2
 rw[rounds_succ]
 go_wp2
 go_ret
 exact ⟨rfl,hG.out⟩

def bT (w wr:World) (B:Nat) (M:NetM) (Q:Nat→List (List Stp)):Prop:=(∃P,NetP wr B P M Q∧∀b,P b→w.heap.size≤b)∧Below w.heap.size w wr∧w.heap.size≤B
section
variable {w wr w':World} {B:Nat} {M M':NetM} {Q Q':Nat→List (List Stp)}
theorem bT.below (h:bT w wr B M Q) (k:Below wr.heap.size wr w'):bT w w' B M Q:=by
 obtain ⟨⟨P,h1,h2⟩,h3,h4⟩:=h
 exact ⟨⟨P,h1.below k,h2⟩,h3.trans (k.mono h3.size),h4⟩
theorem Wr.after {lo hi:Nat} (h:Below w.heap.size w wr) (k:Wr B lo hi wr w') (hB:w.heap.size≤B):Below w.heap.size w w':=⟨k.os.trans h.os,k.tape.trans h.tape,k.output.trans h.output,nT h.size k.size,fun g hg=>(k.oth g (nL hg h.size) (by omega)).trans (h.block g hg)⟩
theorem bT.step (h:bT w wr B M Q) (k:∀P,NetP wr B P M Q→bk wr B P w' M' Q'):bT w w' B M' Q'∧Wr B 0 153 wr w':=by
 obtain ⟨⟨P,h1,h2⟩,h3,h4⟩:=h
 obtain ⟨⟨P',k1,k2⟩,k3⟩:=k P h1
 exact ⟨⟨⟨P',k1,fun b hb=>(k2 b hb).elim (h2 b) fun h=>nT h3.size h⟩,Wr.after h3 k3 h4,h4⟩,k3⟩
theorem bT.new (h:Below w.heap.size w wr) (k:NetP w' wr.heap.size (fun _=>False) cW (fun _=>[])) (k2:Below wr.heap.size wr w'):bT w w' wr.heap.size cW (fun _=>[]):=⟨⟨_,k,fun _ h=>h.elim⟩,h.trans (k2.mono h.size),h.size⟩
end
def dR (y:Hap×List UInt8):List Value:=[V I y.1.k,V I y.1.a,V I y.1.b,V I y.1.n,V I y.1.e1,V I y.1.e2,V I y.1.e3,V I y.1.e4,V I y.1.e5,Y ⟨y.2.toArray⟩]
theorem uw (y:Hap×List UInt8):(dR y).length=10:=rfl
theorem doL {w wr:World} {B:Nat} {M:NetM} {Q:Nat→List (List Stp)} (h:bT w wr B M Q) (hr:Reads w) (y:Hap×List UInt8) (hx:y.2.length≤maxLen) :
  Calls O 8 #[Z (some ⟨B,0,none⟩),K #[V I y.1.k,V I y.1.a,V I y.1.b,V I y.1.n,V I y.1.e1,V I y.1.e2,V I y.1.e3,V I y.1.e4,V I y.1.e5,Y ⟨y.2.toArray⟩]] wr fun e w'=>∃er Q',e= J (V I er)∧wy y.2 M y.1 Q er Q'∧bT w w' B (aN M y.1) Q'∧Wr B 0 153 wr w':=by
 have hL:=h
 obtain ⟨⟨P,h1,h2⟩,h3,h4⟩:=h
 refine (wR h1 (hr.below h3) y.2 hx y.1).mono ?_
 rintro e w' ⟨er,Q',rfl,f1,f2⟩
 obtain ⟨⟨P',k1,k2⟩,k3⟩:=f2
 exact ⟨er,Q',rfl,f1,⟨⟨P',k1,fun b hb=>(k2 b hb).elim (h2 b) fun h=>nT h3.size h⟩,Wr.after h3 k3 h4,h4⟩,k3⟩
theorem mR {w wr:World} {B:Nat} {M:NetM} {Q:Nat→List (List Stp)} {c:Nat} (h:bT w wr B M Q) (hI:NInv c M) :
  Calls O 7 #[Z (some ⟨B,0,none⟩)] wr fun e w'=>e= J (V I 0)∧bT w w' B (ci M) Q∧Wr B 0 153 wr w':=by
 obtain ⟨⟨P,h1,h2⟩,h3,h4⟩:=h
 refine (va h1 hI).mono ?_
 rintro e w' ⟨rfl,f2⟩
 obtain ⟨⟨P',k1,k2⟩,k3⟩:=f2
 exact ⟨rfl,⟨⟨P',k1,fun b hb=>(k2 b hb).elim (h2 b) fun h=>nT h3.size h⟩,Wr.after h3 k3 h4,h4⟩,k3⟩

theorem lJ {w0:World} (w:World) (A:Option Addr) (cap:Nat) (l:List (Hap×List UInt8)) (hl:l.length≤maxLen) (row:ay dR 10 w0 A l) (hx:∀p∈l,p.2.length≤maxLen) (hr:Reads w0) (hb:Below w0.heap.size w0 w) :
  Calls O 6 #[H A l.length cap] w fun e w'=>∃B Q,e= J (Z (some ⟨B,0,none⟩))∧bT w w' B ((l.map (·.1)).foldl aN cW) Q:=by
 have hlm:l.length≤9223372036854775807:=by unfold maxLen at hl;exact hl
 have hN:Hid _:=lz w
 have hH:Hid (ay dR 10 w0 A l∧(∀p∈l,p.2.length≤maxLen)∧Reads w0∧Below w0.heap.size w0 w):=⟨row,hx,hr,hb⟩
 clear row hx hr hb
 go_enter Tryz.func6,Tryz.ntmps6
 go_wp2_with fail
 refine cM (show Calls _ _ _ _ _ from hN.out) ?_
 rintro e w1 ⟨rfl,f1,f2⟩
 have hI1:Hid (bT w w1 w.heap.size cW (fun _=>[])):=bT.new (bR _ _) f1 f2
 clear f1 f2 hN
 go_wp2
 go_loopw [9] (fun v9 wr=>∃k:Nat,k≤l.length∧v9= V I k∧Hid (∃Q,bT w wr w.heap.size (((l.take k).map (·.1)).foldl aN cW) Q)) (fun v9 _=>l.length-(intOf v9).toNat)
 case atStart=>exact ⟨0,nZ _,rfl,_,hI1.out⟩
 case round =>
  obtain ⟨k,hk,rfl,hI⟩:=hrel
  by_cases hkl:k<l.length
  rotate_left
  ·have hz:¬(k:Int)<(l.length:Int):=by omega
   obtain rfl:k=l.length:=by omega
   go_wp2
   go_ret
   obtain ⟨Q,hQ⟩:=hI.out
   rw[List.take_length] at hQ
   exact ⟨w.heap.size,rfl,Q,hQ⟩
  have hkz:(k:Int)<(l.length:Int):=by omega
  obtain ⟨Q,hQ⟩:=hI.out
  obtain ⟨bb,off,hA,hbb,hcl⟩:=hH.out.1.at hkl
  subst hA
  have hbw:Below w0.heap.size w0 wr:=hH.out.2.2.2.trans (hQ.2.1.mono hH.out.2.2.2.size)
  obtain ⟨y,hy⟩:∃y,l[k]=y:=⟨_,rfl⟩
  have hcl:=hcl k hkl
  rw[hy] at hcl
  have c0:=(hbw.cell (p:=⟨bb,off+k*10+0,none⟩) hbb).trans (hcl 0 (by omega))
  have c1:=(hbw.cell (p:=⟨bb,off+k*10+1,none⟩) hbb).trans (hcl 1 (by omega))
  have c2:=(hbw.cell (p:=⟨bb,off+k*10+2,none⟩) hbb).trans (hcl 2 (by omega))
  have c3:=(hbw.cell (p:=⟨bb,off+k*10+3,none⟩) hbb).trans (hcl 3 (by omega))
  have c4:=(hbw.cell (p:=⟨bb,off+k*10+4,none⟩) hbb).trans (hcl 4 (by omega))
  have c5:=(hbw.cell (p:=⟨bb,off+k*10+5,none⟩) hbb).trans (hcl 5 (by omega))
  have c6:=(hbw.cell (p:=⟨bb,off+k*10+6,none⟩) hbb).trans (hcl 6 (by omega))
  have c7:=(hbw.cell (p:=⟨bb,off+k*10+7,none⟩) hbb).trans (hcl 7 (by omega))
  have c8:=(hbw.cell (p:=⟨bb,off+k*10+8,none⟩) hbb).trans (hcl 8 (by omega))
  have c9:=(hbw.cell (p:=⟨bb,off+k*10+9,none⟩) hbb).trans (hcl 9 (by omega))
  simp only[dR,z0',zS,Nat.add_zero] at c0 c1 c2 c3 c4 c5 c6 c7 c8 c9
  obtain ⟨w2,hw2⟩:∃W,wr.alloc (X #[V I y.1.k,V I y.1.a,V I y.1.b,V I y.1.n,V I y.1.e1,V I y.1.e2,V I y.1.e3,V I y.1.e4,V I y.1.e5,Y ⟨y.2.toArray⟩] 32)=W:=⟨_,rfl⟩
  have hg2:Gr wr w2:=by rw[←hw2];exact (gR wr).alloc _
  have hBx:Cls w2 wr.heap.size [V I y.1.k,V I y.1.a,V I y.1.b,V I y.1.n,V I y.1.e1,V I y.1.e2,V I y.1.e3,V I y.1.e4,V I y.1.e5,Y ⟨y.2.toArray⟩]:=by rw[←hw2];exact Cls.new wr _ _
  obtain ⟨b0,b1,b2,b3,b4,b5,b6,b7,b8,b9⟩:=oz hBx
  have hD:Hid _:=doL (hQ.below hg2.below) (hH.out.2.2.1.below hH.out.2.2.2) y (hH.out.2.1 y (by rw[←hy];exact gM _))
  have hnx:Hid (((l.take (k+1)).map (·.1)).foldl aN cW=aN (((l.take k).map (·.1)).foldl aN cW) y.1):=by
   show _=_
   rw[List.take_succ_eq_append_getElem hkl,List.map_append,List.foldl_append,hy]
   rfl
  clear hI hQ hcl hbb hbw hy hg2 hBx
  go_wp2_with fail
  try rw[hw2]
  clear hw2 c0 c1 c2 c3 c4 c5 c6 c7 c8 c9
  refine cM (show Calls _ _ _ _ _ from hD.out) ?_
  rintro e w3 ⟨er,Q',rfl,_,f2,_⟩
  have hF:Hid (∃Q,bT w w3 w.heap.size (((l.take (k+1)).map (·.1)).foldl aN cW) Q):=⟨Q',by rw[hnx.out];exact f2⟩
  clear f2 hD hnx b0 b1 b2 b3 b4 b5 b6 b7 b8 b9
  go_wp2
  go_roundw
  case rel=>exact ⟨k+1,by omega,by go_num,hF⟩
  case measure=>simp[intOf];omega
end Go.Proofs.YtkefkplnamkicabGreatDoor
