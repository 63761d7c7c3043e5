import Derived.Test.YtjmmpnmgpgaagaaGreatDoorM27
set_option maxRecDepth 100000
set_option maxHeartbeats 8000000
open Go renaming Calls → X, World → K, Addr → ib
open Go.Ending renaming returned → J
open Go.IntKind renaming i64 → I
open Go.Obj renaming cells → ia
open Go.Proofs.Tryz renaming prog → O
open Go.RowKit renaming Hid → H, Below → U
open Go.Value renaming int → V, slice → Z, pointer → Y, string → ic, agg → ih, tuple → ik
namespace Go.Proofs.YtjmmpnmgpgaagaaGreatDoor
open Go.RowKit Go.Sort

theorem C9 {W:K} {n:Nat} (h:W.heap.size=n) (s:Stp) (T:TypeId):az jT 7 (W.alloc (ia (ja8 s) T)) (some ⟨n,0,none⟩) [s]:=by
 subst h
 refine oR ⟨W.heap.size,0,rfl,by simp,fun j g i hi=> ?_⟩
 obtain rfl:j=0:=by simp at g;omega
 have f:i=0\/i=1\/i=2\/i=3\/i=4\/i=5\/i=6:=by omega
 rcases f with rfl|rfl|rfl|rfl|rfl|rfl|rfl
 ·exact aa (w:=W) (gR _) (j:=0) rfl
 ·exact aa (w:=W) (gR _) (j:=1) rfl
 ·exact aa (w:=W) (gR _) (j:=2) rfl
 ·exact aa (w:=W) (gR _) (j:=3) rfl
 ·exact aa (w:=W) (gR _) (j:=4) rfl
 ·exact aa (w:=W) (gR _) (j:=5) rfl
 ·exact aa (w:=W) (gR _) (j:=6) rfl
theorem NwQ.none (n:Nat):NwQ n none []:=⟨fun a f=>(by cases f),fun s g=>(by cases g)⟩
def F0:Value->Nat
 | ic b=>b.size
 | _=>0
theorem uJ {a r:List UInt8} (h:(10:UInt8) ∉ a):iC (a++10::r)=match gw a with
  | none=>none
  | some s=>(iC r).map (s :: ·):=by
 unfold iC
 rw[fG _ _ h]
 cases e:ac 10 r with
 | nil=>exact absurd e (cF _ _)
 | cons y t =>
  rw[nz]
  cases gw a with
  | none=>rfl
  | some s=>cases nz (y::t)<;>rfl
def Pre (x y:List UInt8) (q0:List Stp):Prop:=iC x=(iC y).map (q0++ ·)
theorem Pre.next {x a r:List UInt8} {f:List Stp} {s:Stp} (h:Pre x (a++10::r) f) (g:(10:UInt8) ∉ a) (j:gw a=some s):Pre x r (f++[s]):=by
 unfold Pre at h ⊢
 rw[h,uJ g,j]
 cases iC r<;>simp
def gH:List (List UInt8)->Nat->Nat
 | [],_=>0
 | [y],k=>if y=[] then 0 else k
 | p::r::t,k=>match gw p with
  | none=>k
  | some _=>gH (r::t) (k+1)
theorem lH {p:List UInt8} {t:List (List UInt8)} (h:t≠[]) {k:Nat}:gH (p::t) k=match gw p with
  | none=>k
  | some _=>gH t (k+1):=by
 cases t with
 | nil=>exact absurd rfl h
 | cons r t=>rfl
def rj (x:List UInt8) (q:List Stp) (k er:Int):Prop :=
 (1024<x.length/\q=[]/\k=0/\er=2) \/
 (x.length<=1024/\gH (ac 10 x) 1≠0/\q=[]/\k=(gH (ac 10 x) 1:Nat)/\er=3) \/
 (x.length<=1024/\gH (ac 10 x) 1=0/\∃q0 q1,iC x=some q0/\q1.map clr=q0.map clr/\k=0/\er=bu q1/\(er=0->q=q1)/\(er≠0->q=[]))
theorem uv (x:List UInt8) (w:K) (hr:Reads w) (bN:x.length<=maxLen):X O 55 #[ic ⟨x.toArray⟩] w fun e w'=>(∃A cap q k er,e= J (ik #[Z A q.length cap,V I k,V I er])/\0<=k/\Stps w' A q/\NwQ w.heap.size A q/\q.length<=1024/\rj x q k er)/\U w.heap.size w w':=by
 have hx:x.length<=9223372036854775807:=by unfold maxLen at bN;exact bN
 go_enter Tryz.func55,Tryz.ntmps55
 by_cases hL:1024<x.length
 ·have b0:(1024:Int)<(x.length:Int):=by omega
  go_wp2
  go_ret3
  exact ⟨⟨none,0,[],0,2,rfl,by decide,⟨oL rfl,fun s hs=>by cases hs⟩,NwQ.none _,by simp,oL ⟨hL,rfl,rfl,rfl⟩⟩,bR _ _⟩
 have b0:¬(1024:Int)<(x.length:Int):=by omega
 go_wp2
 go_loopw [0,5,6] (fun s v i wr=>∃(y:List UInt8) (q q0:List Stp),s= ic ⟨y.toArray⟩/\i= V I ((q.length:Int)+1)/\q.length+y.length<=1024/\H (OwnS wr w.heap.size v q/\U w.heap.size w wr/\q.map clr=q0.map clr/\Pre x y q0/\gH (ac 10 x) 1=gH (ac 10 y) (q.length+1))) (fun s _ _ _=>F0 s)
 case atStart=>exact ⟨x,[],[],rfl,rfl,by simp;omega,OwnS.nil _ _,bR _ _,rfl,by unfold Pre;cases iC x<;>rfl,rfl⟩
 case round =>
  obtain ⟨y,q,q0,rfl,rfl,bd,f⟩:=hrel
  by_cases hy:y=[]
  ·subst hy
   obtain ⟨A,cap,b1,hA,bc⟩:=OwnS.stps f.out.1
   subst b1
   have bo:=OwnS.nw f.out.1
   have bh:=jS q A cap wr (by unfold maxLen;simp at bd;omega) bc
   have ap:H _:=bh
   have bG:H (iC x=some q0):=by
    have:=f.out.2.2.2.1
    unfold Pre at this
    show _=_
    rw[this]
    simp[iC,ac,nz]
   have bt:H (gH (ac 10 x) 1=0):=by show _=_;rw[f.out.2.2.2.2];rfl
   have F:H (q.map clr=q0.map clr/\Stps wr A q/\U w.heap.size w wr/\q.length<=1024/\NwQ w.heap.size A q):=⟨f.out.2.2.1,bc,f.out.2.1,by simp at bd;omega,bo⟩
   clear bh f bc hA bo
   obtain ⟨E,hE⟩:∃E,bu q=E:=⟨_,rfl⟩
   rw[hE] at ap
   go_wp2_with fail
   refine ja0 ap ?_
   rintro e w2 ⟨rfl,C⟩
   have g:=ja2 (F.out.2.1.below C) (F.out.2.2.1.trans (C.mono F.out.2.2.1.size))
   clear ap C
   by_cases a2:E=0
   ·subst a2
    have a3:=ja1 hE
    clear hE
    go_wp2
    go_ret3
    exact ⟨⟨A,cap,q,0,0,rfl,by decide,g.out.1,F.out.2.2.2.2,F.out.2.2.2.1,oR (oR ⟨by omega,bt.out,q0,q,bG.out,F.out.1,rfl,a3.out.symm,fun _=>rfl,fun h=>absurd rfl h⟩)⟩,g.out.2⟩
   ·have b2:(E==0)=false:=by simpa using a2
    have a3:=ja2 hE a2
    clear hE a2
    go_wp2
    go_ret3
    exact ⟨⟨none,0,[],0,E,rfl,by decide,⟨oL rfl,fun s hs=>by cases hs⟩,NwQ.none _,by simp,oR (oR ⟨by omega,bt.out,q0,q,bG.out,F.out.1,rfl,a3.out.1.symm,fun h=>absurd h a3.out.2,fun _=>rfl⟩)⟩,g.out.2⟩
  ·have b5:(y==[])=false:=by simpa using hy
   have bn:=Bh y 10 wr (hr.below f.out.2.1) (by omega)
   have a7:H _:=bn
   clear bn
   go_wp2_with fail
   refine ja0 a7 ?_
   rintro e w2 ⟨⟨a,r,b,rfl,a8⟩,a9⟩
   have b3:a.length<=y.length/\r.length<=y.length:=by
    rcases a8 with ⟨_,e,_⟩|⟨_,_,e,e2⟩
    ·rw[e];simp;omega
    ·rw[e,e2];simp
   have C:U w.heap.size w w2:=f.out.2.1.trans (a9.below.mono f.out.2.1.size)
   have bp:=oO a w2 (hr.below C) (by omega)
   have R:H _:=bp
   have an:=ja2 C a9
   have L:H _:=a8
   clear bp a7 C a9 a8
   go_wp2_with fail
   refine ja0 R ?_
   rintro e w3 ⟨n,rfl,ao,ad⟩
   have j:=ja1 (an.out.1.trans (ao.mono an.out.1.size))
   cases b with
   | false =>
    have g:H (gH (ac 10 x) 1=q.length+1):=by
     rcases L.out with ⟨e,_⟩|⟨_,h1,_⟩
     ·cases e
     ·show _=_
      rw[f.out.2.2.2.2,kl y h1]
      show (if y=[] then 0 else q.length+1)=_
      rw[if_neg hy]
    clear ad R f ao
    go_wp2
    go_ret3
    exact ⟨⟨none,0,[],_,_,rfl,by omega,⟨oL rfl,fun s hs=>by cases hs⟩,NwQ.none _,by simp,oR (oL ⟨by omega,by rw[g.out];omega,rfl,by rw[g.out];push_cast;rfl,rfl⟩)⟩,j.out.alloc j.out.size _⟩
   | true =>
    obtain ⟨rfl,ba⟩:y=a++10::r/\(10:UInt8) ∉ a:=by
     rcases L.out with ⟨_,h1,h2⟩|⟨e,_⟩
     ·exact ⟨h1,h2⟩
     ·cases e
    cases ah:gw a with
    | none =>
     have g:H (gH (ac 10 x) 1=q.length+1):=by show _=_;rw[f.out.2.2.2.2,fG _ _ ba,lH (cF _ _),ah]
     clear ad R f ao ah L
     go_wp2
     go_ret3
     exact ⟨⟨none,0,[],_,_,rfl,by omega,⟨oL rfl,fun s hs=>by cases hs⟩,NwQ.none _,by simp,oR (oL ⟨by omega,by rw[g.out];omega,rfl,by rw[g.out];push_cast;rfl,rfl⟩)⟩,j.out.alloc j.out.size _⟩
    | some s0 =>
     obtain ⟨bl,a6,a4⟩:=ad s0 ah
     have bs:H (Pre x r (q0++[s0])/\(q++[n]).map clr=(q0++[s0]).map clr):=⟨f.out.2.2.2.1.next ba ah,by rw[List.map_append,List.map_append,f.out.2.2.1];simp[bl]⟩
     have bC:H (gH (ac 10 x) 1=gH (ac 10 r) ((q++[n]).length+1)):=by show _=_;rw[f.out.2.2.2.2,fG _ _ ba,lH (cF _ _),ah];simp
     have bb:H (OwnS w3 w.heap.size u5 q/\ApartS w3 w.heap.size u5.ownBlock n):=⟨(f.out.1.gr an.out.2).below ao,⟨a6.1,a6.2.1,a6.2.2,fun a ha=>⟨nT an.out.1.size (a4 a ha).1,(a4 a ha).2,fun e=>by
      have h1:=(f.out.1.own.lt _ e).2
      have h2:=(a4 a ha).1
      have h3:=an.out.2.size
      omega⟩⟩⟩
     have b4:q.length+1+r.length<=1024:=by simp at bd;omega
     clear ad R f ao ah L bl a6 a4
     have a5:Gr w3 ((w3.alloc (ia (ja8 n) 136)).alloc (ia (ja8 n) 136)):=((gR w3).alloc _).alloc _
     have u:H (OwnS ((w3.alloc (ia (ja8 n) 136)).alloc (ia (ja8 n) 136)) w.heap.size u5 q/\az jT 7 ((w3.alloc (ia (ja8 n) 136)).alloc (ia (ja8 n) 136)) (some ⟨w3.heap.size+1,0,none⟩) [n]/\ApartS ((w3.alloc (ia (ja8 n) 136)).alloc (ia (ja8 n) 136)) w.heap.size u5.ownBlock n/\q.length+1<=maxLen/\(q.length+1)*72<=140737488355328/\U w.heap.size w ((w3.alloc (ia (ja8 n) 136)).alloc (ia (ja8 n) 136))):=⟨bb.out.1.gr a5,C9 (by simp) n 136,bb.out.2.below a5.below,by unfold maxLen;omega,by omega,j.out.trans (a5.below.mono j.out.size)⟩
     clear bb a5
     go_wp2_with (at_builtin;refine gK _ rfl _ _ rfl w.heap.size u5 q n ⟨w3.heap.size+1,0,none⟩ 1 rfl rfl u.out.1 u.out.2.1 u.out.2.2.1 u.out.2.2.2.1 u.out.2.2.2.2.1 u.out.2.2.2.2.2.size ?_;intro v7 w7 a1 be)
     have a0:=ja2 a1 (u.out.2.2.2.2.2.trans be)
     clear a1 be u
     go_roundw
     case rel=>exact ⟨r,q++[n],q0++[s0],rfl,by simp only[List.length_append,List.length_cons,List.length_nil];go_num,by simp;omega,a0.out.1,a0.out.2,bs.out.2,bs.out.1,bC.out⟩
     case measure=>show r.toArray.size<(a++10::r).toArray.size;simp;omega
def yv (x:List UInt8) (q:List Stp) (er:Int):Prop:=∃k,rj x q k er
theorem ke (x:List UInt8) (w:K) (C:Reads w) (g:x.length<=maxLen):X O 55 #[ic ⟨x.toArray⟩] w fun e w'=>(∃A cap q k f,e= J (ik #[Z A q.length cap,V I k,V I f])/\0<=k/\Stps w' A q/\q.length<=1024/\rj x q k f)/\U w.heap.size w w' :=
 (uv x w C g).mono fun _ _ ⟨⟨A,cap,q,k,f,h,j,n,_,r⟩,u⟩=>⟨⟨A,cap,q,k,f,h,j,n,r⟩,u⟩

theorem yn {w:K} {B:Nat} (a:Int) (f:¬isN a) (x:List UInt8) :
  X O 66 #[Y (some ⟨B,0,none⟩),V I a,ic ⟨x.toArray⟩] w fun e w'=>e= J (V I 4)/\w'=w:=by
 have g:=ja1 (fu a f)
 clear f
 go_enter Tryz.func66,Tryz.ntmps66
 go_wp2_with fail
 refine cM (g.out _) ?_
 rintro e w1 ⟨rfl,rfl⟩
 go_wp2
 go_ret
 exact ⟨rfl,rfl⟩
theorem uO {w:K} {B:Nat} {P:Nat->Prop} {M:NetM} {Q:Nat->List (List Stp)} (h:NetP w B P M Q) (hr:Reads w) (i:Nat) (hi:i<4) (x:List UInt8) (hx:x.length<=maxLen) :
  X O 66 #[Y (some ⟨B,0,none⟩),V I i,ic ⟨x.toArray⟩] w fun e w'=>∃q u f Q',e= J (V I f)/\yv x q u/\bj w B P w' M Q'/\((u≠0/\f=u/\Q'=Q)\/(u=0/\f=wtE q (Q i)/\Q'=iH Q i (wtQ q (Q i)))):=by
 have hN:=ja1 (bZ i hi)
 have hP:=ja1 (ke x w hr hx)
 have r:=ja2 h hi
 have ah:(i:Int)<4:=by omega
 clear h hr hx
 go_enter Tryz.func66,Tryz.ntmps66
 go_wp2_with fail
 refine cM (hN.out _) ?_
 rintro e w1 ⟨rfl,rfl⟩
 go_wp2_with fail
 refine ja0 hP ?_
 rintro e w2 ⟨⟨A,cap,q,k,f,rfl,n,C,f3,f4⟩,f5⟩
 have j:H (Stps w2 A q/\q.length<=1024/\yv x q f/\U w1.heap.size w1 w2):=⟨C,f3,⟨k,f4⟩,f5⟩
 clear n C f3 f4 f5 hP
 by_cases F:f=0
 rotate_left
 ·have ad:(f != 0)=true:=by simpa using F
  have g:=ja2 (bj.same r.out.1 j.out.2.2.2) F
  clear F
  go_wp2
  go_ret
  exact ⟨q,f,f,Q,rfl,j.out.2.2.1,g.out.1,oL ⟨g.out.2,rfl,rfl⟩⟩
 subst F
 obtain ⟨E,L⟩:∃E,wtE q (Q i)=E:=⟨_,rfl⟩
 have hW:H (X O 96 #[Y (some ⟨B,i*38,none⟩),Z A q.length cap] w2 fun e w'=>e= J (V I E)/\bj w1 B P w' M (iH Q i (wtQ q (Q i)))):=by
  have hn:=r.out.1.below j.out.2.2.2
  have hd:=yo (hn.nd i r.out.2) q A cap (by have:=j.out.2.1;unfold maxLen;omega) j.out.1
  rw[L] at hd
  refine hd.mono ?_
  rintro e w' ⟨rfl,n,C⟩
  refine ⟨rfl,bj.ahead j.out.2.2.2 r.out.1.lt ?_⟩
  have hc:=hn.call r.out.2 n C (nR _)
  rw[ja,ja] at hc
  exact hc
 have R:=ja1 L
 clear L
 go_wp2_with fail
 refine ja0 hW ?_
 rintro e w3 ⟨rfl,n⟩
 have hG:H _:=n
 clear n hW
 go_wp2
 go_ret
 exact ⟨q,0,E,_,rfl,j.out.2.2.1,hG.out,oR ⟨rfl,R.out.symm,rfl⟩⟩

theorem sV {t:Tab} {c:Ctx} (h:aw t=0) (g:bE t c=0):aw (bU t c)=0:=by
 have E:woE t.c (ar (cD c) t.e)=0:=by
  unfold bE at g
  rw[h] at g
  by_cases j:aN c=0
  ·rw[j] at g;simpa using g
  ·rw[if_neg (by simp),if_pos j] at g;exact absurd g j
 have u:=dP h (cD c)
 obtain ⟨_,k,n⟩:=CD u.2 E
 have r:bU t c=⟨woC t.c (ar (cD c) t.e),gC c t.e⟩:=by unfold bU;rw[if_pos g]
 rw[r]
 refine kC k (nT (List.length_filter_le _ _) (aj h).2.1) (List.Pairwise.filter _ (eo h)) fun y F=> ?_
 have f:=List.mem_filter.1 F
 refine ⟨(n _).2 ⟨bV h f.1,fun C=> ?_⟩,eO h f.1⟩
 have:=(gz h f.1).1 C
 simp[this] at f
def cY (N:NetM) (h:Hap):Int :=
 if h.k=1 then (if isN h.a then ndE (N.s h.a.toNat) (N.t h.a.toNat) (h.a.toNat:Nat) h.e1 h.e2 h.e3 h.e4 h.e5 else 4)
 else if h.k=2 then (if isN h.a/\isN h.b then (if N.pk.length<200 then 0 else 2) else 4)
 else if h.k=3 then (if isN h.a/\isN h.b then (if N.pk.length<200 then qX (N.s h.a.toNat) (N.t h.a.toNat) (N.s h.b.toNat).c (N.t h.b.toNat).c else 2) else 4)
 else if h.k=4 then (if 0<=h.n then (match N.pk[h.n.toNat]? with|some p=>iS (N.s p.1) (N.t p.1) p.2.1 p.2.2|none=>4) else 4)
 else 1
def CG (x:List UInt8) (h:Hap) (Q:Nat->List (List Stp)) (er:Int) (Q':Nat->List (List Stp)):Prop :=
 (¬isN h.a/\er=4/\Q'=Q)\/(isN h.a/\∃q ep,yv x q ep/\((ep≠0/\er=ep/\Q'=Q)\/(ep=0/\er=wtE q (Q h.a.toNat)/\Q'=iH Q h.a.toNat (wtQ q (Q h.a.toNat)))))
def EO (x:List UInt8) (N:NetM) (h:Hap) (Q:Nat->List (List Stp)) (er:Int) (Q':Nat->List (List Stp)):Prop:=(h.k≠5/\er=cY N h/\Q'=Q)\/(h.k=5/\CG x h Q er Q')
section
variable {w:K} {B:Nat} {P:Nat->Prop} {M:NetM} {Q:Nat->List (List Stp)}
theorem zh (h:NetP w B P M Q) (y:Hap) (g:y.k=1):X O 63 #[Y (some ⟨B,0,none⟩),V I y.a,ih #[V I y.e1,V I y.e2,V I y.e3,V I y.e4,V I y.e5]] w fun e w'=>e= J (V I (cY M y))/\bj w B P w' (bW M y) Q:=by
 by_cases f:isN y.a
 ·obtain ⟨i,hi,r⟩:=kH f
  have j:cY M y=ndE (M.s i) (M.t i) i y.e1 y.e2 y.e3 y.e4 y.e5:=by unfold cY;rw[if_pos g,if_pos f,hi];rfl
  have n:bW M y=⟨upd M.s i (ndS (M.s i) i y.e1 y.e2 y.e3 y.e4 y.e5),upd M.t i (ndT (M.t i) i y.e1 y.e2 y.e3 y.e4 y.e5),M.pk⟩:=by unfold bW;rw[if_pos g,if_pos f,hi];rfl
  rw[j,n,hi]
  exact zi h i r _ _ _ _ _
 ·have j:cY M y=4:=by unfold cY;rw[if_pos g,if_neg f]
  have n:bW M y=M:=by unfold bW;rw[if_pos g,if_neg f]
  rw[j,n]
  exact Bq h _ _ _ _ _ _ f
theorem Cd (k a b:Int) (j:¬(isN a/\isN b)):X O 64 #[Y (some ⟨B,0,none⟩),V I k,V I a,V I b] w fun e w'=>e= J (V I 4)/\w'=w:=by
 by_cases f:isN a
 ·obtain ⟨i,rfl,h⟩:=kH f
  have g:=ja1 (bZ i h)
  have n:H (∀W,X O 83 #[V I b] W fun e w'=>e= J (.bool false)/\w'=W):=fu b fun k=>j ⟨f,k⟩
  clear j f
  go_enter Tryz.func64,Tryz.ntmps64
  go_wp2_with fail
  refine cM (g.out _) ?_
  rintro e w1 ⟨rfl,rfl⟩
  go_wp2_with fail
  refine cM (n.out _) ?_
  rintro e w0 ⟨rfl,rfl⟩
  go_wp2
  go_ret
  exact ⟨rfl,rfl⟩
 ·have g:=ja1 (fu a f)
  clear j f
  go_enter Tryz.func64,Tryz.ntmps64
  go_wp2_with fail
  refine cM (g.out _) ?_
  rintro e w1 ⟨rfl,rfl⟩
  go_wp2
  go_ret
  exact ⟨rfl,rfl⟩
theorem xV (h:NetP w B P M Q) (k:Int) (i j:Nat) (hi:i<4) (g:j<4) (C:¬M.pk.length<200):X O 64 #[Y (some ⟨B,0,none⟩),V I k,V I i,V I j] w fun e w'=>e= J (V I 2)/\w'=w:=by
 obtain ⟨L,A,c,f⟩:=h.pk
 have E:=f.cel
 have u:L.length=M.pk.length:=by rw[<-f.eq,List.length_map]
 have F:(200:Int)<=(L.length:Int):=by omega
 have n:=ja1 (bZ i hi)
 have r:=ja1 (bZ j g)
 clear h f u hi g C
 go_enter Tryz.func64,Tryz.ntmps64
 go_wp2_with fail
 refine cM (n.out _) ?_
 rintro e w1 ⟨rfl,rfl⟩
 go_wp2_with fail
 refine cM (r.out _) ?_
 rintro e w0 ⟨rfl,rfl⟩
 go_wp2
 go_ret
 exact ⟨rfl,rfl⟩
theorem sR (h:NetP w B P M Q) (y:Hap) (f:y.k=2\/y.k=3):X O 64 #[Y (some ⟨B,0,none⟩),V I y.k,V I y.a,V I y.b] w fun e w'=>e= J (V I (cY M y))/\bj w B P w' (bW M y) Q:=by
 have h1:¬y.k=1:=by omega
 have same:∀ {E:Int},cY M y=E->bW M y=M->X O 64 #[Y (some ⟨B,0,none⟩),V I y.k,V I y.a,V I y.b] w (fun e w'=>e= J (V I E)/\w'=w)->X O 64 #[Y (some ⟨B,0,none⟩),V I y.k,V I y.a,V I y.b] w fun e w'=>e= J (V I (cY M y))/\bj w B P w' (bW M y) Q:=by
  intro E e1 e2 hc
  rw[e1,e2]
  refine hc.mono ?_
  rintro e w' ⟨rfl,rfl⟩
  exact ⟨rfl,bj.same h (bR _ _)⟩
 by_cases r:isN y.a/\isN y.b
 rotate_left
 ·have g:¬(isN y.a/\isN y.b/\M.pk.length<200):=fun k=>r ⟨k.1,k.2.1⟩
  refine same (E:=4) ?_ ?_ (Cd _ _ _ r)
  ·unfold cY;rw[if_neg h1]
   rcases f with f|f
   ·rw[if_pos f,if_neg r]
   ·rw[if_neg (by omega),if_pos f,if_neg r]
  ·unfold bW;rw[if_neg h1]
   rcases f with f|f
   ·rw[if_pos f,if_neg g]
   ·rw[if_neg (by omega),if_pos f,if_neg g]
 obtain ⟨i,hi,u⟩:=kH r.1
 obtain ⟨j,hj,F⟩:=kH r.2
 by_cases L:M.pk.length<200
 rotate_left
 ·have g:¬(isN y.a/\isN y.b/\M.pk.length<200):=fun k=>L k.2.2
  refine same (E:=2) ?_ ?_ (by rw[hi,hj];exact xV h _ i j u F L)
  ·unfold cY;rw[if_neg h1]
   rcases f with f|f
   ·rw[if_pos f,if_pos r,if_neg L]
   ·rw[if_neg (by omega),if_pos f,if_pos r,if_neg L]
  ·unfold bW;rw[if_neg h1]
   rcases f with f|f
   ·rw[if_pos f,if_neg g]
   ·rw[if_neg (by omega),if_pos f,if_neg g]
 have g:isN y.a/\isN y.b/\M.pk.length<200:=⟨r.1,r.2,L⟩
 have ok:∀n,n<4->aw (M.s n)=0/\aw (M.t n)=0:=fun n hn=>⟨(h.nd n hn).ts.ok,(h.nd n hn).tt.ok⟩
 rcases f with f|f
 ·have e1:cY M y=0:=by unfold cY;rw[if_neg h1,if_pos f,if_pos r,if_pos L]
  have e2:bW M y=uG M 0 j (M.s i) (M.t i):=by unfold bW uG;rw[if_neg h1,if_pos f,if_pos g,if_pos rfl,hi,hj];rfl
  rw[e1,e2,f,hi,hj]
  exact sS h 2 i j u F L (fun _=>ok i u) (qR h i u j)
 ·have e1:cY M y=qX (M.s i) (M.t i) (M.s j).c (M.t j).c:=by unfold cY;rw[if_neg h1,if_neg (by omega),if_pos f,if_pos r,if_pos L,hi,hj];rfl
  have e2:bW M y=uG M (qX (M.s i) (M.t i) (M.s j).c (M.t j).c) j (snS (M.s i) (M.t i) (M.s j).c (M.t j).c) (snT (M.s i) (M.t i) (M.s j).c (M.t j).c):=by
   unfold bW
   rw[if_neg h1,if_neg (by omega),if_pos f,if_pos g,hi,hj]
   show vd M i j=_
   unfold vd uG
   by_cases R:qX (M.s i) (M.t i) (M.s j).c (M.t j).c=0
   ·rw[if_pos R,if_pos R]
    unfold snS snT
    rw[if_pos (show im (M.s i) (M.t i) (M.s j).c (M.t j).c=0 from R),if_pos (show im (M.s i) (M.t i) (M.s j).c (M.t j).c=0 from R)]
   ·rw[if_neg R,if_neg R]
  rw[e1,e2,f,hi,hj]
  refine sS h 3 i j u F L (fun R=> ?_) (sJ h i j u F)
  have C:im (M.s i) (M.t i) (M.s j).c (M.t j).c=0:=R
  unfold snS snT
  rw[if_pos C,if_pos C]
  unfold im at C
  by_cases hs:bE (M.s i) (M.s j).c=0
  ·rw[if_pos hs] at C
   exact ⟨sV (ok i u).1 hs,sV (ok i u).2 C⟩
  ·rw[if_neg hs] at C
   exact absurd C hs
theorem AP (h:NetP w B P M Q) (y:Hap) (j:y.k=4):X O 65 #[Y (some ⟨B,0,none⟩),V I y.n] w fun e w'=>e= J (V I (cY M y))/\bj w B P w' (bW M y) Q:=by
 have u:¬y.k=1:=by omega
 have C:¬y.k=2:=by omega
 have E:¬y.k=3:=by omega
 have R:cY M y=4->bW M y=M->(y.n<0\/(M.pk.length:Int)<=y.n)->X O 65 #[Y (some ⟨B,0,none⟩),V I y.n] w fun e w'=>e= J (V I (cY M y))/\bj w B P w' (bW M y) Q:=fun F L f=>by
  rw[F,L]
  refine (AO h y.n f).mono ?_
  rintro e w' ⟨rfl,rfl⟩
  exact ⟨rfl,bj.same h (bR _ _)⟩
 by_cases g:0<=y.n
 rotate_left
 ·refine R ?_ ?_ (oL (by omega))
  ·unfold cY;rw[if_neg u,if_neg C,if_neg E,if_pos j,if_neg g]
  ·unfold bW;rw[if_neg u,if_neg C,if_neg E,if_pos j,if_neg g]
 obtain ⟨n,f⟩:∃n:Nat,y.n=n:=⟨y.n.toNat,by omega⟩
 cases r:M.pk[n]? with
 | none =>
  refine R ?_ ?_ (oR (by rw[f];have:=List.getElem?_eq_none_iff.1 r;omega))
  ·unfold cY;rw[if_neg u,if_neg C,if_neg E,if_pos j,if_pos g,f,Int.toNat_natCast,r]
  ·unfold bW;rw[if_neg u,if_neg C,if_neg E,if_pos j,if_pos g,f,Int.toNat_natCast,r]
 | some p =>
  have F:cY M y=iS (M.s p.1) (M.t p.1) p.2.1 p.2.2:=by unfold cY;rw[if_neg u,if_neg C,if_neg E,if_pos j,if_pos g,f,Int.toNat_natCast,r]
  have L:bW M y=iB M p.1 p.2.1 p.2.2:=by unfold bW;rw[if_neg u,if_neg C,if_neg E,if_pos j,if_pos g,f,Int.toNat_natCast,r]
  rw[F,L,f]
  exact ye h n r
theorem yp (h:NetP w B P M Q) (E:Reads w) (x:List UInt8) (F:x.length<=maxLen) (y:Hap):X O 66 #[Y (some ⟨B,0,none⟩),V I y.a,ic ⟨x.toArray⟩] w fun e w'=>∃f Q',e= J (V I f)/\CG x y Q f Q'/\bj w B P w' M Q':=by
 by_cases g:isN y.a
 ·obtain ⟨i,hi,j⟩:=kH g
  have k:=uO h E i j x F
  rw[<-hi] at k
  refine k.mono ?_
  rintro e w' ⟨q,n,f,Q',rfl,r,u,C⟩
  refine ⟨f,Q',rfl,oR ⟨g,q,n,r,?_⟩,u⟩
  rw[hi]
  exact C
 ·refine (yn (B:=B) y.a g x).mono ?_
  rintro e w' ⟨rfl,rfl⟩
  exact ⟨4,Q,rfl,oL ⟨g,rfl,rfl⟩,bj.same h (bR _ _)⟩
end
theorem ve {w:K} {B:Nat} {P:Nat->Prop} {M:NetM} {Q:Nat->List (List Stp)} (h:NetP w B P M Q) (hr:Reads w) (x:List UInt8) (hx:x.length<=maxLen) (y:Hap) :
  X O 43 #[Y (some ⟨B,0,none⟩),ih #[V I y.k,V I y.a,V I y.b,V I y.n,V I y.e1,V I y.e2,V I y.e3,V I y.e4,V I y.e5,ic ⟨x.toArray⟩]] w fun e w'=>∃er Q',e= J (V I er)/\EO x M y Q er Q'/\bj w B P w' (bW M y) Q':=by
 obtain ⟨w1,f⟩:∃W,w.alloc (ia #[V I y.k,V I y.a,V I y.b,V I y.n,V I y.e1,V I y.e2,V I y.e3,V I y.e4,V I y.e5,ic ⟨x.toArray⟩] 97)=W:=⟨_,rfl⟩
 have R:Gr w w1:=by rw[<-f];exact (gR w).alloc _
 have ap:Cls w1 w.heap.size [V I y.k,V I y.a,V I y.b,V I y.n,V I y.e1,V I y.e2,V I y.e3,V I y.e4,V I y.e5,ic ⟨x.toArray⟩]:=by rw[<-f];exact Cls.new w _ _
 obtain ⟨b0,b1,b2,b3,b4,b5,b6,b7,b8,b9⟩:=gj ap
 have F:=h.below R.below
 have an:=hr.below R.below
 have L:=ja3 (bj.same h R.below) R.below h.lt
 have m5:¬y.k=1->¬y.k=2->¬y.k=3->¬y.k=4->bW M y=M:=fun a b c d=>by unfold bW;rw[if_neg a,if_neg b,if_neg c,if_neg d]
 clear ap R h hr
 by_cases k1:y.k=1
 ·have u:H _:=zh F y k1
  have ah:(y.k==1)=true:=by simp;omega
  have C:H (y.k≠5):=by show _≠_;omega
  clear k1 F m5
  go_enter Tryz.func43,Tryz.ntmps43
  go_wp2_with fail
  try rw[f]
  refine ja0 u ?_
  rintro e w2 ⟨rfl,r⟩
  have hF:=ja1 (r.ahead L.out.2.1 L.out.2.2)
  clear r u
  obtain ⟨E,g⟩:∃E,cY M y=E:=⟨_,rfl⟩
  have j:=ja1 g
  rw[g]
  clear g
  go_wp2
  go_ret
  exact ⟨E,Q,rfl,oL ⟨C.out,j.out.symm,rfl⟩,hF.out⟩
 by_cases k2:y.k=2
 ·have u:H _:=sR F y (oL k2)
  have ah:(y.k==1)=false:=by simp;omega
  have ao:(y.k==2)=true:=by simp;omega
  have C:H (y.k≠5):=by show _≠_;omega
  clear k1 k2 F m5
  go_enter Tryz.func43,Tryz.ntmps43
  go_wp2_with fail
  try rw[f]
  refine ja0 u ?_
  rintro e w2 ⟨rfl,r⟩
  have hF:=ja1 (r.ahead L.out.2.1 L.out.2.2)
  clear r u
  obtain ⟨E,g⟩:∃E,cY M y=E:=⟨_,rfl⟩
  have j:=ja1 g
  rw[g]
  clear g
  go_wp2
  go_ret
  exact ⟨E,Q,rfl,oL ⟨C.out,j.out.symm,rfl⟩,hF.out⟩
 by_cases k3:y.k=3
 ·have u:H _:=sR F y (oR k3)
  have ah:(y.k==1)=false:=by simp;omega
  have ao:(y.k==2)=false:=by simp;omega
  have a0:(y.k==3)=true:=by simp;omega
  have C:H (y.k≠5):=by show _≠_;omega
  clear k1 k2 k3 F m5
  go_enter Tryz.func43,Tryz.ntmps43
  go_wp2_with fail
  try rw[f]
  refine ja0 u ?_
  rintro e w2 ⟨rfl,r⟩
  have hF:=ja1 (r.ahead L.out.2.1 L.out.2.2)
  clear r u
  obtain ⟨E,g⟩:∃E,cY M y=E:=⟨_,rfl⟩
  have j:=ja1 g
  rw[g]
  clear g
  go_wp2
  go_ret
  exact ⟨E,Q,rfl,oL ⟨C.out,j.out.symm,rfl⟩,hF.out⟩
 by_cases k4:y.k=4
 ·have u:H _:=AP F y k4
  have ah:(y.k==1)=false:=by simp;omega
  have ao:(y.k==2)=false:=by simp;omega
  have a0:(y.k==3)=false:=by simp;omega
  have a1:(y.k==4)=true:=by simp;omega
  have C:H (y.k≠5):=by show _≠_;omega
  clear k1 k2 k3 k4 F m5
  go_enter Tryz.func43,Tryz.ntmps43
  go_wp2_with fail
  try rw[f]
  refine ja0 u ?_
  rintro e w2 ⟨rfl,r⟩
  have hF:=ja1 (r.ahead L.out.2.1 L.out.2.2)
  clear r u
  obtain ⟨E,g⟩:∃E,cY M y=E:=⟨_,rfl⟩
  have j:=ja1 g
  rw[g]
  clear g
  go_wp2
  go_ret
  exact ⟨E,Q,rfl,oL ⟨C.out,j.out.symm,rfl⟩,hF.out⟩
 have hM:=ja1 (m5 k1 k2 k3 k4)
 have ah:(y.k==1)=false:=by simp;omega
 have ao:(y.k==2)=false:=by simp;omega
 have a0:(y.k==3)=false:=by simp;omega
 have a1:(y.k==4)=false:=by simp;omega
 by_cases C:y.k=5
 ·have u:H _:=yp F an x hx y
  have a2:(y.k==5)=true:=by simp;omega
  have ad:=ja1 C
  clear k1 k2 k3 k4 C F m5 an
  go_enter Tryz.func43,Tryz.ntmps43
  go_wp2_with fail
  try rw[f]
  refine ja0 u ?_
  rintro e w2 ⟨E,Q',rfl,r,f2⟩
  have hF:=ja2 r (f2.ahead L.out.2.1 L.out.2.2)
  clear r f2 u
  go_wp2
  go_ret
  refine ⟨E,Q',rfl,oR ⟨ad.out,hF.out.1⟩,?_⟩
  rw[hM.out]
  exact hF.out.2
 ·have a2:(y.k==5)=false:=by simp;omega
  have ad:H (y.k≠5/\cY M y=1):=⟨C,by unfold cY;rw[if_neg k1,if_neg k2,if_neg k3,if_neg k4]⟩
  clear k1 k2 k3 k4 C F m5 an
  go_enter Tryz.func43,Tryz.ntmps43
  go_wp2
  try rw[f]
  go_ret
  refine ⟨1,Q,rfl,oL ⟨ad.out.1,ad.out.2.symm,rfl⟩,?_⟩
  rw[hM.out]
  exact L.out.1

theorem DT (a b c d e f g h i j k l:Value) (w:K):(Instr.field 144 (ih #[a,b,c,d,e,f,g,h,i,j,k,l]) 0).run O w= .ok (ih #[a,b,c,d,e,f,g,h,i,j,k,l]) w:=by kernel_rfl
def TbV (n:Nat) (w:K) (v:Value) (t:Tab):Prop:=∃(A:Option ib) (ca:Nat) (C:Option ib) (cc:Nat),v= ih (T6 t A ca C cc).toArray/\TbW n w t A ca C cc
theorem Ck {w:K} {B:Nat} {P:Nat->Prop} {M:NetM} {Q:Nat->List (List Stp)} (h:NetP w B P M Q) (i:Nat) (hi:i<4) :
  X O 58 #[Y (some ⟨B,0,none⟩),V I i,V I 0] w fun e w'=>∃v,e= J (ik #[v,V I 0])/\TbV w.heap.size w' v (M.s i)/\U w.heap.size w w':=by
 obtain ⟨w1,u⟩:∃W,w.alloc (ia #[V I 0,V I 0,V I 0,V I 0,Z none 0 0,Z none 0 0] 56)=W:=⟨_,rfl⟩
 have L:Gr w w1:=by rw[<-u];exact (gR w).alloc _
 have ah:H (Cls w1 w.heap.size Z6):=by show Cls _ _ _;rw[<-u];exact Cls.new w _ _
 have a0:(i:Int)<4:=by omega
 have hN:=ja1 (bZ i hi)
 obtain ⟨S,hS⟩:∃S,M.s i=S:=⟨_,rfl⟩
 obtain ⟨a1,hT⟩:∃a1,M.t i=a1:=⟨_,rfl⟩
 have an:H (X O 84 #[Y (some ⟨B,i*38,none⟩)] w1 fun e w'=>∃(n:Option ib) (f:Nat) (r:Option ib) (g:Nat) (E:Option ib) (j:Nat) (F:Option ib) (k:Nat),e= J (ih (T2 S n f r g a1 E j F k).toArray)/\TbW w1.heap.size w' S n f r g/\TbW w1.heap.size w' a1 E j F k/\U w1.heap.size w1 w'):=by
  have hw:=jy ((h.below L.below).nd i hi)
  rw[hS,hT] at hw
  refine hw.mono ?_
  rintro e w' ⟨n,f,r,g,E,j,F,k,rfl,R,f2,f3⟩
  exact ⟨n,f,r,g,E,j,F,k,rfl,fW R.1 R.2,fW f2.1 f2.2,f3⟩
 rw[hS]
 have ao:=ja1 L
 clear h hi L hS hT
 go_enter Tryz.func58,Tryz.ntmps58
 go_wp2_with fail
 try rw[u]
 refine cM (hN.out _) ?_
 rintro e w0 ⟨rfl,h0⟩
 have h0:=h0.symm
 subst h0
 go_wp2_with fail
 try rw[u]
 clear u
 refine ja0 an ?_
 rintro e w2 ⟨n,f,r,g,E,j,F,k,rfl,R,f2,f3⟩
 have hF:=ja4 R f2 f3 (ah.out.below f3)
 clear R f2 f3 an
 have hx:=s7 (V I S.c.c0) (V I S.c.c1) (V I S.c.c2) (V I S.c.c3) (Z n S.c.l.length f) (Z r S.e.length g) (V I a1.c.c0) (V I a1.c.c1) (V I a1.c.c2) (V I a1.c.c3) (Z E a1.c.l.length j) (Z F a1.e.length k)
 have hy:=DT (V I S.c.c0) (V I S.c.c1) (V I S.c.c2) (V I S.c.c3) (Z n S.c.l.length f) (Z r S.e.length g) (V I a1.c.c0) (V I a1.c.c1) (V I a1.c.c2) (V I a1.c.c3) (Z E a1.c.l.length j) (Z F a1.e.length k)
 obtain ⟨p0,p1,p2,p3,p4,p5⟩:=iJ hF.out.2.2.2
 obtain ⟨z0,z1,z2,z3,z4,z5⟩:=rO hF.out.2.2.2
 go_wp2
 have ap:w.heap.size<w1.heap.size:=ah.out.lt
 have hb:U w.heap.size w w2:=ao.out.below.trans (hF.out.2.2.1.mono ao.out.size)
 have ad:Agr (fun b=>w1.heap.size<=b) w2 ((((((w2.setCell ⟨w.heap.size,0,none⟩ (V I S.c.c0)).setCell ⟨w.heap.size,1,none⟩ (V I S.c.c1)).setCell ⟨w.heap.size,2,none⟩ (V I S.c.c2)).setCell ⟨w.heap.size,3,none⟩ (V I S.c.c3)).setCell ⟨w.heap.size,4,none⟩ (Z n S.c.l.length f)).setCell ⟨w.heap.size,5,none⟩ (Z r S.e.length g)):=((((((aS _ fun h=>by omega).trans (aS _ fun h=>by omega)).trans (aS _ fun h=>by omega)).trans (aS _ fun h=>by omega)).trans (aS _ fun h=>by omega)).trans (aS _ fun h=>by omega))
 have C:H (TbW w.heap.size ((((((w2.setCell ⟨w.heap.size,0,none⟩ (V I S.c.c0)).setCell ⟨w.heap.size,1,none⟩ (V I S.c.c1)).setCell ⟨w.heap.size,2,none⟩ (V I S.c.c2)).setCell ⟨w.heap.size,3,none⟩ (V I S.c.c3)).setCell ⟨w.heap.size,4,none⟩ (Z n S.c.l.length f)).setCell ⟨w.heap.size,5,none⟩ (Z r S.e.length g)) S n f r g/\U w.heap.size w ((((((w2.setCell ⟨w.heap.size,0,none⟩ (V I S.c.c0)).setCell ⟨w.heap.size,1,none⟩ (V I S.c.c1)).setCell ⟨w.heap.size,2,none⟩ (V I S.c.c2)).setCell ⟨w.heap.size,3,none⟩ (V I S.c.c3)).setCell ⟨w.heap.size,4,none⟩ (Z n S.c.l.length f)).setCell ⟨w.heap.size,5,none⟩ (Z r S.e.length g))):=⟨(hF.out.1.agr ad).mono (by omega),((((((hb.setCell (nR _) _).setCell (nR _) _).setCell (nR _) _).setCell (nR _) _).setCell (nR _) _).setCell (nR _) _)⟩
 clear ap hb ad
 exact bodyPost_ret (v:= ik #[ih (T6 S n f r g).toArray,V I 0]) (by simp[results,Tryz.results58,go_sem,p0,p1,p2,p3,p4,p5]) rfl ⟨_,rfl,⟨n,f,r,g,rfl,C.out.1⟩,C.out.2⟩
theorem Cl {w:K} {B:Nat} {P:Nat->Prop} {M:NetM} {Q:Nat->List (List Stp)} (h:NetP w B P M Q) (i:Nat) (hi:i<4) :
  X O 58 #[Y (some ⟨B,0,none⟩),V I i,V I 1] w fun e w'=>∃v,e= J (ik #[v,V I 0])/\TbV w.heap.size w' v (M.t i)/\U w.heap.size w w':=by
 obtain ⟨w1,u⟩:∃W,w.alloc (ia #[V I 0,V I 0,V I 0,V I 0,Z none 0 0,Z none 0 0] 56)=W:=⟨_,rfl⟩
 have L:Gr w w1:=by rw[<-u];exact (gR w).alloc _
 have ah:H (Cls w1 w.heap.size Z6):=by show Cls _ _ _;rw[<-u];exact Cls.new w _ _
 have a0:(i:Int)<4:=by omega
 have hN:=ja1 (bZ i hi)
 obtain ⟨S,hS⟩:∃S,M.s i=S:=⟨_,rfl⟩
 obtain ⟨a1,hT⟩:∃a1,M.t i=a1:=⟨_,rfl⟩
 have an:H (X O 84 #[Y (some ⟨B,i*38,none⟩)] w1 fun e w'=>∃(E:Option ib) (j:Nat) (F:Option ib) (k:Nat) (n:Option ib) (f:Nat) (r:Option ib) (g:Nat),e= J (ih (T2 S E j F k a1 n f r g).toArray)/\TbW w1.heap.size w' S E j F k/\TbW w1.heap.size w' a1 n f r g/\U w1.heap.size w1 w'):=by
  have hw:=jy ((h.below L.below).nd i hi)
  rw[hS,hT] at hw
  refine hw.mono ?_
  rintro e w' ⟨E,j,F,k,n,f,r,g,rfl,R,f2,f3⟩
  exact ⟨E,j,F,k,n,f,r,g,rfl,fW R.1 R.2,fW f2.1 f2.2,f3⟩
 rw[hT]
 have ao:=ja1 L
 clear h hi L hS hT
 go_enter Tryz.func58,Tryz.ntmps58
 go_wp2_with fail
 try rw[u]
 refine cM (hN.out _) ?_
 rintro e w0 ⟨rfl,h0⟩
 have h0:=h0.symm
 subst h0
 go_wp2_with fail
 try rw[u]
 clear u
 refine ja0 an ?_
 rintro e w2 ⟨E,j,F,k,n,f,r,g,rfl,R,f2,f3⟩
 have hF:=ja4 R f2 f3 (ah.out.below f3)
 clear R f2 f3 an
 have hx:=s8 (V I S.c.c0) (V I S.c.c1) (V I S.c.c2) (V I S.c.c3) (Z E S.c.l.length j) (Z F S.e.length k) (V I a1.c.c0) (V I a1.c.c1) (V I a1.c.c2) (V I a1.c.c3) (Z n a1.c.l.length f) (Z r a1.e.length g)
 have hy:=DT (V I S.c.c0) (V I S.c.c1) (V I S.c.c2) (V I S.c.c3) (Z E S.c.l.length j) (Z F S.e.length k) (V I a1.c.c0) (V I a1.c.c1) (V I a1.c.c2) (V I a1.c.c3) (Z n a1.c.l.length f) (Z r a1.e.length g)
 obtain ⟨p0,p1,p2,p3,p4,p5⟩:=iJ hF.out.2.2.2
 obtain ⟨z0,z1,z2,z3,z4,z5⟩:=rO hF.out.2.2.2
 go_wp2
 have ap:w.heap.size<w1.heap.size:=ah.out.lt
 have hb:U w.heap.size w w2:=ao.out.below.trans (hF.out.2.2.1.mono ao.out.size)
 have ad:Agr (fun b=>w1.heap.size<=b) w2 ((((((w2.setCell ⟨w.heap.size,0,none⟩ (V I a1.c.c0)).setCell ⟨w.heap.size,1,none⟩ (V I a1.c.c1)).setCell ⟨w.heap.size,2,none⟩ (V I a1.c.c2)).setCell ⟨w.heap.size,3,none⟩ (V I a1.c.c3)).setCell ⟨w.heap.size,4,none⟩ (Z n a1.c.l.length f)).setCell ⟨w.heap.size,5,none⟩ (Z r a1.e.length g)):=((((((aS _ fun h=>by omega).trans (aS _ fun h=>by omega)).trans (aS _ fun h=>by omega)).trans (aS _ fun h=>by omega)).trans (aS _ fun h=>by omega)).trans (aS _ fun h=>by omega))
 have C:H (TbW w.heap.size ((((((w2.setCell ⟨w.heap.size,0,none⟩ (V I a1.c.c0)).setCell ⟨w.heap.size,1,none⟩ (V I a1.c.c1)).setCell ⟨w.heap.size,2,none⟩ (V I a1.c.c2)).setCell ⟨w.heap.size,3,none⟩ (V I a1.c.c3)).setCell ⟨w.heap.size,4,none⟩ (Z n a1.c.l.length f)).setCell ⟨w.heap.size,5,none⟩ (Z r a1.e.length g)) a1 n f r g/\U w.heap.size w ((((((w2.setCell ⟨w.heap.size,0,none⟩ (V I a1.c.c0)).setCell ⟨w.heap.size,1,none⟩ (V I a1.c.c1)).setCell ⟨w.heap.size,2,none⟩ (V I a1.c.c2)).setCell ⟨w.heap.size,3,none⟩ (V I a1.c.c3)).setCell ⟨w.heap.size,4,none⟩ (Z n a1.c.l.length f)).setCell ⟨w.heap.size,5,none⟩ (Z r a1.e.length g))):=⟨(hF.out.2.1.agr ad).mono (by omega),((((((hb.setCell (nR _) _).setCell (nR _) _).setCell (nR _) _).setCell (nR _) _).setCell (nR _) _).setCell (nR _) _)⟩
 clear ap hb ad
 exact bodyPost_ret (v:= ik #[ih (T6 a1 n f r g).toArray,V I 0]) (by simp[results,Tryz.results58,go_sem,p0,p1,p2,p3,p4,p5]) rfl ⟨_,rfl,⟨n,f,r,g,rfl,C.out.1⟩,C.out.2⟩

theorem TbN.len {w:K} {N o:Nat} {P:Nat->Prop} {t:Tab} (h:TbN w N o P t):t.c.l.length<=maxLen/\t.e.length<=maxLen:=by
 obtain ⟨A,ca,D,g,_,f⟩:=h
 exact f.len
def oV (a b:Nat):List (Nat×Nat):=(List.range b).filterMap fun j=>if j=a then none else some (a,j)
def tv (a:Nat):List (Nat×Nat):=(List.range a).flatMap fun i=>oV i 4
theorem qb (a b:Nat):oV a (b+1)=if b=a then oV a b else oV a b++[(a,b)]:=by
 unfold oV
 rw[List.range_succ,List.filterMap_append]
 by_cases h:b=a
 ·simp[h]
 ·simp[h]
theorem vZ (a:Nat):tv (a+1)=tv a++oV a 4:=by
 unfold tv
 rw[List.range_succ,List.flatMap_append]
 simp
theorem mg {w:K} {B:Nat} {P:Nat->Prop} {M:NetM} {Q:Nat->List (List Stp)} {c:Nat} (h:NetP w B P M Q) (hI:NInv c M) :
  X O 62 #[Y (some ⟨B,0,none⟩)] w fun e w'=>e= J (V I 0)/\bj w B P w' (cR.foldl cS M) Q:=by
 have a3:Tryz.prog.follows .mixedOrders=true:=by kernel_rfl
 have hH:H (bj w B P w M Q/\NInv c M):=⟨bj.same h (bR _ _),hI⟩
 clear h hI
 go_enter Tryz.func62,Tryz.ntmps62
 go_wp2
 go_loopw [6] (fun v6 wr=>∃a:Nat,a<=4/\v6= V I a/\H (bj w B P wr ((tv a).foldl cS M) Q)) (fun v6 _=>4-(intOf v6).toNat)
 case atStart=>exact ⟨0,by omega,rfl,hH.out.1⟩
 case round =>
  obtain ⟨a,ha,rfl,hS⟩:=hrel
  by_cases ad:a<4
  rotate_left
  ·have hz:¬(a:Int)<4:=by omega
   obtain rfl:a=4:=by omega
   go_wp2
   go_ret
   exact ⟨rfl,hS.out⟩
  have a5:(a:Int)<4:=by omega
  go_wp2
  go_loopw [9] (fun v9 wx=>∃b:Nat,b<=4/\v9= V I b/\H (bj w B P wx ((tv a++oV a b).foldl cS M) Q)) (fun v9 _=>4-(intOf v9).toNat)
  case atStart=>exact ⟨0,by omega,rfl,by show bj _ _ _ _ _ _;rw[show oV a 0=[] from rfl,List.append_nil];exact hS.out⟩
  case round =>
   obtain ⟨b,hb,rfl,hT⟩:=hrel
   by_cases ap:b<4
   rotate_left
   ·have hz:¬(b:Int)<4:=by omega
    obtain rfl:b=4:=by omega
    go_wp2
    go_roundw
    case rel=>exact ⟨a+1,by omega,by go_num,by show bj _ _ _ _ _ _;rw[vZ];exact hT.out⟩
    case measure=>simp[intOf];omega
   have a6:(b:Int)<4:=by omega
   by_cases an:b=a
   ·subst an
    have ao:((b:Int)==(b:Int))=true:=by simp
    go_wp2
    go_roundw
    case rel=>exact ⟨b+1,by omega,by go_num,by show bj _ _ _ _ _ _;rw[qb,if_pos rfl];exact hT.out⟩
    case measure=>simp[intOf];omega
   have ao:((a:Int)==(b:Int))=false:=by simp;omega
   obtain ⟨N,hN⟩:∃N,(tv a++oV a b).foldl cS M=N:=⟨_,rfl⟩
   rw[hN] at hT
   have ah:NInv c N:=by rw[<-hN];exact (NInv.tells _ hH.out.2).1
   have a0:H ((tv a++oV a (b+1)).foldl cS M=cS N (a,b)):=by
    show _=_
    rw[qb,if_neg an,<-List.append_assoc,List.foldl_append,hN]
    rfl
   obtain ⟨S,r⟩:∃S,N.s a=S:=⟨_,rfl⟩
   obtain ⟨a7,u⟩:∃a7,N.t a=a7:=⟨_,rfl⟩
   have a2:H (∀W,Gr wr W->X O 84 #[Y (some ⟨B,a*38,none⟩)] W fun e w'=>∃(C:Option ib) (f:Nat) (F:Option ib) (j:Nat) (E:Option ib) (g:Nat) (L:Option ib) (k:Nat),e= J (ih (T2 S C f F j a7 E g L k).toArray)/\TbW W.heap.size w' S C f F j/\TbW W.heap.size w' a7 E g L k/\U W.heap.size W w'):=fun W hW=>by
    obtain ⟨⟨P',h1,_⟩,_⟩:=hT.out
    have hw:=jy ((h1.below hW.below).nd a ad)
    rw[r,u] at hw
    refine hw.mono ?_
    rintro e w' ⟨C,f,F,j,E,g,L,k,rfl,R,f2,f3⟩
    exact ⟨C,f,F,j,E,g,L,k,rfl,fW R.1 R.2,fW f2.1 f2.2,f3⟩
   have a1:H (∀W n C f F j E g L k,U wr.heap.size wr W->TbW n W S C f F j->TbW n W a7 E g L k->X O 92 #[Y (some ⟨B,b*38,none⟩),ih (T2 S C f F j a7 E g L k).toArray] W fun e w'=>e= J (V I 0)/\bj w B P w' (cS N (a,b)) Q):=fun W n C f F j E g L k hW r1 r2=>by
    obtain ⟨_,h0,_⟩:=ah.tell (a,b)
    obtain ⟨⟨P',h1,h2⟩,h3⟩:=hT.out
    have hn:=h1.below hW
    have l1:=(h1.nd a ad).ts.len
    have l2:=(h1.nd a ad).tt.len
    rw[r] at l1
    rw[u] at l2
    have ht:=sZ (hn.nd b ap) S a7 C E F L f g j k r1.row r1.cel r2.row r2.cel l1.1 l1.2 l2.1 l2.2 r1.nr r2.nr
    rw[<-r,<-u,show tkE (N.s b) (N.t b) (N.s a) (N.t a)=0 from h0,r,u] at ht
    refine ht.mono ?_
    rintro e w' ⟨rfl,R,f2⟩
    have hc:=hn.call ap R f2 (by omega)
    rw[lN] at hc
    obtain ⟨⟨P2,k1,k2⟩,k3⟩:=hc
    rw[<-r,<-u] at k1
    exact ⟨rfl,⟨P2,k1,fun b hb=>(k2 b hb).elim (h2 b) fun h=>oR (nT h3.size (nT hW.size h))⟩,(h3.trans (Wr.of hW h1.lt)).trans k3⟩
   have a4:=ja1 hT.out
   clear hT ah hN r u hS
   go_wp2
   go_region_with (first|(go_at_call 84;(with_reducible refine cM (a2.out _ (gR wr).drew) ?_);rintro e w2 ⟨C,f,F,j,E,g,L,k,rfl,R,f2,f3⟩;have hF:H (TbW wr.drew.heap.size w2 S C f F j/\TbW wr.drew.heap.size w2 a7 E g L k/\U wr.heap.size wr w2):=⟨R,f2,(gR wr).drew.below.trans f3⟩;clear R f2 f3)|(go_at_call 92;(with_reducible refine cM (a1.out _ _ _ _ _ _ _ _ _ _ hF.out.2.2 hF.out.1 hF.out.2.1) ?_);rintro e w3 ⟨rfl,R⟩;have hG:H (bj w B P w3 (cS N (a,b)) Q):=R;clear R))
   all_goals
    go_wp2
    go_roundw
    case rel=>exact ⟨b+1,by omega,by go_num,by show bj _ _ _ _ _ _;rw[a0.out];exact hG.out⟩
    case measure=>simp[intOf];omega
theorem zV {w:K} {B:Nat} {P:Nat->Prop} {M:NetM} {Q:Nat->List (List Stp)} {c:Nat} (h:NetP w B P M Q) (k:NInv c M) :
  X O 42 #[Y (some ⟨B,0,none⟩)] w fun e w'=>e= J (V I 0)/\bj w B P w' (iy M) Q:=by
 have g:=ja1 (mg h k)
 have j:H (∀W,bj w B P W (cR.foldl cS M) Q->X O 62 #[Y (some ⟨B,0,none⟩)] W fun e w'=>e= J (V I 0)/\bj w B P w' (iy M) Q):=fun W L=>by
  obtain ⟨⟨P',u,C⟩,n⟩:=L
  refine (mg u (NInv.tells cR k).1).mono ?_
  rintro e w' ⟨rfl,f⟩
  refine ⟨rfl,?_⟩
  have he:iy M=cR.foldl cS (cR.foldl cS M):=by unfold iy;rw[List.foldl_append]
  rw[he]
  obtain ⟨⟨r,k1,k2⟩,k3⟩:=f
  exact ⟨⟨r,k1,fun b R=>(k2 b R).elim (C b) fun h=>oR (nT n.size h)⟩,n.trans k3⟩
 clear h k
 go_enter Tryz.func42,Tryz.ntmps42
 go_wp2
 refine wp_loop_rounds 3 ?_
 rw[rounds_succ]
 go_wp2_with fail
 refine ja0 g ?_
 rintro e w1 ⟨rfl,f⟩
 have E:H _:=f
 clear f g
 go_wp2
 rw[rounds_succ]
 go_wp2_with fail
 refine cM (j.out w1 E.out) ?_
 rintro e w2 ⟨rfl,f⟩
 have F:H _:=f
 clear f j
 go_wp2
 rw[rounds_succ]
 go_wp2
 go_ret
 exact ⟨rfl,F.out⟩

section
variable {w wr w':K} {B:Nat} {M M':NetM} {Q Q':Nat->List (List Stp)}
theorem Wr.after {lo hi:Nat} (h:U w.heap.size w wr) (k:Wr B lo hi wr w') (j:w.heap.size<=B):U w.heap.size w w':=⟨k.os.trans h.os,k.tape.trans h.tape,k.output.trans h.output,nT h.size k.size,fun g f=>(k.oth g (nL f h.size) (by omega)).trans (h.block g f)⟩
end
end Go.Proofs.YtjmmpnmgpgaagaaGreatDoor

namespace Go.Proofs.YtjmmpnmgpgaagaaGreatDoor

def fp (n:Int):Nat:=(if n<0 then -n-1 else n-1).toNat
def mr (n:Int):Int:=if n<0 then -1 else 1
theorem fF (n:Int):mr n= -1/\n<0\/mr n=1/\0<=n:=by
 unfold mr
 by_cases h:n<0
 ·rw[if_pos h];exact oL ⟨rfl,h⟩
 ·rw[if_neg h];exact oR ⟨rfl,by omega⟩
def dW:List Int->List Int->List Int->Int
 | [],a,b=>aC a b
 | n::t,a,b=>if aQ (a.getD (fp n) 0) (b.getD (fp n) 0)=0 then dW t a b else mr n*aQ (a.getD (fp n) 0) (b.getD (fp n) 0)
theorem ww (x y:Int):aQ y x= -aQ x y:=by
 rcases bI x y with ⟨e,h⟩|⟨e,h⟩|⟨e,h⟩<;>rcases bI y x with ⟨f,k⟩|⟨f,k⟩|⟨f,k⟩<;>omega
theorem e9:∀(f a b:List Int),dW f b a= -dW f a b
 | [],a,b=>dD a b
 | n::t,a,b=>by
  unfold dW
  rw[ww (a.getD (fp n) 0)]
  by_cases h:aQ (a.getD (fp n) 0) (b.getD (fp n) 0)=0
  ·rw[if_pos (by omega),if_pos h];exact e9 t a b
  ·rw[if_neg (by omega),if_neg h,Int.mul_neg]
theorem pv (f a:List Int):dW f a a=0:=by have:=e9 f a a;omega
theorem uZ:∀(f a b:List Int),dW f a b=0->a=b
 | [],a,b,h=>ji a b h
 | n::t,a,b,h=>by
  unfold dW at h
  by_cases k:aQ (a.getD (fp n) 0) (b.getD (fp n) 0)=0
  ·rw[if_pos k] at h;exact uZ t a b h
  ·rw[if_neg k] at h
   rcases fF n with ⟨e,_⟩|⟨e,_⟩<;>rw[e] at h<;>omega
theorem gO:∀(g a b c:List Int),dW g a b<=0->dW g b c<=0->dW g a c<=0/\(dW g a b<0\/dW g b c<0->dW g a c<0)
 | [],a,b,c,h,k=>fA a b c h k
 | n::t,a,b,c,h,k=>by
  unfold dW at h k ⊢
  generalize a.getD (fp n) 0=x at *
  generalize b.getD (fp n) 0=y at *
  generalize c.getD (fp n) 0=z at *
  rcases bI x y with ⟨j,C⟩|⟨j,C⟩|⟨j,C⟩<;>rcases bI y z with ⟨r,E⟩|⟨r,E⟩|⟨r,E⟩<;>rcases bI x z with ⟨u,F⟩|⟨u,F⟩|⟨u,F⟩<;>(try omega)<;>rw[j] at h ⊢ <;> rw[r] at k ⊢ <;> rw[u]<;>simp only[if_pos,Int.reduceNeg,Int.reduceEq,if_false] at h k ⊢ <;> first
   | exact gO t a b c h k
   | (rcases fF n with ⟨f,_⟩|⟨f,_⟩<;>rw[f] at h k ⊢ <;> omega)
   | (rcases fF n with ⟨f,_⟩|⟨f,_⟩<;>rw[f] at h ⊢ <;> omega)
   | (rcases fF n with ⟨f,_⟩|⟨f,_⟩<;>rw[f] at k ⊢ <;> omega)
def fg (l:List Zit):List (List Int):=l.flatMap fun x=>List.replicate x.2.toNat x.1
def leB (cs a b:List Int):Prop:=dW cs a b<=0
def kO (cs:List Int) (l:List Zit):List (List Int):=(fg l).mergeSort fun a b=>decide (dW cs a b<=0)
theorem qV (f:List Int) (l:List Zit):(kO f l).Pairwise (leB f):=by
 have h:=List.pairwise_mergeSort (le:=fun a b=>decide (dW f a b<=0)) (fun a b c h k=>by
  simp only[decide_eq_true_eq] at *
  exact (gO f a b c h k).1) (fun a b=>by
  have:=e9 f a b
  simp only[Bool.or_eq_true,decide_eq_true_eq]
  omega) (fg l)
 exact h.imp fun h=>by simpa[leB] using h
theorem o6 (f:List Int) (l:List Zit):(kO f l).Perm (fg l):=List.mergeSort_perm _ _
theorem zN {f a b:List Int} (h:leB f a b) (k:leB f b a):a=b:=by
 unfold leB at h k
 have:=e9 f a b
 exact uZ f a b (by omega)
theorem uH {f:List Int} {l m:List (List Int)} (h:l.Pairwise (leB f)) (k:m.Pairwise (leB f)) (p:l.Perm m):l=m :=
 p.eq_of_pairwise (fun _ _ _ _=>zN) h k
theorem As {f:List Int} {l:List Zit} {R:List (List Int)} (g:R.Perm (fg l)) (h:R.Pairwise (leB f)):R=kO f l:=uH h (qV f l) (g.trans (o6 f l).symm)
theorem wV (x:Zit) (l:List Zit):fg (x::l)=List.replicate x.2.toNat x.1++fg l:=rfl
theorem rM (a b:List Zit):fg (a++b)=fg a++fg b:=List.flatMap_append
theorem wW {a b:List Zit} (h:a.Perm b):(fg a).Perm (fg b):=h.flatMap_right _
theorem su {l:List Zit} {r:List Int} (h:r∈fg l):∃x∈l,x.1=r/\0<x.2:=by
 obtain ⟨x,j,f⟩:=List.mem_flatMap.1 h
 obtain ⟨k,g⟩:=List.mem_replicate.1 f
 exact ⟨x,j,g.symm,by omega⟩
theorem lU {f:List Int}:∀ {l:List Zit},l.Pairwise (fun x y=>dW f x.1 y.1<=0)->(fg l).Pairwise (leB f)
 | [],_=>List.Pairwise.nil
 | x::l,h=>by
  rw[wV,List.pairwise_append]
  obtain ⟨g,j⟩:=List.pairwise_cons.1 h
  refine ⟨?_,lU j,fun a k b n=> ?_⟩
  ·exact List.pairwise_replicate.2 (oR (by unfold leB;rw[pv];omega))
  ·obtain ⟨_,rfl⟩:=List.mem_replicate.1 k
   obtain ⟨y,r,rfl,_⟩:=su n
   exact g y r
theorem At {f:List Int} {l S:List Zit} (g:S.Perm l) (h:S.Pairwise (fun x y=>dW f x.1 y.1<=0)):fg S=kO f l:=As (wW g) (lU h)
def jW (l:List Zit):Bool:=l.all fun x=>decide (0<=x.2) && decide (x.2<=400) && decide (x.1.length=(l.headD ([],0)).1.length)
def jd (l:List Zit):Int:=if l=[] then 8 else ((l.headD ([],0)).1.length:Int)
def dO (cs:List Int) (w:Int):Bool:=decide (cs.length<=8) && cs.all fun n=>decide (n≠0) && decide (-w<=n) && decide (n<=w)
def ki (l:List Zit) (cs:List Int) (most:Int):Int:=if aq l=0 then (if jW l=true then (if (dO cs (jd l) && inB most 0 400)=true then 0 else 1) else 5) else aq l
def ig (l:List Zit) (cs:List Int) (most:Int):List (List Int):=if ki l cs most=0 then (kO cs l).take most.toNat else []
theorem uz {l:List Zit} {j:List Int} {f:Int} (h:ki l j f=0):aq l=0/\jW l=true/\dO j (jd l)=true/\inB f 0 400=true:=by
 unfold ki at h
 by_cases g:aq l=0
 ·rw[if_pos g] at h
  by_cases k:jW l=true
  ·rw[if_pos k] at h
   by_cases n:(dO j (jd l) && inB f 0 400)=true
   ·rw[Bool.and_eq_true] at n;exact ⟨g,k,n⟩
   ·rw[if_neg n] at h;cases h
  ·rw[if_neg k] at h;cases h
 ·rw[if_neg g] at h;exact absurd h g
theorem ng {l:List Zit} (h:jW l=true):∀x∈l,0<=x.2/\x.2<=400/\x.1.length=(l.headD ([],0)).1.length:=fun x f=>by
 have:=List.all_eq_true.1 h x f
 simp only[Bool.and_eq_true,decide_eq_true_eq] at this
 exact ⟨this.1.1,this.1.2,this.2⟩
theorem Bg {l:List Zit} {j:List Int} (u:jW l=true) (g:dO j (jd l)=true):∀n∈j,∀x∈l,n≠0/\ -(x.1.length:Int)<=n/\n<=(x.1.length:Int)/\fp n<x.1.length:=by
 intro n C x h
 unfold dO at g
 rw[Bool.and_eq_true] at g
 have f:=List.all_eq_true.1 g.2 n C
 have k:=(ng u x h).2.2
 have r:l≠[]:=fun e=>by rw[e] at h;cases h
 unfold jd at f
 rw[if_neg r,<-k] at f
 simp only[Bool.and_eq_true,decide_eq_true_eq] at f
 refine ⟨f.1.1,f.1.2,f.2,?_⟩
 unfold fp
 split<;>omega
end Go.Proofs.YtjmmpnmgpgaagaaGreatDoor

namespace Go.Proofs.YtjmmpnmgpgaagaaGreatDoor
open Go.RowKit Go.Sort

def Cq (l:List Itm):Int:=jd (l.map Itm.z)
theorem yr (x:Itm) (l:List Itm):Cq (x::l)=(x.r.length:Int):=by
 unfold Cq jd
 rw[if_neg (by simp)]
 rfl
theorem tj (l:List Itm) (A:Option ib) (cap:Nat) (w:K) (F:l.length<=maxLen) (C:Items w A l) :
  X O 124 #[Z A l.length cap] w fun e w'=>e= J (V I (Cq l))/\w'=w:=by
 cases l with
 | nil =>
  go_enter Tryz.func124,Tryz.ntmps124
  go_wp2
  go_ret
  exact ⟨rfl,rfl⟩
 | cons x t =>
  have e:=yr x t
  obtain ⟨b,h,rfl,hb,f⟩:=C.at (k:=0) (by simp)
  obtain ⟨j,_⟩:=f 0 (by simp)
  obtain ⟨n,g⟩:∃n,(x::t).length=n:=⟨_,rfl⟩
  have E:w.cell? ⟨b,h,none⟩=some (Z x.p x.r.length x.c):=by simpa using j
  have L:0<n:=by rw[<-g];simp
  have ad:(0:Int)<(n:Int):=by omega
  have R:((n:Int)==0)=false:=by simpa using (show ¬(n:Int)=0 by omega)
  have u:¬n=0:=by omega
  rw[g,e]
  clear f j e g C F
  go_enter Tryz.func124,Tryz.ntmps124
  go_wp2
  go_ret
  exact ⟨rfl,rfl⟩

def jG (n wd:Int):Bool:=decide (n≠0) && decide (-wd<=n) && decide (n<=wd)
theorem tC {f:List Int} {g:Int} (h:8<f.length):dO f g=false:=by
 unfold dO
 rw[decide_eq_false (by omega)]
 rfl
theorem yX {f:List Int} {g:Int} {k:Nat} (j:k<f.length) (h:jG f[k] g=false):dO f g=false:=by
 unfold dO
 rw[Bool.and_eq_false_iff]
 refine oR ?_
 rw[List.all_eq_false]
 exact ⟨f[k],gM j,by unfold jG at h;rw[h];decide⟩
theorem wC {f:List Int} {j:Int} (u:¬ 8<f.length) (h:∀k (g:k<f.length),jG f[k] j=true):dO f j=true:=by
 unfold dO
 rw[Bool.and_eq_true]
 refine ⟨decide_eq_true (by omega),List.all_eq_true.2 fun n r=> ?_⟩
 obtain ⟨k,g,rfl⟩:=List.getElem_of_mem r
 exact h k g
theorem mE (r:List Int) (A:Option ib) (cap:Nat) (f:Int) (w:K) (hl:r.length<=maxLen) (hw:0<=f/\f<=100) (hr:al w A r) :
  X O 123 #[Z A r.length cap,V I f] w fun e w'=>e= J (.bool (dO r f))/\w'=w:=by
 unfold maxLen at hl
 have ap:=ja1 hr
 clear hr
 by_cases h8:8<r.length
 ·rw[tC h8]
  have an:(8:Int)<(r.length:Int):=by omega
  go_enter Tryz.func123,Tryz.ntmps123
  go_wp2
  go_ret
  exact ⟨rfl,rfl⟩
 ·have an:¬(8:Int)<(r.length:Int):=by omega
  obtain ⟨R,hR⟩:∃R,dO r f=R:=⟨_,rfl⟩
  have F:=ja1 hR
  rw[hR]
  clear hR
  go_enter Tryz.func123,Tryz.ntmps123
  go_wp2
  go_loopw [12] (fun i wr=>∃k:Nat,k<=r.length/\i= V I k/\H (∀j (h:j<r.length),j<k->jG r[j] f=true)/\wr=w) (fun i _=>r.length-(intOf i).toNat)
  case atStart=>exact ⟨0,by omega,rfl,fun j _ h=>by omega,rfl⟩
  case round =>
   obtain ⟨k,hk,rfl,C,a0⟩:=hrel
   subst a0
   by_cases E:k<r.length
   ·have ad:(k:Int)<(r.length:Int):=by omega
    obtain ⟨b,a1,rfl,hb,L⟩:=ap.out.at E
    have e0:=L k E 0 (by omega)
    obtain ⟨n,hn⟩:∃n,r[k]=n:=⟨_,rfl⟩
    rw[hn] at e0
    have e1:wr.cell? ⟨b,a1+k,none⟩=some (V I n):=by simpa[df] using e0
    have ah:=ja1 hn
    clear L e0 hn
    have a2:IntKind.i64.wrap (-f)= -f:=by rw[IntKind.wrap_i64];omega
    by_cases u:jG n f=true
    ·have hp:n≠0/\ -f<=n/\n<=f:=by unfold jG at u;simp only[Bool.and_eq_true,decide_eq_true_eq] at u;exact ⟨u.1.1,u.1.2,u.2⟩
     have p1:(n==0)=false:=by simpa using hp.1
     have p2:¬n < -f:=by omega
     have p3:¬f<n:=by omega
     have ao:=ja1 u
     have p4:¬n=0:=hp.1
     clear hp u
     go_wp2
     go_roundw
     case rel =>
      refine ⟨k+1,by omega,by go_num,fun j hj a3=> ?_,trivial⟩
      by_cases e:j=k
      ·subst e;rw[ah.out];exact ao.out
      ·exact C j hj (by omega)
     case measure=>simp[intOf];omega
    ·have hf:jG n f=false:=by cases h:jG n f with
      | true=>exact absurd h u
      | false=>rfl
     have g:H (R=false):=by show _=_;rw[<-F.out];exact yX E (by rw[ah.out];exact hf)
     have hp:n=0\/n < -f\/f<n:=by
      unfold jG at u
      simp only[Bool.and_eq_true,decide_eq_true_eq] at u
      omega
     clear u hf
     by_cases p1:n=0
     ·subst p1
      go_wp2
      go_ret
      exact ⟨by rw[g.out];rfl,rfl⟩
     ·have a4:(n==0)=false:=by simpa using p1
      by_cases p2:n < -f
      ·go_wp2
       go_ret
       exact ⟨by rw[g.out];rfl,rfl⟩
      ·have p3:f<n:=by omega
       go_wp2
       go_ret
       exact ⟨by rw[g.out];rfl,rfl⟩
   ·have ad:¬(k:Int)<(r.length:Int):=by omega
    have g:H (R=true):=by show _=_;rw[<-F.out];exact wC h8 fun j hj=>C j hj (by omega)
    go_wp2
    go_ret
    exact ⟨by rw[g.out];rfl,rfl⟩

def oH (x:Itm) (wd:Nat):Bool:=decide (0<=x.n) && decide (x.n<=400) && decide (x.r.length=wd)
theorem Bx {l:List Itm} {k:Nat} (f:k<l.length) {y:Itm} (g:l[0]'(by omega)=y) (h:oH l[k] y.r.length=false):jW (l.map Itm.z)=false:=by
 unfold jW
 rw[List.all_eq_false]
 refine ⟨l[k].z,List.mem_map.2 ⟨l[k],gM f,rfl⟩,?_⟩
 have e:((l.map Itm.z).headD ([],0)).1.length=y.r.length:=by
  cases l with
  | nil=>simp at f
  | cons a t=>simp at g;subst g;rfl
 rw[e]
 unfold oH at h
 show ¬(decide (0<=l[k].n) && decide (l[k].n<=400) && decide (l[k].r.length=y.r.length))=true
 rw[h];decide
theorem zt {l:List Itm} (h:∀k (f:k<l.length),oH l[k] ((l[0]'(by omega)).r.length)=true):jW (l.map Itm.z)=true:=by
 unfold jW
 rw[List.all_eq_true]
 intro z j
 obtain ⟨x,g,rfl⟩:=List.mem_map.1 j
 obtain ⟨k,f,rfl⟩:=List.getElem_of_mem g
 have e:((l.map Itm.z).headD ([],0)).1.length=(l[0]'(by omega)).r.length:=by
  cases l with
  | nil=>simp at f
  | cons a t=>rfl
 rw[e]
 exact h k f
def ml (l:List Zit):Int:=if aq l=0 then (if jW l=true then 0 else 5) else aq l
theorem mK (l:List Itm) (A:Option ib) (cap:Nat) (w:K) (h:Lv w A cap l) :
  X O 122 #[Z A l.length cap] w fun e w'=>e= J (V I (ml (l.map Itm.z)))/\Gr w w':=by
 have F:Tryz.prog.follows .mixedOrders=true:=by kernel_rfl
 obtain ⟨E,hE⟩:∃E,aq (l.map Itm.z)=E:=⟨_,rfl⟩
 obtain ⟨R,hR⟩:∃R,ml (l.map Itm.z)=R:=⟨_,rfl⟩
 have a2:=fy l A cap w h.len h.items
 rw[hE] at a2
 rw[hR]
 have hC:H _:=a2
 have hH:=ja3 h hE hR
 clear a2 h hE hR
 go_enter Tryz.func122,Tryz.ntmps122
 go_wp2_with fail
 refine ja0 hC ?_
 rintro e w1 ⟨rfl,a9⟩
 clear hC
 by_cases h0:E=0
 rotate_left
 focus
  have be:(E != 0)=true:=by simpa using h0
  have f:H (E=R):=by show _=_;rw[<-hH.out.2.2];unfold ml;rw[if_neg (by rw[hH.out.2.1];exact h0)];exact hH.out.2.1.symm
  clear h0
  go_wp2
  go_ret
  exact ⟨by rw[f.out];rfl,a9⟩
 have bo:l.length<=400:=by have:=((aR _).1 (hH.out.2.1.trans h0)).1;simpa using this
 have a7:H (R=if jW (l.map Itm.z)=true then 0 else 5):=by show _=_;rw[<-hH.out.2.2];unfold ml;rw[if_pos (hH.out.2.1.trans h0)]
 have be:(E != 0)=false:=by simpa using h0
 have bh:=ja1 hH.out.1.items
 clear hH h0
 go_wp2
 go_loopw [13] (fun i wr=>∃k:Nat,k<=l.length/\i= V I k/\H (∀j (h:j<l.length),j<k->oH l[j] ((l[0]'(by omega)).r.length)=true)/\Gr w wr) (fun i _=>l.length-(intOf i).toNat)
 case atStart=>exact ⟨0,by omega,rfl,fun j _ h=>by omega,a9⟩
 case round =>
  rename K=>u
  obtain ⟨k,hk,rfl,a0,a4⟩:=hrel
  by_cases a5:k<l.length
  ·have bb:(k:Int)<(l.length:Int):=by omega
   have bl:=ja1 (bh.out.gr a4)
   obtain ⟨b,bd,rfl,hb,a3⟩:=bl.out.at a5
   obtain ⟨x,hx⟩:∃x,l[k]=x:=⟨_,rfl⟩
   obtain ⟨y,hy⟩:∃y,l[0]'(by omega)=y:=⟨_,rfl⟩
   obtain ⟨e0,e1⟩:=a3 k a5
   obtain ⟨a1,f1⟩:=a3 0 (by omega)
   rw[hx] at e0 e1
   rw[hy] at a1
   have f0:u.cell? ⟨b,bd,none⟩=some (Z y.p y.r.length y.c):=by simpa using a1
   have ad:=ja2 hx hy
   clear a3 hx hy a1 f1
   obtain ⟨WX,C⟩:∃WX,(u.alloc (ia #[Z x.p x.r.length x.c,V I x.n] 151))=WX:=⟨_,rfl⟩
   have ba:Gr u WX:=by rw[<-C];exact (gR _).alloc _
   have x0:WX.cell? ⟨u.heap.size,0,none⟩=some (Z x.p x.r.length x.c):=by rw[<-C];exact aa (w:=u) (gR _) rfl
   have x1:WX.cell? ⟨u.heap.size,1,none⟩=some (V I x.n):=by rw[<-C];exact aa (w:=u) (gR _) rfl
   have a8:u.heap.size<WX.heap.size:=by rw[<-C];simp
   have g0:=(gR WX).cellG (a:=⟨u.heap.size,0,none⟩) a8 x0
   have g1:=(gR WX).cellG (a:=⟨u.heap.size,1,none⟩) a8 x1
   have g2:=ba.cellG (a:=⟨b,bd,none⟩) hb f0
   have an:=a4.trans ba
   have bp:(0:Int)<(l.length:Int):=by omega
   have ah:H (oH x y.r.length=false->R=5):=fun hf=>by
    have:=Bx a5 ad.out.2 (by rw[ad.out.1];exact hf)
    rw[a7.out,this];rfl
   by_cases p1:x.n<0
   ·have f:H (R=5):=ah.out (by unfold oH;rw[decide_eq_false (by omega)];rfl)
    go_wp2_with fail
    clear C
    refine wp_region_quiet_grown F (by kernel_rfl) ?_
    repeat (go_big_quiet_step (fail))
    refine wpQuiet_nil ?_
    rintro _ ⟨⟨L,g⟩,rfl⟩
    go_wp2
    go_ret
    exact ⟨by rw[f.out];rfl,an.trans ⟨L,g,rfl⟩⟩
   ·have d1:decide (x.n<0)=false:=decide_eq_false p1
    by_cases p2:400<x.n
    ·have f:H (R=5):=ah.out (by unfold oH;rw[decide_eq_false (show ¬x.n<=400 by omega)];simp)
     go_wp2_with fail
     clear C
     refine wp_region_quiet_grown F (by kernel_rfl) ?_
     repeat (go_big_quiet_step (fail))
     refine wpQuiet_nil ?_
     rintro _ ⟨⟨L,g⟩,rfl⟩
     go_wp2
     go_ret
     exact ⟨by rw[f.out];rfl,an.trans ⟨L,g,rfl⟩⟩
    ·have d2:decide (400<x.n)=false:=decide_eq_false p2
     obtain ⟨nx,ap⟩:∃n,x.r.length=n:=⟨_,rfl⟩
     obtain ⟨ny,a6⟩:∃n,y.r.length=n:=⟨_,rfl⟩
     have ao:=ja2 ap a6
     rw[ap] at x0 g0 C
     rw[a6] at g2 f0
     rw[ap] at e0
     clear ap a6
     by_cases p3:nx=ny
     ·subst p3
      have bc:H (oH x y.r.length=true):=by show _=_;unfold oH;rw[decide_eq_true (show 0<=x.n by omega),decide_eq_true (show x.n<=400 by omega),ao.out.1,ao.out.2];simp
      go_wp2_with fail
      clear C
      refine wp_region_quiet_grown F (by kernel_rfl) ?_
      repeat (go_big_quiet_step (fail))
      refine wpQuiet_nil ?_
      rintro _ ⟨⟨L,g⟩,rfl⟩
      go_wp2
      go_roundw
      case rel =>
       refine ⟨k+1,by omega,by go_num,fun j hj bn=> ?_,an.trans ⟨L,g,rfl⟩⟩
       by_cases e:j=k
       ·subst e;rw[ad.out.1,ad.out.2];exact bc.out
       ·exact a0 j hj (by omega)
      case measure=>simp[intOf];omega
     ·have bs:¬(nx:Int)=(ny:Int):=by omega
      have f:H (R=5):=ah.out (by unfold oH;rw[ao.out.1,ao.out.2,decide_eq_false p3];simp)
      go_wp2_with fail
      clear C
      refine wp_region_quiet_grown F (by kernel_rfl) ?_
      repeat (go_big_quiet_step (fail))
      refine wpQuiet_nil ?_
      rintro _ ⟨⟨L,g⟩,rfl⟩
      go_wp2
      go_ret
      exact ⟨by rw[f.out];rfl,an.trans ⟨L,g,rfl⟩⟩
  ·have bb:¬(k:Int)<(l.length:Int):=by omega
   have f:H (R=0):=by show _=_;rw[a7.out,if_pos (zt fun j hj=>a0 j hj (by omega))]
   go_wp2
   go_ret
   exact ⟨by rw[f.out];rfl,a4⟩
end Go.Proofs.YtjmmpnmgpgaagaaGreatDoor
