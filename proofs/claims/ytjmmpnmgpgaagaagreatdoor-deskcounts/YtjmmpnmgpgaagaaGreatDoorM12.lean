import Derived.Test.YtjmmpnmgpgaagaaGreatDoorM09
set_option maxRecDepth 100000
set_option maxHeartbeats 8000000
open Go renaming World → K, Addr → ic, Calls → ka, Value → kb
open Go.Ending renaming returned → ix
open Go.IntKind renaming i64 → J
open Go.Obj renaming cells → Y
open Go.Proofs.Tryz renaming prog → ik
open Go.RowKit renaming Hid → H, Below → U
open Go.Value renaming slice → I, int → Z, tuple → kf
namespace Go.Proofs.YtjmmpnmgpgaagaaGreatDoor
open Go.RowKit Go.Sort Go.Shelf Go.Lib

theorem qx {d:List Int} (hs:d.Pairwise (· <= ·)):∀m,m<=d.length->(compactUpTo d.toArray m).Pairwise (· < ·)/\(∀x,x∈compactUpTo d.toArray m↔∃j,∃h:j<d.length,j<m/\d[j]=x):=by
 intro m
 induction m with
 | zero =>
  intro _
  refine ⟨by simp[compactUpTo],fun x=> ?_⟩
  simp[compactUpTo]
 | succ m ih =>
  intro hm
  obtain ⟨h1,E⟩:=ih (by omega)
  have r:m<d.length:=by omega
  have R:d.toArray[m]! = d[m]:=by simp[r]
  rw[compactUpTo_succ]
  have an:∀x∈compactUpTo d.toArray m,x<=d[m]:=by
   intro x hx
   obtain ⟨j,n,f,rfl⟩:=(E x).1 hx
   exact (List.pairwise_iff_getElem.1 hs) j m n r f
  by_cases u:keeps d.toArray m=true
  ·rw[if_pos u,R]
   refine ⟨?_,fun x=> ?_⟩
   ·rw[List.pairwise_append]
    refine ⟨h1,by simp,?_⟩
    intro x hx y hy
    have ad:y=d[m]:=by simpa using hy
    subst ad
    obtain ⟨j,n,f,rfl⟩:=(E x).1 hx
    have g:m-1<d.length:=by omega
    have F:d.toArray[m-1]! = d[m-1]:=by simp[g]
    have ao:d[m]≠d[m-1]:=by
     unfold keeps at u
     have:=of_decide_eq_true u
     rcases this with k|k
     ·omega
     ·rw[R,F] at k;exact k
    have a1:d[j]<=d[m-1]:=by
     by_cases e:j=m-1
     ·subst e;exact Int.le_refl _
     ·exact (List.pairwise_iff_getElem.1 hs) j (m-1) n g (by omega)
    have a2:d[m-1]<=d[m]:=(List.pairwise_iff_getElem.1 hs) (m-1) m g r (by omega)
    omega
   ·rw[List.mem_append,E]
    constructor
    ·rintro (⟨j,n,f,e⟩|k)
     ·exact ⟨j,n,by omega,e⟩
     ·exact ⟨m,r,by omega,(by simpa using k:x=d[m]).symm⟩
    ·rintro ⟨j,n,f,e⟩
     by_cases L:j=m
     ·subst L;exact oR (by simp[e])
     ·exact oL ⟨j,n,by omega,e⟩
  ·rw[if_neg u,List.append_nil]
   refine ⟨h1,fun x=> ?_⟩
   rw[E]
   constructor
   ·rintro ⟨j,n,f,e⟩;exact ⟨j,n,by omega,e⟩
   ·rintro ⟨j,n,f,e⟩
    by_cases L:j=m
    ·subst L
     unfold keeps at u
     have C:¬(j=0\/d.toArray[j]! ≠ d.toArray[j-1]!):=fun k=>u (decide_eq_true k)
     have ah:j≠0:=fun k=>C (oL k)
     have g:j-1<d.length:=by omega
     have F:d.toArray[j-1]! = d[j-1]:=by simp[g]
     have he:d[j]=d[j-1]:=by
      by_cases k:d[j]=d[j-1]
      ·exact k
      ·exact absurd (oR (by rw[R,F];exact k)) C
     exact ⟨j-1,g,by omega,by rw[<-he];exact e⟩
    ·exact ⟨j,n,by omega,e⟩
theorem gE (l:List Int):(cQ l).Pairwise (· < ·)/\∀x,x∈cQ l↔x∈l:=by
 have g:(l.mergeSort fun x y=>decide (x<=y)).Pairwise (· <= ·):=by
  have:=List.pairwise_mergeSort (le:=fun x y:Int=>decide (x<=y)) (by intro a b c n r;simp only[decide_eq_true_eq] at *;omega) (by intro a b;simp only[Bool.or_eq_true,decide_eq_true_eq];omega) l
  exact this.imp fun h=>by simpa using h
 have h:=qx g _ (nR _)
 refine ⟨h.1,fun x=> ?_⟩
 show x∈compactUpTo _ _↔_
 rw[h.2]
 constructor
 ·rintro ⟨j,f,_,e⟩
  rw[<-e]
  exact (List.mergeSort_perm l _).mem_iff.1 (gM f)
 ·intro k
  obtain ⟨j,f,e⟩:=List.getElem_of_mem ((List.mergeSort_perm l _).mem_iff.2 k)
  exact ⟨j,f,f,e⟩
theorem zX {key col:Int} {e:List Cel} {x:Int}:x∈bO key col e↔∃y∈e,dn key col y=true/\y.2.2.2=x:=by
 unfold bO
 rw[List.mem_map]
 constructor
 ·rintro ⟨y,f,e⟩
  have:=List.mem_filter.1 f
  exact ⟨y,this.1,this.2,e⟩
 ·rintro ⟨y,f,g,e⟩
  exact ⟨y,List.mem_filter.2 ⟨f,g⟩,e⟩
theorem eO {t:Tab} (h:aw t=0) {x:Cel} (n:x∈t.e):aX x.2.1 x.2.2.1 x.2.2.2=true:=by
 obtain ⟨j,g,rfl⟩:=List.getElem_of_mem n
 have f:=(aj h).2.2 j g
 have k:t.e.getD j ((0,0),0,0,0)=t.e[j]:=by simp[g]
 unfold eG at f
 rw[k] at f
 simp only[Bool.and_eq_true] at f
 exact f.1.2

end Go.Proofs.YtjmmpnmgpgaagaaGreatDoor

namespace Go.Proofs.YtjmmpnmgpgaagaaGreatDoor

def grt (l:List Int):Int:=l.getD (l.length-1) 0
def dd (e:List Cel) (key:Int):List Int:=[key,grt (cQ (bO key 0 e)),grt (cQ (bO key 1 e)),grt (cQ (bO key 2 e))]
def ofL (t:Tab):List Zit:=(cQ (cg t.e)).map fun key=>(dd t.e key,1)
theorem BB (l:List Int):grt l=0\/grt l∈l:=by
 unfold grt
 by_cases h:l=[]
 ·subst h;exact oL rfl
 ·have f:0<l.length:=List.length_pos_iff.2 h
  right
  rw[List.getD_eq_getElem?_getD,List.getElem?_eq_getElem (show l.length-1<l.length by omega)]
  exact gM _
theorem zK {t:Tab} (h:aw t=0) {key:Int} (f:key∈cg t.e):0<=key/\key<=49:=by
 unfold cg at f
 obtain ⟨y,g,rfl⟩:=List.mem_map.1 f
 have:=eO h g
 simp only[aX,inB,Bool.and_eq_true,decide_eq_true_eq] at this
 exact this.1.1
theorem tV {t:Tab} (h:aw t=0) (key col:Int): -1000<=grt (cQ (bO key col t.e))/\grt (cQ (bO key col t.e))<=1000:=by
 rcases BB (cQ (bO key col t.e)) with k|k
 ·rw[k];omega
 ·have f:=((gE _).2 _).1 k
  obtain ⟨y,g,_,e⟩:=zX.1 f
  rw[<-e]
  have:=eO h g
  simp only[aX,inB,Bool.and_eq_true,decide_eq_true_eq] at this
  exact this.2
theorem qO {n:Int} (h: -1000<=n/\n<=1000):okN n=true:=by
 simp only[okN,inB,Bool.and_eq_true,decide_eq_true_eq];omega
theorem Eb {t:Tab} (h:aw t=0):aq (ofL t)=0:=by
 have r:=aj h
 refine (aR _).2 ⟨?_,?_,?_⟩
 ·have j:=jr (cg t.e)
  have f:=gZ t.e
  unfold ofL
  rw[List.length_map];omega
 ·intro x g
  unfold ofL at g
  obtain ⟨key,n,rfl⟩:=List.mem_map.1 g
  have j:=zK h (((gE _).2 _).1 n)
  have f:okN key=true:=qO (by omega)
  unfold okZ okR dd
  simp[f,qO (tV h key 0),qO (tV h key 1),qO (tV h key 2)]
  decide
 ·unfold f8 ofL
  rw[List.pairwise_map]
  refine (gE (cg t.e)).1.imp fun {a b} k=> ?_
  show (if aQ a b=0 then _ else aQ a b)<0
  have:=bI a b
  rw[if_neg (by omega)];omega

end Go.Proofs.YtjmmpnmgpgaagaaGreatDoor

namespace Go.Proofs.YtjmmpnmgpgaagaaGreatDoor
open Go.RowKit Go.Sort

theorem qB (l:List Int) (A:Option ic) (cap:Nat) (w:K) (E:l.length<=maxLen) (hr:al w A l) :
  ka ik 87 #[I A l.length cap] w fun e w'=>e= ix (Z J (grt l))/\Gr w w':=by
 unfold maxLen at E
 by_cases h:l=[]
 ·subst h
  go_enter Tryz.func87,Tryz.ntmps87
  go_wp2
  go_ret
  exact ⟨rfl,gR _⟩
 ·have hp:0<l.length:=List.length_pos_iff.2 h
  have k:l.length-1<l.length:=by omega
  obtain ⟨b,u,rfl,hb,f⟩:=hr.at k
  obtain ⟨x,r⟩:∃x,l[l.length-1]=x:=⟨_,rfl⟩
  have j:=f (l.length-1) k 0 (by omega)
  rw[r] at j
  have C:w.cell? ⟨b,u+(l.length-1),none⟩=some (Z J x):=by simpa[df] using j
  have g:H (grt l=x):=by
   show _=_
   unfold grt
   rw[List.getD_eq_getElem?_getD,List.getElem?_eq_getElem k,<-r];rfl
  obtain ⟨n,L⟩:∃n,l.length=n+1:=⟨l.length-1,by omega⟩
  rw[L] at C ⊢
  rw[Nat.add_sub_cancel] at C
  have R:(((n+1:Nat):Int)==0)=false:=by simp;omega
  have hw:IntKind.i64.wrap (((n+1:Nat):Int)-1)=(n:Int):=by rw[IntKind.wrap_i64];omega
  have F:(n:Int)<((n+1:Nat):Int):=by omega
  clear f j r h
  go_enter Tryz.func87,Tryz.ntmps87
  go_wp2
  go_ret
  exact ⟨by rw[g.out];rfl,gR _⟩


def ofR (t:Tab):List Zit:=if aw t=0 then ofL t else []
theorem Dt {t:Tab} (h:aw t≠0):ofR t=[]:=by unfold ofR;rw[if_neg h]
theorem Du {t:Tab} (h:aw t=0):ofR t=ofL t:=by unfold ofR;rw[if_pos h]

theorem uA (e:List Cel) (key:Int) {j:Nat} (h:j<3):(dd e key).take (j+1+1)=(dd e key).take (j+1)++[grt (cQ (bO key j e))]:=by
 have f:j=0\/j=1\/j=2:=by omega
 rcases f with rfl|rfl|rfl<;>rfl
theorem qa (e:List Cel) (key:Int):(dd e key).length=4:=rfl
theorem uB (e:List Cel) (key:Int) (j:Nat):((dd e key).take j).length<=4:=by rw[List.length_take,qa];omega

theorem ut (t:Tab) (A:Option ic) (ca:Nat) (D:Option ic) (cd:Nat) (w:K) (hl:t.c.l.length<=maxLen) (b9:t.e.length<=maxLen) (hr:Row w A t.c.l) (hd:bF w D t.e) :
  ka ik 59 #[.agg (T6 t A ca D cd).toArray] w fun e w'=>∃(L:List Itm) (C:Option ic) (c:Nat),e= ix (kf #[I C L.length c,Z J (aw t)])/\L.map Itm.z=ofR t/\Items w' C L/\cV C L.length c/\U w.heap.size w w'/\jP w.heap.size C L:=by
 have F:TabAt (w.alloc (Y #[Z J t.c.c0,Z J t.c.c1,Z J t.c.c2,Z J t.c.c3,I A t.c.l.length ca,I D t.e.length cd] 56)) w.heap.size t A ca D cd:=TabAt.new 56 hr hd rfl
 have ap:U w.heap.size w (w.alloc (Y #[Z J t.c.c0,Z J t.c.c1,Z J t.c.c2,Z J t.c.c3,I A t.c.l.length ca,I D t.e.length cd] 56)):=((gR w).alloc _).below
 have b7:=eM t A ca D cd (w.alloc (Y #[Z J t.c.c0,Z J t.c.c1,Z J t.c.c2,Z J t.c.c3,I A t.c.l.length ca,I D t.e.length cd] 56)) hl b9 F.row F.rowC
 have a9:H _:=b7
 clear b7 hl b9 hr hd
 go_enter Tryz.func59,Tryz.ntmps59
 obtain ⟨k0,k1,k2,k3,k4,k5⟩:_/\_/\_/\_/\_/\_:=⟨F.k0,F.k1,F.k2,F.k3,F.k4,F.k5⟩
 go_wp2_with fail
 refine ja0 a9 ?_
 rintro e w1 ⟨rfl,bG⟩
 clear a9 k0 k1 k2 k3 k4 k5
 have n:=ja2 (F.gr bG) (ap.trans (bG.below.mono ap.size))
 clear F ap bG
 obtain ⟨E,hE⟩:∃E,aw t=E:=⟨_,rfl⟩
 have a6:=ja1 hE
 rw[hE]
 clear hE
 cases hq:(E != 0)
 ·have ao:E=0:=by simpa using hq
  have bo:H (aw t=0):=by show _=_;rw[a6.out,ao]
  subst ao
  clear a6 hq
  have a7:H (t.e.length*40<=140737488355328/\t.e.length<=400):=by have:=(aj bo.out).2.1;exact ⟨by omega,this⟩
  have cm:=zL t A ca D cd w1 a7.out.1 n.out.1.row n.out.1.rowC
  have bd:H _:=cm
  clear cm
  obtain ⟨k0,k1,k2,k3,k4,k5⟩:_/\_/\_/\_/\_/\_:=⟨n.out.1.k0,n.out.1.k1,n.out.1.k2,n.out.1.k3,n.out.1.k4,n.out.1.k5⟩
  go_wp2_with fail
  refine ja0 bd ?_
  rintro e w2 ⟨dp,kc,rfl,cs,bp⟩
  clear bd k0 k1 k2 k3 k4 k5
  have a5:=ja2 (n.out.1.below bp) (n.out.2.trans (bp.mono n.out.2.size))
  obtain ⟨ks,a2⟩:∃ks,cQ (cg t.e)=ks:=⟨_,rfl⟩
  have bc:H (cQ (cg t.e)=ks/\al w2 dp ks):=⟨a2,by rw[<-a2];exact cs⟩
  have dl:ks.length<=400:=by
   rw[<-a2]
   exact nT (jr _) (nT (gZ _) a7.out.2)
  rw[a2]
  clear a2 cs bp n
  go_wp2
  go_loopw [5,18] (fun v i wr=>∃(k:Nat) (L:List Itm),k<=ks.length/\i= Z J k/\H (L.length=k)/\H (L.map Itm.z=(ks.take k).map (fun key=>(dd t.e key,1)))/\H (OwnT wr w2.heap.size v L/\U w2.heap.size w2 wr)) (fun _ i _=>ks.length-(intOf i).toNat)
  case atStart=>exact ⟨0,[],by omega,rfl,rfl,by simp[H],OwnT.nil _ _,bR _ _⟩
  case round =>
   rename K=>w3
   obtain ⟨k,L,hk,rfl,b3,b4,r⟩:=hrel
   by_cases b0:k<ks.length
   ·have cn:(k:Int)<(ks.length:Int):=by omega
    have be:al w3 dp ks:=bc.out.2.below r.out.2
    obtain ⟨bb,c9,rfl,hb,b8⟩:=be.at b0
    obtain ⟨key,a1⟩:∃x,ks[k]=x:=⟨_,rfl⟩
    have e0:=b8 k b0 0 (by omega)
    rw[a1] at e0
    have e1:w3.cell? ⟨bb,c9+k,none⟩=some (Z J key):=by simpa[df] using e0
    have cA:H ((ks.take (k+1)).map (fun key=>(dd t.e key,(1:Int)))=(ks.take k).map (fun key=>(dd t.e key,1))++[(dd t.e key,1)]):=by show _=_;rw[List.take_succ_eq_append_getElem b0,a1];simp
    have c7:=ja1 (a5.out.1.below r.out.2)
    clear b8 e0 a1 be
    go_wp2
    go_loopw [8,24] (fun v i wr=>∃j:Nat,j<=3/\i= Z J j/\H (dr wr w3.heap.size v ((dd t.e key).take (j+1))/\U w3.heap.size w3 wr)) (fun _ i _=>3-(intOf i).toNat)
    case atStart=>exact ⟨0,by omega,rfl,World.ownsRow_lit w3 #[Z J key] 1 (nR _) (by unfold maxLen;omega) rfl,((gR _).alloc _).below⟩
    case round =>
     rename K=>w4
     obtain ⟨j,hj,rfl,u⟩:=hrel
     have ad:=ja1 (c7.out.below u.out.2)
     by_cases c6:j<3
     ·have ck:(j:Int)<3:=by omega
      obtain ⟨k0,k1,k2,k3,k4,k5⟩:_/\_/\_/\_/\_/\_:=⟨ad.out.k0,ad.out.k1,ad.out.k2,ad.out.k3,ad.out.k4,ad.out.k5⟩
      have c4:=uM t A ca D cd key j w4 a7.out.1 ad.out.row ad.out.rowC
      have bn:H _:=c4
      clear c4
      go_wp2_with fail
      refine ja0 bn ?_
      rintro e w5 ⟨V,vc,rfl,cu,bs⟩
      clear bn k0 k1 k2 k3 k4 k5
      have cf:=qB (cQ (bO key j t.e)) V vc w5 (by have h1:=jr (bO key j t.e);have h2:=ko key j t.e;have h3:=a7.out.2;unfold maxLen;omega) cu
      have ba:H _:=cf
      clear cf cu
      go_wp2_with fail
      refine ja0 ba ?_
      rintro e w6 ⟨rfl,cc⟩
      clear ba
      obtain ⟨gv,bN⟩:∃g,grt (cQ (bO key j t.e))=g:=⟨_,rfl⟩
      have bl:H ((dd t.e key).take (j+1+1)=(dd t.e key).take (j+1)++[gv]):=by show _=_;rw[uA _ _ c6,bN]
      rw[bN]
      obtain ⟨M,hM⟩:∃M,(dd t.e key).take (j+1)=M:=⟨_,rfl⟩
      have c5:M.length<=4:=by rw[<-hM];exact uB _ _ _
      rw[hM] at u bl
      have bt:U w4.heap.size w4 (w6.alloc (Y #[Z J gv] 3)):=bs.trans ((cc.trans ((gR _).alloc _)).below.mono bs.size)
      have f:H (dr (w6.alloc (Y #[Z J gv] 3)) w3.heap.size u8 M/\al (w6.alloc (Y #[Z J gv] 3)) (some ⟨w6.heap.size,0,none⟩) [gv]/\M.length+1<=maxLen/\(M.length+1)*8<=140737488355328/\U w3.heap.size w3 (w6.alloc (Y #[Z J gv] 3))):=⟨u.out.1.below bt,ii rfl gv 3,by unfold maxLen;omega,by omega,u.out.2.trans (bt.mono u.out.2.size)⟩
      clear hM c5 bN bs cc bt u
      go_wp2_with (at_builtin;refine aJ _ rfl (.tmp 27) (.tmp 33) rfl w3.heap.size u8 M [gv] (some ⟨w6.heap.size,0,none⟩) 1 rfl rfl f.out.1 f.out.2.1 (fun h=>by cases h) f.out.2.2.1 f.out.2.2.2.1 f.out.2.2.2.2.size ?_;intro v7 w7 a3 ce)
      have bC:=ja2 a3 (f.out.2.2.2.2.trans (ae.grown_below f.out.1 ce f.out.2.2.2.2.size))
      clear a3 ce f
      go_roundw
      case rel=>exact ⟨j+1,by omega,by go_num,by rw[bl.out];exact bC⟩
      case measure=>simp[intOf];omega
     ·have ck:¬(j:Int)<3:=by omega
      obtain rfl:j=3:=by omega
      have cv:dr w4 w3.heap.size u8 (dd t.e key):=u.out.1
      obtain ⟨C,c,rfl,hC,bh,an⟩:=ae.row bS cv
      have b1:U w3.heap.size w3 (w4.alloc (Y #[I C (dd t.e key).length c,Z J 1] 151)):=u.out.2.alloc u.out.2.size _
      have f:H (OwnT (w4.alloc (Y #[I C (dd t.e key).length c,Z J 1] 151)) w2.heap.size u5 L/\Apart (w4.alloc (Y #[I C (dd t.e key).length c,Z J 1] 151)) w2.heap.size u5.ownBlock ⟨C,c,dd t.e key,1⟩/\(L.length+1<=maxLen/\(L.length+1)*32<=140737488355328)/\w2.heap.size<=(w4.alloc (Y #[I C (dd t.e key).length c,Z J 1] 151)).heap.size/\U w2.heap.size w2 (w4.alloc (Y #[I C (dd t.e key).length c,Z J 1] 151))):=by
       have cB:=r.out.2.size
       have dk:=b3.out
       have b6:=r.out.2.trans (b1.mono cB)
       refine ⟨r.out.1.below b1,⟨bh.gr ((gR _).alloc _),by show (dd t.e key).length<=maxLen;rw[qa];unfold maxLen;omega,hC,fun a ha=>⟨?_,?_,?_⟩⟩,⟨?_,?_⟩,b6.size,b6⟩
       ·have h1:=(an a ha).1;omega
       ·have h1:=(an a ha).2;simp;omega
       ·intro e
        have h1:=(World.ownsRow.lt r.out.1.own a.block e).2
        have h2:=(an a ha).1
        omega
       ·unfold maxLen;omega
       ·omega
      obtain ⟨R,hR⟩:∃R,dd t.e key=R:=⟨_,rfl⟩
      rw[hR] at f cA ⊢
      clear cv bh hC an b1 u hR
      go_wp2_with (at_builtin;refine fi _ rfl (.tmp 36) (.tmp 39) rfl w2.heap.size u5 L ⟨C,c,R,1⟩ ⟨w4.heap.size,0,none⟩ 1 rfl rfl f.out.1 (dj rfl ⟨C,c,R,1⟩ 151) f.out.2.1 f.out.2.2.1.1 f.out.2.2.1.2 f.out.2.2.2.1 ?_;intro v8 w8 a4 b5)
      have cr:=ja2 a4 (f.out.2.2.2.2.trans b5)
      clear a4 b5 f
      go_roundw
      case rel =>
       refine ⟨k+1,L++[⟨C,c,R,1⟩],by omega,by go_num,?_,?_,cr⟩
       ·show _=_;simp[b3.out]
       ·show _=_;rw[cA.out,List.map_append,b4.out];rfl
      case measure=>simp[intOf];omega
   ·have cn:¬(k:Int)<(ks.length:Int):=by omega
    have cl:ks.take k=ks:=List.take_of_length_le (by omega)
    have a0:H (L.map Itm.z=ofR t):=by
     show _=_
     rw[b4.out,cl,Du bo.out]
     unfold ofL
     rw[bc.out.1]
    obtain ⟨A2,a8,c8,cp,cj,b2⟩:=r.out.1.items
    have ah:H (Items w3 A2 L/\cV A2 L.length a8/\U w.heap.size w w3/\jP w.heap.size A2 L):=⟨cj,cp,a5.out.2.trans (r.out.2.mono a5.out.2.size),fun a ha=>nT a5.out.2.size (b2 a ha).1,fun x hx a ha=>nT a5.out.2.size ((r.out.1.each x hx).own a ha).1⟩
    subst c8
    clear cl cj cp b2 r
    go_wp2
    go_ret2
    exact ⟨L,A2,a8,by rw[bo.out];rfl,a0.out,ah.out.1,ah.out.2.1,ah.out.2.2⟩
 ·have ao:E≠0:=by simpa using hq
  have a0:H (ofR t=[]):=Dt (by rw[a6.out];exact ao)
  clear ao
  go_wp2
  go_ret2
  exact ⟨[],none,0,by rw[a6.out];rfl,by rw[a0.out];rfl,⟨oL rfl,fun x hx=>by cases hx⟩,fun _=>rfl,n.out.2,jP.none _⟩
theorem Dv (t:Tab) (A:Option ic) (ca:Nat) (D:Option ic) (g:Nat) (w:K) (E:t.c.l.length<=maxLen) (f:t.e.length<=maxLen) (F:Row w A t.c.l) (u:bF w D t.e) :
  ka ik 59 #[.agg (T6 t A ca D g).toArray] w fun e w'=>∃(L:List Itm) (C:Option ic) (c:Nat),e= ix (kf #[I C L.length c,Z J (aw t)])/\L.map Itm.z=ofR t/\Items w' C L/\cV C L.length c/\U w.heap.size w w' :=
 (ut t A ca D g w E f F u).mono fun _ _ ⟨L,C,c,h,j,k,n,r,_⟩=>⟨L,C,c,h,j,k,n,r⟩

end Go.Proofs.YtjmmpnmgpgaagaaGreatDoor

namespace Go.Proofs.YtjmmpnmgpgaagaaGreatDoor

structure TS (z:List Zit):Prop where
 ok:aq z=0
 wide:d9 4 z
 len:z.length<=50
 one:∀x∈z,x.2=1
theorem TS.nil:TS []:=⟨by decide,fun x f=>(by cases f),by simp,fun x f=>(by cases f)⟩
theorem nX:∀(l:List Int) (f hi:Int),l.Pairwise (· < ·)->(∀x∈l,f<=x/\x<=hi)->(l.length:Int)<=max 0 (hi-f+1)
 | [],f,hi,_,_=>by simp;omega
 | x::l,f,hi,hp,hb=>by
  have g:=List.pairwise_cons.1 hp
  have j:=hb x (by simp)
  have:=nX l (x+1) hi g.2 fun y h=>⟨by have:=g.1 y h;omega,(hb y (by simp[h])).2⟩
  simp only[List.length_cons]
  omega
theorem TS.of {t:Tab} (h:aw t=0):TS (ofR t):=by
 have e:ofR t=ofL t:=by unfold ofR;rw[if_pos h]
 rw[e]
 refine ⟨Eb h,fun x f=> ?_,?_,fun x f=> ?_⟩
 ·unfold ofL at f
  obtain ⟨key,_,rfl⟩:=List.mem_map.1 f
  rfl
 ·unfold ofL
  rw[List.length_map]
  have:=nX (cQ (cg t.e)) 0 49 (gE _).1 fun x f=>zK h (((gE _).2 _).1 f)
  omega
 ·unfold ofL at f
  obtain ⟨key,_,rfl⟩:=List.mem_map.1 f
  rfl
theorem TS.wt {z:List Zit} (h:TS z) (r:List Int):0<=wt z r/\wt z r<=1:=by
 by_cases g:Proofs.YtjmmpnmgpgaagaaGreatDoor.wt z r=0
 ·omega
 ·obtain ⟨x,f,e⟩:=rh g
  have:=((aR z).1 h.ok).2.2.wt f
  rw[e,h.one x f] at this
  omega
theorem TS.row {z:List Zit} (h:TS z) {x:Zit} (f:x∈z):okR x.1=true:=(bA (((aR z).1 h.ok).2.1 x f)).1
theorem mR (a b:List Zit) (r:List Int):wt (bf a b) r=wt a r-wt b r:=by
 unfold bf
 rw[(bB _).same,iu]
theorem xE {n:Int} (h: -1<=n/\n<=1):okW n=true:=by
 simp only[okW,inB,Bool.and_eq_true,decide_eq_true_eq];omega
theorem TS.mem {a b:List Zit} {x:Zit} (g:x∈bf a b):∃y∈a++b,y.1=x.1:=by
 obtain ⟨y,h,e⟩:=(bB (a++fL b)).row g
 rcases List.mem_append.1 h with k|k
 ·exact ⟨y,List.mem_append.2 (oL k),e⟩
 ·obtain ⟨z,j,f⟩:=mx k
  exact ⟨z,List.mem_append.2 (oR j),f.trans e⟩
theorem Bk {a b:List Zit} (g:TS a) (h:TS b):(bf a b).length<=100:=by
 have:=kW (a++fL b)
 have j:=g.len
 have k:=h.len
 have f:(fL b).length=b.length:=by unfold fL;exact List.length_map _
 unfold bf
 rw[List.length_append,f] at this
 omega
theorem gS {a b:List Zit} (g:TS a) (h:TS b):aq (bf a b)=0/\d9 4 (bf a b):=by
 have L:=Bk g h
 have j:=bB (a++fL b)
 refine ⟨(aR _).2 ⟨by omega,fun x f=> ?_,j.rise⟩,fun x f=> ?_⟩
 ·obtain ⟨y,n,e⟩:=TS.mem f
  have r:okR x.1=true:=by
   rw[<-e]
   rcases List.mem_append.1 n with k|k
   ·exact g.row k
   ·exact h.row k
  have u:okW x.2=true:=by
   have:=j.rise.wt f
   rw[<-this,j.same,iu]
   have E:=g.wt x.1
   have F:=h.wt x.1
   exact xE (by omega)
  have C:=j.noz x f
  unfold okZ
  rw[r,u]
  simpa using C
 ·obtain ⟨y,n,e⟩:=TS.mem f
  rw[<-e]
  rcases List.mem_append.1 n with k|k
  ·exact g.wide y k
  ·exact h.wide y k
theorem tu {a b c:List Zit} (n:aq a=0) (u:aq b=0) (C:aq c=0) (h:∀r,wt c r=wt a r+wt b r):aY a b=0/\bw a b=c:=by
 have g:=(aR c).1 C
 have f:dh (a++b)=c:=(bB _).uniq (⟨g.2.2,vG g.2.1,fun _=>rfl⟩:IsTot c c) fun r=>by rw[eh,h]
 have k:dq (a++b)=0:=by
  unfold dq
  rw[f,if_pos]
  rw[List.all_eq_true]
  intro x E
  exact (bA (g.2.1 x E)).2.1
 have j:aY a b=0:=by
  unfold aY
  rw[if_pos n,if_pos u,if_pos k,if_neg (by rw[f];omega)]
 exact ⟨j,by unfold bw;rw[if_pos j,f]⟩
theorem pi {a b:List Zit} (g:TS a) (f:TS b):aY a (iG b)=0/\bw a (iG b)=bf a b:=by
 have e:iG b=fL b:=by unfold iG;rw[if_pos f.ok];rfl
 rw[e]
 refine tu g.ok (BI f.ok) (gS g f).1 fun r=> ?_
 rw[mR]
 unfold fL
 rw[B4]
 omega
theorem mD {k z g:List Zit} (h:TS k) (j:TS z) (f:TS g):aY (bf z k) (bf g z)=0/\bw (bf z k) (bf g z)=bf g k :=
 tu (gS j h).1 (gS f j).1 (gS f h).1 fun r=>by rw[mR,mR,mR];omega
theorem gh {k z:List Zit} (f:TS k) (g:TS z):aY k (bf z k)=0/\bw k (bf z k)=z :=
 tu f.ok (gS g f).1 g.ok fun r=>by rw[mR];omega
theorem rE (z:List Zit):bf z z=[]:=by
 have h:=bB (z++fL z)
 refine h.uniq (m:=[]) (T:=[]) ⟨List.Pairwise.nil,fun x f=>(by cases f),fun r=>rfl⟩ fun r=> ?_
 rw[iu]
 show _=0
 omega
theorem rD {z:List Zit} (h:aq z=0):bf z []=z:=by
 unfold bf fL
 rw[List.map_nil,List.append_nil]
 exact AU h
theorem tR {q:List Stp} {k l z y:List Zit} (f:TS k) (g:TS l) (j:TS z) (h:TS y):jC q k l (bf z k) (bf y l)=bM q z y:=by
 unfold jC
 rw[if_pos (Cm (gS j f).1 (gS h g).1 (gS j f).2 (gS h g).2),if_pos (gh f j).1,if_pos (gh g h).1,(gh f j).2,(gh g h).2]
end Go.Proofs.YtjmmpnmgpgaagaaGreatDoor

namespace Go.Proofs.YtjmmpnmgpgaagaaGreatDoor
open Go.RowKit Go.Sort Go.Maps

def DJ (N:Nat) (s:Sl):Prop:=(∀a,s.A=some a->a.block<N)/\∀x∈s.l,∀a,x.p=some a->a.block<N
def EQ (ss:List Sl):Prop:=∀s0 t,ss=s0::t->∃N,DJ N s0/\∀s∈t,jP N s.A s.l
structure AInv (w wr:K) (a b:List Zit) (q:List Stp) (j:Nat) (u:kb) (ss:List Sl) (S:List (List Zit)) (ah:List Int):Prop where
 own:ae fa 1 59 wr w.heap.size u ss
 each:∀s∈ss,Lv wr s.A s.cap s.l/\Far u.ownBlock s
 z:ss.map (fun s=>s.l.map Itm.z)=S
 len:ss.length=j
 ahd:Ahd S ah
 wid:(cK (q.drop j) ah).isSome=true
 e:jB a b (q.drop j) S=jB a b q []
 f:jQ a b (q.drop j) S=jQ a b q []
 bel:U w.heap.size w wr
 nw:∀s∈ss,NwT wr s.cap w.heap.size s.A s.l
 sep:∀s0 t,ss=s0::t->∃N,N<=wr.heap.size/\DJ N s0/\∀s∈t,jP N s.A s.l

theorem NwT.grown {w w':K} {k n:Nat} {C:Option ic} {L:List Itm} {row:Option Nat} (h:NwT w k n C L) (q:w.grownBy w' row) (j:∀g,row=some g->∃f u,w.heap[g]? = some (Y f u (0,0))/\u≠3) (r:∀g,row=some g->∃f u,w.heap[g]? = some (Y f u (0,0))/\u≠151):NwT w' k n C L:=⟨h.new,h.arr.grown q r,h.rows.grown q j⟩
theorem AInv.step {w wr WX R w3:K} {a b:List Zit} {q:List Stp} {j:Nat} {u v3:kb} {ss:List Sl} {S:List (List Zit)} {ah:List Int} {s:Stp} {L:List Itm} {C:Option ic} {k:Nat} {o:Obj} (h:AInv w wr a b q j u ss S ah) (hs:q.drop j=s::q.drop (j+1)) (ha:d9 4 a) (hb:d9 4 b) (hT:aT s a b S=0) (F:Gr wr WX) (hz:L.map Itm.z=aU s a b S) (hL:Lv R C k L) (hB:U WX.heap.size WX R) (hN:NwT R k WX.heap.size C L)
  (a2:ae fa 1 59 w3 w.heap.size v3 (ss++[⟨C,k,L⟩])) (hg:(R.alloc o).grownBy w3 u.ownBlock) (a0:v3.ownBlock=u.ownBlock\/v3.ownBlock=some (R.alloc o).heap.size):AInv w w3 a b q (j+1) v3 (ss++[⟨C,k,L⟩]) (S++[aU s a b S]) (ah++[aE s ah]):=by
 have hw:=kr (by rw[<-hs];exact h.wid)
 have hr:=oh hw.1 h.ahd ha hb hT
 have ad:Gr R (R.alloc o):=(gR _).alloc _
 have E:U wr.heap.size wr (R.alloc o):=F.below.trans ((hB.trans (ad.below.mono hB.size)).mono F.size)
 have a1:∀g,u.ownBlock=some g->g<wr.heap.size/\w.heap.size<=g:=fun g e=>⟨(World.ownsRow.lt h.own g e).2,(World.ownsRow.lt h.own g e).1⟩
 have an:∀(x:Sl),Lv (R.alloc o) x.A x.cap x.l->Far u.ownBlock x->Far v3.ownBlock x:=fun x hx hf=>by
  rcases a0 with e|e
  ·rw[e];exact hf
  ·rw[e];exact Far.top hx (nR _)
 have he:jB a b (q.drop j) S=jB a b (q.drop (j+1)) (S++[aU s a b S]):=by
  rw[hs]
  show (if aT s a b S=0 then _ else _)=_
  rw[if_pos hT]
 have hf:jQ a b (q.drop j) S=jQ a b (q.drop (j+1)) (S++[aU s a b S]):=by
  rw[hs]
  show (if aT s a b S=0 then _ else _)=_
  rw[if_pos hT]
 refine ⟨a2,fun x hx=> ?_,by rw[List.map_append,h.z];simp[hz],by simp[h.len],h.ahd.snoc hr.1 hr.2,hw.2,by rw[<-he];exact h.e,by rw[<-hf];exact h.f,?_,?_,?_⟩
 ·rcases List.mem_append.1 hx with e|e
  ·have h1:=h.each x e
   have h2:=h1.1.below E
   exact ⟨h2.grown hg h1.2,an x h2 h1.2⟩
  ·rw[List.mem_singleton.1 e]
   have h2:Lv (R.alloc o) C k L:=hL.gr ad
   have ap:Far u.ownBlock ⟨C,k,L⟩:=Far.new (n:=WX.heap.size) hN.new (fun g e2=>nL (a1 g e2).1 F.size)
   exact ⟨Lv.grown (s:=⟨C,k,L⟩) h2 hg ap,an ⟨C,k,L⟩ h2 ap⟩
 ·exact (h.bel.trans (E.mono h.bel.size)).grown hg (nT h.bel.size E.size) (fun g e=>(a1 g e).2)
 ·intro x hx
  have ho:=h.own.below E
  rcases List.mem_append.1 hx with e|e
  ·exact ((h.nw x e).below E).grown hg (ho.typed (by decide)) (ho.typed (by decide))
  ·rw[List.mem_singleton.1 e]
   exact ((hN.mono (nT h.bel.size F.size)).below ad.below).grown hg (ho.typed (by decide)) (ho.typed (by decide))
 ·intro s0 t a3
  have ho:=h.own.below E
  have a6:wr.heap.size<=w3.heap.size:=nT E.size hg.size
  cases ss with
  | nil =>
   have h1:s0=⟨C,k,L⟩/\t=[]:=by simpa using a3.symm
   obtain ⟨rfl,rfl⟩:=h1
   have h2:=(hN.below ad.below).grown hg (ho.typed (by decide)) (ho.typed (by decide))
   exact ⟨w3.heap.size,nR _,⟨h2.arr.lt,fun x hx=>(h2.rows x hx).1.lt⟩,fun s hs=>by cases hs⟩
  | cons y r =>
   have h1:y=s0/\r++[⟨C,k,L⟩]=t:=by simpa using a3
   obtain ⟨rfl,rfl⟩:=h1
   obtain ⟨N,ao,a4,a5⟩:=h.sep y r rfl
   refine ⟨N,nT ao a6,a4,fun s hs=> ?_⟩
   rcases List.mem_append.1 hs with e|e
   ·exact a5 s e
   ·rw[List.mem_singleton.1 e]
    exact hN.new.mono (nT ao F.size)
theorem Ca {W:K} {n:Nat} (g:W.heap.size=n) (x:Sl) (T:TypeId):az fa 1 (W.alloc (Y #[I x.A x.l.length x.cap] T)) (some ⟨n,0,none⟩) [x]:=by
 subst g
 refine oR ⟨W.heap.size,0,rfl,by simp,fun j f i hi=> ?_⟩
 obtain rfl:j=0:=by simp at f;omega
 obtain rfl:i=0:=by omega
 exact aa (w:=W) (gR _) (j:=0) rfl

structure NewS (w:K) (n:Nat) (C:Option ic) (k:Nat) (ss:List Sl):Prop where
 own:ae fa 1 59 w n (I C ss.length k) ss
 each:∀s∈ss,NwT w s.cap n s.A s.l
 sep:EQ ss
theorem NewS.none (w:K) (n:Nat):NewS w n none 0 []:=⟨ae.nil _ _ _ _ _,fun s f=>(by cases f),fun s0 t h=>by cases h⟩

theorem B7 (q:List Stp) (QA:Option ic) (cq:Nat) (a b:List Itm) (A B:Option ic) (ca cb:Nat) (w:K) (hl:q.length<=maxLen) (hq:Stps w QA q) (ha:Lv w A ca a) (hb:Lv w B cb b) :
  ka ik 228 #[I QA q.length cq,I A a.length ca,I B b.length cb] w fun e w'=>∃(ss:List Sl) (C:Option ic) (k:Nat),e= ix (kf #[I C ss.length k,Z J (bM q (a.map Itm.z) (b.map Itm.z))])/\Sts w' C ss (jE q (a.map Itm.z) (b.map Itm.z))/\U w.heap.size w w'/\NewS w' w.heap.size C k ss:=by
 obtain ⟨E1,bl⟩:∃E,bu q=E:=⟨_,rfl⟩
 obtain ⟨E2,bs⟩:∃E,iq (a.map Itm.z) (b.map Itm.z)=E:=⟨_,rfl⟩
 have a3:=qw (A:=QA) (ca:=cq) bl hl hq
 have hC:H _:=a3
 obtain ⟨P,hP⟩:∃P,bM q (a.map Itm.z) (b.map Itm.z)=P:=⟨_,rfl⟩
 rw[hP]
 have hH:=ja6 hq ha hb bl hP bs
 clear a3 hq ha hb bl bs hP hl
 go_enter Tryz.func228,Tryz.ntmps228
 go_wp2_with fail
 refine ja0 hC ?_
 rintro e w0 ⟨rfl,a4⟩
 have an:=ja4 a4 (hH.out.1.below a4) (hH.out.2.1.below a4) (hH.out.2.2.1.below a4)
 clear a4 hC
 cases h0:(E1 != 0)
 rotate_left
 focus
  have g:H (E1=P/\jE q (a.map Itm.z) (b.map Itm.z)=[]):=by
   have hn:¬E1=0:=by simpa using h0
   have hp:P=E1:=by rw[<-hH.out.2.2.2.2.1];unfold bM;rw[kt,if_neg (show ¬bu q=0 by rw[hH.out.2.2.2.1];exact hn),if_neg (show ¬bu q=0 by rw[hH.out.2.2.2.1];exact hn)];exact hH.out.2.2.2.1
   refine ⟨hp.symm,?_⟩
   unfold jE;rw[if_neg (by rw[hH.out.2.2.2.2.1,hp];exact hn)]
  go_wp2
  go_ret2
  exact ⟨[],none,0,by rw[<-g.out.1];rfl,⟨oL rfl,fun s hs=>(by cases hs),by rw[g.out.2];rfl⟩,an.out.1,NewS.none _ _⟩
 have bc:H (bu q=0):=by show _=_;rw[hH.out.2.2.2.1];simpa using h0
 have ap:=km a b A B ca cb w0 an.out.2.2.1 an.out.2.2.2
 rw[hH.out.2.2.2.2.2] at ap
 have hT:H _:=ap
 clear ap
 go_wp2_with fail
 refine ja0 hT ?_
 rintro e R ⟨rfl,a5⟩
 have a1:=ja4 (an.out.1.trans (a5.below.mono an.out.1.size)) (an.out.2.1.gr a5) (an.out.2.2.1.gr a5) (an.out.2.2.2.gr a5)
 clear a5 hT an
 cases h1:(E2 != 0)
 ·have a8:oA q (a.map Itm.z) (b.map Itm.z)=0:=by rw[kt,if_pos bc.out,hH.out.2.2.2.2.2];simpa using h1
  have hQ:H (oA q (a.map Itm.z) (b.map Itm.z)=0/\P=jB (a.map Itm.z) (b.map Itm.z) q []):=⟨a8,by rw[<-hH.out.2.2.2.2.1];unfold bM;rw[if_pos a8]⟩
  have h8:q.length<=8:=(ft (dT a8).1).2.1
  clear a8
  obtain ⟨w1,r⟩:∃WX,(R.alloc (Y #[I A a.length ca,I B b.length cb] 60))=WX:=⟨_,rfl⟩
  have F:H (Gr R w1):=by show Gr _ _;rw[<-r];exact (gR _).alloc _
  have s0:w1.cell? ⟨R.heap.size,0,none⟩=some (I A a.length ca):=by rw[<-r];exact aa (w:=R) (gR _) rfl
  have s1:w1.cell? ⟨R.heap.size,1,none⟩=some (I B b.length cb):=by rw[<-r];exact aa (w:=R) (gR _) rfl
  have bh:R.heap.size<w1.heap.size:=by rw[<-r];simp
  have ad:=ja4 (a1.out.1.trans (F.out.below.mono a1.out.1.size)) (a1.out.2.1.gr F.out) (a1.out.2.2.1.gr F.out) (a1.out.2.2.2.gr F.out)
  clear F a1
  go_wp2
  clear r
  go_loopw [11,32] (fun u i wr=>∃(j:Nat) (ss:List Sl) (S:List (List Zit)) (ah:List Int),j<=q.length/\i= Z J j/\H (AInv w1 wr (a.map Itm.z) (b.map Itm.z) q j u ss S ah)) (fun _ i _=>q.length-(intOf i).toNat)
  case atStart=>exact ⟨0,[],[],[],nZ _,rfl,show AInv _ _ _ _ _ _ _ _ _ _ from ⟨ae.nil _ _ _ _ _,fun s hs=>(by cases hs),rfl,rfl,Ahd.nil,by rw[List.drop_zero];exact (ft (dT hQ.out.1).1).2.2,by rw[List.drop_zero],by rw[List.drop_zero],bR _ _,fun s hs=>(by cases hs),fun s0 t h=>(by cases h)⟩⟩
  case round =>
   obtain ⟨j,ss,S,ah,hj,rfl,hR⟩:=hrel
   obtain ⟨GA,gc,hu,b3,bd,_⟩:=hR.out.own.row mW
   have be:=ja1 bd
   subst hu
   clear bd
   by_cases bp:j<q.length
   ·have b0:(j:Int)<(q.length:Int):=by omega
    have hI:=ja1 (ad.out.2.1.below hR.out.bel)
    obtain ⟨bb,a2,rfl,hb,ao⟩:=hI.out.at bp
    obtain ⟨s,hs⟩:∃s,q[j]=s:=⟨_,rfl⟩
    have b2:H (s∈q):=by show _∈_;rw[<-hs];exact gM bp
    have bo:H (q.drop j=s::q.drop (j+1)):=by show _=_;rw[<-hs];exact List.drop_eq_getElem_cons bp
    rw[hs] at ao
    have m0:wr.cell? ⟨bb,a2+j*7,none⟩=some (Z J s.k):=ao 0 (by omega)
    have m1:wr.cell? ⟨bb,a2+j*7+1,none⟩=some (Z J s.a):=ao 1 (by omega)
    have m2:wr.cell? ⟨bb,a2+j*7+2,none⟩=some (Z J s.b):=ao 2 (by omega)
    have m3:wr.cell? ⟨bb,a2+j*7+3,none⟩=some (Z J s.c):=ao 3 (by omega)
    have m4:wr.cell? ⟨bb,a2+j*7+4,none⟩=some (Z J s.o):=ao 4 (by omega)
    have m5:wr.cell? ⟨bb,a2+j*7+5,none⟩=some (Z J s.v):=ao 5 (by omega)
    have m6:wr.cell? ⟨bb,a2+j*7+6,none⟩=some (I s.p s.l.length s.n):=ao 6 (by omega)
    have hw:=kr (by rw[<-bo.out];exact hR.out.wid)
    obtain ⟨WX,r⟩:∃WX,(wr.alloc (Y (ja8 s) 136))=WX:=⟨_,rfl⟩
    have F:H (Gr wr WX):=by show Gr _ _;rw[<-r];exact (gR _).alloc _
    have a0:=ja1 (hR.out.bel.trans (F.out.below.mono hR.out.bel.size))
    obtain ⟨b4,hT⟩:∃b4,aT s (a.map Itm.z) (b.map Itm.z) S=b4:=⟨_,rfl⟩
    have a3:=EF (sc:=gc) hw.1 hR.out.ahd (Sts.gr ⟨be.out,fun s hs=>(hR.out.each s hs).1,hR.out.z⟩ F.out) (ad.out.2.2.1.below a0.out) (ad.out.2.2.2.below a0.out) ((hI.out.each s b2.out).1.gr F.out)
    rw[hT] at a3
    have hC:H _:=a3
    have bn:=ja1 hT
    have x0:WX.cell? ⟨wr.heap.size,0,none⟩=some (Z J s.k):=by rw[<-r];exact aa (w:=wr) (gR _) rfl
    have x1:WX.cell? ⟨wr.heap.size,1,none⟩=some (Z J s.a):=by rw[<-r];exact aa (w:=wr) (gR _) rfl
    have x2:WX.cell? ⟨wr.heap.size,2,none⟩=some (Z J s.b):=by rw[<-r];exact aa (w:=wr) (gR _) rfl
    have x3:WX.cell? ⟨wr.heap.size,3,none⟩=some (Z J s.c):=by rw[<-r];exact aa (w:=wr) (gR _) rfl
    have x4:WX.cell? ⟨wr.heap.size,4,none⟩=some (Z J s.o):=by rw[<-r];exact aa (w:=wr) (gR _) rfl
    have x5:WX.cell? ⟨wr.heap.size,5,none⟩=some (Z J s.v):=by rw[<-r];exact aa (w:=wr) (gR _) rfl
    have x6:WX.cell? ⟨wr.heap.size,6,none⟩=some (I s.p s.l.length s.n):=by rw[<-r];exact aa (w:=wr) (gR _) rfl
    have z0:WX.cell? ⟨R.heap.size,0,none⟩=some (I A a.length ca):=(a0.out.cell (p:=⟨R.heap.size,0,none⟩) bh).trans s0
    have z1:WX.cell? ⟨R.heap.size,1,none⟩=some (I B b.length cb):=(a0.out.cell (p:=⟨R.heap.size,1,none⟩) bh).trans s1
    clear a3 ao hs hw hT
    cases hq:(b4 != 0)
    ·have ap:H (aT s (a.map Itm.z) (b.map Itm.z) S=0):=by show _=_;rw[bn.out];simpa using hq
     have bN:=ja1 hR.out.len
     go_wp2_with (first|(go_at_call 244;(refine ja0 hC ?_);rintro e w2 ⟨L,C,k,rfl,h1,h2,h3,h4⟩;have a9:H (L.map Itm.z=aU s (a.map Itm.z) (b.map Itm.z) S/\Lv w2 C k L/\U WX.heap.size WX w2/\NwT w2 k WX.heap.size C L):=⟨h1,h2,h3,h4⟩;have ba:H (ae fa 1 59 (w2.alloc (Y #[I C L.length k] 59)) w1.heap.size (I GA ss.length gc) ss/\ss.length+1<=maxLen/\(ss.length+1)*24<=140737488355328/\w1.heap.size<=(w2.alloc (Y #[I C L.length k] 59)).heap.size):=⟨((hR.out.own.gr F.out).below h3).gr ((gR _).alloc _),by have:=bN.out;unfold maxLen;omega,by have:=bN.out;omega,nT a0.out.size (nT h3.size (by simp))⟩;clear h1 h2 h3 h4)|(at_builtin;refine mt _ rfl (.tmp 46) (.tmp 48) rfl w1.heap.size (I GA ss.length gc) ss ⟨C,k,L⟩ ⟨w2.heap.size,0,none⟩ 1 rfl rfl ba.out.1 (Ca rfl ⟨C,k,L⟩ _) ba.out.2.1 ba.out.2.2.1 ba.out.2.2.2 ?_;intro v3 w3 a7 bG a6)|fail)
     have g:=ja1 (hR.out.step bo.out (dT hQ.out.1).2.2.2.1 (dT hQ.out.1).2.2.2.2 ap.out F.out a9.out.1 a9.out.2.1 a9.out.2.2.1 a9.out.2.2.2 a7 bG a6)
     clear a7 bG a6
     go_roundw
     case rel=>exact ⟨j+1,ss++[(⟨C,k,L⟩:Sl)],S++[aU s (a.map Itm.z) (b.map Itm.z) S],ah++[aE s ah],by omega,by go_num,g⟩
     case measure=>simp[intOf];omega
    ·have ap:H (P=b4/\jE q (a.map Itm.z) (b.map Itm.z)=[]):=by
      have hn:¬b4=0:=by simpa using hq
      have hp:P=b4:=by
       rw[hQ.out.2,<-hR.out.e,bo.out]
       show (if aT s (a.map Itm.z) (b.map Itm.z) S=0 then _ else _)=_
       rw[if_neg (by rw[bn.out];exact hn),bn.out]
      refine ⟨hp,?_⟩
      unfold jE;rw[if_neg (by rw[hH.out.2.2.2.2.1,hp];exact hn)]
     go_wp2_with (go_at_call 244;(refine ja0 hC ?_);rintro e w2 ⟨L,C,k,rfl,h1,h2,h3,h4⟩)
     go_ret2
     exact ⟨[],none,0,by rw[ap.out.1];rfl,⟨oL rfl,fun s hs=>(by cases hs),by rw[ap.out.2];rfl⟩,ad.out.1.trans ((a0.out.trans (h3.mono a0.out.size)).mono ad.out.1.size),NewS.none _ _⟩
   ·have b0:¬(j:Int)<(q.length:Int):=by omega
    have b1:H (NewS wr w.heap.size GA gc ss):=⟨hR.out.own.mono ad.out.1.size,fun s hs=>(hR.out.nw s hs).mono ad.out.1.size,fun s0 t h=>by
     obtain ⟨N,_,h2,h3⟩:=hR.out.sep s0 t h
     exact ⟨N,h2,h3⟩⟩
    have g:H (P=0/\Sts wr GA ss (jE q (a.map Itm.z) (b.map Itm.z))/\U w.heap.size w wr):=by
     have hd:q.drop j=[]:=List.drop_eq_nil_of_le (by omega)
     have he:=hR.out.e
     have hf:=hR.out.f
     rw[hd] at he hf
     have bt:P=0:=by rw[hQ.out.2,<-he];rfl
     refine ⟨bt,⟨be.out,fun s hs=>(hR.out.each s hs).1,?_⟩,ad.out.1.trans (hR.out.bel.mono ad.out.1.size)⟩
     unfold jE
     rw[if_pos (by rw[hH.out.2.2.2.2.1];exact bt),<-hf,hR.out.z]
     rfl
    go_wp2
    go_ret2
    exact ⟨ss,GA,gc,by rw[g.out.1];rfl,g.out.2.1,g.out.2.2,b1.out⟩
 ·have g:H (E2=P/\jE q (a.map Itm.z) (b.map Itm.z)=[]):=by
   have hn:¬E2=0:=by simpa using h1
   have bC:oA q (a.map Itm.z) (b.map Itm.z)=E2:=by rw[kt,if_pos bc.out];exact hH.out.2.2.2.2.2
   have hp:P=E2:=by rw[<-hH.out.2.2.2.2.1];unfold bM;rw[if_neg (by rw[bC];exact hn)];exact bC
   refine ⟨hp.symm,?_⟩
   unfold jE;rw[if_neg (by rw[hH.out.2.2.2.2.1,hp];exact hn)]
  go_wp2
  go_ret2
  exact ⟨[],none,0,by rw[<-g.out.1];rfl,⟨oL rfl,fun s hs=>(by cases hs),by rw[g.out.2];rfl⟩,a1.out.1,NewS.none _ _⟩

theorem Al {q:List Stp} {a b:List Zit} (h:bM q a b=0):(jE q a b).length=q.length/\0<q.length:=by
 obtain ⟨g,j,k⟩:=kh h
 obtain ⟨n,_,_,r,u⟩:=dT g
 obtain ⟨E,_,F⟩:=ft n
 obtain ⟨f,L,C⟩:=l7 r u q [] [] F Ahd.nil j
 rw[k,C]
 exact ⟨by simp,List.length_pos_iff.2 E⟩
theorem tO {q:List Stp} {a b:List Zit} (h:¬bM q a b=0):ei q a b=[]:=by
 unfold ei jE
 rw[if_neg h]
 rfl
theorem Sts.atm {w:K} {A:Option ic} {j:List Sl} {S:List (List Zit)} (h:Sts w A j S) {i:Int} (C:0<=i) (hi:i.toNat<S.length):∃(b f n:Nat) (x:Sl),A=some ⟨b,f,none⟩/\b<w.heap.size/\i=n/\n<j.length/\w.cell? ⟨b,f+n,none⟩=some (I x.A x.l.length x.cap)/\Lv w x.A x.cap x.l/\x.l.map Itm.z=bJ S i/\j[n]? = some x:=by
 have g:i.toNat<j.length:=by
  have:=congrArg List.length h.z
  simp at this
  omega
 obtain ⟨b,f,k,r,u⟩:=h.row.at g
 refine ⟨b,f,i.toNat,j[i.toNat],k,r,by omega,g,?_,h.each _ (gM g),?_,List.getElem?_eq_getElem g⟩
 ·have:=u i.toNat g 0 (by omega)
  simpa[fa] using this
 ·unfold bJ
  rw[<-h.z,List.getD_eq_getElem?_getD,List.getElem?_map,List.getElem?_eq_getElem g]
  rfl
theorem nf (q:List Stp) (QA:Option ic) (cq:Nat) (a b:List Itm) (A B:Option ic) (ca cb:Nat) (w:K) (hl:q.length<=maxLen) (hq:Stps w QA q) (ha:Lv w A ca a) (hb:Lv w B cb b) :
  ka ik 187 #[I QA q.length cq,I A a.length ca,I B b.length cb] w fun e w'=>∃(L:List Itm) (C:Option ic) (k:Nat),e= ix (kf #[I C L.length k,Z J (bM q (a.map Itm.z) (b.map Itm.z))])/\L.map Itm.z=ei q (a.map Itm.z) (b.map Itm.z)/\Lv w' C k L/\U w.heap.size w w'/\NwT w' k w.heap.size C L:=by
 have h:=B7 q QA cq a b A B ca cb w hl hq ha hb
 obtain ⟨P,hP⟩:∃P,bM q (a.map Itm.z) (b.map Itm.z)=P:=⟨_,rfl⟩
 have r:=ja1 hP
 rw[hP] at h ⊢
 have hC:H _:=h
 clear h hP hl hq ha hb
 go_enter Tryz.func187,Tryz.ntmps187
 go_wp2_with fail
 refine ja0 hC ?_
 rintro e w1 ⟨ss,C,k,rfl,u,E,F⟩
 have hS:=ja2 u E
 have an:=ja1 F
 clear hC u E F
 cases h1:(P != 0)
 ·have j:P=0:=by simpa using h1
  have h0:bM q (a.map Itm.z) (b.map Itm.z)=0:=by rw[r.out,j]
  have g:=Al h0
  have a1:ss.length=q.length:=by
   have:=congrArg List.length hS.out.1.z
   simp at this
   omega
  obtain ⟨bb,a9,n,x,rfl,a2,hn,a5,a8,R,ah,ad⟩:=hS.out.1.atm (i:=((q.length-1:Nat):Int)) (by omega) (by rw[g.1];omega)
  have ap:n=q.length-1:=by omega
  have f:=ja2 ah R
  have ao:H (NwT w1 x.cap w.heap.size x.A x.l):=an.out.each x (List.mem_of_getElem? ad)
  have a0:=(ft (dT (kh h0).1).1).2.1
  have a4:(n:Int)<=8:=by omega
  have a7:wrap64 (n:Int)=(n:Int):=by unfold wrap64;omega
  have a3:(ss.length:Int)-1=(n:Int):=by omega
  have a6:(n:Int)<(ss.length:Int):=by omega
  clear R ah ad hn ap a1 g h0 a0
  go_wp2
  go_ret2
  exact ⟨x.l,x.A,x.cap,by rw[j];rfl,f.out.1,f.out.2,hS.out.2,ao.out⟩
 ·have f:H (ei q (a.map Itm.z) (b.map Itm.z)=[]):=tO (by rw[r.out];simpa using h1)
  go_wp2
  go_ret2
  exact ⟨[],none,0,rfl,by rw[f.out];rfl,⟨⟨oL rfl,fun x hx=>(by cases hx)⟩,fun _=>rfl,nZ _⟩,hS.out.2,NwT.none _ _⟩
theorem zr (q:List Stp) (QA:Option ic) (cq:Nat) (a b:List Itm) (A B:Option ic) (ca cb:Nat) (w:K) (u:q.length<=maxLen) (E:Stps w QA q) (n:Lv w A ca a) (r:Lv w B cb b) :
  ka ik 187 #[I QA q.length cq,I A a.length ca,I B b.length cb] w fun e w'=>∃(L:List Itm) (C:Option ic) (k:Nat),e= ix (kf #[I C L.length k,Z J (bM q (a.map Itm.z) (b.map Itm.z))])/\L.map Itm.z=ei q (a.map Itm.z) (b.map Itm.z)/\Lv w' C k L/\U w.heap.size w w' :=
 (nf q QA cq a b A B ca cb w u E n r).mono fun _ _ ⟨L,C,k,f,g,h,j,_⟩=>⟨L,C,k,f,g,h,j⟩

def mp:List Itm->List Itm->Int
 | _,[]=> -1
 | [],_::_=>1
 | x::_,y::_=>aC x.r y.r
theorem Ag {a b:List Int} {A B:Option ic} {ca cb:Nat} {w:K} {c:Int} (r:aC a b=c) (f:a.length<=maxLen) (g:al w A a) (h:al w B b) (n:Nat) (os:Array Obj) :
  ka ik 159 #[I A a.length ca,I B b.length cb] (grow (w.drewN n) os) fun e w'=>e= ix (Z J c)/\∃q j,w'=grow ((grow (w.drewN n) os).drewN q) j:=by
 subst r
 have k:Gr w (grow (w.drewN n) os):=⟨n,os,rfl⟩
 exact eU a b A B ca cb _ f (g.gr k) (h.gr k)

theorem xc (a b:List Itm) (A B:Option ic) (ca cb:Nat) (w:K) (C:Items w A a) (E:Items w B b) :
  ka ik 235 #[I A a.length ca,I B b.length cb] w fun e w'=>e= ix (Z J (mp a b))/\Gr w w':=by
 have g:Tryz.prog.follows .mixedOrders=true:=by kernel_rfl
 cases b with
 | nil =>
  have e:mp a []= -1:=by cases a<;>rfl
  rw[e]
  clear e
  go_enter Tryz.func235,Tryz.ntmps235
  go_wp2
  go_ret
  exact ⟨rfl,gR _⟩
 | cons y u =>
  have a0:(((y::u).length:Int)==0)=false:=by rw[beq_eq_false_iff_ne];simp;omega
  cases a with
  | nil =>
   go_enter Tryz.func235,Tryz.ntmps235
   go_wp2
   go_ret
   exact ⟨rfl,gR _⟩
  | cons x t =>
   have ao:(((x::t).length:Int)==0)=false:=by rw[beq_eq_false_iff_ne];simp;omega
   obtain ⟨ba,oa,rfl,F,h⟩:=C.at (k:=0) (by simp)
   obtain ⟨bb,ob,rfl,L,j⟩:=E.at (k:=0) (by simp)
   have e0:w.cell? ⟨ba,oa,none⟩=some (I x.p x.r.length x.c):=by have:=(h 0 (by simp)).1;simpa using this
   have f0:w.cell? ⟨bb,ob,none⟩=some (I y.p y.r.length y.c):=by have:=(j 0 (by simp)).1;simpa using this
   have hx:=C.each x (by simp)
   have hy:=E.each y (by simp)
   obtain ⟨c,R⟩:∃c,aC x.r y.r=c:=⟨_,rfl⟩
   have e:mp (x::t) (y::u)=c:=R
   rw[e]
   have hO:H (∀n f,ka ik 159 #[I x.p x.r.length x.c,I y.p y.r.length y.c] (grow (w.drewN n) f) fun e w'=>e= ix (Z J c)/\∃q ad,w'=grow ((grow (w.drewN n) f).drewN q) ad):=fun n f=>Ag R hx.2.1 hx.1 hy.1 n f
   have g0:∀n f,(grow (w.drewN n) f).cell? ⟨ba,oa,none⟩=some (I x.p x.r.length x.c):=(gR w).cellG F e0
   have g1:∀n f,(grow (w.drewN n) f).cell? ⟨bb,ob,none⟩=some (I y.p y.r.length y.c):=(gR w).cellG L f0
   have an:(0:Int)<((x::t).length:Int):=by simp
   have ap:(0:Int)<((y::u).length:Int):=by simp
   clear e R hx hy h j C E e0 f0
   go_enter Tryz.func235,Tryz.ntmps235
   go_wp2
   refine wp_region_quiet_grown g (by kernel_rfl) ?_
   repeat (go_big_quiet_step ((go_at_call 159;refine Calls.grown_of (hO.out _ _))))
   refine wpQuiet_nil ?_
   rintro _ ⟨⟨nq,ah⟩,rfl⟩
   go_wp2
   go_ret
   exact ⟨rfl,⟨nq,ah,rfl⟩⟩

def xk:kb->Nat
 | I _ n _=>n
 | _=>0
theorem eW (w:K) {ops:Array Oper} {f:List Oper} {o:Oper} {a:Act} {Q:Exit->Act->K->Prop} (n:o.guard=none) (s x:Operand)
  (R:o.op= .call { callee:= .builtin .append,args:= #[s,x],argTypes:= #[59,59] })
  (base:Nat) (v:kb) (l m:List Itm) (A:Option ic) (cap:Nat) (hs:a.eval s=v) (hx:a.eval x= I A m.length cap) (j:ae aD 2 151 w base v l) (hr:az aD 2 w A m) (E:A=none->cap=0)
  (r:l.length+m.length<=maxLen) (L:(l.length+m.length)*32<=140737488355328) (g:base<=w.heap.size)
  (h:∀k w',ae aD 2 151 w' base k (l++m)->w.grownBy w' v.ownBlock->wpList ik ops Q f (a.put o.dst k) w'):wpList ik ops Q (o::f) a w :=
 wpList_plain n fun _ F=>cU bz fC (by omega) 59 Tryz.underlying59 (.agg #[I none 0 0,Z J 0]) 32 Tryz.infoT rfl w s x R base v l m A cap hs hx j hr E r L g fun k w' u C=>F _ _ (h k w' u C)
theorem Items.tail {w:K} {b f:Nat} {x:Itm} {t:List Itm} {c:Nat} (h:Items w (some ⟨b,f,none⟩) (x::t)) (C:(x::t).length<=c):Items w (if c=1 then some ⟨b,f,none⟩ else some ⟨b,f+2,none⟩) t:=by
 refine ⟨?_,fun y E=>h.each y (mC _ E)⟩
 by_cases k:t=[]
 ·exact oL k
 ·have R:0<t.length:=List.length_pos_iff.2 k
  rw[if_neg (by simp at C;omega)]
  obtain ⟨F,n,r,u,g⟩:=h.row.at (m:=0) (by simp)
  cases r
  refine oR ⟨b,f+2,rfl,u,fun j L i hi=> ?_⟩
  have:=g (j+1) (by simp;omega) i hi
  rw[show f+(j+1)*2+i=f+2+j*2+i by omega] at this
  simpa using this
theorem mz {w:K} {X n:Nat} {u0 u1 v0 v1:kb} (f:n<=X) (k:w.cell? ⟨X,0,none⟩=some u0) (r:w.cell? ⟨X,1,none⟩=some u1) (g:w.frozen? ⟨X,0,none⟩=false) (j:w.frozen? ⟨X,1,none⟩=false) :
  (((w.setCell ⟨X,0,none⟩ v0).setCell ⟨X,1,none⟩ v1).drew).cell? ⟨X,0,none⟩=some v0/\(((w.setCell ⟨X,0,none⟩ v0).setCell ⟨X,1,none⟩ v1).drew).cell? ⟨X,1,none⟩=some v1/\(((w.setCell ⟨X,0,none⟩ v0).setCell ⟨X,1,none⟩ v1).drew).frozen? ⟨X,0,none⟩=false/\(((w.setCell ⟨X,0,none⟩ v0).setCell ⟨X,1,none⟩ v1).drew).frozen? ⟨X,1,none⟩=false/\U n w (((w.setCell ⟨X,0,none⟩ v0).setCell ⟨X,1,none⟩ v1).drew):=by
 refine ⟨?_,?_,?_,?_,?_⟩
 ·rw[World.cell?_drew,World.cell?_setCell_other _ _ _ _ (by simp)]
  exact World.cell?_setCell_same _ _ _ k
 ·rw[World.cell?_drew]
  exact World.cell?_setCell_same _ _ _ (u:=u1) (by rw[World.cell?_setCell_other _ _ _ _ (by simp)];exact r)
 ·simpa using g
 ·simpa using j
 ·have h:=((bR n w).setCell (p:=⟨X,0,none⟩) f v0).setCell (p:=⟨X,1,none⟩) f v1
  exact ⟨h.os,h.tape,h.output,h.size,h.block⟩
structure DInv (w wr:K) (a b a' b':List Itm) (P Q:Option ic) (c d:Nat) (u:kb) (L:List Itm):Prop where
 ia:Items w P a'
 ib:Items w Q b'
 ca:a'.length<=c
 cb:b'.length<=d
 ra:f8 (a'.map Itm.z)
 rb:f8 (b'.map Itm.z)
 oa:∀x∈a',okW x.n=true/\x.n≠0
 ob:∀x∈b',okW x.n=true/\x.n≠0
 z:L.map Itm.z++bf (a'.map Itm.z) (b'.map Itm.z)=bf (a.map Itm.z) (b.map Itm.z)
 rows:∀y∈L,∃x∈a++b,y.p=x.p/\y.c=x.c/\y.r=x.r
 suba:∀x∈a',x∈a
 subb:∀x∈b',x∈b
 len:L.length+a'.length+b'.length<=a.length+b.length
 own:ae aD 2 151 wr w.heap.size u L
 bel:U w.heap.size w wr

theorem f8.after {x:Zit} {l:List Zit} {y:Zit} {u:List Zit} (g:l=y::u) (h:f8 l) (f:aC x.1 y.1<0):∀z∈l,aC x.1 z.1<0:=by
 subst g
 intro z j
 rcases List.mem_cons.1 j with e|e
 ·rw[e];exact f
 ·exact cL f ((List.pairwise_cons.1 h).1 z e)
theorem f8.tail {x:Zit} {l:List Zit} (h:f8 (x::l)):f8 l:=(List.pairwise_cons.1 h).2
theorem DInv.stepA {w wr w5:K} {a b t f:List Itm} {x:Itm} {C R:Nat} {Q:Option ic} {c d:Nat} {u v5:kb} {L:List Itm} (h:DInv w wr a b (x::t) f (some ⟨C,R,none⟩) Q c d u L) (hO:mp (x::t) f<0)
  (k:ae aD 2 151 w5 w.heap.size v5 (L++[(⟨x.p,x.c,x.r,x.n⟩:Itm)])) (hb:U w.heap.size w w5):DInv w w5 a b t f (if c=1 then some ⟨C,R,none⟩ else some ⟨C,R+2,none⟩) Q (c-1) d v5 (L++[(⟨x.p,x.c,x.r,x.n⟩:Itm)]):=by
 have j:=h.ca
 have F:=h.suba x (by simp)
 have E:∀y∈f.map Itm.z,aC x.z.1 y.1<0:=by
  cases f with
  | nil=>intro y g;cases g
  | cons y u=>exact f8.after (x:=x.z) rfl h.rb hO
 have hd:=D7 (x:=x.z) (t:=t.map Itm.z) (b:=f.map Itm.z) h.ra (h.oa x (by simp)).2 E
 refine ⟨h.ia.tail j,h.ib,by simp at j;omega,h.cb,h.ra.tail,h.rb,fun y g=>h.oa y (by simp[g]),h.ob,?_,fun y g=> ?_,fun y g=>h.suba y (by simp[g]),h.subb,?_,k,hb⟩
 ·rw[<-h.z]
  show _=_++bf (x.z::t.map Itm.z) (f.map Itm.z)
  rw[hd,List.map_append,List.append_assoc]
  rfl
 ·rcases List.mem_append.1 g with e|e
  ·exact h.rows y e
  ·rw[List.mem_singleton.1 e];exact ⟨x,by simp[F],rfl,rfl,rfl⟩
 ·have:=h.len
  simp at this ⊢
  omega
theorem DInv.stepB {w wr w5:K} {a b f s:List Itm} {y:Itm} {C R:Nat} {P:Option ic} {c d:Nat} {u v5:kb} {L:List Itm} (h:DInv w wr a b f (y::s) P (some ⟨C,R,none⟩) c d u L) (hO:0<mp f (y::s))
  (j:ae aD 2 151 w5 w.heap.size v5 (L++[(⟨y.p,y.c,y.r,-y.n⟩:Itm)])) (hb:U w.heap.size w w5):DInv w w5 a b f s P (if d=1 then some ⟨C,R,none⟩ else some ⟨C,R+2,none⟩) c (d-1) v5 (L++[(⟨y.p,y.c,y.r,-y.n⟩:Itm)]):=by
 have g:=h.cb
 have F:=h.subb y (by simp)
 have E:∀x∈f.map Itm.z,aC y.z.1 x.1<0:=by
  cases f with
  | nil=>intro x hx;cases hx
  | cons x t =>
   refine f8.after (x:=y.z) rfl h.ra ?_
   have h1:0<aC x.r y.r:=hO
   have h2:=dD x.r y.r
   show aC y.r x.r<0
   omega
 have hd:=D6 (y:=y.z) (a:=f.map Itm.z) (u:=s.map Itm.z) h.rb (h.ob y (by simp)).2 E
 refine ⟨h.ia,h.ib.tail g,h.ca,by simp at g;omega,h.ra,h.rb.tail,h.oa,fun z k=>h.ob z (by simp[k]),?_,fun z k=> ?_,h.suba,fun z k=>h.subb z (by simp[k]),?_,j,hb⟩
 ·rw[<-h.z]
  show _=_++bf (f.map Itm.z) (y.z::s.map Itm.z)
  rw[hd,List.map_append,List.append_assoc]
  rfl
 ·rcases List.mem_append.1 k with e|e
  ·exact h.rows z e
  ·rw[List.mem_singleton.1 e];exact ⟨y,by simp[F],rfl,rfl,rfl⟩
 ·have:=h.len
  simp at this ⊢
  omega
theorem DInv.stepC {w wr w5:K} {a b t s:List Itm} {x y:Itm} {E oa F ob:Nat} {c d:Nat} {u v5:kb} {L C:List Itm} (h:DInv w wr a b (x::t) (y::s) (some ⟨E,oa,none⟩) (some ⟨F,ob,none⟩) c d u L) (hO:mp (x::t) (y::s)=0)
  (hL:C=if x.n-y.n=0 then L else L++[(⟨y.p,y.c,y.r,x.n-y.n⟩:Itm)]) (k:ae aD 2 151 w5 w.heap.size v5 C) (hb:U w.heap.size w w5):DInv w w5 a b t s (if c=1 then some ⟨E,oa,none⟩ else some ⟨E,oa+2,none⟩) (if d=1 then some ⟨F,ob,none⟩ else some ⟨F,ob+2,none⟩) (c-1) (d-1) v5 C:=by
 have g:=h.ca
 have j:=h.cb
 have ah:=h.subb y (by simp)
 have ad:x.r=y.r:=ji _ _ hO
 have hd:=D5 (x:=x.z) (y:=y.z) (t:=t.map Itm.z) (u:=s.map Itm.z) h.ra h.rb ad
 refine ⟨h.ia.tail g,h.ib.tail j,by simp at g;omega,by simp at j;omega,h.ra.tail,h.rb.tail,fun z f=>h.oa z (by simp[f]),fun z f=>h.ob z (by simp[f]),?_,fun z f=> ?_,fun z f=>h.suba z (by simp[f]),fun z f=>h.subb z (by simp[f]),?_,k,hb⟩
 ·rw[<-h.z]
  show _=_++bf (x.z::t.map Itm.z) (y.z::s.map Itm.z)
  rw[hd,hL]
  by_cases e:x.n-y.n=0
  ·have R:x.z.2-y.z.2=0:=e
   rw[if_pos e,if_pos R]
  ·have R:¬x.z.2-y.z.2=0:=e
   rw[if_neg e,if_neg R,List.map_append,List.append_assoc]
   rfl
 ·rw[hL] at f
  by_cases e:x.n-y.n=0
  ·rw[if_pos e] at f;exact h.rows z f
  ·rw[if_neg e] at f
   rcases List.mem_append.1 f with e|e
   ·exact h.rows z e
   ·rw[List.mem_singleton.1 e];exact ⟨y,by simp[ah],rfl,rfl,rfl⟩
 ·have:=h.len
  rw[hL]
  by_cases e:x.n-y.n=0
  ·rw[if_pos e];simp at this ⊢;omega
  ·rw[if_neg e];simp at this ⊢;omega

theorem yZ (a b:List Itm) (A B:Option ic) (ca cb:Nat) (w:K) (ha:Items w A a) (hb:Items w B b) (b7:a.length<=ca) (b8:b.length<=cb) (bN:aq (a.map Itm.z)=0) (b0:aq (b.map Itm.z)=0) :
  ka ik 204 #[I A a.length ca,I B b.length cb] w fun e w'=>∃(L:List Itm) (C:Option ic) (k:Nat),e= ix (I C L.length k)/\L.map Itm.z=bf (a.map Itm.z) (b.map Itm.z)/\Items w' C L/\cV C L.length k/\L.length<=800/\U w.heap.size w w':=by
 have cv:a.length+b.length<=800:=by
  have h1:=((aR _).1 bN).1
  have h2:=((aR _).1 b0).1
  simp at h1 h2
  omega
 have bC:H (DInv w w a b a b A B ca cb (I none 0 0) []):=by
  have h1:=(aR _).1 bN
  have h2:=(aR _).1 b0
  exact ⟨ha,hb,b7,b8,h1.2.2,h2.2.2,fun x hx=>⟨(bA (h1.2.1 x.z (List.mem_map.2 ⟨x,hx,rfl⟩))).2.1,(bA (h1.2.1 x.z (List.mem_map.2 ⟨x,hx,rfl⟩))).2.2⟩,fun x hx=>⟨(bA (h2.2.1 x.z (List.mem_map.2 ⟨x,hx,rfl⟩))).2.1,(bA (h2.2.1 x.z (List.mem_map.2 ⟨x,hx,rfl⟩))).2.2⟩,rfl,fun y hy=>(by cases hy),fun x hx=>hx,fun x hx=>hx,by simp,ae.nil _ _ _ _ _,bR _ _⟩
 clear ha hb b7 b8 bN b0
 go_enter Tryz.func204,Tryz.ntmps204
 go_wp2
 go_loopw [0,1,5] (fun s t u wr=>∃(a' b':List Itm) (P Q:Option ic) (c d:Nat) (L:List Itm),s= I P a'.length c/\t= I Q b'.length d/\H (DInv w wr a b a' b' P Q c d u L)) (fun s t _ _=>xk s+xk t)
 case atStart=>exact ⟨a,b,A,B,ca,cb,[],rfl,rfl,bC⟩
 case round =>
  obtain ⟨a',b',P,Q,c,d,L,rfl,rfl,E⟩:=hrel
  obtain ⟨WX,a2⟩:∃WX,(wr.alloc (Y #[I none 0 0,Z J 0] 151))=WX:=⟨_,rfl⟩
  have a9:H (Gr wr WX):=by show Gr _ _;rw[<-a2];exact (gR _).alloc _
  have an:H (wr.heap.size<WX.heap.size):=by show _<_;rw[<-a2];simp
  have R:=ja1 (E.out.bel.trans (a9.out.below.mono E.out.bel.size))
  have x0:WX.cell? ⟨wr.heap.size,0,none⟩=some (I none 0 0):=by rw[<-a2];exact aa (w:=wr) (gR _) rfl
  have x1:WX.cell? ⟨wr.heap.size,1,none⟩=some (Z J 0):=by rw[<-a2];exact aa (w:=wr) (gR _) rfl
  have f0:∀j,WX.frozen? ⟨wr.heap.size,j,none⟩=false:=fun j=>by rw[<-a2];exact f9 (w:=wr) (gR _) j
  obtain ⟨O,hO⟩:∃O,mp a' b'=O:=⟨_,rfl⟩
  have bt:=xc a' b' P Q c d WX (E.out.ia.below R.out) (E.out.ib.below R.out)
  rw[hO] at bt
  have hC:H _:=bt
  have a7:=ja1 hO
  clear bt hO
  by_cases h0:a'.length=0/\b'.length=0
  ·have cB:¬(0:Int)<(a'.length:Int):=by omega
   have c0:¬(0:Int)<(b'.length:Int):=by omega
   have bh:a'=[]/\b'=[]:=⟨List.eq_nil_of_length_eq_zero h0.1,List.eq_nil_of_length_eq_zero h0.2⟩
   obtain ⟨A2,bo,cu,cd,cc,b9,_,_⟩:=ae.full bz E.out.own
   have ah:H (L.map Itm.z=bf (a.map Itm.z) (b.map Itm.z)/\Items wr A2 L/\cV A2 L.length bo/\L.length<=800/\U w.heap.size w wr):=by
    have hz:=E.out.z
    rw[bh.1,bh.2] at hz
    refine ⟨by rw[<-hz];show _=_++bf [] [];rw[Bl,List.append_nil],⟨cc,fun y hy=> ?_⟩,cV.mk cd b9,by have:=E.out.len;omega,E.out.bel⟩
    obtain ⟨x,hx,e1,e2,e3⟩:=E.out.rows y hy
    rw[e1,e2,e3]
    rcases List.mem_append.1 hx with k|k
    ·exact ((bC.out.ia.below E.out.bel).each x k)
    ·exact ((bC.out.ib.below E.out.bel).each x k)
   subst cu
   clear cc cd b9 bh
   go_wp2
   go_ret
   exact ⟨L,A2,bo,rfl,ah.out⟩
  ·by_cases ck:O<0
   ·-- the first of now is ahead
    obtain ⟨x,t,rfl⟩:∃x t,a'=x::t:=by
     cases a' with
     | cons x t=>exact ⟨x,t,rfl⟩
     | nil =>
      cases b' with
      | nil=>exact absurd ⟨rfl,rfl⟩ h0
      | cons y u=>have:=a7.out;simp[mp] at this;omega
    have cn:(0:Int)<((x::t).length:Int):=by simp
    obtain ⟨ba,oa,rfl,be,a4⟩:=E.out.ia.at (k:=0) (by simp)
    obtain ⟨e0,e1⟩:=a4 0 (by simp)
    have a0:w.cell? ⟨ba,oa,none⟩=some (I x.p x.r.length x.c):=by simpa using e0
    have a1:w.cell? ⟨ba,oa+1,none⟩=some (Z J x.n):=by simpa using e1
    clear a4 e0 e1
    go_wp2_with fail
    refine ja0 hC ?_
    rintro e w2 ⟨rfl,f⟩
    have cr:O<=0:=by omega
    have cA:¬ 0<=O:=by omega
    have e0:w2.cell? ⟨ba,oa,none⟩=some (I x.p x.r.length x.c):=(((R.out.trans (f.below.mono R.out.size))).cell (p:=⟨ba,oa,none⟩) be).trans a0
    have e1:w2.cell? ⟨ba,oa+1,none⟩=some (Z J x.n):=(((R.out.trans (f.below.mono R.out.size))).cell (p:=⟨ba,oa+1,none⟩) be).trans a1
    have y0:w2.cell? ⟨wr.heap.size,0,none⟩=some (I none 0 0):=(f.cell (p:=⟨wr.heap.size,0,none⟩) an.out).trans x0
    have y1:w2.cell? ⟨wr.heap.size,1,none⟩=some (Z J 0):=(f.cell (p:=⟨wr.heap.size,1,none⟩) an.out).trans x1
    have g0:w2.frozen? ⟨wr.heap.size,0,none⟩=false:=(f.below.frozen (p:=⟨wr.heap.size,0,none⟩) an.out).trans (f0 0)
    have g1:w2.frozen? ⟨wr.heap.size,1,none⟩=false:=(f.below.frozen (p:=⟨wr.heap.size,1,none⟩) an.out).trans (f0 1)
    clear a2 x0 x1 f0 hC a0 a1
    go_wp2
    go_region
    have ao:=mz (v0:= I x.p x.r.length x.c) (v1:= Z J x.n) (nR _) y0 y1 g0 g1
    obtain ⟨w3,a6⟩:∃W,((w2.setCell ⟨wr.heap.size,0,none⟩ (I x.p x.r.length x.c)).setCell ⟨wr.heap.size,1,none⟩ (Z J x.n)).drew=W:=⟨_,rfl⟩
    rw[a6] at ao ⊢
    obtain ⟨z0,z1,k0,k1,a3⟩:=ao
    have ap:=ja1 (a9.out.below.trans ((f.below.mono a9.out.size).trans a3))
    have bn:(x.n != 0)=true:=by have:=(E.out.oa x (by simp)).2;simpa using this
    have cs:(1:Int)<=(t.length:Int)+1:=by omega
    clear a6 a3 e0 e1 y0 y1 g0 g1 f
    have g:H (ae aD 2 151 (w3.alloc (Y #[I x.p x.r.length x.c,Z J x.n] 151)) w.heap.size u5 L/\az aD 2 (w3.alloc (Y #[I x.p x.r.length x.c,Z J x.n] 151)) (some ⟨w3.heap.size,0,none⟩) [(⟨x.p,x.c,x.r,x.n⟩:Itm)]/\L.length+[(⟨x.p,x.c,x.r,x.n⟩:Itm)].length<=maxLen/\(L.length+[(⟨x.p,x.c,x.r,x.n⟩:Itm)].length)*32<=140737488355328/\U w.heap.size w (w3.alloc (Y #[I x.p x.r.length x.c,Z J x.n] 151))):=by
     have b4:=E.out.len
     have ad:=E.out.bel.trans (ap.out.mono E.out.bel.size)
     exact ⟨(E.out.own.below ap.out).gr ((gR _).alloc _),dj rfl ⟨x.p,x.c,x.r,x.n⟩ _,by unfold maxLen;simp;omega,by simp;omega,ad.alloc ad.size _⟩
    go_wp2_with (at_builtin;refine eW _ rfl _ _ rfl w.heap.size u5 L [(⟨x.p,x.c,x.r,x.n⟩:Itm)] (some ⟨w3.heap.size,0,none⟩) 1 rfl rfl g.out.1 g.out.2.1 (fun h=>by cases h) g.out.2.2.1 g.out.2.2.2.1 g.out.2.2.2.2.size ?_;intro v5 w5 F a5)
    have ah:H (DInv w w5 a b t b' (if c=1 then some ⟨ba,oa,none⟩ else some ⟨ba,oa+2,none⟩) Q (c-1) d v5 (L++[(⟨x.p,x.c,x.r,x.n⟩:Itm)])):=E.out.stepA (a7.out▸ck) F (g.out.2.2.2.2.trans (g.out.1.grown_below a5 g.out.2.2.2.2.size))
    clear F a5
    go_roundw
    case rel=>exact ⟨t,b',_,_,_,_,L++[(⟨x.p,x.c,x.r,x.n⟩:Itm)],rfl,rfl,ah⟩
    case measure=>simp[xk]
   ·by_cases cl:0<O
    ·-- the first of before is ahead
     obtain ⟨y,s,rfl⟩:∃y s,b'=y::s:=by
      cases b' with
      | cons y s=>exact ⟨y,s,rfl⟩
      | nil=>have:=a7.out;cases a'<;>simp[mp] at this<;>omega
     have cp:(0:Int)<((y::s).length:Int):=by simp
     obtain ⟨bb,ob,rfl,ad,a4⟩:=E.out.ib.at (k:=0) (by simp)
     obtain ⟨e0,e1⟩:=a4 0 (by simp)
     have a0:w.cell? ⟨bb,ob,none⟩=some (I y.p y.r.length y.c):=by simpa using e0
     have a1:w.cell? ⟨bb,ob+1,none⟩=some (Z J y.n):=by simpa using e1
     clear a4 e0 e1
     have cr:¬O<=0:=by omega
     have c1:0<=O:=by omega
     have bd:=E.out.ob y (by simp)
     obtain ⟨N,hN⟩:∃N,-y.n=N:=⟨_,rfl⟩
     have bc:=ja1 hN
     have b1:wrap64 (-y.n)=N:=by
      have:=bd.1
      simp only[okW,inB,Bool.and_eq_true,decide_eq_true_eq] at this
      unfold wrap64;omega
     have bn:(N != 0)=true:=by have:=bd.2;simp;omega
     clear bd hN
     have ce:(1:Int)<=(s.length:Int)+1:=by omega
     rcases a' with _|⟨x,t⟩
     all_goals
      go_wp2_with fail
      refine ja0 hC ?_
      rintro e w2 ⟨rfl,f⟩
      have e0:w2.cell? ⟨bb,ob,none⟩=some (I y.p y.r.length y.c):=(((R.out.trans (f.below.mono R.out.size))).cell (p:=⟨bb,ob,none⟩) ad).trans a0
      have e1:w2.cell? ⟨bb,ob+1,none⟩=some (Z J y.n):=(((R.out.trans (f.below.mono R.out.size))).cell (p:=⟨bb,ob+1,none⟩) ad).trans a1
      have y0:w2.cell? ⟨wr.heap.size,0,none⟩=some (I none 0 0):=(f.cell (p:=⟨wr.heap.size,0,none⟩) an.out).trans x0
      have y1:w2.cell? ⟨wr.heap.size,1,none⟩=some (Z J 0):=(f.cell (p:=⟨wr.heap.size,1,none⟩) an.out).trans x1
      have g0:w2.frozen? ⟨wr.heap.size,0,none⟩=false:=(f.below.frozen (p:=⟨wr.heap.size,0,none⟩) an.out).trans (f0 0)
      have g1:w2.frozen? ⟨wr.heap.size,1,none⟩=false:=(f.below.frozen (p:=⟨wr.heap.size,1,none⟩) an.out).trans (f0 1)
      clear a2 x0 x1 f0 hC a0 a1
      go_wp2
      go_region
      have ao:=mz (v0:= I y.p y.r.length y.c) (v1:= Z J N) (nR _) y0 y1 g0 g1
      obtain ⟨w3,a6⟩:∃W,((w2.setCell ⟨wr.heap.size,0,none⟩ (I y.p y.r.length y.c)).setCell ⟨wr.heap.size,1,none⟩ (Z J N)).drew=W:=⟨_,rfl⟩
      rw[a6] at ao ⊢
      obtain ⟨z0,z1,k0,k1,a3⟩:=ao
      have ap:=ja1 (a9.out.below.trans ((f.below.mono a9.out.size).trans a3))
      clear a6 a3 e0 e1 y0 y1 g0 g1 f b1
      have g:H (ae aD 2 151 (w3.alloc (Y #[I y.p y.r.length y.c,Z J N] 151)) w.heap.size u5 L/\az aD 2 (w3.alloc (Y #[I y.p y.r.length y.c,Z J N] 151)) (some ⟨w3.heap.size,0,none⟩) [(⟨y.p,y.c,y.r,N⟩:Itm)]/\L.length+[(⟨y.p,y.c,y.r,N⟩:Itm)].length<=maxLen/\(L.length+[(⟨y.p,y.c,y.r,N⟩:Itm)].length)*32<=140737488355328/\U w.heap.size w (w3.alloc (Y #[I y.p y.r.length y.c,Z J N] 151))):=by
       have b4:=E.out.len
       have ad:=E.out.bel.trans (ap.out.mono E.out.bel.size)
       exact ⟨(E.out.own.below ap.out).gr ((gR _).alloc _),dj rfl (⟨y.p,y.c,y.r,N⟩:Itm) _,by unfold maxLen;simp;omega,by simp;omega,ad.alloc ad.size _⟩
      go_wp2_with (at_builtin;refine eW _ rfl _ _ rfl w.heap.size u5 L [(⟨y.p,y.c,y.r,N⟩:Itm)] (some ⟨w3.heap.size,0,none⟩) 1 rfl rfl g.out.1 g.out.2.1 (fun h=>by cases h) g.out.2.2.1 g.out.2.2.2.1 g.out.2.2.2.2.size ?_;intro v5 w5 F a5)
      have h1:=F
      rw[<-bc.out] at h1
      have a8:=E.out.stepB (a7.out▸cl) h1 (g.out.2.2.2.2.trans (g.out.1.grown_below a5 g.out.2.2.2.2.size))
      rw[bc.out] at a8
      have ah:H _:=a8
      clear h1 a8
      clear F a5
      go_roundw
      case rel=>exact ⟨_,s,_,_,_,_,L++[(⟨y.p,y.c,y.r,N⟩:Itm)],rfl,rfl,ah⟩
      case measure=>simp[xk]
    ·-- both begin with one row
     have cm:O=0:=by omega
     obtain ⟨x,t,y,s,rfl,rfl⟩:∃x t y s,a'=x::t/\b'=y::s:=by
      have:=a7.out
      cases b' with
      | nil=>cases a'<;>simp[mp] at this<;>omega
      | cons y s =>
       cases a' with
       | nil=>simp[mp] at this;omega
       | cons x t=>exact ⟨x,t,y,s,rfl,rfl⟩
     have cn:(0:Int)<((x::t).length:Int):=by simp
     have cp:(0:Int)<((y::s).length:Int):=by simp
     obtain ⟨ba,oa,rfl,be,a4⟩:=E.out.ia.at (k:=0) (by simp)
     obtain ⟨d0,d1⟩:=a4 0 (by simp)
     obtain ⟨bb,ob,rfl,ad,bp⟩:=E.out.ib.at (k:=0) (by simp)
     obtain ⟨e0,e1⟩:=bp 0 (by simp)
     have b2:w.cell? ⟨ba,oa,none⟩=some (I x.p x.r.length x.c):=by simpa using d0
     have b3:w.cell? ⟨ba,oa+1,none⟩=some (Z J x.n):=by simpa using d1
     have a0:w.cell? ⟨bb,ob,none⟩=some (I y.p y.r.length y.c):=by simpa using e0
     have a1:w.cell? ⟨bb,ob+1,none⟩=some (Z J y.n):=by simpa using e1
     clear a4 bp e0 e1 d0 d1
     have bd:=E.out.ob y (by simp)
     have cj:=E.out.oa x (by simp)
     obtain ⟨N,hN⟩:∃N,x.n-y.n=N:=⟨_,rfl⟩
     have bc:=ja1 hN
     have b1:wrap64 (x.n-y.n)=N:=by
      have h1:=bd.1
      have h2:=cj.1
      simp only[okW,inB,Bool.and_eq_true,decide_eq_true_eq] at h1 h2
      unfold wrap64;omega
     clear bd cj hN
     have ce:(1:Int)<=(s.length:Int)+1:=by omega
     have cs:(1:Int)<=(t.length:Int)+1:=by omega
     subst cm
     go_wp2_with fail
     refine ja0 hC ?_
     rintro e w2 ⟨rfl,f⟩
     have d0:w2.cell? ⟨ba,oa,none⟩=some (I x.p x.r.length x.c):=(((R.out.trans (f.below.mono R.out.size))).cell (p:=⟨ba,oa,none⟩) be).trans b2
     have d1:w2.cell? ⟨ba,oa+1,none⟩=some (Z J x.n):=(((R.out.trans (f.below.mono R.out.size))).cell (p:=⟨ba,oa+1,none⟩) be).trans b3
     have y0:w2.cell? ⟨wr.heap.size,0,none⟩=some (I none 0 0):=(f.cell (p:=⟨wr.heap.size,0,none⟩) an.out).trans x0
     have y1:w2.cell? ⟨wr.heap.size,1,none⟩=some (Z J 0):=(f.cell (p:=⟨wr.heap.size,1,none⟩) an.out).trans x1
     have g0:w2.frozen? ⟨wr.heap.size,0,none⟩=false:=(f.below.frozen (p:=⟨wr.heap.size,0,none⟩) an.out).trans (f0 0)
     have g1:w2.frozen? ⟨wr.heap.size,1,none⟩=false:=(f.below.frozen (p:=⟨wr.heap.size,1,none⟩) an.out).trans (f0 1)
     clear a2 x0 x1 f0 hC
     go_wp2
     go_region
     have ao:=mz (v0:= I x.p x.r.length x.c) (v1:= Z J x.n) (nR _) y0 y1 g0 g1
     obtain ⟨w4,cf⟩:∃W,((w2.setCell ⟨wr.heap.size,0,none⟩ (I x.p x.r.length x.c)).setCell ⟨wr.heap.size,1,none⟩ (Z J x.n)).drew=W:=⟨_,rfl⟩
     rw[cf] at ao ⊢
     obtain ⟨z0,z1,k0,k1,b6⟩:=ao
     have bs:=ja1 (a9.out.below.trans ((f.below.mono a9.out.size).trans b6))
     have e0:w4.cell? ⟨bb,ob,none⟩=some (I y.p y.r.length y.c):=((E.out.bel.trans (bs.out.mono E.out.bel.size)).cell (p:=⟨bb,ob,none⟩) ad).trans a0
     have e1:w4.cell? ⟨bb,ob+1,none⟩=some (Z J y.n):=((E.out.bel.trans (bs.out.mono E.out.bel.size)).cell (p:=⟨bb,ob+1,none⟩) ad).trans a1
     clear cf b6 d0 d1 y0 y1 g0 g1 f b2 b3 a0 a1
     obtain ⟨PP,bG⟩:∃PP,(if c=1 then some (⟨ba,oa,none⟩:ic) else some ⟨ba,oa+2,none⟩)=PP:=⟨_,rfl⟩
     have b5:=ja1 bG
     go_wp2
     try rw[bG]
     clear bG
     go_region
     have ao:=mz (v0:= I y.p y.r.length y.c) (v1:= Z J N) (nR _) z0 z1 k0 k1
     obtain ⟨w3,a6⟩:∃W,((w4.setCell ⟨wr.heap.size,0,none⟩ (I y.p y.r.length y.c)).setCell ⟨wr.heap.size,1,none⟩ (Z J N)).drew=W:=⟨_,rfl⟩
     rw[a6] at ao ⊢
     clear z0 z1 k0 k1
     obtain ⟨z0,z1,k0,k1,a3⟩:=ao
     have ap:=ja1 (bs.out.trans a3)
     clear a6 a3 e0 e1 b1
     cases bn:(N != 0)
     ·have bl:x.n-y.n=0:=by rw[bc.out];simpa using bn
      have ah:H (DInv w w3 a b t s PP (if d=1 then some ⟨bb,ob,none⟩ else some ⟨bb,ob+2,none⟩) (c-1) (d-1) u5 L):=by
       show DInv _ _ _ _ _ _ _ _ _ _ _ _
       rw[<-b5.out]
       exact E.out.stepC a7.out (by rw[if_pos bl]) (E.out.own.below ap.out) (E.out.bel.trans (ap.out.mono E.out.bel.size))
      clear bl
      go_wp2
      go_roundw
      case rel=>exact ⟨t,s,_,_,_,_,L,rfl,rfl,ah⟩
      case measure=>simp[xk];omega
     ·have bl:¬x.n-y.n=0:=by rw[bc.out];simpa using bn
      have g:H (ae aD 2 151 (w3.alloc (Y #[I y.p y.r.length y.c,Z J N] 151)) w.heap.size u5 L/\az aD 2 (w3.alloc (Y #[I y.p y.r.length y.c,Z J N] 151)) (some ⟨w3.heap.size,0,none⟩) [(⟨y.p,y.c,y.r,N⟩:Itm)]/\L.length+[(⟨y.p,y.c,y.r,N⟩:Itm)].length<=maxLen/\(L.length+[(⟨y.p,y.c,y.r,N⟩:Itm)].length)*32<=140737488355328/\U w.heap.size w (w3.alloc (Y #[I y.p y.r.length y.c,Z J N] 151))):=by
       have b4:=E.out.len
       have ad:=E.out.bel.trans (ap.out.mono E.out.bel.size)
       exact ⟨(E.out.own.below ap.out).gr ((gR _).alloc _),dj rfl (⟨y.p,y.c,y.r,N⟩:Itm) _,by unfold maxLen;simp;omega,by simp;omega,ad.alloc ad.size _⟩
      go_wp2_with (at_builtin;refine eW _ rfl _ _ rfl w.heap.size u5 L [(⟨y.p,y.c,y.r,N⟩:Itm)] (some ⟨w3.heap.size,0,none⟩) 1 rfl rfl g.out.1 g.out.2.1 (fun h=>by cases h) g.out.2.2.1 g.out.2.2.2.1 g.out.2.2.2.2.size ?_;intro v5 w5 F a5)
      have ah:H (DInv w w5 a b t s PP (if d=1 then some ⟨bb,ob,none⟩ else some ⟨bb,ob+2,none⟩) (c-1) (d-1) v5 (L++[(⟨y.p,y.c,y.r,N⟩:Itm)])):=by
       show DInv _ _ _ _ _ _ _ _ _ _ _ _
       rw[<-b5.out]
       exact E.out.stepC a7.out (by rw[if_neg bl,bc.out]) F (g.out.2.2.2.2.trans (g.out.1.grown_below a5 g.out.2.2.2.2.size))
      clear F a5
      go_roundw
      case rel=>exact ⟨t,s,_,_,_,_,L++[(⟨y.p,y.c,y.r,N⟩:Itm)],rfl,rfl,ah⟩
      case measure=>simp[xk];omega
end Go.Proofs.YtjmmpnmgpgaagaaGreatDoor
