import Derived.Test.YtkefkplnamkicabGreatDoorM10
import Derived.Shelf.Strconv.AtoiErr
import Derived.Lib.AtoiBound
set_option maxRecDepth 100000
set_option maxHeartbeats 8000000
open Go.Ending renaming returned → Y
open Go.IntKind renaming i64 → O
open Go.Obj renaming cells → U
open Go.Proofs.Tryz renaming prog → J
open Go.Value renaming int → I, slice → Z, string → H, tuple → R, bool → F, pointer → L, agg → E
namespace Go.Proofs.YtkefkplnamkicabGreatDoor
open Go.RowKit Go.Sort

structure Reads (w:World):Prop where
 len:∃m,w.cell? ⟨Tryz.lays145_ren.g 1,0,none⟩=some (I O m)
 syn:∃ev,w.cell? ⟨Tryz.lays172_ren.g 15,0,none⟩=some ev∧(ev= .nilIface∨∃te pe,ev= .iface te pe)
 tens:nJ w
theorem Reads.below {w w':World} (h:Reads w) (k:Below w.heap.size w w'):Reads w':=by
 obtain ⟨m,hm⟩:=h.len
 obtain ⟨ev,he,hv⟩:=h.syn
 exact ⟨⟨m,(k.cell (World.block_lt_of_cell? w _ hm)).trans hm⟩,⟨ev,(k.cell (World.block_lt_of_cell? w _ he)).trans he,hv⟩,h.tens.below k⟩
theorem Reads.gr {w w':World} (h:Reads w) (k:Gr w w'):Reads w':=h.below k.below
theorem wg (x y:List UInt8) (w:World):Calls J 142 #[H ⟨x.toArray⟩,H ⟨y.toArray⟩] w fun e w'=>e= Y (H ⟨(Lib.trimPrefix x y).toArray⟩)∧w'=w:=by
 have hc:=Any.strings_TrimPrefix Tryz.lays101 ⟨x.toArray⟩ ⟨y.toArray⟩ w
 change Calls J 142 _ _ _ at hc
 exact hc
theorem wF {x:List UInt8} {n:Int} (hl:x.length≤18) (h:Lib.atoi x=some n) (w:World):Calls J 143 #[H ⟨x.toArray⟩] w fun e w'=>e= Y (R #[I O n,.nilIface])∧Below w.heap.size w w':=by
 have hc:=Any.strconv_Atoi Tryz.lays172.toM.1 ⟨x.toArray⟩ n hl h w
 change Calls J 143 _ _ _ at hc
 refine hc.mono ?_
 rintro e w' ⟨rfl,t,rfl⟩
 exact ⟨rfl,Go.Joins.below_bytesWorld _ _ _ _ (nR _)⟩
theorem mP {n:Int} (h0: -9223372036854775808≤n) (h1:n≤9223372036854775807) {w:World} (ht:nJ w):Calls J 144 #[I O n] w fun e w'=>e= Y (H ⟨(Lib.itoa n).toArray⟩)∧Gr w w':=by
 have hc:=Any.strconv_Itoa Tryz.lays171 n h0 h1 w ht
 change Calls J 144 _ _ _ at hc
 exact hc
theorem wE {x:List UInt8} (hl:x.length≤18) (h:Lib.atoi x=none) (w:World) (hr:Reads w):Calls J 143 #[H ⟨x.toArray⟩] w fun e w'=>(∃N,e= Y (R #[I O 0,.iface (Tryz.lays172_ren.t 168) (L (some ⟨N,0,none⟩))]))∧Below w.heap.size w w':=by
 obtain ⟨ev,he,hv⟩:=hr.syn
 have hc:=Any.strconv_Atoi_err Tryz.lays172 ⟨x.toArray⟩ hl h ev w he hv
 change Calls J 143 _ _ _ at hc
 refine hc.mono ?_
 rintro e w' ⟨N,rfl,_,_,hb⟩
 exact ⟨⟨N,rfl⟩,hb⟩
def kx (d:Int) (x:List UInt8):Option Int:=if d<((Lib.trimPrefix x [45]).length:Int) then none else match Lib.atoi x with
 | none=>none
 | some n=>if Lib.itoa n=x then some n else none
theorem vt (x:List UInt8):kx 10 x=dW x:=by
 unfold kx dW
 by_cases h:10<(Lib.trimPrefix x [45]).length
 ·rw[if_pos (by omega),if_pos h]
 ·rw[if_neg (by omega),if_neg h]
  cases Lib.atoi x<;>rfl
theorem qO (d:Int) (hd:d≤17) (x:List UInt8) (w:World) (hr:Reads w):Calls J 114 #[H ⟨x.toArray⟩,I O d] w fun e w'=>e= Y (R #[I O ((kx d x).getD 0),F (kx d x).isSome])∧Below w.heap.size w w':=by
 have htr:=wg x [45] w
 have htH:Hid _:=htr
 clear htr
 obtain ⟨T,hT⟩:∃T,Lib.trimPrefix x [45]=T:=⟨_,rfl⟩
 have hTl:T.length≤x.length:=by
  rw[←hT]
  unfold Lib.trimPrefix
  split
  ·simp
  ·exact nR _
 by_cases h10:d<(T.length:Int)
 ·have hn:kx d x=none:=by unfold kx;rw[hT,if_pos h10]
  rw[hn]
  have hc:decide (d<(T.length:Int))=true:=decide_eq_true (by omega)
  rw[hT] at htH
  go_enter Tryz.func114,Tryz.ntmps114
  go_wp2_with fail
  refine cM (show Calls _ _ _ _ _ from htH.out) ?_
  rintro e w1 ⟨rfl,rfl⟩
  go_wp2
  go_ret2
  exact ⟨rfl,bR _ _⟩
 have hc:decide (d<(T.length:Int))=false:=decide_eq_false (by omega)
 have hx:x.length≤18:=by
  have:x.length≤T.length+1:=by
   rw[←hT]
   unfold Lib.trimPrefix
   split<;>simp<;>omega
  omega
 cases ha:Lib.atoi x with
 | none =>
  have hn:kx d x=none:=by unfold kx;rw[hT,if_neg h10,ha]
  rw[hn]
  rw[hT] at htH
  have hat:=wE hx ha w hr
  have haH:Hid _:=hat
  clear hat
  go_enter Tryz.func114,Tryz.ntmps114
  go_wp2_with fail
  refine cM (show Calls _ _ _ _ _ from htH.out) ?_
  rintro e w1 ⟨rfl,rfl⟩
  go_wp2_with fail
  refine cM (show Calls _ _ _ _ _ from haH.out) ?_
  rintro e w2 ⟨⟨N,rfl⟩,hb⟩
  go_wp2
  go_ret2
  exact ⟨rfl,hb⟩
 | some n =>
  have hnb: -9223372036854775808≤n∧n≤9223372036854775807:=by have:=Lib.atoi_bound ha hx;omega
  rw[hT] at htH
  have hat:=wF hx ha w
  have haH:Hid _:=hat
  clear hat
  by_cases hi:Lib.itoa n=x
  ·have hn:kx d x=some n:=by unfold kx;rw[hT,if_neg h10,ha];simp[hi]
   rw[hn]
   go_enter Tryz.func114,Tryz.ntmps114
   go_wp2_with fail
   refine cM (show Calls _ _ _ _ _ from htH.out) ?_
   rintro e w1 ⟨rfl,rfl⟩
   go_wp2_with fail
   refine cM (show Calls _ _ _ _ _ from haH.out) ?_
   rintro e w2 ⟨rfl,hb⟩
   have hit:=mP hnb.1 hnb.2 (hr.below hb).tens
   rw[hi] at hit
   have hiH:Hid _:=hit
   clear hit
   go_wp2_with fail
   refine cM (show Calls _ _ _ _ _ from hiH.out) ?_
   rintro e w3 ⟨rfl,hg⟩
   go_wp2
   go_ret2
   exact ⟨rfl,hb.trans (hg.below.mono hb.size)⟩
  ·have hn:kx d x=none:=by unfold kx;rw[hT,if_neg h10,ha];simp[hi]
   rw[hn]
   have hne:(Lib.itoa n==x)=false:=by simpa using hi
   go_enter Tryz.func114,Tryz.ntmps114
   go_wp2_with fail
   refine cM (show Calls _ _ _ _ _ from htH.out) ?_
   rintro e w1 ⟨rfl,rfl⟩
   go_wp2_with fail
   refine cM (show Calls _ _ _ _ _ from haH.out) ?_
   rintro e w2 ⟨rfl,hb⟩
   have hit:=mP hnb.1 hnb.2 (hr.below hb).tens
   have hiH:Hid _:=hit
   clear hit
   go_wp2_with fail
   refine cM (show Calls _ _ _ _ _ from hiH.out) ?_
   rintro e w3 ⟨rfl,hg⟩
   go_wp2
   go_ret2
   exact ⟨rfl,hb.trans (hg.below.mono hb.size)⟩
theorem gq (x:List UInt8) (w:World) (hr:Reads w):Calls J 114 #[H ⟨x.toArray⟩,I O 10] w fun e w'=>e= Y (R #[I O ((dW x).getD 0),F (dW x).isSome])∧Below w.heap.size w w':=by
 rw[←vt];exact qO 10 (by decide) x w hr


theorem pE (x:List UInt8):0≤db x∧db x≤3:=by
 unfold db
 repeat' split
 all_goals decide
theorem vy (x:List UInt8) (w:World):Calls J 112 #[H ⟨x.toArray⟩] w fun e w'=>e= Y (I O (db x))∧w'=w:=by
 go_enter Tryz.func112,Tryz.ntmps112
 go_wp2
 go_loopw [3] (fun i wr=>∃j:Nat,j≤3∧i= I O ((j:Int)+1)∧Hid (∀m:Nat,m<j→jw ((m:Int)+1)≠x)∧wr=w) (fun i _=>4-(intOf i).toNat)
 case atStart=>exact ⟨0,nZ _,rfl,fun m h=>by omega,rfl⟩
 case round =>
  obtain ⟨j,hj,rfl,hall,rfl⟩:=hrel
  by_cases hlt:j<3
  ·have hle:decide ((j:Int)+1≤3)=true:=decide_eq_true (by omega)
   have hsg:=qX ((j:Int)+1) wr
   have hsgH:Hid _:=hsg
   clear hsg
   by_cases hq:jw ((j:Int)+1)=x
   ·have hfin:Hid (db x=(j:Int)+1):=by
     show _=_
     rw[←hq]
     exact qY (by omega)
    rw[hq] at hsgH
    clear hq
    go_wp2_with (go_at_call 141;(refine cM (show Calls _ _ _ _ _ from hsgH.out) ?_);rintro e w' ⟨rfl,rfl⟩)
    go_ret
    exact ⟨by rw[hfin.out];rfl,rfl⟩
   ·have hb:(jw ((j:Int)+1)==x)=false:=by simpa using hq
    have hqH:Hid (jw ((j:Int)+1)≠x):=hq
    clear hq
    go_wp2_with (go_at_call 141;(refine cM (show Calls _ _ _ _ _ from hsgH.out) ?_);rintro e w' ⟨rfl,rfl⟩)
    go_roundw
    case rel =>
     refine ⟨j+1,by omega,by go_num,?_,by trivial⟩
     intro m hm
     by_cases e:m=j
     ·subst e;exact hqH.out
     ·exact hall m (by omega)
    case measure=>simp[intOf];omega
  ·have hle:decide ((j:Int)+1≤3)=false:=decide_eq_false (by omega)
   have hfin:Hid (db x=0):=by
    show _=_
    by_cases h0:db x=0
    ·exact h0
    ·have hr:=pE x
     have ht:=qZ h0
     exact absurd (by rw[show (((db x).toNat-1:Nat):Int)+1=db x by omega];exact ht) (hall ((db x).toNat-1) (by omega))
   go_wp2
   go_ret
   exact ⟨by rw[hfin.out];rfl,rfl⟩

theorem qz (x:List UInt8) (w:World):Calls J 76 #[H ⟨x.toArray⟩] w fun e w'=>e= Y (I O (dn x))∧w'=w:=by
 go_enter Tryz.func76,Tryz.ntmps76
 go_wp2
 go_loopw [3] (fun i wr=>∃j:Nat,j≤9∧i= I O ((j:Int)+1)∧Hid (∀m:Nat,m<j→e7 ((m:Int)+1)≠x)∧wr=w) (fun i _=>10-(intOf i).toNat)
 case atStart=>exact ⟨0,nZ _,rfl,fun m h=>by omega,rfl⟩
 case round =>
  obtain ⟨j,hj,rfl,hall,rfl⟩:=hrel
  by_cases hlt:j<9
  ·have hle:decide ((j:Int)+1≤9)=true:=decide_eq_true (by omega)
   have hsg:=iM ((j:Int)+1) wr
   obtain ⟨P,hP⟩:∃P,dx ((j:Int)+1)=P:=⟨_,rfl⟩
   rw[hP] at hsg
   have hsgH:Hid _:=hsg
   clear hsg hP
   by_cases hq:e7 ((j:Int)+1)=x
   ·have hfin:Hid (dn x=(j:Int)+1):=by
     show _=_
     rw[←hq]
     exact qA (by omega)
    rw[hq] at hsgH
    clear hq
    go_wp2_with (go_at_call 77;(refine cM (show Calls _ _ _ _ _ from hsgH.out) ?_);rintro e w' ⟨rfl,rfl⟩)
    go_ret
    exact ⟨by rw[hfin.out];rfl,rfl⟩
   ·have hb:(e7 ((j:Int)+1)==x)=false:=by simpa using hq
    have hqH:Hid (e7 ((j:Int)+1)≠x):=hq
    clear hq
    go_wp2_with (go_at_call 77;(refine cM (show Calls _ _ _ _ _ from hsgH.out) ?_);rintro e w' ⟨rfl,rfl⟩)
    go_roundw
    case rel =>
     refine ⟨j+1,by omega,by go_num,?_,by trivial⟩
     intro m hm
     by_cases e:m=j
     ·subst e;exact hqH.out
     ·exact hall m (by omega)
    case measure=>simp[intOf];omega
  ·have hle:decide ((j:Int)+1≤9)=false:=decide_eq_false (by omega)
   have hfin:Hid (dn x=0):=by
    show _=_
    by_cases h0:dn x=0
    ·exact h0
    ·have ht:=qB h0
     exact absurd (by rw[show (((dn x).toNat-1:Nat):Int)+1=dn x by omega];exact ht.1) (hall ((dn x).toNat-1) (by omega))
   go_wp2
   go_ret
   exact ⟨by rw[hfin.out];rfl,rfl⟩

theorem zt (c b:UInt8) (l:List UInt8):[c].isPrefixOf (b::l)=(c==b):=by simp[List.isPrefixOf]
theorem nQ (c:UInt8):∀x:List UInt8,(c ∉ x∧Lib.index x [c]= -1)∨(∃a r,x=a++c::r∧c ∉ a∧Lib.index x [c]=(a.length:Int))
 | []=>oL ⟨by simp,rfl⟩
 | b::l=>by
  rw[Lib.index,zt]
  by_cases h:c=b
  ·subst h
   exact oR ⟨[],l,rfl,by simp,by simp⟩
  ·have hb:¬(c==b)=true:=by simpa using h
   rw[if_neg hb]
   rcases nQ c l with ⟨h1,h2⟩|⟨a,r,h1,h2,h3⟩
   ·refine oL ⟨by simp[h,h1],by rw[h2];rfl⟩
   ·refine oR ⟨b::a,r,by rw[h1];rfl,by simp[h,h2],?_⟩
    have hn:¬(Lib.index l [c] == -1)=true:=by rw[h3];simp
    rw[if_neg hn,h3]
    simp
theorem rU (c:UInt8):∀(n:Nat) (x:List UInt8),x.length≤n→Lib.split x [c]=aD c x
 | n,x,hn=>by
  rcases nQ c x with ⟨h1,h2⟩|⟨a,r,h1,h2,h3⟩
  ·unfold Lib.split
   rw[Lib.count_miss h2,Lib.splitK,iX x h1]
  ·cases n with
   | zero=>rw[h1] at hn;simp at hn
   | succ n =>
    have hr:r.length≤n:=by rw[h1] at hn;simp at hn;omega
    have ih:=rU c n r hr
    have hd:x.drop (a.length+[c].length)=r:=by rw[h1];simp
    have ht:x.take a.length=a:=by rw[h1];simp
    unfold Lib.split at ih ⊢
    rw[Lib.count_hit (by simp) h3,hd,Nat.add_comm,Lib.splitK]
    have hm:¬(Lib.index x [c] == -1)=true:=by rw[h3];simp
    rw[if_neg hm,h3,show ((a.length:Int)).toNat+0=a.length by simp,show ((a.length:Int)).toNat+[c].length=a.length+[c].length by simp,hd,ht,ih,h1,eX a r h2]
theorem pG (c:UInt8) (x:List UInt8):Lib.splitB ⟨#[c]⟩ 0 (Lib.countB ⟨x.toArray⟩ ⟨#[c]⟩) ⟨x.toArray⟩=(aD c x).map fun y=>(⟨y.toArray⟩:ByteArray):=by
 have h:=Lib.splitB_data ⟨#[c]⟩ 0 (Lib.countB ⟨x.toArray⟩ ⟨#[c]⟩) ⟨x.toArray⟩
 have h2:Lib.splitK [c] 0 (Lib.count x [c]) x=aD c x:=rU c x.length x (nR _)
 have h3:(Lib.splitB ⟨#[c]⟩ 0 (Lib.countB ⟨x.toArray⟩ ⟨#[c]⟩) ⟨x.toArray⟩).map (·.data.toList)=aD c x:=h.trans h2
 rw[←h3,List.map_map]
 have:((fun y:List UInt8=>(⟨y.toArray⟩:ByteArray)) ∘ fun b:ByteArray=>b.data.toList)=id:=by
  funext b
  rfl
 rw[this,List.map_id]
theorem io (c:UInt8):∀x,(aD c x).length≤x.length+1
 | []=>by simp[aD]
 | b::r=>by
  have ih:=io c r
  rw[aD]
  split
  ·simp;omega
  ·split
   ·simp
   ·next e=>rw[e] at ih;simp at ih ⊢;omega
theorem wK (c:UInt8) (x:List UInt8):Lib.countB ⟨x.toArray⟩ ⟨#[c]⟩+1=(aD c x).length:=by
 have h:=Lib.splitB_all ⟨#[c]⟩ (nR 1) 0 _ (⟨x.toArray⟩:ByteArray) rfl
 rw[pG,List.length_map] at h
 exact h.symm
theorem vH {W:World} (xs:List (List UInt8)) (T:TypeId):s9 (W.alloc (U ((xs.map fun y=>(⟨y.toArray⟩:ByteArray)).map Value.string).toArray T)) (some ⟨W.heap.size,0,none⟩) xs:=by
 refine oR ⟨W.heap.size,0,rfl,by simp,fun j hj i hi=> ?_⟩
 obtain rfl:i=0:=by omega
 simp[wT,List.getElem?_eq_getElem hj]
theorem nz (x:List UInt8) (c:UInt8) (w:World) (hr:Reads w) (hx:x.length<4294967281):Calls J 75 #[H ⟨x.toArray⟩,H ⟨#[c]⟩] w fun e w'=>e= Y (Z (some ⟨w.heap.size,0,none⟩) (aD c x).length (aD c x).length)∧s9 w' (some ⟨w.heap.size,0,none⟩) (aD c x)∧Below w.heap.size w w':=by
 obtain ⟨m,hm⟩:=hr.len
 have hc:=Any.strings_Split Tryz.lays146.1 Tryz.lays146.i9 ⟨x.toArray⟩ ⟨#[c]⟩ m w hx hm (nR 1)
 change Calls J 75 _ _ _ at hc
 rw[pG] at hc
 refine hc.mono ?_
 rintro e w' ⟨rfl,rfl⟩
 have:=wK c x
 refine ⟨?_,vH _ _,Below.alloc (bR _ _) (nR _) _⟩
 rw[←this]
theorem xg (w:World) (n:Nat):Gr w (w.drewN n):=Gr.of ⟨rfl,rfl,rfl,nR _,fun _ _=>rfl⟩ (by simp[World.drewN])
theorem wL (x:List UInt8) (c:UInt8) (w:World) (hr:Reads w) (hx:x.length<4294967281):Calls J 53 #[H ⟨x.toArray⟩,H ⟨#[c]⟩] w fun e w'=>(∃a r b,e= Y (R #[H ⟨a.toArray⟩,H ⟨r.toArray⟩,F b])∧((b=true∧x=a++c::r∧c ∉ a)∨(b=false∧c ∉ x∧a=x∧r=[])))∧Gr w w':=by
 obtain ⟨m,hm⟩:=hr.len
 have hc:=Any.strings_Cut Tryz.lays145.1 ⟨x.toArray⟩ ⟨#[c]⟩ m w hx hm
 change Calls J 53 _ _ _ at hc
 refine hc.mono ?_
 rintro e w' ⟨rfl,n,rfl⟩
 refine ⟨⟨_,_,_,rfl,?_⟩,xg _ _⟩
 show ((Lib.cut x [c]).2.2=true∧x=(Lib.cut x [c]).1++c::(Lib.cut x [c]).2.1∧c ∉ (Lib.cut x [c]).1)∨((Lib.cut x [c]).2.2=false∧c ∉ x∧(Lib.cut x [c]).1=x∧(Lib.cut x [c]).2.1=[])
 unfold Lib.cut
 rcases nQ c x with ⟨h1,h2⟩|⟨a,r,h1,h2,h3⟩
 ·rw[if_neg (by omega)]
  exact oR ⟨rfl,h1,rfl,rfl⟩
 ·have hd:x.drop (a.length+[c].length)=r:=by rw[h1];simp
  have ht:x.take a.length=a:=by rw[h1];simp
  rw[if_pos (by omega),h3]
  simp only[Int.toNat_natCast,hd,ht]
  exact oL ⟨trivial,h1,h2⟩

theorem lD:∀ {xs:List (List UInt8)} {M:List Int} {y:List UInt8} {n:Int},dX xs=some M→dW y=some n→dX (xs++[y])=some (M++[n])
 | [],M,y,n,h,k=>by
  obtain rfl:=sI h
  simp[dX,k]
 | x::r,M,y,n,h,k=>by
  rw[dX] at h
  cases e:dW x with
  | none=>rw[e] at h;simp at h
  | some a =>
   cases e2:dX r with
   | none=>rw[e,e2] at h;simp at h
   | some m =>
    rw[e,e2] at h
    obtain rfl:=sI h
    rw[List.cons_append,dX,e,lD e2 k]
    rfl
theorem lC:∀ {xs:List (List UInt8)} {y:List UInt8},y∈xs→dW y=none→dX xs=none
 | [],y,h,_=>by simp at h
 | x::r,y,h,k=>by
  rw[dX]
  rcases List.mem_cons.1 h with rfl|h
  ·rw[k]
  ·rw[lC h k]
   cases dW x<;>rfl
theorem mi (x:List UInt8) (w:World) (hr:Reads w) (hx:x.length≤100000):Calls J 113 #[H ⟨x.toArray⟩] w fun e w'=>(∃v,e= Y (R #[v,F (iz x).isSome])∧ed w' w.heap.size v ((iz x).getD []))∧Below w.heap.size w w':=by
 have hsp:=nz x 44 w hr (by omega)
 have hln:=io 44 x
 unfold iz
 obtain ⟨ls,hls⟩:∃ls,aD 44 x=ls:=⟨_,rfl⟩
 rw[hls] at hsp hln ⊢
 have hspH:Hid _:=hsp
 clear hsp hls
 go_enter Tryz.func113,Tryz.ntmps113
 go_wp2_with fail
 refine cM (show Calls _ _ _ _ _ from hspH.out) ?_
 rintro e w1 ⟨rfl,hrow,hb⟩
 have hH:Hid (s9 w1 (some ⟨w.heap.size,0,none⟩) ls∧Below w.heap.size w w1∧Reads w1):=⟨hrow,hb,hr.below hb⟩
 clear hspH hrow hb hr
 go_wp2
 go_loopw [4,12] (fun v i wr=>∃j:Nat,j≤ls.length∧i= I O j∧Hid (∃M,dX (ls.take j)=some M∧M.length=j∧ed wr w1.heap.size v M∧Below w1.heap.size w1 wr)) (fun _ i _=>ls.length-(intOf i).toNat)
 case atStart=>exact ⟨0,nZ _,rfl,[],rfl,rfl,ai.nil _ _ _ _ _,bR _ _⟩
 case round =>
  obtain ⟨j,hj,rfl,hov⟩:=hrel
  obtain ⟨M,hM,hMl,hown,hbl⟩:=hov.out
  clear hov
  by_cases hlt:j<ls.length
  ·have hltz:(j:Int)<(ls.length:Int):=by omega
   obtain ⟨b,off,hA,_,hcs⟩:=(hH.out.1.below hbl).at hlt
   obtain ⟨y,hy⟩:∃y,ls[j]=y:=⟨_,rfl⟩
   have e0:=hcs j hlt 0 (by omega)
   rw[hy] at e0
   simp only[Option.some.injEq,Addr.mk.injEq,and_true] at hA
   obtain ⟨rfl,rfl⟩:=hA
   have e1:wr.cell? ⟨w.heap.size,j,none⟩=some (H ⟨y.toArray⟩):=by simpa[wT] using e0
   have hpn:=gq y wr (hH.out.2.2.below hbl)
   clear hcs e0
   cases hq:dW y with
   | none =>
    rw[hq] at hpn
    have hpnH:Hid _:=hpn
    have hfin:Hid (dX ls=none∧Below w.heap.size w wr):=⟨lC (by rw[←hy];exact gM hlt) hq,hH.out.2.1.trans (hbl.mono hH.out.2.1.size)⟩
    clear hpn hM hown hbl hq hy
    go_wp2_with fail
    refine cM (show Calls _ _ _ _ _ from hpnH.out) ?_
    rintro e w2 ⟨rfl,hb2⟩
    have hfin2:Hid (dX ls=none∧Below w.heap.size w w2):=⟨hfin.out.1,hfin.out.2.trans (hb2.mono hfin.out.2.size)⟩
    clear hpnH hfin hb2
    go_wp2
    go_ret2
    refine ⟨⟨Z none 0 0,?_,?_⟩,hfin2.out.2⟩
    ·rw[hfin2.out.1];rfl
    ·rw[hfin2.out.1];exact ai.nil _ _ _ _ _
   | some n =>
    rw[hq] at hpn
    have hpnH:Hid _:=hpn
    have hst:Hid (dX (ls.take (j+1))=some (M++[n])∧(M++[n]).length=j+1):=⟨by rw[List.take_succ_eq_append_getElem hlt,hy];exact lD hM hq,by simp[hMl]⟩
    have hoH:Hid (ed wr w1.heap.size u4 M∧Below w1.heap.size w1 wr):=⟨hown,hbl⟩
    clear hpn hM hown hbl hq hy
    go_wp2_with fail
    refine cM (show Calls _ _ _ _ _ from hpnH.out) ?_
    rintro e w2 ⟨rfl,hb2⟩
    clear hpnH
    have hg2:Gr w2 (w2.alloc (U #[I O n] 3)):=(gR _).alloc _
    have hoX:Hid (ed (w2.alloc (U #[I O n] 3)) w1.heap.size u4 M∧ar (w2.alloc (U #[I O n] 3)) (some ⟨w2.heap.size,0,none⟩) [n]∧M.length+1≤maxLen∧(M.length+1)*8≤140737488355328∧Below w1.heap.size w1 (w2.alloc (U #[I O n] 3))):=⟨(hoH.out.1.below hb2).gr hg2,im rfl n 3,by unfold maxLen;omega,by omega,(hoH.out.2.trans (hb2.mono hoH.out.2.size)).trans (hg2.below.mono (hoH.out.2.trans (hb2.mono hoH.out.2.size)).size)⟩
    clear hg2 hb2 hoH
    go_wp2_with (at_builtin;refine aW _ rfl _ _ rfl w1.heap.size u4 M [n] (some ⟨w2.heap.size,0,none⟩) 1 rfl rfl hoX.out.1 hoX.out.2.1 (fun h=>by cases h) hoX.out.2.2.1 hoX.out.2.2.2.1 hoX.out.2.2.2.2.size ?_;intro v7 w7 hown7 hg7)
    have hfin7:Hid (ed w7 w1.heap.size v7 (M++[n])∧Below w1.heap.size w1 w7):=⟨hown7,hoX.out.2.2.2.2.trans (ai.grown_below hoX.out.1 hg7 hoX.out.2.2.2.2.size)⟩
    clear hown7 hg7 hoX
    go_roundw
    case rel=>exact ⟨j+1,by omega,by go_num,_,hst.out.1,hst.out.2,hfin7.out.1,hfin7.out.2⟩
    case measure=>simp[intOf];omega
  ·have hltz:¬(j:Int)<(ls.length:Int):=by omega
   rw[List.take_of_length_le (by omega)] at hM
   have hfin:Hid (dX ls=some M∧ed wr w.heap.size u4 M∧Below w.heap.size w wr):=⟨hM,hown.mono hH.out.2.1.size,hH.out.2.1.trans (hbl.mono hH.out.2.1.size)⟩
   clear hM hown hbl
   go_wp2
   go_ret2
   refine ⟨⟨u4,?_,?_⟩,hfin.out.2.2⟩
   ·rw[hfin.out.1];rfl
   ·rw[hfin.out.1];exact hfin.out.2.1

structure Box (w:World) (b:Nat) (s:Stp):Prop where
 c0:w.cell? ⟨b,0,none⟩=some (I O s.k)
 c1:w.cell? ⟨b,1,none⟩=some (I O s.a)
 c2:w.cell? ⟨b,2,none⟩=some (I O s.b)
 c3:w.cell? ⟨b,3,none⟩=some (I O s.c)
 c4:w.cell? ⟨b,4,none⟩=some (I O s.o)
 c5:w.cell? ⟨b,5,none⟩=some (I O s.v)
 c6:w.cell? ⟨b,6,none⟩=some (Z s.p s.l.length s.n)
 fz:∀j,w.frozen? ⟨b,j,none⟩=false
 lt:b<w.heap.size
theorem Box.below {w w':World} {b:Nat} {s:Stp} (h:Box w b s) (k:Below w.heap.size w w'):Box w' b s :=
 ⟨(k.cell (p:=⟨b,0,none⟩) h.lt).trans h.c0,(k.cell (p:=⟨b,1,none⟩) h.lt).trans h.c1,(k.cell (p:=⟨b,2,none⟩) h.lt).trans h.c2,(k.cell (p:=⟨b,3,none⟩) h.lt).trans h.c3,(k.cell (p:=⟨b,4,none⟩) h.lt).trans h.c4,(k.cell (p:=⟨b,5,none⟩) h.lt).trans h.c5,(k.cell (p:=⟨b,6,none⟩) h.lt).trans h.c6,fun j=>(k.frozen (p:=⟨b,j,none⟩) h.lt).trans (h.fz j),nL h.lt k.size⟩
theorem ee {w:World} {B j j':Nat} {u x:Value} (hx:w.cell? ⟨B,j',none⟩=some x):(w.setCell ⟨B,j,none⟩ u).cell? ⟨B,j',none⟩=some (if j'=j then u else x):=by
 by_cases h:j'=j
 ·subst h;rw[if_pos rfl];exact World.cell?_setCell_same _ _ _ hx
 ·rw[if_neg h,World.cell?_setCell_other _ _ _ _ (by intro e;injection e with e1 e2;exact h e2.symm)];exact hx
theorem Box.set {w:World} {b:Nat} {s t:Stp} (h:Box w b s) (j:Nat) (u:Value)
  (h0:some (if 0=j then u else I O s.k)=some (I O t.k)) (h1:some (if 1=j then u else I O s.a)=some (I O t.a)) (h2:some (if 2=j then u else I O s.b)=some (I O t.b)) (h3:some (if 3=j then u else I O s.c)=some (I O t.c)) (h4:some (if 4=j then u else I O s.o)=some (I O t.o)) (h5:some (if 5=j then u else I O s.v)=some (I O t.v)) (h6:some (if 6=j then u else Z s.p s.l.length s.n)=some (Z t.p t.l.length t.n)):Box (w.setCell ⟨b,j,none⟩ u) b t :=
 ⟨(ee h.c0).trans h0,(ee h.c1).trans h1,(ee h.c2).trans h2,(ee h.c3).trans h3,(ee h.c4).trans h4,(ee h.c5).trans h5,(ee h.c6).trans h6,fun i=>by simp only[World.frozen?_setCell];exact h.fz i,by simpa[World.setCell] using h.lt⟩
structure Kept (b:Nat) (w w':World):Prop where
 os:w'.os=w.os
 tape:w'.tape=w.tape
 output:w'.output=w.output
 size:w.heap.size≤w'.heap.size
 block:∀k,k<w.heap.size→k≠b→w'.heap[k]? = w.heap[k]?
theorem Kept.of {b:Nat} {w w':World} (h:Below w.heap.size w w'):Kept b w w':=⟨h.os,h.tape,h.output,h.size,fun k hk _=>h.block k hk⟩
theorem Kept.set {b:Nat} {w w':World} (h:Kept b w w') (j:Nat) (u:Value):Kept b w (w'.setCell ⟨b,j,none⟩ u) :=
 ⟨h.os,h.tape,h.output,by simpa[World.setCell] using h.size,fun k hk hn=>(Below.heap_setCell w' ⟨b,j,none⟩ u k hn).trans (h.block k hk hn)⟩
theorem Kept.trans {b:Nat} {w w' w'':World} (h:Kept b w w') (k:Kept b w' w''):Kept b w w'' :=
 ⟨k.os.trans h.os,k.tape.trans h.tape,k.output.trans h.output,nT h.size k.size,fun i hi hn=>(k.block i (nL hi h.size) hn).trans (h.block i hi hn)⟩
theorem Kept.below {b B:Nat} {w w':World} (h:Kept b w w') (hB:B≤b) (hs:B≤w.heap.size):Below B w w' :=
 ⟨h.os,h.tape,h.output,h.size,fun k hk=>h.block k (by omega) (by omega)⟩
structure Good (lo:Nat) (w:World) (s:Stp):Prop where
 row:ar w s.p s.l
 len:s.l.length≤maxLen
 nil:s.p=none→s.n=0
 far:∀a,s.p=some a→lo≤a.block∧a.block<w.heap.size
theorem o7 {b:Nat} {w w':World} {A:Option Addr} {l:List Int} (h:ar w A l) (k:Kept b w w') (hf:∀a,A=some a→a.block≠b):ar w' A l:=by
 rcases h with h|⟨c,off,rfl,hc,hcs⟩
 ·exact oL h
 ·have hn:c≠b:=hf _ rfl
  exact oR ⟨c,off,rfl,nL hc k.size,fun j hj i hi=>(World.cell?_of_block (w:=w) (k.block c hc hn)).trans (hcs j hj i hi)⟩
theorem Good.kept {b lo:Nat} {w w':World} {s:Stp} (h:Good lo w s) (hlo:b<lo) (k:Kept b w w'):Good lo w' s:=⟨o7 h.row k (fun a ha=>by have:=h.far a ha;omega),h.len,h.nil,fun a ha=>⟨(h.far a ha).1,nL (h.far a ha).2 k.size⟩⟩
theorem Good.as {b:Nat} {w:World} {s t:Stp} (h:Good b w s) (hl:t.l=s.l) (hp:t.p=s.p) (hn:t.n=s.n):Good b w t:=⟨by rw[hl,hp];exact h.row,by rw[hl];exact h.len,by rw[hp,hn];exact h.nil,by rw[hp];exact h.far⟩

theorem o6 (s:Stp) (x:List UInt8) (b:Nat) (w:World) (hB:Box w b s):Calls J 78 #[L (some ⟨b,0,none⟩),I .u8 79,H ⟨x.toArray⟩] w fun e w'=>e= Y (F (db x != 0))∧w'=w.setCell ⟨b,4,none⟩ (I O (db x)):=by
 have ho:=vy x w
 have hoH:Hid _:=ho
 have hc:=hB.c4
 have hz:=hB.fz 4
 clear ho hB
 obtain ⟨n,hn⟩:∃n,db x=n:=⟨_,rfl⟩
 rw[hn] at hoH ⊢
 clear hn
 go_enter Tryz.func78,Tryz.ntmps78
 go_wp2_with fail
 refine cM (show Calls _ _ _ _ _ from hoH.out) ?_
 rintro e w1 ⟨rfl,rfl⟩
 go_wp2
 go_ret
 exact ⟨rfl,rfl⟩

theorem lH (s:Stp) (x:List UInt8) (b:Nat) (w:World) (hB:Box w b s) (hr:Reads w) (hx:x.length≤100000):Calls J 78 #[L (some ⟨b,0,none⟩),I .u8 76,H ⟨x.toArray⟩] w fun e w'=>e= Y (F (iz x).isSome)∧∃v w1,ed w1 w.heap.size v ((iz x).getD [])∧Below w.heap.size w w1∧w'=w1.setCell ⟨b,6,none⟩ v:=by
 have ho:=mi x w hr hx
 have hoH:Hid _:=ho
 have hBH:Hid (Box w b s):=hB
 clear ho hB hr
 go_enter Tryz.func78,Tryz.ntmps78
 go_wp2_with fail
 refine cM (show Calls _ _ _ _ _ from hoH.out) ?_
 rintro e w1 ⟨⟨v,rfl,hv⟩,hb⟩
 have hc:=(hBH.out.below hb).c6
 have hz:=(hBH.out.below hb).fz 6
 have hvH:Hid (ed w1 w.heap.size v ((iz x).getD [])∧Below w.heap.size w w1):=⟨hv,hb⟩
 obtain ⟨A,cap,hvA,-,-,-⟩:=ai.row bP hv
 subst hvA
 clear hv hb hoH hBH
 go_wp2
 go_ret
 exact ⟨rfl,_,w1,hvH.out.1,hvH.out.2,rfl⟩

theorem ew (x:List UInt8) (b:Nat) (p:Int) (f:Nat) (w:World) (hr:Reads w) (hf:xd p=f) (h1:(p==79)=false) (h2:(p==76)=false) (u:Value) (hc:w.cell? ⟨b,f,none⟩=some u) (hz:w.frozen? ⟨b,f,none⟩=false):Calls J 78 #[L (some ⟨b,0,none⟩),I .u8 p,H ⟨x.toArray⟩] w fun e w'=>e= Y (F (dW x).isSome)∧∃w1,Below w.heap.size w w1∧w'=w1.setCell ⟨b,f,none⟩ (I O ((dW x).getD 0)):=by
 have hfl:=mF b p w
 rw[hf] at hfl
 have hflH:Hid _:=hfl
 have hnm:=gq x w hr
 have hnmH:Hid _:=hnm
 clear hfl hnm hf hr
 go_enter Tryz.func78,Tryz.ntmps78
 go_wp2_with fail
 refine cM (show Calls _ _ _ _ _ from hflH.out) ?_
 rintro e w1 ⟨rfl,rfl⟩
 clear hflH
 go_wp2_with fail
 refine cM (show Calls _ _ _ _ _ from hnmH.out) ?_
 rintro e w2 ⟨rfl,hb⟩
 have hlt:=World.block_lt_of_cell? w1 _ hc
 have hc2:w2.cell? ⟨b,f,none⟩=some u:=(hb.cell (p:=⟨b,f,none⟩) hlt).trans hc
 have hz2:w2.frozen? ⟨b,f,none⟩=false:=(hb.frozen (p:=⟨b,f,none⟩) hlt).trans hz
 have hbH:Hid _:=hb
 clear hb hnmH hc hz hlt
 go_wp2
 go_ret
 exact ⟨rfl,w2,hbH.out,rfl⟩
theorem mj (s:Stp) (p:UInt8) (hp:p∈([65,66,67,79,86,76]:List UInt8)) (x:List UInt8) (b:Nat) (w:World) (hB:Box w b s) {lo:Nat} (hlo:b<lo) (hlw:lo≤w.heap.size) (hG:Good lo w s) (hr:Reads w) (hx:x.length≤100000) :
  Calls J 78 #[L (some ⟨b,0,none⟩),I .u8 (p.toNat:Int),H ⟨x.toArray⟩] w fun e w'=>e= Y (F (d8 s p x).isSome)∧Kept b w w'∧∀t,d8 s p x=some t→∃t',clr t'=clr t∧Box w' b t'∧Good lo w' t':=by
 simp only[List.mem_cons,List.not_mem_nil,or_false] at hp
 rcases hp with rfl|rfl|rfl|rfl|rfl|rfl
 ·refine cM (ew x b 65 1 w hr rfl rfl rfl _ hB.c1 (hB.fz 1)) ?_
  rintro e w' ⟨rfl,w1,hb,rfl⟩
  have hpt:d8 s 65 x=match dW x with
   | none=>none
   | some n=>some { s with a:=n }:=by unfold d8;rw[if_neg (by decide),if_neg (by decide)];rfl
  rw[hpt]
  have hk:Kept b w (w1.setCell ⟨b,1,none⟩ (I O ((dW x).getD 0))):=(Kept.of hb).set 1 _
  cases hq:dW x with
  | none=>exact ⟨rfl,by rw[hq] at hk;exact hk,fun t ht=>by cases ht⟩
  | some n =>
   rw[hq] at hk
   refine ⟨rfl,hk,fun t ht=> ?_⟩
   obtain rfl:=sI ht
   exact ⟨_,rfl,(hB.below hb).set 1 _ rfl rfl rfl rfl rfl rfl rfl,(hG.kept hlo hk).as rfl rfl rfl⟩
 ·refine cM (ew x b 66 2 w hr rfl rfl rfl _ hB.c2 (hB.fz 2)) ?_
  rintro e w' ⟨rfl,w1,hb,rfl⟩
  have hpt:d8 s 66 x=match dW x with
   | none=>none
   | some n=>some { s with b:=n }:=by unfold d8;rw[if_neg (by decide),if_neg (by decide)];rfl
  rw[hpt]
  have hk:Kept b w (w1.setCell ⟨b,2,none⟩ (I O ((dW x).getD 0))):=(Kept.of hb).set 2 _
  cases hq:dW x with
  | none=>exact ⟨rfl,by rw[hq] at hk;exact hk,fun t ht=>by cases ht⟩
  | some n =>
   rw[hq] at hk
   refine ⟨rfl,hk,fun t ht=> ?_⟩
   obtain rfl:=sI ht
   exact ⟨_,rfl,(hB.below hb).set 2 _ rfl rfl rfl rfl rfl rfl rfl,(hG.kept hlo hk).as rfl rfl rfl⟩
 ·refine cM (ew x b 67 3 w hr rfl rfl rfl _ hB.c3 (hB.fz 3)) ?_
  rintro e w' ⟨rfl,w1,hb,rfl⟩
  have hpt:d8 s 67 x=match dW x with
   | none=>none
   | some n=>some { s with c:=n }:=by unfold d8;rw[if_neg (by decide),if_neg (by decide)];rfl
  rw[hpt]
  have hk:Kept b w (w1.setCell ⟨b,3,none⟩ (I O ((dW x).getD 0))):=(Kept.of hb).set 3 _
  cases hq:dW x with
  | none=>exact ⟨rfl,by rw[hq] at hk;exact hk,fun t ht=>by cases ht⟩
  | some n =>
   rw[hq] at hk
   refine ⟨rfl,hk,fun t ht=> ?_⟩
   obtain rfl:=sI ht
   exact ⟨_,rfl,(hB.below hb).set 3 _ rfl rfl rfl rfl rfl rfl rfl,(hG.kept hlo hk).as rfl rfl rfl⟩
 ·refine cM (o6 s x b w hB) ?_
  rintro e w' ⟨rfl,rfl⟩
  have hk:Kept b w (w.setCell ⟨b,4,none⟩ (I O (db x))):=(Kept.of (bR _ _)).set 4 _
  have hpt:d8 s 79 x=if db x=0 then none else some { s with o:=db x }:=by unfold d8;rw[if_pos rfl]
  rw[hpt]
  by_cases h0:db x=0
  ·rw[if_pos h0]
   exact ⟨by rw[h0];rfl,hk,fun t ht=>by cases ht⟩
  ·rw[if_neg h0]
   refine ⟨by rw[show (db x != 0)=true by simpa using h0];rfl,hk,fun t ht=> ?_⟩
   obtain rfl:=sI ht
   exact ⟨_,rfl,hB.set 4 _ rfl rfl rfl rfl rfl rfl rfl,(hG.kept hlo hk).as rfl rfl rfl⟩
 ·refine cM (ew x b 86 5 w hr rfl rfl rfl _ hB.c5 (hB.fz 5)) ?_
  rintro e w' ⟨rfl,w1,hb,rfl⟩
  have hpt:d8 s 86 x=match dW x with
   | none=>none
   | some n=>some { s with v:=n }:=by unfold d8;rw[if_neg (by decide),if_neg (by decide)];rfl
  rw[hpt]
  have hk:Kept b w (w1.setCell ⟨b,5,none⟩ (I O ((dW x).getD 0))):=(Kept.of hb).set 5 _
  cases hq:dW x with
  | none=>exact ⟨rfl,by rw[hq] at hk;exact hk,fun t ht=>by cases ht⟩
  | some n =>
   rw[hq] at hk
   refine ⟨rfl,hk,fun t ht=> ?_⟩
   obtain rfl:=sI ht
   exact ⟨_,rfl,(hB.below hb).set 5 _ rfl rfl rfl rfl rfl rfl rfl,(hG.kept hlo hk).as rfl rfl rfl⟩
 ·refine cM (lH s x b w hB hr hx) ?_
  rintro e w' ⟨rfl,v,w1,hv,hb,rfl⟩
  have hk:Kept b w (w1.setCell ⟨b,6,none⟩ v):=(Kept.of hb).set 6 _
  have hpt:d8 s 76 x=match iz x with
   | none=>none
   | some l=>some { s with l:=l }:=by unfold d8;rw[if_neg (by decide),if_pos rfl];rfl
  rw[hpt]
  cases hq:iz x with
  | none=>exact ⟨rfl,hk,fun t ht=>by cases ht⟩
  | some l =>
   refine ⟨rfl,hk,fun t ht=> ?_⟩
   obtain rfl:=sI ht
   rw[hq] at hv
   obtain ⟨A,cap,rfl,hnil,hrow,hfar⟩:=ai.row bP hv
   have hf:∀a,A=some a→a.block≠b:=fun a ha=>by have:=(hfar a ha).1;have:=hB.lt;omega
   refine ⟨{ s with l:=l,p:=A,n:=cap },rfl,(hB.below hb).set 6 _ rfl rfl rfl rfl rfl rfl rfl,⟨?_,?_,hnil,fun a ha=>⟨nT hlw (hfar a ha).1,by have:=(hfar a ha).2;simpa[World.setCell] using this⟩⟩⟩
   ·exact o7 hrow ((Kept.of (bR _ _)).set 6 _) hf
   ·have h1:=congrArg List.length (mX hq)
    have h2:=io 44 x
    rw[List.length_map] at h1
    show l.length≤maxLen
    unfold maxLen
    omega

def jC:Stp:=fu 0
theorem wH (w:World):Box (w.alloc (U #[I O 0,I O 0,I O 0,I O 0,I O 0,I O 0,Z none 0 0] 121)) w.heap.size jC :=
 ⟨ab (gR _) rfl,ab (gR _) rfl,ab (gR _) rfl,ab (gR _) rfl,ab (gR _) rfl,ab (gR _) rfl,ab (gR _) rfl,fun j=>eC (gR _) j,by simp⟩
theorem nt {w:World} {B:Nat} {xs:List (List UInt8)} (h:s9 w (some ⟨B,0,none⟩) xs) {j:Nat} (hj:j<xs.length):w.cell? ⟨B,j,none⟩=some (H ⟨xs[j].toArray⟩):=by
 obtain ⟨b,off,hA,_,hcs⟩:=h.at hj
 have e0:=hcs j hj 0 (by omega)
 simp only[Option.some.injEq,Addr.mk.injEq,and_true] at hA
 obtain ⟨rfl,rfl⟩:=hA
 simpa[wT] using e0

theorem iQ:∀(ps qs:List UInt8) (xs ys:List (List UInt8)) (s:Stp),ps.length=xs.length→dJ s (ps++qs) (xs++ys)=match dJ s ps xs with
  | none=>none
  | some t=>dJ t qs ys
 | [],qs,[],ys,s,_=>rfl
 | p::ps,qs,x::xs,ys,s,h=>by
  rw[List.cons_append,List.cons_append,dJ,dJ]
  cases d8 s p x with
  | none=>rfl
  | some t=>exact iQ ps qs xs ys t (by simpa using h)
 | [],_,_::_,_,_,h=>by simp at h
 | _::_,_,[],_,_,h=>by simp at h
theorem tm {s t:Stp} (h:clr s=clr t) (p:UInt8) (x:List UInt8):(d8 s p x).map clr=(d8 t p x).map clr:=by
 obtain ⟨k,a,b,c,o,v,pp,n,l⟩:=s
 obtain ⟨k',a',b',c',o',v',pp',n',l'⟩:=t
 simp only[clr,Stp.mk.injEq,true_and] at h
 obtain ⟨rfl,rfl,rfl,rfl,rfl,rfl,rfl⟩:=h
 unfold d8
 split
 ·split<;>rfl
 ·split
  ·cases iz x<;>rfl
  ·cases dW x with
   | none=>rfl
   | some n =>
    simp only[Option.map]
    repeat' split
    all_goals rfl
def mt (k:Int) (ps:List UInt8) (r:List (List UInt8)) (b:Nat) (w w':World) (j:Nat):Prop:=∃t t',dJ (fu k) (ps.take j) (r.take j)=some t∧clr t'=clr t∧Box w' b t'∧Good (b+1) w' t'∧Kept b w w'
theorem mt.next {k:Int} {ps:List UInt8} {r:List (List UInt8)} {j:Nat} {t:Stp} (hl:r.length=ps.length) (hj:j<ps.length) (hj2:j<r.length) (h:dJ (fu k) (ps.take j) (r.take j)=some t):dJ (fu k) (ps.take (j+1)) (r.take (j+1))=d8 t ps[j] r[j]:=by
 rw[List.take_succ_eq_append_getElem hj,List.take_succ_eq_append_getElem hj2,iQ _ _ _ _ _ (by simp;omega),h]
 show dJ t [ps[j]] [r[j]]=_
 rw[dJ]
 cases d8 t ps[j] r[j]<;>rfl
theorem mt.fail {k:Int} {ps:List UInt8} {r:List (List UInt8)} {j:Nat} (hl:r.length=ps.length) (h:dJ (fu k) (ps.take j) (r.take j)=none):dJ (fu k) ps r=none:=by
 have:=iQ (ps.take j) (ps.drop j) (r.take j) (r.drop j) (fu k) (by simp;omega)
 rw[List.take_append_drop,List.take_append_drop,h] at this
 exact this

theorem km (c:UInt8):∀x,∀z∈aD c x,z.length≤x.length
 | [],z,h=>by simp[aD] at h;simp[h]
 | b::r,z,h=>by
  have ih:=km c r
  rw[aD] at h
  split at h
  ·rcases List.mem_cons.1 h with rfl|h
   ·simp
   ·have:=ih z h;simp;omega
  ·cases e:aD c r with
   | nil=>exact absurd e (fK c r)
   | cons y t =>
    rw[e] at h ih
    simp only[List.mem_cons] at h
    rcases h with rfl|h
    ·have:=ih y (by simp);simp;omega
    ·have:=ih z (by simp[h]);simp;omega
theorem Box.under {w w':World} {b B:Nat} {s:Stp} (h:Box w b s) (hb:b<B) (k:Below B w w'):Box w' b s :=
 ⟨(k.cell (p:=⟨b,0,none⟩) hb).trans h.c0,(k.cell (p:=⟨b,1,none⟩) hb).trans h.c1,(k.cell (p:=⟨b,2,none⟩) hb).trans h.c2,(k.cell (p:=⟨b,3,none⟩) hb).trans h.c3,(k.cell (p:=⟨b,4,none⟩) hb).trans h.c4,(k.cell (p:=⟨b,5,none⟩) hb).trans h.c5,(k.cell (p:=⟨b,6,none⟩) hb).trans h.c6,fun j=>(k.frozen (p:=⟨b,j,none⟩) hb).trans (h.fz j),nL h.lt k.size⟩
def zW (w:World) (t:Stp):Prop:=ar w t.p t.l∧t.l.length≤maxLen∧(t.p=none→t.n=0)
theorem fP {B b:Nat} {a w:World} (h:Below B a w) (hb:B≤b) (u0 u1 u2 u3 u4 u5 u6:Value) :
  Below B a (((((((w.setCell ⟨b,0,none⟩ u0).setCell ⟨b,1,none⟩ u1).setCell ⟨b,2,none⟩ u2).setCell ⟨b,3,none⟩ u3).setCell ⟨b,4,none⟩ u4).setCell ⟨b,5,none⟩ u5).setCell ⟨b,6,none⟩ u6) :=
 ((((((h.setCell (p:=⟨b,0,none⟩) hb _).setCell (p:=⟨b,1,none⟩) hb _).setCell (p:=⟨b,2,none⟩) hb _).setCell (p:=⟨b,3,none⟩) hb _).setCell (p:=⟨b,4,none⟩) hb _).setCell (p:=⟨b,5,none⟩) hb _).setCell (p:=⟨b,6,none⟩) hb _
theorem mh (x:List UInt8) (w:World) (hr:Reads w) (hx:x.length≤100000):Calls J 54 #[H ⟨x.toArray⟩] w fun e w'=>∃t',e= Y (R #[E #[I O t'.k,I O t'.a,I O t'.b,I O t'.c,I O t'.o,I O t'.v,Z t'.p t'.l.length t'.n],F (gm x).isSome])∧Below w.heap.size w w'∧∀t,gm x=some t→clr t'=clr t∧zW w' t'∧∀a,t'.p=some a→w.heap.size≤a.block∧a.block<w'.heap.size:=by
 obtain ⟨w0,hw0⟩:∃w0,w.alloc (U #[I O 0,I O 0,I O 0,I O 0,I O 0,I O 0,Z none 0 0] 121)=w0:=⟨_,rfl⟩
 have hB0:Box w0 w.heap.size jC:=hw0▸wH w
 have hb0:Below w.heap.size w w0:=hw0▸((gR w).alloc _).below
 have hs0:w0.heap.size=w.heap.size+1:=by rw[←hw0];simp
 have hsp:=nz x 32 w0 (hr.below hb0) (by omega)
 have hln:=io 32 x
 obtain ⟨ls,hls⟩:∃ls,aD 32 x=ls:=⟨_,rfl⟩
 rw[hls] at hsp hln
 obtain ⟨y,r,rfl⟩:∃y r,ls=y::r:=List.exists_cons_of_ne_nil (by rw[←hls];exact fK _ _)
 have hlp:gm x=if dn y=0∨r.length≠(dx (dn y)).length then none else dJ (fu (dn y)) (dx (dn y)) r:=by unfold gm;rw[hls]
 obtain ⟨LP,hLP⟩:∃LP,gm x=LP:=⟨_,rfl⟩
 rw[hLP] at hlp ⊢
 clear hLP
 have hrl0:∀z∈r,z.length≤100000:=fun z hz=>nT (km 32 x z (by rw[hls];simp[hz])) hx
 have hspH:Hid _:=hsp
 have hH0:Hid (Box w0 w.heap.size jC∧Below w.heap.size w w0∧Reads w0):=⟨hB0,hb0,hr.below hb0⟩
 have hrw:Hid (Reads w):=hr
 clear hsp hls hB0 hb0 hr
 go_enter Tryz.func54,Tryz.ntmps54
 go_wp2_with fail
 refine cM (show Calls _ _ _ _ _ from hspH.out) ?_
 rintro e w1 ⟨rfl,hrow,hb⟩
 clear hw0
 rw[hs0] at hrow
 have hH:Hid (s9 w1 (some ⟨w.heap.size+1,0,none⟩) (y::r)∧Box w1 w.heap.size jC∧Below w.heap.size w w1∧Reads w1):=⟨hrow,hH0.out.1.below hb,hH0.out.2.1.trans (hb.mono (by omega)),hH0.out.2.2.below hb⟩
 have e1:w1.cell? ⟨w.heap.size+1,0,none⟩=some (H ⟨y.toArray⟩):=nt hrow (j:=0) (by simp)
 have hlenc:(y::r).length=r.length+1:=rfl
 rw[hlenc]
 have hko:=qz y w1
 obtain ⟨k,hk⟩:∃k,dn y=k:=⟨_,rfl⟩
 rw[hk] at hko
 have hkoH:Hid _:=hko
 have hfo:=iM k w1
 obtain ⟨ps,hps⟩:∃ps,dx k=ps:=⟨_,rfl⟩
 obtain ⟨wo,hwo⟩:∃wo,e7 k=wo:=⟨_,rfl⟩
 rw[hps,hwo] at hfo
 have hfoH:Hid _:=hfo
 clear hrow hb hspH hH0 hko hfo hwo
 go_wp2_with fail
 refine cM (show Calls _ _ _ _ _ from hkoH.out) ?_
 rintro e w2 ⟨rfl,hw2⟩
 subst w2
 go_wp2_with fail
 refine cM (show Calls _ _ _ _ _ from hfoH.out) ?_
 rintro e w2 ⟨rfl,hw2⟩
 subst w2
 clear hkoH hfoH
 have hp4:ps.length≤4:=by rw[←hps];exact tj k
 by_cases hbad:k=0∨r.length≠ps.length
 ·rw[hk,hps,if_pos hbad] at hlp
  subst hlp
  have c0:=hH.out.2.1.c0
  have c1:=hH.out.2.1.c1
  have c2:=hH.out.2.1.c2
  have c3:=hH.out.2.1.c3
  have c4:=hH.out.2.1.c4
  have c5:=hH.out.2.1.c5
  have c6:=hH.out.2.1.c6
  have fz:=hH.out.2.1.fz
  by_cases hk0:k=0
  ·subst hk0
   go_wp2
   exact bodyPost_ret (v:= R #[E #[I O 0,I O 0,I O 0,I O 0,I O 0,I O 0,Z none 0 0],F false]) (by simp[results,Tryz.results54,go_sem,c0,c1,c2,c3,c4,c5,c6]) rfl ⟨jC,rfl,fP hH.out.2.2.1 (nR _) _ _ _ _ _ _ _,fun t ht=>by cases ht⟩
  ·have hkf:(k==0)=false:=by simpa using hk0
   have hkl:((r.length:Int)+1 != 1+(ps.length:Int))=true:=by simp;omega
   go_wp2
   exact bodyPost_ret (v:= R #[E #[I O 0,I O 0,I O 0,I O 0,I O 0,I O 0,Z none 0 0],F false]) (by simp[results,Tryz.results54,go_sem,c0,c1,c2,c3,c4,c5,c6]) rfl ⟨jC,rfl,fP hH.out.2.2.1 (nR _) _ _ _ _ _ _ _,fun t ht=>by cases ht⟩
 have hk0:(k==0)=false:=by simp;omega
 have hkl:((r.length:Int)+1 != 1+(ps.length:Int))=false:=by simp;omega
 go_wp2
 obtain ⟨W,hW⟩:∃W,w1.alloc (U #[I O k,I O 0,I O 0,I O 0,I O 0,I O 0,Z none 0 0] 121)=W:=⟨_,rfl⟩
 rw[hW]
 have hWs:W.heap.size=w1.heap.size+1:=by rw[←hW];simp
 have hbW:Below w1.heap.size w1 W:=by rw[←hW];exact ((gR w1).alloc _).below
 have hBW:Box W w1.heap.size (fu k):=by
  rw[←hW]
  exact ⟨ab (gR _) rfl,ab (gR _) rfl,ab (gR _) rfl,ab (gR _) rfl,ab (gR _) rfl,ab (gR _) rfl,ab (gR _) rfl,fun j=>eC (gR _) j,by simp⟩
 have hHW:Hid (s9 W (some ⟨w.heap.size+1,0,none⟩) (y::r)∧Box W w.heap.size jC∧Below w.heap.size w W∧Reads W∧W.heap.size=w1.heap.size+1∧w.heap.size<w1.heap.size∧Box W w1.heap.size (fu k)∧w.heap.size+1<w1.heap.size):=⟨hH.out.1.below hbW,hH.out.2.1.below hbW,hH.out.2.2.1.trans (hbW.mono hH.out.2.2.1.size),hH.out.2.2.2.below hbW,hWs,hH.out.2.1.lt,hBW,World.block_lt_of_cell? w1 _ e1⟩
 have hrl:Hid (∀z∈r,z.length≤100000):=hrl0
 clear hH hWs hbW hBW hW e1
 go_loopw [36] (fun i wr=>∃j:Nat,j≤ps.length∧i= I O j∧Hid (mt k ps r w1.heap.size W wr j)) (fun i _=>ps.length-(intOf i).toNat)
 case atStart=>exact ⟨0,nZ _,rfl,fu k,fu k,rfl,rfl,hHW.out.2.2.2.2.2.2.1,⟨oL rfl,nZ _,fun _=>rfl,fun a ha=>by cases ha⟩,Kept.of (bR _ _)⟩
 case round =>
  obtain ⟨j,hj,rfl,hov⟩:=hrel
  obtain ⟨t,t',hpt,hcl,hbx,hgd,hkp⟩:=hov.out
  clear hov
  by_cases hlt:j<ps.length
  ·have hltz:(j:Int)<(ps.length:Int):=by omega
   have hltr:j<r.length:=by omega
   obtain ⟨X,hX⟩:∃X,r[j]=X:=⟨_,rfl⟩
   have hkd:Kept w1.heap.size W wr.drew:=⟨hkp.os,hkp.tape,hkp.output,hkp.size,hkp.block⟩
   have hbd:Below w1.heap.size W wr.drew:=hkd.below (nR _) (by have:=hHW.out.2.2.2.2.1;omega)
   have hwc:W.cell? ⟨w.heap.size+1,1+j,none⟩=some (H ⟨X.toArray⟩):=by
    have:=nt hHW.out.1 (j:=1+j) (by simp;omega)
    rw[this]
    congr 3
    rw[←hX]
    simp[Nat.add_comm 1 j]
   have hS0:wr.drew.cell? ⟨w.heap.size+1,1+j,none⟩=some (H ⟨X.toArray⟩):=(hbd.cell (p:=⟨w.heap.size+1,1+j,none⟩) hHW.out.2.2.2.2.2.2.2).trans hwc
   have hSK:Hid (∀y1,Kept w1.heap.size wr.drew y1→y1.cell? ⟨w.heap.size+1,1+j,none⟩=some (H ⟨X.toArray⟩)):=fun y1 h1=>((h1.below (B:=w1.heap.size) (nR _) (nT (by have:=hHW.out.2.2.2.2.1;omega) hkd.size)).cell (p:=⟨w.heap.size+1,1+j,none⟩) hHW.out.2.2.2.2.2.2.2).trans hS0
   have hbxd:Box wr.drew w1.heap.size t':=⟨hbx.c0,hbx.c1,hbx.c2,hbx.c3,hbx.c4,hbx.c5,hbx.c6,hbx.fz,hbx.lt⟩
   have hgdd:Good (w1.heap.size+1) wr.drew t':=⟨hgd.row.below ((gR wr).drew).below,hgd.len,hgd.nil,hgd.far⟩
   have hw1:IntKind.i64.wrap (1+(j:Int))=1+(j:Int):=by rw[IntKind.wrap_i64];omega
   have hw2:(0:Int)≤1+(j:Int):=by omega
   have hw3:1+(j:Int)<(r.length:Int)+1:=by omega
   have hw4:(1+(j:Int)).toNat=1+j:=by omega
   have hbw:Below w.heap.size w wr.drew:=hHW.out.2.2.1.trans (hkd.below (Nat.le_of_lt hHW.out.2.2.2.2.2.1) hHW.out.2.2.1.size)
   have hpp:=mj t' ps[j] (by have:=(vC (k:=k)).1;rw[hps] at this;exact this _ (gM hlt)) X w1.heap.size wr.drew hbxd (Nat.lt_succ_self _) (nT (by have:=hHW.out.2.2.2.2.1;omega) hkd.size) hgdd (hrw.out.below hbw) (by rw[←hX];exact hrl.out _ (gM hltr))
   have hnxt:=mt.next (by omega) hlt hltr hpt
   rw[hX] at hnxt
   have hcq:=tm hcl ps[j] X
   clear hcl
   cases hq:d8 t' ps[j] X with
   | none =>
    rw[hq] at hpp hcq
    have hppH:Hid _:=hpp
    have hLPn:LP=none:=by
     rw[hlp,hk,hps,if_neg hbad]
     refine mt.fail (j:=j+1) (by omega) ?_
     rw[hnxt]
     cases hz:d8 t ps[j] X with
     | none=>rfl
     | some z=>rw[hz] at hcq;cases hcq
    subst hLPn
    have hZ:Hid (∀y1,Kept w1.heap.size wr.drew y1→Box y1 w.heap.size jC∧Below w.heap.size w y1):=fun y1 h1=>⟨hHW.out.2.1.under hHW.out.2.2.2.2.2.1 (hbd.trans (h1.below (nR _) (nT (by have:=hHW.out.2.2.2.2.1;omega) hkd.size))),hbw.trans (h1.below (Nat.le_of_lt hHW.out.2.2.2.2.2.1) hbw.size)⟩
    clear hpp hcq hq hnxt hpt hbx hgd hkp hkd hbd hwc hbxd hgdd hbw hlp
    go_upto_region 10 with fail
    refine wp_region_noPanic ?_
    refine wp_region_held_drew (S:=fun w'=>w'.cell? ⟨w.heap.size+1,1+j,none⟩=some (H ⟨X.toArray⟩)) (by kernel_rfl) (hS0) (fun hHeld=> ?_)
    refine tks [0,1,2,3,4,5,6,7] (by assumption) ?_
    iterate 8 (refine tk (v:= ?_) (by rfl) (by kernel_rfl) ?_ ?_;rotate_left;· (refine oL ⟨by rfl,?_⟩;intro w hSw;(try dsimp only at hSw);go_simp<;>with_reducible rfl);try simp only[Act.put,yA,aE,yS])
    refine tk0 ?_
    refine wpAnyH_ready (rs:=[8]) (by kernel_rfl) (by simp) ?_
    refine AllReadyH.cons (o:= ?oia9) ?hopa9 (fun K hK=> ?stepa9) ?morea9
    case hopa9=>(simp only[zA,z0',zS];rfl)
    case morea9=>exact AllReadyH.nil
    go_simp
    (go_at_call 78;(refine cM (show Calls _ _ _ _ _ from hppH.out) ?_);rintro e y1 ⟨rfl,hk1,hres⟩;have hS1:y1.cell? ⟨w.heap.size+1,1+j,none⟩=some (H ⟨X.toArray⟩):=hSK.out y1 hk1;have hzb:=hZ.out y1 hk1;obtain ⟨c0,c1,c2,c3,c4,c5,c6,fz,_⟩:=hzb.1;have hfb:Hid _:=hzb.2;clear hk1 hres hzb)
    first|(go_wp2_with fail)|skip
    refine hK.out _ _ ?_ (fun hHeld=> ?_)
    ·(try dsimp only);(first|with_reducible exact hS0|with_reducible exact hS1)
    clear hK K
    try simp only[Act.put,yA,aE,yS]
    refine tks [9] (by assumption) ?_
    iterate 1 (refine tk (v:= ?_) (by rfl) (by kernel_rfl) ?_ ?_;rotate_left;· (refine oL ⟨by rfl,?_⟩;intro w hSw;(try dsimp only at hSw);go_simp<;>with_reducible rfl);try simp only[Act.put,yA,aE,yS])
    refine tk0 ?_
    refine wpAnyH_done (by kernel_rfl) ?_ _
    refine NoPanic.normal ?_
    go_wp2
    exact bodyPost_ret (v:= R #[E #[I O 0,I O 0,I O 0,I O 0,I O 0,I O 0,Z none 0 0],F false]) (by simp[results,Tryz.results54,go_sem,c0,c1,c2,c3,c4,c5,c6]) rfl ⟨jC,rfl,fP hfb.out (nR _) _ _ _ _ _ _ _,fun t ht=>by cases ht⟩
   | some z =>
    rw[hq] at hpp hcq
    have hppH:Hid _:=hpp
    have hnx:Hid (∀y1,Kept w1.heap.size wr.drew y1→(∀t,some z=some t→∃t',clr t'=clr t∧Box y1 w1.heap.size t'∧Good (w1.heap.size+1) y1 t')→Hid (mt k ps r w1.heap.size W y1 (j+1))):=by
     intro y1 h1 h2
     obtain ⟨t2,h3,h4,h5⟩:=h2 z rfl
     cases hz:d8 t ps[j] X with
     | none=>rw[hz] at hcq;cases hcq
     | some z2 =>
      rw[hz] at hcq
      exact ⟨z2,t2,hnxt.trans hz,h3.trans (sI hcq),h4,h5,hkd.trans h1⟩
    clear hpp hcq hq hnxt hpt hbx hgd hkp hkd hbd hwc hbxd hgdd hbw hlp
    go_upto_region 10 with fail
    refine wp_region_noPanic ?_
    refine wp_region_held_drew (S:=fun w'=>w'.cell? ⟨w.heap.size+1,1+j,none⟩=some (H ⟨X.toArray⟩)) (by kernel_rfl) (hS0) (fun hHeld=> ?_)
    refine tks [0,1,2,3,4,5,6,7] (by assumption) ?_
    iterate 8 (refine tk (v:= ?_) (by rfl) (by kernel_rfl) ?_ ?_;rotate_left;· (refine oL ⟨by rfl,?_⟩;intro w hSw;(try dsimp only at hSw);go_simp<;>with_reducible rfl);try simp only[Act.put,yA,aE,yS])
    refine tk0 ?_
    refine wpAnyH_ready (rs:=[8]) (by kernel_rfl) (by simp) ?_
    refine AllReadyH.cons (o:= ?oib9) ?hopb9 (fun K hK=> ?stepb9) ?moreb9
    case hopb9=>(simp only[zA,z0',zS];rfl)
    case moreb9=>exact AllReadyH.nil
    go_simp
    (go_at_call 78;(refine cM (show Calls _ _ _ _ _ from hppH.out) ?_);rintro e y1 ⟨rfl,hk1,hres⟩;have hS1:y1.cell? ⟨w.heap.size+1,1+j,none⟩=some (H ⟨X.toArray⟩):=hSK.out y1 hk1;have hkr:Hid _:=hk1;have hresH:Hid _:=hres;clear hk1 hres)
    first|(go_wp2_with fail)|skip
    refine hK.out _ _ ?_ (fun hHeld=> ?_)
    ·(try dsimp only);(first|with_reducible exact hS0|with_reducible exact hS1)
    clear hK K
    try simp only[Act.put,yA,aE,yS]
    refine tks [9] (by assumption) ?_
    iterate 1 (refine tk (v:= ?_) (by rfl) (by kernel_rfl) ?_ ?_;rotate_left;· (refine oL ⟨by rfl,?_⟩;intro w hSw;(try dsimp only at hSw);go_simp<;>with_reducible rfl);try simp only[Act.put,yA,aE,yS])
    refine tk0 ?_
    refine wpAnyH_done (by kernel_rfl) ?_ _
    refine NoPanic.normal ?_
    go_wp2
    go_roundw
    case rel=>exact ⟨j+1,by omega,by go_num,hnx.out _ hkr.out hresH.out⟩
    case measure=>simp[intOf];omega
  ·have hltz:¬(j:Int)<(ps.length:Int):=by omega
   rw[List.take_of_length_le (by omega),List.take_of_length_le (by omega)] at hpt
   have hLP:LP=some t:=by rw[hlp,hk,hps,if_neg hbad];exact hpt
   subst hLP
   have hbd:Below w1.heap.size W wr:=hkp.below (nR _) (by have:=hHW.out.2.2.2.2.1;omega)
   have hzb:=hHW.out.2.1.under hHW.out.2.2.2.2.2.1 hbd
   have hbw:Hid (Below w.heap.size w wr):=hHW.out.2.2.1.trans (hkp.below (Nat.le_of_lt hHW.out.2.2.2.2.2.1) hHW.out.2.2.1.size)
   obtain ⟨c0,c1,c2,c3,c4,c5,c6,fz,_⟩:=hzb
   obtain ⟨d0,d1,d2,d3,d4,d5,d6,dz,_⟩:=hbx
   have hfin:Hid (clr t'=clr t∧Good (w1.heap.size+1) wr t'∧w.heap.size<w1.heap.size):=⟨hcl,hgd,hHW.out.2.2.2.2.2.1⟩
   clear hpt hlp hcl hgd hkp hbd
   go_wp2
   refine bodyPost_ret (v:= R #[E #[I O t'.k,I O t'.a,I O t'.b,I O t'.c,I O t'.o,I O t'.v,Z t'.p t'.l.length t'.n],F true]) (by simp[results,Tryz.results54,go_sem,c0,c1,c2,c3,c4,c5,c6]) rfl ⟨t',rfl,fP hbw.out (nR _) _ _ _ _ _ _ _,hfin.out.1,⟨?_,hfin.out.2.1.len,hfin.out.2.1.nil⟩,fun a ha=>⟨by have:=(hfin.out.2.1.far a ha).1;have:=hfin.out.2.2;omega,by have:=(hfin.out.2.1.far a ha).2;simpa[World.setCell] using this⟩⟩
   exact o7 hfin.out.2.1.row ((((((((Kept.of (bR _ _)).set 0 _).set 1 _).set 2 _).set 3 _).set 4 _).set 5 _).set 6 _) (fun a ha=>by have:=hfin.out.2.1.far a ha;have:=hfin.out.2.2;omega)

theorem Tryz.infoQ2:(Tryz.prog.info? 121).map (fun i=>(i.zero,i.size,i.bytes))=some (some (E #[I O 0,I O 0,I O 0,I O 0,I O 0,I O 0,Z none 0 0]),7,72):=by kernel_rfl

structure ApartS (w:World) (base:Nat) (ob:Option Nat) (x:Stp):Prop where
 row:ar w x.p x.l
 len:x.l.length≤maxLen
 nil:x.p=none→x.n=0
 own:∀a,x.p=some a→base≤a.block∧a.block<w.heap.size∧ob≠some a.block
structure OwnS (w:World) (base:Nat) (v:Value) (l:List Stp):Prop where
 own:ai iH 7 121 w base v l
 each:∀x∈l,ApartS w base v.ownBlock x
theorem OwnS.nil (w:World) (base:Nat):OwnS w base (Z none 0 0) []:=⟨ai.nil _ _ _ _ _,fun x hx=>by cases hx⟩
theorem ApartS.below {w w':World} {base:Nat} {ob:Option Nat} {x:Stp} (h:ApartS w base ob x) (q:Below w.heap.size w w'):ApartS w' base ob x :=
 ⟨h.row.below q,h.len,h.nil,fun a ha=>⟨(h.own a ha).1,nL (h.own a ha).2.1 q.size,(h.own a ha).2.2⟩⟩
theorem OwnS.below {w w':World} {base:Nat} {v:Value} {l:List Stp} (h:OwnS w base v l) (q:Below w.heap.size w w'):OwnS w' base v l:=⟨h.own.below q,fun x hx=>(h.each x hx).below q⟩
theorem OwnS.gr {w w':World} {base:Nat} {v:Value} {l:List Stp} (h:OwnS w base v l) (q:Gr w w'):OwnS w' base v l:=h.below q.below
theorem OwnS.stps {w:World} {base:Nat} {v:Value} {l:List Stp} (h:OwnS w base v l):∃A cap,v= Z A l.length cap∧(A=none→cap=0)∧Stps w A l:=by
 obtain ⟨A,cap,hv,hA,hr,ha⟩:=h.own.row je
 exact ⟨A,cap,hv,hA,⟨hr,fun x hx=>⟨(h.each x hx).row,(h.each x hx).len,(h.each x hx).nil⟩⟩⟩
def NwQ (n:Nat) (A:Option Addr) (q:List Stp):Prop:=(∀a,A=some a→n≤a.block)∧∀s∈q,∀a,s.p=some a→n≤a.block
theorem OwnS.nw {w:World} {base c:Nat} {A:Option Addr} {l:List Stp} (h:OwnS w base (Z A l.length c) l):NwQ base A l:=⟨fun a ha=>(World.ownsRow.lt h.own a.block (by rw[ha];rfl)).1,fun s hs a ha=>((h.each s hs).own a ha).1⟩
theorem ApartS.grown {w w':World} {base:Nat} {ob ob':Option Nat} {x:Stp} (h:ApartS w base ob x) (q:w.grownBy w' ob) (hob:ob'=ob∨ob'=some w.heap.size):ApartS w' base ob' x:=by
 refine ⟨?_,h.len,h.nil,fun a ha=>⟨(h.own a ha).1,nL (h.own a ha).2.1 q.size,?_⟩⟩
 ·rcases h.row with k|⟨b,off,hp,hb,hc⟩
  ·exact oL k
  ·refine oR ⟨b,off,hp,nL hb q.size,fun j hj i hi=> ?_⟩
   have hne:=(h.own _ hp).2.2
   rw[World.cell?_of_block (a:=⟨b,off+j*1+i,none⟩) (q.block b hb fun e=>hne e.symm)]
   exact hc j hj i hi
 ·rcases hob with e|e
  ·rw[e];exact (h.own a ha).2.2
  ·rw[e]
   intro k
   injection k with k
   have:=(h.own a ha).2.1
   omega
theorem mm (w:World) (ty:TypeId) (base:Nat) (v:Value) (l:List Stp) (x:Stp) (A:Addr) (cap:Nat) (hown:OwnS w base v l) (hr:ay iH 7 w (some A) [x]) (hx:ApartS w base v.ownBlock x)
  (hml:l.length+1≤maxLen) (hb:(l.length+1)*72≤140737488355328) (hbase:base≤w.heap.size) :
  ∃v' w',(Builtin.append_ #[67,67] ty #[v,Z (some A) 1 cap]).run J w= .ok v' w'∧OwnS w' base v' (l++[x])∧Below base w w'∧w.grownBy w' v.ownBlock:=by
 obtain ⟨i0,hi,hz0,hz1,hz2⟩:=info_parts Tryz.infoQ2
 obtain ⟨v',w',g1,g2,g3,_,g5⟩:=run_append_own_at (P:=J) w base 67 ty 121 i0 (E #[I O 0,I O 0,I O 0,I O 0,I O 0,I O 0,Z none 0 0]) 7 72 Tryz.underlying67 hi hz0 hz1 hz2 rfl (by omega) v l.length (aI iH l) hown.own A 1 cap (aI iH [x]) (bu je [x]) (hr.cells je (by omega)) (fun u hu=>dL uA u [x] hu) hml hb hbase
 refine ⟨v',w',g1,⟨?_,fun y hy=> ?_⟩,ai.grown_below hown.own g3 hbase,g3⟩
 ·show w'.ownsRow base _ 7 v' (l++[x]).length (aI iH (l++[x]))
  rw[List.length_append,cE]
  exact g2
 ·rcases List.mem_append.1 hy with k|k
  ·exact (hown.each y k).grown g3 g5
  ·have:y=x:=by simpa using k
   subst this
   exact hx.grown g3 g5
theorem fN (w:World) {ops:Array Oper} {rest:List Oper} {o:Oper} {a:Act} {Q:Exit→Act→World→Prop} (hgd:o.guard=none) (s z:Operand)
  (ho:o.op= .call { callee:= .builtin .append,args:= #[s,z],argTypes:= #[67,67] })
  (base:Nat) (v:Value) (l:List Stp) (x:Stp) (A:Addr) (cap:Nat) (hs:a.eval s=v) (hz:a.eval z= Z (some A) 1 cap) (hown:OwnS w base v l) (hr:ay iH 7 w (some A) [x]) (hx:ApartS w base v.ownBlock x)
  (hml:l.length+1≤maxLen) (hb:(l.length+1)*72≤140737488355328) (hbase:base≤w.heap.size)
  (h:∀v' w',OwnS w' base v' (l++[x])→Below base w w'→wpList J ops Q rest (a.put o.dst v') w'):wpList J ops Q (o::rest) a w :=
 wpList_plain hgd fun _ hK=>by
  obtain ⟨v',w',hr,h2,h3,_⟩:=mm w o.type base v l x A cap hown hr hx hml hb hbase
  unfold Oper.wp execOp
  simp only[ho,resolve,invoke,builtin,Sem.run_bind,Sem.run_pure,Result.andThen_ok,List.map_toArray,List.map_cons,List.map_nil,hs,hz,hr]
  exact hK _ _ (h v' w' h2 h3)


theorem kt:∀(q:List Stp) (ah:List Int),(∀x∈ah,0≤x∧x≤8)→ah.length+q.length≤8→(dr q ah).isSome=true→∀s∈q,s.l.length≤8
 | [],_,_,_,_=>fun s hs=>by cases hs
 | s::t,ah,h1,h2,h3=>by
  have h3':(if aJ s ah=0 then none else dr t (ah++[aJ s ah])).isSome=true:=h3
  by_cases e:aJ s ah=0
  ·rw[if_pos e] at h3';cases h3'
  ·rw[if_neg e] at h3'
   have hb:=wl s h1
   have ih:=kt t (ah++[aJ s ah]) (fun x hx=>by
    rcases List.mem_append.1 hx with k|k
    ·exact h1 x k
    ·rw[List.mem_singleton.1 k];exact hb) (by simp at h2 ⊢;omega) h3'
   intro u hu
   rcases List.mem_cons.1 hu with k|k
   ·subst k
    simp at h2
    exact (tO e (by omega) h1).l.1
   ·exact ih u k
theorem ql {q:List Stp} (h:bX q=0):q.length≤8∧∀s∈q,s.l.length≤8:=by
 obtain ⟨h1,h2,h3⟩:=eP h
 exact ⟨h2,kt q [] (fun x hx=>by cases hx) (by simpa using h2) h3⟩
def xP (n m:Nat) (C:Option Addr) (q:List Stp):Prop:=(∀a,C=some a→n≤a.block∧a.block<m)∧∀s∈q,∀a,s.p=some a→n≤a.block∧a.block<m
theorem vI {W:World} {s:Stp} {C:Option Addr} {c:Nat}:ay iH 7 (W.alloc (U #[I O s.k,I O s.a,I O s.b,I O s.c,I O s.o,I O s.v,Z C s.l.length c] 121)) (some ⟨W.heap.size,0,none⟩) [{ s with p:=C,n:=c }]:=by
 refine oR ⟨W.heap.size,0,rfl,by simp,fun j hj i hi=> ?_⟩
 obtain rfl:j=0:=by simp at hj;omega
 rw[show 0+0*7+i=i by omega]
 match i,hi with
 | 0,_=>exact ab (w:=W) (gR _) rfl
 | 1,_=>exact ab (w:=W) (gR _) rfl
 | 2,_=>exact ab (w:=W) (gR _) rfl
 | 3,_=>exact ab (w:=W) (gR _) rfl
 | 4,_=>exact ab (w:=W) (gR _) rfl
 | 5,_=>exact ab (w:=W) (gR _) rfl
 | 6,_=>exact ab (w:=W) (gR _) rfl
theorem sp {q:List Stp} {k:Nat} (h:k<q.length) {s s':Stp} (hs:q[k]=s) {r:List Stp} (hr:r.map bare=(q.take k).map bare) (hb:bare s'=bare s):(r++[s']).map bare=(q.take (k+1)).map bare:=by
 rw[List.take_succ_eq_append_getElem h,List.map_append,List.map_append,hr,hs]
 simp[hb]

theorem sn (q:List Stp) (A:Option Addr) (ca:Nat) (w:World) (hl:q.length≤8) (hs:∀s∈q,s.l.length≤8) (hq:Stps w A q) :
  Calls J 80 #[Z A q.length ca] w fun e w'=>∃(q':List Stp) (C:Option Addr) (k:Nat),e= Y (Z C q'.length k)∧q'.map bare=q.map bare∧Stps w' C q'∧(C=none→k=0)∧xP w.heap.size w'.heap.size C q'∧Below w.heap.size w w':=by
 have hH:Hid (Stps w A q∧∀s∈q,s.l.length≤8):=⟨hq,hs⟩
 clear hq hs
 go_enter Tryz.func80,Tryz.ntmps80
 go_wp2
 go_loopw [3,8] (fun u i wr=>∃(k:Nat) (r:List Stp),k≤q.length∧i= I O k∧Hid (r.map bare=(q.take k).map bare∧OwnS wr w.heap.size u r∧Below w.heap.size w wr)) (fun _ i _=>q.length-(intOf i).toNat)
 case atStart=>exact ⟨0,[],nZ _,rfl,rfl,OwnS.nil _ _,bR _ _⟩
 case round =>
  obtain ⟨k,r,hk,rfl,hR⟩:=hrel
  have hrl:Hid (r.length=k):=by
   have:=congrArg List.length hR.out.1
   simp at this
   show _=_
   omega
  by_cases hlt:k<q.length
  ·have hltz:(k:Int)<(q.length:Int):=by omega
   have hI:Hid (Stps wr A q):=hH.out.1.below hR.out.2.2
   obtain ⟨bb,off,rfl,hb,hcs⟩:=hI.out.at hlt
   obtain ⟨s,hs⟩:∃s,q[k]=s:=⟨_,rfl⟩
   have hsm:s∈q:=by rw[←hs];exact gM hlt
   have hs8:s.l.length≤8:=hH.out.2 s hsm
   have hse:Hid (ar wr s.p s.l∧s.l.length≤maxLen∧(s.p=none→s.n=0)):=hI.out.each s hsm
   have htk:Hid (∀s',bare s'=bare s→(r++[s']).map bare=(q.take (k+1)).map bare):=fun s' h=>sp hlt hs hR.out.1 h
   rw[hs] at hcs
   have m0:wr.cell? ⟨bb,off+k*7,none⟩=some (I O s.k):=hcs 0 (by omega)
   have m1:wr.cell? ⟨bb,off+k*7+1,none⟩=some (I O s.a):=hcs 1 (by omega)
   have m2:wr.cell? ⟨bb,off+k*7+2,none⟩=some (I O s.b):=hcs 2 (by omega)
   have m3:wr.cell? ⟨bb,off+k*7+3,none⟩=some (I O s.c):=hcs 3 (by omega)
   have m4:wr.cell? ⟨bb,off+k*7+4,none⟩=some (I O s.o):=hcs 4 (by omega)
   have m5:wr.cell? ⟨bb,off+k*7+5,none⟩=some (I O s.v):=hcs 5 (by omega)
   have m6:wr.cell? ⟨bb,off+k*7+6,none⟩=some (Z s.p s.l.length s.n):=hcs 6 (by omega)
   obtain ⟨WX,hWX⟩:∃WX,(wr.alloc (U #[I O s.k,I O s.a,I O s.b,I O s.c,I O s.o,I O s.v,Z s.p s.l.length s.n] 121))=WX:=⟨_,rfl⟩
   have hgX:Hid (Gr wr WX):=by show Gr _ _;rw[←hWX];exact (gR _).alloc _
   have hXs:Hid (wr.heap.size<WX.heap.size):=by show _<_;rw[←hWX];simp
   have x0:WX.cell? ⟨wr.heap.size,0,none⟩=some (I O s.k):=by rw[←hWX];exact ab (w:=wr) (gR _) rfl
   have x1:WX.cell? ⟨wr.heap.size,1,none⟩=some (I O s.a):=by rw[←hWX];exact ab (w:=wr) (gR _) rfl
   have x2:WX.cell? ⟨wr.heap.size,2,none⟩=some (I O s.b):=by rw[←hWX];exact ab (w:=wr) (gR _) rfl
   have x3:WX.cell? ⟨wr.heap.size,3,none⟩=some (I O s.c):=by rw[←hWX];exact ab (w:=wr) (gR _) rfl
   have x4:WX.cell? ⟨wr.heap.size,4,none⟩=some (I O s.o):=by rw[←hWX];exact ab (w:=wr) (gR _) rfl
   have x5:WX.cell? ⟨wr.heap.size,5,none⟩=some (I O s.v):=by rw[←hWX];exact ab (w:=wr) (gR _) rfl
   have x6:WX.cell? ⟨wr.heap.size,6,none⟩=some (Z s.p s.l.length s.n):=by rw[←hWX];exact ab (w:=wr) (gR _) rfl
   have f6:WX.frozen? ⟨wr.heap.size,6,none⟩=false:=by rw[←hWX];exact eC (w:=wr) (gR _) 6
   have hap:Hid (ar WX s.p s.l∧(s.p=none→s.n=0)∧0+s.l.length≤maxLen∧(0+s.l.length)*8≤140737488355328):=⟨hse.out.1.gr hgX.out,hse.out.2.2,by unfold maxLen;omega,by omega⟩
   clear hcs hs hsm
   have hX6:Hid (∀w3,Below WX.heap.size WX w3→∀v,(w3.setCell ⟨wr.heap.size,6,none⟩ v).cell? ⟨wr.heap.size,0,none⟩=some (I O s.k)∧(w3.setCell ⟨wr.heap.size,6,none⟩ v).cell? ⟨wr.heap.size,1,none⟩=some (I O s.a)∧(w3.setCell ⟨wr.heap.size,6,none⟩ v).cell? ⟨wr.heap.size,2,none⟩=some (I O s.b)∧(w3.setCell ⟨wr.heap.size,6,none⟩ v).cell? ⟨wr.heap.size,3,none⟩=some (I O s.c)∧(w3.setCell ⟨wr.heap.size,6,none⟩ v).cell? ⟨wr.heap.size,4,none⟩=some (I O s.o)∧(w3.setCell ⟨wr.heap.size,6,none⟩ v).cell? ⟨wr.heap.size,5,none⟩=some (I O s.v)∧(w3.setCell ⟨wr.heap.size,6,none⟩ v).cell? ⟨wr.heap.size,6,none⟩=some v):=fun w3 h v=>by
    have hc:∀i u,WX.cell? ⟨wr.heap.size,i,none⟩=some u→w3.cell? ⟨wr.heap.size,i,none⟩=some u:=fun i u e=>(h.cell (p:=⟨wr.heap.size,i,none⟩) hXs.out).trans e
    have ho:∀i:Nat,i<6→(w3.setCell ⟨wr.heap.size,6,none⟩ v).cell? ⟨wr.heap.size,i,none⟩=w3.cell? ⟨wr.heap.size,i,none⟩:=fun i hi=>World.cell?_setCell_other _ _ _ _ (by intro e;injection e with _ e;omega)
    exact ⟨(ho 0 (by omega)).trans (hc 0 _ x0),(ho 1 (by omega)).trans (hc 1 _ x1),(ho 2 (by omega)).trans (hc 2 _ x2),(ho 3 (by omega)).trans (hc 3 _ x3),(ho 4 (by omega)).trans (hc 4 _ x4),(ho 5 (by omega)).trans (hc 5 _ x5),World.cell?_setCell_same _ _ _ (hc 6 _ x6)⟩
   have hoF:Hid (∀w3 C c,Below WX.heap.size WX w3→ar w3 C s.l→(C=none→c=0)→(∀a,C=some a→WX.heap.size≤a.block∧a.block<w3.heap.size)→∀w4,w3.setCell ⟨wr.heap.size,6,none⟩ (Z C s.l.length c)=w4 →
     OwnS (w4.alloc (U #[I O s.k,I O s.a,I O s.b,I O s.c,I O s.o,I O s.v,Z C s.l.length c] 121)) w.heap.size u3 r∧ay iH 7 (w4.alloc (U #[I O s.k,I O s.a,I O s.b,I O s.c,I O s.o,I O s.v,Z C s.l.length c] 121)) (some ⟨w4.heap.size,0,none⟩) [{ s with p:=C,n:=c }]∧ApartS (w4.alloc (U #[I O s.k,I O s.a,I O s.b,I O s.c,I O s.o,I O s.v,Z C s.l.length c] 121)) w.heap.size u3.ownBlock { s with p:=C,n:=c }∧(r.length+1≤maxLen∧(r.length+1)*72≤140737488355328)∧Below w.heap.size w (w4.alloc (U #[I O s.k,I O s.a,I O s.b,I O s.c,I O s.o,I O s.v,Z C s.l.length c] 121))):=fun w3 C c hb3 hrow hC hlt w4 hw4=>by
    subst hw4
    have hb4:Below wr.heap.size wr (w3.setCell ⟨wr.heap.size,6,none⟩ (Z C s.l.length c)):=(hgX.out.below.trans (hb3.mono hgX.out.size)).setCell (nR _) _
    have hbA:=hb4.alloc hb4.size (U #[I O s.k,I O s.a,I O s.b,I O s.c,I O s.o,I O s.v,Z C s.l.length c] 121)
    have hrowA:ar (w3.setCell ⟨wr.heap.size,6,none⟩ (Z C s.l.length c)) C s.l:=by
     rcases hrow with e|⟨b,o,hA,hb,hc⟩
     ·exact oL e
     ·refine oR ⟨b,o,hA,by simpa using hb,fun j hj i hi=> ?_⟩
      have h1:=(hlt _ hA).1
      have h2:=hXs.out
      have h3:b≠wr.heap.size:=fun e=>by simp only at h1;omega
      rw[World.cell?_setCell_other _ _ _ _ (by intro e;injection e with e _;exact h3 e.symm)]
      exact hc j hj i hi
    have hrl:=hrl.out
    have hsz:=hR.out.2.2.size
    have h2:=hXs.out
    refine ⟨hR.out.2.1.below hbA,vI,⟨hrowA.gr ((gR _).alloc _),by show s.l.length≤_;unfold maxLen;omega,hC,fun a ha=>⟨?_,?_,?_⟩⟩,⟨by unfold maxLen;omega,by omega⟩,hR.out.2.2.trans (hbA.mono hR.out.2.2.size)⟩
    ·have h1:=(hlt a ha).1;omega
    ·have h1:=(hlt a ha).2;simp;omega
    ·intro e
     have h1:=(hlt a ha).1
     have h3:=(World.ownsRow.lt hR.out.2.1.own a.block e).2
     omega
   go_wp2_with (first|(at_builtin;refine aW _ rfl (.const (Z none 0 0)) (.tmp 13) rfl WX.heap.size (Z none 0 0) [] s.l s.p s.n rfl rfl (ai.nil _ _ _ _ _) hap.out.1 hap.out.2.1 hap.out.2.2.1 hap.out.2.2.2 (nR _) ?_;intro v1 w3 hown1 hgr1;obtain ⟨C,c,rfl,hC,hrow,hlt⟩:=ai.row bP hown1;have hb3:Below WX.heap.size WX w3:=dC hgr1;have y6:w3.cell? ⟨wr.heap.size,6,none⟩=some (Z s.p s.l.length s.n):=(hb3.cell (p:=⟨wr.heap.size,6,none⟩) hXs.out).trans x6;have g6:w3.frozen? ⟨wr.heap.size,6,none⟩=false:=(hb3.frozen (p:=⟨wr.heap.size,6,none⟩) hXs.out).trans f6;obtain ⟨w4,hw4⟩:∃W,w3.setCell ⟨wr.heap.size,6,none⟩ (Z C s.l.length c)=W:=⟨_,rfl⟩;have hoX:=hoF.out w3 C c hb3 (by simpa using hrow) hC hlt w4 hw4;have hoXH:Hid _:=hoX;obtain ⟨z0,z1,z2,z3,z4,z5,z6⟩:=hX6.out w3 hb3 (Z C s.l.length c);rw[hw4] at z0 z1 z2 z3 z4 z5 z6;clear hown1 hgr1 hC hrow hlt hb3 hoX)|(at_builtin;refine fN _ rfl (.tmp 16) (.tmp 18) rfl w.heap.size u3 r { s with p:=C,n:=c } ⟨w4.heap.size,0,none⟩ 1 rfl rfl hoXH.out.1 hoXH.out.2.1 hoXH.out.2.2.1 hoXH.out.2.2.2.1.1 hoXH.out.2.2.2.1.2 hoXH.out.2.2.2.2.size ?_;intro v5 w5 hown5 hb5))
   have hfin:Hid ((r++[{ s with p:=C,n:=c }]).map bare=(q.take (k+1)).map bare∧OwnS w5 w.heap.size v5 (r++[{ s with p:=C,n:=c }])∧Below w.heap.size w w5):=⟨htk.out _ rfl,hown5,hoXH.out.2.2.2.2.trans hb5⟩
   clear hown5 hb5
   go_roundw
   case rel=>exact ⟨k+1,r++[{ s with p:=C,n:=c }],by omega,by go_num,hfin⟩
   case measure=>simp[intOf];omega
  ·have hltz:¬(k:Int)<(q.length:Int):=by omega
   have hke:q.take k=q:=List.take_of_length_le (by omega)
   obtain ⟨C,cap,hv,hC,hst⟩:=hR.out.2.1.stps
   obtain ⟨C',cap',hv',_,_,hab⟩:=hR.out.2.1.own.row je
   have hfin:Hid (r.map bare=q.map bare∧Stps wr C r∧(C=none→cap=0)∧xP w.heap.size wr.heap.size C r∧Below w.heap.size w wr):=by
    have h1:=hR.out.1
    rw[hke] at h1
    have hCC:C=C':=by rw[hv] at hv';injection hv'
    exact ⟨h1,hst,hC,⟨fun a ha=>hab a (by rw[←hCC];exact ha),fun x hx a ha=>⟨((hR.out.2.1.each x hx).own a ha).1,((hR.out.2.1.each x hx).own a ha).2.1⟩⟩,hR.out.2.2⟩
   subst hv
   clear hke hC hst hv' hab
   go_wp2
   go_ret
   exact ⟨r,C,cap,rfl,hfin.out⟩

def PIn {α : Type} (P:Nat→Prop) (A:Option Addr) (l:List α):Prop:=∀a,A=some a→l≠[]→P a.block
theorem PIn.mono {α : Type} {P Q:Nat→Prop} {A:Option Addr} {l:List α} (h:PIn P A l) (k:∀b,P b→Q b):PIn Q A l:=fun a ha hl=>k _ (h a ha hl)
structure Agr (P:Nat→Prop) (w w':World):Prop where
 size:w.heap.size≤w'.heap.size
 block:∀b,P b→b<w.heap.size→w'.heap[b]? = w.heap[b]?
theorem Agr.refl (P:Nat→Prop) (w:World):Agr P w w:=⟨nR _,fun _ _ _=>rfl⟩
theorem Agr.trans {P:Nat→Prop} {a b c:World} (h:Agr P a b) (k:Agr P b c):Agr P a c:=⟨nT h.size k.size,fun g hg hl=>(k.block g hg (nL hl h.size)).trans (h.block g hg hl)⟩
theorem Agr.of {P:Nat→Prop} {w w':World} (h:Below w.heap.size w w'):Agr P w w':=⟨h.size,fun b _ hb=>h.block b hb⟩
theorem Agr.mono {P Q:Nat→Prop} {w w':World} (h:Agr Q w w') (k:∀b,P b→Q b):Agr P w w':=⟨h.size,fun b hb=>h.block b (k b hb)⟩
theorem ay.agr {α : Type} {enc: α → List Value} {k:Nat} {P:Nat→Prop} {w w':World} {A:Option Addr} {l:List α} (h:ay enc k w A l) (hP:PIn P A l) (q:Agr P w w'):ay enc k w' A l:=by
 rcases h with h|⟨b,off,hA,hb,hc⟩
 ·exact oL h
 ·by_cases hl:l=[]
  ·exact oL hl
  ·refine oR ⟨b,off,hA,nL hb q.size,fun j hj i hi=> ?_⟩
   rw[World.cell?_of_block (a:=⟨b,off+j*k+i,none⟩) (q.block b (hP _ hA hl) hb)]
   exact hc j hj i hi
theorem Row.agr {P:Nat→Prop} {w w':World} {A:Option Addr} {l:List (Int×Int)} (h:Row w A l) (hP:PIn P A l) (q:Agr P w w'):Row w' A l:=by
 rcases h with h|⟨b,off,hA,hb,hc⟩
 ·exact oL h
 ·by_cases hl:l=[]
  ·exact oL hl
  ·refine oR ⟨b,off,hA,nL hb q.size,fun j hj=> ?_⟩
   rw[World.cell?_of_block (a:=⟨b,off+j*2,none⟩) (q.block b (hP _ hA hl) hb),World.cell?_of_block (a:=⟨b,off+j*2+1,none⟩) (q.block b (hP _ hA hl) hb)]
   exact hc j hj
structure LvP (P:Nat→Prop) (w:World) (A:Option Addr) (c:Nat) (l:List Itm):Prop where
 lv:Lv w A c l
 arr:PIn P A l
 rows:∀x∈l,PIn P x.p x.r
theorem LvP.agr {P:Nat→Prop} {w w':World} {A:Option Addr} {c:Nat} {l:List Itm} (h:LvP P w A c l) (q:Agr P w w'):LvP P w' A c l :=
 ⟨⟨⟨h.lv.items.row.agr h.arr q,fun x hx=>⟨(h.lv.items.each x hx).1.agr (h.rows x hx) q,(h.lv.items.each x hx).2⟩⟩,h.lv.nilc,h.lv.len⟩,h.arr,h.rows⟩
theorem LvP.below {P:Nat→Prop} {w w':World} {A:Option Addr} {c:Nat} {l:List Itm} (h:LvP P w A c l) (q:Below w.heap.size w w'):LvP P w' A c l:=h.agr (Agr.of q)
theorem LvP.mono {P Q:Nat→Prop} {w:World} {A:Option Addr} {c:Nat} {l:List Itm} (h:LvP P w A c l) (k:∀b,P b→Q b):LvP Q w A c l:=⟨h.lv,h.arr.mono k,fun x hx=>(h.rows x hx).mono k⟩
theorem LvP.none (P:Nat→Prop) (w:World):LvP P w none 0 []:=⟨⟨⟨oL rfl,fun x hx=>(by cases hx)⟩,du.mk (fun _=>rfl) (nZ _),nZ _⟩,fun a ha=>(by cases ha),fun x hx=>(by cases hx)⟩
theorem LvP.new {w:World} {A:Option Addr} {c n:Nat} {l:List Itm} (h:Lv w A c l) (k:iE n A l):LvP (fun b=>n≤b∧b<w.heap.size) w A c l :=
 ⟨h,fun a ha hl=>⟨k.1 a ha,h.items.row.lt a ha hl⟩,fun x hx a ha hl=>⟨k.2 x hx a ha,(h.items.each x hx).1.lt a ha hl⟩⟩
theorem LvP.all {w:World} {A:Option Addr} {c:Nat} {l:List Itm} (h:Lv w A c l):LvP (fun b=>b<w.heap.size) w A c l :=
 ⟨h,fun a ha hl=>h.items.row.lt a ha hl,fun x hx a ha hl=>(h.items.each x hx).1.lt a ha hl⟩
structure StP (P:Nat→Prop) (w:World) (A:Option Addr) (q:List Stp):Prop where
 st:Stps w A q
 arr:PIn P A q
 rows:∀s∈q,PIn P s.p s.l
theorem StP.agr {P:Nat→Prop} {w w':World} {A:Option Addr} {q:List Stp} (h:StP P w A q) (k:Agr P w w'):StP P w' A q :=
 ⟨⟨h.st.row.agr h.arr k,fun x hx=>⟨(h.st.each x hx).1.agr (h.rows x hx) k,(h.st.each x hx).2⟩⟩,h.arr,h.rows⟩
theorem StP.below {P:Nat→Prop} {w w':World} {A:Option Addr} {q:List Stp} (h:StP P w A q) (k:Below w.heap.size w w'):StP P w' A q:=h.agr (Agr.of k)
theorem StP.mono {P Q:Nat→Prop} {w:World} {A:Option Addr} {q:List Stp} (h:StP P w A q) (k:∀b,P b→Q b):StP Q w A q:=⟨h.st,h.arr.mono k,fun x hx=>(h.rows x hx).mono k⟩
theorem StP.new {w:World} {A:Option Addr} {n m:Nat} {q:List Stp} (h:Stps w A q) (k:xP n m A q):StP (fun b=>n≤b∧b<m) w A q :=
 ⟨h,fun a ha _=>k.1 a ha,fun s hs a ha _=>k.2 s hs a ha⟩
def ag (P:Nat→Prop) (m n:Nat):Nat→Prop:=fun b=>P b∨(m≤b∧b<n)
theorem ag.old {P:Nat→Prop} {m n:Nat} (b:Nat) (h:P b):ag P m n b:=oL h
theorem ag.new {P:Nat→Prop} {m n m' n':Nat} (hm:m≤m') (hn:n'≤n) (b:Nat) (h:m'≤b∧b<n'):ag P m n b:=oR ⟨nT hm h.1,nL h.2 hn⟩
theorem ag.more {P:Nat→Prop} {m n m' n':Nat} (hm:m'≤m) (hn:n≤n') (b:Nat) (h:ag P m n b):ag P m' n' b:=h.elim oL fun k=>oR ⟨nT hm k.1,nL k.2 hn⟩
theorem ag.two {P:Nat→Prop} {m n m' n':Nat} (hm:m≤m') (hn:n≤n') (b:Nat) (h:ag (ag P m n) m' n' b):ag P m n' b:=by
 rcases h with (h|h)|h
 ·exact oL h
 ·exact oR ⟨h.1,by omega⟩
 ·exact oR ⟨by omega,h.2⟩

theorem jF {w:World} {V:Nat} {cur:Array Value} {T:TypeId} {f:Nat×Nat} (h:w.heap[V]? = some (U cur T f)) (j:Nat):w.cell? ⟨V,j,none⟩=cur[j]? := by simp[World.cell?,h]
theorem oQ {w:World} {V:Nat} {cur:Array Value} {T:TypeId} (h:w.heap[V]? = some (U cur T (0,0))) (j:Nat):w.frozen? ⟨V,j,none⟩=false:=by simp[World.frozen?,h]
def Blk (w:World) (V:Nat) (T:TypeId) (n:Nat):Prop:=∃cur,w.heap[V]? = some (U cur T (0,0))∧cur.size=n
theorem Blk.lt {w:World} {V n:Nat} {T:TypeId} (h:Blk w V T n):V<w.heap.size:=by
 obtain ⟨cur,hc,_⟩:=h
 exact (Array.getElem?_eq_some_iff.1 hc).1
theorem Blk.fz {w:World} {V n:Nat} {T:TypeId} (h:Blk w V T n) (j:Nat):w.frozen? ⟨V,j,none⟩=false:=by
 obtain ⟨cur,hc,_⟩:=h
 exact oQ hc j
theorem Blk.some {w:World} {V n:Nat} {T:TypeId} (h:Blk w V T n) {j:Nat} (hj:j<n):∃v,w.cell? ⟨V,j,none⟩=some v:=by
 obtain ⟨cur,hc,hn⟩:=h
 rw[jF hc]
 exact ⟨cur[j]'(by omega),Array.getElem?_eq_getElem (by omega)⟩
theorem Blk.below {w w':World} {V n:Nat} {T:TypeId} (h:Blk w V T n) (k:Below w.heap.size w w'):Blk w' V T n:=by
 obtain ⟨cur,hc,hn⟩:=h
 exact ⟨cur,(k.block V (Array.getElem?_eq_some_iff.1 hc).1).trans hc,hn⟩
structure Wr (V lo hi:Nat) (w w':World):Prop where
 os:w'.os=w.os
 tape:w'.tape=w.tape
 output:w'.output=w.output
 size:w.heap.size≤w'.heap.size
 oth:∀g,g<w.heap.size→g≠V→w'.heap[g]? = w.heap[g]?
 blk:∀(cur:Array Value) (T:TypeId),w.heap[V]? = some (U cur T (0,0))→∃cur':Array Value,w'.heap[V]? = some (U cur' T (0,0))∧cur'.size=cur.size∧∀j,(j<lo∨hi≤j)→cur'[j]? = cur[j]?
theorem Wr.refl (V lo hi:Nat) (w:World):Wr V lo hi w w:=⟨rfl,rfl,rfl,nR _,fun _ _ _=>rfl,fun cur _ h=>⟨cur,h,rfl,fun _ _=>rfl⟩⟩
theorem Wr.trans {V lo hi:Nat} {a b c:World} (h:Wr V lo hi a b) (k:Wr V lo hi b c):Wr V lo hi a c :=
 ⟨k.os.trans h.os,k.tape.trans h.tape,k.output.trans h.output,nT h.size k.size,fun g hg hn=>(k.oth g (nL hg h.size) hn).trans (h.oth g hg hn),fun cur T hc=>by
  obtain ⟨c1,h1,h2,h3⟩:=h.blk cur T hc
  obtain ⟨c2,k1,k2,k3⟩:=k.blk c1 T h1
  exact ⟨c2,k1,k2.trans h2,fun j hj=>(k3 j hj).trans (h3 j hj)⟩⟩
theorem Wr.of {V lo hi:Nat} {w w':World} (h:Below w.heap.size w w') (_hV:V<w.heap.size):Wr V lo hi w w' :=
 ⟨h.os,h.tape,h.output,h.size,fun g hg _=>h.block g hg,fun cur _ hc=>⟨cur,(h.block V (Array.getElem?_eq_some_iff.1 hc).1).trans hc,rfl,fun _ _=>rfl⟩⟩
theorem Wr.mono {V lo hi lo' hi':Nat} {w w':World} (h:Wr V lo hi w w') (h1:lo'≤lo) (h2:hi≤hi'):Wr V lo' hi' w w' :=
 ⟨h.os,h.tape,h.output,h.size,h.oth,fun cur T hc=>by
  obtain ⟨c1,k1,k2,k3⟩:=h.blk cur T hc
  exact ⟨c1,k1,k2,fun j hj=>k3 j (by omega)⟩⟩
theorem Wr.set {V lo hi j:Nat} (w:World) (v:Value) (h1:lo≤j) (h2:j<hi):Wr V lo hi w (w.setCell ⟨V,j,none⟩ v):=by
 refine ⟨rfl,rfl,rfl,by simp,fun g _ hn=>Below.heap_setCell _ _ _ _ hn,fun cur T hc=>⟨cur.setIfInBounds j v,?_,by simp,fun i hi'=> ?_⟩⟩
 ·show (w.heap.modify V _)[V]? = _
  rw[Array.getElem?_modify,if_pos rfl,hc]
  rfl
 ·rw[Array.getElem?_setIfInBounds,if_neg (by omega)]
theorem Wr.grown {V lo hi:Nat} {w w':World} (h:Wr V lo hi w w'):w.grownBy w' (some V):=⟨h.os,h.tape,h.output,h.size,fun g hg hn=>h.oth g hg fun e=>hn (by rw[e])⟩
theorem Wr.agr {V lo hi:Nat} {w w':World} {P:Nat→Prop} (h:Wr V lo hi w w') (hP:¬P V):Agr P w w':=⟨h.size,fun b hb hl=>h.oth b hl fun e=>hP (e▸hb)⟩
theorem Wr.cell {V lo hi n:Nat} {w w':World} {T:TypeId} (h:Wr V lo hi w w') (hb:Blk w V T n) {j:Nat} (hj:j<lo∨hi≤j):w'.cell? ⟨V,j,none⟩=w.cell? ⟨V,j,none⟩:=by
 obtain ⟨cur,hc,_⟩:=hb
 obtain ⟨c1,k1,_,k3⟩:=h.blk cur T hc
 rw[jF k1,jF hc]
 exact k3 j hj
theorem Wr.block {V lo hi n:Nat} {w w':World} {T:TypeId} (h:Wr V lo hi w w') (hb:Blk w V T n):Blk w' V T n:=by
 obtain ⟨cur,hc,hn⟩:=hb
 obtain ⟨c1,k1,k2,_⟩:=h.blk cur T hc
 exact ⟨c1,k1,k2.trans hn⟩
theorem cD {w:World} {V i j:Nat} {v:Value} (h:i≠j):(w.setCell ⟨V,i,none⟩ v).cell? ⟨V,j,none⟩=w.cell? ⟨V,j,none⟩:=World.cell?_setCell_other _ _ _ _ (by intro e;injection e with _ e;exact h e)
end Go.Proofs.YtkefkplnamkicabGreatDoor
