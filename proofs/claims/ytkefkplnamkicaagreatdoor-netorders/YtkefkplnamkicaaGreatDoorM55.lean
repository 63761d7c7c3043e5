/-
  NetOrders: packets that were sent may come in any order, and more than once.
-/
import Derived.Test.YtkefkplnamkicaaGreatDoorM54
set_option maxRecDepth 100000
set_option maxHeartbeats 8000000
open Go.Ending renaming returned → Z
open Go.IntKind renaming i64 → I
open Go.Proofs.Tryz renaming prog → J
open Go.Value renaming int → V, slice → H, pointer → U, string → F
namespace Go.Proofs.YtkefkplnamkicaaGreatDoor
open Go.RowKit Go.Sort

def tbK (M:NetM) (i k:Nat):Tab:=if k=0 then M.s i else M.t i
theorem Bs {w wr:World} {X Y:Nat} {M M':NetM} {Q Q':Nat→List (List Stp)} (h:TwN w wr X Y M Q M' Q') (i:Nat) (hi:i<4) (k:Nat) (hk:k<2):(Calls J 14 #[U (some ⟨X,0,none⟩),V I i,V I k] wr fun e w'=>∃v,e= Z (.tuple #[v,V I 0])∧TbV wr.heap.size w' v (tbK M i k)∧Below wr.heap.size wr w')∧am (tbK M i k)=0:=by
 obtain ⟨P,P',h1,_⟩:=h.ex
 match k,hk with
 | 0,_=>exact ⟨lN h1 i hi,(h1.nd i hi).ts.ok⟩
 | 1,_=>exact ⟨ub h1 i hi,(h1.nd i hi).tt.ok⟩
theorem nG (A:Option Addr) (cap:Nat) (l:List (Hap×List UInt8)) (O:Option Addr) (co:Nat) (os:List Int) (w:World) (hr:Reads w) (row:au bH 10 w A l) (hx:∀p∈l,p.2.length≤maxLen) (orow:ay w O os) :
  Calls J 3 #[H A l.length cap,H O os.length co] w fun e w'=>e= Z (.bool true)∧Below w.heap.size w w':=by
 have hS:Hid _:=zt w hr
 have hH:Hid (Reads w∧au bH 10 w A l∧(∀p∈l,p.2.length≤maxLen)∧ay w O os):=⟨hr,row,hx,orow⟩
 clear hr row hx orow
 go_enter Tryz.func3,Tryz.ntmps3
 go_wp2_with fail
 refine cM (show Calls _ _ _ _ _ from hS.out) ?_
 rintro e w1 ⟨rfl,f1⟩
 have hb1:Hid (Below w.heap.size w w1):=f1
 clear f1 hS
 by_cases h60:60<l.length
 ·have hz:(60:Int)<(l.length:Int):=by omega
  go_wp2
  go_ret
  exact ⟨rfl,hb1.out⟩
 have hz:¬(60:Int)<(l.length:Int):=by omega
 by_cases h100:60<os.length
 ·have hoz:(60:Int)<(os.length:Int):=by omega
  go_wp2
  go_ret
  exact ⟨rfl,hb1.out⟩
 have hoz:¬(60:Int)<(os.length:Int):=by omega
 have hR:Hid (Reads w1∧Below w.heap.size w w1):=⟨hH.out.1.below hb1.out,hb1.out⟩
 have hN:Hid (∀W,Calls J 10 #[] W fun e w'=>e= Z (U (some ⟨W.heap.size,0,none⟩))∧NetP w' W.heap.size (fun _=>False) aG (fun _=>[])∧Below W.heap.size W w'):=fun W=>eH W
 clear hb1
 go_wp2_with fail
 refine cM (hN.out _) ?_
 rintro e w2 ⟨rfl,f1,f2⟩
 have hX:Hid (aV w1 w2 w1.heap.size aG (fun _=>[])):=aV.new (bR _ _) f1 f2
 clear f1 f2
 go_wp2_with fail
 refine cM (hN.out _) ?_
 rintro e w3 ⟨rfl,f1,f2⟩
 have hT:Hid (TwN w1 w3 w1.heap.size w2.heap.size aG (fun _=>[]) aG (fun _=>[])):=TwN.of hX.out (aV.new (bR _ _) f1 f2)
 clear f1 f2 hX hN
 obtain ⟨X,hX⟩:∃X,w1.heap.size=X:=⟨_,rfl⟩
 obtain ⟨Y,hY⟩:∃Y,w2.heap.size=Y:=⟨_,rfl⟩
 rw[hX,hY] at hT
 go_wp2
 try rw[hX,hY]
 clear hX hY
 go_loopw [34] (fun v34 wr=>∃k:Nat,k≤l.length∧v34= V I k∧Hid (∃Q Q',TwN w1 wr X Y (((cP (l.take k)).map (·.1)).foldl aj aG) Q (((cP (l.take k)).map (·.1)).foldl aj aG) Q')) (fun v34 _=>l.length-(intOf v34).toNat)
 case atStart=>exact ⟨0,nZ _,rfl,_,_,hT.out⟩
 case round =>
  obtain ⟨k,hk,rfl,hI⟩:=hrel
  by_cases hkl:k<l.length
  ·have hkz:(k:Int)<(l.length:Int):=by omega
   obtain ⟨bb,off,hA,hbb,hcl⟩:=hH.out.2.1.at hkl
   subst hA
   obtain ⟨y,hy⟩:∃y,l[k]=y:=⟨_,rfl⟩
   have hcl:=hcl k hkl
   rw[hy] at hcl
   obtain ⟨Q,Q',hQ⟩:=hI.out
   have hbw:Below w.heap.size w wr:=hR.out.2.trans (hQ.bel.mono hR.out.2.size)
   have c0:=(hbw.cell (p:=⟨bb,off+k*10+0,none⟩) hbb).trans (hcl 0 (by omega))
   have c1:=(hbw.cell (p:=⟨bb,off+k*10+1,none⟩) hbb).trans (hcl 1 (by omega))
   have c2:=(hbw.cell (p:=⟨bb,off+k*10+2,none⟩) hbb).trans (hcl 2 (by omega))
   have c3:=(hbw.cell (p:=⟨bb,off+k*10+3,none⟩) hbb).trans (hcl 3 (by omega))
   have c4:=(hbw.cell (p:=⟨bb,off+k*10+4,none⟩) hbb).trans (hcl 4 (by omega))
   have c5:=(hbw.cell (p:=⟨bb,off+k*10+5,none⟩) hbb).trans (hcl 5 (by omega))
   have c6:=(hbw.cell (p:=⟨bb,off+k*10+6,none⟩) hbb).trans (hcl 6 (by omega))
   have c7:=(hbw.cell (p:=⟨bb,off+k*10+7,none⟩) hbb).trans (hcl 7 (by omega))
   have c8:=(hbw.cell (p:=⟨bb,off+k*10+8,none⟩) hbb).trans (hcl 8 (by omega))
   have c9:=(hbw.cell (p:=⟨bb,off+k*10+9,none⟩) hbb).trans (hcl 9 (by omega))
   simp only[bH,z0',zS,Nat.add_zero] at c0 c1 c2 c3 c4 c5 c6 c7 c8 c9
   obtain ⟨w2,hw2⟩:∃W,wr.alloc (.cells #[V I y.1.k,V I y.1.a,V I y.1.b,V I y.1.n,V I y.1.e1,V I y.1.e2,V I y.1.e3,V I y.1.e4,V I y.1.e5,F ⟨y.2.toArray⟩] 30)=W:=⟨_,rfl⟩
   have hg2:Gr wr w2:=by rw[←hw2];exact (gR wr).alloc _
   have hBx:Cls w2 wr.heap.size [V I y.1.k,V I y.1.a,V I y.1.b,V I y.1.n,V I y.1.e1,V I y.1.e2,V I y.1.e3,V I y.1.e4,V I y.1.e5,F ⟨y.2.toArray⟩]:=by rw[←hw2];exact Cls.new wr _ _
   obtain ⟨b0,b1,b2,b3,b4,b5,b6,b7,b8,b9⟩:=fP hBx
   have hks:=oM hkl
   rw[hy] at hks
   have hlt:X<wr.heap.size:=by
    obtain ⟨P,P',h1,_⟩:=hQ.ex
    exact h1.lt
   have hI2:Hid (TwN w1 w2 X Y (((cP (l.take k)).map (·.1)).foldl aj aG) Q (((cP (l.take k)).map (·.1)).foldl aj aG) Q'∧Cls w2 wr.heap.size [V I y.1.k,V I y.1.a,V I y.1.b,V I y.1.n,V I y.1.e1,V I y.1.e2,V I y.1.e3,V I y.1.e4,V I y.1.e5,F ⟨y.2.toArray⟩]∧X<wr.heap.size∧y.2.length≤maxLen):=⟨hQ.below hg2.below,hBx,hlt,hH.out.2.2.1 y (by rw[←hy];exact gM _)⟩
   clear hI hQ hcl hbb hy hg2 hBx hlt hbw
   by_cases h4:y.1.k=4
   ·have h4b:(y.1.k != 4)=false:=by simp[h4]
    have hF:Hid (∃Q Q',TwN w1 w2 X Y (((cP (l.take (k+1))).map (·.1)).foldl aj aG) Q (((cP (l.take (k+1))).map (·.1)).foldl aj aG) Q'):=by rw[hks,if_pos h4];exact ⟨_,_,hI2.out.1⟩
    clear hks h4 hI2
    go_wp2
    try rw[hw2]
    clear hw2 c0 c1 c2 c3 c4 c5 c6 c7 c8 c9 b0 b1 b2 b3 b4 b5 b6 b7 b8 b9
    go_roundw
    case rel=>exact ⟨k+1,by omega,by go_num,hF⟩
    case measure=>simp[intOf];omega
   ·have h4b:(y.1.k != 4)=true:=by simp[h4]
    have hnx:Hid (((cP (l.take (k+1))).map (·.1)).foldl aj aG=aj (((cP (l.take k)).map (·.1)).foldl aj aG) y.1):=by
     show _=_
     rw[hks,if_neg h4,List.map_append,List.foldl_append]
     rfl
    have hD:Hid _:=s6 hI2.out.1 hR.out.1 y hI2.out.2.2.2
    clear hks h4
    go_wp2_with fail
    try rw[hw2]
    clear hw2 c0 c1 c2 c3 c4 c5 c6 c7 c8 c9 b0 b1 b2 b3 b4 b5 b6 b7 b8 b9
    refine cM (show Calls _ _ _ _ _ from hD.out) ?_
    rintro e w4 ⟨er,R,rfl,_,f2,f3⟩
    have hBx:=hI2.out.2.1.keep (f3.oth _ hI2.out.2.1.lt (by have:=hI2.out.2.2.1;omega))
    obtain ⟨b0,b1,b2,b3,b4,b5,b6,b7,b8,b9⟩:=fP hBx
    have hD2:Hid _:=s6 f2.swap hR.out.1 y hI2.out.2.2.2
    clear f2 f3 hBx hD
    go_wp2_with fail
    refine cM (show Calls _ _ _ _ _ from hD2.out) ?_
    rintro e w5 ⟨er2,R2,rfl,_,f2,_⟩
    have hF:Hid (∃Q Q',TwN w1 w5 X Y (((cP (l.take (k+1))).map (·.1)).foldl aj aG) Q (((cP (l.take (k+1))).map (·.1)).foldl aj aG) Q'):=by rw[hnx.out];exact ⟨_,_,f2.swap⟩
    clear f2 hD2 hI2 hnx b0 b1 b2 b3 b4 b5 b6 b7 b8 b9
    go_wp2
    go_roundw
    case rel=>exact ⟨k+1,by omega,by go_num,hF⟩
    case measure=>simp[intOf];omega
  have hkz:¬(k:Int)<(l.length:Int):=by omega
  obtain rfl:k=l.length:=by omega
  rw[List.take_length] at hI
  obtain ⟨Q,Q',hQ⟩:=hI.out
  have hK60:(cP l).length≤60:=by have:=mz l;omega
  obtain ⟨K,hK⟩:∃K,cP l=K:=⟨_,rfl⟩
  rw[hK] at hQ hK60
  have hIv:Hid (NInv (0+(K.map (·.1)).length) ((K.map (·.1)).foldl aj aG)∧((K.map (·.1)).foldl aj aG).pk.length≤60):=⟨NInv.play _ NInv.new (by rw[List.length_map];omega),by
   have:=lJ (K.map (·.1)) aG
   rw[List.length_map] at this
   have h0:aG.pk.length=0:=rfl
   omega⟩
  obtain ⟨M,hM⟩:∃M,(K.map (·.1)).foldl aj aG=M:=⟨_,rfl⟩
  rw[hM] at hQ hIv
  have hT:Hid (TwN w1 wr X Y M Q M Q'):=hQ
  have hp:Hid _:=mP hT.out
  obtain ⟨n,hn⟩:∃n,M.pk.length=n:=⟨_,rfl⟩
  rw[hn] at hp hIv
  have hn60:n≤60:=hIv.out.2
  have hnH:Hid (M.pk.length=n):=hn
  clear hn hI hQ hK hM
  go_wp2_with fail
  refine cM (show Calls _ _ _ _ _ from hp.out) ?_
  rintro e w4 ⟨rfl,h0⟩
  have h0:=h0.symm
  subst h0
  clear hp
  go_wp2
  go_loopw [51] (fun v51 wx=>∃i:Nat,i≤n∧v51= V I i∧Hid (TwN w1 wx X Y ((List.range i).foldl aR M) Q M Q')) (fun v51 _=>n-(intOf v51).toNat)
  case atStart=>exact ⟨0,nZ _,rfl,hT⟩
  case round =>
   rename World=>wx
   obtain ⟨i,hi,rfl,hJ⟩:=hrel
   by_cases hin:i<n
   ·have hiz:(i:Int)<(n:Int):=by omega
    have hD:Hid _:=oj hJ.out hR.out.1 i
    have hnx:Hid ((List.range (i+1)).foldl aR M=aR ((List.range i).foldl aR M) i):=by show _=_;rw[List.range_succ,List.foldl_append];rfl
    clear hJ
    go_wp2_with fail
    refine cM (show Calls _ _ _ _ _ from hD.out) ?_
    rintro e w5 ⟨er,rfl,f1⟩
    have hF:Hid (TwN w1 w5 X Y ((List.range (i+1)).foldl aR M) Q M Q'):=by rw[hnx.out];exact f1
    clear f1 hD
    go_wp2
    go_roundw
    case rel=>exact ⟨i+1,by omega,by go_num,hF⟩
    case measure=>simp[intOf];omega
   have hiz:¬(i:Int)<(n:Int):=by omega
   obtain rfl:i=n:=by omega
   obtain ⟨MA,hMA⟩:∃N,(List.range i).foldl aR M=N:=⟨_,rfl⟩
   rw[hMA] at hJ
   have hMAH:Hid ((List.range i).foldl aR M=MA):=hMA
   clear hMA hT
   go_wp2
   go_loopw [61] (fun v61 wx=>∃(j:Nat) (rs:List Nat),j≤os.length∧v61= V I j∧Hid (TwN w1 wx X Y MA Q (rs.foldl aR M) Q')) (fun v61 _=>os.length-(intOf v61).toNat)
   case atStart=>exact ⟨0,[],nZ _,rfl,hJ⟩
   case round =>
    rename World=>wy
    obtain ⟨j,rs,hj,rfl,hB⟩:=hrel
    by_cases hjl:j<os.length
    ·have hjz:(j:Int)<(os.length:Int):=by omega
     obtain ⟨ob,oo,hO,hob,hoc⟩:=au.at hH.out.2.2.2 hjl
     subst hO
     obtain ⟨z,hz⟩:∃z,os[j]=z:=⟨_,rfl⟩
     have hoc:=hoc j hjl 0 (by omega)
     rw[hz] at hoc
     have hbw:Below w.heap.size w wy:=hR.out.2.trans (hB.out.bel.mono hR.out.2.size)
     have oc:wy.cell? ⟨ob,oo+j,none⟩=some (V I z):=by
      have:=(hbw.cell (p:=⟨ob,oo+j*1+0,none⟩) hob).trans hoc
      rw[Nat.mul_one,Nat.add_zero] at this
      exact this
     have hRs:Hid (∀W,Calls J 13 #[V I z,V I ((max i 1:Nat):Int)] W fun e w'=>(∃r:Nat,e= Z (V I r)∧r<max i 1)∧w'=W):=fun W=>lK z (max i 1) W (by omega)
     have hmx:max (i:Int) (1:Int)=((max i 1:Nat):Int):=by omega
     clear hoc hob hbw hz
     go_wp2_with fail
     try rw[hmx]
     refine cM (hRs.out _) ?_
     rintro e w5 ⟨⟨r,rfl,_⟩,h0⟩
     have h0:=h0.symm
     subst h0
     have hD:Hid _:=oj hB.out.swap hR.out.1 r
     have hnx:Hid ((rs++[r]).foldl aR M=aR (rs.foldl aR M) r):=by show _=_;rw[List.foldl_append];rfl
     clear hB hRs oc
     go_wp2_with fail
     refine cM (show Calls _ _ _ _ _ from hD.out) ?_
     rintro e w5 ⟨er,rfl,f1⟩
     have hF:Hid (TwN w1 w5 X Y MA Q ((rs++[r]).foldl aR M) Q'):=by rw[hnx.out];exact f1.swap
     clear f1 hD hnx
     go_wp2
     go_roundw
     case rel=>exact ⟨j+1,rs++[r],by omega,by go_num,hF⟩
     case measure=>simp[intOf];omega
    have hjz:¬(j:Int)<(os.length:Int):=by omega
    clear hJ
    go_wp2
    go_loopw [13] (fun v13 wx=>∃(c:Nat) (x:Int) (ds:List Nat),c≤i∧x=(c:Int)-1∧v13= V I x∧Hid (TwN w1 wx X Y MA Q (ds.foldl aR M) Q'∧∀m,c≤m→m<i→m∈ds)) (fun v13 _=>(intOf v13+1).toNat)
    case atStart=>exact ⟨i,_,rs,nR _,rfl,rfl,hB.out,fun m h1 h2=>by omega⟩
    case round =>
     rename World=>wz
     obtain ⟨c,x,ds,hc,hxc,rfl,hC⟩:=hrel
     by_cases hc0:0<c
     ·obtain ⟨m,hm⟩:∃m:Nat,c=m+1:=⟨c-1,by omega⟩
      obtain rfl:x=(m:Int):=by omega
      have hD:Hid _:=oj hC.out.1.swap hR.out.1 m
      have hnx:Hid ((ds++[m]).foldl aR M=aR (ds.foldl aR M) m∧∀j,m≤j→j<i→j∈ds++[m]):=⟨by rw[List.foldl_append];rfl,fun j h1 h2=>by
       rw[List.mem_append,List.mem_singleton]
       by_cases h:j=m
       ·exact oR h
       ·exact oL (hC.out.2 j (by omega) h2)⟩
      have hm60:m<60:=by omega
      have hmi:m<i:=by omega
      clear hC hxc hm hc hc0
      go_wp2_with fail
      refine cM (show Calls _ _ _ _ _ from hD.out) ?_
      rintro e w5 ⟨er,rfl,f1⟩
      have hF:Hid (TwN w1 w5 X Y MA Q ((ds++[m]).foldl aR M) Q'∧∀j,m≤j→j<i→j∈ds++[m]):=⟨by rw[hnx.out.1];exact f1.swap,hnx.out.2⟩
      clear f1 hD hnx
      go_wp2
      go_roundw
      case rel=>exact ⟨m,(m:Int)-1,ds++[m],by omega,rfl,by go_num,hF⟩
      case measure=>simp[intOf]
     obtain rfl:x= -1:=by omega
     obtain rfl:c=0:=by omega
     obtain ⟨MB,hMB⟩:∃N,ds.foldl aR M=N:=⟨_,rfl⟩
     have hsm:∀j,MA.s j=MB.s j∧MA.t j=MB.t j:=by
      rw[←hMAH.out,←hMB]
      exact ol hIv.out.1 fun n hn=>by
       rw[hnH.out] at hn
       simp[hn,hC.out.2 n (by omega) hn]
     have hE:Hid (TwN w1 wz X Y MA Q MB Q'):=by rw[←hMB];exact hC.out.1
     have hSm:Hid (∀j k,tbK MB j k=tbK MA j k):=fun j k=>by
      unfold tbK
      rw[(hsm j).1,(hsm j).2]
     clear hMB hsm hB hC hxc hc hc0
     go_wp2
     go_loopw [83] (fun v83 wx=>∃j:Nat,j≤4∧v83= V I j∧Hid (TwN w1 wx X Y MA Q MB Q')) (fun v83 _=>4-(intOf v83).toNat)
     case atStart=>exact ⟨0,by omega,rfl,hE⟩
     case round =>
      rename World=>wq
      obtain ⟨j,hj,rfl,hG⟩:=hrel
      by_cases hj4:j<4
      rotate_left
      ·have hz:¬(j:Int)<4:=by omega
       go_wp2
       go_ret
       exact ⟨rfl,hR.out.2.trans (hG.out.bel.mono hR.out.2.size)⟩
      have hjz4:(j:Int)<4:=by omega
      clear hE
      go_wp2
      go_loopw [86] (fun v86 wx=>∃k:Nat,k≤2∧v86= V I k∧Hid (TwN w1 wx X Y MA Q MB Q')) (fun v86 _=>2-(intOf v86).toNat)
      case atStart=>exact ⟨0,by omega,rfl,hG⟩
      case round =>
       rename World=>wp
       obtain ⟨k,hk,rfl,hL⟩:=hrel
       by_cases hk2:k<2
       rotate_left
       ·have hz:¬(k:Int)<2:=by omega
        have hfin:Hid (TwN w1 wp X Y MA Q MB Q'):=hL
        go_wp2
        go_roundw
        case rel=>exact ⟨j+1,by omega,by go_num,hfin⟩
        case measure=>simp[intOf];omega
       have hkz2:(k:Int)<2:=by omega
       obtain ⟨ta0,hok⟩:=Bs hL.out j hj4 k hk2
       have tb0:∀W,TwN w1 W X Y MA Q MB Q'→Calls J 14 #[U (some ⟨Y,0,none⟩),V I j,V I k] W fun e w'=>∃v,e= Z (.tuple #[v,V I 0])∧TbV W.heap.size w' v (tbK MA j k)∧Below W.heap.size W w':=fun W hW=>by
        have:=(Bs hW.swap j hj4 k hk2).1
        rwa [hSm.out j k] at this
       obtain ⟨S,hS⟩:∃S,tbK MA j k=S:=⟨_,rfl⟩
       rw[hS] at ta0 tb0 hok
       have ta:Hid _:=ta0
       have tb:Hid _:=tb0
       have hokH:Hid (am S=0):=hok
       clear ta0 tb0 hok hS
       go_wp2_with fail
       refine cM (show Calls _ _ _ _ _ from ta.out) ?_
       rintro e w8 ⟨v,rfl,⟨EA,eca,EC,ecc,rfl,f1⟩,f3⟩
       obtain ⟨w9,hw9⟩:∃W,w8.alloc (.cells #[V I S.c.c0,V I S.c.c1,V I S.c.c2,V I S.c.c3,H EA S.c.l.length eca,H EC S.e.length ecc] 41)=W:=⟨_,rfl⟩
       have hK:Hid (TwN w1 w9 X Y MA Q MB Q'∧Cls w9 w8.heap.size (T6 S EA eca EC ecc)∧TbW wp.heap.size w9 S EA eca EC ecc):=by
        have hg:Gr w8 w9:=by rw[←hw9];exact (gR _).alloc _
        exact ⟨(hL.out.below f3).below hg.below,by rw[←hw9];exact Cls.new w8 _ _,f1.below hg.below⟩
       have hb:Hid _:=tb.out w9 hK.out.1
       clear f1 f3 ta tb hL
       go_wp2_with fail
       try rw[hw9]
       clear hw9
       refine cM (show Calls _ _ _ _ _ from hb.out) ?_
       rintro e w10 ⟨v,rfl,⟨FA,fca,FC,fcc,rfl,f1⟩,f3⟩
       obtain ⟨w11,hw11⟩:∃W,w10.alloc (.cells #[V I S.c.c0,V I S.c.c1,V I S.c.c2,V I S.c.c3,H FA S.c.l.length fca,H FC S.e.length fcc] 41)=W:=⟨_,rfl⟩
       have hg:Gr w10 w11:=by rw[←hw11];exact (gR _).alloc _
       have hb11:Below w9.heap.size w9 w11:=f3.trans (hg.below.mono f3.size)
       have hBx:Cls w11 w10.heap.size (T6 S FA fca FC fcc):=by rw[←hw11];exact Cls.new w10 _ _
       have hFx:=hK.out.2.1.below hb11
       obtain ⟨a0,a1,a2,a3,a4,a5⟩:=gw hBx
       obtain ⟨b0,b1,b2,b3,b4,b5⟩:=gw hFx
       have hSa:Hid (Calls J 15 #[.agg (T6 S EA eca EC ecc).toArray,.agg (T6 S FA fca FC fcc).toArray] w11 fun e w'=>e= Z (.bool true)∧Gr w11 w'):=by
        have h1:=hK.out.2.2.below hb11
        have h2:=f1.below hg.below
        have hl:S.c.l.length≤maxLen∧S.e.length≤maxLen:=by
         have h1:=(aY (ae hokH.out).1).2.1
         have h2:=(ae hokH.out).2.1
         unfold maxLen
         omega
        have:=kK S S EA EC FA FC eca ecc fca fcc w11 hl.1 hl.1 hl.2 hl.2 h1.row h2.row h1.cel h2.cel
        rw[dP] at this
        exact this
       have hfin:Hid (TwN w1 w11 X Y MA Q MB Q'):=hK.out.1.below hb11
       clear f1 f3 hg hb11 hBx hFx hb hK
       go_wp2_with fail
       try rw[hw11]
       clear hw11
       refine cM (show Calls _ _ _ _ _ from hSa.out) ?_
       rintro e w12 ⟨rfl,g⟩
       have hfin2:Hid (TwN w1 w12 X Y MA Q MB Q'):=hfin.out.below g.below
       clear g hfin hSa a0 b0 a1 b1 a2 b2 a3 b3 a4 b4 a5 b5
       go_wp2
       go_roundw
       case rel=>exact ⟨k+1,by omega,by go_num,hfin2⟩
       case measure=>simp[intOf];omega
end Go.Proofs.YtkefkplnamkicaaGreatDoor
