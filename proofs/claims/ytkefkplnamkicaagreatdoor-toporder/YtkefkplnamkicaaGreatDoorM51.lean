/-
  TopOrder: however packets come, who has got all has what who got them in order has.
-/
import Derived.Test.YtkefkplnamkicaaGreatDoorM49
set_option maxRecDepth 100000
set_option maxHeartbeats 8000000
open Go.IntKind renaming i64 → I
open Go.Value renaming int → V, slice → J, string → Z, agg → H, bool → U
namespace Go.Proofs.YtkefkplnamkicaaGreatDoor
open Go.RowKit Go.Sort

theorem qe (A:Option Addr) (cap:Nat) (l:List (Hap×List UInt8)) (O:Option Addr) (co:Nat) (os:List Int) (w:World) (hr:Reads w) (row:au bH 10 w A l) (hx:∀p∈l,p.2.length≤maxLen) (orow:ay w O os) :
  Calls Tryz.prog 7 #[J A l.length cap,J O os.length co] w fun e w'=>e= .returned (U true)∧Below w.heap.size w w':=by
 have hS:Hid _:=iA w hr
 have hH:Hid (Reads w∧au bH 10 w A l∧(∀p∈l,p.2.length≤maxLen)∧ay w O os):=⟨hr,row,hx,orow⟩
 clear hr row hx orow
 go_enter Tryz.func7,Tryz.ntmps7
 go_wp2_with fail
 refine cM (show Calls _ _ _ _ _ from hS.out) ?_
 rintro e w1 ⟨rfl,f1⟩
 have hb1:Hid (Below w.heap.size w w1):=f1
 clear f1 hS
 by_cases h60:60<l.length
 ·have hz:(60:Int)<(l.length:Int):=by omega
  go_wp2
  go_ret
  exact ⟨rfl,hb1.out⟩
 have hz:¬(60:Int)<(l.length:Int):=by omega
 by_cases h100:100<os.length
 ·have hoz:(100:Int)<(os.length:Int):=by omega
  go_wp2
  go_ret
  exact ⟨rfl,hb1.out⟩
 have hoz:¬(100:Int)<(os.length:Int):=by omega
 go_wp2
 go_loopw [5,32] (fun v5 v32 wr=>∃k:Nat,k≤l.length∧v32= V I k∧Hid (af bH 10 30 wr w.heap.size v5 (cP (l.take k))∧Below w.heap.size w wr)) (fun _ v32 _=>l.length-(intOf v32).toNat)
 case atStart=>exact ⟨0,nZ _,rfl,af.nil _ _ _ _ _,hb1.out⟩
 case round =>
  obtain ⟨k,hk,rfl,hI⟩:=hrel
  by_cases hkl:k<l.length
  ·have hkz:(k:Int)<(l.length:Int):=by omega
   obtain ⟨bb,off,hA,hbb,hcl⟩:=hH.out.2.1.at hkl
   subst hA
   obtain ⟨y,hy⟩:∃y,l[k]=y:=⟨_,rfl⟩
   have hcl:=hcl k hkl
   rw[hy] at hcl
   have c0:=(hI.out.2.cell (p:=⟨bb,off+k*10+0,none⟩) hbb).trans (hcl 0 (by omega))
   have c1:=(hI.out.2.cell (p:=⟨bb,off+k*10+1,none⟩) hbb).trans (hcl 1 (by omega))
   have c2:=(hI.out.2.cell (p:=⟨bb,off+k*10+2,none⟩) hbb).trans (hcl 2 (by omega))
   have c3:=(hI.out.2.cell (p:=⟨bb,off+k*10+3,none⟩) hbb).trans (hcl 3 (by omega))
   have c4:=(hI.out.2.cell (p:=⟨bb,off+k*10+4,none⟩) hbb).trans (hcl 4 (by omega))
   have c5:=(hI.out.2.cell (p:=⟨bb,off+k*10+5,none⟩) hbb).trans (hcl 5 (by omega))
   have c6:=(hI.out.2.cell (p:=⟨bb,off+k*10+6,none⟩) hbb).trans (hcl 6 (by omega))
   have c7:=(hI.out.2.cell (p:=⟨bb,off+k*10+7,none⟩) hbb).trans (hcl 7 (by omega))
   have c8:=(hI.out.2.cell (p:=⟨bb,off+k*10+8,none⟩) hbb).trans (hcl 8 (by omega))
   have c9:=(hI.out.2.cell (p:=⟨bb,off+k*10+9,none⟩) hbb).trans (hcl 9 (by omega))
   simp only[bH,z0',zS,Nat.add_zero] at c0 c1 c2 c3 c4 c5 c6 c7 c8 c9
   obtain ⟨w2,hw2⟩:∃W,wr.alloc (.cells #[V I y.1.k,V I y.1.a,V I y.1.b,V I y.1.n,V I y.1.e1,V I y.1.e2,V I y.1.e3,V I y.1.e4,V I y.1.e5,Z ⟨y.2.toArray⟩] 30)=W:=⟨_,rfl⟩
   have hg2:Gr wr w2:=by rw[←hw2];exact (gR wr).alloc _
   have hBx:Cls w2 wr.heap.size [V I y.1.k,V I y.1.a,V I y.1.b,V I y.1.n,V I y.1.e1,V I y.1.e2,V I y.1.e3,V I y.1.e4,V I y.1.e5,Z ⟨y.2.toArray⟩]:=by rw[←hw2];exact Cls.new wr _ _
   obtain ⟨b0,b1,b2,b3,b4,b5,b6,b7,b8,b9⟩:=fP hBx
   have hks:=oM hkl
   rw[hy] at hks
   have hI2:Hid (af bH 10 30 w2 w.heap.size u5 (cP (l.take k))∧Below w.heap.size w w2):=⟨hI.out.1.gr hg2,hI.out.2.trans (hg2.below.mono hI.out.2.size)⟩
   clear hI hcl hbb hy hg2 hBx
   by_cases h4:y.1.k=4
   ·have h4b:(y.1.k != 4)=false:=by simp[h4]
    have hF:Hid (af bH 10 30 w2 w.heap.size u5 (cP (l.take (k+1)))∧Below w.heap.size w w2):=by rw[hks,if_pos h4];exact hI2.out
    clear hks h4 hI2
    go_wp2
    try rw[hw2]
    clear hw2 c0 c1 c2 c3 c4 c5 c6 c7 c8 c9 b0 b1 b2 b3 b4 b5 b6 b7 b8 b9
    go_roundw
    case rel=>exact ⟨k+1,by omega,by go_num,hF⟩
    case measure=>simp[intOf];omega
   ·have h4b:(y.1.k != 4)=true:=by simp[h4]
    obtain ⟨w3,hw3⟩:∃W,w2.alloc (.cells #[V I y.1.k,V I y.1.a,V I y.1.b,V I y.1.n,V I y.1.e1,V I y.1.e2,V I y.1.e3,V I y.1.e4,V I y.1.e5,Z ⟨y.2.toArray⟩] 30)=W:=⟨_,rfl⟩
    have hI3:Hid (af bH 10 30 w3 w.heap.size u5 (cP (l.take k))∧Below w.heap.size w w3∧au bH 10 w3 (some ⟨w2.heap.size,0,none⟩) [y]∧(cP (l.take k)).length≤1000):=by
     have hg3:Gr w2 w3:=by rw[←hw3];exact (gR w2).alloc _
     refine ⟨hI2.out.1.gr hg3,hI2.out.2.trans (hg3.below.mono hI2.out.2.size),by rw[←hw3];exact gK fR rfl [y] _ _ rfl,?_⟩
     have h1:=mz (l.take k)
     rw[List.length_take] at h1
     omega
    have hks2:Hid (cP (l.take (k+1))=cP (l.take k)++[y]):=by show _=_;rw[hks,if_neg h4]
    clear hks h4 hI2
    go_wp2_with (at_builtin;refine gX _ rfl _ _ rfl w.heap.size u5 (cP (l.take k)) y w2.heap.size rfl rfl (by first|exact hI3.out.1|(rw[hw3];exact hI3.out.1)) (by first|exact hI3.out.2.2.1|(rw[hw3];exact hI3.out.2.2.1)) hI3.out.2.2.2 (by first|exact hI3.out.2.1.size|(rw[hw3];exact hI3.out.2.1.size)) ?_;intro v6 w6 g1 g2)
    have hF:Hid (af bH 10 30 w6 w.heap.size v6 (cP (l.take (k+1)))∧Below w.heap.size w w6):=⟨by rw[hks2.out];exact g1,hI3.out.2.1.trans (by first|exact g2|(rw[←hw3];exact g2)|(rw[hw3] at g2;exact g2))⟩
    clear g1 g2 hI3 hks2 hw3 hw2 c0 c1 c2 c3 c4 c5 c6 c7 c8 c9 b0 b1 b2 b3 b4 b5 b6 b7 b8 b9
    go_roundw
    case rel=>exact ⟨k+1,by omega,by go_num,hF⟩
    case measure=>simp[intOf];omega
  have hkz:¬(k:Int)<(l.length:Int):=by omega
  obtain rfl:k=l.length:=by omega
  rw[List.take_length] at hI
  obtain ⟨K,hK⟩:∃K,cP l=K:=⟨_,rfl⟩
  rw[hK] at hI
  obtain ⟨KA,kc,hu,_,hkr,_⟩:=af.row fR hI.out.1
  subst hu
  have hK60:K.length≤60:=by have:=mz l;rw[hK] at this;omega
  have hKx:∀p∈K,p.2.length≤maxLen:=fun p hp=>by rw[←hK] at hp;exact hH.out.2.2.1 p (List.mem_filter.1 hp).1
  have hR:Hid (Reads wr∧Below w.heap.size w wr):=⟨hH.out.1.below hI.out.2,hI.out.2⟩
  have play:Hid (∀W,Below wr.heap.size wr W→Calls Tryz.prog 17 #[J KA K.length kc] W fun e w'=>∃B Q,e= .returned (.pointer (some ⟨B,0,none⟩))∧aV W w' B ((K.map (·.1)).foldl aj aG) Q):=fun W hW=>gJ W KA kc K (by unfold maxLen;omega) hkr hKx hR.out.1 hW
  have hIv:Hid (NInv (0+(K.map (·.1)).length) ((K.map (·.1)).foldl aj aG)∧((K.map (·.1)).foldl aj aG).pk.length≤60):=⟨NInv.play _ NInv.new (by rw[List.length_map];omega),by
   have:=lJ (K.map (·.1)) aG
   rw[List.length_map] at this
   have h0:aG.pk.length=0:=rfl
   omega⟩
  obtain ⟨M,hM⟩:∃M,(K.map (·.1)).foldl aj aG=M:=⟨_,rfl⟩
  rw[hM] at play hIv
  clear hI hK hkr hKx hM
  go_wp2_with fail
  refine cM (play.out _ (bR _ _)) ?_
  rintro e w2 ⟨X,Q,rfl,f1⟩
  have hX:Hid (aV wr w2 X M Q):=f1
  clear f1
  go_wp2_with fail
  refine cM (play.out _ hX.out.2.1) ?_
  rintro e w3 ⟨Y,Q',rfl,f1⟩
  have hT:Hid (TwN wr w3 X Y M Q M Q'):=TwN.of hX.out f1
  have hp:Hid _:=mP hT.out
  obtain ⟨n,hn⟩:∃n,M.pk.length=n:=⟨_,rfl⟩
  rw[hn] at hp hIv
  have hn60:n≤60:=hIv.out.2
  have hnH:Hid (M.pk.length=n):=hn
  clear f1 hX play hn
  go_wp2_with fail
  refine cM (show Calls _ _ _ _ _ from hp.out) ?_
  rintro e w4 ⟨rfl,h0⟩
  have h0:=h0.symm
  subst h0
  clear hp
  go_wp2
  go_loopw [51] (fun v51 wx=>∃i:Nat,i≤n∧v51= V I i∧Hid (TwN wr wx X Y ((List.range i).foldl aR M) Q M Q')) (fun v51 _=>n-(intOf v51).toNat)
  case atStart=>exact ⟨0,nZ _,rfl,hT⟩
  case round =>
   rename World=>wx
   obtain ⟨i,hi,rfl,hJ⟩:=hrel
   by_cases hin:i<n
   ·have hiz:(i:Int)<(n:Int):=by omega
    have hD:Hid _:=oj hJ.out hR.out.1 i
    have hnx:Hid ((List.range (i+1)).foldl aR M=aR ((List.range i).foldl aR M) i):=by show _=_;rw[List.range_succ,List.foldl_append];rfl
    clear hJ
    go_wp2_with fail
    refine cM (show Calls _ _ _ _ _ from hD.out) ?_
    rintro e w5 ⟨er,rfl,f1⟩
    have hF:Hid (TwN wr w5 X Y ((List.range (i+1)).foldl aR M) Q M Q'):=by rw[hnx.out];exact f1
    clear f1 hD
    go_wp2
    go_roundw
    case rel=>exact ⟨i+1,by omega,by go_num,hF⟩
    case measure=>simp[intOf];omega
   have hiz:¬(i:Int)<(n:Int):=by omega
   obtain rfl:i=n:=by omega
   obtain ⟨MA,hMA⟩:∃N,(List.range i).foldl aR M=N:=⟨_,rfl⟩
   rw[hMA] at hJ
   have hMAH:Hid ((List.range i).foldl aR M=MA):=hMA
   clear hMA hT
   go_wp2
   go_loopw [61] (fun v61 wx=>∃(j:Nat) (rs:List Nat),j≤os.length∧v61= V I j∧Hid (TwN wr wx X Y MA Q (rs.foldl aR M) Q')) (fun v61 _=>os.length-(intOf v61).toNat)
   case atStart=>exact ⟨0,[],nZ _,rfl,hJ⟩
   case round =>
    rename World=>wy
    obtain ⟨j,rs,hj,rfl,hB⟩:=hrel
    by_cases hjl:j<os.length
    ·have hjz:(j:Int)<(os.length:Int):=by omega
     obtain ⟨ob,oo,hO,hob,hoc⟩:=au.at hH.out.2.2.2 hjl
     subst hO
     obtain ⟨z,hz⟩:∃z,os[j]=z:=⟨_,rfl⟩
     have hoc:=hoc j hjl 0 (by omega)
     rw[hz] at hoc
     have hbw:Below w.heap.size w wy:=hR.out.2.trans (hB.out.bel.mono hR.out.2.size)
     have oc:wy.cell? ⟨ob,oo+j,none⟩=some (V I z):=by
      have:=(hbw.cell (p:=⟨ob,oo+j*1+0,none⟩) hob).trans hoc
      rw[Nat.mul_one,Nat.add_zero] at this
      exact this
     have hRs:Hid (∀W,Calls Tryz.prog 13 #[V I z,V I ((max 1 i:Nat):Int)] W fun e w'=>(∃r:Nat,e= .returned (V I r)∧r<max 1 i)∧w'=W):=fun W=>lK z (max 1 i) W (by omega)
     have hmx:max (1:Int) (i:Int)=((max 1 i:Nat):Int):=by omega
     clear hoc hob hbw hz
     go_wp2_with fail
     try rw[hmx]
     refine cM (hRs.out _) ?_
     rintro e w5 ⟨⟨r,rfl,_⟩,h0⟩
     have h0:=h0.symm
     subst h0
     have hD:Hid _:=oj hB.out.swap hR.out.1 r
     have hnx:Hid ((rs++[r]).foldl aR M=aR (rs.foldl aR M) r):=by show _=_;rw[List.foldl_append];rfl
     clear hB hRs oc
     go_wp2_with fail
     refine cM (show Calls _ _ _ _ _ from hD.out) ?_
     rintro e w5 ⟨er,rfl,f1⟩
     have hF:Hid (TwN wr w5 X Y MA Q ((rs++[r]).foldl aR M) Q'):=by rw[hnx.out];exact f1.swap
     clear f1 hD hnx
     go_wp2
     go_roundw
     case rel=>exact ⟨j+1,rs++[r],by omega,by go_num,hF⟩
     case measure=>simp[intOf];omega
    have hjz:¬(j:Int)<(os.length:Int):=by omega
    clear hJ
    go_wp2
    go_loopw [74] (fun v74 wx=>∃k:Nat,k≤i∧v74= V I k∧Hid (TwN wr wx X Y MA Q ((rs++List.range k).foldl aR M) Q')) (fun v74 _=>i-(intOf v74).toNat)
    case atStart=>exact ⟨0,nZ _,rfl,by show TwN _ _ _ _ _ _ _ _;rw[List.range_zero,List.append_nil];exact hB.out⟩
    case round =>
     rename World=>wz
     obtain ⟨k,hk,rfl,hC⟩:=hrel
     by_cases hki:k<i
     ·have hkz:(k:Int)<(i:Int):=by omega
      have hD:Hid _:=oj hC.out.swap hR.out.1 k
      have hnx:Hid ((rs++List.range (k+1)).foldl aR M=aR ((rs++List.range k).foldl aR M) k):=by show _=_;rw[List.range_succ,←List.append_assoc,List.foldl_append];rfl
      clear hC
      go_wp2_with fail
      refine cM (show Calls _ _ _ _ _ from hD.out) ?_
      rintro e w5 ⟨er,rfl,f1⟩
      have hF:Hid (TwN wr w5 X Y MA Q ((rs++List.range (k+1)).foldl aR M) Q'):=by rw[hnx.out];exact f1.swap
      clear f1 hD hnx
      go_wp2
      go_roundw
      case rel=>exact ⟨k+1,by omega,by go_num,hF⟩
      case measure=>simp[intOf];omega
     have hkz:¬(k:Int)<(i:Int):=by omega
     obtain rfl:k=i:=by omega
     obtain ⟨MB,hMB⟩:∃N,(rs++List.range k).foldl aR M=N:=⟨_,rfl⟩
     have hsm:∀j,MA.s j=MB.s j∧MA.t j=MB.t j:=by
      rw[←hMAH.out,←hMB]
      exact ol hIv.out.1 fun n hn=>by
       rw[hnH.out] at hn
       simp[hn]
     rw[hMB] at hC
     have hSm:Hid _:=hsm
     clear hMB hsm hB
     go_wp2
     go_loopw [82] (fun v82 wx=>∃j:Nat,j≤4∧v82= V I j∧Hid (TwN wr wx X Y MA Q MB Q')) (fun v82 _=>4-(intOf v82).toNat)
     case atStart=>exact ⟨0,by omega,rfl,hC⟩
     case round =>
      rename World=>wq
      obtain ⟨j,hj,rfl,hE⟩:=hrel
      by_cases hj4:j<4
      rotate_left
      ·have hz:¬(j:Int)<4:=by omega
       go_wp2
       go_ret
       exact ⟨rfl,hR.out.2.trans (hE.out.bel.mono hR.out.2.size)⟩
      have hjz4:(j:Int)<4:=by omega
      obtain ⟨ta0,hok⟩:=rI hE.out j hj4
      have tb0:∀W,TwN wr W X Y MA Q MB Q'→Calls Tryz.prog 19 #[.pointer (some ⟨Y,0,none⟩),V I j] W fun e w'=>∃v,e= .returned (.tuple #[v,U true])∧PkW W.heap.size w' v (MA.s j) (MA.t j)∧Below W.heap.size W w':=fun W hW=>by
       have:=(rI hW.swap j hj4).1
       rwa [←(hSm.out j).1,←(hSm.out j).2] at this
      obtain ⟨S,hS⟩:∃S,MA.s j=S:=⟨_,rfl⟩
      obtain ⟨T,hTe⟩:∃S,MA.t j=S:=⟨_,rfl⟩
      rw[hS,hTe] at ta0 tb0 hok
      have ta:Hid _:=ta0
      have tb:Hid _:=tb0
      have hokH:Hid (am S=0∧am T=0):=hok
      clear ta0 tb0 hok hS hTe
      go_wp2_with fail
      refine cM (show Calls _ _ _ _ _ from ta.out) ?_
      rintro e w8 ⟨v,rfl,⟨EA,eca,EC,ecc,EB,ecb,ED,ecd,rfl,f1,f2⟩,f3⟩
      obtain ⟨w9,hw9⟩:∃W,w8.alloc (.cells #[V I S.c.c0,V I S.c.c1,V I S.c.c2,V I S.c.c3,J EA S.c.l.length eca,J EC S.e.length ecc,V I T.c.c0,V I T.c.c1,V I T.c.c2,V I T.c.c3,J EB T.c.l.length ecb,J ED T.e.length ecd] 48)=W:=⟨_,rfl⟩
      have hK:Hid (TwN wr w9 X Y MA Q MB Q'∧Cls w9 w8.heap.size (T2 S EA eca EC ecc T EB ecb ED ecd)∧TbW wq.heap.size w9 S EA eca EC ecc∧TbW wq.heap.size w9 T EB ecb ED ecd):=by
       have hg:Gr w8 w9:=by rw[←hw9];exact (gR _).alloc _
       exact ⟨(hE.out.below f3).below hg.below,by rw[←hw9];exact Cls.new w8 _ _,f1.below hg.below,f2.below hg.below⟩
      have hb:Hid _:=tb.out w9 hK.out.1
      clear f1 f2 f3 ta tb hE
      go_wp2_with fail
      try rw[hw9]
      clear hw9
      refine cM (show Calls _ _ _ _ _ from hb.out) ?_
      rintro e w10 ⟨v,rfl,⟨FA,fca,FC,fcc,FB,fcb,FD,fcd,rfl,f1,f2⟩,f3⟩
      obtain ⟨w11,hw11⟩:∃W,w10.alloc (.cells #[V I S.c.c0,V I S.c.c1,V I S.c.c2,V I S.c.c3,J FA S.c.l.length fca,J FC S.e.length fcc,V I T.c.c0,V I T.c.c1,V I T.c.c2,V I T.c.c3,J FB T.c.l.length fcb,J FD T.e.length fcd] 48)=W:=⟨_,rfl⟩
      have hg:Gr w10 w11:=by rw[←hw11];exact (gR _).alloc _
      have hb11:Below w9.heap.size w9 w11:=f3.trans (hg.below.mono f3.size)
      have hBx:Cls w11 w10.heap.size (T2 S FA fca FC fcc T FB fcb FD fcd):=by rw[←hw11];exact Cls.new w10 _ _
      have hFx:=hK.out.2.1.below hb11
      obtain ⟨a0,a1,a2,a3,a4,a5,a6,a7,a8,a9,a10,a11⟩:=dR hBx
      obtain ⟨b0,b1,b2,b3,b4,b5,b6,b7,b8,b9,b10,b11⟩:=dR hFx
      have hSa:Hid (Calls Tryz.prog 20 #[H (T2 S EA eca EC ecc T EB ecb ED ecd).toArray,H (T2 S FA fca FC fcc T FB fcb FD fcd).toArray] w11 fun e w'=>e= .returned (U true)∧Gr w11 w'):=by
       have:=mX (w:=w11) (v:= H (T2 S EA eca EC ecc T EB ecb ED ecd).toArray) (u:= H (T2 S FA fca FC fcc T FB fcb FD fcd).toArray) ⟨EA,eca,EC,ecc,EB,ecb,ED,ecd,rfl,hK.out.2.2.1.below hb11,hK.out.2.2.2.below hb11⟩ ⟨FA,fca,FC,fcc,FB,fcb,FD,fcd,rfl,f1.below hg.below,f2.below hg.below⟩ hokH.out.1 hokH.out.2 hokH.out.1 hokH.out.2
       rw[dP,dP] at this
       exact this
      have hfin:Hid (TwN wr w11 X Y MA Q MB Q'):=hK.out.1.below hb11
      clear f1 f2 f3 hg hb11 hBx hFx hb hK
      go_wp2_with fail
      try rw[hw11]
      clear hw11
      refine cM (show Calls _ _ _ _ _ from hSa.out) ?_
      rintro e w12 ⟨rfl,g⟩
      have hfin2:Hid (TwN wr w12 X Y MA Q MB Q'):=hfin.out.below g.below
      clear g hfin hSa a0 b0 a1 b1 a2 b2 a3 b3 a4 b4 a5 b5 a6 b6 a7 b7 a8 b8 a9 b9 a10 b10 a11 b11
      go_wp2
      go_roundw
      case rel=>exact ⟨j+1,by omega,by go_num,hfin2⟩
      case measure=>simp[intOf];omega
end Go.Proofs.YtkefkplnamkicaaGreatDoor
