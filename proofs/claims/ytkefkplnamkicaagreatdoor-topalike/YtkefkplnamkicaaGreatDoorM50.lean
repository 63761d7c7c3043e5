/-
  TopAlike: when all have met, views of one query are the same at all nodes.
-/
import Derived.Test.YtkefkplnamkicaaGreatDoorM49
import Derived.Test.YtkefkplnamkicaaGreatDoorM46
import Derived.Test.YtkefkplnamkicaaGreatDoorM44
set_option maxRecDepth 100000
set_option maxHeartbeats 8000000
open Go.Ending renaming returned → Z
open Go.IntKind renaming i64 → I
open Go.Proofs.Tryz renaming prog → J
open Go.Value renaming int → V, string → O, pointer → H, slice → Y
namespace Go.Proofs.YtkefkplnamkicaaGreatDoor
open Go.RowKit Go.Sort

def fh (l:List (Hap×List UInt8)):List (Hap×List UInt8):=l.filter fun y=>y.1.k != 5
theorem sA {l:List (Hap×List UInt8)} {k:Nat} (hk:k<l.length):fh (l.take (k+1))=if l[k].1.k=5 then fh (l.take k) else fh (l.take k)++[l[k]]:=by
 unfold fh
 rw[List.take_succ_eq_append_getElem hk,List.filter_append]
 by_cases h:l[k].1.k=5
 ·simp[h]
 ·simp[h]
theorem oK (l:List (Hap×List UInt8)):(fh l).length≤l.length:=List.length_filter_le _ _
def yB (w wr:World) (B:Nat) (M:NetM) (x:List UInt8) (k:Nat):Prop:=∃Q,aV w wr B M Q∧QI x Q k
theorem pX (A:Option Addr) (cap:Nat) (l:List (Hap×List UInt8)) (x:List UInt8) (w:World) (hr:Reads w) (hc:l.length≤cap) (row:au bH 10 w A l) (hx:∀p∈l,p.2.length≤maxLen) (hx2:x.length≤maxLen) :
  Calls J 6 #[Y A l.length cap,O ⟨x.toArray⟩] w fun e w'=>e= Z (.bool true)∧Below w.heap.size w w':=by
 have hS:Hid _:=iA w hr
 have hH:Hid (Reads w∧au bH 10 w A l∧(∀p∈l,p.2.length≤maxLen)∧x.length≤maxLen):=⟨hr,row,hx,hx2⟩
 obtain ⟨mm,hmm,hm60,hml⟩:∃m:Nat,min (60:Int) (l.length:Int)=(m:Int)∧m≤60∧m≤l.length:=⟨min 60 l.length,by omega,by omega,by omega⟩
 have hmc:mm≤cap:=nT hml hc
 clear hr row hx hx2
 go_enter Tryz.func6,Tryz.ntmps6
 go_wp2_with fail
 refine cM (show Calls _ _ _ _ _ from hS.out) ?_
 rintro e w1 ⟨rfl,f1⟩
 have hb1:Hid (Below w.heap.size w w1):=f1
 clear f1 hS
 go_wp2
 go_loopw [5,25] (fun v5 v25 wr=>∃k:Nat,k≤mm∧v25= V I k∧Hid (af bH 10 30 wr w.heap.size v5 (fh (l.take k))∧Below w.heap.size w wr)) (fun _ v25 _=>mm-(intOf v25).toNat)
 case atStart=>exact ⟨0,nZ _,rfl,af.nil _ _ _ _ _,hb1.out⟩
 case round =>
  obtain ⟨k,hk,rfl,hI⟩:=hrel
  by_cases hkl:k<mm
  ·have hkz:(k:Int)<(mm:Int):=by omega
   have hkl':k<l.length:=by omega
   obtain ⟨bb,off,hA,hbb,hcl⟩:=hH.out.2.1.at hkl'
   subst hA
   obtain ⟨y,hy⟩:∃y,l[k]=y:=⟨_,rfl⟩
   have hcl:=hcl k hkl'
   rw[hy] at hcl
   have c0:=(hI.out.2.cell (p:=⟨bb,off+k*10+0,none⟩) hbb).trans (hcl 0 (by omega))
   have c1:=(hI.out.2.cell (p:=⟨bb,off+k*10+1,none⟩) hbb).trans (hcl 1 (by omega))
   have c2:=(hI.out.2.cell (p:=⟨bb,off+k*10+2,none⟩) hbb).trans (hcl 2 (by omega))
   have c3:=(hI.out.2.cell (p:=⟨bb,off+k*10+3,none⟩) hbb).trans (hcl 3 (by omega))
   have c4:=(hI.out.2.cell (p:=⟨bb,off+k*10+4,none⟩) hbb).trans (hcl 4 (by omega))
   have c5:=(hI.out.2.cell (p:=⟨bb,off+k*10+5,none⟩) hbb).trans (hcl 5 (by omega))
   have c6:=(hI.out.2.cell (p:=⟨bb,off+k*10+6,none⟩) hbb).trans (hcl 6 (by omega))
   have c7:=(hI.out.2.cell (p:=⟨bb,off+k*10+7,none⟩) hbb).trans (hcl 7 (by omega))
   have c8:=(hI.out.2.cell (p:=⟨bb,off+k*10+8,none⟩) hbb).trans (hcl 8 (by omega))
   have c9:=(hI.out.2.cell (p:=⟨bb,off+k*10+9,none⟩) hbb).trans (hcl 9 (by omega))
   simp only[bH,z0',zS,Nat.add_zero] at c0 c1 c2 c3 c4 c5 c6 c7 c8 c9
   obtain ⟨w2,hw2⟩:∃W,wr.alloc (.cells #[V I y.1.k,V I y.1.a,V I y.1.b,V I y.1.n,V I y.1.e1,V I y.1.e2,V I y.1.e3,V I y.1.e4,V I y.1.e5,O ⟨y.2.toArray⟩] 30)=W:=⟨_,rfl⟩
   have hg2:Gr wr w2:=by rw[←hw2];exact (gR wr).alloc _
   have hBx:Cls w2 wr.heap.size [V I y.1.k,V I y.1.a,V I y.1.b,V I y.1.n,V I y.1.e1,V I y.1.e2,V I y.1.e3,V I y.1.e4,V I y.1.e5,O ⟨y.2.toArray⟩]:=by rw[←hw2];exact Cls.new wr _ _
   obtain ⟨b0,b1,b2,b3,b4,b5,b6,b7,b8,b9⟩:=fP hBx
   have hks:=sA hkl'
   rw[hy] at hks
   have hI2:Hid (af bH 10 30 w2 w.heap.size u5 (fh (l.take k))∧Below w.heap.size w w2):=⟨hI.out.1.gr hg2,hI.out.2.trans (hg2.below.mono hI.out.2.size)⟩
   clear hI hcl hbb hy hg2 hBx
   by_cases h4:y.1.k=5
   ·have h4b:(y.1.k != 5)=false:=by simp[h4]
    have hF:Hid (af bH 10 30 w2 w.heap.size u5 (fh (l.take (k+1)))∧Below w.heap.size w w2):=by rw[hks,if_pos h4];exact hI2.out
    clear hks h4 hI2
    go_wp2
    try rw[hw2]
    clear hw2 c0 c1 c2 c3 c4 c5 c6 c7 c8 c9 b0 b1 b2 b3 b4 b5 b6 b7 b8 b9
    go_roundw
    case rel=>exact ⟨k+1,by omega,by go_num,hF⟩
    case measure=>simp[intOf];omega
   ·have h4b:(y.1.k != 5)=true:=by simp[h4]
    obtain ⟨w3,hw3⟩:∃W,w2.alloc (.cells #[V I y.1.k,V I y.1.a,V I y.1.b,V I y.1.n,V I y.1.e1,V I y.1.e2,V I y.1.e3,V I y.1.e4,V I y.1.e5,O ⟨y.2.toArray⟩] 30)=W:=⟨_,rfl⟩
    have hI3:Hid (af bH 10 30 w3 w.heap.size u5 (fh (l.take k))∧Below w.heap.size w w3∧au bH 10 w3 (some ⟨w2.heap.size,0,none⟩) [y]∧(fh (l.take k)).length≤1000):=by
     have hg3:Gr w2 w3:=by rw[←hw3];exact (gR w2).alloc _
     refine ⟨hI2.out.1.gr hg3,hI2.out.2.trans (hg3.below.mono hI2.out.2.size),by rw[←hw3];exact gK fR rfl [y] _ _ rfl,?_⟩
     have h1:=oK (l.take k)
     rw[List.length_take] at h1
     omega
    have hks2:Hid (fh (l.take (k+1))=fh (l.take k)++[y]):=by show _=_;rw[hks,if_neg h4]
    clear hks h4 hI2
    go_wp2_with (at_builtin;refine gX _ rfl _ _ rfl w.heap.size u5 (fh (l.take k)) y w2.heap.size rfl rfl (by first|exact hI3.out.1|(rw[hw3];exact hI3.out.1)) (by first|exact hI3.out.2.2.1|(rw[hw3];exact hI3.out.2.2.1)) hI3.out.2.2.2 (by first|exact hI3.out.2.1.size|(rw[hw3];exact hI3.out.2.1.size)) ?_;intro v6 w6 g1 g2)
    have hF:Hid (af bH 10 30 w6 w.heap.size v6 (fh (l.take (k+1)))∧Below w.heap.size w w6):=⟨by rw[hks2.out];exact g1,hI3.out.2.1.trans (by first|exact g2|(rw[←hw3];exact g2)|(rw[hw3] at g2;exact g2))⟩
    clear g1 g2 hI3 hks2 hw3 hw2 c0 c1 c2 c3 c4 c5 c6 c7 c8 c9 b0 b1 b2 b3 b4 b5 b6 b7 b8 b9
    go_roundw
    case rel=>exact ⟨k+1,by omega,by go_num,hF⟩
    case measure=>simp[intOf];omega
  have hkz:¬(k:Int)<(mm:Int):=by omega
  obtain rfl:k=mm:=by omega
  obtain ⟨K,hK⟩:∃K,fh (l.take k)=K:=⟨_,rfl⟩
  rw[hK] at hI
  obtain ⟨KA,kc,hu,_,hkr,_⟩:=af.row fR hI.out.1
  subst hu
  have hK60:K.length≤60:=by have h1:=oK (l.take k);rw[hK,List.length_take] at h1;omega
  have hKx:Hid (∀p∈K,p.2.length≤maxLen∧p.1.k≠5):=fun p hp=>by
   rw[←hK] at hp
   have h1:=List.mem_filter.1 hp
   exact ⟨hH.out.2.2.1 p (List.mem_of_mem_take h1.1),by simpa using h1.2⟩
  have hR:Hid (Reads wr∧Below w.heap.size w wr∧au bH 10 wr KA K):=⟨hH.out.1.below hI.out.2,hI.out.2,hkr⟩
  rename World=>wa
  have hN:Hid _:=eH wa
  clear hI hK hkr hmm hml hmc hkz hk
  go_wp2_with fail
  refine cM (show Calls _ _ _ _ _ from hN.out) ?_
  rintro e w2 ⟨rfl,f1,f2⟩
  obtain ⟨B,hB⟩:∃n,wa.heap.size=n:=⟨_,rfl⟩
  obtain ⟨h2,hh2,hh3⟩:∃h:Nat,(K.length:Int).tdiv 2=(h:Int)∧h≤K.length:=⟨K.length / 2,by rw[Int.tdiv_eq_ediv_of_nonneg (by omega)];omega,by omega⟩
  have hI:Hid (∃Q,aV wa w2 B (((K.take 0).map (·.1)).foldl aj aG) Q∧QI x Q 0∧(0≤h2→Q=fun _=>[])):=by
   rw[←hB]
   exact ⟨_,aV.new (bR _ _) f1 f2,QI.zero x,fun _=>rfl⟩
  have hwa:Hid (Below w.heap.size w wa):=hR.out.2.1
  clear f1 f2 hN
  go_wp2
  try rw[hB]
  go_loopw [40] (fun v40 wr=>∃k:Nat,k≤K.length∧v40= V I k∧Hid (∃Q,aV wa wr B (((K.take k).map (·.1)).foldl aj aG) Q∧QI x Q 0∧(k≤h2→Q=fun _=>[]))) (fun v40 _=>K.length-(intOf v40).toNat)
  case atStart=>exact ⟨0,nZ _,rfl,hI⟩
  clear hI hB
  rename World=>wr
  obtain ⟨k,hk,rfl,hI⟩:=hrel
  by_cases hkl:k<K.length
  ·have hkz:(k:Int)<(K.length:Int):=by omega
   obtain ⟨Q,hQ,hq1,hq2⟩:=hI.out
   obtain ⟨bb,off,hA,hbb,hcl⟩:=hR.out.2.2.at hkl
   subst hA
   have hbw:Below wa.heap.size wa wr:=hQ.2.1
   obtain ⟨y,hy⟩:∃y,K[k]=y:=⟨_,rfl⟩
   have hcl:=hcl k hkl
   rw[hy] at hcl
   have c0:=(hbw.cell (p:=⟨bb,off+k*10+0,none⟩) hbb).trans (hcl 0 (by omega))
   have c1:=(hbw.cell (p:=⟨bb,off+k*10+1,none⟩) hbb).trans (hcl 1 (by omega))
   have c2:=(hbw.cell (p:=⟨bb,off+k*10+2,none⟩) hbb).trans (hcl 2 (by omega))
   have c3:=(hbw.cell (p:=⟨bb,off+k*10+3,none⟩) hbb).trans (hcl 3 (by omega))
   have c4:=(hbw.cell (p:=⟨bb,off+k*10+4,none⟩) hbb).trans (hcl 4 (by omega))
   have c5:=(hbw.cell (p:=⟨bb,off+k*10+5,none⟩) hbb).trans (hcl 5 (by omega))
   have c6:=(hbw.cell (p:=⟨bb,off+k*10+6,none⟩) hbb).trans (hcl 6 (by omega))
   have c7:=(hbw.cell (p:=⟨bb,off+k*10+7,none⟩) hbb).trans (hcl 7 (by omega))
   have c8:=(hbw.cell (p:=⟨bb,off+k*10+8,none⟩) hbb).trans (hcl 8 (by omega))
   have c9:=(hbw.cell (p:=⟨bb,off+k*10+9,none⟩) hbb).trans (hcl 9 (by omega))
   simp only[bH,z0',zS,Nat.add_zero] at c0 c1 c2 c3 c4 c5 c6 c7 c8 c9
   obtain ⟨w3,hw3⟩:∃W,wr.alloc (.cells #[V I y.1.k,V I y.1.a,V I y.1.b,V I y.1.n,V I y.1.e1,V I y.1.e2,V I y.1.e3,V I y.1.e4,V I y.1.e5,O ⟨y.2.toArray⟩] 30)=W:=⟨_,rfl⟩
   have hg3:Gr wr w3:=by rw[←hw3];exact (gR wr).alloc _
   have hBx:Cls w3 wr.heap.size [V I y.1.k,V I y.1.a,V I y.1.b,V I y.1.n,V I y.1.e1,V I y.1.e2,V I y.1.e3,V I y.1.e4,V I y.1.e5,O ⟨y.2.toArray⟩]:=by rw[←hw3];exact Cls.new wr _ _
   obtain ⟨M,hM⟩:∃M,((K.take k).map (·.1)).foldl aj aG=M:=⟨_,rfl⟩
   rw[hM] at hQ
   have hnx:Hid (((K.take (k+1)).map (·.1)).foldl aj aG=aj M y.1):=by
    show _=_
    rw[List.take_succ_eq_append_getElem hkl,List.map_append,List.foldl_append,hy,hM]
    rfl
   have hy5:=hKx.out y (by rw[←hy];exact gM _)
   have hBl:B<wr.heap.size:=by
    obtain ⟨⟨P,h1,_⟩,_⟩:=hQ
    exact h1.lt
   have step:Hid (∀W Q,aV wa W B M Q→Calls J 11 #[H (some ⟨B,0,none⟩),.agg #[V I y.1.k,V I y.1.a,V I y.1.b,V I y.1.n,V I y.1.e1,V I y.1.e2,V I y.1.e3,V I y.1.e4,V I y.1.e5,O ⟨y.2.toArray⟩]] W fun e w'=>∃er,e= Z (V I er)∧aV wa w' B (aj M y.1) Q):=fun W Q hW=>by
    refine (doL hW hR.out.1 y hy5.1).mono ?_
    rintro e w' ⟨er,Q',rfl,g1,g2,_⟩
    obtain ⟨rfl,rfl⟩:=g1.ok hy5.2
    exact ⟨_,rfl,g2⟩
   have hJ:Hid (aV wa w3 B M Q∧QI x Q 0∧(k≤h2→Q=fun _=>[])∧Cls w3 wr.heap.size [V I y.1.k,V I y.1.a,V I y.1.b,V I y.1.n,V I y.1.e1,V I y.1.e2,V I y.1.e3,V I y.1.e4,V I y.1.e5,O ⟨y.2.toArray⟩]∧B<wr.heap.size):=⟨hQ.below hg3.below,hq1,hq2,hBx,hBl⟩
   clear hI hQ hq1 hq2 hcl hbb hbw hy hg3 hM hy5 hBl
   by_cases hkh:k=h2
   ·subst hkh
    have hD:Hid (Calls J 11 #[H (some ⟨B,0,none⟩),.agg #[V I 5,V I 0,V I 0,V I 0,V I 0,V I 0,V I 0,V I 0,V I 0,O ⟨x.toArray⟩]] w3 fun e w'=>∃er Q',e= Z (V I er)∧QI x Q' 0∧aV wa w' B M Q'∧Wr B 0 153 w3 w'):=by
     refine (doL hJ.out.1 hR.out.1 (oG 0,x) hH.out.2.2.2).mono ?_
     rintro e w' ⟨er,Q',rfl,g1,g2,g3⟩
     rw[hJ.out.2.2.1 (Nat.le_refl _)] at g1
     rw[tK] at g2
     exact ⟨er,Q',rfl,QI.first (oD (i:=0) (by omega) g1 (by show (0:Nat)<4;omega)),g2,g3⟩
    obtain ⟨b0,b1,b2,b3,b4,b5,b6,b7,b8,b9⟩:=fP hBx
    clear hBx
    go_wp2_with fail
    try rw[hw3]
    clear hw3 c0 c1 c2 c3 c4 c5 c6 c7 c8 c9
    refine cM (show Calls _ _ _ _ _ from hD.out) ?_
    rintro e w4 ⟨er,Q',rfl,f1,f2,f3⟩
    have hBx:Cls w4 wr.heap.size [V I y.1.k,V I y.1.a,V I y.1.b,V I y.1.n,V I y.1.e1,V I y.1.e2,V I y.1.e3,V I y.1.e4,V I y.1.e5,O ⟨y.2.toArray⟩]:=hJ.out.2.2.2.1.keep (f3.oth _ hJ.out.2.2.2.1.lt (by have:=hJ.out.2.2.2.2;omega))
    have hJ4:Hid (aV wa w4 B M Q'∧QI x Q' 0):=⟨f2,f1⟩
    clear f1 f2 f3 hD hJ b0 b1 b2 b3 b4 b5 b6 b7 b8 b9
    obtain ⟨b0,b1,b2,b3,b4,b5,b6,b7,b8,b9⟩:=fP hBx
    clear hBx
    go_wp2_with fail
    refine cM (step.out _ _ hJ4.out.1) ?_
    rintro e w5 ⟨er2,rfl,g⟩
    have hF:Hid (∃Q,aV wa w5 B (((K.take (k+1)).map (·.1)).foldl aj aG) Q∧QI x Q 0∧(k+1≤k→Q=fun _=>[])):=⟨Q',by rw[hnx.out];exact g,hJ4.out.2,fun h=>absurd h (by omega)⟩
    clear g hJ4 hnx step b0 b1 b2 b3 b4 b5 b6 b7 b8 b9
    go_wp2
    go_roundw
    case rel=>exact ⟨k+1,by omega,by go_num,hF⟩
    case measure=>simp[intOf];omega
   ·have hk2:¬(k:Int)=(h2:Int):=by omega
    have hk3:((k:Int)==(h2:Int))=false:=by simpa using hk2
    obtain ⟨b0,b1,b2,b3,b4,b5,b6,b7,b8,b9⟩:=fP hBx
    clear hBx
    go_wp2_with fail
    try rw[hw3]
    clear hw3 c0 c1 c2 c3 c4 c5 c6 c7 c8 c9
    refine cM (step.out _ _ hJ.out.1) ?_
    rintro e w5 ⟨er2,rfl,g⟩
    have hF:Hid (∃Q,aV wa w5 B (((K.take (k+1)).map (·.1)).foldl aj aG) Q∧QI x Q 0∧(k+1≤h2→Q=fun _=>[])):=⟨Q,by rw[hnx.out];exact g,hJ.out.2.1,fun h=>hJ.out.2.2.1 (by omega)⟩
    clear g hJ hnx step b0 b1 b2 b3 b4 b5 b6 b7 b8 b9
    go_wp2
    go_roundw
    case rel=>exact ⟨k+1,by omega,by go_num,hF⟩
    case measure=>simp[intOf];omega
  have hkz:¬(k:Int)<(K.length:Int):=by omega
  obtain rfl:k=K.length:=by omega
  obtain ⟨Q,hQ,hq1,_⟩:=hI.out
  rw[List.take_length] at hQ
  have hIv:NInv (0+(K.map (·.1)).length) ((K.map (·.1)).foldl aj aG):=NInv.play _ NInv.new (by rw[List.length_map];omega)
  obtain ⟨M,hM⟩:∃M,(K.map (·.1)).foldl aj aG=M:=⟨_,rfl⟩
  rw[hM] at hQ hIv
  have hE:Hid _:=tQ hQ hIv
  obtain ⟨_,m1,m2,_⟩:=hIv.met
  obtain ⟨N,hN⟩:∃N,d8 M=N:=⟨_,rfl⟩
  rw[hN] at hE m1 m2
  obtain ⟨S,hSe⟩:∃S,lr M.s=S:=⟨_,rfl⟩
  obtain ⟨T,hTe⟩:∃S,lr M.t=S:=⟨_,rfl⟩
  rw[hSe] at m1
  rw[hTe] at m2
  have hq:Hid (QI x Q 0∧(∀j,j<4→N.s j=S)∧∀j,j<4→N.t j=T):=⟨hq1,m1,m2⟩
  clear hI hQ hq1 hM hN hIv m1 m2 hSe hTe hh2 hh3
  go_wp2_with fail
  refine cM (show Calls _ _ _ _ _ from hE.out) ?_
  rintro e w6 ⟨rfl,f1,_⟩
  have hA6:Hid (yB wa w6 B N x 0):=⟨Q,f1,hq.out.1⟩
  clear f1 hE
  go_wp2
  go_loopw [61] (fun v61 wr=>∃i:Nat,i≤4∧v61= V I i∧Hid (yB wa wr B N x i)) (fun v61 _=>4-(intOf v61).toNat)
  case atStart=>exact ⟨0,by omega,rfl,hA6⟩
  clear hA6
  rename World=>wr
  obtain ⟨i,hi,rfl,hJ⟩:=hrel
  by_cases hi4:i<4
  ·have hiz:(i:Int)<4:=by omega
   have hD:Hid (Calls J 11 #[H (some ⟨B,0,none⟩),.agg #[V I 5,V I i,V I 0,V I 0,V I 0,V I 0,V I 0,V I 0,V I 0,O ⟨x.toArray⟩]] wr fun e w'=>∃er,e= Z (V I er)∧yB wa w' B N x (i+1)):=by
    obtain ⟨Q1,h1,h2⟩:=hJ.out
    refine (doL h1 hR.out.1 (oG i,x) hH.out.2.2.2).mono ?_
    rintro e w' ⟨er,Q',rfl,g1,g2,_⟩
    rw[tK] at g2
    exact ⟨er,rfl,Q',g2,h2.step (oD hi4 g1 (by have:=h2.few i (nR _);omega))⟩
   clear hJ
   go_wp2_with fail
   refine cM (show Calls _ _ _ _ _ from hD.out) ?_
   rintro e w7 ⟨er,rfl,f1⟩
   have hF:Hid (yB wa w7 B N x (i+1)):=f1
   clear f1 hD
   go_wp2
   go_roundw
   case rel=>exact ⟨i+1,by omega,by go_num,hF⟩
   case measure=>simp[intOf];omega
  have hiz:¬(i:Int)<4:=by omega
  obtain rfl:i=4:=by omega
  obtain ⟨Q1,h1,h2⟩:=hJ.out
  obtain ⟨E,F,hEF⟩:=h2.tell S T
  have view:Hid (∀W,aV wa W B N Q1→∀i:Nat,i<4→Calls J 24 #[H (some ⟨B,0,none⟩),V I i,V I 0] W fun e w'=>∃(L:List Itm) (C:Option Addr) (k:Nat),e= Z (.tuple #[Y C L.length k,V I E])∧L.map Itm.z=F∧Lv w' C k L∧Below W.heap.size W w'):=fun W hW i hi=>by
   obtain ⟨⟨P,hP,_⟩,_⟩:=hW
   refine vJ hP i hi ?_
   rw[hq.out.2.1 i hi,hq.out.2.2 i hi]
   exact hEF i hi
  have hV0:Hid _:=view.out wr h1 0 (by omega)
  have hL:Hid (aV wa wr B N Q1):=h1
  clear hJ h1 h2 hEF hq
  go_wp2_with fail
  refine cM (show Calls _ _ _ _ _ from hV0.out) ?_
  rintro e w8 ⟨L0,C0,k0,rfl,f1,f2,f3⟩
  have hK8:Hid (aV wa w8 B N Q1∧Lv w8 C0 k0 L0∧L0.map Itm.z=F):=⟨hL.out.below f3,f2,f1⟩
  clear f1 f2 f3 hV0 hL
  go_wp2
  go_loopw [75] (fun v75 wr=>∃i:Nat,i≤4∧v75= V I i∧Hid (aV wa wr B N Q1∧Lv wr C0 k0 L0∧L0.map Itm.z=F)) (fun v75 _=>4-(intOf v75).toNat)
  case atStart=>exact ⟨0,by omega,rfl,hK8⟩
  clear hK8
  rename World=>wr
  obtain ⟨i,hi,rfl,hJ⟩:=hrel
  by_cases hi4:i<4
  rotate_left
  ·have hz:¬(i:Int)<4:=by omega
   go_wp2
   go_ret
   exact ⟨rfl,hwa.out.trans (hJ.out.1.2.1.mono hwa.out.size)⟩
  have hiz:(i:Int)<4:=by omega
  have hV:Hid _:=view.out wr hJ.out.1 i hi4
  go_wp2_with fail
  refine cM (show Calls _ _ _ _ _ from hV.out) ?_
  rintro e w9 ⟨L,C,kk,rfl,f1,f2,f3⟩
  have hK9:Hid (aV wa w9 B N Q1∧Lv w9 C0 k0 L0∧L0.map Itm.z=F):=⟨hJ.out.1.below f3,hJ.out.2.1.below f3,hJ.out.2.2⟩
  have hSm:Hid (Calls J 25 #[Y C0 L0.length k0,Y C L.length kk] w9 fun e w'=>e= Z (.bool true)∧Gr w9 w'):=by
   have:=kJ L0 L C0 C k0 kk w9 hK9.out.2.1.len hK9.out.2.1.items f2.items
   rw[hK9.out.2.2,f1,decide_eq_true rfl] at this
   exact this
  clear f1 f2 f3 hV hJ
  go_wp2_with fail
  refine cM (show Calls _ _ _ _ _ from hSm.out) ?_
  rintro e w10 ⟨rfl,g⟩
  have hK10:Hid (aV wa w10 B N Q1∧Lv w10 C0 k0 L0∧L0.map Itm.z=F):=⟨hK9.out.1.below g.below,hK9.out.2.1.gr g,hK9.out.2.2⟩
  clear g hSm hK9
  go_wp2
  go_roundw
  case rel=>exact ⟨i+1,by omega,by go_num,hK10⟩
  case measure=>simp[intOf];omega
end Go.Proofs.YtkefkplnamkicaaGreatDoor
