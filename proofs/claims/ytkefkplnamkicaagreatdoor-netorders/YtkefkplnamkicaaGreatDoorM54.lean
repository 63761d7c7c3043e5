/-
  viewkeep.met: two nodes have the same when they have met.
-/
import Derived.Test.YtkefkplnamkicaaGreatDoorM49
set_option maxRecDepth 100000
set_option maxHeartbeats 8000000
namespace Go.Proofs.YtkefkplnamkicaaGreatDoor
open Go.RowKit Go.Sort
set_option linter.unusedSimpArgs false

def pH (a b:Int):Hap:=⟨2,a,b,0,0,0,0,0,0⟩
theorem mt1:dW cH cH tT0 cH=0∧ac cH tT0=tT0:=by
 simp only[dW,al,ac,aC,aA,cO,dT,aE,mrg,iC,fH]
 exact ⟨by kernel_rfl,by kernel_rfl⟩
theorem mt2:cN (bP 3 0 tT0.e)=[4]:=by
 rw[rn]
 kernel_rfl
theorem B6:∃N1 N2 N3,bq aG (dF 0 3 0 4)=0∧aj aG (dF 0 3 0 4)=N1∧bq N1 (pH 0 2)=0∧aj N1 (pH 0 2)=N2∧bq N2 (cC 0)=0∧aj N2 (cC 0)=N3∧N3.s 2=tT0∧N3.pk.length=1:=by
 obtain ⟨e1,m1⟩:=hed aG (dF 0 3 0 4) 0 rfl rfl (by omega) rfl
 have e1:=e1.trans sd1.1
 have m1:=m1.trans (congrArg (fun t=>NetM.mk (upd aG.s 0 t) aG.t aG.pk) sd1.2)
 refine ⟨_,_,_,e1,m1,rfl,rfl,mt1.1,rfl,?_,rfl⟩
 show upd (upd (fun _=>cH) 0 tT0) 2 (l8 cH cH tT0 cH) 2=tT0
 rw[bB]
 unfold l8
 rw[if_pos mt1.1]
 exact mt1.2
theorem zt (w:World) (hr:Reads w):Calls Tryz.prog 9 #[] w fun e w'=>e= .returned (.bool true)∧Below w.heap.size w w':=by
 obtain ⟨N1,N2,N3,e1,m1,e2,m2,e3,m3,hs,hp⟩:=B6
 have hN:Hid _:=eH w
 have one:Hid (∀ {W:World} {M M':NetM} {Q:Nat→List (List Stp)} (y:Hap),y.k≠5→aV w W w.heap.size M Q→bq M y=0→aj M y=M'→Calls Tryz.prog 11 #[.pointer (some ⟨w.heap.size,0,none⟩),.agg (bH (y,[])).toArray] W fun e w'=>e= .returned (.int .i64 0)∧aV w w' w.heap.size M' Q):=by
  intro W M M' Q y hk hL h0 hM
  refine (doL hL hr (y,[]) (nZ _)).mono ?_
  rintro e w' ⟨er,Q',rfl,f1,f2,f3⟩
  obtain ⟨rfl,rfl⟩:=f1.ok hk
  rw[←hM]
  exact ⟨by rw[show bq M (y,([]:List UInt8)).1=0 from h0],f2⟩
 have hE1:Hid (bq aG (dF 0 3 0 4)=0∧aj aG (dF 0 3 0 4)=N1):=⟨e1,m1⟩
 have hE2:Hid (bq N1 (pH 0 2)=0∧aj N1 (pH 0 2)=N2):=⟨e2,m2⟩
 have hE3:Hid (bq N2 (cC 0)=0∧aj N2 (cC 0)=N3):=⟨e3,m3⟩
 have hE4:Hid (N3.s 2=tT0∧N3.pk.length=1):=⟨hs,hp⟩
 clear e1 m1 e2 m2 e3 m3 hs hp hr
 go_enter Tryz.func9,Tryz.ntmps9
 go_wp2_with fail
 refine cM (show Calls _ _ _ _ _ from hN.out) ?_
 rintro e w1 ⟨rfl,f1,f2⟩
 have hI:Hid (aV w w1 w.heap.size aG (fun _=>[])):=aV.new (bR _ _) f1 f2
 clear f1 f2 hN
 have hD:Hid _:=one.out (dF 0 3 0 4) (by decide) hI.out hE1.out.1 hE1.out.2
 go_wp2_with fail
 refine cM (show Calls _ _ _ _ _ from hD.out) ?_
 rintro e w2 ⟨rfl,f1⟩
 have hI:Hid (aV w w2 w.heap.size N1 (fun _=>[])):=f1
 clear f1 hD
 have hD:Hid _:=one.out (pH 0 2) (by decide) hI.out hE2.out.1 hE2.out.2
 go_wp2_with fail
 refine cM (show Calls _ _ _ _ _ from hD.out) ?_
 rintro e w3 ⟨rfl,f1⟩
 have hI:Hid (aV w w3 w.heap.size N2 (fun _=>[])):=f1
 clear f1 hD
 have hD:Hid _:=one.out (cC 0) (by decide) hI.out hE3.out.1 hE3.out.2
 go_wp2_with fail
 refine cM (show Calls _ _ _ _ _ from hD.out) ?_
 rintro e w4 ⟨rfl,f1⟩
 have hI:Hid (aV w w4 w.heap.size N3 (fun _=>[])):=f1
 clear f1 hD
 have t0:Calls Tryz.prog 14 #[.pointer (some ⟨w.heap.size,0,none⟩),.int .i64 2,.int .i64 0] w4 fun e w'=>∃v,e= .returned (.tuple #[v,.int .i64 0])∧TbV w4.heap.size w' v tT0∧Below w4.heap.size w4 w':=by
  obtain ⟨⟨P,hP,_⟩,_⟩:=hI.out
  have:=lN hP 2 (by omega)
  rwa [hE4.out.1] at this
 have hT0:Hid _:=t0
 clear t0
 go_wp2_with fail
 refine cM (show Calls _ _ _ _ _ from hT0.out) ?_
 rintro e w5 ⟨v,rfl,⟨A,ca,D,cd,rfl,f1⟩,f2⟩
 obtain ⟨w6,hw6⟩:∃W,w5.alloc (.cells #[.int .i64 tT0.c.c0,.int .i64 tT0.c.c1,.int .i64 tT0.c.c2,.int .i64 tT0.c.c3,.slice A tT0.c.l.length ca,.slice D tT0.e.length cd] 41)=W:=⟨_,rfl⟩
 have hg6:Gr w5 w6:=by rw[←hw6];exact (gR _).alloc _
 have hBx:Cls w6 w5.heap.size (T6 tT0 A ca D cd):=by rw[←hw6];exact Cls.new _ _ _
 obtain ⟨b0,b1,b2,b3,b4,b5⟩:=gw hBx
 have v0:=nv tT0 A ca D cd 3 0 w6 (by decide) (f1.row.gr hg6) (f1.cel.gr hg6)
 rw[mt2] at v0
 have hV:Hid _:=v0
 have hB6:Hid (aV w w6 w.heap.size N3 (fun _=>[])):=(hI.out.below f2).below hg6.below
 clear v0 f1 f2 hg6 hBx hT0 hI
 go_wp2_with fail
 try rw[hw6]
 clear hw6
 refine cM (show Calls _ _ _ _ _ from hV.out) ?_
 rintro e w7 ⟨C,cp,rfl,g1,g2⟩
 obtain ⟨w8,hw8⟩:∃W,w7.alloc (.cells #[.int .i64 4] 3)=W:=⟨_,rfl⟩
 have hg8:Gr w7 w8:=by rw[←hw8];exact (gR _).alloc _
 have hr8:ay w8 (some ⟨w7.heap.size,0,none⟩) [4]:=by rw[←hw8];exact gK (enc:=fp) (k:=1) bZ rfl [4] 3 _ rfl
 have hQ:Hid (Calls Tryz.prog 26 #[.slice C 1 cp,.slice (some ⟨w7.heap.size,0,none⟩) 1 1] w8 fun e w'=>e= .returned (.bool true)∧Gr w8 w'):=by
  have:=kX [4] [4] C (some ⟨w7.heap.size,0,none⟩) cp 1 w8 (by decide) (by decide) (g1.gr hg8) hr8
  rw[show decide (([4]:List Int)=[4])=true from by decide] at this
  exact this
 have hB8:Hid (aV w w8 w.heap.size N3 (fun _=>[])):=(hB6.out.below g2).below hg8.below
 clear g1 g2 hg8 hr8 hV hB6 b0 b1 b2 b3 b4 b5
 go_wp2_with fail
 try rw[hw8]
 clear hw8
 refine cM (show Calls _ _ _ _ _ from hQ.out) ?_
 rintro e w9 ⟨rfl,g9⟩
 have hB9:Hid (aV w w9 w.heap.size N3 (fun _=>[])):=hB8.out.below g9.below
 clear g9 hQ hB8
 have p0:Calls Tryz.prog 12 #[.pointer (some ⟨w.heap.size,0,none⟩)] w9 fun e w'=>e= .returned (.int .i64 1)∧w'=w9:=by
  obtain ⟨⟨P,hP,_⟩,_⟩:=hB9.out
  have:=lg hP
  rwa [hE4.out.2] at this
 have hP:Hid _:=p0
 clear p0
 go_wp2_with fail
 refine cM (show Calls _ _ _ _ _ from hP.out) ?_
 rintro e w10 ⟨rfl,h0⟩
 have h0:=h0.symm
 subst h0
 go_wp2
 go_ret
 exact ⟨rfl,hB9.out.2.1⟩
end Go.Proofs.YtkefkplnamkicaaGreatDoor
