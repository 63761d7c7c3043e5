/-
  table.mergeCells: the cells that both tables have, or that one has and the other hasn't seen, by their dots.
  table.Merge: two tables merged.
  table.Put: the table that puts a value.
-/
import Derived.Test.YtkadjjmkokhldaaGreatM33
import Derived.Test.YtkadjjmkokhldaaGreatM34
import Derived.Test.YtkadjjmkokhldaaGreatM30
namespace Go.Proofs.YtkadjjmkokhldaaGreat
open Go.RowKit Go.Sort Go.Shelf Go.Lib

/-- The cell stays for a's part. -/
def stayA (b:Tab) (x:Cel):Bool:=memD b.e x.1 || !hasB b.c x.1
/-- The cell stays for b's part. -/
def stayB (a:Tab) (x:Cel):Bool:= !hasB a.c x.1
/-- The cells that stay. -/
def both (a b:Tab):List Cel:=a.e.filter (stayA b)++b.e.filter (stayB a)
/-- The merged cells. -/
def mrg (a b:Tab):List Cel:=srtC (both a b)

theorem errT_has {t:Tab} (h:errT t=0) {x:Cel} (hx:x∈t.e):hasB t.c x.1=true:=by
 obtain ⟨j,hj,rfl⟩:=List.getElem_of_mem hx
 have hk:=(errT_parts h).2.2 j hj
 have hg:t.e.getD j ((0,0),0,0,0)=t.e[j]:=by simp[hj]
 unfold okCel at hk
 rw[hg] at hk
 simp only[Bool.and_eq_true] at hk
 exact hk.1.1
theorem errT_asc {t:Tab} (h:errT t=0):Asc t.e:=by
 have hp:=(errT_parts h).2.2
 have step:∀j (hj:j+1<t.e.length),befB (t.e[j]'(by omega)).1 t.e[j+1].1=true:=by
  intro j hj
  have hk:=hp (j+1) hj
  rw[okCel_succ hj rfl rfl] at hk
  simp only[Bool.and_eq_true] at hk
  exact hk.2
 have far:∀d i (hi:i+d+1<t.e.length),befB (t.e[i]'(by omega)).1 (t.e[i+d+1]'hi).1=true:=by
  intro d
  induction d with
  | zero=>intro i hi;exact step i hi
  | succ d ih =>
   intro i hi
   have h1:=ih i (by omega)
   have h2:=step (i+d+1) (by omega)
   exact befT_trans h1 h2
 unfold Asc
 rw[List.pairwise_iff_getElem]
 intro i j hi hj hij
 have:=far (j-i-1) i (by omega)
 have e:i+(j-i-1)+1=j:=by omega
 simp only[e] at this
 exact this
theorem asc_nodup {l:List Cel} (h:Asc l):(l.map (·.1)).Nodup:=by
 unfold List.Nodup
 rw[List.pairwise_map]
 exact h.imp fun h=>befT_ne h
theorem nodup_uniq {l:List Cel} (h:(l.map (·.1)).Nodup):UniqD l:=by
 intro x hx y hy e
 obtain ⟨i,hi,rfl⟩:=List.getElem_of_mem hx
 obtain ⟨j,hj,rfl⟩:=List.getElem_of_mem hy
 unfold List.Nodup at h
 rw[List.pairwise_map] at h
 rcases Nat.lt_trichotomy i j with h1|h1|h1
 ·exact absurd e ((List.pairwise_iff_getElem.1 h) i j hi hj h1)
 ·subst h1;rfl
 ·exact absurd e.symm ((List.pairwise_iff_getElem.1 h) j i hj hi h1)
theorem both_nodup {a b:Tab} (ha:errT a=0) (hb:errT b=0):((both a b).map (·.1)).Nodup:=by
 unfold both
 rw[List.map_append,List.nodup_append]
 refine ⟨?_,?_,?_⟩
 ·exact (asc_nodup (errT_asc ha)).sublist (List.filter_sublist.map _)
 ·exact (asc_nodup (errT_asc hb)).sublist (List.filter_sublist.map _)
 ·intro d hd d' hd' e
  subst e
  obtain ⟨x,hx,rfl⟩:=List.mem_map.1 hd
  obtain ⟨y,hy,e⟩:=List.mem_map.1 hd'
  have h1:=errT_has ha (List.mem_filter.1 hx).1
  have h2:=(List.mem_filter.1 hy).2
  unfold stayB at h2
  rw[e,h1] at h2
  cases h2
theorem mrg_asc {a b:Tab} (ha:errT a=0) (hb:errT b=0):Asc (mrg a b):=srtC_asc (both_nodup ha hb)
theorem both_len (a b:Tab):(both a b).length≤a.e.length+b.e.length:=by
 unfold both
 rw[List.length_append]
 have:=List.length_filter_le (stayA b) a.e
 have:=List.length_filter_le (stayB a) b.e
 omega

set_option maxRecDepth 100000 in
set_option maxHeartbeats 2000000 in
theorem mergeCells_any (a b:Tab) (A B C D:Option Addr) (ca cb cc cd:Nat) (w:World) (ha:errT a=0) (hb:errT b=0) (hra:Row w A a.c.l) (hrb:Row w B b.c.l) (hrc:RowC w C a.e) (hrd:RowC w D b.e) :
  Calls Tryz.prog 41 #[.agg #[.int .i64 a.c.c0,.int .i64 a.c.c1,.int .i64 a.c.c2,.int .i64 a.c.c3,.slice A a.c.l.length ca,.slice C a.e.length cc],.agg #[.int .i64 b.c.c0,.int .i64 b.c.c1,.int .i64 b.c.c2,.int .i64 b.c.c3,.slice B b.c.l.length cb,.slice D b.e.length cd]] w fun e w'=>∃E ce,e= .returned (.slice E (mrg a b).length ce)∧RowC w' E (mrg a b)∧(E=none→ce=0)∧(∀x,E=some x→w.heap.size≤x.block)∧Below w.heap.size w w':=by
 have hgX:Gr w ((w.alloc (.cells #[.int .i64 a.c.c0,.int .i64 a.c.c1,.int .i64 a.c.c2,.int .i64 a.c.c3,.slice A a.c.l.length ca,.slice C a.e.length cc] 37)).alloc (.cells #[.int .i64 b.c.c0,.int .i64 b.c.c1,.int .i64 b.c.c2,.int .i64 b.c.c3,.slice B b.c.l.length cb,.slice D b.e.length cd] 37)):=((Gr.refl _).alloc _).alloc _
 have hA0:TabAt ((w.alloc (.cells #[.int .i64 a.c.c0,.int .i64 a.c.c1,.int .i64 a.c.c2,.int .i64 a.c.c3,.slice A a.c.l.length ca,.slice C a.e.length cc] 37)).alloc (.cells #[.int .i64 b.c.c0,.int .i64 b.c.c1,.int .i64 b.c.c2,.int .i64 b.c.c3,.slice B b.c.l.length cb,.slice D b.e.length cd] 37)) w.heap.size a A ca C cc:=(TabAt.new 37 hra hrc rfl).gr ((Gr.refl _).alloc _)
 have hB0:TabAt ((w.alloc (.cells #[.int .i64 a.c.c0,.int .i64 a.c.c1,.int .i64 a.c.c2,.int .i64 a.c.c3,.slice A a.c.l.length ca,.slice C a.e.length cc] 37)).alloc (.cells #[.int .i64 b.c.c0,.int .i64 b.c.c1,.int .i64 b.c.c2,.int .i64 b.c.c3,.slice B b.c.l.length cb,.slice D b.e.length cd] 37)) (w.heap.size+1) b B cb D cd:=TabAt.new 37 (hrb.gr ((Gr.refl _).alloc _)) (hrd.gr ((Gr.refl _).alloc _)) (by simp)
 have hbw0:Below w.heap.size w ((w.alloc (.cells #[.int .i64 a.c.c0,.int .i64 a.c.c1,.int .i64 a.c.c2,.int .i64 a.c.c3,.slice A a.c.l.length ca,.slice C a.e.length cc] 37)).alloc (.cells #[.int .i64 b.c.c0,.int .i64 b.c.c1,.int .i64 b.c.c2,.int .i64 b.c.c3,.slice B b.c.l.length cb,.slice D b.e.length cd] 37)):=hgX.below
 have hal:a.e.length≤400:=(errT_parts ha).2.1
 have hbl:b.e.length≤400:=(errT_parts hb).2.1
 have a5:=hA0.k5
 go_enter Tryz.func41,Tryz.ntmps41
 go_wp2
 generalize ((w.alloc (.cells #[.int .i64 a.c.c0,.int .i64 a.c.c1,.int .i64 a.c.c2,.int .i64 a.c.c3,.slice A a.c.l.length ca,.slice C a.e.length cc] 37)).alloc (.cells #[.int .i64 b.c.c0,.int .i64 b.c.c1,.int .i64 b.c.c2,.int .i64 b.c.c3,.slice B b.c.l.length cb,.slice D b.e.length cd] 37))=w0 at hA0 hB0 hbw0 a5 ⊢
 have haH:Hid (errT a=0):=ha
 have hbH:Hid (errT b=0):=hb
 have hascb:Hid (Asc b.e):=errT_asc hb
 have hcl:Hid (a.c.l.length≤maxLen∧b.c.l.length≤maxLen):=by
  have h1:=(errC_parts (errT_parts ha).1).2.1
  have h2:=(errC_parts (errT_parts hb).1).2.1
  exact ⟨Nat.le_trans h1 (by decide),Nat.le_trans h2 (by decide)⟩
 clear a5 ha hb hgX
 go_loopw [5,15] (fun v i wr=>∃k:Nat,k≤a.e.length∧i= .int .i64 k∧OwnC wr w0.heap.size v ((a.e.take k).filter (stayA b))∧Below w0.heap.size w0 wr) (fun _ i _=>a.e.length-(intOf i).toNat)
 case atStart=>exact ⟨0,by omega,rfl,OwnG.nil _ _ _ _ _,Below.refl _ _⟩
 case round =>
  obtain ⟨k,hk,rfl,hov,hbel⟩:=hrel
  obtain ⟨A1,cap1,rfl,hA1,hrow1,hlt1⟩:=OwnG.row encC_len hov
  have hAR:=hA0.below hbel
  have hBR:=hB0.below hbel
  have hsR:w0.heap.size≤wr.heap.size:=hbel.size
  by_cases hlt:k<a.e.length
  ·have hltz:(k:Int)<(a.e.length:Int):=by omega
   obtain ⟨bb,off,rfl,hbb,hcs⟩:=RowC.get hAR.rowC hlt
   obtain ⟨x,hx⟩:∃x,a.e[k]=x:=⟨_,rfl⟩
   obtain ⟨e0,e1,e2,e3,e4⟩:=hcs k hlt
   rw[hx] at e0 e1 e2 e3 e4
   have hst:=filter_take (p:=stayA b) hlt hx
   clear hcs hx
   obtain ⟨M,HM⟩:∃M,(a.e.take k).filter (stayA b)=M:=⟨_,rfl⟩
   have hMl:M.length≤400:=by rw[←HM];exact Nat.le_trans (filter_le _ _ _) hal
   rw[HM] at hov hst hrow1 ⊢
   clear HM
   have hovH:Hid (OwnC wr w0.heap.size (.slice A1 M.length cap1) M):=hov
   have hbelH:Hid (Below w0.heap.size w0 wr):=hbel
   have hgX:Gr wr (wr.alloc (.cells #[.int .i64 x.1.1,.int .i64 x.1.2,.int .i64 x.2.1,.int .i64 x.2.2.1,.int .i64 x.2.2.2] 55)):=(Gr.refl _).alloc _
   have hxA:=CelAt.new (w:=wr) x 55 rfl
   have hBX:=hBR.gr hgX
   have b5:=hBX.k5
   obtain ⟨x0,x1,x2,x3,x4,xlt⟩:=(show CelAt _ _ _ from hxA)
   have hbs:=bsearch_any b.e D cd x _ hbl hBX.rowC hascb.out
   have hbsH:Hid _:=hbs
   clear hov hbel hrow1 hbs
   go_wp2_with fail
   refine Calls.mono (show Calls _ _ _ _ _ from hbsH.out) ?_
   rintro e w2 ⟨ix,rfl,-,hg2⟩
   clear hbsH x0 x1 x2 x3 x4 b5
   have hx2:=hxA.gr hg2
   have hB2:=hBX.gr hg2
   have hgW:Gr wr w2:=hgX.trans hg2
   clear hgX hg2 hxA hBX xlt
   obtain ⟨x0,x1,x2,x3,x4,xlt⟩:=(show CelAt _ _ _ from hx2)
   cases hm:memD b.e x.1
   ·obtain ⟨b0,b1,b2,b3,b4,b5,blt,brow,browC⟩:=(show TabAt _ _ _ _ _ _ _ from hB2)
    have hha:=has_any b.c B cb x.1 w2 hcl.out.2 brow
    have hhaH:Hid _:=hha
    clear hha
    go_wp2_with fail
    refine Calls.mono (show Calls _ _ _ _ _ from hhaH.out) ?_
    rintro e w3 ⟨rfl,hg3⟩
    clear hhaH x0 x1 x2 x3 x4 b0 b1 b2 b3 b4 b5
    have hgW3:Gr wr w3:=hgW.trans hg3
    obtain ⟨x0,x1,x2,x3,x4,xlt3⟩:=(show CelAt _ _ _ from hx2.gr hg3)
    cases hq:hasB b.c x.1
    ·have hst2:Hid ((a.e.take (k+1)).filter (stayA b)=M++[x]):=by show _=_;rw[hst,if_pos (by simp[stayA,hm,hq])]
     have hbd:Hid (M.length+[x].length≤maxLen∧(M.length+[x].length)*40≤140737488355328):=by show _∧_;unfold maxLen;simp only[List.length_cons,List.length_nil];omega
     clear hst
     go_wp2_with (at_builtin;refine wpList_append_c _ rfl _ _ rfl w0.heap.size (.slice A1 M.length cap1) M [x] (some ⟨w3.heap.size,0,none⟩) 1 rfl rfl ?ho ?hr (fun h=>by cases h) hbd.out.1 hbd.out.2 ?hs ?_)
     case ho=>exact hovH.out.gr (hgW3.alloc _)
     case hr=>exact rowNewCl rfl _ _
     case hs=>have:=hgW3.size;simp;omega
     intro v1 w4 hown1 hgr1
     have hb3:Hid (Below w0.heap.size w0 w4):=hbelH.out.trans (((hgW3.alloc _).below.mono hsR).trans (OwnG.grown_below (hovH.out.gr (hgW3.alloc _)) hgr1 (by have:=hgW3.size;simp;omega)))
     have hownH:Hid (OwnC w4 w0.heap.size v1 (M++[x])):=hown1
     clear hown1 hgr1
     go_wp2
     go_roundw
     case rel=>exact ⟨k+1,by omega,by go_num,by rw[hst2.out];exact hownH.out,hb3.out⟩
     case measure=>simp[intOf];omega
    ·have hst2:Hid ((a.e.take (k+1)).filter (stayA b)=M):=by show _=_;rw[hst,if_neg (by simp[stayA,hm,hq])];simp
     clear hst
     go_wp2
     go_roundw
     case rel=>exact ⟨k+1,by omega,by go_num,by rw[hst2.out];exact hovH.out.gr hgW3,hbelH.out.trans (hgW3.below.mono hsR)⟩
     case measure=>simp[intOf];omega
   ·have hst2:Hid ((a.e.take (k+1)).filter (stayA b)=M++[x]):=by show _=_;rw[hst,if_pos (by simp[stayA,hm])]
    have hbd:Hid (M.length+[x].length≤maxLen∧(M.length+[x].length)*40≤140737488355328):=by show _∧_;unfold maxLen;simp only[List.length_cons,List.length_nil];omega
    clear hst
    go_wp2_with (at_builtin;refine wpList_append_c _ rfl _ _ rfl w0.heap.size (.slice A1 M.length cap1) M [x] (some ⟨w2.heap.size,0,none⟩) 1 rfl rfl ?ho ?hr (fun h=>by cases h) hbd.out.1 hbd.out.2 ?hs ?_)
    case ho=>exact hovH.out.gr (hgW.alloc _)
    case hr=>exact rowNewCl rfl _ _
    case hs=>have:=hgW.size;simp;omega
    intro v1 w4 hown1 hgr1
    have hb3:Hid (Below w0.heap.size w0 w4):=hbelH.out.trans (((hgW.alloc _).below.mono hsR).trans (OwnG.grown_below (hovH.out.gr (hgW.alloc _)) hgr1 (by have:=hgW.size;simp;omega)))
    have hownH:Hid (OwnC w4 w0.heap.size v1 (M++[x])):=hown1
    clear hown1 hgr1
    go_wp2
    go_roundw
    case rel=>exact ⟨k+1,by omega,by go_num,by rw[hst2.out];exact hownH.out,hb3.out⟩
    case measure=>simp[intOf];omega
  ·have hltz:¬(k:Int)<(a.e.length:Int):=by omega
   have hke:a.e.take k=a.e:=List.take_of_length_le (by omega)
   rw[hke] at hov hrow1 ⊢
   clear hke
   have b5:=hBR.k5
   obtain ⟨F,HF⟩:∃F,a.e.filter (stayA b)=F:=⟨_,rfl⟩
   have hFl:F.length≤400:=by rw[←HF];exact Nat.le_trans (List.length_filter_le _ _) hal
   rw[HF] at hov hrow1 ⊢
   have HFH:Hid (a.e.filter (stayA b)=F):=HF
   have hovF:Hid (OwnC wr w0.heap.size (.slice A1 F.length cap1) F):=hov
   have hbelF:Hid (Below w0.heap.size w0 wr):=hbel
   clear HF hov hbel hrow1 hAR
   go_wp2
   clear b5 hBR
   go_loopw [5,43] (fun v i wq=>∃k:Nat,k≤b.e.length∧i= .int .i64 k∧OwnC wq w0.heap.size v (F++(b.e.take k).filter (stayB a))∧Below w0.heap.size w0 wq) (fun _ i _=>b.e.length-(intOf i).toNat)
   case atStart=>exact ⟨0,by omega,rfl,by simpa using hovF.out,hbelF.out⟩
   case round =>
    rename World=>wq
    obtain ⟨j,hj,rfl,hov,hbel⟩:=hrel
    obtain ⟨A2,cap2,rfl,hA2,hrow2,hlt2⟩:=OwnG.row encC_len hov
    have hAR:=hA0.below hbel
    have hBR:=hB0.below hbel
    have hsQ:w0.heap.size≤wq.heap.size:=hbel.size
    by_cases hjt:j<b.e.length
    ·have hltz2:(j:Int)<(b.e.length:Int):=by omega
     obtain ⟨bb,off,rfl,hbb,hcs⟩:=RowC.get hBR.rowC hjt
     obtain ⟨x,hx⟩:∃x,b.e[j]=x:=⟨_,rfl⟩
     obtain ⟨e0,e1,e2,e3,e4⟩:=hcs j hjt
     rw[hx] at e0 e1 e2 e3 e4
     have hst:=filter_take (p:=stayB a) hjt hx
     clear hcs hx
     obtain ⟨M,HM⟩:∃M,F++(b.e.take j).filter (stayB a)=M:=⟨_,rfl⟩
     have hMl:M.length≤800:=by
      rw[←HM,List.length_append]
      have:=filter_le (stayB a) b.e j
      omega
     have hstM:F++(b.e.take (j+1)).filter (stayB a)=M++(if stayB a x then [x] else []):=by rw[hst,←List.append_assoc,HM]
     rw[HM] at hov hrow2 ⊢
     clear HM hst
     have hovH:Hid (OwnC wq w0.heap.size (.slice A2 M.length cap2) M):=hov
     have hbelH:Hid (Below w0.heap.size w0 wq):=hbel
     have hgX:Gr wq (wq.alloc (.cells #[.int .i64 x.1.1,.int .i64 x.1.2,.int .i64 x.2.1,.int .i64 x.2.2.1,.int .i64 x.2.2.2] 55)):=(Gr.refl _).alloc _
     have hxA:=CelAt.new (w:=wq) x 55 rfl
     have hAX:=hAR.gr hgX
     obtain ⟨a0,a1,a2,a3,a4,a5,alt,arow,arowC⟩:=(show TabAt _ _ _ _ _ _ _ from hAX)
     obtain ⟨x0,x1,x2,x3,x4,xlt⟩:=(show CelAt _ _ _ from hxA)
     have hha:=has_any a.c A ca x.1 _ hcl.out.1 arow
     have hhaH:Hid _:=hha
     clear hov hbel hrow2 hha
     go_wp2_with fail
     refine Calls.mono (show Calls _ _ _ _ _ from hhaH.out) ?_
     rintro e w3 ⟨rfl,hg3⟩
     clear hhaH x0 x1 x2 x3 x4 a0 a1 a2 a3 a4 a5
     have hgW3:Gr wq w3:=hgX.trans hg3
     obtain ⟨x0,x1,x2,x3,x4,xlt3⟩:=(show CelAt _ _ _ from hxA.gr hg3)
     cases hq:hasB a.c x.1
     ·have hst2:Hid (F++(b.e.take (j+1)).filter (stayB a)=M++[x]):=by show _=_;rw[hstM,if_pos (by simp[stayB,hq])]
      have hbd:Hid (M.length+[x].length≤maxLen∧(M.length+[x].length)*40≤140737488355328):=by show _∧_;unfold maxLen;simp only[List.length_cons,List.length_nil];omega
      clear hstM
      go_wp2_with (at_builtin;refine wpList_append_c _ rfl _ _ rfl w0.heap.size (.slice A2 M.length cap2) M [x] (some ⟨w3.heap.size,0,none⟩) 1 rfl rfl ?ho ?hr (fun h=>by cases h) hbd.out.1 hbd.out.2 ?hs ?_)
      case ho=>exact hovH.out.gr (hgW3.alloc _)
      case hr=>exact rowNewCl rfl _ _
      case hs=>have:=hgW3.size;simp;omega
      intro v1 w4 hown1 hgr1
      have hb3:Hid (Below w0.heap.size w0 w4):=hbelH.out.trans (((hgW3.alloc _).below.mono hsQ).trans (OwnG.grown_below (hovH.out.gr (hgW3.alloc _)) hgr1 (by have:=hgW3.size;simp;omega)))
      have hownH:Hid (OwnC w4 w0.heap.size v1 (M++[x])):=hown1
      clear hown1 hgr1
      go_wp2
      go_roundw
      case rel=>exact ⟨j+1,by omega,by go_num,by rw[hst2.out];exact hownH.out,hb3.out⟩
      case measure=>simp[intOf];omega
     ·have hst2:Hid (F++(b.e.take (j+1)).filter (stayB a)=M):=by show _=_;rw[hstM,if_neg (by simp[stayB,hq])];simp
      clear hstM
      go_wp2
      go_roundw
      case rel=>exact ⟨j+1,by omega,by go_num,by rw[hst2.out];exact hovH.out.gr hgW3,hbelH.out.trans (hgW3.below.mono hsQ)⟩
      case measure=>simp[intOf];omega
    ·have hltz2:¬(j:Int)<(b.e.length:Int):=by omega
     have hke:b.e.take j=b.e:=List.take_of_length_le (by omega)
     rw[hke] at hov hrow2 ⊢
     clear hke
     have hbo:F++b.e.filter (stayB a)=both a b:=by unfold both;rw[HFH.out]
     rw[hbo] at hov hrow2 ⊢
     have hM:=both_len a b
     have hso:=sortOwnC (fun x y=>ltOrd x y) 60 #[] (enters_of Tryz.func60 (by kernel_rfl) rfl) w0.heap.size _ (both a b) wq (fun g=>cmpOrd g 0 _ wq) (nodup_uniq (both_nodup haH.out hbH.out)) hov hsQ (by omega)
     have hsoH:Hid _:=hso
     have hbwQ:Below w.heap.size w wq:=hbw0.trans (hbel.mono hbw0.size)
     have hs0:=hbw0.size
     have hmr:Hid (mrg a b=srtC (both a b)):=rfl
     clear hso hov hrow2 hbo hBR hAR
     generalize both a b=M at hsoH hmr ⊢
     go_wp2_with fail
     refine Calls.mono (show Calls _ _ _ _ _ from hsoH.out) ?_
     rintro e w4 ⟨rfl,⟨E,ce,hvE,hrE,hE0,hEb⟩,hb4⟩
     clear hsoH
     go_wp2
     go_ret
     exact ⟨E,ce,by rw[hmr.out,←hvE];rfl,by rw[hmr.out];exact hrE,hE0,fun x hx=>Nat.le_trans hs0 (hEb x hx),hbwQ.trans (hb4.mono hs0)⟩

end Go.Proofs.YtkadjjmkokhldaaGreat

namespace Go.Proofs.YtkadjjmkokhldaaGreat
open Go.RowKit Go.Sort

/-- Two tables have different cells of one dot. -/
def clashB (a b:Tab):Bool:=a.e.any (clP b.e)
/-- What is wrong with a merge (an error's number). -/
def mergeE (a b:Tab):Int:=if errT a≠0 then errT a else if errT b≠0 then errT b else if clashB a b then 5 else if joinE a.c b.c≠0 then joinE a.c b.c else if 400<(mrg a b).length then 2 else 0
/-- The merged table. -/
def mergeT (a b:Tab):Tab:=if mergeE a b=0 then ⟨joinC a.c b.c,mrg a b⟩ else ⟨zeroC,[]⟩

theorem mergeT_no {a b:Tab} {E:Int} (h:mergeE a b=E) (h0:E≠0):mergeE a b=E∧mergeT a b=⟨zeroC,[]⟩:=⟨h,by unfold mergeT;rw[h,if_neg h0]⟩

/-- What Merge holds from its first step on. -/
structure MergeAt (w W:World) (a b:Tab) (A:Option Addr) (ca:Nat) (C:Option Addr) (cc:Nat) (B:Option Addr) (cb:Nat) (D:Option Addr) (cd:Nat):Prop where
 ta:TabAt W w.heap.size a A ca C cc
 tb:TabAt W (w.heap.size+1) b B cb D cd
 res:ZTab W (w.heap.size+1+1)
 hw:Below w.heap.size w W
theorem MergeAt.below {w W W':World} {a b:Tab} {A B C D:Option Addr} {ca cb cc cd:Nat} (h:MergeAt w W a b A ca C cc B cb D cd) (k:Below W.heap.size W W'):MergeAt w W' a b A ca C cc B cb D cd :=
 ⟨h.ta.below k,h.tb.below k,h.res.below k,h.hw.trans (k.mono h.hw.size)⟩
theorem MergeAt.gr {w W W':World} {a b:Tab} {A B C D:Option Addr} {ca cb cc cd:Nat} (h:MergeAt w W a b A ca C cc B cb D cd) (k:Gr W W'):MergeAt w W' a b A ca C cc B cb D cd:=h.below k.below

set_option maxRecDepth 100000 in
set_option maxHeartbeats 2000000 in
theorem merge_new (a b:Tab) (A B C D:Option Addr) (ca cb cc cd:Nat) (w:World) (hal:a.c.l.length≤maxLen) (hbl:b.c.l.length≤maxLen) (hael:a.e.length≤maxLen) (hbel:b.e.length≤maxLen) (hA:A=none→ca=0) (hB:B=none→cb=0) (hra:Row w A a.c.l) (hrb:Row w B b.c.l) (hrc:RowC w C a.e) (hrd:RowC w D b.e) :
  Calls Tryz.prog 23 #[.agg #[.int .i64 a.c.c0,.int .i64 a.c.c1,.int .i64 a.c.c2,.int .i64 a.c.c3,.slice A a.c.l.length ca,.slice C a.e.length cc],.agg #[.int .i64 b.c.c0,.int .i64 b.c.c1,.int .i64 b.c.c2,.int .i64 b.c.c3,.slice B b.c.l.length cb,.slice D b.e.length cd]] w fun e w'=>∃E ce F cf,e= .returned (.tuple #[.agg #[.int .i64 (mergeT a b).c.c0,.int .i64 (mergeT a b).c.c1,.int .i64 (mergeT a b).c.c2,.int .i64 (mergeT a b).c.c3,.slice E (mergeT a b).c.l.length ce,.slice F (mergeT a b).e.length cf],.int .i64 (mergeE a b)])∧Row w' E (mergeT a b).c.l∧RowC w' F (mergeT a b).e∧(E=none→ce=0)∧(F=none→cf=0)∧(∀x,E=some x→w.heap.size≤x.block)∧(∀x,F=some x→w.heap.size≤x.block)∧Below w.heap.size w w':=by
 have hF0:MergeAt w (((w.alloc (.cells #[.int .i64 a.c.c0,.int .i64 a.c.c1,.int .i64 a.c.c2,.int .i64 a.c.c3,.slice A a.c.l.length ca,.slice C a.e.length cc] 37)).alloc (.cells #[.int .i64 b.c.c0,.int .i64 b.c.c1,.int .i64 b.c.c2,.int .i64 b.c.c3,.slice B b.c.l.length cb,.slice D b.e.length cd] 37)).alloc (.cells #[.int .i64 0,.int .i64 0,.int .i64 0,.int .i64 0,.slice none 0 0,.slice none 0 0] 37)) a b A ca C cc B cb D cd :=
  ⟨(TabAt.new 37 hra hrc rfl).gr (((Gr.refl _).alloc _).alloc _),(TabAt.new 37 (hrb.gr ((Gr.refl _).alloc _)) (hrd.gr ((Gr.refl _).alloc _)) (by simp)).gr ((Gr.refl _).alloc _),Six.new _ _ _ _ _ _ _ 37 (by simp),((((Gr.refl w).alloc _).alloc _).alloc _).below⟩
 have hlH:Hid (a.c.l.length≤maxLen∧b.c.l.length≤maxLen∧a.e.length≤maxLen∧b.e.length≤maxLen):=⟨hal,hbl,hael,hbel⟩
 have hAH:Hid ((A=none→ca=0)∧(B=none→cb=0)):=⟨hA,hB⟩
 have hck:=checkT_any a A ca C cc _ hal hael hF0.ta.row hF0.ta.rowC
 have hckH:Hid _:=hck
 clear hck hal hbl hael hbel hra hrb hrc hrd hA hB
 go_enter Tryz.func23,Tryz.ntmps23
 go_wp2_with fail
 refine Calls.mono (show Calls _ _ _ _ _ from hckH.out) ?_
 rintro e w1 ⟨rfl,hg1⟩
 clear hckH
 have hF1:=hF0.gr hg1
 clear hF0 hg1
 obtain ⟨E1,hE1⟩:∃E,errT a=E:=⟨_,rfl⟩
 rw[hE1]
 by_cases h1:E1=0
 ·subst h1
  have heA:Hid (errT a=0):=hE1
  clear hE1
  obtain ⟨b0,b1,b2,b3,b4,b5,blt,brow,browC⟩:=(show TabAt _ _ _ _ _ _ _ from hF1.tb)
  have hck:=checkT_any b B cb D cd w1 hlH.out.2.1 hlH.out.2.2.2 brow browC
  have hckH:Hid _:=hck
  clear hck brow browC
  go_wp2_with fail
  refine Calls.mono (show Calls _ _ _ _ _ from hckH.out) ?_
  rintro e w2 ⟨rfl,hg2⟩
  clear hckH b0 b1 b2 b3 b4 b5 blt
  have hF2:=hF1.gr hg2
  clear hF1 hg2
  obtain ⟨E2,hE2⟩:∃E,errT b=E:=⟨_,rfl⟩
  rw[hE2]
  by_cases h2:E2=0
  ·subst h2
   have heB:Hid (errT b=0):=hE2
   clear hE2
   have a5:=hF2.ta.k5
   have b5:=hF2.tb.k5
   have hcl:=clash_any a.e b.e C D cc cd w2 (errT_parts heA.out).2.1 (errT_parts heB.out).2.1 hF2.ta.rowC hF2.tb.rowC (errT_asc heB.out)
   have hclH:Hid _:=hcl
   clear hcl
   go_wp2_with fail
   refine Calls.mono (show Calls _ _ _ _ _ from hclH.out) ?_
   rintro e w3 ⟨rfl,hg3⟩
   clear hclH a5 b5
   have hF3:=hF2.gr hg3
   clear hF2 hg3
   obtain ⟨K,hK⟩:∃K,a.e.any (clP b.e)=K:=⟨_,rfl⟩
   rw[hK]
   cases K
   ·have hKH:Hid (clashB a b=false):=hK
    clear hK
    obtain ⟨a0,a1,a2,a3,a4,a5,alt,arow,arowC⟩:=(show TabAt _ _ _ _ _ _ _ from hF3.ta)
    obtain ⟨b0,b1,b2,b3,b4,b5,blt,brow,browC⟩:=(show TabAt _ _ _ _ _ _ _ from hF3.tb)
    have hjo:=join_any a.c b.c A B ca cb w3 hlH.out.1 hlH.out.2.1 arow brow hAH.out.1 hAH.out.2
    have hjoH:Hid _:=hjo
    clear hjo arow brow arowC browC alt blt
    go_wp2_with fail
    refine Calls.mono (show Calls _ _ _ _ _ from hjoH.out) ?_
    rintro e w4 ⟨C4,p4,rfl,hr4,hC4,hCb4,hb4⟩
    clear hjoH a0 a1 a2 a3 a4 a5 b0 b1 b2 b3 b4 b5
    have hF4:=hF3.below hb4
    have hs3:=hF3.res.lt
    have hCw4:Hid (∀x,C4=some x→w.heap.size≤x.block):=fun x hx=>by have:=hCb4 x hx;omega
    have hCn4:Hid (∀x,C4=some x→x.block≠w.heap.size+1+1):=fun x hx=>by have:=hCb4 x hx;omega
    clear hF3 hb4 hCb4
    obtain ⟨J,hJ⟩:∃J,joinC a.c b.c=J:=⟨_,rfl⟩
    obtain ⟨E4,hE4⟩:∃E,joinE a.c b.c=E:=⟨_,rfl⟩
    rw[hJ] at hr4 ⊢
    rw[hE4]
    have hJH:Hid (joinC a.c b.c=J∧joinE a.c b.c=E4):=⟨hJ,hE4⟩
    clear hJ hE4
    have hgC:Gr w4 (w4.alloc (.cells #[.int .i64 J.c0,.int .i64 J.c1,.int .i64 J.c2,.int .i64 J.c3,.slice C4 J.l.length p4] 34)):=(Gr.refl _).alloc _
    have hF5:=hF4.gr hgC
    have hc5:CtxAt (w4.alloc (.cells #[.int .i64 J.c0,.int .i64 J.c1,.int .i64 J.c2,.int .i64 J.c3,.slice C4 J.l.length p4] 34)) w4.heap.size J C4 p4:=CtxAt.new (c:=J) 34 hr4 rfl
    have hs4:=hF4.res.lt
    clear hF4 hgC hr4
    by_cases h4:E4=0
    ·subst h4
     obtain ⟨a0,a1,a2,a3,a4,a5,alt,arow,arowC⟩:=(show TabAt _ _ _ _ _ _ _ from hF5.ta)
     obtain ⟨b0,b1,b2,b3,b4,b5,blt,brow,browC⟩:=(show TabAt _ _ _ _ _ _ _ from hF5.tb)
     have hmc:=mergeCells_any a b A B C D ca cb cc cd _ heA.out heB.out arow brow arowC browC
     have hmcH:Hid _:=hmc
     clear hmc arow brow arowC browC alt blt
     go_wp2_with fail
     refine Calls.mono (show Calls _ _ _ _ _ from hmcH.out) ?_
     rintro e w6 ⟨F,cf,rfl,hrF,hF0,hFb,hb6⟩
     clear hmcH a0 a1 a2 a3 a4 a5 b0 b1 b2 b3 b4 b5
     have hF6:=hF5.below hb6
     have hc6:=hc5.below hb6
     have hFw:Hid (∀x,F=some x→w.heap.size≤x.block):=fun x hx=>by have:=hFb x hx;simp at this;omega
     have hFn:Hid (∀x,F=some x→x.block≠w.heap.size+1+1):=fun x hx=>by have:=hFb x hx;simp at this;omega
     clear hF5 hc5 hb6 hFb
     obtain ⟨M,hM⟩:∃M,mrg a b=M:=⟨_,rfl⟩
     rw[hM] at hrF ⊢
     have hMl:M.length≤800:=by
      rw[←hM]
      unfold mrg
      rw[srtC_length]
      have h1:=both_len a b
      have h2:=(errT_parts heA.out).2.1
      have h3:=(errT_parts heB.out).2.1
      omega
     have hMH:Hid (mrg a b=M):=hM
     clear hM
     by_cases h400:400<M.length
     ·have h400z:(400:Int)<(M.length:Int):=by omega
      have hfin:Hid (mergeE a b=2∧mergeT a b=⟨zeroC,[]⟩):=mergeT_no (by unfold mergeE;rw[heA.out,heB.out,hKH.out,hJH.out.2,hMH.out];simp[h400]) (by decide)
      obtain ⟨z0,z1,z2,z3,z4,z5,zf,zlt⟩:=(show Six _ _ _ _ _ _ _ _ from hF6.res)
      have hbw:Hid (Below w.heap.size w _):=hF6.hw
      go_wp2
      rw[hfin.out.1,hfin.out.2]
      exact bodyPost_ret (v:= .tuple #[.agg #[.int .i64 0,.int .i64 0,.int .i64 0,.int .i64 0,.slice none 0 0,.slice none 0 0],.int .i64 2]) (by simp[results,Tryz.results23,go_sem,z0,z1,z2,z3,z4,z5]) rfl ⟨none,0,none,0,rfl,Or.inl rfl,Or.inl rfl,fun _=>rfl,fun _=>rfl,(fun x hx=>by cases hx),(fun x hx=>by cases hx),below_set6 hbw.out (by omega) _ _ _ _ _ _⟩
     ·have h400z:¬(400:Int)<(M.length:Int):=by omega
      have hfin:Hid (mergeE a b=0∧mergeT a b=⟨J,M⟩):=by
       have h0:mergeE a b=0:=by unfold mergeE;rw[heA.out,heB.out,hKH.out,hJH.out.2,hMH.out];simp;omega
       exact ⟨h0,by unfold mergeT;rw[h0,if_pos rfl,hJH.out.1,hMH.out]⟩
      obtain ⟨z0,z1,z2,z3,z4,z5,zf,zlt⟩:=(show Six _ _ _ _ _ _ _ _ from hF6.res)
      obtain ⟨c0,c1,c2,c3,c4,clt,crow⟩:=(show CtxAt _ _ _ _ _ from hc6)
      have hbw:Hid (Below w.heap.size w _):=hF6.hw
      have hcrow:Hid (Row _ C4 J.l):=crow
      have hrFH:Hid (RowC _ F M):=hrF
      clear crow hrF h400
      go_wp2
      rw[hfin.out.1,hfin.out.2]
      have h1:=hCn4.out
      have h2:=hFn.out
      exact bodyPost_ret (v:= .tuple #[.agg #[.int .i64 J.c0,.int .i64 J.c1,.int .i64 J.c2,.int .i64 J.c3,.slice C4 J.l.length p4,.slice F M.length cf],.int .i64 0]) (by simp[results,Tryz.results23,go_sem,z0,z1,z2,z3,z4,z5]) rfl ⟨C4,p4,F,cf,rfl,(((((hcrow.out.setCell _ h1).setCell _ h1).setCell _ h1).setCell _ h1).setCell _ h1).setCell _ h1,(((((hrFH.out.setCell _ h2).setCell _ h2).setCell _ h2).setCell _ h2).setCell _ h2).setCell _ h2,hC4,hF0,hCw4.out,hFw.out,below_set6 hbw.out (by omega) _ _ _ _ _ _⟩
    ·have hfin:Hid (mergeE a b=E4∧mergeT a b=⟨zeroC,[]⟩):=mergeT_no (by unfold mergeE;rw[heA.out,heB.out,hKH.out,hJH.out.2];simp[h4]) h4
     have heb:(E4 != 0)=true:=by simpa using h4
     clear h4
     obtain ⟨z0,z1,z2,z3,z4,z5,zf,zlt⟩:=(show Six _ _ _ _ _ _ _ _ from hF5.res)
     have hbw:Hid (Below w.heap.size w _):=hF5.hw
     go_upto_region 11 with fail
     generalize w4.alloc (.cells #[.int .i64 J.c0,.int .i64 J.c1,.int .i64 J.c2,.int .i64 J.c3,.slice C4 J.l.length p4] 34)=V at z0 z1 z2 z3 z4 z5 zf zlt hbw ⊢
     go_wp2
     rw[hfin.out.1,hfin.out.2]
     exact bodyPost_ret (v:= .tuple #[.agg #[.int .i64 0,.int .i64 0,.int .i64 0,.int .i64 0,.slice none 0 0,.slice none 0 0],.int .i64 E4]) (by simp[results,Tryz.results23,go_sem,z0,z1,z2,z3,z4,z5]) rfl ⟨none,0,none,0,rfl,Or.inl rfl,Or.inl rfl,fun _=>rfl,fun _=>rfl,(fun x hx=>by cases hx),(fun x hx=>by cases hx),below_set6 hbw.out (by omega) _ _ _ _ _ _⟩
   ·have hfin:Hid (mergeE a b=5∧mergeT a b=⟨zeroC,[]⟩):=mergeT_no (by unfold mergeE clashB;rw[heA.out,heB.out,hK];simp) (by decide)
    clear hK
    obtain ⟨z0,z1,z2,z3,z4,z5,zf,zlt⟩:=(show Six _ _ _ _ _ _ _ _ from hF3.res)
    have hbw:Hid (Below w.heap.size w _):=hF3.hw
    go_wp2
    rw[hfin.out.1,hfin.out.2]
    exact bodyPost_ret (v:= .tuple #[.agg #[.int .i64 0,.int .i64 0,.int .i64 0,.int .i64 0,.slice none 0 0,.slice none 0 0],.int .i64 5]) (by simp[results,Tryz.results23,go_sem,z0,z1,z2,z3,z4,z5]) rfl ⟨none,0,none,0,rfl,Or.inl rfl,Or.inl rfl,fun _=>rfl,fun _=>rfl,(fun x hx=>by cases hx),(fun x hx=>by cases hx),below_set6 hbw.out (by omega) _ _ _ _ _ _⟩
  ·have hfin:Hid (mergeE a b=E2∧mergeT a b=⟨zeroC,[]⟩):=mergeT_no (by unfold mergeE;rw[heA.out,hE2];simp[h2]) h2
   have heb:(E2 != 0)=true:=by simpa using h2
   clear h2 hE2
   obtain ⟨z0,z1,z2,z3,z4,z5,zf,zlt⟩:=(show Six _ _ _ _ _ _ _ _ from hF2.res)
   have hbw:Hid (Below w.heap.size w _):=hF2.hw
   go_wp2
   rw[hfin.out.1,hfin.out.2]
   exact bodyPost_ret (v:= .tuple #[.agg #[.int .i64 0,.int .i64 0,.int .i64 0,.int .i64 0,.slice none 0 0,.slice none 0 0],.int .i64 E2]) (by simp[results,Tryz.results23,go_sem,z0,z1,z2,z3,z4,z5]) rfl ⟨none,0,none,0,rfl,Or.inl rfl,Or.inl rfl,fun _=>rfl,fun _=>rfl,(fun x hx=>by cases hx),(fun x hx=>by cases hx),below_set6 hbw.out (by omega) _ _ _ _ _ _⟩
 ·have hfin:Hid (mergeE a b=E1∧mergeT a b=⟨zeroC,[]⟩):=mergeT_no (by unfold mergeE;rw[hE1];simp[h1]) h1
  have heb:(E1 != 0)=true:=by simpa using h1
  clear h1 hE1
  obtain ⟨z0,z1,z2,z3,z4,z5,zf,zlt⟩:=(show Six _ _ _ _ _ _ _ _ from hF1.res)
  have hbw:Hid (Below w.heap.size w _):=hF1.hw
  go_wp2
  rw[hfin.out.1,hfin.out.2]
  exact bodyPost_ret (v:= .tuple #[.agg #[.int .i64 0,.int .i64 0,.int .i64 0,.int .i64 0,.slice none 0 0,.slice none 0 0],.int .i64 E1]) (by simp[results,Tryz.results23,go_sem,z0,z1,z2,z3,z4,z5]) rfl ⟨none,0,none,0,rfl,Or.inl rfl,Or.inl rfl,fun _=>rfl,fun _=>rfl,(fun x hx=>by cases hx),(fun x hx=>by cases hx),below_set6 hbw.out (by omega) _ _ _ _ _ _⟩

end Go.Proofs.YtkadjjmkokhldaaGreat

namespace Go.Proofs.YtkadjjmkokhldaaGreat
open Go.RowKit Go.Sort

/-- The error that Put tells. -/
def putE (t:Tab) (n key col v:Int):Int :=
 if errT t≠0 then errT t else if okPlace key col v=false then 1 else if (nextA t.c n).2≠0 then (nextA t.c n).2
 else if makeE (dotsOf (fitP key col) t.e)≠0 then makeE (dotsOf (fitP key col) t.e) else if makeE [(nextA t.c n).1]≠0 then makeE [(nextA t.c n).1]
 else joinE (makeC (dotsOf (fitP key col) t.e)) (makeC [(nextA t.c n).1])
/-- The table that it tells. -/
def putT (t:Tab) (n key col v:Int):Tab :=
 if putE t n key col v=0 then ⟨joinC (makeC (dotsOf (fitP key col) t.e)) (makeC [(nextA t.c n).1]),[((nextA t.c n).1,key,col,v)]⟩ else ⟨zeroC,[]⟩

/-- What Put holds from its first step on. -/
structure PutAt (w W:World) (t:Tab) (A:Option Addr) (ca:Nat) (D:Option Addr) (cd:Nat) (key col:Int):Prop where
 tab:TabAt W w.heap.size t A ca D cd
 key:W.cell? ⟨w.heap.size+1,0,none⟩=some (.int .i64 key)
 col:W.cell? ⟨w.heap.size+1+1,0,none⟩=some (.int .i64 col)
 res:ZTab W (w.heap.size+1+1+1)
 hw:Below w.heap.size w W
theorem PutAt.below {w W W':World} {t:Tab} {A:Option Addr} {ca:Nat} {D:Option Addr} {cd:Nat} {key col:Int} (h:PutAt w W t A ca D cd key col) (k:Below W.heap.size W W'):PutAt w W' t A ca D cd key col :=
 ⟨h.tab.below k,(k.cell (p:=⟨w.heap.size+1,0,none⟩) (show w.heap.size+1<_ by have:=h.res.lt;omega)).trans h.key,(k.cell (p:=⟨w.heap.size+1+1,0,none⟩) (show w.heap.size+1+1<_ by have:=h.res.lt;omega)).trans h.col,h.res.below k,h.hw.trans (k.mono h.hw.size)⟩
theorem PutAt.gr {w W W':World} {t:Tab} {A:Option Addr} {ca:Nat} {D:Option Addr} {cd:Nat} {key col:Int} (h:PutAt w W t A ca D cd key col) (k:Gr W W'):PutAt w W' t A ca D cd key col:=h.below k.below

theorem rowNewC {W:World} {n:Nat} (hn:W.heap.size=n) (x:Cel) (T:TypeId):RowC (W.alloc (.cells #[.int .i64 x.1.1,.int .i64 x.1.2,.int .i64 x.2.1,.int .i64 x.2.2.1,.int .i64 x.2.2.2] T)) (some ⟨n,0,none⟩) [x]:=by
 subst hn
 refine Or.inr ⟨W.heap.size,0,rfl,by simp,fun j hj i hi=> ?_⟩
 have hj':j=0:=by simp at hj;omega
 subst hj'
 have hb:=fun (i:Nat) (v:Value) (h:(#[.int .i64 x.1.1,.int .i64 x.1.2,.int .i64 x.2.1,.int .i64 x.2.2.1,.int .i64 x.2.2.2]:Array Value)[i]? = some v)=>box1 (w:=W) (Gr.refl (W.alloc (.cells #[.int .i64 x.1.1,.int .i64 x.1.2,.int .i64 x.2.1,.int .i64 x.2.2.1,.int .i64 x.2.2.2] T))) (j:=i) h
 have hi':i=0∨i=1∨i=2∨i=3∨i=4:=by omega
 rcases hi' with rfl|rfl|rfl|rfl|rfl
 ·exact hb 0 _ rfl
 ·exact hb 1 _ rfl
 ·exact hb 2 _ rfl
 ·exact hb 3 _ rfl
 ·exact hb 4 _ rfl

/-- Block B may be written. -/
def Fz (W:World) (B:Nat):Prop:=B<W.heap.size∧∀j,W.frozen? ⟨B,j,none⟩=false
theorem Fz.below {W W':World} {B:Nat} (h:Fz W B) (k:Below W.heap.size W W'):Fz W' B:=⟨Nat.lt_of_lt_of_le h.1 k.size,fun j=>(k.frozen (p:=⟨B,j,none⟩) h.1).trans (h.2 j)⟩
theorem Fz.gr {W W':World} {B:Nat} (h:Fz W B) (k:Gr W W'):Fz W' B:=h.below k.below
theorem Fz.new (W:World) (C1:Array Value) (T1:TypeId):Fz (W.alloc (.cells C1 T1)) W.heap.size:=⟨by simp,fun j=>box1f (Gr.refl _) j⟩

theorem make_one_g {W:World} {A:Addr} {N:Int×Int} (hr:Row W (some A) [N]) :
  Calls Tryz.prog 54 #[.slice (some A) 1 1] W fun e w'=>∃C cp,e= .returned (.tuple #[.agg #[.int .i64 (makeC [N]).c0,.int .i64 (makeC [N]).c1,.int .i64 (makeC [N]).c2,.int .i64 (makeC [N]).c3,.slice C (makeC [N]).l.length cp],.int .i64 (makeE [N])])∧Row w' C (makeC [N]).l∧(C=none→cp=0)∧(∀a,C=some a→W.heap.size≤a.block)∧Below W.heap.size W w' :=
 make_any [N] (some A) 1 W (by simp[maxLen]) (fun h=>by cases h) hr

theorem makeC_len (l:List (Int×Int)) (h:l.length≤400):(makeC l).l.length≤maxLen:=by
 refine Nat.le_trans (m:=400) ?_ (by decide)
 unfold makeC
 by_cases h0:makeE l=0
 ·rw[if_pos h0]
  unfold foldS
  have:=foldTo_len zeroC (srt l) (srt l).length
  rw[srt_length] at this ⊢
  have hz:zeroC.l.length=0:=rfl
  omega
 ·rw[if_neg h0]
  exact Nat.zero_le _

set_option maxRecDepth 100000 in
set_option maxHeartbeats 2000000 in
theorem put_new (t:Tab) (A:Option Addr) (ca:Nat) (D:Option Addr) (cd:Nat) (n key col v:Int) (w:World) (hl:t.c.l.length≤maxLen) (hel:t.e.length≤maxLen) (hr:Row w A t.c.l) (hd:RowC w D t.e) :
  Calls Tryz.prog 36 #[.agg #[.int .i64 t.c.c0,.int .i64 t.c.c1,.int .i64 t.c.c2,.int .i64 t.c.c3,.slice A t.c.l.length ca,.slice D t.e.length cd],.int .i64 n,.int .i64 key,.int .i64 col,.int .i64 v] w fun e w'=>∃C cp D' cd',e= .returned (.tuple #[.agg #[.int .i64 (putT t n key col v).c.c0,.int .i64 (putT t n key col v).c.c1,.int .i64 (putT t n key col v).c.c2,.int .i64 (putT t n key col v).c.c3,.slice C (putT t n key col v).c.l.length cp,.slice D' (putT t n key col v).e.length cd'],.int .i64 (putE t n key col v)])∧Row w' C (putT t n key col v).c.l∧RowC w' D' (putT t n key col v).e∧(C=none→cp=0)∧(D'=none→cd'=0)∧(∀x,C=some x→w.heap.size≤x.block)∧(∀x,D'=some x→w.heap.size≤x.block)∧Below w.heap.size w w':=by
 have hF0:PutAt w ((((w.alloc (.cells #[.int .i64 t.c.c0,.int .i64 t.c.c1,.int .i64 t.c.c2,.int .i64 t.c.c3,.slice A t.c.l.length ca,.slice D t.e.length cd] 37)).alloc (.cells #[.int .i64 key] 3)).alloc (.cells #[.int .i64 col] 3)).alloc (.cells #[.int .i64 0,.int .i64 0,.int .i64 0,.int .i64 0,.slice none 0 0,.slice none 0 0] 37)) t A ca D cd key col :=
  ⟨(TabAt.new 37 hr hd rfl).gr ((((Gr.refl _).alloc _).alloc _).alloc _),box2 (((Gr.refl _).alloc _).alloc _) rfl,(by have h:=box2 (w:=w.alloc (.cells #[.int .i64 t.c.c0,.int .i64 t.c.c1,.int .i64 t.c.c2,.int .i64 t.c.c3,.slice A t.c.l.length ca,.slice D t.e.length cd] 37)) (C1:= #[.int .i64 key]) (T1:=3) (C2:= #[.int .i64 col]) (T2:=3) ((Gr.refl _).alloc (.cells #[.int .i64 0,.int .i64 0,.int .i64 0,.int .i64 0,.slice none 0 0,.slice none 0 0] 37)) (j:=0) rfl;rw[World.size_alloc] at h;exact h),Six.new _ _ _ _ _ _ _ 37 (by simp),(((((Gr.refl w).alloc _).alloc _).alloc _).alloc _).below⟩
 have hck:=checkT_any t A ca D cd _ hl hel hF0.tab.row hF0.tab.rowC
 have hckH:Hid _:=hck
 have hlH:Hid (t.c.l.length≤maxLen):=hl
 clear hck hl
 go_enter Tryz.func36,Tryz.ntmps36
 go_wp2_with fail
 refine Calls.mono (show Calls _ _ _ _ _ from hckH.out) ?_
 rintro e w1 ⟨rfl,hg1⟩
 clear hckH
 have hF1:=hF0.gr hg1
 clear hF0 hg1
 obtain ⟨E1,hE1⟩:∃E,errT t=E:=⟨_,rfl⟩
 rw[hE1]
 by_cases h1:E1=0
 ·subst h1
  have heH:Hid (errT t=0):=hE1
  have hel4:t.e.length≤400:=(errT_parts hE1).2.1
  clear hE1
  cases hpl:okPlace key col v
  ·have hfin:Hid (putE t n key col v=1∧putT t n key col v=⟨zeroC,[]⟩):=by
    have h1:putE t n key col v=1:=by simp[putE,heH.out,hpl]
    exact ⟨h1,by unfold putT;rw[h1];rfl⟩
   obtain ⟨z0,z1,z2,z3,z4,z5,zf,zlt⟩:=(show Six _ _ _ _ _ _ _ _ from hF1.res)
   have hkk:=hF1.key
   have hcc:=hF1.col
   have hbw:Hid (Below w.heap.size w w1):=hF1.hw
   go_wp2_with (go_at_call 50;refine (isCell_g hpl _).mono ?_;rintro e w1 ⟨rfl,rfl⟩)
   rw[hfin.out.1,hfin.out.2]
   exact bodyPost_ret (v:= .tuple #[.agg #[.int .i64 0,.int .i64 0,.int .i64 0,.int .i64 0,.slice none 0 0,.slice none 0 0],.int .i64 1]) (by simp[results,Tryz.results36,go_sem,z0,z1,z2,z3,z4,z5]) rfl ⟨none,0,none,0,rfl,Or.inl rfl,Or.inl rfl,fun _=>rfl,fun _=>rfl,(fun x hx=>by cases hx),(fun x hx=>by cases hx),below_set6 hbw.out (by omega) _ _ _ _ _ _⟩
  ·obtain ⟨k0,k1,k2,k3,k4,k5,klt,krow,krowC⟩:=(show TabAt _ _ _ _ _ _ _ from hF1.tab)
   have hkk:=hF1.key
   have hcc:=hF1.col
   have hnx:=next_any t.c A ca n w1 hlH.out krow
   have hnxH:Hid _:=hnx
   clear hnx
   go_wp2_with (first|(go_at_call 50;refine (isCell_g hpl _).mono ?_;rintro e w1 ⟨rfl,rfl⟩)|fail)
   refine Calls.mono (show Calls _ _ _ _ _ from hnxH.out) ?_
   rintro e w2 ⟨rfl,hg2⟩
   clear hnxH k0 k1 k2 k3 k4 k5 klt krow krowC hkk hcc
   have hF2:=hF1.gr hg2
   clear hF1 hg2
   obtain ⟨N,hN⟩:∃N,(nextA t.c n).1=N:=⟨_,rfl⟩
   obtain ⟨E2,hE2⟩:∃E,(nextA t.c n).2=E:=⟨_,rfl⟩
   rw[hN,hE2]
   have hNF:Hid ((nextA t.c n).1=N∧(nextA t.c n).2=E2):=⟨hN,hE2⟩
   clear hN hE2
   go_upto_region 7 with fail
   have hF3:=hF2.gr ((Gr.refl _).alloc (.cells #[.int .i64 N.1,.int .i64 N.2] 52))
   have hn3:DotAt (w2.alloc (.cells #[.int .i64 N.1,.int .i64 N.2] 52)) w2.heap.size N.1 N.2:=DotAt.new 52 rfl
   generalize w2.alloc (.cells #[.int .i64 N.1,.int .i64 N.2] 52)=w3 at hF3 hn3 ⊢
   generalize w2.heap.size=bN at hn3 ⊢
   clear hF2
   by_cases h2:E2=0
   ·subst h2
    have hP:Hid (putE t n key col v=if makeE (dotsOf (fitP key col) t.e)≠0 then makeE (dotsOf (fitP key col) t.e) else if makeE [N]≠0 then makeE [N] else joinE (makeC (dotsOf (fitP key col) t.e)) (makeC [N])):=by
     show putE t n key col v=_
     unfold putE
     rw[heH.out,hpl,hNF.out.1,hNF.out.2]
     rfl
    have hT:Hid (putT t n key col v=if putE t n key col v=0 then ⟨joinC (makeC (dotsOf (fitP key col) t.e)) (makeC [N]),[(N,key,col,v)]⟩ else ⟨zeroC,[]⟩):=by
     show putT t n key col v=_
     unfold putT
     rw[hNF.out.1]
    clear hNF
    obtain ⟨k0,k1,k2,k3,k4,k5,klt,krow,krowC⟩:=(show TabAt _ _ _ _ _ _ _ from hF3.tab)
    have hkk:=hF3.key
    have hcc:=hF3.col
    have hrl:=hF3.res.lt
    have eg:∀args w,(callFunc 53 args).run Tryz.prog w= .ok (.enter 53 args) w:=enters_of Tryz.func53 (by kernel_rfl) rfl
    have hco:=contextOf_any (fitP key col) 53 #[.pointer (some ⟨w.heap.size+1,0,none⟩),.pointer (some ⟨w.heap.size+1+1,0,none⟩)] eg t.e D cd w3 hel4 krowC (fun W hW x=>fitP_any key col (w.heap.size+1) (w.heap.size+1+1) x W (by have:=hW.size;omega) (by have:=hW.size;omega) ((hW.cell (p:=⟨w.heap.size+1,0,none⟩) (show w.heap.size+1<_ by omega)).trans hkk) ((hW.cell (p:=⟨w.heap.size+1+1,0,none⟩) (show w.heap.size+1+1<_ by omega)).trans hcc))
    have hcoH:Hid _:=hco
    have hFl:Hid ((makeC (dotsOf (fitP key col) t.e)).l.length≤maxLen):=makeC_len _ (Nat.le_trans (dotsOf_len _ _) hel4)
    have hGl:Hid ((makeC [N]).l.length≤maxLen):=makeC_len _ (by simp)
    clear hco
    go_wp2_with fail
    refine Calls.mono (show Calls _ _ _ _ _ from hcoH.out) ?_
    rintro e w4 ⟨C4,cp4,rfl,hr4,hC4,_,hb4⟩
    clear hcoH k0 k1 k2 k3 k4 k5 klt krow krowC hkk hcc hrl eg
    obtain ⟨F,hFF⟩:∃F,makeC (dotsOf (fitP key col) t.e)=F:=⟨_,rfl⟩
    obtain ⟨E4,hE4⟩:∃E,makeE (dotsOf (fitP key col) t.e)=E:=⟨_,rfl⟩
    rw[hFF] at hr4 hP hT hFl ⊢
    rw[hE4] at hP ⊢
    clear hFF hE4
    go_upto_region 10 with fail
    have hF5:=(hF3.below hb4).gr ((Gr.refl _).alloc (.cells #[.int .i64 F.c0,.int .i64 F.c1,.int .i64 F.c2,.int .i64 F.c3,.slice C4 F.l.length cp4] 34))
    have hn5:=(hn3.below hb4).gr ((Gr.refl _).alloc (.cells #[.int .i64 F.c0,.int .i64 F.c1,.int .i64 F.c2,.int .i64 F.c3,.slice C4 F.l.length cp4] 34))
    have hc5:CtxAt (w4.alloc (.cells #[.int .i64 F.c0,.int .i64 F.c1,.int .i64 F.c2,.int .i64 F.c3,.slice C4 F.l.length cp4] 34)) w4.heap.size F C4 cp4:=CtxAt.new 34 hr4 rfl
    have hf5:Fz (w4.alloc (.cells #[.int .i64 F.c0,.int .i64 F.c1,.int .i64 F.c2,.int .i64 F.c3,.slice C4 F.l.length cp4] 34)) w4.heap.size:=Fz.new _ _ _
    have hbC:w.heap.size+1+1+1<w4.heap.size:=by have:=hF3.res.lt;have:=hb4.size;omega
    generalize w4.alloc (.cells #[.int .i64 F.c0,.int .i64 F.c1,.int .i64 F.c2,.int .i64 F.c3,.slice C4 F.l.length cp4] 34)=w5 at hF5 hn5 hc5 hf5 ⊢
    have hbN:bN<w4.heap.size:=by have:=hn3.lt;have:=hb4.size;omega
    clear hF3 hn3 hr4 hb4
    generalize w4.heap.size=bC at hc5 hf5 hbC hbN ⊢
    by_cases h4:E4=0
    ·subst h4
     obtain ⟨n0,n1,nlt⟩:=(show DotAt _ _ _ _ from hn5)
     go_wp2_with fail
     refine Calls.mono (show Calls _ _ _ _ _ from make_one_g (N:=N) (rowNew rfl N.1 N.2 _)) ?_
     rintro e w6 ⟨C6,cp6,rfl,hr6,hC6,_,hb6⟩
     clear n0 n1 nlt
     have hF6:=(hF5.gr ((Gr.refl _).alloc _)).below hb6
     have hn6:=(hn5.gr ((Gr.refl _).alloc _)).below hb6
     have hc6:=(hc5.gr ((Gr.refl _).alloc _)).below hb6
     have hf6:=(hf5.gr ((Gr.refl _).alloc _)).below hb6
     clear hF5 hn5 hc5 hb6 hf5
     obtain ⟨G,hGG⟩:∃G,makeC [N]=G:=⟨_,rfl⟩
     obtain ⟨E6,hE6⟩:∃E,makeE [N]=E:=⟨_,rfl⟩
     rw[hGG] at hr6 hP hT hGl ⊢
     rw[hE6] at hP ⊢
     clear hGG hE6
     go_upto_region 13 with fail
     have hF7:=hF6.gr ((Gr.refl _).alloc (.cells #[.int .i64 G.c0,.int .i64 G.c1,.int .i64 G.c2,.int .i64 G.c3,.slice C6 G.l.length cp6] 34))
     have hn7:=hn6.gr ((Gr.refl _).alloc (.cells #[.int .i64 G.c0,.int .i64 G.c1,.int .i64 G.c2,.int .i64 G.c3,.slice C6 G.l.length cp6] 34))
     have hc7:=hc6.gr ((Gr.refl _).alloc (.cells #[.int .i64 G.c0,.int .i64 G.c1,.int .i64 G.c2,.int .i64 G.c3,.slice C6 G.l.length cp6] 34))
     have hf7:=hf6.gr ((Gr.refl _).alloc (.cells #[.int .i64 G.c0,.int .i64 G.c1,.int .i64 G.c2,.int .i64 G.c3,.slice C6 G.l.length cp6] 34))
     have hg7:CtxAt (w6.alloc (.cells #[.int .i64 G.c0,.int .i64 G.c1,.int .i64 G.c2,.int .i64 G.c3,.slice C6 G.l.length cp6] 34)) w6.heap.size G C6 cp6:=CtxAt.new 34 hr6 rfl
     generalize w6.alloc (.cells #[.int .i64 G.c0,.int .i64 G.c1,.int .i64 G.c2,.int .i64 G.c3,.slice C6 G.l.length cp6] 34)=w7 at hF7 hn7 hc7 hg7 hf7 ⊢
     clear hF6 hn6 hc6 hr6 hf6
     generalize w6.heap.size=bG at hg7 ⊢
     by_cases h6:E6=0
     ·subst h6
      obtain ⟨c0,c1,c2,c3,c4,clt,crow⟩:=(show CtxAt _ _ _ _ _ from hc7)
      obtain ⟨g0,g1,g2,g3,g4,glt,grow'⟩:=(show CtxAt _ _ _ _ _ from hg7)
      have hjn:=join_any F G C4 C6 cp4 cp6 w7 hFl.out hGl.out crow grow' hC4 hC6
      have hjnH:Hid _:=hjn
      clear hjn
      go_wp2_with fail
      refine Calls.mono (show Calls _ _ _ _ _ from hjnH.out) ?_
      rintro e w8 ⟨C8,cp8,rfl,hr8,hC8,hCb8,hb8⟩
      clear hjnH c0 c1 c2 c3 c4 clt crow g0 g1 g2 g3 g4 glt grow'
      obtain ⟨J,hJJ⟩:∃J,joinC F G=J:=⟨_,rfl⟩
      obtain ⟨E8,hE8⟩:∃E,joinE F G=E:=⟨_,rfl⟩
      rw[hJJ] at hr8 hT ⊢
      rw[hE8] at hP ⊢
      clear hJJ hE8
      have hF8:=hF7.below hb8
      have hn8:=hn7.below hb8
      have hc8:=hc7.below hb8
      have hc7l:=hc7.lt
      have hf8:=hf7.below hb8
      clear hF7 hn7 hc7 hg7 hb8 hf7
      obtain ⟨c0,c1,c2,c3,c4,clt,crow⟩:=(show CtxAt _ _ _ _ _ from hc8)
      have hcz:=hf8.2
      go_upto_region 16 with fail
      have hbV:Below bC w8 (((((w8.setCell ⟨bC,0,none⟩ (.int .i64 J.c0)).setCell ⟨bC,1,none⟩ (.int .i64 J.c1)).setCell ⟨bC,2,none⟩ (.int .i64 J.c2)).setCell ⟨bC,3,none⟩ (.int .i64 J.c3)).setCell ⟨bC,4,none⟩ (.slice C8 J.l.length cp8)):=below_set5 (Below.refl _ _) (Nat.le_refl _) _ _ _ _ _
      have hc9:CtxAt (((((w8.setCell ⟨bC,0,none⟩ (.int .i64 J.c0)).setCell ⟨bC,1,none⟩ (.int .i64 J.c1)).setCell ⟨bC,2,none⟩ (.int .i64 J.c2)).setCell ⟨bC,3,none⟩ (.int .i64 J.c3)).setCell ⟨bC,4,none⟩ (.slice C8 J.l.length cp8)) bC J C8 cp8:=hc8.set hr8 (fun x hx=>by have:=hCb8 x hx;omega)
      have hz9:=hF8.res.belowB hbV hbC
      have hk9:=(hbV.cell (p:=⟨w.heap.size+1,0,none⟩) (show w.heap.size+1<bC by omega)).trans hF8.key
      have hl9:=(hbV.cell (p:=⟨w.heap.size+1+1,0,none⟩) (show w.heap.size+1+1<bC by omega)).trans hF8.col
      have hm9:=(hbV.cell (p:=⟨bN,0,none⟩) hbN).trans hn8.k0
      have hn9:=(hbV.cell (p:=⟨bN,1,none⟩) hbN).trans hn8.k1
      have hw9:Below w.heap.size w (((((w8.setCell ⟨bC,0,none⟩ (.int .i64 J.c0)).setCell ⟨bC,1,none⟩ (.int .i64 J.c1)).setCell ⟨bC,2,none⟩ (.int .i64 J.c2)).setCell ⟨bC,3,none⟩ (.int .i64 J.c3)).setCell ⟨bC,4,none⟩ (.slice C8 J.l.length cp8)):=hF8.hw.trans (hbV.mono (by omega))
      have hCw8:Hid (∀x,C8=some x→w.heap.size≤x.block):=fun x hx=>by have:=hCb8 x hx;omega
      have hCn8:Hid (∀x,C8=some x→x.block≠w.heap.size+1+1+1):=fun x hx=>by have:=hCb8 x hx;omega
      generalize (((((w8.setCell ⟨bC,0,none⟩ (.int .i64 J.c0)).setCell ⟨bC,1,none⟩ (.int .i64 J.c1)).setCell ⟨bC,2,none⟩ (.int .i64 J.c2)).setCell ⟨bC,3,none⟩ (.int .i64 J.c3)).setCell ⟨bC,4,none⟩ (.slice C8 J.l.length cp8))=V at hc9 hz9 hk9 hl9 hm9 hn9 hw9 ⊢
      clear hF8 hn8 hc8 hf8 hcz c0 c1 c2 c3 c4 clt crow hbV hr8 hCb8 hc7l
      by_cases h8:E8=0
      ·subst h8
       have hfin:Hid (putE t n key col v=0∧putT t n key col v=⟨J,[(N,key,col,v)]⟩):=by
        have h3:putE t n key col v=0:=by rw[hP.out];simp
        exact ⟨h3,by rw[hT.out,h3,if_pos rfl]⟩
       obtain ⟨c0,c1,c2,c3,c4,clt,crow⟩:=(show CtxAt _ _ _ _ _ from hc9)
       obtain ⟨z0,z1,z2,z3,z4,z5,zf,zlt⟩:=(show Six _ _ _ _ _ _ _ _ from hz9)
       have hCn:∀a,C8=some a→a.block≠w.heap.size+1+1+1:=hCn8.out
       have hV:=(hz9.set (.int .i64 J.c0) (.int .i64 J.c1) (.int .i64 J.c2) (.int .i64 J.c3) (.slice C8 J.l.length cp8) (.slice (some ⟨V.heap.size,0,none⟩) 1 1)).gr ((Gr.refl _).alloc (.cells #[.int .i64 N.1,.int .i64 N.2,.int .i64 key,.int .i64 col,.int .i64 v] 55))
       have hrV:Row _ C8 J.l:=(((((((crow.setCell (B:=w.heap.size+1+1+1) (j:=0) (.int .i64 J.c0) hCn).setCell (j:=1) (.int .i64 J.c1) hCn).setCell (j:=2) (.int .i64 J.c2) hCn).setCell (j:=3) (.int .i64 J.c3) hCn).setCell (j:=4) (.slice C8 J.l.length cp8) hCn).setCell (j:=5) (.slice (some ⟨V.heap.size,0,none⟩) 1 1) hCn)).gr ((Gr.refl _).alloc (.cells #[.int .i64 N.1,.int .i64 N.2,.int .i64 key,.int .i64 col,.int .i64 v] 55))
       have hbV:=(below_set6 hw9 (B:=w.heap.size+1+1+1) (by omega) (.int .i64 J.c0) (.int .i64 J.c1) (.int .i64 J.c2) (.int .i64 J.c3) (.slice C8 J.l.length cp8) (.slice (some ⟨V.heap.size,0,none⟩) 1 1)).alloc (by simp;omega) (.cells #[.int .i64 N.1,.int .i64 N.2,.int .i64 key,.int .i64 col,.int .i64 v] 55)
       have hdV:=rowNewC (W:=(((((V.setCell ⟨w.heap.size+1+1+1,0,none⟩ (.int .i64 J.c0)).setCell ⟨w.heap.size+1+1+1,1,none⟩ (.int .i64 J.c1)).setCell ⟨w.heap.size+1+1+1,2,none⟩ (.int .i64 J.c2)).setCell ⟨w.heap.size+1+1+1,3,none⟩ (.int .i64 J.c3)).setCell ⟨w.heap.size+1+1+1,4,none⟩ (.slice C8 J.l.length cp8)).setCell ⟨w.heap.size+1+1+1,5,none⟩ (.slice (some ⟨V.heap.size,0,none⟩) 1 1)) (n:=V.heap.size) (by simp) (N,key,col,v) 55
       have hVw:Hid (w.heap.size≤V.heap.size):=hw9.size
       have hVH:Hid _:=hV
       have hbVH:Hid _:=hbV
       have hrVH:Hid _:=hrV
       have hdVH:Hid _:=hdV
       clear hV hbV hrV hdV hCn
       go_wp2
       obtain ⟨v0,v1,v2,v3,v4,v5,vf,vlt⟩:=(show Six _ _ _ _ _ _ _ _ from hVH.out)
       have hbV:=hbVH.out
       have hrV:=hrVH.out
       have hdV:=hdVH.out
       rw[hfin.out.1,hfin.out.2]
       generalize World.alloc _ _=X at v0 v1 v2 v3 v4 v5 hbV hrV hdV ⊢
       exact bodyPost_ret (v:= .tuple #[.agg #[.int .i64 J.c0,.int .i64 J.c1,.int .i64 J.c2,.int .i64 J.c3,.slice C8 J.l.length cp8,.slice (some ⟨V.heap.size,0,none⟩) 1 1],.int .i64 0]) (by simp[results,Tryz.results36,go_sem,v0,v1,v2,v3,v4,v5]) rfl ⟨C8,cp8,_,1,rfl,hrV,hdV,hC8,fun h=>(by cases h),hCw8.out,(fun x hx=>by cases hx;have:=hVw.out;exact this),hbV⟩
      ·have hfin:Hid (putE t n key col v=E8∧putT t n key col v=⟨zeroC,[]⟩):=by
        have h3:putE t n key col v=E8:=by rw[hP.out];simp
        exact ⟨h3,by rw[hT.out,h3,if_neg h8]⟩
       have heb:(E8 != 0)=true:=by simpa using h8
       clear h8
       obtain ⟨z0,z1,z2,z3,z4,z5,zf,zlt⟩:=(show Six _ _ _ _ _ _ _ _ from hz9)
       have hbw:Hid (Below w.heap.size w _):=hw9
       go_wp2
       rw[hfin.out.1,hfin.out.2]
       exact bodyPost_ret (v:= .tuple #[.agg #[.int .i64 0,.int .i64 0,.int .i64 0,.int .i64 0,.slice none 0 0,.slice none 0 0],.int .i64 E8]) (by simp[results,Tryz.results36,go_sem,z0,z1,z2,z3,z4,z5]) rfl ⟨none,0,none,0,rfl,Or.inl rfl,Or.inl rfl,fun _=>rfl,fun _=>rfl,(fun x hx=>by cases hx),(fun x hx=>by cases hx),below_set6 hbw.out (by omega) _ _ _ _ _ _⟩
     ·have hfin:Hid (putE t n key col v=E6∧putT t n key col v=⟨zeroC,[]⟩):=by
       have h3:putE t n key col v=E6:=by rw[hP.out];simp[h6]
       exact ⟨h3,by rw[hT.out,h3,if_neg h6]⟩
      have heb:(E6 != 0)=true:=by simpa using h6
      clear h6
      obtain ⟨z0,z1,z2,z3,z4,z5,zf,zlt⟩:=(show Six _ _ _ _ _ _ _ _ from hF7.res)
      have hbw:Hid (Below w.heap.size w _):=hF7.hw
      go_wp2
      rw[hfin.out.1,hfin.out.2]
      exact bodyPost_ret (v:= .tuple #[.agg #[.int .i64 0,.int .i64 0,.int .i64 0,.int .i64 0,.slice none 0 0,.slice none 0 0],.int .i64 E6]) (by simp[results,Tryz.results36,go_sem,z0,z1,z2,z3,z4,z5]) rfl ⟨none,0,none,0,rfl,Or.inl rfl,Or.inl rfl,fun _=>rfl,fun _=>rfl,(fun x hx=>by cases hx),(fun x hx=>by cases hx),below_set6 hbw.out (by omega) _ _ _ _ _ _⟩
    ·have hfin:Hid (putE t n key col v=E4∧putT t n key col v=⟨zeroC,[]⟩):=by
      have h3:putE t n key col v=E4:=by rw[hP.out];simp[h4]
      exact ⟨h3,by rw[hT.out,h3,if_neg h4]⟩
     have heb:(E4 != 0)=true:=by simpa using h4
     clear h4
     obtain ⟨z0,z1,z2,z3,z4,z5,zf,zlt⟩:=(show Six _ _ _ _ _ _ _ _ from hF5.res)
     have hbw:Hid (Below w.heap.size w _):=hF5.hw
     go_wp2
     rw[hfin.out.1,hfin.out.2]
     exact bodyPost_ret (v:= .tuple #[.agg #[.int .i64 0,.int .i64 0,.int .i64 0,.int .i64 0,.slice none 0 0,.slice none 0 0],.int .i64 E4]) (by simp[results,Tryz.results36,go_sem,z0,z1,z2,z3,z4,z5]) rfl ⟨none,0,none,0,rfl,Or.inl rfl,Or.inl rfl,fun _=>rfl,fun _=>rfl,(fun x hx=>by cases hx),(fun x hx=>by cases hx),below_set6 hbw.out (by omega) _ _ _ _ _ _⟩
   ·have hfin:Hid (putE t n key col v=E2∧putT t n key col v=⟨zeroC,[]⟩):=by
     have h3:putE t n key col v=E2:=by unfold putE;rw[heH.out,hpl,hNF.out.2];simp[h2]
     exact ⟨h3,by unfold putT;rw[h3,if_neg h2]⟩
    have heb:(E2 != 0)=true:=by simpa using h2
    clear h2
    obtain ⟨z0,z1,z2,z3,z4,z5,zf,zlt⟩:=(show Six _ _ _ _ _ _ _ _ from hF3.res)
    have hbw:Hid (Below w.heap.size w _):=hF3.hw
    go_wp2
    rw[hfin.out.1,hfin.out.2]
    exact bodyPost_ret (v:= .tuple #[.agg #[.int .i64 0,.int .i64 0,.int .i64 0,.int .i64 0,.slice none 0 0,.slice none 0 0],.int .i64 E2]) (by simp[results,Tryz.results36,go_sem,z0,z1,z2,z3,z4,z5]) rfl ⟨none,0,none,0,rfl,Or.inl rfl,Or.inl rfl,fun _=>rfl,fun _=>rfl,(fun x hx=>by cases hx),(fun x hx=>by cases hx),below_set6 hbw.out (by omega) _ _ _ _ _ _⟩
 ·have hfin:Hid (putE t n key col v=E1∧putT t n key col v=⟨zeroC,[]⟩):=by
   have h2:putE t n key col v=E1:=by unfold putE;rw[hE1,if_pos h1]
   exact ⟨h2,by unfold putT;rw[h2,if_neg h1]⟩
  have heb:(E1 != 0)=true:=by simpa using h1
  clear h1 hE1
  obtain ⟨z0,z1,z2,z3,z4,z5,zf,zlt⟩:=(show Six _ _ _ _ _ _ _ _ from hF1.res)
  have hbw:Hid (Below w.heap.size w w1):=hF1.hw
  go_wp2
  rw[hfin.out.1,hfin.out.2]
  exact bodyPost_ret (v:= .tuple #[.agg #[.int .i64 0,.int .i64 0,.int .i64 0,.int .i64 0,.slice none 0 0,.slice none 0 0],.int .i64 E1]) (by simp[results,Tryz.results36,go_sem,z0,z1,z2,z3,z4,z5]) rfl ⟨none,0,none,0,rfl,Or.inl rfl,Or.inl rfl,fun _=>rfl,fun _=>rfl,(fun x hx=>by cases hx),(fun x hx=>by cases hx),below_set6 hbw.out (by omega) _ _ _ _ _ _⟩

end Go.Proofs.YtkadjjmkokhldaaGreat
