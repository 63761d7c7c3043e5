import Derived.Test.YtkefkplnamkicabGreatDoorM19
set_option maxRecDepth 100000
set_option maxHeartbeats 8000000
open Go.IntKind renaming i64 → I
open Go.Obj renaming cells → H
open Go.Proofs.Tryz renaming prog → X
open Go.Value renaming int → S, slice → Z, tuple → Y, agg → R
namespace Go.Proofs.YtkefkplnamkicabGreatDoor
open Go.RowKit Go.Sort

def eW (N:Nat):World→Nat→List Value→World
 | w,_,[]=>w
 | w,o,v::l=>eW N (w.setCell ⟨N,o,none⟩ v) (o+1) l
theorem fJ (N:Nat):∀(l:List Value) (w:World) (o lo hi:Nat),lo≤o→o+l.length≤hi→Wr N lo hi w (eW N w o l)
 | [],w,o,lo,hi,_,_=>Wr.refl _ _ _ _
 | v::l,w,o,lo,hi,h1,h2=>by
  simp only[List.length_cons] at h2
  exact (Wr.set w v h1 (by omega)).trans (fJ N l _ (o+1) lo hi (by omega) (by omega))
theorem fm (N:Nat):∀(l:List Value) (w:World) (o:Nat),(eW N w o l).heap.size=w.heap.size
 | [],w,o=>rfl
 | v::l,w,o=>by
  rw[eW,fm N l]
  simp
theorem fl {N n:Nat} {T:TypeId}:∀(l:List Value) (w:World) (o:Nat),Blk w N T n→o+l.length≤n→∀j v,l[j]? = some v→(eW N w o l).cell? ⟨N,o+j,none⟩=some v
 | [],w,o,_,_,j,v,h=>by simp at h
 | u::l,w,o,hb,hn,0,v,h=>by
  simp only[List.length_cons] at hn
  have hb':Blk (w.setCell ⟨N,o,none⟩ u) N T n:=(Wr.set (lo:=o) (hi:=o+1) w u (nR _) (by omega)).block hb
  have e:u=v:=by simpa using h
  subst e
  obtain ⟨x,hx⟩:=hb.some (j:=o) (by omega)
  rw[eW,Nat.add_zero,(fJ N l (w.setCell ⟨N,o,none⟩ u) (o+1) (o+1) (o+1+l.length) (Nat.le_refl _) (Nat.le_refl _)).cell hb' (Or.inl (by omega))]
  exact World.cell?_setCell_same _ _ _ hx
 | u::l,w,o,hb,hn,j+1,v,h=>by
  simp only[List.length_cons] at hn
  have hb':Blk (w.setCell ⟨N,o,none⟩ u) N T n:=(Wr.set (lo:=o) (hi:=o+1) w u (nR _) (by omega)).block hb
  rw[eW,show o+(j+1)=o+1+j by omega]
  exact fl l (w.setCell ⟨N,o,none⟩ u) (o+1) hb' (by omega) j v (by simpa using h)
theorem Nd.laid {w w':World} {N O:Nat} {P P':Nat→Prop} {id:Int} {s t s' t':Tab} {qs:List (List Stp)} (h:Nd w N O P id s t qs) (hPP:∀b,P b→P' b) (hN:¬P' N) (hup:∀b,P' b→b<w.heap.size) {A B C D:Option Addr} {ca cb cc cd:Nat} (hs:TbP P' w s' A ca C cc) (ht:TbP P' w t' B cb D cd) (hw:eW N w (O+1) [S I s'.c.c0,S I s'.c.c1,S I s'.c.c2,S I s'.c.c3,Z A s'.c.l.length ca,Z C s'.e.length cc,S I t'.c.c0,S I t'.c.c1,S I t'.c.c2,S I t'.c.c3,Z B t'.c.l.length cb,Z D t'.e.length cd]=w') :
  Nm w' N O P' id s' t' qs 0 (ofR s) (ofR t)∧Wr N (O+1) (O+13) w w':=by
 have hW:Wr N (O+1) (O+13) w w':=by rw[←hw];exact fJ N _ w (O+1) (O+1) (O+13) (nR _) (nR _)
 have hsz:w'.heap.size=w.heap.size:=by rw[←hw];exact fm _ _ _ _
 have hA:Agr P' w w':=hW.agr hN
 obtain ⟨T0,n0,hb0,hn0⟩:=h.blk
 have hc:∀j v,[S I s'.c.c0,S I s'.c.c1,S I s'.c.c2,S I s'.c.c3,Z A s'.c.l.length ca,Z C s'.e.length cc,S I t'.c.c0,S I t'.c.c1,S I t'.c.c2,S I t'.c.c3,Z B t'.c.l.length cb,Z D t'.e.length cd][j]? = some v→w'.cell? ⟨N,O+1+j,none⟩=some v:=fun j v hv=>by rw[←hw];exact fl _ w (O+1) hb0 (by show O+1+12≤n0;omega) j v hv
 have hb:=hW.blo h.blk
 have ho:∀j,(j<O+1∨O+13≤j)→w'.cell? ⟨N,j,none⟩=w.cell? ⟨N,j,none⟩:=fun j hj=>hW.celo h.blk hj
 refine ⟨⟨hb,hN,fun b hb=>by rw[hsz];exact hup b hb,(ho O (by omega)).trans h.cid,⟨A,ca,C,cc,⟨hc 0 _ rfl,hc 1 _ rfl,hc 2 _ rfl,hc 3 _ rfl,hc 4 _ rfl,hc 5 _ rfl⟩,hs.agr hA⟩,⟨B,cb,D,cd,⟨hc 6 _ rfl,hc 7 _ rfl,hc 8 _ rfl,hc 9 _ rfl,hc 10 _ rfl,hc 11 _ rfl⟩,ht.agr hA⟩,(ho (O+37) (by omega)).trans h.cnt,h.le,fun j hj=> ?_⟩,hW⟩
 rw[if_neg (Nat.not_lt_zero _),if_neg (Nat.not_lt_zero _)]
 exact ((h.view hj).mono hPP).keep hA hb.lt hb.fz fun i h1 _=>ho i (by omega)
theorem Nm.turned {w w':World} {N O:Nat} {P P':Nat→Prop} {id:Int} {s t:Tab} {qs:List (List Stp)} {i:Nat} {z y:List Zit} (h:Nm w N O P id s t qs i z y) (hi:i<qs.length) (hPP:∀b,P b→P' b) (hN:¬P' N) (hup:∀b,P' b→b<w'.heap.size) (hv:VwN w' N (O+13+i*6) P' qs[i] (ofR s) (ofR t)) (hW:Wr N (O+13+i*6) (O+13+i*6+6) w w'):Nm w' N O P' id s t qs (i+1) z y:=by
 have hb:=hW.blo h.blk
 have hl:=h.le
 have hA:Agr P w w':=hW.agr fun k=>hN (hPP _ k)
 have ho:∀j,(j<O+13+i*6∨O+13+i*6+6≤j)→w'.cell? ⟨N,j,none⟩=w.cell? ⟨N,j,none⟩:=fun j hj=>hW.celo h.blk hj
 refine ⟨hb,hN,hup,(ho O (by omega)).trans h.cid,(h.ts.keep hA fun j _ _=>ho j (by omega)).mono hPP,(h.tt.keep hA fun j _ _=>ho j (by omega)).mono hPP,(ho (O+37) (by omega)).trans h.cnt,h.le,fun j hj=> ?_⟩
 by_cases e:j=i
 ·subst e
  rw[if_pos (by omega),if_pos (by omega)]
  exact hv
 ·have:=((h.vs j hj).keep hA hb.lt hb.fz fun k h1 h2=>ho k (by omega)).mono hPP
  by_cases hlt:j<i
  ·rw[if_pos hlt,if_pos hlt] at this
   rw[if_pos (by omega),if_pos (by omega)]
   exact this
  ·rw[if_neg hlt,if_neg hlt] at this
   rw[if_neg (by omega),if_neg (by omega)]
   exact this
theorem Nm.done {w:World} {N O:Nat} {P:Nat→Prop} {id:Int} {s t:Tab} {qs:List (List Stp)} {i:Nat} {z y:List Zit} (h:Nm w N O P id s t qs i z y) (hi:qs.length≤i):Nd w N O P id s t qs:=by
 have hl:=h.le
 refine ⟨h.blk,h.out,h.up,h.cid,h.ts,h.tt,h.cnt,h.le,fun j hj=> ?_⟩
 have:=h.vs j hj
 rw[if_pos (by omega),if_pos (by omega)] at this
 rw[if_pos (by omega),if_pos (by omega)]
 exact this
section
open Go.Shelf Go.Lib

theorem jl {l:List (Int×Int)} (hl:l.length≤400) (h:∀x∈l,al x=true):bM l=0:=by
 unfold bM
 rw[if_neg (by omega),if_neg]
 rw[oq fun j hj=>h _ (List.getElem_mem hj)]
 simp
theorem cZ {t:Tab} (h:am t=0) (p:Cel→Bool):(aq p t.e).length≤400∧∀x∈aq p t.e,al x=true:=by
 refine ⟨nT (dH _ _) (af h).2.1,?_⟩
 intro x hx
 obtain ⟨y,hy,rfl⟩:=List.mem_map.1 hx
 exact jK (cO (af h).1) (bK h (List.mem_filter.1 hy).1)
theorem jm {l:List (Int×Int)} (hl:l.length≤400) (h:∀x∈l,al x=true):aO (aA l)=0∧∀x,ae (aA l) x=true↔x∈l:=by
 have hm:aA l=dU aH l:=by unfold aA;rw[if_pos (jl hl h)]
 have hc:Can (dU aH l):=mJ rfl (by decide) h
 refine ⟨?_,fun x=> ?_⟩
 ·rw[hm]
  refine iJ hc ?_
  unfold dU
  have:=iL aH (srt l) (srt l).length
  rw[eY] at this ⊢
  have hz:aH.l.length=0:=rfl
  omega
 ·rw[hm,mK rfl h]
  constructor
  ·rintro (k|k)
   ·exfalso
    rcases (aG aH x).1 k with m|m
    ·cases m
    ·have h0:clk aH x.1=0:=by unfold clk aH;simp
     have:=m.2.2.1
     have:=m.2.2.2
     omega
   ·exact k
  ·exact oR
theorem fD {t:Tab} (h:am t=0) {p:Cel→Bool} {y:Cel} (hy:y∈t.e):y.1∈aq p t.e↔p y=true:=by
 unfold aq
 rw[List.mem_map]
 constructor
 ·rintro ⟨z,hz,e⟩
  have:=List.mem_filter.1 hz
  rw[←wk h y hy z this.1 e];exact this.2
 ·intro k;exact ⟨y,List.mem_filter.2 ⟨hy,k⟩,rfl⟩

theorem vG {t:Tab} {n key col v:Int} (h:cT t n key col v=0):∃N:Int×Int,cF t n key col v=⟨(cF t n key col v).c,[(N,key,col,v)]⟩∧N.1=n∧ae t.c N=false∧am t=0∧am (cF t n key col v)=0∧aU key col v=true∧∀x,ae (cF t n key col v).c x=true↔x∈aq (cI key col) t.e∨x=N:=by
 have hT:cF t n key col v=⟨az (aA (aq (cI key col) t.e)) (aA [(bv t.c n).1]),[((bv t.c n).1,key,col,v)]⟩:=by unfold cF;rw[if_pos h]
 have hp:am t=0∧aU key col v=true∧(bv t.c n).2=0∧bM [(bv t.c n).1]=0∧aC (aA (aq (cI key col) t.e)) (aA [(bv t.c n).1])=0:=by
  unfold cT at h
  by_cases h1:am t=0
  ·rw[if_neg (by simpa using h1)] at h
   cases h2:aU key col v
   ·rw[if_pos h2] at h;cases h
   ·rw[if_neg (by simp[h2])] at h
    by_cases h3:(bv t.c n).2=0
    ·rw[if_neg (by simpa using h3)] at h
     by_cases h4:bM (aq (cI key col) t.e)=0
     ·rw[if_neg (by simpa using h4)] at h
      by_cases h5:bM [(bv t.c n).1]=0
      ·rw[if_neg (by simpa using h5)] at h
       exact ⟨h1,rfl,h3,h5,h⟩
      ·rw[if_pos h5] at h;exact absurd h h5
     ·rw[if_pos h4] at h;exact absurd h h4
    ·rw[if_pos h3] at h;exact absurd h h3
  ·rw[if_pos h1] at h;exact absurd h h1
 obtain ⟨h1,h2,h3,h4,h5⟩:=hp
 have hnn:=vq h3
 have hNr:al (bv t.c n).1=true:=by
  unfold bM at h4
  by_cases hb:lX [(bv t.c n).1]=true
  ·simp[hb] at h4
  ·cases hr:al (bv t.c n).1
   ·exact absurd (by unfold lX;simp[hr]) hb
   ·rfl
 have hd:=cZ h1 (cI key col)
 have m1:=jm hd.1 hd.2
 have m2:=jm (l:=[(bv t.c n).1]) (by simp) (by simpa using hNr)
 have hhas:∀x,ae (az (aA (aq (cI key col) t.e)) (aA [(bv t.c n).1])) x=true↔x∈aq (cI key col) t.e∨x=(bv t.c n).1:=by
  intro x
  rw[(dg h5).2.2.2,m1.2,m2.2]
  simp
 refine ⟨(bv t.c n).1,by rw[hT],hnn.1,hnn.2,h1,?_,h2,by rw[hT];exact hhas⟩
 rw[hT]
 refine jf (dg h5).2.1 (by simp) (by simp[Asc]) fun x hx=> ?_
 have hx':x=((bv t.c n).1,key,col,v):=by simpa using hx
 subst hx'
 exact ⟨(hhas _).2 (oR rfl),h2⟩
theorem tv {t:Tab} {n key col v:Int} (h:cT t n key col v=0) (h0:ak t (cF t n key col v)=0):∃N:Int×Int,ae t.c N=false∧N.1=n∧∀y,y∈(ac t (cF t n key col v)).e↔(y∈t.e∧cI key col y=false)∨y=(N,key,col,v):=by
 obtain ⟨N,hT,hN,hNt,ht,hp,_,hhas⟩:=vG h
 obtain ⟨_,_,hcl,_,_⟩:=bO h0
 refine ⟨N,hNt,hN,fun y=> ?_⟩
 rw[aQ h0]
 show y∈mrg t _↔_
 rw[dm hcl]
 have hpe:y∈(cF t n key col v).e↔y=(N,key,col,v):=by rw[hT];simp
 rw[hpe]
 constructor
 ·rintro (⟨k1,k2⟩|⟨k1,k2⟩|⟨k1,k2⟩)
  ·exact oR k2
  ·refine oL ⟨k1,?_⟩
   cases hf:cI key col y
   ·rfl
   ·have:=(hhas y.1).2 (oL ((fD ht k1).2 hf))
    rw[k2] at this;cases this
  ·exact oR k1
 ·rintro (⟨k1,k2⟩|k1)
  ·refine oR (oL ⟨k1,?_⟩)
   cases hb:ae (cF t n key col v).c y.1
   ·rfl
   ·rcases (hhas y.1).1 hb with m|m
    ·rw[(fD ht k1).1 m] at k2;cases k2
    ·have:=bK ht k1
     rw[m,hNt] at this;cases this
  ·refine oR (oR ⟨k1,?_⟩)
   rw[k1];exact hNt
theorem ur {t:Tab} {key:Int} (ht:am t=0) (h:dF t key≠0):key ∉ aT t.e:=by
 intro hk
 obtain ⟨y,hy,e⟩:=List.mem_map.1 hk
 refine h ?_
 have hpl:=dI ht hy
 have hin:inB key 0 49=true:=by
  unfold aU at hpl
  simp only[Bool.and_eq_true] at hpl
  rw[←e];exact hpl.1.1
 have hany:t.e.any (dP key)=true:=List.any_eq_true.2 ⟨y,hy,by simp[dP,e]⟩
 have hd:=cZ ht (dP key)
 unfold dF
 rw[ht,hin,hany,jl hd.1 hd.2]
 simp
theorem gY {t:Tab} {key:Int} (h:dF t key=0):am t=0∧key∈aT t.e∧ak t ⟨ch t key,[]⟩=0∧∀y,y∈(ac t ⟨ch t key,[]⟩).e↔y∈t.e∧y.2.1≠key:=by
 have hp:am t=0∧t.e.any (dP key)=true:=by
  unfold dF at h
  by_cases h1:am t=0
  ·rw[if_neg (by simpa using h1)] at h
   cases h2:inB key 0 49
   ·rw[if_pos h2] at h;cases h
   ·rw[if_neg (by simp[h2])] at h
    cases h3:t.e.any (dP key)
    ·rw[if_pos h3] at h;cases h
    ·exact ⟨h1,rfl⟩
  ·rw[if_pos h1] at h;exact absurd h h1
 obtain ⟨ht,hany⟩:=hp
 have hC:ch t key=aA (aq (dP key) t.e):=by unfold ch;rw[if_pos h]
 have hd:=cZ ht (dP key)
 have hm:=jm hd.1 hd.2
 have hkey:key∈aT t.e:=by
  obtain ⟨y,hy,hf⟩:=List.any_eq_true.1 hany
  exact List.mem_map.2 ⟨y,hy,by simpa[dP] using hf⟩
 have hdt:am ⟨ch t key,[]⟩=0:=by rw[hC];exact jf hm.1 (by simp) (by simp[Asc]) (fun x hx=>by cases hx)
 have hcl:dD t ⟨ch t key,[]⟩=false:=noclash.2 fun x hx y hy=>by cases hy
 have hsub:∀x,ae (ch t key) x=true→ae t.c x=true:=by
  intro x hx
  rw[hC,hm.2] at hx
  obtain ⟨y,hy,rfl⟩:=List.mem_map.1 hx
  exact bK ht (List.mem_filter.1 hy).1
 have hj:=rK (af ht).1 (af hdt).1 hsub
 have hmem:∀y,y∈mrg t ⟨ch t key,[]⟩↔y∈t.e∧y.2.1≠key:=by
  intro y
  rw[dm hcl]
  constructor
  ·rintro (⟨_,k⟩|⟨k1,k2⟩|⟨k,_⟩)
   ·cases k
   ·refine ⟨k1,fun e=> ?_⟩
    have:ae (ch t key) y.1=true:=by rw[hC,hm.2];exact (fD ht k1).2 (by simp[dP,e])
    rw[k2] at this;cases this
   ·cases k
  ·rintro ⟨k1,k2⟩
   refine oR (oL ⟨k1,?_⟩)
   show ae (ch t key) y.1=false
   cases hb:ae (ch t key) y.1
   ·rfl
   ·rw[hC,hm.2,fD ht k1] at hb
    simp[dP] at hb
    exact absurd hb k2
 have hlen:(mrg t ⟨ch t key,[]⟩).length≤400:=by
  have hsubl:(mrg t ⟨ch t key,[]⟩)=t.e.filter (fun y=>decide (y.2.1≠key)):=by
   refine j8 (fj ht hdt) (List.Pairwise.filter _ (dT ht)) fun y=> ?_
   rw[hmem,List.mem_filter]
   simp
  rw[hsubl]
  exact nT (List.length_filter_le _ _) (af ht).2.1
 have h0:ak t ⟨ch t key,[]⟩=0:=ig ht hdt hcl hj.1 hlen
 exact ⟨ht,hkey,h0,by rw[aQ h0];exact hmem⟩
end
end Go.Proofs.YtkefkplnamkicabGreatDoor

namespace Go.Proofs.YtkefkplnamkicabGreatDoor

theorem rS {t:Tab} {n key col v:Int} (h:cT t n key col v=0) (h0:ak t (cF t n key col v)=0):∃N:Int×Int,am t=0∧N.1=n∧ae t.c N=false∧(∀y,y∈(ac t (cF t n key col v)).e↔(y∈t.e∧cI key col y=false)∨y=(N,key,col,v))∧∀x,ae (ac t (cF t n key col v)).c x=true↔ae t.c x=true∨x=N:=by
 obtain ⟨N,hT,hN,hNt,ht,hp,_,hhas⟩:=vG h
 obtain ⟨K,_,_,hc⟩:=tv h h0
 obtain ⟨_,_,hcl,hj,_⟩:=bO h0
 have hin:((N,key,col,v):Cel)∈(ac t (cF t n key col v)).e:=by
  rw[aQ h0]
  show _∈mrg t _
  rw[dm hcl]
  exact oR (oR ⟨by rw[hT];simp,hNt⟩)
 obtain rfl:K=N:=by
  rcases (hc _).1 hin with k|k
  ·have:=bK ht k.1
   rw[show ((N,key,col,v):Cel).1=N from rfl,hNt] at this;cases this
  ·exact (congrArg (fun c:Cel=>c.1) k).symm
 refine ⟨K,ht,hN,hNt,hc,fun x=> ?_⟩
 rw[aQ h0]
 show ae (az t.c _) x=true↔_
 rw[(dg hj).2.2.2,hhas]
 constructor
 ·rintro (k|k|k)
  ·exact oL k
  ·obtain ⟨y,hy,rfl⟩:=List.mem_map.1 k
   exact oL (bK ht (List.mem_filter.1 hy).1)
  ·exact oR k
 ·rintro (k|k)
  ·exact oL k
  ·exact oR (oR k)

variable {t a b:Tab} {key col v w:Int} {N M:Int×Int}
theorem rv {t:Tab} {key:Int} (h:dF t key=0) (x:Int×Int) (hx:ae (ch t key) x=true):ae t.c x=true:=by
 have ht:=(gY h).1
 have hC:ch t key=aA (aq (dP key) t.e):=by unfold ch;rw[if_pos h]
 have hd:=cZ ht (dP key)
 have hm:=jm hd.1 hd.2
 rw[hC,hm.2] at hx
 obtain ⟨y,hy,rfl⟩:=List.mem_map.1 hx
 exact bK ht (List.mem_filter.1 hy).1
end Go.Proofs.YtkefkplnamkicabGreatDoor

namespace Go.Proofs.YtkefkplnamkicabGreatDoor
open Go.RowKit Go.Sort

theorem rL {l:List (Int×Int)}:∀ {m:List (Int×Int)},l.Nodup→(∀x∈l,x∈m)→l.length≤m.length:=by
 induction l with
 | nil=>intro m _ _;exact nZ _
 | cons x r ih =>
  intro m h hs
  have hx:=hs x (mS ..)
  have h2:=List.nodup_cons.1 h
  have h3:=ih (m:=m.erase x) h2.2 fun y hy=>(List.mem_erase_of_ne (fun e=>h2.1 (by rw[←e];exact hy))).2 (hs y (mC _ hy))
  rw[List.length_erase_of_mem hx] at h3
  have:0<m.length:=List.length_pos_of_mem hx
  simp only[List.length_cons]
  omega
structure Uni (U:List Cel):Prop where
 nd:(U.map (·.1)).Nodup
 len:U.length≤400
theorem Uni.uq {U:List Cel} (h:Uni U):∀x∈U,∀y∈U,x.1=y.1→x=y:=iO h.nd
structure Sub (U:List Cel) (t:Tab):Prop where
 ok:am t=0
 cel:∀x∈t.e,x∈U
 ctx:∀d,ae t.c d=true→∃x∈U,x.1=d
theorem Sub.mono {U V:List Cel} {t:Tab} (h:Sub U t) (k:∀x∈U,x∈V):Sub V t :=
 ⟨h.ok,fun x hx=>k x (h.cel x hx),fun d hd=>by obtain ⟨x,hx,e⟩:=h.ctx d hd;exact ⟨x,k x hx,e⟩⟩
theorem Sub.noclash {U:List Cel} {a b:Tab} (hU:Uni U) (ha:Sub U a) (hb:Sub U b):dD a b=false :=
 Go.Proofs.YtkefkplnamkicabGreatDoor.noclash.2 fun x hx y hy e=>hU.uq y (hb.cel y hy) x (ha.cel x hx) e
theorem sM {c:Ctx} {d:Int×Int} (h:d∈c.l):ae c d=true:=by
 unfold ae
 rw[List.contains_iff_mem.2 h]
 rfl
theorem yh {l:List (Int×Int)} (h:l.Pairwise fun x y=>br x y=true):l.Nodup:=by
 refine List.Pairwise.imp ?_ h
 intro a b hab e
 rw[e,rt] at hab
 cases hab
theorem Sub.merge {U:List Cel} {a b:Tab} (hU:Uni U) (ha:Sub U a) (hb:Sub U b):ak a b=0∧Sub U (ac a b)∧(∀d,ae (ac a b).c d=true↔ae a.c d=true∨ae b.c d=true)∧∀x,x∈(ac a b).e↔(x∈a.e∧x∈b.e)∨(x∈a.e∧ae b.c x.1=false)∨(x∈b.e∧ae a.c x.1=false):=by
 have hcl:=Sub.noclash hU ha hb
 have hca:=(af ha.ok).1
 have hcb:=(af hb.ok).1
 have hja:=cO hca
 have hjb:=cO hcb
 have hdots:∀d,ae (d7 a.c b.c) d=true→d∈U.map (·.1):=fun d hd=>by
  rcases (ei hja hjb d).1 hd with h|h
  ·obtain ⟨x,hx,e⟩:=ha.ctx d h
   exact List.mem_map.2 ⟨x,hx,e⟩
  ·obtain ⟨x,hx,e⟩:=hb.ctx d h
   exact List.mem_map.2 ⟨x,hx,e⟩
 have hlen:(d7 a.c b.c).l.length≤400:=by
  have:=rL (yh (eQ hja hjb).rise) fun d hd=>hdots d (sM hd)
  rw[List.length_map] at this
  have:=hU.len
  omega
 have hj:=li hca hcb hlen
 have hmem:=fun x=>dm hcl (x:=x)
 have hin:∀x∈mrg a b,x∈U:=fun x hx=>by
  rcases jM hcl hx with h|h
  ·exact ha.cel x h
  ·exact hb.cel x h
 have hm:(mrg a b).length≤400:=by
  have:=rL (gU (fj ha.ok hb.ok)) (m:=U.map (·.1)) fun d hd=>by
   obtain ⟨x,hx,e⟩:=List.mem_map.1 hd
   exact List.mem_map.2 ⟨x,hin x hx,e⟩
  rw[List.length_map,List.length_map] at this
  have:=hU.len
  omega
 have h0:=ig ha.ok hb.ok hcl hj hm
 have hT:=aQ h0
 have hok:=cP h0
 have hC:=(dV hj).2.2.2.1
 rw[hT] at hok ⊢
 refine ⟨h0,⟨hok,hin,fun d hd=> ?_⟩,fun d=> ?_,hmem⟩
 ·have:ae (d7 a.c b.c) d=true:=by rw[←hC];exact hd
  obtain ⟨x,hx,e⟩:=List.mem_map.1 (hdots d this)
  exact ⟨x,hx,e⟩
 ·show ae (az a.c b.c) d=true↔_
  rw[hC]
  exact ei hja hjb d
section
variable {U:List Cel} {a b c m:Tab}
theorem Sub.comm (hU:Uni U) (ha:Sub U a) (hb:Sub U b):ac a b=ac b a:=(sO (Sub.merge hU ha hb).1).2.symm
theorem Sub.assoc (hU:Uni U) (ha:Sub U a) (hb:Sub U b) (hc:Sub U c):ac (ac a b) c=ac a (ac b c) :=
 have h1:=Sub.merge hU ha hb
 have h2:=Sub.merge hU hb hc
 pi h1.1 (Sub.merge hU h1.2.1 hc).1 h2.1 (Sub.merge hU ha h2.2.1).1
theorem Sub.idem (ha:Sub U a):ac a a=a:=(qF ha.ok).2
def Bel (a b:Tab):Prop:=ac b a=b
theorem Bel.refl (ha:Sub U a):Bel a a:=Sub.idem ha
theorem Bel.left (hU:Uni U) (ha:Sub U a) (hb:Sub U b):Bel a (ac a b):=(ph (Sub.merge hU ha hb).1).2
theorem Bel.right (hU:Uni U) (ha:Sub U a) (hb:Sub U b):Bel b (ac a b):=by
 rw[Sub.comm hU ha hb]
 exact Bel.left hU hb ha
theorem Bel.trans (hU:Uni U) (ha:Sub U a) (hb:Sub U b) (hc:Sub U c) (h:Bel a b) (k:Bel b c):Bel a c:=by
 unfold Bel at *
 rw[←k,Sub.assoc hU hc hb ha,h]
theorem Bel.anti (hU:Uni U) (ha:Sub U a) (hb:Sub U b) (h:Bel a b) (k:Bel b a):a=b:=by
 exact k.symm.trans ((Sub.comm hU ha hb).trans h)
theorem Bel.both (hU:Uni U) (ha:Sub U a) (hb:Sub U b) (hm:Sub U m) (h:Bel a m) (k:Bel b m):Bel (ac a b) m:=by
 unfold Bel at *
 rw[←Sub.assoc hU hm ha hb,h,k]
end

theorem pm (a b:Ctx) (A B:Option Addr) (ca cb:Nat) (w:World) (hoka:bw a=true) (hokb:bw b=true) (hal4:a.l.length≤400) (hbl4:b.l.length≤400) (hra:Row w A a.l) (hrb:Row w B b.l) :
  Calls X 133 #[R #[S I a.c0,S I a.c1,S I a.c2,S I a.c3,Z A a.l.length ca],R #[S I b.c0,S I b.c1,S I b.c2,S I b.c3,Z B b.l.length cb]] w fun e w'=>∃C cp,e= .returned (Y #[Z C (gp a b).length cp,S I (fF a b)])∧Row w' C (gp a b)∧(C=none→cp=0)∧(∀x,C=some x→w.heap.size≤x.block)∧Below w.heap.size w w':=by
 have hg0:Gr w ((w.alloc (H #[S I a.c0,S I a.c1,S I a.c2,S I a.c3,Z A a.l.length ca] 39)).alloc (H #[S I b.c0,S I b.c1,S I b.c2,S I b.c3,Z B b.l.length cb] 39)):=((gR w).alloc _).alloc _
 have ha1:CtxAt ((w.alloc (H #[S I a.c0,S I a.c1,S I a.c2,S I a.c3,Z A a.l.length ca] 39)).alloc (H #[S I b.c0,S I b.c1,S I b.c2,S I b.c3,Z B b.l.length cb] 39)) w.heap.size a A ca:=(CtxAt.new 39 hra rfl).gr ((gR _).alloc _)
 have hb1:CtxAt ((w.alloc (H #[S I a.c0,S I a.c1,S I a.c2,S I a.c3,Z A a.l.length ca] 39)).alloc (H #[S I b.c0,S I b.c1,S I b.c2,S I b.c3,Z B b.l.length cb] 39)) (w.heap.size+1) b B cb:=CtxAt.new 39 (hrb.gr ((gR _).alloc _)) (by simp)
 have hok:Hid (bw a=true∧bw b=true):=⟨hoka,hokb⟩
 clear hoka hokb
 have hAb:∀x,A=some x→a.l≠[]→x.block<w.heap.size+1+1:=fun x hx hl=>by have:=hra.lt x hx hl;omega
 have hBb:∀x,B=some x→b.l≠[]→x.block<w.heap.size+1+1:=fun x hx hl=>by have:=hrb.lt x hx hl;omega
 have hbw1:Hid (Below w.heap.size w ((w.alloc (H #[S I a.c0,S I a.c1,S I a.c2,S I a.c3,Z A a.l.length ca] 39)).alloc (H #[S I b.c0,S I b.c1,S I b.c2,S I b.c3,Z B b.l.length cb] 39))):=hg0.below
 clear hg0
 go_enter Tryz.func133,Tryz.ntmps133
 go_wp2
 go_loopw [6,8] (fun v i wr=>∃k:Nat,k≤4∧i= S I k∧(bn a b k).length≤400∧Own wr (w.heap.size+1+1) v (bn a b k)∧Below (w.heap.size+1+1) ((w.alloc (H #[S I a.c0,S I a.c1,S I a.c2,S I a.c3,Z A a.l.length ca] 39)).alloc (H #[S I b.c0,S I b.c1,S I b.c2,S I b.c3,Z B b.l.length cb] 39)) wr) (fun _ i _=>4-(intOf i).toNat)
 case atStart=>exact ⟨0,by omega,rfl,by simp[bn],Own.nil _ _,bR _ _⟩
 case round =>
  obtain ⟨k,hk,rfl,hml,hov,hbel⟩:=hrel
  obtain ⟨A1,cap1,rfl,hA1,hrow1,hlt1⟩:=hov.row
  have haR:=CtxAt.belowB ha1 hbel (by omega) hAb
  have hbR:=CtxAt.belowB hb1 hbel (by omega) hBb
  obtain ⟨a0,a1,a2,a3,a4,alt,arow⟩:=(show CtxAt _ _ _ _ _ from haR)
  obtain ⟨b0,b1,b2,b3,b4,blt,brow⟩:=(show CtxAt _ _ _ _ _ from hbR)
  have hsR:w.heap.size+1+1≤wr.heap.size:=by have h1:=hbel.size;simp at h1;omega
  by_cases hlt:k<4
  ·have hltz:(k:Int)<4:=by omega
   have hln:=sS a b k
   have hcall:=oo a b A B ca cb (Z A1 (bn a b k).length cap1) (bn a b k) k (w.heap.size+1+1) wr (by omega) hltz hok.out.1 hok.out.2 hal4 hbl4 (by omega) arow brow hAb hBb hov hsR
   have hcallH:Hid _:=hcall
   clear hcall hov hrow1
   go_wp2_with fail
   refine cM (show Calls _ _ _ _ _ from hcallH.out) ?_
   rintro e w2 ⟨v2,rfl,hov2,hb2⟩
   change Own w2 _ v2 (bn a b (k+1)) at hov2
   clear hcallH a0 a1 a2 a3 a4 b0 b1 b2 b3 b4
   obtain ⟨A2,cap2,rfl,hA2,hrow2,_⟩:=hov2.row
   have hov2H:Hid (Own w2 (w.heap.size+1+1) (Z A2 (bn a b (k+1)).length cap2) (bn a b (k+1))):=hov2
   have hbelH:Hid (Below (w.heap.size+1+1) ((w.alloc (H #[S I a.c0,S I a.c1,S I a.c2,S I a.c3,Z A a.l.length ca] 39)).alloc (H #[S I b.c0,S I b.c1,S I b.c2,S I b.c3,Z B b.l.length cb] 39)) w2):=hbel.trans hb2
   clear hov2 hbel hb2
   by_cases h400:400<(bn a b (k+1)).length
   ·have h400z:(400:Int)<((bn a b (k+1)).length:Int):=by omega
    have hfin:Hid (fF a b=2∧gp a b=[]):=qL (by omega) h400
    go_wp2
    go_ret2
    rw[hfin.out.1,hfin.out.2]
    exact ⟨none,0,rfl,oL rfl,fun _=>rfl,(fun x hx=>by cases hx),hbw1.out.trans (hbelH.out.mono (by omega))⟩
   ·have h400z:¬(400:Int)<((bn a b (k+1)).length:Int):=by omega
    go_wp2
    go_roundw
    case rel=>exact ⟨k+1,by omega,by go_num,by omega,hov2H.out,hbelH.out⟩
    case measure=>simp[intOf];omega
  ·obtain rfl:k=4:=by omega
   have hfin:Hid (fF a b=0∧gp a b=bn a b 4):=by
    exact ⟨by unfold fF;rw[if_neg (by omega)],by unfold gp;rw[if_neg (by omega)]⟩
   have hovH:Hid (Row wr A1 (bn a b 4)):=hrow1
   have hnew:Hid (∀x,A1=some x→w.heap.size≤x.block):=fun x hx=>by have:=(hlt1 x hx).1;omega
   clear a0 a1 a2 a3 a4 b0 b1 b2 b3 b4
   go_wp2
   go_ret2
   rw[hfin.out.1,hfin.out.2]
   exact ⟨A1,cap1,rfl,hovH.out,hA1,hnew.out,hbw1.out.trans (hbel.mono (by omega))⟩

theorem ClkAt.belowB {w w':World} {B N:Nat} {x0 x1 x2 x3:Int} (h:ClkAt w B x0 x1 x2 x3) (k:Below N w w') (hB:B<N):ClkAt w' B x0 x1 x2 x3 :=
 ⟨(k.cell (p:=⟨B,0,none⟩) hB).trans h.k0,(k.cell (p:=⟨B,1,none⟩) hB).trans h.k1,(k.cell (p:=⟨B,2,none⟩) hB).trans h.k2,(k.cell (p:=⟨B,3,none⟩) hB).trans h.k3,fun j=>(k.frozen (p:=⟨B,j,none⟩) hB).trans (h.fz j),nL h.lt k.size⟩
theorem ClkAt.below {w w':World} {B:Nat} {x0 x1 x2 x3:Int} (h:ClkAt w B x0 x1 x2 x3) (k:Below w.heap.size w w'):ClkAt w' B x0 x1 x2 x3:=h.belowB k h.lt

def gn (b:Ctx) (d:Int×Int):Ctx:=if inB d.1 0 3 && decide (1≤d.2) then setClk b d.1 (min (clk b d.1) (d.2-1)) else b
theorem gH {b:Ctx} {d:Int×Int} (h:al d=true):gn b d=setClk b d.1 (min (clk b d.1) (d.2-1)):=by
 have:(inB d.1 0 3 && decide (1≤d.2))=true:=by
  unfold al inB at h
  simp only[Bool.and_eq_true,decide_eq_true_eq] at h
  simp[inB];omega
 unfold gn
 rw[if_pos this]
def bm (c:Ctx) (l:List (Int×Int)) (k:Nat):Ctx:=(l.take k).foldl gn ⟨c.c0,c.c1,c.c2,c.c3,l⟩
theorem qD {c:Ctx} {l:List (Int×Int)} {k:Nat} (h:k<l.length) {x:Int×Int} (hx:l[k]=x):bm c l (k+1)=gn (bm c l k) x:=by
 unfold bm
 rw[List.take_succ_eq_append_getElem h,List.foldl_append,hx]
 rfl
def bV (c:Ctx) (l:List (Int×Int)):Ctx:=l.foldl gn ⟨c.c0,c.c1,c.c2,c.c3,l⟩
theorem xk (b:Ctx) (d:Int×Int):(gn b d).l=b.l:=by
 unfold gn
 by_cases h:(inB d.1 0 3 && decide (1≤d.2))=true
 ·rw[if_pos h,dZ]
 ·rw[if_neg h]
theorem sE (m:List (Int×Int)):∀b:Ctx,(m.foldl gn b).l=b.l:=by
 induction m with
 | nil=>intro b;rfl
 | cons d m ih=>intro b;rw[List.foldl_cons,ih,xk]
theorem qC (c:Ctx) (l:List (Int×Int)):(bV c l).l=l:=by unfold bV;rw[sE]
theorem uZ {b:Ctx} {d:Int×Int} (hb:bw b=true) (hd:al d=true):bw (gn b d)=true:=by
 rw[gH hd]
 unfold al inB at hd
 simp only[Bool.and_eq_true,decide_eq_true_eq] at hd
 obtain ⟨⟨h0,h3⟩,h1,h2⟩:=hd
 have hx:d.1=0∨d.1=1∨d.1=2∨d.1=3:=by omega
 obtain ⟨x,y⟩:=d
 simp only at hx h0 h3 h1 h2
 unfold bw inB at hb ⊢
 simp only[Bool.and_eq_true,decide_eq_true_eq] at hb ⊢
 rcases hx with rfl|rfl|rfl|rfl<;>simp[setClk,clk]<;>omega
theorem rM {c:Ctx} {l:List (Int×Int)} (hc:bw c=true) (hl:∀x∈l,al x=true):bw (bV c l)=true:=by
 unfold bV
 have:∀(m:List (Int×Int)) (b:Ctx),bw b=true→(∀x∈m,al x=true)→bw (m.foldl gn b)=true:=by
  intro m
  induction m with
  | nil=>intro b hb _;exact hb
  | cons d m ih=>intro b hb hm;rw[List.foldl_cons];exact ih _ (uZ hb (hm d (by simp))) (fun x hx=>hm x (by simp[hx]))
 exact this l _ hc hl
def woE (c:Ctx) (l:List (Int×Int)):Int:=if aO c≠0 then aO c else fF c (bV c l)
def woC (c:Ctx) (l:List (Int×Int)):Ctx:=if woE c l=0 then ⟨(bV c l).c0,(bV c l).c1,(bV c l).c2,(bV c l).c3,gp c (bV c l)⟩ else aH

theorem pT (c:Ctx) (l:List (Int×Int)) (A L:Option Addr) (ca cl:Nat) (w:World) (hl:c.l.length≤maxLen) (hll:l.length≤400) (hri:∀x∈l,al x=true) (hr:Row w A c.l) (hrl:Row w L l) :
  Calls X 109 #[R #[S I c.c0,S I c.c1,S I c.c2,S I c.c3,Z A c.l.length ca],Z L l.length cl] w fun e w'=>∃C cp,e= .returned (Y #[R #[S I (woC c l).c0,S I (woC c l).c1,S I (woC c l).c2,S I (woC c l).c3,Z C (woC c l).l.length cp],S I (woE c l)])∧Row w' C (woC c l).l∧(C=none→cp=0)∧(∀x,C=some x→w.heap.size≤x.block)∧Below w.heap.size w w':=by
 have mixed:Tryz.prog.follows .mixedOrders=true:=by kernel_rfl
 have hg0:Gr w ((w.alloc (H #[S I c.c0,S I c.c1,S I c.c2,S I c.c3,Z A c.l.length ca] 39)).alloc (H #[S I 0,S I 0,S I 0,S I 0,Z none 0 0] 39)):=((gR w).alloc _).alloc _
 have hc0:CtxAt ((w.alloc (H #[S I c.c0,S I c.c1,S I c.c2,S I c.c3,Z A c.l.length ca] 39)).alloc (H #[S I 0,S I 0,S I 0,S I 0,Z none 0 0] 39)) w.heap.size c A ca:=(CtxAt.new 39 hr rfl).gr ((gR _).alloc _)
 have hz0:ZAt ((w.alloc (H #[S I c.c0,S I c.c1,S I c.c2,S I c.c3,Z A c.l.length ca] 39)).alloc (H #[S I 0,S I 0,S I 0,S I 0,Z none 0 0] 39)) (w.heap.size+1):=ZAt.new _ 39 (by simp)
 have hck:=eO c A ca _ hl hc0.row
 have hckH:Hid _:=hck
 clear hck
 go_enter Tryz.func109,Tryz.ntmps109
 go_wp2_with fail
 refine cM (show Calls _ _ _ _ _ from hckH.out) ?_
 rintro e w1 ⟨rfl,hg1⟩
 clear hckH
 have hc1:=hc0.gr hg1
 have hz1:=hz0.below hg1.below
 have hbw1:Below w.heap.size w w1:=(hg0.trans hg1).below
 have hrl1:=hrl.gr (hg0.trans hg1)
 clear hg0 hc0 hz0 hg1 hr hrl
 obtain ⟨E1,hE1⟩:∃E,aO c=E:=⟨_,rfl⟩
 rw[hE1]
 by_cases h1:E1=0
 ·subst h1
  have heH:Hid (aO c=0):=hE1
  clear hE1
  obtain ⟨c0,c1,c2,c3,c4,clt,crow⟩:=(show CtxAt _ _ _ _ _ from hc1)
  have hk1:ClkAt (w1.alloc (H #[S I c.c0,S I c.c1,S I c.c2,S I c.c3] 36)) w1.heap.size c.c0 c.c1 c.c2 c.c3:=⟨ab (gR _) rfl,ab (gR _) rfl,ab (gR _) rfl,ab (gR _) rfl,fun j=>eC (gR _) j,by simp⟩
  have hb1:Below w1.heap.size w1 (w1.alloc (H #[S I c.c0,S I c.c1,S I c.c2,S I c.c3] 36)):=((gR _).alloc _).below
  go_wp2
  generalize w1.alloc (H #[S I c.c0,S I c.c1,S I c.c2,S I c.c3] 36)=w2 at hk1 hb1 ⊢
  have hcH:Hid (CtxAt w1 w.heap.size c A ca):=hc1
  clear c0 c1 c2 c3 c4 clt crow hc1
  go_loopw [22] (fun i wr=>∃k:Nat,k≤l.length∧i= S I k∧ClkAt wr w1.heap.size (bm c l k).c0 (bm c l k).c1 (bm c l k).c2 (bm c l k).c3∧Below w1.heap.size w1 wr) (fun i _=>l.length-(intOf i).toNat)
  case atStart=>exact ⟨0,by omega,rfl,hk1,hb1⟩
  case round =>
   obtain ⟨k,hk,rfl,hat,hbel⟩:=hrel
   have hsR:=hbel.size
   have hltR:=hat.lt
   by_cases hlt:k<l.length
   ·have hltz:(k:Int)<(l.length:Int):=by omega
    obtain ⟨bb,off,rfl,hbb,hcs⟩:=(hrl1.below hbel).at hlt
    obtain ⟨⟨x,y⟩,hx⟩:∃x,l[k]=x:=⟨_,rfl⟩
    obtain ⟨e0,e1⟩:=hcs k hlt
    rw[hx] at e0 e1
    have hst:=qD (c:=c) hlt hx
    have hrx:=hri _ (gM hlt)
    rw[hx] at hrx
    rw[gH hrx] at hst
    have hrb:(0≤x∧x≤3)∧1≤y∧y≤1099511627776:=by
     unfold al inB at hrx
     simpa only[Bool.and_eq_true,decide_eq_true_eq] using hrx
    obtain ⟨⟨hx0,hx3⟩,hy1,hy2⟩:=hrb
    obtain ⟨B,HB⟩:∃B,bm c l k=B:=⟨_,rfl⟩
    rw[HB] at hat hst
    have hstH:Hid (bm c l (k+1)=setClk B x (min (clk B x) (y-1))):=hst
    have hgD:Gr wr (wr.alloc (H #[S I x,S I y] 83)):=(gR _).alloc _
    have hd0:=(DotAt.new (w:=wr) (x:=x) (y:=y) 83 rfl)
    have hatD:ClkAt (wr.alloc (H #[S I x,S I y] 83)) w1.heap.size B.c0 B.c1 B.c2 B.c3:=hat.below hgD.below
    have hbD:Below w1.heap.size w1 (wr.alloc (H #[S I x,S I y] 83)):=hbel.trans (hgD.below.mono hsR)
    have hatH:Hid (ClkAt wr w1.heap.size B.c0 B.c1 B.c2 B.c3):=hat
    clear hcs hx hrx HB hat hst
    obtain ⟨d0,d1,dlt⟩:=(show DotAt _ _ _ _ from hd0)
    obtain ⟨q0,q1,q2,q3,qf,qlt⟩:=(show ClkAt _ _ _ _ _ _ from hatD)
    have h4:x=0∨x=1∨x=2∨x=3:=by omega
    rcases h4 with rfl|rfl|rfl|rfl
    ·go_wp2_with (first|(go_at_call 64;refine (cR _ _).mono ?_;rintro e w' ⟨rfl,rfl⟩)|fail)
     generalize wr.alloc (H #[S I 0,S I y] 83)=wD at hatD hbD hd0 d0 d1 dlt q0 q1 q2 q3 qf qlt ⊢
     by_cases hgt:B.c0≤y-1
     ·have hmx:min B.c0 (y-1)=B.c0:=by omega
      have h5H:Hid (ClkAt ((wD.setCell ⟨w1.heap.size,0,none⟩ (S I B.c0)).drew) w1.heap.size (bm c l (k+1)).c0 (bm c l (k+1)).c1 (bm c l (k+1)).c2 (bm c l (k+1)).c3):=by
       show ClkAt _ _ _ _ _ _
       have h5:=(hatD.set 0 B.c0).below (bR _ _).drew
       rw[hstH.out]
       simpa[setClk,clk,hmx] using h5
      have hb5:Hid (Below w1.heap.size w1 ((wD.setCell ⟨w1.heap.size,0,none⟩ (S I B.c0)).drew)):=(hbD.setCell (nR _) _).drew
      clear hatD hbD
      go_region
      go_wp2
      go_roundw
      case rel=>exact ⟨k+1,by omega,by go_num,h5H.out,hb5.out⟩
      case measure=>simp[intOf];omega
     ·have hmx:min B.c0 (y-1)=(y-1):=by omega
      have h5H:Hid (ClkAt ((wD.setCell ⟨w1.heap.size,0,none⟩ (S I (y-1))).drew) w1.heap.size (bm c l (k+1)).c0 (bm c l (k+1)).c1 (bm c l (k+1)).c2 (bm c l (k+1)).c3):=by
       show ClkAt _ _ _ _ _ _
       have h5:=(hatD.set 0 (y-1)).below (bR _ _).drew
       rw[hstH.out]
       simpa[setClk,clk,hmx] using h5
      have hb5:Hid (Below w1.heap.size w1 ((wD.setCell ⟨w1.heap.size,0,none⟩ (S I (y-1))).drew)):=(hbD.setCell (nR _) _).drew
      clear hatD hbD
      go_region
      go_wp2
      go_roundw
      case rel=>exact ⟨k+1,by omega,by go_num,h5H.out,hb5.out⟩
      case measure=>simp[intOf];omega
    ·go_wp2_with (first|(go_at_call 64;refine (cR _ _).mono ?_;rintro e w' ⟨rfl,rfl⟩)|fail)
     generalize wr.alloc (H #[S I 1,S I y] 83)=wD at hatD hbD hd0 d0 d1 dlt q0 q1 q2 q3 qf qlt ⊢
     by_cases hgt:B.c1≤y-1
     ·have hmx:min B.c1 (y-1)=B.c1:=by omega
      have h5H:Hid (ClkAt ((wD.setCell ⟨w1.heap.size,1,none⟩ (S I B.c1)).drew) w1.heap.size (bm c l (k+1)).c0 (bm c l (k+1)).c1 (bm c l (k+1)).c2 (bm c l (k+1)).c3):=by
       show ClkAt _ _ _ _ _ _
       have h5:=(hatD.set 1 B.c1).below (bR _ _).drew
       rw[hstH.out]
       simpa[setClk,clk,hmx] using h5
      have hb5:Hid (Below w1.heap.size w1 ((wD.setCell ⟨w1.heap.size,1,none⟩ (S I B.c1)).drew)):=(hbD.setCell (nR _) _).drew
      clear hatD hbD
      go_region
      go_wp2
      go_roundw
      case rel=>exact ⟨k+1,by omega,by go_num,h5H.out,hb5.out⟩
      case measure=>simp[intOf];omega
     ·have hmx:min B.c1 (y-1)=(y-1):=by omega
      have h5H:Hid (ClkAt ((wD.setCell ⟨w1.heap.size,1,none⟩ (S I (y-1))).drew) w1.heap.size (bm c l (k+1)).c0 (bm c l (k+1)).c1 (bm c l (k+1)).c2 (bm c l (k+1)).c3):=by
       show ClkAt _ _ _ _ _ _
       have h5:=(hatD.set 1 (y-1)).below (bR _ _).drew
       rw[hstH.out]
       simpa[setClk,clk,hmx] using h5
      have hb5:Hid (Below w1.heap.size w1 ((wD.setCell ⟨w1.heap.size,1,none⟩ (S I (y-1))).drew)):=(hbD.setCell (nR _) _).drew
      clear hatD hbD
      go_region
      go_wp2
      go_roundw
      case rel=>exact ⟨k+1,by omega,by go_num,h5H.out,hb5.out⟩
      case measure=>simp[intOf];omega
    ·go_wp2_with (first|(go_at_call 64;refine (cR _ _).mono ?_;rintro e w' ⟨rfl,rfl⟩)|fail)
     generalize wr.alloc (H #[S I 2,S I y] 83)=wD at hatD hbD hd0 d0 d1 dlt q0 q1 q2 q3 qf qlt ⊢
     by_cases hgt:B.c2≤y-1
     ·have hmx:min B.c2 (y-1)=B.c2:=by omega
      have h5H:Hid (ClkAt ((wD.setCell ⟨w1.heap.size,2,none⟩ (S I B.c2)).drew) w1.heap.size (bm c l (k+1)).c0 (bm c l (k+1)).c1 (bm c l (k+1)).c2 (bm c l (k+1)).c3):=by
       show ClkAt _ _ _ _ _ _
       have h5:=(hatD.set 2 B.c2).below (bR _ _).drew
       rw[hstH.out]
       simpa[setClk,clk,hmx] using h5
      have hb5:Hid (Below w1.heap.size w1 ((wD.setCell ⟨w1.heap.size,2,none⟩ (S I B.c2)).drew)):=(hbD.setCell (nR _) _).drew
      clear hatD hbD
      go_region
      go_wp2
      go_roundw
      case rel=>exact ⟨k+1,by omega,by go_num,h5H.out,hb5.out⟩
      case measure=>simp[intOf];omega
     ·have hmx:min B.c2 (y-1)=(y-1):=by omega
      have h5H:Hid (ClkAt ((wD.setCell ⟨w1.heap.size,2,none⟩ (S I (y-1))).drew) w1.heap.size (bm c l (k+1)).c0 (bm c l (k+1)).c1 (bm c l (k+1)).c2 (bm c l (k+1)).c3):=by
       show ClkAt _ _ _ _ _ _
       have h5:=(hatD.set 2 (y-1)).below (bR _ _).drew
       rw[hstH.out]
       simpa[setClk,clk,hmx] using h5
      have hb5:Hid (Below w1.heap.size w1 ((wD.setCell ⟨w1.heap.size,2,none⟩ (S I (y-1))).drew)):=(hbD.setCell (nR _) _).drew
      clear hatD hbD
      go_region
      go_wp2
      go_roundw
      case rel=>exact ⟨k+1,by omega,by go_num,h5H.out,hb5.out⟩
      case measure=>simp[intOf];omega
    ·go_wp2_with (first|(go_at_call 64;refine (cR _ _).mono ?_;rintro e w' ⟨rfl,rfl⟩)|fail)
     generalize wr.alloc (H #[S I 3,S I y] 83)=wD at hatD hbD hd0 d0 d1 dlt q0 q1 q2 q3 qf qlt ⊢
     by_cases hgt:B.c3≤y-1
     ·have hmx:min B.c3 (y-1)=B.c3:=by omega
      have h5H:Hid (ClkAt ((wD.setCell ⟨w1.heap.size,3,none⟩ (S I B.c3)).drew) w1.heap.size (bm c l (k+1)).c0 (bm c l (k+1)).c1 (bm c l (k+1)).c2 (bm c l (k+1)).c3):=by
       show ClkAt _ _ _ _ _ _
       have h5:=(hatD.set 3 B.c3).below (bR _ _).drew
       rw[hstH.out]
       simpa[setClk,clk,hmx] using h5
      have hb5:Hid (Below w1.heap.size w1 ((wD.setCell ⟨w1.heap.size,3,none⟩ (S I B.c3)).drew)):=(hbD.setCell (nR _) _).drew
      clear hatD hbD
      go_region
      go_wp2
      go_roundw
      case rel=>exact ⟨k+1,by omega,by go_num,h5H.out,hb5.out⟩
      case measure=>simp[intOf];omega
     ·have hmx:min B.c3 (y-1)=(y-1):=by omega
      have h5H:Hid (ClkAt ((wD.setCell ⟨w1.heap.size,3,none⟩ (S I (y-1))).drew) w1.heap.size (bm c l (k+1)).c0 (bm c l (k+1)).c1 (bm c l (k+1)).c2 (bm c l (k+1)).c3):=by
       show ClkAt _ _ _ _ _ _
       have h5:=(hatD.set 3 (y-1)).below (bR _ _).drew
       rw[hstH.out]
       simpa[setClk,clk,hmx] using h5
      have hb5:Hid (Below w1.heap.size w1 ((wD.setCell ⟨w1.heap.size,3,none⟩ (S I (y-1))).drew)):=(hbD.setCell (nR _) _).drew
      clear hatD hbD
      go_region
      go_wp2
      go_roundw
      case rel=>exact ⟨k+1,by omega,by go_num,h5H.out,hb5.out⟩
      case measure=>simp[intOf];omega
   ·have hltz:¬(k:Int)<(l.length:Int):=by omega
    have hkl:bm c l k=bV c l:=by unfold bm bV;rw[List.take_of_length_le (by omega)]
    rw[hkl] at hat
    have hcR:=hcH.out.below hbel
    have hzR:=hz1.below hbel
    have hrlR:=hrl1.below hbel
    have hbwR:Below w.heap.size w wr:=hbw1.trans (hbel.mono hbw1.size)
    have hls:(bV c l).l=l:=qC c l
    have hok:=bE heH.out
    have hokL:=rM hok.1 hri
    have hrL:Row wr L (bV c l).l:=by rw[hls];exact hrlR
    have hLl:(bV c l).l.length≤400:=by rw[hls];exact hll
    obtain ⟨c0,c1,c2,c3,c4,clt,crow⟩:=(show CtxAt _ _ _ _ _ from hcR)
    obtain ⟨q0,q1,q2,q3,qf,qlt⟩:=(show ClkAt _ _ _ _ _ _ from hat)
    have hwoH:Hid (woE c l=fF c (bV c l)∧woC c l=if fF c (bV c l)=0 then ⟨(bV c l).c0,(bV c l).c1,(bV c l).c2,(bV c l).c3,gp c (bV c l)⟩ else aH):=by
     have h2:woE c l=fF c (bV c l):=by unfold woE;rw[heH.out];simp
     exact ⟨h2,by unfold woC;rw[h2]⟩
    clear hkl hcH
    obtain ⟨B,HB⟩:∃B,bV c l=B:=⟨_,rfl⟩
    rw[HB] at hat hls hokL hrL hLl q0 q1 q2 q3 hwoH
    have hms:=pm c B A L ca cl wr hok.1 hokL hok.2.1 hLl crow hrL
    rw[hls] at hms
    have hmsH:Hid _:=hms
    have hatK:Hid (ClkAt wr w1.heap.size B.c0 B.c1 B.c2 B.c3):=hat
    have HBH:Hid (bV c l=B):=HB
    clear hms hat crow hrL HB hok hokL hls
    go_wp2_with fail
    refine cM (show Calls _ _ _ _ _ from hmsH.out) ?_
    rintro e w3 ⟨C,cp,rfl,hrC,hC0,hCb,hb3⟩
    clear hmsH c0 c1 c2 c3 c4 q0 q1 q2 q3 qf
    have hat3:=hatK.out.below hb3
    have hz3:=hzR.below hb3
    have hbw3:Below w.heap.size w w3:=hbwR.trans (hb3.mono hbwR.size)
    have hz1lt:=hz1.lt
    have hCn:Hid (∀x,C=some x→x.block≠w.heap.size+1):=fun x hx=>by have:=hCb x hx;have:=hbel.size;omega
    have hCb3:Hid (∀x,C=some x→w.heap.size≤x.block):=fun x hx=>nT hbwR.size (hCb x hx)
    obtain ⟨M,HM⟩:∃M,gp c B=M:=⟨_,rfl⟩
    obtain ⟨E3,HE⟩:∃E,fF c B=E:=⟨_,rfl⟩
    rw[HM] at hrC hwoH ⊢
    rw[HE] at hwoH ⊢
    clear HM HE hatK hzR hCb
    by_cases h3:E3=0
    ·subst h3
     have hfin:Hid (woE c l=0∧woC c l=⟨B.c0,B.c1,B.c2,B.c3,M⟩):=⟨hwoH.out.1,by rw[hwoH.out.2,if_pos rfl]⟩
     obtain ⟨q0,q1,q2,q3,qf,qlt3⟩:=(show ClkAt _ _ _ _ _ _ from hat3)
     obtain ⟨z0,z1,z2,z3,z4,zf,zlt⟩:=(show ZAt _ _ from hz3)
     have hrCH:Hid (Row w3 C M):=hrC
     have hbw:Hid (Below w.heap.size w w3):=hbw3
     clear hrC hbw3 hwoH
     go_wp2
     rw[hfin.out.1,hfin.out.2]
     have h1:=hCn.out
     exact bodyPost_ret (v:= Y #[R #[S I B.c0,S I B.c1,S I B.c2,S I B.c3,Z C M.length cp],S I 0]) (by simp[results,Tryz.results109,go_sem,z0,z1,z2,z3,z4]) rfl ⟨C,cp,rfl,((((hrCH.out.setCell _ h1).setCell _ h1).setCell _ h1).setCell _ h1).setCell _ h1,hC0,hCb3.out,aZ hbw.out (by omega) _ _ _ _ _⟩
    ·have hfin:Hid (woE c l=E3∧woC c l=aH):=⟨hwoH.out.1,by rw[hwoH.out.2,if_neg h3]⟩
     have heb:(E3 != 0)=true:=by simpa using h3
     obtain ⟨z0,z1,z2,z3,z4,zf,zlt⟩:=(show ZAt _ _ from hz3)
     have hbw:Hid (Below w.heap.size w w3):=hbw3
     clear hrC hbw3 hwoH h3
     go_wp2
     rw[hfin.out.1,hfin.out.2]
     exact bodyPost_ret (v:= Y #[R #[S I 0,S I 0,S I 0,S I 0,Z none 0 0],S I E3]) (by simp[results,Tryz.results109,go_sem,z0,z1,z2,z3,z4]) rfl ⟨none,0,rfl,oL rfl,fun _=>rfl,(fun x hx=>by cases hx),aZ hbw.out (by omega) _ _ _ _ _⟩
 ·have hfin:Hid (woE c l=E1∧woC c l=aH):=by
   have h2:woE c l=E1:=by unfold woE;rw[hE1,if_pos h1]
   exact ⟨h2,by unfold woC;rw[h2,if_neg h1]⟩
  have heb:(E1 != 0)=true:=by simpa using h1
  clear h1 hE1
  obtain ⟨z0,z1,z2,z3,z4,zf,zlt⟩:=(show ZAt _ _ from hz1)
  have hbw:Hid (Below w.heap.size w w1):=hbw1
  go_wp2
  rw[hfin.out.1,hfin.out.2]
  exact bodyPost_ret (v:= Y #[R #[S I 0,S I 0,S I 0,S I 0,Z none 0 0],S I E1]) (by simp[results,Tryz.results109,go_sem,z0,z1,z2,z3,z4]) rfl ⟨none,0,rfl,oL rfl,fun _=>rfl,(fun x hx=>by cases hx),aZ hbw.out (by omega) _ _ _ _ _⟩


def cw (c:Ctx) (x:Cel):Bool:=ae c x.1
def fG (c:Ctx) (l:List Cel):List Cel:=l.filter fun x=> !cw c x
def bF (t:Tab) (c:Ctx):Int:=if am t≠0 then am t else if aO c≠0 then aO c else woE t.c (aq (cw c) t.e)
def bU (t:Tab) (c:Ctx):Tab:=if bF t c=0 then ⟨woC t.c (aq (cw c) t.e),fG c t.e⟩ else ⟨aH,[]⟩
theorem nx {t:Tab} {c:Ctx} {E:Int} (h:bF t c=E) (h0:E≠0):bF t c=E∧bU t c=⟨aH,[]⟩:=⟨h,by unfold bU;rw[h,if_neg h0]⟩

theorem qM {c:Ctx} {l:List Cel} {k:Nat} (h:k<l.length) {x:Cel} (hx:l[k]=x):fG c (l.take (k+1))=fG c (l.take k)++(if cw c x then [] else [x]):=by
 unfold fG
 rw[gC h hx]
 cases cw c x<;>simp
theorem sV (c:Ctx) (l:List Cel):(fG c l).length≤l.length:=List.length_filter_le _ _

theorem m8 {t:Tab} (h:am t=0) (p:Cel→Bool):∀x∈aq p t.e,al x=true:=by
 intro x hx
 obtain ⟨y,hy,rfl⟩:=List.mem_map.1 hx
 exact jK (cO (af h).1) (bK h (List.mem_filter.1 hy).1)

def eH (v u:Value):Prop:=∀g,v.ownBlock=some g→u.ownBlock=some g→False
theorem eH.symm {v u:Value} (h:eH v u):eH u v:=fun g h1 h2=>h g h2 h1
theorem eH.ne {v u:Value} (h:eH v u):v.ownBlock=none∨v.ownBlock≠u.ownBlock:=by
 cases hv:v.ownBlock with
 | none=>exact oL rfl
 | some g=>exact oR fun e=>h g hv e.symm
theorem eH.grown {v v' u:Value} {N:Nat} (h:eH v u) (hv:v'.ownBlock=v.ownBlock∨v'.ownBlock=some N) (hu:∀g,u.ownBlock=some g→g<N):eH v' u:=by
 intro g h1 h2
 rcases hv with e|e
 ·exact h g (e▸h1) h2
 ·rw[e] at h1
  have:=hu g h2
  have:=sI h1
  omega

theorem jB (w:World) {ops:Array Oper} {rest:List Oper} {o:Oper} {a:Act} {Q:Exit→Act→World→Prop} (hgd:o.guard=none) (s x:Operand)
  (ho:o.op= .call { callee:= .builtin .append,args:= #[s,x],argTypes:= #[40,40] })
  (base:Nat) (v:Value) (l m:List Cel) (ad:Addr) (cap:Nat) (hs:a.eval s=v) (hx:a.eval x= Z (some ad) m.length cap) (hown:dv w base v l) (hr:bA w (some ad) m)
  (hml:l.length+m.length≤maxLen) (hb:(l.length+m.length)*40≤140737488355328) (hbase:base≤w.heap.size)
  (h:∀v' w',dv w' base v' (l++m)→w.grownBy w' v.ownBlock→(v'.ownBlock=v.ownBlock∨v'.ownBlock=some w.heap.size)→wpList X ops Q rest (a.put o.dst v') w'):wpList X ops Q (o::rest) a w :=
 wpList_plain hgd fun K hK=>by
  obtain ⟨i0,hi,hz0,hz1,hz2⟩:=info_parts Tryz.infoC
  obtain ⟨v',w',g1,g2,g3,_,g5⟩:=run_append_own_at (P:=X) w base 40 o.type 85 i0 (R #[S I 0,S I 0,S I 0,S I 0,S I 0]) 5 40 Tryz.underlying40 hi hz0 hz1 hz2 rfl (by omega) v l.length (aI gu l) hown ad m.length cap (aI gu m) (bu dw m) (hr.cells dw (by omega)) (fun u hu=>dL kV u m hu) hml hb hbase
  have h2:dv w' base v' (l++m):=by
   show w'.ownsRow base _ 5 v' (l++m).length (aI gu (l++m))
   rw[List.length_append,cE]
   exact g2
  unfold Oper.wp execOp
  simp only[ho,resolve,invoke,builtin,Sem.run_bind,Sem.run_pure,Result.andThen_ok,List.map_toArray,List.map_cons,List.map_nil,hs,hx,g1]
  exact hK _ _ (h v' w' h2 g3 g5)

structure SinceAt (w W:World) (t:Tab) (c:Ctx) (A:Option Addr) (ca:Nat) (D:Option Addr) (cd:Nat) (B:Option Addr) (cb:Nat):Prop where
 ta:TabAt W w.heap.size t A ca D cd
 tc:CtxAt W (w.heap.size+1) c B cb
 res:wA W (w.heap.size+1+1)
 hw:Below w.heap.size w W
theorem SinceAt.below {w W W':World} {t:Tab} {c:Ctx} {A B D:Option Addr} {ca cb cd:Nat} (h:SinceAt w W t c A ca D cd B cb) (k:Below W.heap.size W W'):SinceAt w W' t c A ca D cd B cb :=
 ⟨h.ta.below k,h.tc.below k,h.res.below k,h.hw.trans (k.mono h.hw.size)⟩
theorem SinceAt.gr {w W W':World} {t:Tab} {c:Ctx} {A B D:Option Addr} {ca cb cd:Nat} (h:SinceAt w W t c A ca D cd B cb) (k:Gr W W'):SinceAt w W' t c A ca D cd B cb:=h.below k.below

theorem ny (t:Tab) (c:Ctx) (A B D:Option Addr) (ca cb cd:Nat) (w:World) (htl:t.c.l.length≤maxLen) (hcl:c.l.length≤maxLen) (htel:t.e.length≤maxLen) (hra:Row w A t.c.l) (hrb:Row w B c.l) (hrd:bA w D t.e) :
  Calls X 73 #[R (T6 t A ca D cd).toArray,R #[S I c.c0,S I c.c1,S I c.c2,S I c.c3,Z B c.l.length cb]] w fun e w'=>∃E ce F cf,e= .returned (Y #[R (T6 (bU t c) E ce F cf).toArray,S I (bF t c)])∧Row w' E (bU t c).c.l∧bA w' F (bU t c).e∧(E=none→ce=0)∧(F=none→cf=0)∧Below w.heap.size w w'∧(∀x,E=some x→w.heap.size≤x.block)∧(∀x,F=some x→w.heap.size≤x.block):=by
 have hF0:SinceAt w (((w.alloc (H #[S I t.c.c0,S I t.c.c1,S I t.c.c2,S I t.c.c3,Z A t.c.l.length ca,Z D t.e.length cd] 42)).alloc (H #[S I c.c0,S I c.c1,S I c.c2,S I c.c3,Z B c.l.length cb] 39)).alloc (H #[S I 0,S I 0,S I 0,S I 0,Z none 0 0,Z none 0 0] 42)) t c A ca D cd B cb :=
  ⟨(TabAt.new 42 hra hrd rfl).gr (((gR _).alloc _).alloc _),(CtxAt.new 39 (hrb.gr ((gR _).alloc _)) (by simp)).gr ((gR _).alloc _),Six.new _ _ _ _ _ _ _ 42 (by simp),((((gR w).alloc _).alloc _).alloc _).below⟩
 have hlH:Hid (t.c.l.length≤maxLen∧c.l.length≤maxLen∧t.e.length≤maxLen):=⟨htl,hcl,htel⟩
 have hck:=ef t A ca D cd _ htl htel hF0.ta.row hF0.ta.rowC
 have hckH:Hid _:=hck
 clear hck htl hcl htel hra hrb hrd
 go_enter Tryz.func73,Tryz.ntmps73
 go_wp2_with fail
 refine cM (show Calls _ _ _ _ _ from hckH.out) ?_
 rintro e w1 ⟨rfl,hg1⟩
 clear hckH
 have hF1:=hF0.gr hg1
 clear hF0 hg1
 obtain ⟨E1,hE1⟩:∃E,am t=E:=⟨_,rfl⟩
 rw[hE1]
 by_cases h1:E1=0
 ·subst h1
  have heA:Hid (am t=0):=hE1
  clear hE1
  obtain ⟨b0,b1,b2,b3,b4,blt,brow⟩:=(show CtxAt _ _ _ _ _ from hF1.tc)
  have hck:=eO c B cb w1 hlH.out.2.1 brow
  have hckH:Hid _:=hck
  clear hck brow
  go_wp2_with fail
  refine cM (show Calls _ _ _ _ _ from hckH.out) ?_
  rintro e w2 ⟨rfl,hg2⟩
  clear hckH b0 b1 b2 b3 b4 blt
  have hF2:=hF1.gr hg2
  clear hF1 hg2
  obtain ⟨E2,hE2⟩:∃E,aO c=E:=⟨_,rfl⟩
  rw[hE2]
  by_cases h2:E2=0
  ·subst h2
   have heB:Hid (aO c=0):=hE2
   clear hE2
   have a5:=hF2.ta.k5
   have hel4:t.e.length≤400:=(af heA.out).2.1
   go_wp2
   clear a5
   go_loopw [8,9,29] (fun v u i wr=>∃k:Nat,k≤t.e.length∧i= S I k∧dv wr w2.heap.size v (fG c (t.e.take k))∧Own wr w2.heap.size u (aq (cw c) (t.e.take k))∧eH v u∧Below w2.heap.size w2 wr) (fun _ _ i _=>t.e.length-(intOf i).toNat)
   case atStart=>exact ⟨0,by omega,rfl,ai.nil _ _ _ _ _,Own.nil _ _,(fun g h=>by cases h),bR _ _⟩
   case round =>
    obtain ⟨k,hk,rfl,hov,hou,hap,hbel⟩:=hrel
    have hFR:=hF2.below hbel
    have hsR:w2.heap.size≤wr.heap.size:=hbel.size
    by_cases hlt:k<t.e.length
    ·have hltz:(k:Int)<(t.e.length:Int):=by omega
     obtain ⟨bb,off,rfl,hbb,hcs⟩:=bA.get hFR.ta.rowC hlt
     obtain ⟨x,hx⟩:∃x,t.e[k]=x:=⟨_,rfl⟩
     obtain ⟨e0,e1,e2,e3,e4⟩:=hcs k hlt
     rw[hx] at e0 e1 e2 e3 e4
     have hst:=qM (c:=c) hlt hx
     have hst':=k7 (p:=cw c) hlt hx
     clear hcs hx
     obtain ⟨M,HM⟩:∃M,fG c (t.e.take k)=M:=⟨_,rfl⟩
     have hMl:M.length≤400:=by rw[←HM];exact nT (sV _ _) (by rw[List.length_take];omega)
     obtain ⟨N,HN⟩:∃N,aq (cw c) (t.e.take k)=N:=⟨_,rfl⟩
     have hNl:N.length≤400:=by rw[←HN];exact nT (dH _ _) (by rw[List.length_take];omega)
     rw[HM] at hov hst
     rw[HN] at hou hst'
     clear HM HN
     obtain ⟨A1,cap1,rfl,hA1,hrow1,hlt1⟩:=ai.row dw hov
     obtain ⟨A2,cap2,rfl,hA2,hrow2,hlt2⟩:=hou.row
     have hovH:Hid (dv wr w2.heap.size (Z A1 M.length cap1) M):=hov
     have houH:Hid (Own wr w2.heap.size (Z A2 N.length cap2) N):=hou
     have hapH:Hid (eH (Z A1 M.length cap1) (Z A2 N.length cap2)):=hap
     have hbelH:Hid (Below w2.heap.size w2 wr):=hbel
     have hgX:Gr wr (wr.alloc (H #[S I x.1.1,S I x.1.2,S I x.2.1,S I x.2.2.1,S I x.2.2.2] 85)):=(gR _).alloc _
     have hxA:=CelAt.new (w:=wr) x 85 rfl
     have hFX:=hFR.gr hgX
     obtain ⟨b0,b1,b2,b3,b4,blt,brow⟩:=(show CtxAt _ _ _ _ _ from hFX.tc)
     obtain ⟨x0,x1,x2,x3,x4,xlt⟩:=(show CelAt _ _ _ from hxA)
     have hha:=jh c B cb x.1 _ hlH.out.2.1 brow
     have hhaH:Hid _:=hha
     clear hov hou hap hbel hrow1 hrow2 hha hlt1 hlt2 hFR
     go_wp2_with fail
     refine cM (show Calls _ _ _ _ _ from hhaH.out) ?_
     rintro e w3 ⟨rfl,hg3⟩
     clear hhaH x0 x1 x2 x3 x4 b0 b1 b2 b3 b4
     have hgW:Gr wr w3:=hgX.trans hg3
     obtain ⟨x0,x1,x2,x3,x4,xlt3⟩:=(show CelAt _ _ _ from hxA.gr hg3)
     clear hFX hgX hg3 hxA xlt brow
     cases hq:ae c x.1
     ·have hst2:Hid (fG c (t.e.take (k+1))=M++[x]):=by show _=_;rw[hst,if_neg (by simp[cw,hq])]
      have hst3:Hid (aq (cw c) (t.e.take (k+1))=N):=by show _=_;rw[hst',if_neg (by simp[cw,hq])];simp
      have hbd:Hid (M.length+[x].length≤maxLen∧(M.length+[x].length)*40≤140737488355328):=by show _∧_;unfold maxLen;simp only[List.length_cons,List.length_nil];omega
      clear hst hst'
      go_wp2_with (at_builtin;refine jB _ rfl _ _ rfl w2.heap.size (Z A1 M.length cap1) M [x] ⟨w3.heap.size,0,none⟩ 1 rfl rfl ?ho ?hr hbd.out.1 hbd.out.2 ?hs ?_)
      case ho=>exact hovH.out.gr (hgW.alloc _)
      case hr=>exact jr rfl _ _
      case hs=>have:=hgW.size;simp;omega
      intro v1 w4 hown1 hgr1 hat1
      have hb3:Hid (Below w2.heap.size w2 w4):=hbelH.out.trans (((hgW.alloc _).below.mono hsR).trans (ai.grown_below (hovH.out.gr (hgW.alloc _)) hgr1 (by have:=hgW.size;simp;omega)))
      have hownH:Hid (dv w4 w2.heap.size v1 (M++[x])):=hown1
      have houX:=houH.out.gr (hgW.alloc (H #[S I x.1.1,S I x.1.2,S I x.2.1,S I x.2.2.1,S I x.2.2.2] 85))
      have hou4:Hid (Own w4 w2.heap.size (Z A2 N.length cap2) N):=World.ownsRow.kept houX hgr1 hapH.out.symm.ne
      have hap4:Hid (eH v1 (Z A2 N.length cap2)):=hapH.out.grown hat1 fun g hg=>by have:=(World.ownsRow.lt houX g hg).2;simpa using this
      clear hown1 hgr1 hat1 houX
      go_wp2
      go_roundw
      case rel=>exact ⟨k+1,by omega,by go_num,by rw[hst2.out];exact hownH.out,by rw[hst3.out];exact hou4.out,hap4.out,hb3.out⟩
      case measure=>simp[intOf];omega
     ·have hst2:Hid (fG c (t.e.take (k+1))=M):=by show _=_;rw[hst,if_pos (by simp[cw,hq])];simp
      have hst3:Hid (aq (cw c) (t.e.take (k+1))=N++[x.1]):=by show _=_;rw[hst',if_pos (by simp[cw,hq])]
      have hbd:Hid ((N.length+[x.1].length)*16≤140737488355328):=by show _≤_;simp only[List.length_cons,List.length_nil];omega
      clear hst hst'
      go_wp2_with (at_builtin;refine aF _ rfl _ _ rfl w2.heap.size (Z A2 N.length cap2) N [x.1] (some ⟨w3.heap.size,0,none⟩) 1 rfl rfl ?ho ?hr (fun h=>by cases h) hbd.out ?hs ?_)
      case ho=>exact houH.out.gr (hgW.alloc _)
      case hr=>exact gQ rfl x.1.1 x.1.2 _
      case hs=>have:=hgW.size;simp;omega
      intro v1 w4 hown1 hgr1 hat1
      have hb3:Hid (Below w2.heap.size w2 w4):=hbelH.out.trans (((hgW.alloc _).below.mono hsR).trans (Own.grown_below (houH.out.gr (hgW.alloc _)) hgr1 (by have:=hgW.size;simp;omega)))
      have hownH:Hid (Own w4 w2.heap.size v1 (N++[x.1])):=hown1
      have hovX:=hovH.out.gr (hgW.alloc (H #[S I x.1.1,S I x.1.2] 83))
      have hov4:Hid (dv w4 w2.heap.size (Z A1 M.length cap1) M):=World.ownsRow.kept hovX hgr1 hapH.out.ne
      have hap4:Hid (eH (Z A1 M.length cap1) v1):=(hapH.out.symm.grown hat1 fun g hg=>by have:=(World.ownsRow.lt hovX g hg).2;simpa using this).symm
      clear hown1 hgr1 hat1 hovX
      go_wp2
      go_roundw
      case rel=>exact ⟨k+1,by omega,by go_num,by rw[hst2.out];exact hov4.out,by rw[hst3.out];exact hownH.out,hap4.out,hb3.out⟩
      case measure=>simp[intOf];omega
    ·have hltz:¬(k:Int)<(t.e.length:Int):=by omega
     have hke:t.e.take k=t.e:=List.take_of_length_le (by omega)
     rw[hke] at hov hou
     obtain ⟨A1,cap1,rfl,hA1,hrow1,hlt1⟩:=ai.row dw hov
     obtain ⟨A2,cap2,rfl,hA2,hrow2,hlt2⟩:=hou.row
     obtain ⟨N,HN⟩:∃N,aq (cw c) t.e=N:=⟨_,rfl⟩
     have hNl:N.length≤400:=by rw[←HN];exact nT (dH _ _) hel4
     have hNr:∀x∈N,al x=true:=by rw[←HN];exact m8 heA.out _
     obtain ⟨M,HM⟩:∃M,fG c t.e=M:=⟨_,rfl⟩
     have hSE:Hid (bF t c=woE t.c N∧bU t c=if woE t.c N=0 then ⟨woC t.c N,M⟩ else ⟨aH,[]⟩):=by
      have h1:bF t c=woE t.c N:=by unfold bF;rw[heA.out,heB.out,HN];simp
      exact ⟨h1,by unfold bU;rw[h1,HN,HM]⟩
     rw[HN] at hrow2 ⊢
     rw[HM] at hrow1 ⊢
     clear HN HM hke hov hou hap
     obtain ⟨a0,a1,a2,a3,a4,a5,alt,arow,arowC⟩:=(show TabAt _ _ _ _ _ _ _ from hFR.ta)
     have hwo:=pT t.c N A A2 ca cap2 wr hlH.out.1 hNl hNr arow hrow2
     have hwoH:Hid _:=hwo
     have hs2:=hF2.res.lt
     have hA1n:Hid (∀x,A1=some x→x.block≠w.heap.size+1+1∧w.heap.size≤x.block):=fun x hx=>by have:=(hlt1 x hx).1;omega
     clear hwo arow arowC alt hrow2 hNr
     go_wp2_with fail
     refine cM (show Calls _ _ _ _ _ from hwoH.out) ?_
     rintro e w4 ⟨C4,p4,rfl,hr4,hC4,hCb4,hb4⟩
     clear hwoH a0 a1 a2 a3 a4 a5
     have hF4:=hFR.below hb4
     have hrow4:=hrow1.below hb4
     have hsR2:=hFR.res.lt
     have hCn4:Hid (∀x,C4=some x→x.block≠w.heap.size+1+1∧w.heap.size≤x.block):=fun x hx=>by have:=hCb4 x hx;omega
     clear hrow1 hCb4 hb4 hFR
     obtain ⟨J,hJ⟩:∃J,woC t.c N=J:=⟨_,rfl⟩
     obtain ⟨E4,hE4⟩:∃E,woE t.c N=E:=⟨_,rfl⟩
     rw[hJ] at hr4 hSE ⊢
     rw[hE4] at hSE ⊢
     clear hJ hE4
     have hgC:Gr w4 (w4.alloc (H #[S I J.c0,S I J.c1,S I J.c2,S I J.c3,Z C4 J.l.length p4] 39)):=(gR _).alloc _
     have hF5:=hF4.gr hgC
     have hc5:CtxAt (w4.alloc (H #[S I J.c0,S I J.c1,S I J.c2,S I J.c3,Z C4 J.l.length p4] 39)) w4.heap.size J C4 p4:=CtxAt.new (c:=J) 39 hr4 rfl
     have hr5:=hrow4.gr hgC
     clear hF4 hgC hr4 hrow4
     by_cases h4:E4=0
     ·subst h4
      have hfin:Hid (bF t c=0∧bU t c=⟨J,M⟩):=⟨hSE.out.1,by rw[hSE.out.2,if_pos rfl]⟩
      obtain ⟨z0,z1,z2,z3,z4,z5,zf,zlt⟩:=(show Six _ _ _ _ _ _ _ _ from hF5.res)
      obtain ⟨c0,c1,c2,c3,c4,clt,crow⟩:=(show CtxAt _ _ _ _ _ from hc5)
      have hbw:Hid (Below w.heap.size w _):=hF5.hw
      have hcrow:Hid (Row _ C4 J.l):=crow
      have hrMH:Hid (bA _ A1 M):=hr5
      clear crow hr5 hSE
      go_upto_region 19 with fail
      generalize w4.alloc (H #[S I J.c0,S I J.c1,S I J.c2,S I J.c3,Z C4 J.l.length p4] 39)=V at z0 z1 z2 z3 z4 z5 zf zlt c0 c1 c2 c3 c4 hbw hcrow hrMH ⊢
      go_wp2
      rw[hfin.out.1,hfin.out.2]
      have h1:∀x,C4=some x→x.block≠w.heap.size+1+1:=fun x hx=>(hCn4.out x hx).1
      have h2:∀x,A1=some x→x.block≠w.heap.size+1+1:=fun x hx=>(hA1n.out x hx).1
      exact bodyPost_ret (v:= Y #[R #[S I J.c0,S I J.c1,S I J.c2,S I J.c3,Z C4 J.l.length p4,Z A1 M.length cap1],S I 0]) (by simp[results,Tryz.results73,go_sem,z0,z1,z2,z3,z4,z5]) rfl ⟨C4,p4,A1,cap1,rfl,(((((hcrow.out.setCell _ h1).setCell _ h1).setCell _ h1).setCell _ h1).setCell _ h1).setCell _ h1,(((((hrMH.out.setCell _ h2).setCell _ h2).setCell _ h2).setCell _ h2).setCell _ h2).setCell _ h2,hC4,hA1,aj hbw.out (by omega) _ _ _ _ _ _,fun x hx=>(hCn4.out x hx).2,fun x hx=>(hA1n.out x hx).2⟩
     ·have hfin:Hid (bF t c=E4∧bU t c=⟨aH,[]⟩):=⟨hSE.out.1,by rw[hSE.out.2,if_neg h4]⟩
      have heb:(E4 != 0)=true:=by simpa using h4
      clear h4 hSE
      obtain ⟨z0,z1,z2,z3,z4,z5,zf,zlt⟩:=(show Six _ _ _ _ _ _ _ _ from hF5.res)
      have hbw:Hid (Below w.heap.size w _):=hF5.hw
      go_upto_region 18 with fail
      generalize w4.alloc (H #[S I J.c0,S I J.c1,S I J.c2,S I J.c3,Z C4 J.l.length p4] 39)=V at z0 z1 z2 z3 z4 z5 zf zlt hbw ⊢
      go_wp2
      rw[hfin.out.1,hfin.out.2]
      exact bodyPost_ret (v:= Y #[R #[S I 0,S I 0,S I 0,S I 0,Z none 0 0,Z none 0 0],S I E4]) (by simp[results,Tryz.results73,go_sem,z0,z1,z2,z3,z4,z5]) rfl ⟨none,0,none,0,rfl,oL rfl,oL rfl,fun _=>rfl,fun _=>rfl,aj hbw.out (by omega) _ _ _ _ _ _,(fun _ h=>by cases h),(fun _ h=>by cases h)⟩
  ·have hfin:Hid (bF t c=E2∧bU t c=⟨aH,[]⟩):=nx (by unfold bF;rw[heA.out,hE2];simp[h2]) h2
   have heb:(E2 != 0)=true:=by simpa using h2
   clear h2 hE2
   obtain ⟨z0,z1,z2,z3,z4,z5,zf,zlt⟩:=(show Six _ _ _ _ _ _ _ _ from hF2.res)
   have hbw:Hid (Below w.heap.size w _):=hF2.hw
   go_wp2
   rw[hfin.out.1,hfin.out.2]
   exact bodyPost_ret (v:= Y #[R #[S I 0,S I 0,S I 0,S I 0,Z none 0 0,Z none 0 0],S I E2]) (by simp[results,Tryz.results73,go_sem,z0,z1,z2,z3,z4,z5]) rfl ⟨none,0,none,0,rfl,oL rfl,oL rfl,fun _=>rfl,fun _=>rfl,aj hbw.out (by omega) _ _ _ _ _ _,(fun _ h=>by cases h),(fun _ h=>by cases h)⟩
 ·have hfin:Hid (bF t c=E1∧bU t c=⟨aH,[]⟩):=nx (by unfold bF;rw[hE1];simp[h1]) h1
  have heb:(E1 != 0)=true:=by simpa using h1
  clear h1 hE1
  obtain ⟨z0,z1,z2,z3,z4,z5,zf,zlt⟩:=(show Six _ _ _ _ _ _ _ _ from hF1.res)
  have hbw:Hid (Below w.heap.size w _):=hF1.hw
  go_wp2
  rw[hfin.out.1,hfin.out.2]
  exact bodyPost_ret (v:= Y #[R #[S I 0,S I 0,S I 0,S I 0,Z none 0 0,Z none 0 0],S I E1]) (by simp[results,Tryz.results73,go_sem,z0,z1,z2,z3,z4,z5]) rfl ⟨none,0,none,0,rfl,oL rfl,oL rfl,fun _=>rfl,fun _=>rfl,aj hbw.out (by omega) _ _ _ _ _ _,(fun _ h=>by cases h),(fun _ h=>by cases h)⟩


def fq (q:Int) (k:Int) (d:Int×Int):Int:=if d.1=q∧d.2≤k then d.2-1 else k
def fW (q:Int) (K:List (Int×Int)) (n:Int):Int:=K.foldl (fq q) n
theorem fV (q k:Int) (d:Int×Int):fq q k d=if d.1=q then min k (d.2-1) else k:=by
 unfold fq
 by_cases h1:d.1=q
 ·by_cases h2:d.2≤k
  ·rw[if_pos ⟨h1,h2⟩,if_pos h1];omega
  ·rw[if_neg (fun h=>h2 h.2),if_pos h1];omega
 ·rw[if_neg (fun h=>h1 h.1),if_neg h1]
theorem fh (q:Int) (d:Int×Int) (K:List (Int×Int)) (n:Int):fW q (d::K) n=fW q K (fq q n d):=rfl
theorem mD (q:Int) (K:List (Int×Int)):∀n,fW q K n≤n:=by
 induction K with
 | nil=>intro n;exact Int.le_refl _
 | cons d K ih =>
  intro n
  rw[fh]
  have h1:=ih (fq q n d)
  have h2:fq q n d≤n:=by rw[fV];split<;>omega
  omega
theorem sl {b:Ctx} {d:Int×Int} {q:Int} (hd:al d=true) (h0:0≤q) (h4:q<4):clk (gn b d) q=fq q (clk b q) d:=by
 rw[gH hd,fV]
 unfold al inB at hd
 simp only[Bool.and_eq_true,decide_eq_true_eq] at hd
 rw[dE b d.1 _ q hd.1.1 (by omega) h0 h4]
 by_cases h:q=d.1
 ·rw[if_pos h,if_pos h.symm,h]
 ·rw[if_neg h,if_neg (fun e=>h e.symm)]
theorem oA {q:Int} (h0:0≤q) (h4:q<4):∀(K:List (Int×Int)) (b:Ctx),(∀x∈K,al x=true)→clk (K.foldl gn b) q=fW q K (clk b q):=by
 intro K
 induction K with
 | nil=>intro b _;rfl
 | cons d K ih =>
  intro b hK
  rw[List.foldl_cons,ih _ (fun x hx=>hK x (by simp[hx])),fh,sl (hK d (by simp)) h0 h4]
theorem uj {c:Ctx} {K:List (Int×Int)} {q:Int} (hK:∀x∈K,al x=true) (h0:0≤q) (h4:q<4):clk (bV c K) q=fW q K (clk c q):=by
 unfold bV
 rw[oA h0 h4 K _ hK]
 rfl

def tZ (K:List (Int×Int)):Ctx:=⟨0,0,0,0,K⟩
theorem oT {K:List (Int×Int)} {x:Int×Int}:ae (tZ K) x=K.contains x:=by
 unfold ae tZ
 have:(inB x.1 0 3 && decide (1≤x.2) && decide (x.2≤clk ⟨0,0,0,0,K⟩ x.1))=false:=by
  have h0:clk ⟨0,0,0,0,K⟩ x.1=0:=by unfold clk;simp
  rw[h0]
  by_cases h:1≤x.2
  ·have:¬x.2≤0:=by omega
   simp[this]
  ·simp[h]
 rw[this];simp
theorem xi {c:Ctx} {K:List (Int×Int)} {x:Int×Int} (h:clk (bV c K) x.1<x.2):ae (bV c K) x=ae (tZ K) x:=by
 rw[oT]
 unfold ae
 rw[qC]
 have:¬x.2≤clk (bV c K) x.1:=by omega
 simp[this]
end Go.Proofs.YtkefkplnamkicabGreatDoor
