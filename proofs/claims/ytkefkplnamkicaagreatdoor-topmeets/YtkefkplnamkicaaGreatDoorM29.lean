/-
  What a Put and a Del do to a table that they are merged with: which cells it has then; which values and keys.
  Proved: what is known of two tables that were put to by two nodes: merged they keep both values; one of them with its row deleted, merged with the other, keeps the other's value. No condition beyond those named.
  Tables of one history: all cells and all dots that were seen are of one list of edits, each dot once.
  dot.Without: a context without the dots of a list.
-/
import Derived.Test.YtkefkplnamkicaaGreatDoorM28
set_option maxRecDepth 100000
set_option maxHeartbeats 8000000
open Go.IntKind renaming i64 → I
open Go.Obj renaming cells → J
open Go.Value renaming int → S, slice → O, tuple → Z, agg → H
namespace Go.Proofs.YtkefkplnamkicaaGreatDoor
open Go.RowKit Go.Sort Go.Shelf Go.Lib

theorem pL {l:List (Int×Int)} (hl:l.length≤400) (h:∀x∈l,ar x=true):bU l=0:=by
 unfold bU
 rw[if_neg (by omega),if_neg]
 rw[qr fun j hj=>h _ (List.getElem_mem hj)]
 simp
theorem dC {t:Tab} (h:am t=0) (p:Cel→Bool):(ak p t.e).length≤400∧∀x∈ak p t.e,ar x=true:=by
 refine ⟨nT (dM _ _) (ae h).2.1,?_⟩
 intro x hx
 obtain ⟨y,hy,rfl⟩:=List.mem_map.1 hx
 exact kw (bX (ae h).1) (bS h (List.mem_filter.1 hy).1)
theorem jQ {l:List (Int×Int)} (hl:l.length≤400) (h:∀x∈l,ar x=true):aP (aE l)=0∧∀x,ai (aE l) x=true↔x∈l:=by
 have hm:aE l=dT aM l:=by unfold aE;rw[if_pos (pL hl h)]
 have hc:Can (dT aM l):=oA rfl (by decide) h
 refine ⟨?_,fun x=> ?_⟩
 ·rw[hm]
  refine jl hc ?_
  unfold dT
  have:=jm aM (srt l) (srt l).length
  rw[fm] at this ⊢
  have hz:aM.l.length=0:=rfl
  omega
 ·rw[hm,oB rfl h]
  constructor
  ·rintro (k|k)
   ·exfalso
    rcases (aK aM x).1 k with m|m
    ·cases m
    ·have h0:clk aM x.1=0:=by unfold clk aM;simp
     have:=m.2.2.1
     have:=m.2.2.2
     omega
   ·exact k
  ·exact oR
theorem gd {t:Tab} (h:am t=0) {p:Cel→Bool} {y:Cel} (hy:y∈t.e):y.1∈ak p t.e↔p y=true:=by
 unfold ak
 rw[List.mem_map]
 constructor
 ·rintro ⟨z,hz,e⟩
  have:=List.mem_filter.1 hz
  rw[←yt h y hy z this.1 e];exact this.2
 ·intro k;exact ⟨y,List.mem_filter.2 ⟨hy,k⟩,rfl⟩

theorem xR {t:Tab} {n key col v:Int} (h:de t n key col v=0):∃N:Int×Int,cR t n key col v=⟨(cR t n key col v).c,[(N,key,col,v)]⟩∧N.1=n∧ai t.c N=false∧am t=0∧am (cR t n key col v)=0∧bj key col v=true∧∀x,ai (cR t n key col v).c x=true↔x∈ak (dd key col) t.e∨x=N:=by
 have hT:cR t n key col v=⟨aA (aE (ak (dd key col) t.e)) (aE [(bE t.c n).1]),[((bE t.c n).1,key,col,v)]⟩:=by unfold cR;rw[if_pos h]
 have hp:am t=0∧bj key col v=true∧(bE t.c n).2=0∧bU [(bE t.c n).1]=0∧aC (aE (ak (dd key col) t.e)) (aE [(bE t.c n).1])=0:=by
  unfold de at h
  by_cases h1:am t=0
  ·rw[if_neg (by simpa using h1)] at h
   cases h2:bj key col v
   ·rw[if_pos h2] at h;cases h
   ·rw[if_neg (by simp[h2])] at h
    by_cases h3:(bE t.c n).2=0
    ·rw[if_neg (by simpa using h3)] at h
     by_cases h4:bU (ak (dd key col) t.e)=0
     ·rw[if_neg (by simpa using h4)] at h
      by_cases h5:bU [(bE t.c n).1]=0
      ·rw[if_neg (by simpa using h5)] at h
       exact ⟨h1,rfl,h3,h5,h⟩
      ·rw[if_pos h5] at h;exact absurd h h5
     ·rw[if_pos h4] at h;exact absurd h h4
    ·rw[if_pos h3] at h;exact absurd h h3
  ·rw[if_pos h1] at h;exact absurd h h1
 obtain ⟨h1,h2,h3,h4,h5⟩:=hp
 have hnn:=xD h3
 have hNr:ar (bE t.c n).1=true:=by
  unfold bU at h4
  by_cases hb:nz [(bE t.c n).1]=true
  ·simp[hb] at h4
  ·cases hr:ar (bE t.c n).1
   ·exact absurd (by unfold nz;simp[hr]) hb
   ·rfl
 have hd:=dC h1 (dd key col)
 have m1:=jQ hd.1 hd.2
 have m2:=jQ (l:=[(bE t.c n).1]) (by simp) (by simpa using hNr)
 have hhas:∀x,ai (aA (aE (ak (dd key col) t.e)) (aE [(bE t.c n).1])) x=true↔x∈ak (dd key col) t.e∨x=(bE t.c n).1:=by
  intro x
  rw[(dj h5).2.2.2,m1.2,m2.2]
  simp
 refine ⟨(bE t.c n).1,by rw[hT],hnn.1,hnn.2,h1,?_,h2,by rw[hT];exact hhas⟩
 rw[hT]
 refine iK (dj h5).2.1 (by simp) (by simp[Asc]) fun x hx=> ?_
 have hx':x=((bE t.c n).1,key,col,v):=by simpa using hx
 subst hx'
 exact ⟨(hhas _).2 (oR rfl),h2⟩
theorem vw {t:Tab} {n key col v:Int} (h:de t n key col v=0) (h0:al t (cR t n key col v)=0):∃N:Int×Int,ai t.c N=false∧N.1=n∧∀y,y∈(ac t (cR t n key col v)).e↔(y∈t.e∧dd key col y=false)∨y=(N,key,col,v):=by
 obtain ⟨N,hT,hN,hNt,ht,hp,_,hhas⟩:=xR h
 obtain ⟨_,_,hcl,_,_⟩:=bM h0
 refine ⟨N,hNt,hN,fun y=> ?_⟩
 rw[aN h0]
 show y∈mrg t _↔_
 rw[cU hcl]
 have hpe:y∈(cR t n key col v).e↔y=(N,key,col,v):=by rw[hT];simp
 rw[hpe]
 constructor
 ·rintro (⟨k1,k2⟩|⟨k1,k2⟩|⟨k1,k2⟩)
  ·exact oR k2
  ·refine oL ⟨k1,?_⟩
   cases hf:dd key col y
   ·rfl
   ·have:=(hhas y.1).2 (oL ((gd ht k1).2 hf))
    rw[k2] at this;cases this
  ·exact oR k1
 ·rintro (⟨k1,k2⟩|k1)
  ·refine oR (oL ⟨k1,?_⟩)
   cases hb:ai (cR t n key col v).c y.1
   ·rfl
   ·rcases (hhas y.1).1 hb with m|m
    ·rw[(gd ht k1).1 m] at k2;cases k2
    ·have:=bS ht k1
     rw[m,hNt] at this;cases this
  ·refine oR (oR ⟨k1,?_⟩)
   rw[k1];exact hNt
theorem om {t:Tab} {key:Int} (h:eQ t key=0):am t=0∧key∈ct t.e∧al t ⟨cJ t key,[]⟩=0∧∀y,y∈(ac t ⟨cJ t key,[]⟩).e↔y∈t.e∧y.2.1≠key:=by
 have hp:am t=0∧t.e.any (eF key)=true:=by
  unfold eQ at h
  by_cases h1:am t=0
  ·rw[if_neg (by simpa using h1)] at h
   cases h2:inB key 0 49
   ·rw[if_pos h2] at h;cases h
   ·rw[if_neg (by simp[h2])] at h
    cases h3:t.e.any (eF key)
    ·rw[if_pos h3] at h;cases h
    ·exact ⟨h1,rfl⟩
  ·rw[if_pos h1] at h;exact absurd h h1
 obtain ⟨ht,hany⟩:=hp
 have hC:cJ t key=aE (ak (eF key) t.e):=by unfold cJ;rw[if_pos h]
 have hd:=dC ht (eF key)
 have hm:=jQ hd.1 hd.2
 have hkey:key∈ct t.e:=by
  obtain ⟨y,hy,hf⟩:=List.any_eq_true.1 hany
  exact List.mem_map.2 ⟨y,hy,by simpa[eF] using hf⟩
 have hdt:am ⟨cJ t key,[]⟩=0:=by rw[hC];exact iK hm.1 (by simp) (by simp[Asc]) (fun x hx=>by cases hx)
 have hcl:dy t ⟨cJ t key,[]⟩=false:=noclash.2 fun x hx y hy=>by cases hy
 have hsub:∀x,ai (cJ t key) x=true→ai t.c x=true:=by
  intro x hx
  rw[hC,hm.2] at hx
  obtain ⟨y,hy,rfl⟩:=List.mem_map.1 hx
  exact bS ht (List.mem_filter.1 hy).1
 have hj:=tN (ae ht).1 (ae hdt).1 hsub
 have hmem:∀y,y∈mrg t ⟨cJ t key,[]⟩↔y∈t.e∧y.2.1≠key:=by
  intro y
  rw[cU hcl]
  constructor
  ·rintro (⟨_,k⟩|⟨k1,k2⟩|⟨k,_⟩)
   ·cases k
   ·refine ⟨k1,fun e=> ?_⟩
    have:ai (cJ t key) y.1=true:=by rw[hC,hm.2];exact (gd ht k1).2 (by simp[eF,e])
    rw[k2] at this;cases this
   ·cases k
  ·rintro ⟨k1,k2⟩
   refine oR (oL ⟨k1,?_⟩)
   show ai (cJ t key) y.1=false
   cases hb:ai (cJ t key) y.1
   ·rfl
   ·rw[hC,hm.2,gd ht k1] at hb
    simp[eF] at hb
    exact absurd hb k2
 have hlen:(mrg t ⟨cJ t key,[]⟩).length≤400:=by
  have hsubl:(mrg t ⟨cJ t key,[]⟩)=t.e.filter (fun y=>decide (y.2.1≠key)):=by
   refine i8 (eL ht hdt) (List.Pairwise.filter _ (dE ht)) fun y=> ?_
   rw[hmem,List.mem_filter]
   simp
  rw[hsubl]
  exact nT (List.length_filter_le _ _) (ae ht).2.1
 have h0:al t ⟨cJ t key,[]⟩=0:=ge ht hdt hcl hj.1 hlen
 exact ⟨ht,hkey,h0,by rw[aN h0];exact hmem⟩
end Go.Proofs.YtkefkplnamkicaaGreatDoor

namespace Go.Proofs.YtkefkplnamkicaaGreatDoor

theorem zC {t:Tab} {n key col v:Int} (h:de t n key col v=0) (h0:al t (cR t n key col v)=0):∃N:Int×Int,am t=0∧N.1=n∧ai t.c N=false∧(∀y,y∈(ac t (cR t n key col v)).e↔(y∈t.e∧dd key col y=false)∨y=(N,key,col,v))∧∀x,ai (ac t (cR t n key col v)).c x=true↔ai t.c x=true∨x=N:=by
 obtain ⟨N,hT,hN,hNt,ht,hp,_,hhas⟩:=xR h
 obtain ⟨K,_,_,hc⟩:=vw h h0
 obtain ⟨_,_,hcl,hj,_⟩:=bM h0
 have hin:((N,key,col,v):Cel)∈(ac t (cR t n key col v)).e:=by
  rw[aN h0]
  show _∈mrg t _
  rw[cU hcl]
  exact oR (oR ⟨by rw[hT];simp,hNt⟩)
 obtain rfl:K=N:=by
  rcases (hc _).1 hin with k|k
  ·have:=bS ht k.1
   rw[show ((N,key,col,v):Cel).1=N from rfl,hNt] at this;cases this
  ·exact (congrArg (fun c:Cel=>c.1) k).symm
 refine ⟨K,ht,hN,hNt,hc,fun x=> ?_⟩
 rw[aN h0]
 show ai (aA t.c _) x=true↔_
 rw[(dj hj).2.2.2,hhas]
 constructor
 ·rintro (k|k|k)
  ·exact oL k
  ·obtain ⟨y,hy,rfl⟩:=List.mem_map.1 k
   exact oL (bS ht (List.mem_filter.1 hy).1)
  ·exact oR k
 ·rintro (k|k)
  ·exact oL k
  ·exact oR (oR k)

variable {t a b:Tab} {key col v w:Int} {N M:Int×Int}
theorem yP {t:Tab} {key:Int} (h:eQ t key=0) (x:Int×Int) (hx:ai (cJ t key) x=true):ai t.c x=true:=by
 have ht:=(om h).1
 have hC:cJ t key=aE (ak (eF key) t.e):=by unfold cJ;rw[if_pos h]
 have hd:=dC ht (eF key)
 have hm:=jQ hd.1 hd.2
 rw[hC,hm.2] at hx
 obtain ⟨y,hy,rfl⟩:=List.mem_map.1 hx
 exact bS ht (List.mem_filter.1 hy).1
end Go.Proofs.YtkefkplnamkicaaGreatDoor

namespace Go.Proofs.YtkefkplnamkicaaGreatDoor
open Go.RowKit Go.Sort

theorem tO {l:List (Int×Int)}:∀ {m:List (Int×Int)},l.Nodup→(∀x∈l,x∈m)→l.length≤m.length:=by
 induction l with
 | nil=>intro m _ _;exact nZ _
 | cons x r ih =>
  intro m h hs
  have hx:=hs x (mS ..)
  have h2:=List.nodup_cons.1 h
  have h3:=ih (m:=m.erase x) h2.2 fun y hy=>(List.mem_erase_of_ne (fun e=>h2.1 (by rw[←e];exact hy))).2 (hs y (mC _ hy))
  rw[List.length_erase_of_mem hx] at h3
  have:0<m.length:=List.length_pos_of_mem hx
  simp only[List.length_cons]
  omega
structure Uni (U:List Cel):Prop where
 nd:(U.map (·.1)).Nodup
 len:U.length≤400
theorem Uni.uq {U:List Cel} (h:Uni U):∀x∈U,∀y∈U,x.1=y.1→x=y:=jp h.nd
structure Sub (U:List Cel) (t:Tab):Prop where
 ok:am t=0
 cel:∀x∈t.e,x∈U
 ctx:∀d,ai t.c d=true→∃x∈U,x.1=d
theorem Sub.mono {U V:List Cel} {t:Tab} (h:Sub U t) (k:∀x∈U,x∈V):Sub V t :=
 ⟨h.ok,fun x hx=>k x (h.cel x hx),fun d hd=>by obtain ⟨x,hx,e⟩:=h.ctx d hd;exact ⟨x,k x hx,e⟩⟩
theorem Sub.noclash {U:List Cel} {a b:Tab} (hU:Uni U) (ha:Sub U a) (hb:Sub U b):dy a b=false :=
 Go.Proofs.YtkefkplnamkicaaGreatDoor.noclash.2 fun x hx y hy e=>hU.uq y (hb.cel y hy) x (ha.cel x hx) e
theorem uQ {c:Ctx} {d:Int×Int} (h:d∈c.l):ai c d=true:=by
 unfold ai
 rw[List.contains_iff_mem.2 h]
 rfl
theorem Ah {l:List (Int×Int)} (h:l.Pairwise fun x y=>bD x y=true):l.Nodup:=by
 refine List.Pairwise.imp ?_ h
 intro a b hab e
 rw[e,tA] at hab
 cases hab
theorem Sub.merge {U:List Cel} {a b:Tab} (hU:Uni U) (ha:Sub U a) (hb:Sub U b):al a b=0∧Sub U (ac a b)∧(∀d,ai (ac a b).c d=true↔ai a.c d=true∨ai b.c d=true)∧∀x,x∈(ac a b).e↔(x∈a.e∧x∈b.e)∨(x∈a.e∧ai b.c x.1=false)∨(x∈b.e∧ai a.c x.1=false):=by
 have hcl:=Sub.noclash hU ha hb
 have hca:=(ae ha.ok).1
 have hcb:=(ae hb.ok).1
 have hja:=bX hca
 have hjb:=bX hcb
 have hdots:∀d,ai (cO a.c b.c) d=true→d∈U.map (·.1):=fun d hd=>by
  rcases (dt hja hjb d).1 hd with h|h
  ·obtain ⟨x,hx,e⟩:=ha.ctx d h
   exact List.mem_map.2 ⟨x,hx,e⟩
  ·obtain ⟨x,hx,e⟩:=hb.ctx d h
   exact List.mem_map.2 ⟨x,hx,e⟩
 have hlen:(cO a.c b.c).l.length≤400:=by
  have:=tO (Ah (dU hja hjb).rise) fun d hd=>hdots d (uQ hd)
  rw[List.length_map] at this
  have:=hU.len
  omega
 have hj:=jO hca hcb hlen
 have hmem:=fun x=>cU hcl (x:=x)
 have hin:∀x∈mrg a b,x∈U:=fun x hx=>by
  rcases ky hcl hx with h|h
  ·exact ha.cel x h
  ·exact hb.cel x h
 have hm:(mrg a b).length≤400:=by
  have:=tO (iF (eL ha.ok hb.ok)) (m:=U.map (·.1)) fun d hd=>by
   obtain ⟨x,hx,e⟩:=List.mem_map.1 hd
   exact List.mem_map.2 ⟨x,hin x hx,e⟩
  rw[List.length_map,List.length_map] at this
  have:=hU.len
  omega
 have h0:=ge ha.ok hb.ok hcl hj hm
 have hT:=aN h0
 have hok:=di h0
 have hC:=(cY hj).2.2.2.1
 rw[hT] at hok ⊢
 refine ⟨h0,⟨hok,hin,fun d hd=> ?_⟩,fun d=> ?_,hmem⟩
 ·have:ai (cO a.c b.c) d=true:=by rw[←hC];exact hd
  obtain ⟨x,hx,e⟩:=List.mem_map.1 (hdots d this)
  exact ⟨x,hx,e⟩
 ·show ai (aA a.c b.c) d=true↔_
  rw[hC]
  exact dt hja hjb d
section
variable {U:List Cel} {a b c m:Tab}
theorem Sub.comm (hU:Uni U) (ha:Sub U a) (hb:Sub U b):ac a b=ac b a:=(uS (Sub.merge hU ha hb).1).2.symm
theorem Sub.assoc (hU:Uni U) (ha:Sub U a) (hb:Sub U b) (hc:Sub U c):ac (ac a b) c=ac a (ac b c) :=
 have h1:=Sub.merge hU ha hb
 have h2:=Sub.merge hU hb hc
 rh h1.1 (Sub.merge hU h1.2.1 hc).1 h2.1 (Sub.merge hU ha h2.2.1).1
theorem Sub.idem (ha:Sub U a):ac a a=a:=(sJ ha.ok).2
def Bel (a b:Tab):Prop:=ac b a=b
theorem Bel.refl (ha:Sub U a):Bel a a:=Sub.idem ha
theorem Bel.left (hU:Uni U) (ha:Sub U a) (hb:Sub U b):Bel a (ac a b):=(rg (Sub.merge hU ha hb).1).2
theorem Bel.right (hU:Uni U) (ha:Sub U a) (hb:Sub U b):Bel b (ac a b):=by
 rw[Sub.comm hU ha hb]
 exact Bel.left hU hb ha
theorem Bel.trans (hU:Uni U) (ha:Sub U a) (hb:Sub U b) (hc:Sub U c) (h:Bel a b) (k:Bel b c):Bel a c:=by
 unfold Bel at *
 rw[←k,Sub.assoc hU hc hb ha,h]
theorem Bel.anti (hU:Uni U) (ha:Sub U a) (hb:Sub U b) (h:Bel a b) (k:Bel b a):a=b:=by
 exact k.symm.trans ((Sub.comm hU ha hb).trans h)
theorem Bel.both (hU:Uni U) (ha:Sub U a) (hb:Sub U b) (hm:Sub U m) (h:Bel a m) (k:Bel b m):Bel (ac a b) m:=by
 unfold Bel at *
 rw[←Sub.assoc hU hm ha hb,h,k]
end

theorem rk (a b:Ctx) (A B:Option Addr) (ca cb:Nat) (w:World) (hoka:bF a=true) (hokb:bF b=true) (hal4:a.l.length≤400) (hbl4:b.l.length≤400) (hra:Row w A a.l) (hrb:Row w B b.l) :
  Calls Tryz.prog 198 #[H #[S I a.c0,S I a.c1,S I a.c2,S I a.c3,O A a.l.length ca],H #[S I b.c0,S I b.c1,S I b.c2,S I b.c3,O B b.l.length cb]] w fun e w'=>∃C cp,e= .returned (Z #[O C (gV a b).length cp,S I (fC a b)])∧Row w' C (gV a b)∧(C=none→cp=0)∧(∀x,C=some x→w.heap.size≤x.block)∧Below w.heap.size w w':=by
 have hg0:Gr w ((w.alloc (J #[S I a.c0,S I a.c1,S I a.c2,S I a.c3,O A a.l.length ca] 38)).alloc (J #[S I b.c0,S I b.c1,S I b.c2,S I b.c3,O B b.l.length cb] 38)):=((gR w).alloc _).alloc _
 have ha1:CtxAt ((w.alloc (J #[S I a.c0,S I a.c1,S I a.c2,S I a.c3,O A a.l.length ca] 38)).alloc (J #[S I b.c0,S I b.c1,S I b.c2,S I b.c3,O B b.l.length cb] 38)) w.heap.size a A ca:=(CtxAt.new 38 hra rfl).gr ((gR _).alloc _)
 have hb1:CtxAt ((w.alloc (J #[S I a.c0,S I a.c1,S I a.c2,S I a.c3,O A a.l.length ca] 38)).alloc (J #[S I b.c0,S I b.c1,S I b.c2,S I b.c3,O B b.l.length cb] 38)) (w.heap.size+1) b B cb:=CtxAt.new 38 (hrb.gr ((gR _).alloc _)) (by simp)
 have hok:Hid (bF a=true∧bF b=true):=⟨hoka,hokb⟩
 clear hoka hokb
 have hAb:∀x,A=some x→a.l≠[]→x.block<w.heap.size+1+1:=fun x hx hl=>by have:=hra.lt x hx hl;omega
 have hBb:∀x,B=some x→b.l≠[]→x.block<w.heap.size+1+1:=fun x hx hl=>by have:=hrb.lt x hx hl;omega
 have hbw1:Hid (Below w.heap.size w ((w.alloc (J #[S I a.c0,S I a.c1,S I a.c2,S I a.c3,O A a.l.length ca] 38)).alloc (J #[S I b.c0,S I b.c1,S I b.c2,S I b.c3,O B b.l.length cb] 38))):=hg0.below
 clear hg0
 go_enter Tryz.func198,Tryz.ntmps198
 go_wp2
 go_loopw [6,8] (fun v i wr=>∃k:Nat,k≤4∧i= S I k∧(bz a b k).length≤400∧Own wr (w.heap.size+1+1) v (bz a b k)∧Below (w.heap.size+1+1) ((w.alloc (J #[S I a.c0,S I a.c1,S I a.c2,S I a.c3,O A a.l.length ca] 38)).alloc (J #[S I b.c0,S I b.c1,S I b.c2,S I b.c3,O B b.l.length cb] 38)) wr) (fun _ i _=>4-(intOf i).toNat)
 case atStart=>exact ⟨0,by omega,rfl,by simp[bz],Own.nil _ _,bR _ _⟩
 case round =>
  obtain ⟨k,hk,rfl,hml,hov,hbel⟩:=hrel
  obtain ⟨A1,cap1,rfl,hA1,hrow1,hlt1⟩:=hov.row
  have haR:=CtxAt.belowB ha1 hbel (by omega) hAb
  have hbR:=CtxAt.belowB hb1 hbel (by omega) hBb
  obtain ⟨a0,a1,a2,a3,a4,alt,arow⟩:=(show CtxAt _ _ _ _ _ from haR)
  obtain ⟨b0,b1,b2,b3,b4,blt,brow⟩:=(show CtxAt _ _ _ _ _ from hbR)
  have hsR:w.heap.size+1+1≤wr.heap.size:=by have h1:=hbel.size;simp at h1;omega
  by_cases hlt:k<4
  ·have hltz:(k:Int)<4:=by omega
   have hln:=uW a b k
   have hcall:=qq a b A B ca cb (O A1 (bz a b k).length cap1) (bz a b k) k (w.heap.size+1+1) wr (by omega) hltz hok.out.1 hok.out.2 hal4 hbl4 (by omega) arow brow hAb hBb hov hsR
   have hcallH:Hid _:=hcall
   clear hcall hov hrow1
   go_wp2_with fail
   refine cM (show Calls _ _ _ _ _ from hcallH.out) ?_
   rintro e w2 ⟨v2,rfl,hov2,hb2⟩
   change Own w2 _ v2 (bz a b (k+1)) at hov2
   clear hcallH a0 a1 a2 a3 a4 b0 b1 b2 b3 b4
   obtain ⟨A2,cap2,rfl,hA2,hrow2,_⟩:=hov2.row
   have hov2H:Hid (Own w2 (w.heap.size+1+1) (O A2 (bz a b (k+1)).length cap2) (bz a b (k+1))):=hov2
   have hbelH:Hid (Below (w.heap.size+1+1) ((w.alloc (J #[S I a.c0,S I a.c1,S I a.c2,S I a.c3,O A a.l.length ca] 38)).alloc (J #[S I b.c0,S I b.c1,S I b.c2,S I b.c3,O B b.l.length cb] 38)) w2):=hbel.trans hb2
   clear hov2 hbel hb2
   by_cases h400:400<(bz a b (k+1)).length
   ·have h400z:(400:Int)<((bz a b (k+1)).length:Int):=by omega
    have hfin:Hid (fC a b=2∧gV a b=[]):=sQ (by omega) h400
    go_wp2
    go_ret2
    rw[hfin.out.1,hfin.out.2]
    exact ⟨none,0,rfl,oL rfl,fun _=>rfl,(fun x hx=>by cases hx),hbw1.out.trans (hbelH.out.mono (by omega))⟩
   ·have h400z:¬(400:Int)<((bz a b (k+1)).length:Int):=by omega
    go_wp2
    go_roundw
    case rel=>exact ⟨k+1,by omega,by go_num,by omega,hov2H.out,hbelH.out⟩
    case measure=>simp[intOf];omega
  ·obtain rfl:k=4:=by omega
   have hfin:Hid (fC a b=0∧gV a b=bz a b 4):=by
    exact ⟨by unfold fC;rw[if_neg (by omega)],by unfold gV;rw[if_neg (by omega)]⟩
   have hovH:Hid (Row wr A1 (bz a b 4)):=hrow1
   have hnew:Hid (∀x,A1=some x→w.heap.size≤x.block):=fun x hx=>by have:=(hlt1 x hx).1;omega
   clear a0 a1 a2 a3 a4 b0 b1 b2 b3 b4
   go_wp2
   go_ret2
   rw[hfin.out.1,hfin.out.2]
   exact ⟨A1,cap1,rfl,hovH.out,hA1,hnew.out,hbw1.out.trans (hbel.mono (by omega))⟩

theorem ClkAt.belowB {w w':World} {B N:Nat} {x0 x1 x2 x3:Int} (h:ClkAt w B x0 x1 x2 x3) (k:Below N w w') (hB:B<N):ClkAt w' B x0 x1 x2 x3 :=
 ⟨(k.cell (p:=⟨B,0,none⟩) hB).trans h.k0,(k.cell (p:=⟨B,1,none⟩) hB).trans h.k1,(k.cell (p:=⟨B,2,none⟩) hB).trans h.k2,(k.cell (p:=⟨B,3,none⟩) hB).trans h.k3,fun j=>(k.frozen (p:=⟨B,j,none⟩) hB).trans (h.fz j),nL h.lt k.size⟩
theorem ClkAt.below {w w':World} {B:Nat} {x0 x1 x2 x3:Int} (h:ClkAt w B x0 x1 x2 x3) (k:Below w.heap.size w w'):ClkAt w' B x0 x1 x2 x3:=h.belowB k h.lt

def gU (b:Ctx) (d:Int×Int):Ctx:=if inB d.1 0 3 && decide (1≤d.2) then setClk b d.1 (min (clk b d.1) (d.2-1)) else b
theorem ip {b:Ctx} {d:Int×Int} (h:ar d=true):gU b d=setClk b d.1 (min (clk b d.1) (d.2-1)):=by
 have:(inB d.1 0 3 && decide (1≤d.2))=true:=by
  unfold ar inB at h
  simp only[Bool.and_eq_true,decide_eq_true_eq] at h
  simp[inB];omega
 unfold gU
 rw[if_pos this]
def bx (c:Ctx) (l:List (Int×Int)) (k:Nat):Ctx:=(l.take k).foldl gU ⟨c.c0,c.c1,c.c2,c.c3,l⟩
theorem sG {c:Ctx} {l:List (Int×Int)} {k:Nat} (h:k<l.length) {x:Int×Int} (hx:l[k]=x):bx c l (k+1)=gU (bx c l k) x:=by
 unfold bx
 rw[List.take_succ_eq_append_getElem h,List.foldl_append,hx]
 rfl
def ch (c:Ctx) (l:List (Int×Int)):Ctx:=l.foldl gU ⟨c.c0,c.c1,c.c2,c.c3,l⟩
theorem zr (b:Ctx) (d:Int×Int):(gU b d).l=b.l:=by
 unfold gU
 by_cases h:(inB d.1 0 3 && decide (1≤d.2))=true
 ·rw[if_pos h,ei]
 ·rw[if_neg h]
theorem uI (m:List (Int×Int)):∀b:Ctx,(m.foldl gU b).l=b.l:=by
 induction m with
 | nil=>intro b;rfl
 | cons d m ih=>intro b;rw[List.foldl_cons,ih,zr]
theorem sF (c:Ctx) (l:List (Int×Int)):(ch c l).l=l:=by unfold ch;rw[uI]
theorem xp {b:Ctx} {d:Int×Int} (hb:bF b=true) (hd:ar d=true):bF (gU b d)=true:=by
 rw[ip hd]
 unfold ar inB at hd
 simp only[Bool.and_eq_true,decide_eq_true_eq] at hd
 obtain ⟨⟨h0,h3⟩,h1,h2⟩:=hd
 have hx:d.1=0∨d.1=1∨d.1=2∨d.1=3:=by omega
 obtain ⟨x,y⟩:=d
 simp only at hx h0 h3 h1 h2
 unfold bF inB at hb ⊢
 simp only[Bool.and_eq_true,decide_eq_true_eq] at hb ⊢
 rcases hx with rfl|rfl|rfl|rfl<;>simp[setClk,clk]<;>omega
theorem tP {c:Ctx} {l:List (Int×Int)} (hc:bF c=true) (hl:∀x∈l,ar x=true):bF (ch c l)=true:=by
 unfold ch
 have:∀(m:List (Int×Int)) (b:Ctx),bF b=true→(∀x∈m,ar x=true)→bF (m.foldl gU b)=true:=by
  intro m
  induction m with
  | nil=>intro b hb _;exact hb
  | cons d m ih=>intro b hb hm;rw[List.foldl_cons];exact ih _ (xp hb (hm d (by simp))) (fun x hx=>hm x (by simp[hx]))
 exact this l _ hc hl
def woE (c:Ctx) (l:List (Int×Int)):Int:=if aP c≠0 then aP c else fC c (ch c l)
def woC (c:Ctx) (l:List (Int×Int)):Ctx:=if woE c l=0 then ⟨(ch c l).c0,(ch c l).c1,(ch c l).c2,(ch c l).c3,gV c (ch c l)⟩ else aM

theorem rP (c:Ctx) (l:List (Int×Int)) (A L:Option Addr) (ca cl:Nat) (w:World) (hl:c.l.length≤maxLen) (hll:l.length≤400) (hri:∀x∈l,ar x=true) (hr:Row w A c.l) (hrl:Row w L l) :
  Calls Tryz.prog 166 #[H #[S I c.c0,S I c.c1,S I c.c2,S I c.c3,O A c.l.length ca],O L l.length cl] w fun e w'=>∃C cp,e= .returned (Z #[H #[S I (woC c l).c0,S I (woC c l).c1,S I (woC c l).c2,S I (woC c l).c3,O C (woC c l).l.length cp],S I (woE c l)])∧Row w' C (woC c l).l∧(C=none→cp=0)∧(∀x,C=some x→w.heap.size≤x.block)∧Below w.heap.size w w':=by
 have mixed:Tryz.prog.follows .mixedOrders=true:=by kernel_rfl
 have hg0:Gr w ((w.alloc (J #[S I c.c0,S I c.c1,S I c.c2,S I c.c3,O A c.l.length ca] 38)).alloc (J #[S I 0,S I 0,S I 0,S I 0,O none 0 0] 38)):=((gR w).alloc _).alloc _
 have hc0:CtxAt ((w.alloc (J #[S I c.c0,S I c.c1,S I c.c2,S I c.c3,O A c.l.length ca] 38)).alloc (J #[S I 0,S I 0,S I 0,S I 0,O none 0 0] 38)) w.heap.size c A ca:=(CtxAt.new 38 hr rfl).gr ((gR _).alloc _)
 have hz0:ZAt ((w.alloc (J #[S I c.c0,S I c.c1,S I c.c2,S I c.c3,O A c.l.length ca] 38)).alloc (J #[S I 0,S I 0,S I 0,S I 0,O none 0 0] 38)) (w.heap.size+1):=ZAt.new _ 38 (by simp)
 have hck:=fb c A ca _ hl hc0.row
 have hckH:Hid _:=hck
 clear hck
 go_enter Tryz.func166,Tryz.ntmps166
 go_wp2_with fail
 refine cM (show Calls _ _ _ _ _ from hckH.out) ?_
 rintro e w1 ⟨rfl,hg1⟩
 clear hckH
 have hc1:=hc0.gr hg1
 have hz1:=hz0.below hg1.below
 have hbw1:Below w.heap.size w w1:=(hg0.trans hg1).below
 have hrl1:=hrl.gr (hg0.trans hg1)
 clear hg0 hc0 hz0 hg1 hr hrl
 obtain ⟨E1,hE1⟩:∃E,aP c=E:=⟨_,rfl⟩
 rw[hE1]
 by_cases h1:E1=0
 ·subst h1
  have heH:Hid (aP c=0):=hE1
  clear hE1
  obtain ⟨c0,c1,c2,c3,c4,clt,crow⟩:=(show CtxAt _ _ _ _ _ from hc1)
  have hk1:ClkAt (w1.alloc (J #[S I c.c0,S I c.c1,S I c.c2,S I c.c3] 35)) w1.heap.size c.c0 c.c1 c.c2 c.c3:=⟨ab (gR _) rfl,ab (gR _) rfl,ab (gR _) rfl,ab (gR _) rfl,fun j=>eP (gR _) j,by simp⟩
  have hb1:Below w1.heap.size w1 (w1.alloc (J #[S I c.c0,S I c.c1,S I c.c2,S I c.c3] 35)):=((gR _).alloc _).below
  go_wp2
  generalize w1.alloc (J #[S I c.c0,S I c.c1,S I c.c2,S I c.c3] 35)=w2 at hk1 hb1 ⊢
  have hcH:Hid (CtxAt w1 w.heap.size c A ca):=hc1
  clear c0 c1 c2 c3 c4 clt crow hc1
  go_loopw [22] (fun i wr=>∃k:Nat,k≤l.length∧i= S I k∧ClkAt wr w1.heap.size (bx c l k).c0 (bx c l k).c1 (bx c l k).c2 (bx c l k).c3∧Below w1.heap.size w1 wr) (fun i _=>l.length-(intOf i).toNat)
  case atStart=>exact ⟨0,by omega,rfl,hk1,hb1⟩
  case round =>
   obtain ⟨k,hk,rfl,hat,hbel⟩:=hrel
   have hsR:=hbel.size
   have hltR:=hat.lt
   by_cases hlt:k<l.length
   ·have hltz:(k:Int)<(l.length:Int):=by omega
    obtain ⟨bb,off,rfl,hbb,hcs⟩:=(hrl1.below hbel).at hlt
    obtain ⟨⟨x,y⟩,hx⟩:∃x,l[k]=x:=⟨_,rfl⟩
    obtain ⟨e0,e1⟩:=hcs k hlt
    rw[hx] at e0 e1
    have hst:=sG (c:=c) hlt hx
    have hrx:=hri _ (gM hlt)
    rw[hx] at hrx
    rw[ip hrx] at hst
    have hrb:(0≤x∧x≤3)∧1≤y∧y≤1099511627776:=by
     unfold ar inB at hrx
     simpa only[Bool.and_eq_true,decide_eq_true_eq] using hrx
    obtain ⟨⟨hx0,hx3⟩,hy1,hy2⟩:=hrb
    obtain ⟨B,HB⟩:∃B,bx c l k=B:=⟨_,rfl⟩
    rw[HB] at hat hst
    have hstH:Hid (bx c l (k+1)=setClk B x (min (clk B x) (y-1))):=hst
    have hgD:Gr wr (wr.alloc (J #[S I x,S I y] 95)):=(gR _).alloc _
    have hd0:=(DotAt.new (w:=wr) (x:=x) (y:=y) 95 rfl)
    have hatD:ClkAt (wr.alloc (J #[S I x,S I y] 95)) w1.heap.size B.c0 B.c1 B.c2 B.c3:=hat.below hgD.below
    have hbD:Below w1.heap.size w1 (wr.alloc (J #[S I x,S I y] 95)):=hbel.trans (hgD.below.mono hsR)
    have hatH:Hid (ClkAt wr w1.heap.size B.c0 B.c1 B.c2 B.c3):=hat
    clear hcs hx hrx HB hat hst
    obtain ⟨d0,d1,dlt⟩:=(show DotAt _ _ _ _ from hd0)
    obtain ⟨q0,q1,q2,q3,qf,qlt⟩:=(show ClkAt _ _ _ _ _ _ from hatD)
    have h4:x=0∨x=1∨x=2∨x=3:=by omega
    rcases h4 with rfl|rfl|rfl|rfl
    ·go_wp2_with (first|(go_at_call 92;refine (cT _ _).mono ?_;rintro e w' ⟨rfl,rfl⟩)|fail)
     generalize wr.alloc (J #[S I 0,S I y] 95)=wD at hatD hbD hd0 d0 d1 dlt q0 q1 q2 q3 qf qlt ⊢
     by_cases hgt:B.c0≤y-1
     ·have hmx:min B.c0 (y-1)=B.c0:=by omega
      have h5H:Hid (ClkAt ((wD.setCell ⟨w1.heap.size,0,none⟩ (S I B.c0)).drew) w1.heap.size (bx c l (k+1)).c0 (bx c l (k+1)).c1 (bx c l (k+1)).c2 (bx c l (k+1)).c3):=by
       show ClkAt _ _ _ _ _ _
       have h5:=(hatD.set 0 B.c0).below (bR _ _).drew
       rw[hstH.out]
       simpa[setClk,clk,hmx] using h5
      have hb5:Hid (Below w1.heap.size w1 ((wD.setCell ⟨w1.heap.size,0,none⟩ (S I B.c0)).drew)):=(hbD.setCell (nR _) _).drew
      clear hatD hbD
      go_region
      go_wp2
      go_roundw
      case rel=>exact ⟨k+1,by omega,by go_num,h5H.out,hb5.out⟩
      case measure=>simp[intOf];omega
     ·have hmx:min B.c0 (y-1)=(y-1):=by omega
      have h5H:Hid (ClkAt ((wD.setCell ⟨w1.heap.size,0,none⟩ (S I (y-1))).drew) w1.heap.size (bx c l (k+1)).c0 (bx c l (k+1)).c1 (bx c l (k+1)).c2 (bx c l (k+1)).c3):=by
       show ClkAt _ _ _ _ _ _
       have h5:=(hatD.set 0 (y-1)).below (bR _ _).drew
       rw[hstH.out]
       simpa[setClk,clk,hmx] using h5
      have hb5:Hid (Below w1.heap.size w1 ((wD.setCell ⟨w1.heap.size,0,none⟩ (S I (y-1))).drew)):=(hbD.setCell (nR _) _).drew
      clear hatD hbD
      go_region
      go_wp2
      go_roundw
      case rel=>exact ⟨k+1,by omega,by go_num,h5H.out,hb5.out⟩
      case measure=>simp[intOf];omega
    ·go_wp2_with (first|(go_at_call 92;refine (cT _ _).mono ?_;rintro e w' ⟨rfl,rfl⟩)|fail)
     generalize wr.alloc (J #[S I 1,S I y] 95)=wD at hatD hbD hd0 d0 d1 dlt q0 q1 q2 q3 qf qlt ⊢
     by_cases hgt:B.c1≤y-1
     ·have hmx:min B.c1 (y-1)=B.c1:=by omega
      have h5H:Hid (ClkAt ((wD.setCell ⟨w1.heap.size,1,none⟩ (S I B.c1)).drew) w1.heap.size (bx c l (k+1)).c0 (bx c l (k+1)).c1 (bx c l (k+1)).c2 (bx c l (k+1)).c3):=by
       show ClkAt _ _ _ _ _ _
       have h5:=(hatD.set 1 B.c1).below (bR _ _).drew
       rw[hstH.out]
       simpa[setClk,clk,hmx] using h5
      have hb5:Hid (Below w1.heap.size w1 ((wD.setCell ⟨w1.heap.size,1,none⟩ (S I B.c1)).drew)):=(hbD.setCell (nR _) _).drew
      clear hatD hbD
      go_region
      go_wp2
      go_roundw
      case rel=>exact ⟨k+1,by omega,by go_num,h5H.out,hb5.out⟩
      case measure=>simp[intOf];omega
     ·have hmx:min B.c1 (y-1)=(y-1):=by omega
      have h5H:Hid (ClkAt ((wD.setCell ⟨w1.heap.size,1,none⟩ (S I (y-1))).drew) w1.heap.size (bx c l (k+1)).c0 (bx c l (k+1)).c1 (bx c l (k+1)).c2 (bx c l (k+1)).c3):=by
       show ClkAt _ _ _ _ _ _
       have h5:=(hatD.set 1 (y-1)).below (bR _ _).drew
       rw[hstH.out]
       simpa[setClk,clk,hmx] using h5
      have hb5:Hid (Below w1.heap.size w1 ((wD.setCell ⟨w1.heap.size,1,none⟩ (S I (y-1))).drew)):=(hbD.setCell (nR _) _).drew
      clear hatD hbD
      go_region
      go_wp2
      go_roundw
      case rel=>exact ⟨k+1,by omega,by go_num,h5H.out,hb5.out⟩
      case measure=>simp[intOf];omega
    ·go_wp2_with (first|(go_at_call 92;refine (cT _ _).mono ?_;rintro e w' ⟨rfl,rfl⟩)|fail)
     generalize wr.alloc (J #[S I 2,S I y] 95)=wD at hatD hbD hd0 d0 d1 dlt q0 q1 q2 q3 qf qlt ⊢
     by_cases hgt:B.c2≤y-1
     ·have hmx:min B.c2 (y-1)=B.c2:=by omega
      have h5H:Hid (ClkAt ((wD.setCell ⟨w1.heap.size,2,none⟩ (S I B.c2)).drew) w1.heap.size (bx c l (k+1)).c0 (bx c l (k+1)).c1 (bx c l (k+1)).c2 (bx c l (k+1)).c3):=by
       show ClkAt _ _ _ _ _ _
       have h5:=(hatD.set 2 B.c2).below (bR _ _).drew
       rw[hstH.out]
       simpa[setClk,clk,hmx] using h5
      have hb5:Hid (Below w1.heap.size w1 ((wD.setCell ⟨w1.heap.size,2,none⟩ (S I B.c2)).drew)):=(hbD.setCell (nR _) _).drew
      clear hatD hbD
      go_region
      go_wp2
      go_roundw
      case rel=>exact ⟨k+1,by omega,by go_num,h5H.out,hb5.out⟩
      case measure=>simp[intOf];omega
     ·have hmx:min B.c2 (y-1)=(y-1):=by omega
      have h5H:Hid (ClkAt ((wD.setCell ⟨w1.heap.size,2,none⟩ (S I (y-1))).drew) w1.heap.size (bx c l (k+1)).c0 (bx c l (k+1)).c1 (bx c l (k+1)).c2 (bx c l (k+1)).c3):=by
       show ClkAt _ _ _ _ _ _
       have h5:=(hatD.set 2 (y-1)).below (bR _ _).drew
       rw[hstH.out]
       simpa[setClk,clk,hmx] using h5
      have hb5:Hid (Below w1.heap.size w1 ((wD.setCell ⟨w1.heap.size,2,none⟩ (S I (y-1))).drew)):=(hbD.setCell (nR _) _).drew
      clear hatD hbD
      go_region
      go_wp2
      go_roundw
      case rel=>exact ⟨k+1,by omega,by go_num,h5H.out,hb5.out⟩
      case measure=>simp[intOf];omega
    ·go_wp2_with (first|(go_at_call 92;refine (cT _ _).mono ?_;rintro e w' ⟨rfl,rfl⟩)|fail)
     generalize wr.alloc (J #[S I 3,S I y] 95)=wD at hatD hbD hd0 d0 d1 dlt q0 q1 q2 q3 qf qlt ⊢
     by_cases hgt:B.c3≤y-1
     ·have hmx:min B.c3 (y-1)=B.c3:=by omega
      have h5H:Hid (ClkAt ((wD.setCell ⟨w1.heap.size,3,none⟩ (S I B.c3)).drew) w1.heap.size (bx c l (k+1)).c0 (bx c l (k+1)).c1 (bx c l (k+1)).c2 (bx c l (k+1)).c3):=by
       show ClkAt _ _ _ _ _ _
       have h5:=(hatD.set 3 B.c3).below (bR _ _).drew
       rw[hstH.out]
       simpa[setClk,clk,hmx] using h5
      have hb5:Hid (Below w1.heap.size w1 ((wD.setCell ⟨w1.heap.size,3,none⟩ (S I B.c3)).drew)):=(hbD.setCell (nR _) _).drew
      clear hatD hbD
      go_region
      go_wp2
      go_roundw
      case rel=>exact ⟨k+1,by omega,by go_num,h5H.out,hb5.out⟩
      case measure=>simp[intOf];omega
     ·have hmx:min B.c3 (y-1)=(y-1):=by omega
      have h5H:Hid (ClkAt ((wD.setCell ⟨w1.heap.size,3,none⟩ (S I (y-1))).drew) w1.heap.size (bx c l (k+1)).c0 (bx c l (k+1)).c1 (bx c l (k+1)).c2 (bx c l (k+1)).c3):=by
       show ClkAt _ _ _ _ _ _
       have h5:=(hatD.set 3 (y-1)).below (bR _ _).drew
       rw[hstH.out]
       simpa[setClk,clk,hmx] using h5
      have hb5:Hid (Below w1.heap.size w1 ((wD.setCell ⟨w1.heap.size,3,none⟩ (S I (y-1))).drew)):=(hbD.setCell (nR _) _).drew
      clear hatD hbD
      go_region
      go_wp2
      go_roundw
      case rel=>exact ⟨k+1,by omega,by go_num,h5H.out,hb5.out⟩
      case measure=>simp[intOf];omega
   ·have hltz:¬(k:Int)<(l.length:Int):=by omega
    have hkl:bx c l k=ch c l:=by unfold bx ch;rw[List.take_of_length_le (by omega)]
    rw[hkl] at hat
    have hcR:=hcH.out.below hbel
    have hzR:=hz1.below hbel
    have hrlR:=hrl1.below hbel
    have hbwR:Below w.heap.size w wr:=hbw1.trans (hbel.mono hbw1.size)
    have hls:(ch c l).l=l:=sF c l
    have hok:=aY heH.out
    have hokL:=tP hok.1 hri
    have hrL:Row wr L (ch c l).l:=by rw[hls];exact hrlR
    have hLl:(ch c l).l.length≤400:=by rw[hls];exact hll
    obtain ⟨c0,c1,c2,c3,c4,clt,crow⟩:=(show CtxAt _ _ _ _ _ from hcR)
    obtain ⟨q0,q1,q2,q3,qf,qlt⟩:=(show ClkAt _ _ _ _ _ _ from hat)
    have hwoH:Hid (woE c l=fC c (ch c l)∧woC c l=if fC c (ch c l)=0 then ⟨(ch c l).c0,(ch c l).c1,(ch c l).c2,(ch c l).c3,gV c (ch c l)⟩ else aM):=by
     have h2:woE c l=fC c (ch c l):=by unfold woE;rw[heH.out];simp
     exact ⟨h2,by unfold woC;rw[h2]⟩
    clear hkl hcH
    obtain ⟨B,HB⟩:∃B,ch c l=B:=⟨_,rfl⟩
    rw[HB] at hat hls hokL hrL hLl q0 q1 q2 q3 hwoH
    have hms:=rk c B A L ca cl wr hok.1 hokL hok.2.1 hLl crow hrL
    rw[hls] at hms
    have hmsH:Hid _:=hms
    have hatK:Hid (ClkAt wr w1.heap.size B.c0 B.c1 B.c2 B.c3):=hat
    have HBH:Hid (ch c l=B):=HB
    clear hms hat crow hrL HB hok hokL hls
    go_wp2_with fail
    refine cM (show Calls _ _ _ _ _ from hmsH.out) ?_
    rintro e w3 ⟨C,cp,rfl,hrC,hC0,hCb,hb3⟩
    clear hmsH c0 c1 c2 c3 c4 q0 q1 q2 q3 qf
    have hat3:=hatK.out.below hb3
    have hz3:=hzR.below hb3
    have hbw3:Below w.heap.size w w3:=hbwR.trans (hb3.mono hbwR.size)
    have hz1lt:=hz1.lt
    have hCn:Hid (∀x,C=some x→x.block≠w.heap.size+1):=fun x hx=>by have:=hCb x hx;have:=hbel.size;omega
    have hCb3:Hid (∀x,C=some x→w.heap.size≤x.block):=fun x hx=>nT hbwR.size (hCb x hx)
    obtain ⟨M,HM⟩:∃M,gV c B=M:=⟨_,rfl⟩
    obtain ⟨E3,HE⟩:∃E,fC c B=E:=⟨_,rfl⟩
    rw[HM] at hrC hwoH ⊢
    rw[HE] at hwoH ⊢
    clear HM HE hatK hzR hCb
    by_cases h3:E3=0
    ·subst h3
     have hfin:Hid (woE c l=0∧woC c l=⟨B.c0,B.c1,B.c2,B.c3,M⟩):=⟨hwoH.out.1,by rw[hwoH.out.2,if_pos rfl]⟩
     obtain ⟨q0,q1,q2,q3,qf,qlt3⟩:=(show ClkAt _ _ _ _ _ _ from hat3)
     obtain ⟨z0,z1,z2,z3,z4,zf,zlt⟩:=(show ZAt _ _ from hz3)
     have hrCH:Hid (Row w3 C M):=hrC
     have hbw:Hid (Below w.heap.size w w3):=hbw3
     clear hrC hbw3 hwoH
     go_wp2
     rw[hfin.out.1,hfin.out.2]
     have h1:=hCn.out
     exact bodyPost_ret (v:= Z #[H #[S I B.c0,S I B.c1,S I B.c2,S I B.c3,O C M.length cp],S I 0]) (by simp[results,Tryz.results166,go_sem,z0,z1,z2,z3,z4]) rfl ⟨C,cp,rfl,((((hrCH.out.setCell _ h1).setCell _ h1).setCell _ h1).setCell _ h1).setCell _ h1,hC0,hCb3.out,bm hbw.out (by omega) _ _ _ _ _⟩
    ·have hfin:Hid (woE c l=E3∧woC c l=aM):=⟨hwoH.out.1,by rw[hwoH.out.2,if_neg h3]⟩
     have heb:(E3 != 0)=true:=by simpa using h3
     obtain ⟨z0,z1,z2,z3,z4,zf,zlt⟩:=(show ZAt _ _ from hz3)
     have hbw:Hid (Below w.heap.size w w3):=hbw3
     clear hrC hbw3 hwoH h3
     go_wp2
     rw[hfin.out.1,hfin.out.2]
     exact bodyPost_ret (v:= Z #[H #[S I 0,S I 0,S I 0,S I 0,O none 0 0],S I E3]) (by simp[results,Tryz.results166,go_sem,z0,z1,z2,z3,z4]) rfl ⟨none,0,rfl,oL rfl,fun _=>rfl,(fun x hx=>by cases hx),bm hbw.out (by omega) _ _ _ _ _⟩
 ·have hfin:Hid (woE c l=E1∧woC c l=aM):=by
   have h2:woE c l=E1:=by unfold woE;rw[hE1,if_pos h1]
   exact ⟨h2,by unfold woC;rw[h2,if_neg h1]⟩
  have heb:(E1 != 0)=true:=by simpa using h1
  clear h1 hE1
  obtain ⟨z0,z1,z2,z3,z4,zf,zlt⟩:=(show ZAt _ _ from hz1)
  have hbw:Hid (Below w.heap.size w w1):=hbw1
  go_wp2
  rw[hfin.out.1,hfin.out.2]
  exact bodyPost_ret (v:= Z #[H #[S I 0,S I 0,S I 0,S I 0,O none 0 0],S I E1]) (by simp[results,Tryz.results166,go_sem,z0,z1,z2,z3,z4]) rfl ⟨none,0,rfl,oL rfl,fun _=>rfl,(fun x hx=>by cases hx),bm hbw.out (by omega) _ _ _ _ _⟩

end Go.Proofs.YtkefkplnamkicaaGreatDoor
