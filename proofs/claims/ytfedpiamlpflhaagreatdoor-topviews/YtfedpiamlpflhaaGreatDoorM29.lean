/-
  What a Put and a Del do to a table that they are merged with: which cells it has then; which values and keys.
  Proved: what is known of two tables that were put to by two nodes: merged they keep both values; one of them with its row deleted, merged with the other, keeps the other's value. No condition beyond those named.
  Tables of one history: all cells and all dots that were seen are of one list of edits, each dot once.
  dot.Without: a context without the dots of a list.
-/
import Derived.Test.YtfedpiamlpflhaaGreatDoorM28
set_option maxRecDepth 100000
set_option maxHeartbeats 8000000
open Go.IntKind renaming i64 → I
open Go.Obj renaming cells → J
open Go.Value renaming int → S, slice → O, tuple → Z, agg → H
namespace Go.Proofs.YtfedpiamlpflhaaGreatDoor
open Go.RowKit Go.Sort Go.Shelf Go.Lib

theorem nP {l:List (Int×Int)} (hl:l.length≤400) (h:∀x∈l,al x=true):bK l=0:=by
 unfold bK
 rw[if_neg (by omega),if_neg]
 rw[ou fun j hj=>h _ (List.getElem_mem hj)]
 simp
theorem du {t:Tab} (h:aq t=0) (p:Cel→Bool):(am p t.e).length≤400∧∀x∈am p t.e,al x=true:=by
 refine ⟨nT (dD _ _) (ai h).2.1,?_⟩
 intro x hx
 obtain ⟨y,hy,rfl⟩:=List.mem_map.1 hx
 exact jG (cJ (ai h).1) (bP h (List.mem_filter.1 hy).1)
theorem jk {l:List (Int×Int)} (hl:l.length≤400) (h:∀x∈l,al x=true):aK (aB l)=0∧∀x,af (aB l) x=true↔x∈l:=by
 have hm:aB l=dN aH l:=by unfold aB;rw[if_pos (nP hl h)]
 have hc:Can (dN aH l):=mH rfl (by decide) h
 refine ⟨?_,fun x=> ?_⟩
 ·rw[hm]
  refine iJ hc ?_
  unfold dN
  have:=iK aH (srt l) (srt l).length
  rw[eU] at this ⊢
  have hz:aH.l.length=0:=rfl
  omega
 ·rw[hm,mI rfl h]
  constructor
  ·rintro (k|k)
   ·exfalso
    rcases (aG aH x).1 k with m|m
    ·cases m
    ·have h0:clk aH x.1=0:=by unfold clk aH;simp
     have:=m.2.2.1
     have:=m.2.2.2
     omega
   ·exact k
  ·exact oR
theorem fE {t:Tab} (h:aq t=0) {p:Cel→Bool} {y:Cel} (hy:y∈t.e):y.1∈am p t.e↔p y=true:=by
 unfold am
 rw[List.mem_map]
 constructor
 ·rintro ⟨z,hz,e⟩
  have:=List.mem_filter.1 hz
  rw[←vS h y hy z this.1 e];exact this.2
 ·intro k;exact ⟨y,List.mem_filter.2 ⟨hy,k⟩,rfl⟩

theorem vq {t:Tab} {n key col v:Int} (h:cY t n key col v=0):∃N:Int×Int,cH t n key col v=⟨(cH t n key col v).c,[(N,key,col,v)]⟩∧N.1=n∧af t.c N=false∧aq t=0∧aq (cH t n key col v)=0∧aV key col v=true∧∀x,af (cH t n key col v).c x=true↔x∈am (cX key col) t.e∨x=N:=by
 have hT:cH t n key col v=⟨aA (aB (am (cX key col) t.e)) (aB [(br t.c n).1]),[((br t.c n).1,key,col,v)]⟩:=by unfold cH;rw[if_pos h]
 have hp:aq t=0∧aV key col v=true∧(br t.c n).2=0∧bK [(br t.c n).1]=0∧aD (aB (am (cX key col) t.e)) (aB [(br t.c n).1])=0:=by
  unfold cY at h
  by_cases h1:aq t=0
  ·rw[if_neg (by simpa using h1)] at h
   cases h2:aV key col v
   ·rw[if_pos h2] at h;cases h
   ·rw[if_neg (by simp[h2])] at h
    by_cases h3:(br t.c n).2=0
    ·rw[if_neg (by simpa using h3)] at h
     by_cases h4:bK (am (cX key col) t.e)=0
     ·rw[if_neg (by simpa using h4)] at h
      by_cases h5:bK [(br t.c n).1]=0
      ·rw[if_neg (by simpa using h5)] at h
       exact ⟨h1,rfl,h3,h5,h⟩
      ·rw[if_pos h5] at h;exact absurd h h5
     ·rw[if_pos h4] at h;exact absurd h h4
    ·rw[if_pos h3] at h;exact absurd h h3
  ·rw[if_pos h1] at h;exact absurd h h1
 obtain ⟨h1,h2,h3,h4,h5⟩:=hp
 have hnn:=uY h3
 have hNr:al (br t.c n).1=true:=by
  unfold bK at h4
  by_cases hb:lS [(br t.c n).1]=true
  ·simp[hb] at h4
  ·cases hr:al (br t.c n).1
   ·exact absurd (by unfold lS;simp[hr]) hb
   ·rfl
 have hd:=du h1 (cX key col)
 have m1:=jk hd.1 hd.2
 have m2:=jk (l:=[(br t.c n).1]) (by simp) (by simpa using hNr)
 have hhas:∀x,af (aA (aB (am (cX key col) t.e)) (aB [(br t.c n).1])) x=true↔x∈am (cX key col) t.e∨x=(br t.c n).1:=by
  intro x
  rw[(da h5).2.2.2,m1.2,m2.2]
  simp
 refine ⟨(br t.c n).1,by rw[hT],hnn.1,hnn.2,h1,?_,h2,by rw[hT];exact hhas⟩
 rw[hT]
 refine je (da h5).2.1 (by simp) (by simp[Asc]) fun x hx=> ?_
 have hx':x=((br t.c n).1,key,col,v):=by simpa using hx
 subst hx'
 exact ⟨(hhas _).2 (oR rfl),h2⟩
theorem ti {t:Tab} {n key col v:Int} (h:cY t n key col v=0) (h0:ak t (cH t n key col v)=0):∃N:Int×Int,af t.c N=false∧N.1=n∧∀y,y∈(ac t (cH t n key col v)).e↔(y∈t.e∧cX key col y=false)∨y=(N,key,col,v):=by
 obtain ⟨N,hT,hN,hNt,ht,hp,_,hhas⟩:=vq h
 obtain ⟨_,_,hcl,_,_⟩:=bL h0
 refine ⟨N,hNt,hN,fun y=> ?_⟩
 rw[aO h0]
 show y∈mrg t _↔_
 rw[dg hcl]
 have hpe:y∈(cH t n key col v).e↔y=(N,key,col,v):=by rw[hT];simp
 rw[hpe]
 constructor
 ·rintro (⟨k1,k2⟩|⟨k1,k2⟩|⟨k1,k2⟩)
  ·exact oR k2
  ·refine oL ⟨k1,?_⟩
   cases hf:cX key col y
   ·rfl
   ·have:=(hhas y.1).2 (oL ((fE ht k1).2 hf))
    rw[k2] at this;cases this
  ·exact oR k1
 ·rintro (⟨k1,k2⟩|k1)
  ·refine oR (oL ⟨k1,?_⟩)
   cases hb:af (cH t n key col v).c y.1
   ·rfl
   ·rcases (hhas y.1).1 hb with m|m
    ·rw[(fE ht k1).1 m] at k2;cases k2
    ·have:=bP ht k1
     rw[m,hNt] at this;cases this
  ·refine oR (oR ⟨k1,?_⟩)
   rw[k1];exact hNt
theorem my {t:Tab} {key:Int} (h:ew t key=0):aq t=0∧key∈bV t.e∧ak t ⟨cC t key,[]⟩=0∧∀y,y∈(ac t ⟨cC t key,[]⟩).e↔y∈t.e∧y.2.1≠key:=by
 have hp:aq t=0∧t.e.any (ec key)=true:=by
  unfold ew at h
  by_cases h1:aq t=0
  ·rw[if_neg (by simpa using h1)] at h
   cases h2:inB key 0 49
   ·rw[if_pos h2] at h;cases h
   ·rw[if_neg (by simp[h2])] at h
    cases h3:t.e.any (ec key)
    ·rw[if_pos h3] at h;cases h
    ·exact ⟨h1,rfl⟩
  ·rw[if_pos h1] at h;exact absurd h h1
 obtain ⟨ht,hany⟩:=hp
 have hC:cC t key=aB (am (ec key) t.e):=by unfold cC;rw[if_pos h]
 have hd:=du ht (ec key)
 have hm:=jk hd.1 hd.2
 have hkey:key∈bV t.e:=by
  obtain ⟨y,hy,hf⟩:=List.any_eq_true.1 hany
  exact List.mem_map.2 ⟨y,hy,by simpa[ec] using hf⟩
 have hdt:aq ⟨cC t key,[]⟩=0:=by rw[hC];exact je hm.1 (by simp) (by simp[Asc]) (fun x hx=>by cases hx)
 have hcl:dB t ⟨cC t key,[]⟩=false:=noclash.2 fun x hx y hy=>by cases hy
 have hsub:∀x,af (cC t key) x=true→af t.c x=true:=by
  intro x hx
  rw[hC,hm.2] at hx
  obtain ⟨y,hy,rfl⟩:=List.mem_map.1 hx
  exact bP ht (List.mem_filter.1 hy).1
 have hj:=rC (ai ht).1 (ai hdt).1 hsub
 have hmem:∀y,y∈mrg t ⟨cC t key,[]⟩↔y∈t.e∧y.2.1≠key:=by
  intro y
  rw[dg hcl]
  constructor
  ·rintro (⟨_,k⟩|⟨k1,k2⟩|⟨k,_⟩)
   ·cases k
   ·refine ⟨k1,fun e=> ?_⟩
    have:af (cC t key) y.1=true:=by rw[hC,hm.2];exact (fE ht k1).2 (by simp[ec,e])
    rw[k2] at this;cases this
   ·cases k
  ·rintro ⟨k1,k2⟩
   refine oR (oL ⟨k1,?_⟩)
   show af (cC t key) y.1=false
   cases hb:af (cC t key) y.1
   ·rfl
   ·rw[hC,hm.2,fE ht k1] at hb
    simp[ec] at hb
    exact absurd hb k2
 have hlen:(mrg t ⟨cC t key,[]⟩).length≤400:=by
  have hsubl:(mrg t ⟨cC t key,[]⟩)=t.e.filter (fun y=>decide (y.2.1≠key)):=by
   refine j6 (fe ht hdt) (List.Pairwise.filter _ (dM ht)) fun y=> ?_
   rw[hmem,List.mem_filter]
   simp
  rw[hsubl]
  exact nT (List.length_filter_le _ _) (ai ht).2.1
 have h0:ak t ⟨cC t key,[]⟩=0:=gZ ht hdt hcl hj.1 hlen
 exact ⟨ht,hkey,h0,by rw[aO h0];exact hmem⟩
end Go.Proofs.YtfedpiamlpflhaaGreatDoor

namespace Go.Proofs.YtfedpiamlpflhaaGreatDoor

theorem xk {t:Tab} {n key col v:Int} (h:cY t n key col v=0) (h0:ak t (cH t n key col v)=0):∃N:Int×Int,aq t=0∧N.1=n∧af t.c N=false∧(∀y,y∈(ac t (cH t n key col v)).e↔(y∈t.e∧cX key col y=false)∨y=(N,key,col,v))∧∀x,af (ac t (cH t n key col v)).c x=true↔af t.c x=true∨x=N:=by
 obtain ⟨N,hT,hN,hNt,ht,hp,_,hhas⟩:=vq h
 obtain ⟨K,_,_,hc⟩:=ti h h0
 obtain ⟨_,_,hcl,hj,_⟩:=bL h0
 have hin:((N,key,col,v):Cel)∈(ac t (cH t n key col v)).e:=by
  rw[aO h0]
  show _∈mrg t _
  rw[dg hcl]
  exact oR (oR ⟨by rw[hT];simp,hNt⟩)
 obtain rfl:K=N:=by
  rcases (hc _).1 hin with k|k
  ·have:=bP ht k.1
   rw[show ((N,key,col,v):Cel).1=N from rfl,hNt] at this;cases this
  ·exact (congrArg (fun c:Cel=>c.1) k).symm
 refine ⟨K,ht,hN,hNt,hc,fun x=> ?_⟩
 rw[aO h0]
 show af (aA t.c _) x=true↔_
 rw[(da hj).2.2.2,hhas]
 constructor
 ·rintro (k|k|k)
  ·exact oL k
  ·obtain ⟨y,hy,rfl⟩:=List.mem_map.1 k
   exact oL (bP ht (List.mem_filter.1 hy).1)
  ·exact oR k
 ·rintro (k|k)
  ·exact oL k
  ·exact oR (oR k)

variable {t a b:Tab} {key col v w:Int} {N M:Int×Int}
theorem wB {t:Tab} {key:Int} (h:ew t key=0) (x:Int×Int) (hx:af (cC t key) x=true):af t.c x=true:=by
 have ht:=(my h).1
 have hC:cC t key=aB (am (ec key) t.e):=by unfold cC;rw[if_pos h]
 have hd:=du ht (ec key)
 have hm:=jk hd.1 hd.2
 rw[hC,hm.2] at hx
 obtain ⟨y,hy,rfl⟩:=List.mem_map.1 hx
 exact bP ht (List.mem_filter.1 hy).1
end Go.Proofs.YtfedpiamlpflhaaGreatDoor

namespace Go.Proofs.YtfedpiamlpflhaaGreatDoor
open Go.RowKit Go.Sort

theorem rD {l:List (Int×Int)}:∀ {m:List (Int×Int)},l.Nodup→(∀x∈l,x∈m)→l.length≤m.length:=by
 induction l with
 | nil=>intro m _ _;exact nZ _
 | cons x r ih =>
  intro m h hs
  have hx:=hs x (mS ..)
  have h2:=List.nodup_cons.1 h
  have h3:=ih (m:=m.erase x) h2.2 fun y hy=>(List.mem_erase_of_ne (fun e=>h2.1 (by rw[←e];exact hy))).2 (hs y (mC _ hy))
  rw[List.length_erase_of_mem hx] at h3
  have:0<m.length:=List.length_pos_of_mem hx
  simp only[List.length_cons]
  omega
structure Uni (U:List Cel):Prop where
 nd:(U.map (·.1)).Nodup
 len:U.length≤400
theorem Uni.uq {U:List Cel} (h:Uni U):∀x∈U,∀y∈U,x.1=y.1→x=y:=iN h.nd
structure Sub (U:List Cel) (t:Tab):Prop where
 ok:aq t=0
 cel:∀x∈t.e,x∈U
 ctx:∀d,af t.c d=true→∃x∈U,x.1=d
theorem Sub.mono {U V:List Cel} {t:Tab} (h:Sub U t) (k:∀x∈U,x∈V):Sub V t :=
 ⟨h.ok,fun x hx=>k x (h.cel x hx),fun d hd=>by obtain ⟨x,hx,e⟩:=h.ctx d hd;exact ⟨x,k x hx,e⟩⟩
theorem Sub.noclash {U:List Cel} {a b:Tab} (hU:Uni U) (ha:Sub U a) (hb:Sub U b):dB a b=false :=
 Go.Proofs.YtfedpiamlpflhaaGreatDoor.noclash.2 fun x hx y hy e=>hU.uq y (hb.cel y hy) x (ha.cel x hx) e
theorem sB {c:Ctx} {d:Int×Int} (h:d∈c.l):af c d=true:=by
 unfold af
 rw[List.contains_iff_mem.2 h]
 rfl
theorem xZ {l:List (Int×Int)} (h:l.Pairwise fun x y=>bq x y=true):l.Nodup:=by
 refine List.Pairwise.imp ?_ h
 intro a b hab e
 rw[e,rl] at hab
 cases hab
theorem Sub.merge {U:List Cel} {a b:Tab} (hU:Uni U) (ha:Sub U a) (hb:Sub U b):ak a b=0∧Sub U (ac a b)∧(∀d,af (ac a b).c d=true↔af a.c d=true∨af b.c d=true)∧∀x,x∈(ac a b).e↔(x∈a.e∧x∈b.e)∨(x∈a.e∧af b.c x.1=false)∨(x∈b.e∧af a.c x.1=false):=by
 have hcl:=Sub.noclash hU ha hb
 have hca:=(ai ha.ok).1
 have hcb:=(ai hb.ok).1
 have hja:=cJ hca
 have hjb:=cJ hcb
 have hdots:∀d,af (cS a.c b.c) d=true→d∈U.map (·.1):=fun d hd=>by
  rcases (ee hja hjb d).1 hd with h|h
  ·obtain ⟨x,hx,e⟩:=ha.ctx d h
   exact List.mem_map.2 ⟨x,hx,e⟩
  ·obtain ⟨x,hx,e⟩:=hb.ctx d h
   exact List.mem_map.2 ⟨x,hx,e⟩
 have hlen:(cS a.c b.c).l.length≤400:=by
  have:=rD (xZ (eO hja hjb).rise) fun d hd=>hdots d (sB hd)
  rw[List.length_map] at this
  have:=hU.len
  omega
 have hj:=l8 hca hcb hlen
 have hmem:=fun x=>dg hcl (x:=x)
 have hin:∀x∈mrg a b,x∈U:=fun x hx=>by
  rcases jJ hcl hx with h|h
  ·exact ha.cel x h
  ·exact hb.cel x h
 have hm:(mrg a b).length≤400:=by
  have:=rD (gP (fe ha.ok hb.ok)) (m:=U.map (·.1)) fun d hd=>by
   obtain ⟨x,hx,e⟩:=List.mem_map.1 hd
   exact List.mem_map.2 ⟨x,hin x hx,e⟩
  rw[List.length_map,List.length_map] at this
  have:=hU.len
  omega
 have h0:=gZ ha.ok hb.ok hcl hj hm
 have hT:=aO h0
 have hok:=d9 h0
 have hC:=(dO hj).2.2.2.1
 rw[hT] at hok ⊢
 refine ⟨h0,⟨hok,hin,fun d hd=> ?_⟩,fun d=> ?_,hmem⟩
 ·have:af (cS a.c b.c) d=true:=by rw[←hC];exact hd
  obtain ⟨x,hx,e⟩:=List.mem_map.1 (hdots d this)
  exact ⟨x,hx,e⟩
 ·show af (aA a.c b.c) d=true↔_
  rw[hC]
  exact ee hja hjb d
section
variable {U:List Cel} {a b c m:Tab}
theorem Sub.comm (hU:Uni U) (ha:Sub U a) (hb:Sub U b):ac a b=ac b a:=(sD (Sub.merge hU ha hb).1).2.symm
theorem Sub.assoc (hU:Uni U) (ha:Sub U a) (hb:Sub U b) (hc:Sub U c):ac (ac a b) c=ac a (ac b c) :=
 have h1:=Sub.merge hU ha hb
 have h2:=Sub.merge hU hb hc
 pm h1.1 (Sub.merge hU h1.2.1 hc).1 h2.1 (Sub.merge hU ha h2.2.1).1
theorem Sub.idem (ha:Sub U a):ac a a=a:=(qC ha.ok).2
def Bel (a b:Tab):Prop:=ac b a=b
theorem Bel.refl (ha:Sub U a):Bel a a:=Sub.idem ha
theorem Bel.left (hU:Uni U) (ha:Sub U a) (hb:Sub U b):Bel a (ac a b):=(pl (Sub.merge hU ha hb).1).2
theorem Bel.right (hU:Uni U) (ha:Sub U a) (hb:Sub U b):Bel b (ac a b):=by
 rw[Sub.comm hU ha hb]
 exact Bel.left hU hb ha
theorem Bel.trans (hU:Uni U) (ha:Sub U a) (hb:Sub U b) (hc:Sub U c) (h:Bel a b) (k:Bel b c):Bel a c:=by
 unfold Bel at *
 rw[←k,Sub.assoc hU hc hb ha,h]
theorem Bel.anti (hU:Uni U) (ha:Sub U a) (hb:Sub U b) (h:Bel a b) (k:Bel b a):a=b:=by
 exact k.symm.trans ((Sub.comm hU ha hb).trans h)
theorem Bel.both (hU:Uni U) (ha:Sub U a) (hb:Sub U b) (hm:Sub U m) (h:Bel a m) (k:Bel b m):Bel (ac a b) m:=by
 unfold Bel at *
 rw[←Sub.assoc hU hm ha hb,h,k]
end

theorem pq (a b:Ctx) (A B:Option Addr) (ca cb:Nat) (w:World) (hoka:bu a=true) (hokb:bu b=true) (hal4:a.l.length≤400) (hbl4:b.l.length≤400) (hra:Row w A a.l) (hrb:Row w B b.l) :
  Calls Tryz.prog 180 #[H #[S I a.c0,S I a.c1,S I a.c2,S I a.c3,O A a.l.length ca],H #[S I b.c0,S I b.c1,S I b.c2,S I b.c3,O B b.l.length cb]] w fun e w'=>∃C cp,e= .returned (Z #[O C (gm a b).length cp,S I (fG a b)])∧Row w' C (gm a b)∧(C=none→cp=0)∧(∀x,C=some x→w.heap.size≤x.block)∧Below w.heap.size w w':=by
 have hg0:Gr w ((w.alloc (J #[S I a.c0,S I a.c1,S I a.c2,S I a.c3,O A a.l.length ca] 40)).alloc (J #[S I b.c0,S I b.c1,S I b.c2,S I b.c3,O B b.l.length cb] 40)):=((gR w).alloc _).alloc _
 have ha1:CtxAt ((w.alloc (J #[S I a.c0,S I a.c1,S I a.c2,S I a.c3,O A a.l.length ca] 40)).alloc (J #[S I b.c0,S I b.c1,S I b.c2,S I b.c3,O B b.l.length cb] 40)) w.heap.size a A ca:=(CtxAt.new 40 hra rfl).gr ((gR _).alloc _)
 have hb1:CtxAt ((w.alloc (J #[S I a.c0,S I a.c1,S I a.c2,S I a.c3,O A a.l.length ca] 40)).alloc (J #[S I b.c0,S I b.c1,S I b.c2,S I b.c3,O B b.l.length cb] 40)) (w.heap.size+1) b B cb:=CtxAt.new 40 (hrb.gr ((gR _).alloc _)) (by simp)
 have hok:Hid (bu a=true∧bu b=true):=⟨hoka,hokb⟩
 clear hoka hokb
 have hAb:∀x,A=some x→a.l≠[]→x.block<w.heap.size+1+1:=fun x hx hl=>by have:=hra.lt x hx hl;omega
 have hBb:∀x,B=some x→b.l≠[]→x.block<w.heap.size+1+1:=fun x hx hl=>by have:=hrb.lt x hx hl;omega
 have hbw1:Hid (Below w.heap.size w ((w.alloc (J #[S I a.c0,S I a.c1,S I a.c2,S I a.c3,O A a.l.length ca] 40)).alloc (J #[S I b.c0,S I b.c1,S I b.c2,S I b.c3,O B b.l.length cb] 40))):=hg0.below
 clear hg0
 go_enter Tryz.func180,Tryz.ntmps180
 go_wp2
 go_loopw [6,8] (fun v i wr=>∃k:Nat,k≤4∧i= S I k∧(bm a b k).length≤400∧Own wr (w.heap.size+1+1) v (bm a b k)∧Below (w.heap.size+1+1) ((w.alloc (J #[S I a.c0,S I a.c1,S I a.c2,S I a.c3,O A a.l.length ca] 40)).alloc (J #[S I b.c0,S I b.c1,S I b.c2,S I b.c3,O B b.l.length cb] 40)) wr) (fun _ i _=>4-(intOf i).toNat)
 case atStart=>exact ⟨0,by omega,rfl,by simp[bm],Own.nil _ _,bR _ _⟩
 case round =>
  obtain ⟨k,hk,rfl,hml,hov,hbel⟩:=hrel
  obtain ⟨A1,cap1,rfl,hA1,hrow1,hlt1⟩:=hov.row
  have haR:=CtxAt.belowB ha1 hbel (by omega) hAb
  have hbR:=CtxAt.belowB hb1 hbel (by omega) hBb
  obtain ⟨a0,a1,a2,a3,a4,alt,arow⟩:=(show CtxAt _ _ _ _ _ from haR)
  obtain ⟨b0,b1,b2,b3,b4,blt,brow⟩:=(show CtxAt _ _ _ _ _ from hbR)
  have hsR:w.heap.size+1+1≤wr.heap.size:=by have h1:=hbel.size;simp at h1;omega
  by_cases hlt:k<4
  ·have hltz:(k:Int)<4:=by omega
   have hln:=sH a b k
   have hcall:=ot a b A B ca cb (O A1 (bm a b k).length cap1) (bm a b k) k (w.heap.size+1+1) wr (by omega) hltz hok.out.1 hok.out.2 hal4 hbl4 (by omega) arow brow hAb hBb hov hsR
   have hcallH:Hid _:=hcall
   clear hcall hov hrow1
   go_wp2_with fail
   refine cM (show Calls _ _ _ _ _ from hcallH.out) ?_
   rintro e w2 ⟨v2,rfl,hov2,hb2⟩
   change Own w2 _ v2 (bm a b (k+1)) at hov2
   clear hcallH a0 a1 a2 a3 a4 b0 b1 b2 b3 b4
   obtain ⟨A2,cap2,rfl,hA2,hrow2,_⟩:=hov2.row
   have hov2H:Hid (Own w2 (w.heap.size+1+1) (O A2 (bm a b (k+1)).length cap2) (bm a b (k+1))):=hov2
   have hbelH:Hid (Below (w.heap.size+1+1) ((w.alloc (J #[S I a.c0,S I a.c1,S I a.c2,S I a.c3,O A a.l.length ca] 40)).alloc (J #[S I b.c0,S I b.c1,S I b.c2,S I b.c3,O B b.l.length cb] 40)) w2):=hbel.trans hb2
   clear hov2 hbel hb2
   by_cases h400:400<(bm a b (k+1)).length
   ·have h400z:(400:Int)<((bm a b (k+1)).length:Int):=by omega
    have hfin:Hid (fG a b=2∧gm a b=[]):=qI (by omega) h400
    go_wp2
    go_ret2
    rw[hfin.out.1,hfin.out.2]
    exact ⟨none,0,rfl,oL rfl,fun _=>rfl,(fun x hx=>by cases hx),hbw1.out.trans (hbelH.out.mono (by omega))⟩
   ·have h400z:¬(400:Int)<((bm a b (k+1)).length:Int):=by omega
    go_wp2
    go_roundw
    case rel=>exact ⟨k+1,by omega,by go_num,by omega,hov2H.out,hbelH.out⟩
    case measure=>simp[intOf];omega
  ·obtain rfl:k=4:=by omega
   have hfin:Hid (fG a b=0∧gm a b=bm a b 4):=by
    exact ⟨by unfold fG;rw[if_neg (by omega)],by unfold gm;rw[if_neg (by omega)]⟩
   have hovH:Hid (Row wr A1 (bm a b 4)):=hrow1
   have hnew:Hid (∀x,A1=some x→w.heap.size≤x.block):=fun x hx=>by have:=(hlt1 x hx).1;omega
   clear a0 a1 a2 a3 a4 b0 b1 b2 b3 b4
   go_wp2
   go_ret2
   rw[hfin.out.1,hfin.out.2]
   exact ⟨A1,cap1,rfl,hovH.out,hA1,hnew.out,hbw1.out.trans (hbel.mono (by omega))⟩

theorem ClkAt.belowB {w w':World} {B N:Nat} {x0 x1 x2 x3:Int} (h:ClkAt w B x0 x1 x2 x3) (k:Below N w w') (hB:B<N):ClkAt w' B x0 x1 x2 x3 :=
 ⟨(k.cell (p:=⟨B,0,none⟩) hB).trans h.k0,(k.cell (p:=⟨B,1,none⟩) hB).trans h.k1,(k.cell (p:=⟨B,2,none⟩) hB).trans h.k2,(k.cell (p:=⟨B,3,none⟩) hB).trans h.k3,fun j=>(k.frozen (p:=⟨B,j,none⟩) hB).trans (h.fz j),nL h.lt k.size⟩
theorem ClkAt.below {w w':World} {B:Nat} {x0 x1 x2 x3:Int} (h:ClkAt w B x0 x1 x2 x3) (k:Below w.heap.size w w'):ClkAt w' B x0 x1 x2 x3:=h.belowB k h.lt

def gl (b:Ctx) (d:Int×Int):Ctx:=if inB d.1 0 3 && decide (1≤d.2) then setClk b d.1 (min (clk b d.1) (d.2-1)) else b
theorem gC {b:Ctx} {d:Int×Int} (h:al d=true):gl b d=setClk b d.1 (min (clk b d.1) (d.2-1)):=by
 have:(inB d.1 0 3 && decide (1≤d.2))=true:=by
  unfold al inB at h
  simp only[Bool.and_eq_true,decide_eq_true_eq] at h
  simp[inB];omega
 unfold gl
 rw[if_pos this]
def bk (c:Ctx) (l:List (Int×Int)) (k:Nat):Ctx:=(l.take k).foldl gl ⟨c.c0,c.c1,c.c2,c.c3,l⟩
theorem qA {c:Ctx} {l:List (Int×Int)} {k:Nat} (h:k<l.length) {x:Int×Int} (hx:l[k]=x):bk c l (k+1)=gl (bk c l k) x:=by
 unfold bk
 rw[List.take_succ_eq_append_getElem h,List.foldl_append,hx]
 rfl
def bS (c:Ctx) (l:List (Int×Int)):Ctx:=l.foldl gl ⟨c.c0,c.c1,c.c2,c.c3,l⟩
theorem wW (b:Ctx) (d:Int×Int):(gl b d).l=b.l:=by
 unfold gl
 by_cases h:(inB d.1 0 3 && decide (1≤d.2))=true
 ·rw[if_pos h,dR]
 ·rw[if_neg h]
theorem sv (m:List (Int×Int)):∀b:Ctx,(m.foldl gl b).l=b.l:=by
 induction m with
 | nil=>intro b;rfl
 | cons d m ih=>intro b;rw[List.foldl_cons,ih,wW]
theorem qz (c:Ctx) (l:List (Int×Int)):(bS c l).l=l:=by unfold bS;rw[sv]
theorem uL {b:Ctx} {d:Int×Int} (hb:bu b=true) (hd:al d=true):bu (gl b d)=true:=by
 rw[gC hd]
 unfold al inB at hd
 simp only[Bool.and_eq_true,decide_eq_true_eq] at hd
 obtain ⟨⟨h0,h3⟩,h1,h2⟩:=hd
 have hx:d.1=0∨d.1=1∨d.1=2∨d.1=3:=by omega
 obtain ⟨x,y⟩:=d
 simp only at hx h0 h3 h1 h2
 unfold bu inB at hb ⊢
 simp only[Bool.and_eq_true,decide_eq_true_eq] at hb ⊢
 rcases hx with rfl|rfl|rfl|rfl<;>simp[setClk,clk]<;>omega
theorem rE {c:Ctx} {l:List (Int×Int)} (hc:bu c=true) (hl:∀x∈l,al x=true):bu (bS c l)=true:=by
 unfold bS
 have:∀(m:List (Int×Int)) (b:Ctx),bu b=true→(∀x∈m,al x=true)→bu (m.foldl gl b)=true:=by
  intro m
  induction m with
  | nil=>intro b hb _;exact hb
  | cons d m ih=>intro b hb hm;rw[List.foldl_cons];exact ih _ (uL hb (hm d (by simp))) (fun x hx=>hm x (by simp[hx]))
 exact this l _ hc hl
def woE (c:Ctx) (l:List (Int×Int)):Int:=if aK c≠0 then aK c else fG c (bS c l)
def woC (c:Ctx) (l:List (Int×Int)):Ctx:=if woE c l=0 then ⟨(bS c l).c0,(bS c l).c1,(bS c l).c2,(bS c l).c3,gm c (bS c l)⟩ else aH

theorem pO (c:Ctx) (l:List (Int×Int)) (A L:Option Addr) (ca cl:Nat) (w:World) (hl:c.l.length≤maxLen) (hll:l.length≤400) (hri:∀x∈l,al x=true) (hr:Row w A c.l) (hrl:Row w L l) :
  Calls Tryz.prog 142 #[H #[S I c.c0,S I c.c1,S I c.c2,S I c.c3,O A c.l.length ca],O L l.length cl] w fun e w'=>∃C cp,e= .returned (Z #[H #[S I (woC c l).c0,S I (woC c l).c1,S I (woC c l).c2,S I (woC c l).c3,O C (woC c l).l.length cp],S I (woE c l)])∧Row w' C (woC c l).l∧(C=none→cp=0)∧(∀x,C=some x→w.heap.size≤x.block)∧Below w.heap.size w w':=by
 have mixed:Tryz.prog.follows .mixedOrders=true:=by kernel_rfl
 have hg0:Gr w ((w.alloc (J #[S I c.c0,S I c.c1,S I c.c2,S I c.c3,O A c.l.length ca] 40)).alloc (J #[S I 0,S I 0,S I 0,S I 0,O none 0 0] 40)):=((gR w).alloc _).alloc _
 have hc0:CtxAt ((w.alloc (J #[S I c.c0,S I c.c1,S I c.c2,S I c.c3,O A c.l.length ca] 40)).alloc (J #[S I 0,S I 0,S I 0,S I 0,O none 0 0] 40)) w.heap.size c A ca:=(CtxAt.new 40 hr rfl).gr ((gR _).alloc _)
 have hz0:ZAt ((w.alloc (J #[S I c.c0,S I c.c1,S I c.c2,S I c.c3,O A c.l.length ca] 40)).alloc (J #[S I 0,S I 0,S I 0,S I 0,O none 0 0] 40)) (w.heap.size+1):=ZAt.new _ 40 (by simp)
 have hck:=eL c A ca _ hl hc0.row
 have hckH:Hid _:=hck
 clear hck
 go_enter Tryz.func142,Tryz.ntmps142
 go_wp2_with fail
 refine cM (show Calls _ _ _ _ _ from hckH.out) ?_
 rintro e w1 ⟨rfl,hg1⟩
 clear hckH
 have hc1:=hc0.gr hg1
 have hz1:=hz0.below hg1.below
 have hbw1:Below w.heap.size w w1:=(hg0.trans hg1).below
 have hrl1:=hrl.gr (hg0.trans hg1)
 clear hg0 hc0 hz0 hg1 hr hrl
 obtain ⟨E1,hE1⟩:∃E,aK c=E:=⟨_,rfl⟩
 rw[hE1]
 by_cases h1:E1=0
 ·subst h1
  have heH:Hid (aK c=0):=hE1
  clear hE1
  obtain ⟨c0,c1,c2,c3,c4,clt,crow⟩:=(show CtxAt _ _ _ _ _ from hc1)
  have hk1:ClkAt (w1.alloc (J #[S I c.c0,S I c.c1,S I c.c2,S I c.c3] 37)) w1.heap.size c.c0 c.c1 c.c2 c.c3:=⟨aa (gR _) rfl,aa (gR _) rfl,aa (gR _) rfl,aa (gR _) rfl,fun j=>eu (gR _) j,by simp⟩
  have hb1:Below w1.heap.size w1 (w1.alloc (J #[S I c.c0,S I c.c1,S I c.c2,S I c.c3] 37)):=((gR _).alloc _).below
  go_wp2
  generalize w1.alloc (J #[S I c.c0,S I c.c1,S I c.c2,S I c.c3] 37)=w2 at hk1 hb1 ⊢
  have hcH:Hid (CtxAt w1 w.heap.size c A ca):=hc1
  clear c0 c1 c2 c3 c4 clt crow hc1
  go_loopw [22] (fun i wr=>∃k:Nat,k≤l.length∧i= S I k∧ClkAt wr w1.heap.size (bk c l k).c0 (bk c l k).c1 (bk c l k).c2 (bk c l k).c3∧Below w1.heap.size w1 wr) (fun i _=>l.length-(intOf i).toNat)
  case atStart=>exact ⟨0,by omega,rfl,hk1,hb1⟩
  case round =>
   obtain ⟨k,hk,rfl,hat,hbel⟩:=hrel
   have hsR:=hbel.size
   have hltR:=hat.lt
   by_cases hlt:k<l.length
   ·have hltz:(k:Int)<(l.length:Int):=by omega
    obtain ⟨bb,off,rfl,hbb,hcs⟩:=(hrl1.below hbel).at hlt
    obtain ⟨⟨x,y⟩,hx⟩:∃x,l[k]=x:=⟨_,rfl⟩
    obtain ⟨e0,e1⟩:=hcs k hlt
    rw[hx] at e0 e1
    have hst:=qA (c:=c) hlt hx
    have hrx:=hri _ (gM hlt)
    rw[hx] at hrx
    rw[gC hrx] at hst
    have hrb:(0≤x∧x≤3)∧1≤y∧y≤1099511627776:=by
     unfold al inB at hrx
     simpa only[Bool.and_eq_true,decide_eq_true_eq] using hrx
    obtain ⟨⟨hx0,hx3⟩,hy1,hy2⟩:=hrb
    obtain ⟨B,HB⟩:∃B,bk c l k=B:=⟨_,rfl⟩
    rw[HB] at hat hst
    have hstH:Hid (bk c l (k+1)=setClk B x (min (clk B x) (y-1))):=hst
    have hgD:Gr wr (wr.alloc (J #[S I x,S I y] 123)):=(gR _).alloc _
    have hd0:=(DotAt.new (w:=wr) (x:=x) (y:=y) 123 rfl)
    have hatD:ClkAt (wr.alloc (J #[S I x,S I y] 123)) w1.heap.size B.c0 B.c1 B.c2 B.c3:=hat.below hgD.below
    have hbD:Below w1.heap.size w1 (wr.alloc (J #[S I x,S I y] 123)):=hbel.trans (hgD.below.mono hsR)
    have hatH:Hid (ClkAt wr w1.heap.size B.c0 B.c1 B.c2 B.c3):=hat
    clear hcs hx hrx HB hat hst
    obtain ⟨d0,d1,dlt⟩:=(show DotAt _ _ _ _ from hd0)
    obtain ⟨q0,q1,q2,q3,qf,qlt⟩:=(show ClkAt _ _ _ _ _ _ from hatD)
    have h4:x=0∨x=1∨x=2∨x=3:=by omega
    rcases h4 with rfl|rfl|rfl|rfl
    ·go_wp2_with (first|(go_at_call 76;refine (cK _ _).mono ?_;rintro e w' ⟨rfl,rfl⟩)|fail)
     generalize wr.alloc (J #[S I 0,S I y] 123)=wD at hatD hbD hd0 d0 d1 dlt q0 q1 q2 q3 qf qlt ⊢
     by_cases hgt:B.c0≤y-1
     ·have hmx:min B.c0 (y-1)=B.c0:=by omega
      have h5H:Hid (ClkAt ((wD.setCell ⟨w1.heap.size,0,none⟩ (S I B.c0)).drew) w1.heap.size (bk c l (k+1)).c0 (bk c l (k+1)).c1 (bk c l (k+1)).c2 (bk c l (k+1)).c3):=by
       show ClkAt _ _ _ _ _ _
       have h5:=(hatD.set 0 B.c0).below (bR _ _).drew
       rw[hstH.out]
       simpa[setClk,clk,hmx] using h5
      have hb5:Hid (Below w1.heap.size w1 ((wD.setCell ⟨w1.heap.size,0,none⟩ (S I B.c0)).drew)):=(hbD.setCell (nR _) _).drew
      clear hatD hbD
      go_region
      go_wp2
      go_roundw
      case rel=>exact ⟨k+1,by omega,by go_num,h5H.out,hb5.out⟩
      case measure=>simp[intOf];omega
     ·have hmx:min B.c0 (y-1)=(y-1):=by omega
      have h5H:Hid (ClkAt ((wD.setCell ⟨w1.heap.size,0,none⟩ (S I (y-1))).drew) w1.heap.size (bk c l (k+1)).c0 (bk c l (k+1)).c1 (bk c l (k+1)).c2 (bk c l (k+1)).c3):=by
       show ClkAt _ _ _ _ _ _
       have h5:=(hatD.set 0 (y-1)).below (bR _ _).drew
       rw[hstH.out]
       simpa[setClk,clk,hmx] using h5
      have hb5:Hid (Below w1.heap.size w1 ((wD.setCell ⟨w1.heap.size,0,none⟩ (S I (y-1))).drew)):=(hbD.setCell (nR _) _).drew
      clear hatD hbD
      go_region
      go_wp2
      go_roundw
      case rel=>exact ⟨k+1,by omega,by go_num,h5H.out,hb5.out⟩
      case measure=>simp[intOf];omega
    ·go_wp2_with (first|(go_at_call 76;refine (cK _ _).mono ?_;rintro e w' ⟨rfl,rfl⟩)|fail)
     generalize wr.alloc (J #[S I 1,S I y] 123)=wD at hatD hbD hd0 d0 d1 dlt q0 q1 q2 q3 qf qlt ⊢
     by_cases hgt:B.c1≤y-1
     ·have hmx:min B.c1 (y-1)=B.c1:=by omega
      have h5H:Hid (ClkAt ((wD.setCell ⟨w1.heap.size,1,none⟩ (S I B.c1)).drew) w1.heap.size (bk c l (k+1)).c0 (bk c l (k+1)).c1 (bk c l (k+1)).c2 (bk c l (k+1)).c3):=by
       show ClkAt _ _ _ _ _ _
       have h5:=(hatD.set 1 B.c1).below (bR _ _).drew
       rw[hstH.out]
       simpa[setClk,clk,hmx] using h5
      have hb5:Hid (Below w1.heap.size w1 ((wD.setCell ⟨w1.heap.size,1,none⟩ (S I B.c1)).drew)):=(hbD.setCell (nR _) _).drew
      clear hatD hbD
      go_region
      go_wp2
      go_roundw
      case rel=>exact ⟨k+1,by omega,by go_num,h5H.out,hb5.out⟩
      case measure=>simp[intOf];omega
     ·have hmx:min B.c1 (y-1)=(y-1):=by omega
      have h5H:Hid (ClkAt ((wD.setCell ⟨w1.heap.size,1,none⟩ (S I (y-1))).drew) w1.heap.size (bk c l (k+1)).c0 (bk c l (k+1)).c1 (bk c l (k+1)).c2 (bk c l (k+1)).c3):=by
       show ClkAt _ _ _ _ _ _
       have h5:=(hatD.set 1 (y-1)).below (bR _ _).drew
       rw[hstH.out]
       simpa[setClk,clk,hmx] using h5
      have hb5:Hid (Below w1.heap.size w1 ((wD.setCell ⟨w1.heap.size,1,none⟩ (S I (y-1))).drew)):=(hbD.setCell (nR _) _).drew
      clear hatD hbD
      go_region
      go_wp2
      go_roundw
      case rel=>exact ⟨k+1,by omega,by go_num,h5H.out,hb5.out⟩
      case measure=>simp[intOf];omega
    ·go_wp2_with (first|(go_at_call 76;refine (cK _ _).mono ?_;rintro e w' ⟨rfl,rfl⟩)|fail)
     generalize wr.alloc (J #[S I 2,S I y] 123)=wD at hatD hbD hd0 d0 d1 dlt q0 q1 q2 q3 qf qlt ⊢
     by_cases hgt:B.c2≤y-1
     ·have hmx:min B.c2 (y-1)=B.c2:=by omega
      have h5H:Hid (ClkAt ((wD.setCell ⟨w1.heap.size,2,none⟩ (S I B.c2)).drew) w1.heap.size (bk c l (k+1)).c0 (bk c l (k+1)).c1 (bk c l (k+1)).c2 (bk c l (k+1)).c3):=by
       show ClkAt _ _ _ _ _ _
       have h5:=(hatD.set 2 B.c2).below (bR _ _).drew
       rw[hstH.out]
       simpa[setClk,clk,hmx] using h5
      have hb5:Hid (Below w1.heap.size w1 ((wD.setCell ⟨w1.heap.size,2,none⟩ (S I B.c2)).drew)):=(hbD.setCell (nR _) _).drew
      clear hatD hbD
      go_region
      go_wp2
      go_roundw
      case rel=>exact ⟨k+1,by omega,by go_num,h5H.out,hb5.out⟩
      case measure=>simp[intOf];omega
     ·have hmx:min B.c2 (y-1)=(y-1):=by omega
      have h5H:Hid (ClkAt ((wD.setCell ⟨w1.heap.size,2,none⟩ (S I (y-1))).drew) w1.heap.size (bk c l (k+1)).c0 (bk c l (k+1)).c1 (bk c l (k+1)).c2 (bk c l (k+1)).c3):=by
       show ClkAt _ _ _ _ _ _
       have h5:=(hatD.set 2 (y-1)).below (bR _ _).drew
       rw[hstH.out]
       simpa[setClk,clk,hmx] using h5
      have hb5:Hid (Below w1.heap.size w1 ((wD.setCell ⟨w1.heap.size,2,none⟩ (S I (y-1))).drew)):=(hbD.setCell (nR _) _).drew
      clear hatD hbD
      go_region
      go_wp2
      go_roundw
      case rel=>exact ⟨k+1,by omega,by go_num,h5H.out,hb5.out⟩
      case measure=>simp[intOf];omega
    ·go_wp2_with (first|(go_at_call 76;refine (cK _ _).mono ?_;rintro e w' ⟨rfl,rfl⟩)|fail)
     generalize wr.alloc (J #[S I 3,S I y] 123)=wD at hatD hbD hd0 d0 d1 dlt q0 q1 q2 q3 qf qlt ⊢
     by_cases hgt:B.c3≤y-1
     ·have hmx:min B.c3 (y-1)=B.c3:=by omega
      have h5H:Hid (ClkAt ((wD.setCell ⟨w1.heap.size,3,none⟩ (S I B.c3)).drew) w1.heap.size (bk c l (k+1)).c0 (bk c l (k+1)).c1 (bk c l (k+1)).c2 (bk c l (k+1)).c3):=by
       show ClkAt _ _ _ _ _ _
       have h5:=(hatD.set 3 B.c3).below (bR _ _).drew
       rw[hstH.out]
       simpa[setClk,clk,hmx] using h5
      have hb5:Hid (Below w1.heap.size w1 ((wD.setCell ⟨w1.heap.size,3,none⟩ (S I B.c3)).drew)):=(hbD.setCell (nR _) _).drew
      clear hatD hbD
      go_region
      go_wp2
      go_roundw
      case rel=>exact ⟨k+1,by omega,by go_num,h5H.out,hb5.out⟩
      case measure=>simp[intOf];omega
     ·have hmx:min B.c3 (y-1)=(y-1):=by omega
      have h5H:Hid (ClkAt ((wD.setCell ⟨w1.heap.size,3,none⟩ (S I (y-1))).drew) w1.heap.size (bk c l (k+1)).c0 (bk c l (k+1)).c1 (bk c l (k+1)).c2 (bk c l (k+1)).c3):=by
       show ClkAt _ _ _ _ _ _
       have h5:=(hatD.set 3 (y-1)).below (bR _ _).drew
       rw[hstH.out]
       simpa[setClk,clk,hmx] using h5
      have hb5:Hid (Below w1.heap.size w1 ((wD.setCell ⟨w1.heap.size,3,none⟩ (S I (y-1))).drew)):=(hbD.setCell (nR _) _).drew
      clear hatD hbD
      go_region
      go_wp2
      go_roundw
      case rel=>exact ⟨k+1,by omega,by go_num,h5H.out,hb5.out⟩
      case measure=>simp[intOf];omega
   ·have hltz:¬(k:Int)<(l.length:Int):=by omega
    have hkl:bk c l k=bS c l:=by unfold bk bS;rw[List.take_of_length_le (by omega)]
    rw[hkl] at hat
    have hcR:=hcH.out.below hbel
    have hzR:=hz1.below hbel
    have hrlR:=hrl1.below hbel
    have hbwR:Below w.heap.size w wr:=hbw1.trans (hbel.mono hbw1.size)
    have hls:(bS c l).l=l:=qz c l
    have hok:=bv heH.out
    have hokL:=rE hok.1 hri
    have hrL:Row wr L (bS c l).l:=by rw[hls];exact hrlR
    have hLl:(bS c l).l.length≤400:=by rw[hls];exact hll
    obtain ⟨c0,c1,c2,c3,c4,clt,crow⟩:=(show CtxAt _ _ _ _ _ from hcR)
    obtain ⟨q0,q1,q2,q3,qf,qlt⟩:=(show ClkAt _ _ _ _ _ _ from hat)
    have hwoH:Hid (woE c l=fG c (bS c l)∧woC c l=if fG c (bS c l)=0 then ⟨(bS c l).c0,(bS c l).c1,(bS c l).c2,(bS c l).c3,gm c (bS c l)⟩ else aH):=by
     have h2:woE c l=fG c (bS c l):=by unfold woE;rw[heH.out];simp
     exact ⟨h2,by unfold woC;rw[h2]⟩
    clear hkl hcH
    obtain ⟨B,HB⟩:∃B,bS c l=B:=⟨_,rfl⟩
    rw[HB] at hat hls hokL hrL hLl q0 q1 q2 q3 hwoH
    have hms:=pq c B A L ca cl wr hok.1 hokL hok.2.1 hLl crow hrL
    rw[hls] at hms
    have hmsH:Hid _:=hms
    have hatK:Hid (ClkAt wr w1.heap.size B.c0 B.c1 B.c2 B.c3):=hat
    have HBH:Hid (bS c l=B):=HB
    clear hms hat crow hrL HB hok hokL hls
    go_wp2_with fail
    refine cM (show Calls _ _ _ _ _ from hmsH.out) ?_
    rintro e w3 ⟨C,cp,rfl,hrC,hC0,hCb,hb3⟩
    clear hmsH c0 c1 c2 c3 c4 q0 q1 q2 q3 qf
    have hat3:=hatK.out.below hb3
    have hz3:=hzR.below hb3
    have hbw3:Below w.heap.size w w3:=hbwR.trans (hb3.mono hbwR.size)
    have hz1lt:=hz1.lt
    have hCn:Hid (∀x,C=some x→x.block≠w.heap.size+1):=fun x hx=>by have:=hCb x hx;have:=hbel.size;omega
    have hCb3:Hid (∀x,C=some x→w.heap.size≤x.block):=fun x hx=>nT hbwR.size (hCb x hx)
    obtain ⟨M,HM⟩:∃M,gm c B=M:=⟨_,rfl⟩
    obtain ⟨E3,HE⟩:∃E,fG c B=E:=⟨_,rfl⟩
    rw[HM] at hrC hwoH ⊢
    rw[HE] at hwoH ⊢
    clear HM HE hatK hzR hCb
    by_cases h3:E3=0
    ·subst h3
     have hfin:Hid (woE c l=0∧woC c l=⟨B.c0,B.c1,B.c2,B.c3,M⟩):=⟨hwoH.out.1,by rw[hwoH.out.2,if_pos rfl]⟩
     obtain ⟨q0,q1,q2,q3,qf,qlt3⟩:=(show ClkAt _ _ _ _ _ _ from hat3)
     obtain ⟨z0,z1,z2,z3,z4,zf,zlt⟩:=(show ZAt _ _ from hz3)
     have hrCH:Hid (Row w3 C M):=hrC
     have hbw:Hid (Below w.heap.size w w3):=hbw3
     clear hrC hbw3 hwoH
     go_wp2
     rw[hfin.out.1,hfin.out.2]
     have h1:=hCn.out
     exact bodyPost_ret (v:= Z #[H #[S I B.c0,S I B.c1,S I B.c2,S I B.c3,O C M.length cp],S I 0]) (by simp[results,Tryz.results142,go_sem,z0,z1,z2,z3,z4]) rfl ⟨C,cp,rfl,((((hrCH.out.setCell _ h1).setCell _ h1).setCell _ h1).setCell _ h1).setCell _ h1,hC0,hCb3.out,aY hbw.out (by omega) _ _ _ _ _⟩
    ·have hfin:Hid (woE c l=E3∧woC c l=aH):=⟨hwoH.out.1,by rw[hwoH.out.2,if_neg h3]⟩
     have heb:(E3 != 0)=true:=by simpa using h3
     obtain ⟨z0,z1,z2,z3,z4,zf,zlt⟩:=(show ZAt _ _ from hz3)
     have hbw:Hid (Below w.heap.size w w3):=hbw3
     clear hrC hbw3 hwoH h3
     go_wp2
     rw[hfin.out.1,hfin.out.2]
     exact bodyPost_ret (v:= Z #[H #[S I 0,S I 0,S I 0,S I 0,O none 0 0],S I E3]) (by simp[results,Tryz.results142,go_sem,z0,z1,z2,z3,z4]) rfl ⟨none,0,rfl,oL rfl,fun _=>rfl,(fun x hx=>by cases hx),aY hbw.out (by omega) _ _ _ _ _⟩
 ·have hfin:Hid (woE c l=E1∧woC c l=aH):=by
   have h2:woE c l=E1:=by unfold woE;rw[hE1,if_pos h1]
   exact ⟨h2,by unfold woC;rw[h2,if_neg h1]⟩
  have heb:(E1 != 0)=true:=by simpa using h1
  clear h1 hE1
  obtain ⟨z0,z1,z2,z3,z4,zf,zlt⟩:=(show ZAt _ _ from hz1)
  have hbw:Hid (Below w.heap.size w w1):=hbw1
  go_wp2
  rw[hfin.out.1,hfin.out.2]
  exact bodyPost_ret (v:= Z #[H #[S I 0,S I 0,S I 0,S I 0,O none 0 0],S I E1]) (by simp[results,Tryz.results142,go_sem,z0,z1,z2,z3,z4]) rfl ⟨none,0,rfl,oL rfl,fun _=>rfl,(fun x hx=>by cases hx),aY hbw.out (by omega) _ _ _ _ _⟩

end Go.Proofs.YtfedpiamlpflhaaGreatDoor
