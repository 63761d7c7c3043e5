import Derived.Test.YtkefkplnamkicabGreatDoorM17
import Derived.Test.YtkefkplnamkicabGreatDoorM16
set_option maxRecDepth 100000
set_option maxHeartbeats 8000000
open Go.IntKind renaming i64 → I
open Go.Obj renaming cells → Z
open Go.Value renaming int → S, slice → O, tuple → Y, agg → U
namespace Go.Proofs.YtkefkplnamkicabGreatDoor
open Go.RowKit Go.Sort

structure Can (c:Ctx):Prop where
 ck:bw c=true
 right:∀y∈c.l,al y=true
 above:∀y∈c.l,clk c y.1+1<y.2
 rise:c.l.Pairwise fun x y=>br x y=true

theorem rt (x:Int×Int):br x x=false:=by simp[br]
theorem si {x y z:Int×Int} (h:br x y=true) (k:br y z=true):br x z=true:=by rw[j9] at *;omega
theorem ub {x y:Int×Int} (h:br x y=true) (k:br y x=true):x=y:=by rw[j9] at *;omega
theorem yi {x y:Int×Int} (h:leD x y) (k:x≠y):br x y=true:=by
 rw[j9]
 rw[g8] at h
 by_cases h1:x.1=y.1
 ·have:x.2≠y.2:=fun h2=>k (Prod.ext h1 h2)
  omega
 ·omega

theorem cO {c:Ctx} (h:aO c=0):Can c:=by
 have hp:=bE h
 have hr:=iI h
 refine ⟨hp.1,hr,?_,?_⟩
 ·intro y hy
  obtain ⟨j,hj,rfl⟩:=List.getElem_of_mem hy
  have:=hp.2.2 j hj
  cases j with
  | zero=>rw[eR hj rfl] at this;simp at this;omega
  | succ m=>rw[dN hj rfl rfl] at this;simp at this;omega
 ·have step:∀m (hm:m+1<c.l.length),br c.l[m] c.l[m+1]=true:=by
   intro m hm
   have:=hp.2.2 (m+1) hm
   rw[dN hm rfl rfl] at this
   simp at this
   exact this.1.2
  rw[List.pairwise_iff_getElem]
  intro i j hi hj hij
  obtain ⟨d,rfl⟩:∃d,j=i+d+1:=⟨j-i-1,by omega⟩
  clear hij
  induction d with
  | zero=>exact step i hj
  | succ d ih=>exact si (ih (by omega)) (step (i+d+1) hj)

theorem iJ {c:Ctx} (h:Can c) (hl:c.l.length≤400):aO c=0:=by
 refine rC h.ck hl fun k hk=> ?_
 have hr:=h.right _ (gM hk)
 have ha:=h.above _ (gM hk)
 cases k with
 | zero=>rw[eR hk rfl,hr];simp;omega
 | succ m =>
  have hb:=(List.pairwise_iff_getElem.1 h.rise) m (m+1) (by omega) hk (by omega)
  rw[dN hk rfl rfl,hr,hb];simp;omega

theorem mM {c:Ctx} (h:Can c) {x:Int×Int} (hx:ae c x=true):0≤x.1∧x.1<4∧1≤x.2:=by
 rcases (aG c x).1 hx with hm|hm
 ·have:=dO (h.right x hm);omega
 ·omega

theorem mB {c d:Ctx} (hc:Can c) (hd:Can d) (h:∀x,ae c x=true→ae d x=true) (n:Int) (h0:0≤n) (h4:n<4):clk c n≤clk d n:=by
 have hk:=cz hc.ck n h0 h4
 have hk':=cz hd.ck n h0 h4
 rcases Int.lt_or_le (clk d n) (clk c n) with hlt|hle
 ·have h1:ae c (n,clk d n+1)=true:=(aG _ _).2 (oR ⟨h0,by show n≤3;omega,by show 1≤clk d n+1;omega,by show clk d n+1≤clk c n;omega⟩)
  rcases (aG _ _).1 (h _ h1) with hm|hm
  ·have:clk d n+1<clk d n+1:=hd.above _ hm
   omega
  ·have:clk d n+1≤clk d n:=hm.2.2.2
   omega
 ·exact hle

theorem pZ {c d:Ctx} (hc:Can c) (hd:Can d) (h:∀x,ae c x=true↔ae d x=true):c=d:=by
 have hk:∀n,0≤n→n<4→clk c n=clk d n:=fun n h0 h4=>Int.le_antisymm (mB hc hd (fun x=>(h x).1) n h0 h4) (mB hd hc (fun x=>(h x).2) n h0 h4)
 have hm:∀ {c d:Ctx},Can c→Can d→(∀x,ae c x=true↔ae d x=true)→(∀n,0≤n→n<4→clk c n=clk d n)→∀x∈c.l,x∈d.l:=by
  intro c d hc hd h hk x hx
  have h1:=(h x).1 ((aG c x).2 (oL hx))
  rcases (aG d x).1 h1 with hm|hm
  ·exact hm
  ·have:=hc.above x hx
   have:=hk x.1 hm.1 (by omega)
   omega
 have hl:c.l=d.l:=by
  refine List.Perm.eq_of_pairwise (fun a b _ _ h1 h2=>ub h1 h2) hc.rise hd.rise ?_
  have nd:∀ {c:Ctx},Can c→c.l.Nodup:=fun hc=>hc.rise.imp fun hxy e=>by rw[e,rt] at hxy;cases hxy
  exact (List.perm_ext_iff_of_nodup (nd hc) (nd hd)).2 fun x=>⟨hm hc hd h hk x,hm hd hc (fun x=>(h x).symm) (fun n h0 h4=>(hk n h0 h4).symm) x⟩
 have k0:=hk 0 (by omega) (by omega)
 have k1:=hk 1 (by omega) (by omega)
 have k2:=hk 2 (by omega) (by omega)
 have k3:=hk 3 (by omega) (by omega)
 simp[clk] at k0 k1 k2 k3
 obtain ⟨c0,c1,c2,c3,cl⟩:=c
 obtain ⟨d0,d1,d2,d3,dl⟩:=d
 simp only at k0 k1 k2 k3 hl
 subst k0 k1 k2 k3 hl
 rfl

theorem sH {c:Ctx} {x:Int×Int} (hx:al x=true) (z:Int×Int):ae (cY c x) z=true↔ae c z=true∨z=x:=by
 have hn:=dO hx
 unfold cY
 by_cases hh:ae c x=true
 ·rw[if_pos hh]
  constructor
  ·exact oL
  ·rintro (h|rfl)
   ·exact h
   ·exact hh
 ·rw[if_neg hh]
  by_cases h2:x.2=clk c x.1+1
  ·rw[if_pos h2,aG,aG,dZ]
   constructor
   ·rintro (h|h)
    ·exact oL (oL h)
    ·rw[dE c x.1 x.2 z.1 hn.1 hn.2.1 h.1 (by omega)] at h
     by_cases hz:z.1=x.1
     ·rw[if_pos hz] at h
      by_cases hz2:z.2=x.2
      ·exact oR (Prod.ext hz hz2)
      ·exact oL (oR ⟨h.1,h.2.1,h.2.2.1,by rw[hz];omega⟩)
     ·rw[if_neg hz] at h
      exact oL (oR h)
   ·rintro ((h|h)|rfl)
    ·exact oL h
    ·refine oR ⟨h.1,h.2.1,h.2.2.1,?_⟩
     rw[dE c x.1 x.2 z.1 hn.1 hn.2.1 h.1 (by omega)]
     by_cases hz:z.1=x.1
     ·rw[if_pos hz]
      have:=h.2.2.2
      rw[hz] at this
      omega
     ·rw[if_neg hz];exact h.2.2.2
    ·refine oR ⟨hn.1,by omega,hn.2.2.1,?_⟩
     rw[dE c z.1 z.2 z.1 hn.1 hn.2.1 hn.1 hn.2.1,if_pos rfl]
     exact Int.le_refl _
  ·rw[if_neg h2,aG,aG]
   show (z∈c.l++[x]∨_)↔_
   rw[List.mem_append]
   constructor
   ·rintro ((h|h)|h)
    ·exact oL (oL h)
    ·exact oR (by simpa using h)
    ·exact oL (oR h)
   ·rintro ((h|h)|h)
    ·exact oL (oL h)
    ·exact oR h
    ·exact oL (oR (by simp[h]))

theorem uP (l:List (Int×Int)):∀(c:Ctx),(∀x∈l,al x=true)→∀z,ae (l.foldl cY c) z=true↔ae c z=true∨z∈l:=by
 induction l with
 | nil=>intro c _ z;simp
 | cons x l ih =>
  intro c hr z
  show ae (l.foldl cY (cY c x)) z=true↔_
  rw[ih (cY c x) (fun y hy=>hr y (List.mem_cons_of_mem _ hy)) z,sH (hr x (List.mem_cons_self ..)),List.mem_cons]
  constructor
  ·rintro ((h|h)|h)
   ·exact oL h
   ·exact oR (oL h)
   ·exact oR (oR h)
  ·rintro (h|h|h)
   ·exact oL (oL h)
   ·exact oL (oR h)
   ·exact oR h

theorem sj {c:Ctx} {p:Option (Int×Int)} {x:Int×Int} {r:List (Int×Int)} (hc:Can c) (h:Mid c p (x::r)) (hx:al x=true) (hs:∀y∈r,leD x y):Can (cY c x):=by
 have hm:=lr h hx hs
 have hle:∀y∈c.l,leD y x:=fun y hy=>by
  obtain ⟨q,hq,hyq⟩:=h.last y hy
  exact ie hyq (h.rest q hq x (mS ..))
 have hmid:=hm.2
 rw[←hm.1] at hmid
 have hclk:bw (cY c x)=true:=by rw[hm.1];exact pH hc.ck hx
 refine ⟨hclk,?_,hmid.above,?_⟩
 ·unfold cY
  by_cases hh:ae c x=true
  ·rw[if_pos hh];exact hc.right
  ·rw[if_neg hh]
   by_cases h2:x.2=clk c x.1+1
   ·rw[if_pos h2,dZ];exact hc.right
   ·rw[if_neg h2]
    intro y hy
    rcases List.mem_append.1 hy with hy|hy
    ·exact hc.right y hy
    ·obtain rfl:y=x:=by simpa using hy
     exact hx
 ·unfold cY
  by_cases hh:ae c x=true
  ·rw[if_pos hh];exact hc.rise
  ·rw[if_neg hh]
   by_cases h2:x.2=clk c x.1+1
   ·rw[if_pos h2,dZ];exact hc.rise
   ·rw[if_neg h2]
    refine List.pairwise_append.2 ⟨hc.rise,List.pairwise_singleton _ _,?_⟩
    intro y hy z hz
    obtain rfl:z=x:=by simpa using hz
    exact yi (hle y hy) fun e=>hh ((aG _ _).2 (oL (by rw[←e];exact hy)))

theorem ue (l:List (Int×Int)):∀(c:Ctx) (p:Option (Int×Int)),Can c→Mid c p l→l.Pairwise leD→(∀x∈l,al x=true)→Can (l.foldl cY c):=by
 induction l with
 | nil=>intro c p hc _ _ _;exact hc
 | cons x l ih =>
  intro c p hc h hs hr
  have hp:=List.pairwise_cons.1 hs
  have hm:=lr h (hr x (mS ..)) hp.1
  have hmid:=hm.2
  rw[←hm.1] at hmid
  exact ih (cY c x) (some x) (sj hc h (hr x (mS ..)) hp.1) hmid hp.2 (fun y hy=>hr y (mC _ hy))

theorem uf {c:Ctx} (hc:c.l=[]) (hk:bw c=true):Can c :=
 ⟨hk,(fun y hy=>by rw[hc] at hy;cases hy),(fun y hy=>by rw[hc] at hy;cases hy),by rw[hc];exact List.Pairwise.nil⟩

theorem mJ {c:Ctx} (hc:c.l=[]) (hk:bw c=true) {l:List (Int×Int)} (hr:∀x∈l,al x=true):Can (dU c l):=by
 rw[ke hc hr]
 exact ue (srt l) c none (uf hc hk) (mU hc _) (lM l) (fun x hx=>hr x (jx hx))
theorem mK {c:Ctx} (hc:c.l=[]) {l:List (Int×Int)} (hr:∀x∈l,al x=true) (z:Int×Int):ae (dU c l) z=true↔ae c z=true∨z∈l:=by
 rw[ke hc hr,uP (srt l) c (fun x hx=>hr x (jx hx)) z,(vP l).mem_iff]

theorem eQ {a b:Ctx} (ha:Can a) (hb:Can b):Can (d7 a b) :=
 mJ rfl (oZ ha.ck hb.ck) fun x hx=>by
  rcases List.mem_append.1 hx with h|h
  ·exact ha.right x h
  ·exact hb.right x h
theorem ei {a b:Ctx} (ha:Can a) (hb:Can b) (z:Int×Int):ae (d7 a b) z=true↔ae a z=true∨ae b z=true:=by
 unfold d7
 rw[mK rfl (fun x hx=>by
  rcases List.mem_append.1 hx with h|h
  ·exact ha.right x h
  ·exact hb.right x h) z,List.mem_append]
 have hz:ae (kg a b) z=true↔0≤z.1∧z.1≤3∧1≤z.2∧z.2≤max (clk a z.1) (clk b z.1):=by
  rw[aG,mA]
  constructor
  ·rintro (h|h)
   ·cases h
   ·exact h
  ·exact oR
 rw[hz,aG,aG]
 constructor
 ·rintro (h|h|h)
  ·by_cases h1:z.2≤clk a z.1
   ·exact oL (oR ⟨h.1,h.2.1,h.2.2.1,h1⟩)
   ·exact oR (oR ⟨h.1,h.2.1,h.2.2.1,by omega⟩)
  ·exact oL (oL h)
  ·exact oR (oL h)
 ·rintro ((h|h)|(h|h))
  ·exact oR (oL h)
  ·exact oL ⟨h.1,h.2.1,h.2.2.1,by omega⟩
  ·exact oR (oR h)
  ·exact oL ⟨h.1,h.2.1,h.2.2.1,by omega⟩

theorem dV {a b:Ctx} (h:aC a b=0):Can a∧Can b∧eU a b=0∧az a b=d7 a b∧(d7 a b).l.length≤400:=by
 have he:eU a b=0:=by
  unfold aC at h
  by_cases he:eU a b=0
  ·exact he
  ·rw[if_neg he] at h;exact absurd h he
 have hl:(d7 a b).l.length≤400:=by
  unfold aC at h
  rw[if_pos he] at h
  by_cases hl:400<(d7 a b).l.length
  ·rw[if_pos hl] at h;cases h
  ·omega
 exact ⟨cO (kC he).1,cO (kC he).2,he,by simp[az,h],hl⟩
theorem li {a b:Ctx} (ha:aO a=0) (hb:aO b=0) (hl:(d7 a b).l.length≤400):aC a b=0:=by
 have he:eU a b=0:=by unfold eU;rw[if_pos ha];exact hb
 unfold aC
 rw[if_pos he,if_neg (by omega)]
theorem lj {a b:Ctx} (ha:Can a) (hb:Can b):d7 a b=d7 b a :=
 pZ (eQ ha hb) (eQ hb ha) fun x=>by rw[ei ha hb,ei hb ha,or_comm]

section
open Go.Shelf Go.Lib

def fo (b:Tab) (x:Cel):Bool:=gw b.e x.1 || !ae b.c x.1
def eZ (a:Tab) (x:Cel):Bool:= !ae a.c x.1
def both (a b:Tab):List Cel:=a.e.filter (fo b)++b.e.filter (eZ a)
def mrg (a b:Tab):List Cel:=gg (both a b)

theorem bK {t:Tab} (h:am t=0) {x:Cel} (hx:x∈t.e):ae t.c x.1=true:=by
 obtain ⟨j,hj,rfl⟩:=List.getElem_of_mem hx
 have hk:=(af h).2.2 j hj
 have hg:t.e.getD j ((0,0),0,0,0)=t.e[j]:=by simp[hj]
 unfold e9 at hk
 rw[hg] at hk
 simp only[Bool.and_eq_true] at hk
 exact hk.1.1
theorem dT {t:Tab} (h:am t=0):Asc t.e:=by
 have hp:=(af h).2.2
 have step:∀j (hj:j+1<t.e.length),br (t.e[j]'(by omega)).1 t.e[j+1].1=true:=by
  intro j hj
  have hk:=hp (j+1) hj
  rw[ek hj rfl rfl] at hk
  simp only[Bool.and_eq_true] at hk
  exact hk.2
 have far:∀d i (hi:i+d+1<t.e.length),br (t.e[i]'(by omega)).1 (t.e[i+d+1]'hi).1=true:=by
  intro d
  induction d with
  | zero=>intro i hi;exact step i hi
  | succ d ih =>
   intro i hi
   have h1:=ih i (by omega)
   have h2:=step (i+d+1) (by omega)
   exact fO h1 h2
 unfold Asc
 rw[List.pairwise_iff_getElem]
 intro i j hi hj hij
 have:=far (j-i-1) i (by omega)
 have e:i+(j-i-1)+1=j:=by omega
 simp only[e] at this
 exact this
theorem gU {l:List Cel} (h:Asc l):(l.map (·.1)).Nodup:=by
 unfold List.Nodup
 rw[List.pairwise_map]
 exact h.imp fun h=>gV h
theorem iO {l:List Cel} (h:(l.map (·.1)).Nodup):rq l:=by
 intro x hx y hy e
 obtain ⟨i,hi,rfl⟩:=List.getElem_of_mem hx
 obtain ⟨j,hj,rfl⟩:=List.getElem_of_mem hy
 unfold List.Nodup at h
 rw[List.pairwise_map] at h
 rcases Nat.lt_trichotomy i j with h1|h1|h1
 ·exact absurd e ((List.pairwise_iff_getElem.1 h) i j hi hj h1)
 ·subst h1;rfl
 ·exact absurd e.symm ((List.pairwise_iff_getElem.1 h) j i hj hi h1)
theorem kM {a b:Tab} (ha:am a=0) (hb:am b=0):((both a b).map (·.1)).Nodup:=by
 unfold both
 rw[List.map_append,List.nodup_append]
 refine ⟨?_,?_,?_⟩
 ·exact (gU (dT ha)).sublist (List.filter_sublist.map _)
 ·exact (gU (dT hb)).sublist (List.filter_sublist.map _)
 ·intro d hd d' hd' e
  subst e
  obtain ⟨x,hx,rfl⟩:=List.mem_map.1 hd
  obtain ⟨y,hy,e⟩:=List.mem_map.1 hd'
  have h1:=bK ha (List.mem_filter.1 hx).1
  have h2:=(List.mem_filter.1 hy).2
  unfold eZ at h2
  rw[e,h1] at h2
  cases h2
theorem fj {a b:Tab} (ha:am a=0) (hb:am b=0):Asc (mrg a b):=vO (kM ha hb)
theorem ox (a b:Tab):(both a b).length≤a.e.length+b.e.length:=by
 unfold both
 rw[List.length_append]
 have:=List.length_filter_le (fo b) a.e
 have:=List.length_filter_le (eZ a) b.e
 omega

theorem lq (a b:Tab) (A B C D:Option Addr) (ca cb cc cd:Nat) (w:World) (ha:am a=0) (hb:am b=0) (hra:Row w A a.c.l) (hrb:Row w B b.c.l) (hrc:bA w C a.e) (hrd:bA w D b.e) :
  Calls Tryz.prog 69 #[U (T6 a A ca C cc).toArray,U (T6 b B cb D cd).toArray] w fun e w'=>∃E ce,e= .returned (O E (mrg a b).length ce)∧bA w' E (mrg a b)∧(E=none→ce=0)∧(∀x,E=some x→w.heap.size≤x.block)∧Below w.heap.size w w':=by
 have hgX:Gr w ((w.alloc (Z #[S I a.c.c0,S I a.c.c1,S I a.c.c2,S I a.c.c3,O A a.c.l.length ca,O C a.e.length cc] 42)).alloc (Z #[S I b.c.c0,S I b.c.c1,S I b.c.c2,S I b.c.c3,O B b.c.l.length cb,O D b.e.length cd] 42)):=((gR _).alloc _).alloc _
 have hA0:TabAt ((w.alloc (Z #[S I a.c.c0,S I a.c.c1,S I a.c.c2,S I a.c.c3,O A a.c.l.length ca,O C a.e.length cc] 42)).alloc (Z #[S I b.c.c0,S I b.c.c1,S I b.c.c2,S I b.c.c3,O B b.c.l.length cb,O D b.e.length cd] 42)) w.heap.size a A ca C cc:=(TabAt.new 42 hra hrc rfl).gr ((gR _).alloc _)
 have hB0:TabAt ((w.alloc (Z #[S I a.c.c0,S I a.c.c1,S I a.c.c2,S I a.c.c3,O A a.c.l.length ca,O C a.e.length cc] 42)).alloc (Z #[S I b.c.c0,S I b.c.c1,S I b.c.c2,S I b.c.c3,O B b.c.l.length cb,O D b.e.length cd] 42)) (w.heap.size+1) b B cb D cd:=TabAt.new 42 (hrb.gr ((gR _).alloc _)) (hrd.gr ((gR _).alloc _)) (by simp)
 have hbw0:Below w.heap.size w ((w.alloc (Z #[S I a.c.c0,S I a.c.c1,S I a.c.c2,S I a.c.c3,O A a.c.l.length ca,O C a.e.length cc] 42)).alloc (Z #[S I b.c.c0,S I b.c.c1,S I b.c.c2,S I b.c.c3,O B b.c.l.length cb,O D b.e.length cd] 42)):=hgX.below
 have hal:a.e.length≤400:=(af ha).2.1
 have hbl:b.e.length≤400:=(af hb).2.1
 have a5:=hA0.k5
 go_enter Tryz.func69,Tryz.ntmps69
 go_wp2
 generalize ((w.alloc (Z #[S I a.c.c0,S I a.c.c1,S I a.c.c2,S I a.c.c3,O A a.c.l.length ca,O C a.e.length cc] 42)).alloc (Z #[S I b.c.c0,S I b.c.c1,S I b.c.c2,S I b.c.c3,O B b.c.l.length cb,O D b.e.length cd] 42))=w0 at hA0 hB0 hbw0 a5 ⊢
 have haH:Hid (am a=0):=ha
 have hbH:Hid (am b=0):=hb
 have hascb:Hid (Asc b.e):=dT hb
 have hcl:Hid (a.c.l.length≤maxLen∧b.c.l.length≤maxLen):=by
  have h1:=(bE (af ha).1).2.1
  have h2:=(bE (af hb).1).2.1
  exact ⟨nT h1 (by decide),nT h2 (by decide)⟩
 clear a5 ha hb hgX
 go_loopw [5,15] (fun v i wr=>∃k:Nat,k≤a.e.length∧i= S I k∧dv wr w0.heap.size v ((a.e.take k).filter (fo b))∧Below w0.heap.size w0 wr) (fun _ i _=>a.e.length-(intOf i).toNat)
 case atStart=>exact ⟨0,by omega,rfl,ai.nil _ _ _ _ _,bR _ _⟩
 case round =>
  obtain ⟨k,hk,rfl,hov,hbel⟩:=hrel
  obtain ⟨A1,cap1,rfl,hA1,hrow1,hlt1⟩:=ai.row dw hov
  have hAR:=hA0.below hbel
  have hBR:=hB0.below hbel
  have hsR:w0.heap.size≤wr.heap.size:=hbel.size
  by_cases hlt:k<a.e.length
  ·have hltz:(k:Int)<(a.e.length:Int):=by omega
   obtain ⟨bb,off,rfl,hbb,hcs⟩:=bA.get hAR.rowC hlt
   obtain ⟨x,hx⟩:∃x,a.e[k]=x:=⟨_,rfl⟩
   obtain ⟨e0,e1,e2,e3,e4⟩:=hcs k hlt
   rw[hx] at e0 e1 e2 e3 e4
   have hst:=gC (p:=fo b) hlt hx
   clear hcs hx
   obtain ⟨M,HM⟩:∃M,(a.e.take k).filter (fo b)=M:=⟨_,rfl⟩
   have hMl:M.length≤400:=by rw[←HM];exact nT (mG _ _ _) hal
   rw[HM] at hov hst hrow1 ⊢
   clear HM
   have hovH:Hid (dv wr w0.heap.size (O A1 M.length cap1) M):=hov
   have hbelH:Hid (Below w0.heap.size w0 wr):=hbel
   have hgX:Gr wr (wr.alloc (Z #[S I x.1.1,S I x.1.2,S I x.2.1,S I x.2.2.1,S I x.2.2.2] 85)):=(gR _).alloc _
   have hxA:=CelAt.new (w:=wr) x 85 rfl
   have hBX:=hBR.gr hgX
   have b5:=hBX.k5
   obtain ⟨x0,x1,x2,x3,x4,xlt⟩:=(show CelAt _ _ _ from hxA)
   have hbs:=jZ b.e D cd x _ hbl hBX.rowC hascb.out
   have hbsH:Hid _:=hbs
   clear hov hbel hrow1 hbs
   go_wp2_with fail
   refine cM (show Calls _ _ _ _ _ from hbsH.out) ?_
   rintro e w2 ⟨ix,rfl,-,hg2⟩
   clear hbsH x0 x1 x2 x3 x4 b5
   have hx2:=hxA.gr hg2
   have hB2:=hBX.gr hg2
   have hgW:Gr wr w2:=hgX.trans hg2
   clear hgX hg2 hxA hBX xlt
   obtain ⟨x0,x1,x2,x3,x4,xlt⟩:=(show CelAt _ _ _ from hx2)
   cases hm:gw b.e x.1
   ·obtain ⟨b0,b1,b2,b3,b4,b5,blt,brow,browC⟩:=(show TabAt _ _ _ _ _ _ _ from hB2)
    have hha:=jh b.c B cb x.1 w2 hcl.out.2 brow
    have hhaH:Hid _:=hha
    clear hha
    go_wp2_with fail
    refine cM (show Calls _ _ _ _ _ from hhaH.out) ?_
    rintro e w3 ⟨rfl,hg3⟩
    clear hhaH x0 x1 x2 x3 x4 b0 b1 b2 b3 b4 b5
    have hgW3:Gr wr w3:=hgW.trans hg3
    obtain ⟨x0,x1,x2,x3,x4,xlt3⟩:=(show CelAt _ _ _ from hx2.gr hg3)
    cases hq:ae b.c x.1
    ·have hst2:Hid ((a.e.take (k+1)).filter (fo b)=M++[x]):=by show _=_;rw[hst,if_pos (by simp[fo,hm,hq])]
     have hbd:Hid (M.length+[x].length≤maxLen∧(M.length+[x].length)*40≤140737488355328):=by show _∧_;unfold maxLen;simp only[List.length_cons,List.length_nil];omega
     clear hst
     go_wp2_with (at_builtin;refine dA _ rfl _ _ rfl w0.heap.size (O A1 M.length cap1) M [x] (some ⟨w3.heap.size,0,none⟩) 1 rfl rfl ?ho ?hr (fun h=>by cases h) hbd.out.1 hbd.out.2 ?hs ?_)
     case ho=>exact hovH.out.gr (hgW3.alloc _)
     case hr=>exact jr rfl _ _
     case hs=>have:=hgW3.size;simp;omega
     intro v1 w4 hown1 hgr1
     have hb3:Hid (Below w0.heap.size w0 w4):=hbelH.out.trans (((hgW3.alloc _).below.mono hsR).trans (ai.grown_below (hovH.out.gr (hgW3.alloc _)) hgr1 (by have:=hgW3.size;simp;omega)))
     have hownH:Hid (dv w4 w0.heap.size v1 (M++[x])):=hown1
     clear hown1 hgr1
     go_wp2
     go_roundw
     case rel=>exact ⟨k+1,by omega,by go_num,by rw[hst2.out];exact hownH.out,hb3.out⟩
     case measure=>simp[intOf];omega
    ·have hst2:Hid ((a.e.take (k+1)).filter (fo b)=M):=by show _=_;rw[hst,if_neg (by simp[fo,hm,hq])];simp
     clear hst
     go_wp2
     go_roundw
     case rel=>exact ⟨k+1,by omega,by go_num,by rw[hst2.out];exact hovH.out.gr hgW3,hbelH.out.trans (hgW3.below.mono hsR)⟩
     case measure=>simp[intOf];omega
   ·have hst2:Hid ((a.e.take (k+1)).filter (fo b)=M++[x]):=by show _=_;rw[hst,if_pos (by simp[fo,hm])]
    have hbd:Hid (M.length+[x].length≤maxLen∧(M.length+[x].length)*40≤140737488355328):=by show _∧_;unfold maxLen;simp only[List.length_cons,List.length_nil];omega
    clear hst
    go_wp2_with (at_builtin;refine dA _ rfl _ _ rfl w0.heap.size (O A1 M.length cap1) M [x] (some ⟨w2.heap.size,0,none⟩) 1 rfl rfl ?ho ?hr (fun h=>by cases h) hbd.out.1 hbd.out.2 ?hs ?_)
    case ho=>exact hovH.out.gr (hgW.alloc _)
    case hr=>exact jr rfl _ _
    case hs=>have:=hgW.size;simp;omega
    intro v1 w4 hown1 hgr1
    have hb3:Hid (Below w0.heap.size w0 w4):=hbelH.out.trans (((hgW.alloc _).below.mono hsR).trans (ai.grown_below (hovH.out.gr (hgW.alloc _)) hgr1 (by have:=hgW.size;simp;omega)))
    have hownH:Hid (dv w4 w0.heap.size v1 (M++[x])):=hown1
    clear hown1 hgr1
    go_wp2
    go_roundw
    case rel=>exact ⟨k+1,by omega,by go_num,by rw[hst2.out];exact hownH.out,hb3.out⟩
    case measure=>simp[intOf];omega
  ·have hltz:¬(k:Int)<(a.e.length:Int):=by omega
   have hke:a.e.take k=a.e:=List.take_of_length_le (by omega)
   rw[hke] at hov hrow1 ⊢
   clear hke
   have b5:=hBR.k5
   obtain ⟨F,HF⟩:∃F,a.e.filter (fo b)=F:=⟨_,rfl⟩
   have hFl:F.length≤400:=by rw[←HF];exact nT (List.length_filter_le _ _) hal
   rw[HF] at hov hrow1 ⊢
   have HFH:Hid (a.e.filter (fo b)=F):=HF
   have hovF:Hid (dv wr w0.heap.size (O A1 F.length cap1) F):=hov
   have hbelF:Hid (Below w0.heap.size w0 wr):=hbel
   clear HF hov hbel hrow1 hAR
   go_wp2
   clear b5 hBR
   go_loopw [5,43] (fun v i wq=>∃k:Nat,k≤b.e.length∧i= S I k∧dv wq w0.heap.size v (F++(b.e.take k).filter (eZ a))∧Below w0.heap.size w0 wq) (fun _ i _=>b.e.length-(intOf i).toNat)
   case atStart=>exact ⟨0,by omega,rfl,by simpa using hovF.out,hbelF.out⟩
   case round =>
    rename World=>wq
    obtain ⟨j,hj,rfl,hov,hbel⟩:=hrel
    obtain ⟨A2,cap2,rfl,hA2,hrow2,hlt2⟩:=ai.row dw hov
    have hAR:=hA0.below hbel
    have hBR:=hB0.below hbel
    have hsQ:w0.heap.size≤wq.heap.size:=hbel.size
    by_cases hjt:j<b.e.length
    ·have hltz2:(j:Int)<(b.e.length:Int):=by omega
     obtain ⟨bb,off,rfl,hbb,hcs⟩:=bA.get hBR.rowC hjt
     obtain ⟨x,hx⟩:∃x,b.e[j]=x:=⟨_,rfl⟩
     obtain ⟨e0,e1,e2,e3,e4⟩:=hcs j hjt
     rw[hx] at e0 e1 e2 e3 e4
     have hst:=gC (p:=eZ a) hjt hx
     clear hcs hx
     obtain ⟨M,HM⟩:∃M,F++(b.e.take j).filter (eZ a)=M:=⟨_,rfl⟩
     have hMl:M.length≤800:=by
      rw[←HM,List.length_append]
      have:=mG (eZ a) b.e j
      omega
     have hstM:F++(b.e.take (j+1)).filter (eZ a)=M++(if eZ a x then [x] else []):=by rw[hst,←List.append_assoc,HM]
     rw[HM] at hov hrow2 ⊢
     clear HM hst
     have hovH:Hid (dv wq w0.heap.size (O A2 M.length cap2) M):=hov
     have hbelH:Hid (Below w0.heap.size w0 wq):=hbel
     have hgX:Gr wq (wq.alloc (Z #[S I x.1.1,S I x.1.2,S I x.2.1,S I x.2.2.1,S I x.2.2.2] 85)):=(gR _).alloc _
     have hxA:=CelAt.new (w:=wq) x 85 rfl
     have hAX:=hAR.gr hgX
     obtain ⟨a0,a1,a2,a3,a4,a5,alt,arow,arowC⟩:=(show TabAt _ _ _ _ _ _ _ from hAX)
     obtain ⟨x0,x1,x2,x3,x4,xlt⟩:=(show CelAt _ _ _ from hxA)
     have hha:=jh a.c A ca x.1 _ hcl.out.1 arow
     have hhaH:Hid _:=hha
     clear hov hbel hrow2 hha
     go_wp2_with fail
     refine cM (show Calls _ _ _ _ _ from hhaH.out) ?_
     rintro e w3 ⟨rfl,hg3⟩
     clear hhaH x0 x1 x2 x3 x4 a0 a1 a2 a3 a4 a5
     have hgW3:Gr wq w3:=hgX.trans hg3
     obtain ⟨x0,x1,x2,x3,x4,xlt3⟩:=(show CelAt _ _ _ from hxA.gr hg3)
     cases hq:ae a.c x.1
     ·have hst2:Hid (F++(b.e.take (j+1)).filter (eZ a)=M++[x]):=by show _=_;rw[hstM,if_pos (by simp[eZ,hq])]
      have hbd:Hid (M.length+[x].length≤maxLen∧(M.length+[x].length)*40≤140737488355328):=by show _∧_;unfold maxLen;simp only[List.length_cons,List.length_nil];omega
      clear hstM
      go_wp2_with (at_builtin;refine dA _ rfl _ _ rfl w0.heap.size (O A2 M.length cap2) M [x] (some ⟨w3.heap.size,0,none⟩) 1 rfl rfl ?ho ?hr (fun h=>by cases h) hbd.out.1 hbd.out.2 ?hs ?_)
      case ho=>exact hovH.out.gr (hgW3.alloc _)
      case hr=>exact jr rfl _ _
      case hs=>have:=hgW3.size;simp;omega
      intro v1 w4 hown1 hgr1
      have hb3:Hid (Below w0.heap.size w0 w4):=hbelH.out.trans (((hgW3.alloc _).below.mono hsQ).trans (ai.grown_below (hovH.out.gr (hgW3.alloc _)) hgr1 (by have:=hgW3.size;simp;omega)))
      have hownH:Hid (dv w4 w0.heap.size v1 (M++[x])):=hown1
      clear hown1 hgr1
      go_wp2
      go_roundw
      case rel=>exact ⟨j+1,by omega,by go_num,by rw[hst2.out];exact hownH.out,hb3.out⟩
      case measure=>simp[intOf];omega
     ·have hst2:Hid (F++(b.e.take (j+1)).filter (eZ a)=M):=by show _=_;rw[hstM,if_neg (by simp[eZ,hq])];simp
      clear hstM
      go_wp2
      go_roundw
      case rel=>exact ⟨j+1,by omega,by go_num,by rw[hst2.out];exact hovH.out.gr hgW3,hbelH.out.trans (hgW3.below.mono hsQ)⟩
      case measure=>simp[intOf];omega
    ·have hltz2:¬(j:Int)<(b.e.length:Int):=by omega
     have hke:b.e.take j=b.e:=List.take_of_length_le (by omega)
     rw[hke] at hov hrow2 ⊢
     clear hke
     have hbo:F++b.e.filter (eZ a)=both a b:=by unfold both;rw[HFH.out]
     rw[hbo] at hov hrow2 ⊢
     have hM:=ox a b
     have hso:=vM (fun x y=>zi x y) 47 #[] (enters_of Tryz.func47 (by kernel_rfl) rfl) w0.heap.size _ (both a b) wq (fun g=>yl g 0 _ wq) (iO (kM haH.out hbH.out)) hov hsQ (by omega)
     have hsoH:Hid _:=hso
     have hbwQ:Below w.heap.size w wq:=hbw0.trans (hbel.mono hbw0.size)
     have hs0:=hbw0.size
     have hmr:Hid (mrg a b=gg (both a b)):=rfl
     clear hso hov hrow2 hbo hBR hAR
     generalize both a b=M at hsoH hmr ⊢
     go_wp2_with fail
     refine cM (show Calls _ _ _ _ _ from hsoH.out) ?_
     rintro e w4 ⟨rfl,⟨E,ce,hvE,hrE,hE0,hEb⟩,hb4⟩
     clear hsoH
     go_wp2
     go_ret
     exact ⟨E,ce,by rw[hmr.out,←hvE];rfl,by rw[hmr.out];exact hrE,hE0,fun x hx=>nT hs0 (hEb x hx),hbwQ.trans (hb4.mono hs0)⟩

end

def dD (a b:Tab):Bool:=a.e.any (clP b.e)
def ak (a b:Tab):Int:=if am a≠0 then am a else if am b≠0 then am b else if dD a b then 5 else if aC a.c b.c≠0 then aC a.c b.c else if 400<(mrg a b).length then 2 else 0
def ac (a b:Tab):Tab:=if ak a b=0 then ⟨az a.c b.c,mrg a b⟩ else ⟨aH,[]⟩

theorem fE {a b:Tab} {E:Int} (h:ak a b=E) (h0:E≠0):ak a b=E∧ac a b=⟨aH,[]⟩:=⟨h,by unfold ac;rw[h,if_neg h0]⟩

structure MergeAt (w W:World) (a b:Tab) (A:Option Addr) (ca:Nat) (C:Option Addr) (cc:Nat) (B:Option Addr) (cb:Nat) (D:Option Addr) (cd:Nat):Prop where
 ta:TabAt W w.heap.size a A ca C cc
 tb:TabAt W (w.heap.size+1) b B cb D cd
 res:wA W (w.heap.size+1+1)
 hw:Below w.heap.size w W
theorem MergeAt.below {w W W':World} {a b:Tab} {A B C D:Option Addr} {ca cb cc cd:Nat} (h:MergeAt w W a b A ca C cc B cb D cd) (k:Below W.heap.size W W'):MergeAt w W' a b A ca C cc B cb D cd :=
 ⟨h.ta.below k,h.tb.below k,h.res.below k,h.hw.trans (k.mono h.hw.size)⟩
theorem MergeAt.gr {w W W':World} {a b:Tab} {A B C D:Option Addr} {ca cb cc cd:Nat} (h:MergeAt w W a b A ca C cc B cb D cd) (k:Gr W W'):MergeAt w W' a b A ca C cc B cb D cd:=h.below k.below

theorem ij (a b:Tab) (A B C D:Option Addr) (ca cb cc cd:Nat) (w:World) (hal:a.c.l.length≤maxLen) (hbl:b.c.l.length≤maxLen) (hael:a.e.length≤maxLen) (hbel:b.e.length≤maxLen) (hA:A=none→ca=0) (hB:B=none→cb=0) (hra:Row w A a.c.l) (hrb:Row w B b.c.l) (hrc:bA w C a.e) (hrd:bA w D b.e) :
  Calls Tryz.prog 48 #[U (T6 a A ca C cc).toArray,U (T6 b B cb D cd).toArray] w fun e w'=>∃E ce F cf,e= .returned (Y #[U (T6 (ac a b) E ce F cf).toArray,S I (ak a b)])∧Row w' E (ac a b).c.l∧bA w' F (ac a b).e∧(E=none→ce=0)∧(F=none→cf=0)∧(∀x,E=some x→w.heap.size≤x.block)∧(∀x,F=some x→w.heap.size≤x.block)∧Below w.heap.size w w':=by
 have hF0:MergeAt w (((w.alloc (Z #[S I a.c.c0,S I a.c.c1,S I a.c.c2,S I a.c.c3,O A a.c.l.length ca,O C a.e.length cc] 42)).alloc (Z #[S I b.c.c0,S I b.c.c1,S I b.c.c2,S I b.c.c3,O B b.c.l.length cb,O D b.e.length cd] 42)).alloc (Z #[S I 0,S I 0,S I 0,S I 0,O none 0 0,O none 0 0] 42)) a b A ca C cc B cb D cd :=
  ⟨(TabAt.new 42 hra hrc rfl).gr (((gR _).alloc _).alloc _),(TabAt.new 42 (hrb.gr ((gR _).alloc _)) (hrd.gr ((gR _).alloc _)) (by simp)).gr ((gR _).alloc _),Six.new _ _ _ _ _ _ _ 42 (by simp),((((gR w).alloc _).alloc _).alloc _).below⟩
 have hlH:Hid (a.c.l.length≤maxLen∧b.c.l.length≤maxLen∧a.e.length≤maxLen∧b.e.length≤maxLen):=⟨hal,hbl,hael,hbel⟩
 have hAH:Hid ((A=none→ca=0)∧(B=none→cb=0)):=⟨hA,hB⟩
 have hck:=ef a A ca C cc _ hal hael hF0.ta.row hF0.ta.rowC
 have hckH:Hid _:=hck
 clear hck hal hbl hael hbel hra hrb hrc hrd hA hB
 go_enter Tryz.func48,Tryz.ntmps48
 go_wp2_with fail
 refine cM (show Calls _ _ _ _ _ from hckH.out) ?_
 rintro e w1 ⟨rfl,hg1⟩
 clear hckH
 have hF1:=hF0.gr hg1
 clear hF0 hg1
 obtain ⟨E1,hE1⟩:∃E,am a=E:=⟨_,rfl⟩
 rw[hE1]
 by_cases h1:E1=0
 ·subst h1
  have heA:Hid (am a=0):=hE1
  clear hE1
  obtain ⟨b0,b1,b2,b3,b4,b5,blt,brow,browC⟩:=(show TabAt _ _ _ _ _ _ _ from hF1.tb)
  have hck:=ef b B cb D cd w1 hlH.out.2.1 hlH.out.2.2.2 brow browC
  have hckH:Hid _:=hck
  clear hck brow browC
  go_wp2_with fail
  refine cM (show Calls _ _ _ _ _ from hckH.out) ?_
  rintro e w2 ⟨rfl,hg2⟩
  clear hckH b0 b1 b2 b3 b4 b5 blt
  have hF2:=hF1.gr hg2
  clear hF1 hg2
  obtain ⟨E2,hE2⟩:∃E,am b=E:=⟨_,rfl⟩
  rw[hE2]
  by_cases h2:E2=0
  ·subst h2
   have heB:Hid (am b=0):=hE2
   clear hE2
   have a5:=hF2.ta.k5
   have b5:=hF2.tb.k5
   have hcl:=sk a.e b.e C D cc cd w2 (af heA.out).2.1 (af heB.out).2.1 hF2.ta.rowC hF2.tb.rowC (dT heB.out)
   have hclH:Hid _:=hcl
   clear hcl
   go_wp2_with fail
   refine cM (show Calls _ _ _ _ _ from hclH.out) ?_
   rintro e w3 ⟨rfl,hg3⟩
   clear hclH a5 b5
   have hF3:=hF2.gr hg3
   clear hF2 hg3
   obtain ⟨K,hK⟩:∃K,a.e.any (clP b.e)=K:=⟨_,rfl⟩
   rw[hK]
   cases K
   ·have hKH:Hid (dD a b=false):=hK
    clear hK
    obtain ⟨a0,a1,a2,a3,a4,a5,alt,arow,arowC⟩:=(show TabAt _ _ _ _ _ _ _ from hF3.ta)
    obtain ⟨b0,b1,b2,b3,b4,b5,blt,brow,browC⟩:=(show TabAt _ _ _ _ _ _ _ from hF3.tb)
    have hjo:=pd a.c b.c A B ca cb w3 hlH.out.1 hlH.out.2.1 arow brow hAH.out.1 hAH.out.2
    have hjoH:Hid _:=hjo
    clear hjo arow brow arowC browC alt blt
    go_wp2_with fail
    refine cM (show Calls _ _ _ _ _ from hjoH.out) ?_
    rintro e w4 ⟨C4,p4,rfl,hr4,hC4,hCb4,hb4⟩
    clear hjoH a0 a1 a2 a3 a4 a5 b0 b1 b2 b3 b4 b5
    have hF4:=hF3.below hb4
    have hs3:=hF3.res.lt
    have hCw4:Hid (∀x,C4=some x→w.heap.size≤x.block):=fun x hx=>by have:=hCb4 x hx;omega
    have hCn4:Hid (∀x,C4=some x→x.block≠w.heap.size+1+1):=fun x hx=>by have:=hCb4 x hx;omega
    clear hF3 hb4 hCb4
    obtain ⟨J,hJ⟩:∃J,az a.c b.c=J:=⟨_,rfl⟩
    obtain ⟨E4,hE4⟩:∃E,aC a.c b.c=E:=⟨_,rfl⟩
    rw[hJ] at hr4 ⊢
    rw[hE4]
    have hJH:Hid (az a.c b.c=J∧aC a.c b.c=E4):=⟨hJ,hE4⟩
    clear hJ hE4
    have hgC:Gr w4 (w4.alloc (Z #[S I J.c0,S I J.c1,S I J.c2,S I J.c3,O C4 J.l.length p4] 39)):=(gR _).alloc _
    have hF5:=hF4.gr hgC
    have hc5:CtxAt (w4.alloc (Z #[S I J.c0,S I J.c1,S I J.c2,S I J.c3,O C4 J.l.length p4] 39)) w4.heap.size J C4 p4:=CtxAt.new (c:=J) 39 hr4 rfl
    have hs4:=hF4.res.lt
    clear hF4 hgC hr4
    by_cases h4:E4=0
    ·subst h4
     obtain ⟨a0,a1,a2,a3,a4,a5,alt,arow,arowC⟩:=(show TabAt _ _ _ _ _ _ _ from hF5.ta)
     obtain ⟨b0,b1,b2,b3,b4,b5,blt,brow,browC⟩:=(show TabAt _ _ _ _ _ _ _ from hF5.tb)
     have hmc:=lq a b A B C D ca cb cc cd _ heA.out heB.out arow brow arowC browC
     have hmcH:Hid _:=hmc
     clear hmc arow brow arowC browC alt blt
     go_wp2_with fail
     refine cM (show Calls _ _ _ _ _ from hmcH.out) ?_
     rintro e w6 ⟨F,cf,rfl,hrF,hF0,hFb,hb6⟩
     clear hmcH a0 a1 a2 a3 a4 a5 b0 b1 b2 b3 b4 b5
     have hF6:=hF5.below hb6
     have hc6:=hc5.below hb6
     have hFw:Hid (∀x,F=some x→w.heap.size≤x.block):=fun x hx=>by have:=hFb x hx;simp at this;omega
     have hFn:Hid (∀x,F=some x→x.block≠w.heap.size+1+1):=fun x hx=>by have:=hFb x hx;simp at this;omega
     clear hF5 hc5 hb6 hFb
     obtain ⟨M,hM⟩:∃M,mrg a b=M:=⟨_,rfl⟩
     rw[hM] at hrF ⊢
     have hMl:M.length≤800:=by
      rw[←hM]
      unfold mrg
      rw[gS]
      have h1:=ox a b
      have h2:=(af heA.out).2.1
      have h3:=(af heB.out).2.1
      omega
     have hMH:Hid (mrg a b=M):=hM
     clear hM
     by_cases h400:400<M.length
     ·have h400z:(400:Int)<(M.length:Int):=by omega
      have hfin:Hid (ak a b=2∧ac a b=⟨aH,[]⟩):=fE (by unfold ak;rw[heA.out,heB.out,hKH.out,hJH.out.2,hMH.out];simp[h400]) (by decide)
      obtain ⟨z0,z1,z2,z3,z4,z5,zf,zlt⟩:=(show Six _ _ _ _ _ _ _ _ from hF6.res)
      have hbw:Hid (Below w.heap.size w _):=hF6.hw
      go_wp2
      rw[hfin.out.1,hfin.out.2]
      exact bodyPost_ret (v:= Y #[U #[S I 0,S I 0,S I 0,S I 0,O none 0 0,O none 0 0],S I 2]) (by simp[results,Tryz.results48,go_sem,z0,z1,z2,z3,z4,z5]) rfl ⟨none,0,none,0,rfl,oL rfl,oL rfl,fun _=>rfl,fun _=>rfl,(fun x hx=>by cases hx),(fun x hx=>by cases hx),aj hbw.out (by omega) _ _ _ _ _ _⟩
     ·have h400z:¬(400:Int)<(M.length:Int):=by omega
      have hfin:Hid (ak a b=0∧ac a b=⟨J,M⟩):=by
       have h0:ak a b=0:=by unfold ak;rw[heA.out,heB.out,hKH.out,hJH.out.2,hMH.out];simp;omega
       exact ⟨h0,by unfold ac;rw[h0,if_pos rfl,hJH.out.1,hMH.out]⟩
      obtain ⟨z0,z1,z2,z3,z4,z5,zf,zlt⟩:=(show Six _ _ _ _ _ _ _ _ from hF6.res)
      obtain ⟨c0,c1,c2,c3,c4,clt,crow⟩:=(show CtxAt _ _ _ _ _ from hc6)
      have hbw:Hid (Below w.heap.size w _):=hF6.hw
      have hcrow:Hid (Row _ C4 J.l):=crow
      have hrFH:Hid (bA _ F M):=hrF
      clear crow hrF h400
      go_wp2
      rw[hfin.out.1,hfin.out.2]
      have h1:=hCn4.out
      have h2:=hFn.out
      exact bodyPost_ret (v:= Y #[U #[S I J.c0,S I J.c1,S I J.c2,S I J.c3,O C4 J.l.length p4,O F M.length cf],S I 0]) (by simp[results,Tryz.results48,go_sem,z0,z1,z2,z3,z4,z5]) rfl ⟨C4,p4,F,cf,rfl,(((((hcrow.out.setCell _ h1).setCell _ h1).setCell _ h1).setCell _ h1).setCell _ h1).setCell _ h1,(((((hrFH.out.setCell _ h2).setCell _ h2).setCell _ h2).setCell _ h2).setCell _ h2).setCell _ h2,hC4,hF0,hCw4.out,hFw.out,aj hbw.out (by omega) _ _ _ _ _ _⟩
    ·have hfin:Hid (ak a b=E4∧ac a b=⟨aH,[]⟩):=fE (by unfold ak;rw[heA.out,heB.out,hKH.out,hJH.out.2];simp[h4]) h4
     have heb:(E4 != 0)=true:=by simpa using h4
     clear h4
     obtain ⟨z0,z1,z2,z3,z4,z5,zf,zlt⟩:=(show Six _ _ _ _ _ _ _ _ from hF5.res)
     have hbw:Hid (Below w.heap.size w _):=hF5.hw
     go_upto_region 11 with fail
     generalize w4.alloc (Z #[S I J.c0,S I J.c1,S I J.c2,S I J.c3,O C4 J.l.length p4] 39)=V at z0 z1 z2 z3 z4 z5 zf zlt hbw ⊢
     go_wp2
     rw[hfin.out.1,hfin.out.2]
     exact bodyPost_ret (v:= Y #[U #[S I 0,S I 0,S I 0,S I 0,O none 0 0,O none 0 0],S I E4]) (by simp[results,Tryz.results48,go_sem,z0,z1,z2,z3,z4,z5]) rfl ⟨none,0,none,0,rfl,oL rfl,oL rfl,fun _=>rfl,fun _=>rfl,(fun x hx=>by cases hx),(fun x hx=>by cases hx),aj hbw.out (by omega) _ _ _ _ _ _⟩
   ·have hfin:Hid (ak a b=5∧ac a b=⟨aH,[]⟩):=fE (by unfold ak dD;rw[heA.out,heB.out,hK];simp) (by decide)
    clear hK
    obtain ⟨z0,z1,z2,z3,z4,z5,zf,zlt⟩:=(show Six _ _ _ _ _ _ _ _ from hF3.res)
    have hbw:Hid (Below w.heap.size w _):=hF3.hw
    go_wp2
    rw[hfin.out.1,hfin.out.2]
    exact bodyPost_ret (v:= Y #[U #[S I 0,S I 0,S I 0,S I 0,O none 0 0,O none 0 0],S I 5]) (by simp[results,Tryz.results48,go_sem,z0,z1,z2,z3,z4,z5]) rfl ⟨none,0,none,0,rfl,oL rfl,oL rfl,fun _=>rfl,fun _=>rfl,(fun x hx=>by cases hx),(fun x hx=>by cases hx),aj hbw.out (by omega) _ _ _ _ _ _⟩
  ·have hfin:Hid (ak a b=E2∧ac a b=⟨aH,[]⟩):=fE (by unfold ak;rw[heA.out,hE2];simp[h2]) h2
   have heb:(E2 != 0)=true:=by simpa using h2
   clear h2 hE2
   obtain ⟨z0,z1,z2,z3,z4,z5,zf,zlt⟩:=(show Six _ _ _ _ _ _ _ _ from hF2.res)
   have hbw:Hid (Below w.heap.size w _):=hF2.hw
   go_wp2
   rw[hfin.out.1,hfin.out.2]
   exact bodyPost_ret (v:= Y #[U #[S I 0,S I 0,S I 0,S I 0,O none 0 0,O none 0 0],S I E2]) (by simp[results,Tryz.results48,go_sem,z0,z1,z2,z3,z4,z5]) rfl ⟨none,0,none,0,rfl,oL rfl,oL rfl,fun _=>rfl,fun _=>rfl,(fun x hx=>by cases hx),(fun x hx=>by cases hx),aj hbw.out (by omega) _ _ _ _ _ _⟩
 ·have hfin:Hid (ak a b=E1∧ac a b=⟨aH,[]⟩):=fE (by unfold ak;rw[hE1];simp[h1]) h1
  have heb:(E1 != 0)=true:=by simpa using h1
  clear h1 hE1
  obtain ⟨z0,z1,z2,z3,z4,z5,zf,zlt⟩:=(show Six _ _ _ _ _ _ _ _ from hF1.res)
  have hbw:Hid (Below w.heap.size w _):=hF1.hw
  go_wp2
  rw[hfin.out.1,hfin.out.2]
  exact bodyPost_ret (v:= Y #[U #[S I 0,S I 0,S I 0,S I 0,O none 0 0,O none 0 0],S I E1]) (by simp[results,Tryz.results48,go_sem,z0,z1,z2,z3,z4,z5]) rfl ⟨none,0,none,0,rfl,oL rfl,oL rfl,fun _=>rfl,fun _=>rfl,(fun x hx=>by cases hx),(fun x hx=>by cases hx),aj hbw.out (by omega) _ _ _ _ _ _⟩


def cT (t:Tab) (n key col v:Int):Int :=
 if am t≠0 then am t else if aU key col v=false then 1 else if (bv t.c n).2≠0 then (bv t.c n).2
 else if bM (aq (cI key col) t.e)≠0 then bM (aq (cI key col) t.e) else if bM [(bv t.c n).1]≠0 then bM [(bv t.c n).1]
 else aC (aA (aq (cI key col) t.e)) (aA [(bv t.c n).1])
def cF (t:Tab) (n key col v:Int):Tab :=
 if cT t n key col v=0 then ⟨az (aA (aq (cI key col) t.e)) (aA [(bv t.c n).1]),[((bv t.c n).1,key,col,v)]⟩ else ⟨aH,[]⟩

structure PutAt (w W:World) (t:Tab) (A:Option Addr) (ca:Nat) (D:Option Addr) (cd:Nat) (key col:Int):Prop where
 tab:TabAt W w.heap.size t A ca D cd
 key:W.cell? ⟨w.heap.size+1,0,none⟩=some (S I key)
 col:W.cell? ⟨w.heap.size+1+1,0,none⟩=some (S I col)
 res:wA W (w.heap.size+1+1+1)
 hw:Below w.heap.size w W
theorem PutAt.below {w W W':World} {t:Tab} {A:Option Addr} {ca:Nat} {D:Option Addr} {cd:Nat} {key col:Int} (h:PutAt w W t A ca D cd key col) (k:Below W.heap.size W W'):PutAt w W' t A ca D cd key col :=
 ⟨h.tab.below k,(k.cell (p:=⟨w.heap.size+1,0,none⟩) (show w.heap.size+1<_ by have:=h.res.lt;omega)).trans h.key,(k.cell (p:=⟨w.heap.size+1+1,0,none⟩) (show w.heap.size+1+1<_ by have:=h.res.lt;omega)).trans h.col,h.res.below k,h.hw.trans (k.mono h.hw.size)⟩
theorem PutAt.gr {w W W':World} {t:Tab} {A:Option Addr} {ca:Nat} {D:Option Addr} {cd:Nat} {key col:Int} (h:PutAt w W t A ca D cd key col) (k:Gr W W'):PutAt w W' t A ca D cd key col:=h.below k.below

theorem xw {W:World} {n:Nat} (hn:W.heap.size=n) (x:Cel) (T:TypeId):bA (W.alloc (Z #[S I x.1.1,S I x.1.2,S I x.2.1,S I x.2.2.1,S I x.2.2.2] T)) (some ⟨n,0,none⟩) [x]:=by
 subst hn
 refine oR ⟨W.heap.size,0,rfl,by simp,fun j hj i hi=> ?_⟩
 have hj':j=0:=by simp at hj;omega
 subst hj'
 have hb:=fun (i:Nat) (v:Value) (h:(#[S I x.1.1,S I x.1.2,S I x.2.1,S I x.2.2.1,S I x.2.2.2]:Array Value)[i]? = some v)=>ab (w:=W) (gR (W.alloc (Z #[S I x.1.1,S I x.1.2,S I x.2.1,S I x.2.2.1,S I x.2.2.2] T))) (j:=i) h
 have hi':i=0∨i=1∨i=2∨i=3∨i=4:=by omega
 rcases hi' with rfl|rfl|rfl|rfl|rfl
 ·exact hb 0 _ rfl
 ·exact hb 1 _ rfl
 ·exact hb 2 _ rfl
 ·exact hb 3 _ rfl
 ·exact hb 4 _ rfl

def Fz (W:World) (B:Nat):Prop:=B<W.heap.size∧∀j,W.frozen? ⟨B,j,none⟩=false
theorem Fz.below {W W':World} {B:Nat} (h:Fz W B) (k:Below W.heap.size W W'):Fz W' B:=⟨nL h.1 k.size,fun j=>(k.frozen (p:=⟨B,j,none⟩) h.1).trans (h.2 j)⟩
theorem Fz.gr {W W':World} {B:Nat} (h:Fz W B) (k:Gr W W'):Fz W' B:=h.below k.below
theorem Fz.new (W:World) (C1:Array Value) (T1:TypeId):Fz (W.alloc (Z C1 T1)) W.heap.size:=⟨by simp,fun j=>eC (gR _) j⟩

theorem qE {W:World} {A:Addr} {N:Int×Int} (hr:Row W (some A) [N]) :
  Calls Tryz.prog 107 #[O (some A) 1 1] W fun e w'=>∃C cp,e= .returned (Y #[U #[S I (aA [N]).c0,S I (aA [N]).c1,S I (aA [N]).c2,S I (aA [N]).c3,O C (aA [N]).l.length cp],S I (bM [N])])∧Row w' C (aA [N]).l∧(C=none→cp=0)∧(∀a,C=some a→W.heap.size≤a.block)∧Below W.heap.size W w' :=
 pg [N] (some A) 1 W (by simp[maxLen]) (fun h=>by cases h) hr

theorem jL (l:List (Int×Int)) (h:l.length≤400):(aA l).l.length≤maxLen:=by
 refine nT (m:=400) ?_ (by decide)
 unfold aA
 by_cases h0:bM l=0
 ·rw[if_pos h0]
  unfold dU
  have:=iL aH (srt l) (srt l).length
  rw[eY] at this ⊢
  have hz:aH.l.length=0:=rfl
  omega
 ·rw[if_neg h0]
  exact nZ _

theorem xu (t:Tab) (A:Option Addr) (ca:Nat) (D:Option Addr) (cd:Nat) (n key col v:Int) (w:World) (hl:t.c.l.length≤maxLen) (hel:t.e.length≤maxLen) (hr:Row w A t.c.l) (hd:bA w D t.e) :
  Calls Tryz.prog 71 #[U (T6 t A ca D cd).toArray,S I n,S I key,S I col,S I v] w fun e w'=>∃C cp D' cd',e= .returned (Y #[U (T6 (cF t n key col v) C cp D' cd').toArray,S I (cT t n key col v)])∧Row w' C (cF t n key col v).c.l∧bA w' D' (cF t n key col v).e∧(C=none→cp=0)∧(D'=none→cd'=0)∧(∀x,C=some x→w.heap.size≤x.block)∧(∀x,D'=some x→w.heap.size≤x.block)∧Below w.heap.size w w':=by
 have hF0:PutAt w ((((w.alloc (Z #[S I t.c.c0,S I t.c.c1,S I t.c.c2,S I t.c.c3,O A t.c.l.length ca,O D t.e.length cd] 42)).alloc (Z #[S I key] 3)).alloc (Z #[S I col] 3)).alloc (Z #[S I 0,S I 0,S I 0,S I 0,O none 0 0,O none 0 0] 42)) t A ca D cd key col :=
  ⟨(TabAt.new 42 hr hd rfl).gr ((((gR _).alloc _).alloc _).alloc _),lY (((gR _).alloc _).alloc _) rfl,(by have h:=lY (w:=w.alloc (Z #[S I t.c.c0,S I t.c.c1,S I t.c.c2,S I t.c.c3,O A t.c.l.length ca,O D t.e.length cd] 42)) (C1:= #[S I key]) (T1:=3) (C2:= #[S I col]) (T2:=3) ((gR _).alloc (Z #[S I 0,S I 0,S I 0,S I 0,O none 0 0,O none 0 0] 42)) (j:=0) rfl;rw[World.size_alloc] at h;exact h),Six.new _ _ _ _ _ _ _ 42 (by simp),(((((gR w).alloc _).alloc _).alloc _).alloc _).below⟩
 have hck:=ef t A ca D cd _ hl hel hF0.tab.row hF0.tab.rowC
 have hckH:Hid _:=hck
 have hlH:Hid (t.c.l.length≤maxLen):=hl
 clear hck hl
 go_enter Tryz.func71,Tryz.ntmps71
 go_wp2_with fail
 refine cM (show Calls _ _ _ _ _ from hckH.out) ?_
 rintro e w1 ⟨rfl,hg1⟩
 clear hckH
 have hF1:=hF0.gr hg1
 clear hF0 hg1
 obtain ⟨E1,hE1⟩:∃E,am t=E:=⟨_,rfl⟩
 rw[hE1]
 by_cases h1:E1=0
 ·subst h1
  have heH:Hid (am t=0):=hE1
  have hel4:t.e.length≤400:=(af hE1).2.1
  clear hE1
  cases hpl:aU key col v
  ·have hfin:Hid (cT t n key col v=1∧cF t n key col v=⟨aH,[]⟩):=by
    have h1:cT t n key col v=1:=by simp[cT,heH.out,hpl]
    exact ⟨h1,by unfold cF;rw[h1];rfl⟩
   obtain ⟨z0,z1,z2,z3,z4,z5,zf,zlt⟩:=(show Six _ _ _ _ _ _ _ _ from hF1.res)
   have hkk:=hF1.key
   have hcc:=hF1.col
   have hbw:Hid (Below w.heap.size w w1):=hF1.hw
   go_wp2_with (go_at_call 46;refine (fA hpl _).mono ?_;rintro e w1 ⟨rfl,rfl⟩)
   rw[hfin.out.1,hfin.out.2]
   exact bodyPost_ret (v:= Y #[U #[S I 0,S I 0,S I 0,S I 0,O none 0 0,O none 0 0],S I 1]) (by simp[results,Tryz.results71,go_sem,z0,z1,z2,z3,z4,z5]) rfl ⟨none,0,none,0,rfl,oL rfl,oL rfl,fun _=>rfl,fun _=>rfl,(fun x hx=>by cases hx),(fun x hx=>by cases hx),aj hbw.out (by omega) _ _ _ _ _ _⟩
  ·obtain ⟨k0,k1,k2,k3,k4,k5,klt,krow,krowC⟩:=(show TabAt _ _ _ _ _ _ _ from hF1.tab)
   have hkk:=hF1.key
   have hcc:=hF1.col
   have hnx:=vp t.c A ca n w1 hlH.out krow
   have hnxH:Hid _:=hnx
   clear hnx
   go_wp2_with (first|(go_at_call 46;refine (fA hpl _).mono ?_;rintro e w1 ⟨rfl,rfl⟩)|fail)
   refine cM (show Calls _ _ _ _ _ from hnxH.out) ?_
   rintro e w2 ⟨rfl,hg2⟩
   clear hnxH k0 k1 k2 k3 k4 k5 klt krow krowC hkk hcc
   have hF2:=hF1.gr hg2
   clear hF1 hg2
   obtain ⟨N,hN⟩:∃N,(bv t.c n).1=N:=⟨_,rfl⟩
   obtain ⟨E2,hE2⟩:∃E,(bv t.c n).2=E:=⟨_,rfl⟩
   rw[hN,hE2]
   have hNF:Hid ((bv t.c n).1=N∧(bv t.c n).2=E2):=⟨hN,hE2⟩
   clear hN hE2
   go_upto_region 7 with fail
   have hF3:=hF2.gr ((gR _).alloc (Z #[S I N.1,S I N.2] 83))
   have hn3:DotAt (w2.alloc (Z #[S I N.1,S I N.2] 83)) w2.heap.size N.1 N.2:=DotAt.new 83 rfl
   generalize w2.alloc (Z #[S I N.1,S I N.2] 83)=w3 at hF3 hn3 ⊢
   generalize w2.heap.size=bN at hn3 ⊢
   clear hF2
   by_cases h2:E2=0
   ·subst h2
    have hP:Hid (cT t n key col v=if bM (aq (cI key col) t.e)≠0 then bM (aq (cI key col) t.e) else if bM [N]≠0 then bM [N] else aC (aA (aq (cI key col) t.e)) (aA [N])):=by
     show cT t n key col v=_
     unfold cT
     rw[heH.out,hpl,hNF.out.1,hNF.out.2]
     rfl
    have hT:Hid (cF t n key col v=if cT t n key col v=0 then ⟨az (aA (aq (cI key col) t.e)) (aA [N]),[(N,key,col,v)]⟩ else ⟨aH,[]⟩):=by
     show cF t n key col v=_
     unfold cF
     rw[hNF.out.1]
    clear hNF
    obtain ⟨k0,k1,k2,k3,k4,k5,klt,krow,krowC⟩:=(show TabAt _ _ _ _ _ _ _ from hF3.tab)
    have hkk:=hF3.key
    have hcc:=hF3.col
    have hrl:=hF3.res.lt
    have eg:∀args w,(callFunc 106 args).run Tryz.prog w= .ok (.enter 106 args) w:=enters_of Tryz.func106 (by kernel_rfl) rfl
    have hco:=iw (cI key col) 106 #[.pointer (some ⟨w.heap.size+1,0,none⟩),.pointer (some ⟨w.heap.size+1+1,0,none⟩)] eg t.e D cd w3 hel4 krowC (fun W hW x=>uG key col (w.heap.size+1) (w.heap.size+1+1) x W (by have:=hW.size;omega) (by have:=hW.size;omega) ((hW.cell (p:=⟨w.heap.size+1,0,none⟩) (show w.heap.size+1<_ by omega)).trans hkk) ((hW.cell (p:=⟨w.heap.size+1+1,0,none⟩) (show w.heap.size+1+1<_ by omega)).trans hcc))
    have hcoH:Hid _:=hco
    have hFl:Hid ((aA (aq (cI key col) t.e)).l.length≤maxLen):=jL _ (nT (dH _ _) hel4)
    have hGl:Hid ((aA [N]).l.length≤maxLen):=jL _ (by simp)
    clear hco
    go_wp2_with fail
    refine cM (show Calls _ _ _ _ _ from hcoH.out) ?_
    rintro e w4 ⟨C4,cp4,rfl,hr4,hC4,_,hb4⟩
    clear hcoH k0 k1 k2 k3 k4 k5 klt krow krowC hkk hcc hrl eg
    obtain ⟨F,hFF⟩:∃F,aA (aq (cI key col) t.e)=F:=⟨_,rfl⟩
    obtain ⟨E4,hE4⟩:∃E,bM (aq (cI key col) t.e)=E:=⟨_,rfl⟩
    rw[hFF] at hr4 hP hT hFl ⊢
    rw[hE4] at hP ⊢
    clear hFF hE4
    go_upto_region 10 with fail
    have hF5:=(hF3.below hb4).gr ((gR _).alloc (Z #[S I F.c0,S I F.c1,S I F.c2,S I F.c3,O C4 F.l.length cp4] 39))
    have hn5:=(hn3.below hb4).gr ((gR _).alloc (Z #[S I F.c0,S I F.c1,S I F.c2,S I F.c3,O C4 F.l.length cp4] 39))
    have hc5:CtxAt (w4.alloc (Z #[S I F.c0,S I F.c1,S I F.c2,S I F.c3,O C4 F.l.length cp4] 39)) w4.heap.size F C4 cp4:=CtxAt.new 39 hr4 rfl
    have hf5:Fz (w4.alloc (Z #[S I F.c0,S I F.c1,S I F.c2,S I F.c3,O C4 F.l.length cp4] 39)) w4.heap.size:=Fz.new _ _ _
    have hbC:w.heap.size+1+1+1<w4.heap.size:=by have:=hF3.res.lt;have:=hb4.size;omega
    generalize w4.alloc (Z #[S I F.c0,S I F.c1,S I F.c2,S I F.c3,O C4 F.l.length cp4] 39)=w5 at hF5 hn5 hc5 hf5 ⊢
    have hbN:bN<w4.heap.size:=by have:=hn3.lt;have:=hb4.size;omega
    clear hF3 hn3 hr4 hb4
    generalize w4.heap.size=bC at hc5 hf5 hbC hbN ⊢
    by_cases h4:E4=0
    ·subst h4
     obtain ⟨n0,n1,nlt⟩:=(show DotAt _ _ _ _ from hn5)
     go_wp2_with fail
     refine cM (show Calls _ _ _ _ _ from qE (N:=N) (gQ rfl N.1 N.2 _)) ?_
     rintro e w6 ⟨C6,cp6,rfl,hr6,hC6,_,hb6⟩
     clear n0 n1 nlt
     have hF6:=(hF5.gr ((gR _).alloc _)).below hb6
     have hn6:=(hn5.gr ((gR _).alloc _)).below hb6
     have hc6:=(hc5.gr ((gR _).alloc _)).below hb6
     have hf6:=(hf5.gr ((gR _).alloc _)).below hb6
     clear hF5 hn5 hc5 hb6 hf5
     obtain ⟨G,hGG⟩:∃G,aA [N]=G:=⟨_,rfl⟩
     obtain ⟨E6,hE6⟩:∃E,bM [N]=E:=⟨_,rfl⟩
     rw[hGG] at hr6 hP hT hGl ⊢
     rw[hE6] at hP ⊢
     clear hGG hE6
     go_upto_region 13 with fail
     have hF7:=hF6.gr ((gR _).alloc (Z #[S I G.c0,S I G.c1,S I G.c2,S I G.c3,O C6 G.l.length cp6] 39))
     have hn7:=hn6.gr ((gR _).alloc (Z #[S I G.c0,S I G.c1,S I G.c2,S I G.c3,O C6 G.l.length cp6] 39))
     have hc7:=hc6.gr ((gR _).alloc (Z #[S I G.c0,S I G.c1,S I G.c2,S I G.c3,O C6 G.l.length cp6] 39))
     have hf7:=hf6.gr ((gR _).alloc (Z #[S I G.c0,S I G.c1,S I G.c2,S I G.c3,O C6 G.l.length cp6] 39))
     have hg7:CtxAt (w6.alloc (Z #[S I G.c0,S I G.c1,S I G.c2,S I G.c3,O C6 G.l.length cp6] 39)) w6.heap.size G C6 cp6:=CtxAt.new 39 hr6 rfl
     generalize w6.alloc (Z #[S I G.c0,S I G.c1,S I G.c2,S I G.c3,O C6 G.l.length cp6] 39)=w7 at hF7 hn7 hc7 hg7 hf7 ⊢
     clear hF6 hn6 hc6 hr6 hf6
     generalize w6.heap.size=bG at hg7 ⊢
     by_cases h6:E6=0
     ·subst h6
      obtain ⟨c0,c1,c2,c3,c4,clt,crow⟩:=(show CtxAt _ _ _ _ _ from hc7)
      obtain ⟨g0,g1,g2,g3,g4,glt,grow'⟩:=(show CtxAt _ _ _ _ _ from hg7)
      have hjn:=pd F G C4 C6 cp4 cp6 w7 hFl.out hGl.out crow grow' hC4 hC6
      have hjnH:Hid _:=hjn
      clear hjn
      go_wp2_with fail
      refine cM (show Calls _ _ _ _ _ from hjnH.out) ?_
      rintro e w8 ⟨C8,cp8,rfl,hr8,hC8,hCb8,hb8⟩
      clear hjnH c0 c1 c2 c3 c4 clt crow g0 g1 g2 g3 g4 glt grow'
      obtain ⟨J,hJJ⟩:∃J,az F G=J:=⟨_,rfl⟩
      obtain ⟨E8,hE8⟩:∃E,aC F G=E:=⟨_,rfl⟩
      rw[hJJ] at hr8 hT ⊢
      rw[hE8] at hP ⊢
      clear hJJ hE8
      have hF8:=hF7.below hb8
      have hn8:=hn7.below hb8
      have hc8:=hc7.below hb8
      have hc7l:=hc7.lt
      have hf8:=hf7.below hb8
      clear hF7 hn7 hc7 hg7 hb8 hf7
      obtain ⟨c0,c1,c2,c3,c4,clt,crow⟩:=(show CtxAt _ _ _ _ _ from hc8)
      have hcz:=hf8.2
      go_upto_region 16 with fail
      have hbV:Below bC w8 (((((w8.setCell ⟨bC,0,none⟩ (S I J.c0)).setCell ⟨bC,1,none⟩ (S I J.c1)).setCell ⟨bC,2,none⟩ (S I J.c2)).setCell ⟨bC,3,none⟩ (S I J.c3)).setCell ⟨bC,4,none⟩ (O C8 J.l.length cp8)):=aZ (bR _ _) (nR _) _ _ _ _ _
      have hc9:CtxAt (((((w8.setCell ⟨bC,0,none⟩ (S I J.c0)).setCell ⟨bC,1,none⟩ (S I J.c1)).setCell ⟨bC,2,none⟩ (S I J.c2)).setCell ⟨bC,3,none⟩ (S I J.c3)).setCell ⟨bC,4,none⟩ (O C8 J.l.length cp8)) bC J C8 cp8:=hc8.set hr8 (fun x hx=>by have:=hCb8 x hx;omega)
      have hz9:=hF8.res.belowB hbV hbC
      have hk9:=(hbV.cell (p:=⟨w.heap.size+1,0,none⟩) (show w.heap.size+1<bC by omega)).trans hF8.key
      have hl9:=(hbV.cell (p:=⟨w.heap.size+1+1,0,none⟩) (show w.heap.size+1+1<bC by omega)).trans hF8.col
      have hm9:=(hbV.cell (p:=⟨bN,0,none⟩) hbN).trans hn8.k0
      have hn9:=(hbV.cell (p:=⟨bN,1,none⟩) hbN).trans hn8.k1
      have hw9:Below w.heap.size w (((((w8.setCell ⟨bC,0,none⟩ (S I J.c0)).setCell ⟨bC,1,none⟩ (S I J.c1)).setCell ⟨bC,2,none⟩ (S I J.c2)).setCell ⟨bC,3,none⟩ (S I J.c3)).setCell ⟨bC,4,none⟩ (O C8 J.l.length cp8)):=hF8.hw.trans (hbV.mono (by omega))
      have hCw8:Hid (∀x,C8=some x→w.heap.size≤x.block):=fun x hx=>by have:=hCb8 x hx;omega
      have hCn8:Hid (∀x,C8=some x→x.block≠w.heap.size+1+1+1):=fun x hx=>by have:=hCb8 x hx;omega
      generalize (((((w8.setCell ⟨bC,0,none⟩ (S I J.c0)).setCell ⟨bC,1,none⟩ (S I J.c1)).setCell ⟨bC,2,none⟩ (S I J.c2)).setCell ⟨bC,3,none⟩ (S I J.c3)).setCell ⟨bC,4,none⟩ (O C8 J.l.length cp8))=V at hc9 hz9 hk9 hl9 hm9 hn9 hw9 ⊢
      clear hF8 hn8 hc8 hf8 hcz c0 c1 c2 c3 c4 clt crow hbV hr8 hCb8 hc7l
      by_cases h8:E8=0
      ·subst h8
       have hfin:Hid (cT t n key col v=0∧cF t n key col v=⟨J,[(N,key,col,v)]⟩):=by
        have h3:cT t n key col v=0:=by rw[hP.out];simp
        exact ⟨h3,by rw[hT.out,h3,if_pos rfl]⟩
       obtain ⟨c0,c1,c2,c3,c4,clt,crow⟩:=(show CtxAt _ _ _ _ _ from hc9)
       obtain ⟨z0,z1,z2,z3,z4,z5,zf,zlt⟩:=(show Six _ _ _ _ _ _ _ _ from hz9)
       have hCn:∀a,C8=some a→a.block≠w.heap.size+1+1+1:=hCn8.out
       have hV:=(hz9.set (S I J.c0) (S I J.c1) (S I J.c2) (S I J.c3) (O C8 J.l.length cp8) (O (some ⟨V.heap.size,0,none⟩) 1 1)).gr ((gR _).alloc (Z #[S I N.1,S I N.2,S I key,S I col,S I v] 85))
       have hrV:Row _ C8 J.l:=(((((((crow.setCell (B:=w.heap.size+1+1+1) (j:=0) (S I J.c0) hCn).setCell (j:=1) (S I J.c1) hCn).setCell (j:=2) (S I J.c2) hCn).setCell (j:=3) (S I J.c3) hCn).setCell (j:=4) (O C8 J.l.length cp8) hCn).setCell (j:=5) (O (some ⟨V.heap.size,0,none⟩) 1 1) hCn)).gr ((gR _).alloc (Z #[S I N.1,S I N.2,S I key,S I col,S I v] 85))
       have hbV:=(aj hw9 (B:=w.heap.size+1+1+1) (by omega) (S I J.c0) (S I J.c1) (S I J.c2) (S I J.c3) (O C8 J.l.length cp8) (O (some ⟨V.heap.size,0,none⟩) 1 1)).alloc (by simp;omega) (Z #[S I N.1,S I N.2,S I key,S I col,S I v] 85)
       have hdV:=xw (W:=(((((V.setCell ⟨w.heap.size+1+1+1,0,none⟩ (S I J.c0)).setCell ⟨w.heap.size+1+1+1,1,none⟩ (S I J.c1)).setCell ⟨w.heap.size+1+1+1,2,none⟩ (S I J.c2)).setCell ⟨w.heap.size+1+1+1,3,none⟩ (S I J.c3)).setCell ⟨w.heap.size+1+1+1,4,none⟩ (O C8 J.l.length cp8)).setCell ⟨w.heap.size+1+1+1,5,none⟩ (O (some ⟨V.heap.size,0,none⟩) 1 1)) (n:=V.heap.size) (by simp) (N,key,col,v) 85
       have hVw:Hid (w.heap.size≤V.heap.size):=hw9.size
       have hVH:Hid _:=hV
       have hbVH:Hid _:=hbV
       have hrVH:Hid _:=hrV
       have hdVH:Hid _:=hdV
       clear hV hbV hrV hdV hCn
       go_wp2
       obtain ⟨v0,v1,v2,v3,v4,v5,vf,vlt⟩:=(show Six _ _ _ _ _ _ _ _ from hVH.out)
       have hbV:=hbVH.out
       have hrV:=hrVH.out
       have hdV:=hdVH.out
       rw[hfin.out.1,hfin.out.2]
       generalize World.alloc _ _=X at v0 v1 v2 v3 v4 v5 hbV hrV hdV ⊢
       exact bodyPost_ret (v:= Y #[U #[S I J.c0,S I J.c1,S I J.c2,S I J.c3,O C8 J.l.length cp8,O (some ⟨V.heap.size,0,none⟩) 1 1],S I 0]) (by simp[results,Tryz.results71,go_sem,v0,v1,v2,v3,v4,v5]) rfl ⟨C8,cp8,_,1,rfl,hrV,hdV,hC8,fun h=>(by cases h),hCw8.out,(fun x hx=>by cases hx;have:=hVw.out;exact this),hbV⟩
      ·have hfin:Hid (cT t n key col v=E8∧cF t n key col v=⟨aH,[]⟩):=by
        have h3:cT t n key col v=E8:=by rw[hP.out];simp
        exact ⟨h3,by rw[hT.out,h3,if_neg h8]⟩
       have heb:(E8 != 0)=true:=by simpa using h8
       clear h8
       obtain ⟨z0,z1,z2,z3,z4,z5,zf,zlt⟩:=(show Six _ _ _ _ _ _ _ _ from hz9)
       have hbw:Hid (Below w.heap.size w _):=hw9
       go_wp2
       rw[hfin.out.1,hfin.out.2]
       exact bodyPost_ret (v:= Y #[U #[S I 0,S I 0,S I 0,S I 0,O none 0 0,O none 0 0],S I E8]) (by simp[results,Tryz.results71,go_sem,z0,z1,z2,z3,z4,z5]) rfl ⟨none,0,none,0,rfl,oL rfl,oL rfl,fun _=>rfl,fun _=>rfl,(fun x hx=>by cases hx),(fun x hx=>by cases hx),aj hbw.out (by omega) _ _ _ _ _ _⟩
     ·have hfin:Hid (cT t n key col v=E6∧cF t n key col v=⟨aH,[]⟩):=by
       have h3:cT t n key col v=E6:=by rw[hP.out];simp[h6]
       exact ⟨h3,by rw[hT.out,h3,if_neg h6]⟩
      have heb:(E6 != 0)=true:=by simpa using h6
      clear h6
      obtain ⟨z0,z1,z2,z3,z4,z5,zf,zlt⟩:=(show Six _ _ _ _ _ _ _ _ from hF7.res)
      have hbw:Hid (Below w.heap.size w _):=hF7.hw
      go_wp2
      rw[hfin.out.1,hfin.out.2]
      exact bodyPost_ret (v:= Y #[U #[S I 0,S I 0,S I 0,S I 0,O none 0 0,O none 0 0],S I E6]) (by simp[results,Tryz.results71,go_sem,z0,z1,z2,z3,z4,z5]) rfl ⟨none,0,none,0,rfl,oL rfl,oL rfl,fun _=>rfl,fun _=>rfl,(fun x hx=>by cases hx),(fun x hx=>by cases hx),aj hbw.out (by omega) _ _ _ _ _ _⟩
    ·have hfin:Hid (cT t n key col v=E4∧cF t n key col v=⟨aH,[]⟩):=by
      have h3:cT t n key col v=E4:=by rw[hP.out];simp[h4]
      exact ⟨h3,by rw[hT.out,h3,if_neg h4]⟩
     have heb:(E4 != 0)=true:=by simpa using h4
     clear h4
     obtain ⟨z0,z1,z2,z3,z4,z5,zf,zlt⟩:=(show Six _ _ _ _ _ _ _ _ from hF5.res)
     have hbw:Hid (Below w.heap.size w _):=hF5.hw
     go_wp2
     rw[hfin.out.1,hfin.out.2]
     exact bodyPost_ret (v:= Y #[U #[S I 0,S I 0,S I 0,S I 0,O none 0 0,O none 0 0],S I E4]) (by simp[results,Tryz.results71,go_sem,z0,z1,z2,z3,z4,z5]) rfl ⟨none,0,none,0,rfl,oL rfl,oL rfl,fun _=>rfl,fun _=>rfl,(fun x hx=>by cases hx),(fun x hx=>by cases hx),aj hbw.out (by omega) _ _ _ _ _ _⟩
   ·have hfin:Hid (cT t n key col v=E2∧cF t n key col v=⟨aH,[]⟩):=by
     have h3:cT t n key col v=E2:=by unfold cT;rw[heH.out,hpl,hNF.out.2];simp[h2]
     exact ⟨h3,by unfold cF;rw[h3,if_neg h2]⟩
    have heb:(E2 != 0)=true:=by simpa using h2
    clear h2
    obtain ⟨z0,z1,z2,z3,z4,z5,zf,zlt⟩:=(show Six _ _ _ _ _ _ _ _ from hF3.res)
    have hbw:Hid (Below w.heap.size w _):=hF3.hw
    go_wp2
    rw[hfin.out.1,hfin.out.2]
    exact bodyPost_ret (v:= Y #[U #[S I 0,S I 0,S I 0,S I 0,O none 0 0,O none 0 0],S I E2]) (by simp[results,Tryz.results71,go_sem,z0,z1,z2,z3,z4,z5]) rfl ⟨none,0,none,0,rfl,oL rfl,oL rfl,fun _=>rfl,fun _=>rfl,(fun x hx=>by cases hx),(fun x hx=>by cases hx),aj hbw.out (by omega) _ _ _ _ _ _⟩
 ·have hfin:Hid (cT t n key col v=E1∧cF t n key col v=⟨aH,[]⟩):=by
   have h2:cT t n key col v=E1:=by unfold cT;rw[hE1,if_pos h1]
   exact ⟨h2,by unfold cF;rw[h2,if_neg h1]⟩
  have heb:(E1 != 0)=true:=by simpa using h1
  clear h1 hE1
  obtain ⟨z0,z1,z2,z3,z4,z5,zf,zlt⟩:=(show Six _ _ _ _ _ _ _ _ from hF1.res)
  have hbw:Hid (Below w.heap.size w w1):=hF1.hw
  go_wp2
  rw[hfin.out.1,hfin.out.2]
  exact bodyPost_ret (v:= Y #[U #[S I 0,S I 0,S I 0,S I 0,O none 0 0,O none 0 0],S I E1]) (by simp[results,Tryz.results71,go_sem,z0,z1,z2,z3,z4,z5]) rfl ⟨none,0,none,0,rfl,oL rfl,oL rfl,fun _=>rfl,fun _=>rfl,(fun x hx=>by cases hx),(fun x hx=>by cases hx),aj hbw.out (by omega) _ _ _ _ _ _⟩


theorem Six.oth {w:World} {B:Nat} {u0 u1 u2 u3 u4 u5:Value} (h:Six w B u0 u1 u2 u3 u4 u5) {B' j:Nat} (u:Value) (hB:B≠B'):Six (w.setCell ⟨B',j,none⟩ u) B u0 u1 u2 u3 u4 u5:=by
 have ho:∀i,(w.setCell ⟨B',j,none⟩ u).cell? ⟨B,i,none⟩=w.cell? ⟨B,i,none⟩:=fun i=>World.cell?_setCell_other _ _ _ _ (by intro e;injection e with e1;exact hB e1.symm)
 exact ⟨(ho 0).trans h.k0,(ho 1).trans h.k1,(ho 2).trans h.k2,(ho 3).trans h.k3,(ho 4).trans h.k4,(ho 5).trans h.k5,fun i=>by simp only[World.frozen?_setCell];exact h.fz i,by simpa[World.setCell] using h.lt⟩
theorem ay.set0 {α : Type} {enc: α → List Value} {k:Nat} {w:World} {A:Option Addr} {l:List α} (h:ay enc k w A l) {B m:Nat} (u:Value) (hA:∀x,A=some x→l≠[]→x.block≠B):ay enc k (w.setCell ⟨B,m,none⟩ u) A l:=by
 by_cases h0:l=[]
 ·exact oL h0
 ·exact h.setCell u fun x hx=>hA x hx h0
theorem TabAt.oth {w:World} {B:Nat} {t:Tab} {A:Option Addr} {ca:Nat} {D:Option Addr} {cd:Nat} (h:TabAt w B t A ca D cd) {B' j:Nat} (u:Value) (hB:B≠B') (hA:∀x,A=some x→t.c.l≠[]→x.block≠B') (hD:∀x,D=some x→t.e≠[]→x.block≠B'):TabAt (w.setCell ⟨B',j,none⟩ u) B t A ca D cd:=by
 have ho:∀i,(w.setCell ⟨B',j,none⟩ u).cell? ⟨B,i,none⟩=w.cell? ⟨B,i,none⟩:=fun i=>World.cell?_setCell_other _ _ _ _ (by intro e;injection e with e1;exact hB e1.symm)
 exact ⟨(ho 0).trans h.k0,(ho 1).trans h.k1,(ho 2).trans h.k2,(ho 3).trans h.k3,(ho 4).trans h.k4,(ho 5).trans h.k5,by simpa[World.setCell] using h.lt,h.row.setCell0 _ hA,h.rowC.set0 _ hD⟩
theorem qx (a b:Ctx):(az a b).l.length≤maxLen:=by
 by_cases h:aC a b=0
 ·rw[(dV h).2.2.2.1]
  exact nT (dV h).2.2.2.2 (by decide)
 ·have:az a b=aH:=by simp[az,h]
  rw[this];decide
theorem bO {a b:Tab} (h:ak a b=0):am a=0∧am b=0∧dD a b=false∧aC a.c b.c=0∧(mrg a b).length≤400:=by
 unfold ak at h
 by_cases h1:am a=0
 ·by_cases h2:am b=0
  ·cases h3:dD a b
   ·by_cases h5:aC a.c b.c=0
    ·by_cases h6:400<(mrg a b).length
     ·simp[h1,h2,h3,h5,h6] at h
     ·exact ⟨h1,h2,rfl,h5,by omega⟩
    ·simp[h1,h2,h3,h5] at h
   ·simp[h1,h2,h3] at h
  ·simp[h1,h2] at h
 ·simp[h1] at h
theorem tu (t:Tab) (n key col v:Int):(cF t n key col v).c.l.length≤maxLen∧(cF t n key col v).e.length≤maxLen:=by
 unfold cF
 by_cases h:cT t n key col v=0
 ·rw[if_pos h]
  exact ⟨qx _ _,show 1≤maxLen by decide⟩
 ·rw[if_neg h]
  exact ⟨by decide,by decide⟩
theorem sr (t:Tab) (key:Int):(ch t key).l.length≤maxLen:=by
 unfold ch
 by_cases h:dF t key=0
 ·rw[if_pos h]
  have h1:am t=0:=by
   by_cases h1:am t=0
   ·exact h1
   ·unfold dF at h
    rw[if_pos h1] at h
    exact absurd h h1
  exact jL _ (nT (dH _ _) (af h1).2.1)
 ·rw[if_neg h];decide


def bY (b:Ctx) (node top:Int):Nat→List (Int×Int)→Int→List (Int×Int)
 | 0,l,_=>l
 | n+1,l,s=>if s≤top∧l.length≤400 then bY b node top n (if ae b (node,s)=true then l else l++[(node,s)]) (s+1) else l
def ct (b:Ctx) (node:Int) (ds l:List (Int×Int)):List (Int×Int):=ds.foldl (fun l x=>if x.1=node∧ae b x=false then l++[x] else l) l
def dM (a b:Ctx) (node:Int) (l:List (Int×Int)):List (Int×Int):=ct b node a.l (bY b node (clk a node) (clk a node-clk b node).toNat l (clk b node+1))

theorem lw {b:Ctx} {node:Int} {ds l:List (Int×Int)} {k:Nat} (h:k<ds.length) {x:Int×Int} (hx:ds[k]=x):ct b node (ds.take (k+1)) l=if x.1=node∧ae b x=false then ct b node (ds.take k) l++[x] else ct b node (ds.take k) l:=by
 unfold ct
 rw[List.take_succ_eq_append_getElem h,List.foldl_append,hx]
 rfl
theorem lu {b:Ctx} {node top s:Int} {n:Nat} {l:List (Int×Int)} (h:¬(s≤top∧l.length≤400)):bY b node top n l s=l:=by
 cases n with
 | zero=>rfl
 | succ n=>simp only[bY,if_neg h]
theorem qI {b:Ctx} {node top s:Int} {l:List (Int×Int)} (h1:s≤top) (h2:l.length≤400):bY b node top (top+1-s).toNat l s=bY b node top (top+1-(s+1)).toNat (if ae b (node,s)=true then l else l++[(node,s)]) (s+1):=by
 rw[show (top+1-s).toNat=(top+1-(s+1)).toNat+1 from by omega]
 simp only[bY,if_pos (And.intro h1 h2)]
theorem sQ (b:Ctx) (node top:Int):∀(n:Nat) (l:List (Int×Int)) (s:Int),(bY b node top n l s).length≤max l.length 401:=by
 intro n
 induction n with
 | zero=>intro l s;simp only[bY];omega
 | succ n ih =>
  intro l s
  simp only[bY]
  split
  ·rename_i h
   have hl:(if ae b (node,s)=true then l else l++[(node,s)]).length≤l.length+1:=by split<;>simp
   have:=ih (if ae b (node,s)=true then l else l++[(node,s)]) (s+1)
   omega
  ·omega
theorem jN (b:Ctx) (node:Int) (ds:List (Int×Int)):∀(l:List (Int×Int)),(ct b node ds l).length≤l.length+ds.length:=by
 induction ds with
 | nil=>intro l;simp[ct]
 | cons x ds ih =>
  intro l
  have:=ih (if x.1=node∧ae b x=false then l++[x] else l)
  have hl:(if x.1=node∧ae b x=false then l++[x] else l).length≤l.length+1:=by split<;>simp
  show (ct b node ds (if x.1=node∧ae b x=false then l++[x] else l)).length≤_
  rw[List.length_cons]
  omega
theorem vd (b:Ctx) (node top:Int):∀(n:Nat) (l:List (Int×Int)) (s:Int),l.length≤(bY b node top n l s).length:=by
 intro n
 induction n with
 | zero=>intro l s;simp only[bY];omega
 | succ n ih =>
  intro l s
  simp only[bY]
  split
  ·have hl:l.length≤(if ae b (node,s)=true then l else l++[(node,s)]).length:=by split<;>simp
   have:=ih (if ae b (node,s)=true then l else l++[(node,s)]) (s+1)
   omega
  ·omega
theorem pl (b:Ctx) (node:Int) (ds:List (Int×Int)):∀(l:List (Int×Int)),l.length≤(ct b node ds l).length:=by
 induction ds with
 | nil=>intro l;simp[ct]
 | cons x ds ih =>
  intro l
  have:=ih (if x.1=node∧ae b x=false then l++[x] else l)
  have hl:l.length≤(if x.1=node∧ae b x=false then l++[x] else l).length:=by split<;>simp
  show _≤(ct b node ds (if x.1=node∧ae b x=false then l++[x] else l)).length
  omega
theorem ve (a b:Ctx) (node:Int) (l:List (Int×Int)):l.length≤(dM a b node l).length:=nT (vd b node _ _ l _) (pl b node a.l _)
theorem sU (a b:Ctx) (node:Int) (l:List (Int×Int)):(dM a b node l).length≤max l.length 401+a.l.length:=by
 have h1:=jN b node a.l (bY b node (clk a node) (clk a node-clk b node).toNat l (clk b node+1))
 have h2:=sQ b node (clk a node) (clk a node-clk b node).toNat l (clk b node+1)
 unfold dM
 omega

theorem ym {w:World} {B:Nat} {c:Ctx} {A:Option Addr} {cap:Nat} (h:CtxAt w B c A cap) {a:Int} (h0:0≤a) (h4:a<4):w.cell? ⟨B,a.toNat,none⟩=some (S I (clk c a)):=by
 have ha:a=0∨a=1∨a=2∨a=3:=by omega
 rcases ha with rfl|rfl|rfl|rfl
 ·exact h.k0
 ·exact h.k1
 ·exact h.k2
 ·exact h.k3

theorem CtxAt.belowB {w w':World} {B:Nat} {c:Ctx} {A:Option Addr} {cap base:Nat} (h:CtxAt w B c A cap) (k:Below base w w') (hB:B<base) (hA:∀x,A=some x→c.l≠[]→x.block<base):CtxAt w' B c A cap :=
 ⟨(k.cell (p:=⟨B,0,none⟩) hB).trans h.k0,(k.cell (p:=⟨B,1,none⟩) hB).trans h.k1,(k.cell (p:=⟨B,2,none⟩) hB).trans h.k2,(k.cell (p:=⟨B,3,none⟩) hB).trans h.k3,(k.cell (p:=⟨B,4,none⟩) hB).trans h.k4,nL h.lt k.size,h.row.belowB hA k⟩

structure AM (w wr:World) (N base:Nat) (a b:Ctx) (A B:Option Addr) (ca cb:Nat) (v:Value) (l:List (Int×Int)):Prop where
 own:Own wr base v l
 ap:∀k,v.ownBlock=some k→k≠N∧k≠N+1
 ca:CtxAt wr N a A ca
 cb:CtxAt wr (N+1) b B cb
 bel:Below base w wr
 bs:base≤wr.heap.size
 ra:∀x,A=some x→a.l≠[]→x.block<base
 rb:∀x,B=some x→b.l≠[]→x.block<base

theorem AM.gr {w wr w':World} {N base:Nat} {a b:Ctx} {A B:Option Addr} {ca cb:Nat} {v:Value} {l:List (Int×Int)} (h:AM w wr N base a b A B ca cb v l) (k:Gr wr w'):AM w w' N base a b A B ca cb v l :=
 ⟨h.own.gr k,h.ap,h.ca.gr k,h.cb.gr k,h.bel.trans (k.below.mono h.bs),nT h.bs k.size,h.ra,h.rb⟩

theorem CtxAt.grown {w w':World} {B:Nat} {c:Ctx} {A:Option Addr} {cap:Nat} {row:Option Nat} {base:Nat} (h:CtxAt w B c A cap) (hg:w.grownBy w' row) (hB:some B≠row) (hb:Below base w w') (hA:∀x,A=some x→c.l≠[]→x.block<base):CtxAt w' B c A cap :=
 ⟨hg.cell h.k0 hB,hg.cell h.k1 hB,hg.cell h.k2 hB,hg.cell h.k3 hB,hg.cell h.k4 hB,nL h.lt hg.size,h.row.belowB hA hb⟩

theorem AM.append {w wr w0 w1:World} {N base:Nat} {a b:Ctx} {A B:Option Addr} {ca cb:Nat} {v v':Value} {l m:List (Int×Int)} (h:AM w wr N base a b A B ca cb v l) (k:Gr wr w0) (ho:Own w1 base v' m) (hg:w0.grownBy w1 v.ownBlock) {H:Nat} (hH:w0.heap.size=H) (hat:v'.ownBlock=v.ownBlock∨v'.ownBlock=some H):AM w w1 N base a b A B ca cb v' m:=by
 subst hH
 have h0:=h.gr k
 have hb:=h0.own.grown_below hg h0.bs
 refine ⟨ho,?_,h0.ca.grown hg (fun e=>(h0.ap N e.symm).1 rfl) hb h0.ra,h0.cb.grown hg (fun e=>(h0.ap (N+1) e.symm).2 rfl) hb h0.rb,h0.bel.trans hb,nT h0.bs hg.size,h.ra,h.rb⟩
 intro j hj
 rcases hat with hat|hat
 ·exact h.ap j (by rw[←hat];exact hj)
 ·rw[hat] at hj
  injection hj with hj
  have:=h0.ca.lt
  have:=h0.cb.lt
  omega

end Go.Proofs.YtkefkplnamkicabGreatDoor
