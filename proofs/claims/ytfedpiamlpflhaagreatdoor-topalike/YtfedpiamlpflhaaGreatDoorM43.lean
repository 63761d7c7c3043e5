/-
  Packets that come in some order, to one of two nets; happenings that are kept.
  (*Net).View: a view of a node.
  What two readings of one text have in common; the queries of four nodes that were read out of one text.
  What is handed in, opened: a list of happenings.
  From what the rows lay and from the world's shape: what the library's texts read.
-/
import Derived.Test.YtfedpiamlpflhaaGreatDoorM42
import Derived.ChangeMaps5
import Derived.Test.YtfedpiamlpflhaaGreatDoorCards
import Derived.Test.YtfedpiamlpflhaaGreatDoorTie
import Derived.LaidMore
import Derived.Stop.Joined
import Derived.SevenTiedAt
import Derived.HandedShaped
import Derived.Stop.LaidErr
import Derived.Lay
set_option maxRecDepth 100000
set_option maxHeartbeats 8000000
open Go.IntKind renaming i64 → V
open Go.Proofs.Tryz renaming prog → I
namespace Go.Proofs.YtfedpiamlpflhaaGreatDoor
open Go.RowKit Go.Sort

theorem ua (y:Hap×List UInt8):∀u∈dr y,u.oneCell'=true:=by
 intro u hu
 simp only[dr,List.mem_cons,List.not_mem_nil,or_false] at hu
 rcases hu with h|h|h|h|h|h|h|h|h|h<;>rw[h]<;>rfl
theorem yL:(Tryz.prog.info? 30).map (fun i=>(i.zero,i.size,i.bytes))=some (some (.agg #[.int V 0,.int V 0,.int V 0,.int V 0,.int V 0,.int V 0,.int V 0,.int V 0,.int V 0,.string ⟨#[]⟩]),10,88):=by kernel_rfl
theorem kr (w:World) {ops:Array Oper} {rest:List Oper} {o:Oper} {a:Act} {Q:Exit→Act→World→Prop} (hgd:o.guard=none) (s z:Operand)
  (ho:o.op= .call { callee:= .builtin .append,args:= #[s,z],argTypes:= #[22,22] })
  (base:Nat) (v:Value) (l:List (Hap×List UInt8)) (y:Hap×List UInt8) (X:Nat) (hs:a.eval s=v) (hz:a.eval z= .slice (some ⟨X,0,none⟩) 1 1) (hown:ag dr 10 30 w base v l) (hr:ax dr 10 w (some ⟨X,0,none⟩) [y]) (hl:l.length≤1000) (hb:base≤w.heap.size)
  (h:∀v' w',ag dr 10 30 w' base v' (l++[y])→Below base w w'→wpList I ops Q rest (a.put o.dst v') w'):wpList I ops Q (o::rest) a w :=
 wpList_plain hgd fun K hK=>dM j8 ua (by omega) 22 Tryz.underlying22 _ 88 yL rfl w s z ho base v l [y] (some ⟨X,0,none⟩) 1 hs hz hown hr (fun h=>by cases h) (by unfold maxLen;simp;omega) (by simp;omega) hb fun v' w' h1 h2=>hK _ _ (h v' w' h1 (hown.grown_below h2 hb))

theorem vP {w:World} {B:Nat} (i:Nat) (hi:i<4) (j:Int) {E:Int} {F:List Zit}
  (hV0:Calls I 32 #[.pointer (some ⟨B,i*38,none⟩),.int V j] w fun e w'=>∃(L:List Itm) (C:Option Addr) (k:Nat),e= .returned (.tuple #[.slice C L.length k,.int V E])∧L.map Itm.z=F∧Lv w' C k L∧Below w.heap.size w w') :
  Calls I 12 #[.pointer (some ⟨B,0,none⟩),.int V i,.int V j] w fun e w'=>∃(L:List Itm) (C:Option Addr) (k:Nat),e= .returned (.tuple #[.slice C L.length k,.int V E])∧L.map Itm.z=F∧Lv w' C k L∧Below w.heap.size w w':=by
 have hN:Hid (∀W,Calls I 31 #[.int V i] W fun e w'=>e= .returned (.bool true)∧w'=W):=cL i hi
 have hV:Hid _:=hV0
 have hi4:(i:Int)<4:=by omega
 clear hV0
 go_enter Tryz.func12,Tryz.ntmps12
 go_wp2_with fail
 refine cM (hN.out _) ?_
 rintro e w1 ⟨rfl,h0⟩
 have h0:=h0.symm
 subst h0
 go_wp2_with fail
 refine cM (show Calls _ _ _ _ _ from hV.out) ?_
 rintro e w2 ⟨L,C,k,rfl,f1,f2,f3⟩
 have hfin:Hid (L.map Itm.z=F∧Lv w2 C k L∧Below w.heap.size w w2):=⟨f1,f2,f3⟩
 clear f1 f2 f3 hV
 go_wp2
 go_ret2
 exact ⟨L,C,k,rfl,hfin.out⟩
theorem tp {w:World} {B:Nat} {P:Nat→Prop} {M:NetM} {Q:Nat→List (List Stp)} (h:NetP w B P M Q) (i:Nat) (hi:i<4) {E:Int} {F:List Zit}
  (hq:(Q i=[]∧E=4∧F=[])∨∃q r,Q i=q::r∧bS q (ofR (M.s i)) (ofR (M.t i))=E∧dX q (ofR (M.s i)) (ofR (M.t i))=F) :
  Calls I 12 #[.pointer (some ⟨B,0,none⟩),.int V i,.int V 0] w fun e w'=>∃(L:List Itm) (C:Option Addr) (k:Nat),e= .returned (.tuple #[.slice C L.length k,.int V E])∧L.map Itm.z=F∧Lv w' C k L∧Below w.heap.size w w':=by
 refine vP i hi 0 ?_
 have hn:=h.nd i hi
 rcases hq with ⟨h1,rfl,rfl⟩|⟨q,r,h1,rfl,rfl⟩
 ·rw[h1] at hn
  refine (tq hn (i:=0) (oR (by simp))).mono ?_
  rintro e w' ⟨rfl,rfl⟩
  exact ⟨[],none,0,rfl,rfl,⟨⟨oL rfl,fun x hx=>by cases hx⟩,dq.mk (fun _=>rfl) (nZ _),nZ _⟩,bR _ _⟩
 ·rw[h1] at hn
  refine (vQ hn (j:=0) (by simp)).mono ?_
  rintro e w' ⟨L,C,k,rfl,f1,f2,f3,_⟩
  exact ⟨L,C,k,rfl,f1,f2,f3⟩

def mK (i:Int):Hap:=⟨5,i,0,0,0,0,0,0,0⟩
theorem rp (N:NetM) (i:Int):bH N (mK i)=N:=by
 show (if (5:Int)=1 then _ else if (5:Int)=2 then _ else if (5:Int)=3 then _ else if (5:Int)=4 then _ else N)=N
 rw[if_neg (by decide),if_neg (by decide),if_neg (by decide),if_neg (by decide)]
theorem lA {x:List UInt8} {q r:List Stp} {e f:Int} (h:dN x q e) (k:dN x r f) (e0:e=0):f=0∧q.map bare=r.map bare:=by
 rcases h with ⟨_,h1,⟨q0,h2,h3⟩,h4⟩|⟨h,_⟩
 ·rcases k with ⟨k0,_,⟨r0,k2,k3⟩,_⟩|⟨_,_,k1|k1|⟨r0,r1,k2,k3,k4⟩⟩
  ·rw[h2] at k2
   obtain rfl:=sI k2
   exact ⟨k0,h3.trans k3.symm⟩
  ·omega
  ·rw[h2] at k1;cases k1
  ·rw[h2] at k2
   obtain rfl:=sI k2
   have:bM r1=bM q:=by
    rw[←jA r1,←jA q]
    exact congrArg bM (k3.trans h3.symm)
   exact absurd (this.trans h4) k4
 ·exact absurd e0 h
def NoQ (x:List UInt8):Prop:=∀q e,dN x q e→e≠0
theorem mH {x:List UInt8} {N:NetM} {Q Q':Nat→List (List Stp)} {er:Int} {i:Nat} (hi:i<4) (h:tC x N (mK i) Q er Q') (hl:(Q i).length<4):(NoQ x∧Q'=Q)∨∃q,dN x q 0∧Q'=fa Q i (Q i++[q]):=by
 rcases h with ⟨h,_⟩|⟨_,h⟩
 ·exact absurd rfl h
 rcases h with ⟨h,_⟩|⟨_,q,ep,hp,⟨h1,_,h3⟩|⟨h1,_,h3⟩⟩
 ·exact absurd (show isN (mK i).a from ⟨by show (0:Int)≤(i:Int);omega,by show (i:Int)<4;omega⟩) h
 ·exact oL ⟨fun r e hr e0=>h1 (lA hr hp e0).1,h3⟩
 ·subst h1
  refine oR ⟨q,hp,?_⟩
  have he:bM q=0:=by
   rcases hp with ⟨_,_,_,h⟩|⟨h,_⟩
   ·exact h
   ·exact absurd rfl h
  have hi2:(mK i).a.toNat=i:=Int.toNat_natCast i
  rw[hi2] at h3
  have hw:wtE q (Q i)=0:=by unfold wtE;rw[if_pos he,if_neg (by omega)]
  have hq:wtQ q (Q i)=Q i++[q]:=by unfold wtQ;rw[if_pos hw]
  rw[h3,hq]
structure QI (x:List UInt8) (Q:Nat→List (List Stp)) (k:Nat):Prop where
 of:∀j,∀q∈Q j,dN x q 0
 few:∀j,k≤j→(Q j).length≤1
 has:∀j,j<k→NoQ x∨Q j≠[]
theorem QI.zero (x:List UInt8):QI x (fun _=>[]) 0:=⟨fun _ q hq=>(by cases hq),fun _ _=>nZ _,fun j hj=>absurd hj (Nat.not_lt_zero j)⟩
theorem QI.step {x:List UInt8} {Q Q':Nat→List (List Stp)} {k:Nat} (h:QI x Q k) (s:(NoQ x∧Q'=Q)∨∃q,dN x q 0∧Q'=fa Q k (Q k++[q])):QI x Q' (k+1):=by
 rcases s with ⟨h1,rfl⟩|⟨q,h1,rfl⟩
 ·exact ⟨h.of,fun j hj=>h.few j (by omega),fun _ _=>oL h1⟩
 ·refine ⟨fun j r hr=> ?_,fun j hj=> ?_,fun j hj=> ?_⟩
  ·by_cases e:j=k
   ·subst e
    rw[show fa Q j (Q j++[q]) j=Q j++[q] from if_pos rfl] at hr
    rcases List.mem_append.1 hr with hr|hr
    ·exact h.of j r hr
    ·rw[List.mem_singleton.1 hr];exact h1
   ·rw[show fa Q k (Q k++[q]) j=Q j from if_neg e] at hr
    exact h.of j r hr
  ·rw[show fa Q k (Q k++[q]) j=Q j from if_neg (by omega)]
   exact h.few j (by omega)
  ·by_cases e:j=k
   ·subst e
    rw[show fa Q j (Q j++[q]) j=Q j++[q] from if_pos rfl]
    exact oR (by simp)
   ·rw[show fa Q k (Q k++[q]) j=Q j from if_neg e]
    exact h.has j (by omega)
theorem QI.first {x:List UInt8} {Q':Nat→List (List Stp)} (s:(NoQ x∧Q'=fun _=>[])∨∃q,dN x q 0∧Q'=fa (fun _=>[]) 0 ([]++[q])):QI x Q' 0:=by
 rcases s with ⟨_,rfl⟩|⟨q,h1,rfl⟩
 ·exact QI.zero x
 ·refine ⟨fun j r hr=> ?_,fun j _=> ?_,fun j hj=>absurd hj (Nat.not_lt_zero j)⟩
  ·by_cases e:j=0
   ·rw[show fa (fun _=>[]) 0 ([]++[q]) j=[q] from if_pos e] at hr
    rw[List.mem_singleton.1 hr];exact h1
   ·rw[show fa (fun _=>[]) 0 ([]++[q]) j=[] from if_neg e] at hr
    cases hr
  ·by_cases e:j=0
   ·rw[show fa (fun _=>[]) 0 ([]++[q]) j=[q] from if_pos e]
    exact nR _
   ·rw[show fa (fun _=>[]) 0 ([]++[q]) j=[] from if_neg e]
    exact nZ _
theorem QI.tell {x:List UInt8} {Q:Nat→List (List Stp)} (h:QI x Q 4) (s t:Tab):∃E F,∀i,i<4→(Q i=[]∧E=4∧F=[])∨∃q r,Q i=q::r∧bS q (ofR s) (ofR t)=E∧dX q (ofR s) (ofR t)=F:=by
 by_cases hn:NoQ x
 ·refine ⟨4,[],fun i _=>oL ⟨?_,rfl,rfl⟩⟩
  cases hq:Q i with
  | nil=>rfl
  | cons q r=>exact absurd rfl (hn q 0 (h.of i q (by rw[hq];exact mS ..)))
 ·have all:∀i,i<4→∃q r,Q i=q::r∧dN x q 0:=fun i hi=>by
   have h1:=(h.has i hi).resolve_left hn
   cases hq:Q i with
   | nil=>exact absurd hq h1
   | cons q r=>exact ⟨q,r,rfl,h.of i q (by rw[hq];exact mS ..)⟩
  obtain ⟨q0,_,_,hp0⟩:=all 0 (by omega)
  refine ⟨bS q0 (ofR s) (ofR t),dX q0 (ofR s) (ofR t),fun i hi=>oR ?_⟩
  obtain ⟨q,r,h1,h2⟩:=all i hi
  have hb:=(lA h2 hp0 rfl).2
  exact ⟨q,r,h1,np hb _ _,nk hb _ _⟩
section
open Go.ChangeShapes Go.WideShapes Go.ChangeAt Go.Deep

variable {H:Type} {enc:TypeId×Value→H} {W:World}

theorem yh {cs:List Value} (h:cs.length=10):∃a b c d e f g h i j,cs=[a,b,c,d,e,f,g,h,i,j]:=by
 match cs,h with
 | [a,b,c,d,e,f,g,h,i,j],_=>exact ⟨a,b,c,d,e,f,g,h,i,j,rfl⟩
theorem xc {fuel:Nat} {v0 v1 v2 v3 v4:Value} {x:DataW H×List MemPlace} (h:DataW.trod enc I W 0 (fun _=>true) true fuel 28 [v0,v1,v2,v3,v4]=some x):∃z0 z1 z2 z3 z4:Int,[v0,v1,v2,v3,v4]=[.int V z0,.int V z1,.int V z2,.int V z3,.int V z4]:=by
 obtain ⟨xs,n,_,_,_,hxl,hf⟩:=DataW.trod_struct Tryz.underlying28 h
 have c1:Tryz.prog.cellsOf 3=1:=by kernel_rfl
 have hx5:xs.length=5:=hxl
 match xs,hx5 with
 | [y0,y1,y2,y3,y4],_ =>
  have g0:=hf 0 _ rfl
  have g1:=hf 1 _ rfl
  have g2:=hf 2 _ rfl
  have g3:=hf 3 _ rfl
  have g4:=hf 4 _ rfl
  simp[c1] at g0 g1 g2 g3 g4
  obtain ⟨z0,e0,_⟩:=DataW.trod_int Tryz.underlying3 g0
  obtain ⟨z1,e1,_⟩:=DataW.trod_int Tryz.underlying3 g1
  obtain ⟨z2,e2,_⟩:=DataW.trod_int Tryz.underlying3 g2
  obtain ⟨z3,e3,_⟩:=DataW.trod_int Tryz.underlying3 g3
  obtain ⟨z4,e4,_⟩:=DataW.trod_int Tryz.underlying3 g4
  simp only[List.cons.injEq,and_true] at e0 e1 e2 e3 e4
  exact ⟨z0,z1,z2,z3,z4,by rw[e0,e1,e2,e3,e4]⟩
theorem va {fuel:Nat} {cs:List Value} {x:DataW H×List MemPlace} (hl:cs.length=10) (h:DataW.trod enc I W 0 (fun _=>true) true fuel 30 cs=some x):∃y:Hap×List UInt8,cs=dr y∧y.2.length≤maxLen:=by
 obtain ⟨v0,v1,v2,v3,v4,v5,v6,v7,v8,v9,rfl⟩:=yh hl
 obtain ⟨xs,n,_,_,_,hxl,hf⟩:=DataW.trod_struct Tryz.underlying30 h
 have c1:Tryz.prog.cellsOf 3=1:=by kernel_rfl
 have c5:Tryz.prog.cellsOf 28=5:=by kernel_rfl
 have cs:Tryz.prog.cellsOf 9=1:=by kernel_rfl
 have hx6:xs.length=6:=hxl
 match xs,hx6 with
 | [y0,y1,y2,y3,y4,y5],_ =>
  have g0:=hf 0 _ rfl
  have g1:=hf 1 _ rfl
  have g2:=hf 2 _ rfl
  have g3:=hf 3 _ rfl
  have g4:=hf 4 _ rfl
  have g5:=hf 5 _ rfl
  simp[c1,c5,cs] at g0 g1 g2 g3 g4 g5
  obtain ⟨z0,e0,_⟩:=DataW.trod_int Tryz.underlying3 g0
  obtain ⟨z1,e1,_⟩:=DataW.trod_int Tryz.underlying3 g1
  obtain ⟨z2,e2,_⟩:=DataW.trod_int Tryz.underlying3 g2
  obtain ⟨z3,e3,_⟩:=DataW.trod_int Tryz.underlying3 g3
  obtain ⟨k1,k2,k3,k4,k5,e4⟩:=xc g4
  obtain ⟨s,e5,_,hs⟩:=DataW.trod_string Tryz.underlying9 g5
  simp only[List.cons.injEq,and_true] at e0 e1 e2 e3 e4 e5
  refine ⟨(⟨z0,z1,z2,z3,k1,k2,k3,k4,k5⟩,s.data.toList),?_,by simpa using hs⟩
  rw[e0,e1,e2,e3,e4.1,e4.2.1,e4.2.2.1,e4.2.2.2.1,e4.2.2.2.2,e5]
  rfl
theorem sH {r:Reach} {b0:Nat} {v:Value} {d:DataW H} {p:List MemPlace} (hv:Value.okWide I W r b0 22 v) (h:DataW.Trod enc I W 0 (fun _=>true) true 22 v d p) :
  ∃A cap l,v= .slice A (l:List (Hap×List UInt8)).length cap∧ax dr 10 W A l∧l.length≤maxLen∧∀x∈l,x.2.length≤maxLen:=by
 obtain ⟨aL,lenL,capL,rfl⟩:=okWide_slice Tryz.underlying22 hv
 obtain ⟨fuel,hf⟩:=h
 rcases open_slice Tryz.underlying22 hf with ⟨hcs,_⟩|⟨a,len,cap,m,n,D,Pl,hcs,_,hl,hm,hmm,hx,hi⟩
 ·simp[Value.cells] at hcs
  obtain ⟨rfl,rfl,rfl⟩:=hcs
  exact ⟨none,0,[],rfl,oL rfl,by simp,fun x hx=>by cases hx⟩
 ·simp[Value.cells] at hcs
  obtain ⟨rfl,rfl,rfl⟩:=hcs
  have c2:Tryz.prog.cellsOf 30=10:=by kernel_rfl
  have hlm:lenL≤m:=by rw[hmm];simp;exact hl
  haveI:Inhabited (Hap×List UInt8):=⟨(⟨0,0,0,0,0,0,0,0,0⟩,[])⟩
  obtain ⟨Z,hZ⟩:=choose_lt (α := Hap×List UInt8) (n:=lenL) (p:=fun i z=>(∀j,j<10→W.cell? (a.add (i*10+j))=(dr z)[j]?)∧z.2.length≤maxLen) (fun i hi'=>by
   obtain ⟨cs',h1,h2⟩:=hi i (by omega)
   rw[c2] at h1
   obtain ⟨_,hlen,hcell⟩:=World.cells?_some h1
   obtain ⟨y,hy,hy2⟩:=va hlen h2
   refine ⟨y,fun j hj=> ?_,hy2⟩
   have:=hcell j (by omega)
   rw[add_add] at this
   rw[this,←hy,List.getElem?_eq_getElem (by omega)])
  refine ⟨some a,capL,(List.range lenL).map Z,by simp,?_,by simp;omega,fun x hx=> ?_⟩
  ·by_cases h0:lenL=0
   ·exact oL (by rw[h0];rfl)
   ·have hc0:=(hZ 0 (by omega)).1 0 (by omega)
    obtain ⟨b,off,spot⟩:=a
    have hc1:W.cell? (Addr.add ⟨b,off,spot⟩ (0*10+0))=some (.int V (Z 0).1.k):=hc0
    have hspot:spot=none:=by simpa[Addr.add] using World.cell?_spot hc1
    subst hspot
    refine oR ⟨b,off,rfl,?_,fun j hj i hi5=> ?_⟩
    ·have:=World.block_lt_of_cell? W _ hc1
     simpa[Addr.add_lit] using this
    ·have hj':j<lenL:=by simpa using hj
     have:=(hZ j hj').1 i hi5
     simp only[Addr.add_lit,←Nat.add_assoc] at this
     simpa using this
  ·obtain ⟨i,hi',rfl⟩:=List.mem_map.1 hx
   exact (hZ i (by simpa using hi')).2
theorem ut {v:Value} {d:DataW H} {p:List MemPlace} (h:DataW.Trod enc I W 0 (fun _=>true) true 22 v d p) {A:Option Addr} {n c:Nat} (e:v= .slice A n c):n≤c:=by
 subst e
 obtain ⟨fuel,hf⟩:=h
 rcases open_slice Tryz.underlying22 hf with ⟨hcs,_⟩|⟨a,len,cap,m,n,D,Pl,hcs,_,hl,_⟩
 ·simp[Value.cells] at hcs
  obtain ⟨rfl,rfl,rfl⟩:=hcs
  exact nR _
 ·simp[Value.cells] at hcs
  obtain ⟨rfl,rfl,rfl⟩:=hcs
  exact hl
end
section
open Go.ChangeShapes Go.WideShapes Go.ChangeAt

theorem zn : ((Tryz.prog.globalNamed "internal/strconv.uint64pow10").bind fun g => (Tryz.prog.globals[g]?).map (·.type)) = some 308 := by kernel_rfl
theorem ti {H:Type}:(Rows.laid_internal_strconv_uint64pow10:DataW H)=Lib.tabData .u64 Lib.pow10Tab:=rfl
theorem gES : Tryz.prog.globalNamed "strconv.ErrSyntax" = some (Tryz.lays172_ren.g 15) := by kernel_rfl
theorem wK:(Tryz.prog.globals[Tryz.lays172_ren.g 15]?).map (·.type)=some 184:=by kernel_rfl
theorem rz {W:World} (h:laidMetH I Rows.topAlikeRow.laid W):nF W∧∃ev,W.cell? ⟨Tryz.lays172_ren.g 15,0,none⟩=some ev∧(ev= .nilIface∨∃te pe,ev= .iface te pe):=by
 rw[MakeChecks.laidMetH_plain _ _ _ (by kernel_rfl)] at h
 obtain ⟨ps,⟨g0,t0,cs0,f0,p0,q0,hg0,ht0,hv0,hd0,⟨g1,t1,cs1,f1,p1,q1,hg1,ht1,hv1,hd1,⟨g2,t2,cs2,f2,p2,q2,hg2,ht2,hv2,hd2,⟨g3,t3,cs3,f3,p3,q3,hg3,ht3,hv3,hd3,⟨g4,t4,cs4,f4,p4,q4,hg4,ht4,hv4,hd4,h5,_⟩,_⟩,_⟩,_⟩,_⟩,_,_⟩:=h
 constructor
 ·have hT:=zn
  rw[hg2] at hT
  obtain rfl:=sI (ht2.symm.trans hT)
  rw[ti] at hd2
  have:=Lib.cells_of_tab Tryz.underlying308 Tryz.underlying238 (by kernel_rfl) (by kernel_rfl) hd2
  show W.var? I _=some _
  rw[hv2,←this]
 ·obtain ⟨g5,t5,cs5,f5,p5,q5,hg5,ht5,hv5,hd5,_,_⟩:=h5
  rw[←Option.some.inj (gES.symm.trans hg5),wK] at ht5
  obtain rfl:=sI ht5
  obtain ⟨_,u,v,hcs,_,_⟩:=iface_of_trod Tryz.underlying184 hd5
  refine ⟨.iface u v,?_,oR ⟨u,v,rfl⟩⟩
  rw[World.var?_cell gES hv5 0]
  have h1:cs5.toList[0]? = some (.iface u v):=by rw[hcs];rfl
  simpa using h1
theorem vm {W:World} (h:W.ShapedOpen I) (hL:laidMetH I Rows.topAlikeRow.laid W):Reads W:=⟨Tryz.lays145.s1_3 W h,(rz hL).2,(rz hL).1⟩
theorem j5 {H:Type} {enc:TypeId×Value→H} {a:Assume} {C:Checked} {os:Os} {f:FuncId} {fn:Func} {s:ChangeSpec} {conds:List PathCond} {apart fresh handsOn again:Bool} {X:World→Array Value→Prop}
  (hX:∀(w w':World) (args:Array Value),w.heap=w'.heap→X w args→X w' args)
  (own:ownKnob C.prog.godebug=none) (started:os.Started) (noInit:C.prog.inits.idxOf? f=none) (hfn:C.prog.funcs[f]? = some fn)
  (witness:∃(w:World) (tape:Tape) (i:Input),w.os=os∧(w.forCall tape i).Shaped C.prog∧i.vars=[]∧Input.okWide C.prog (w.forCall tape i) .any w.heap.size f i ∧
   ((s.pre enc C.prog fn conds apart (w.forCall tape i).memory i.args∧X (w.forCall tape i).memory i.args)∧sizedMet enc C.prog fn (OpenSpec.ofChange s) apart (w.forCall tape i).memory i.args)∧a.holds C.prog (lone (Frame.enter C.prog f i.args .normal) [] (w.forCall tape i)))
  (contract:∀(W:World) (base:Nat) (args:Array Value) (ds gs:List (DataW H)) (before:List MemPlace),
   (∀(j:Nat) t v,fn.params[j]? = some t→args[j]? = some v→Value.okWide C.prog W .any base t v) →
   DataW.Whole enc C.prog fn.params.toList s.vars apart W args.toList ds gs before→X W args→W.ShapedOpen C.prog →
   Calls C.prog f args W fun e W'=>∃v,e= .returned v∧s.post enc C.prog fn apart fresh handsOn again W args v W') :
  ReturnsInHanded a C os f .any (fun w args=>(s.pre enc C.prog fn conds apart w args∧X w args)∧sizedMet enc C.prog fn (OpenSpec.ofChange s) apart w args) (s.post enc C.prog fn apart fresh handsOn again):=by
 refine returnsInHanded_of_calls own started noInit witness ?_
 intro w tape i _ hsh _ hok hpre _
 obtain ⟨_,_,_,fn',hfn',_,_,_,_,hval⟩:=hok
 obtain rfl:fn'=fn:=sI (hfn'.symm.trans hfn)
 obtain ⟨⟨⟨ds,gs,before,hw,hc⟩,hx⟩,hz⟩:=hpre
 refine (contract (w.forCall tape i) w.heap.size i.args ds gs before hval (DataW.Whole.of_heap (w':=w.forCall tape i) (by rfl) hw) (hX _ _ _ (by rfl) hx) hsh).mono fun e W' ⟨v,he,hp⟩=> ?_
 subst he
 exact ChangeSpec.post_blind hp
end
end Go.Proofs.YtfedpiamlpflhaaGreatDoor
