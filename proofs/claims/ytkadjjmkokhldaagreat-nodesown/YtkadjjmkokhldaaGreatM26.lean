/-
  Numbers in order, each once; the cells of a right table are in range.
  The rows of a table: what zset.Of tells, and that it is a right set.
  zset.greatest: the last number of a list.
-/
import Derived.Test.YtkadjjmkokhldaaGreatM07
import Derived.Test.YtkadjjmkokhldaaGreatM08
namespace Go.Proofs.YtkadjjmkokhldaaGreat
open Go.RowKit Go.Sort Go.Shelf Go.Lib

/-- Rising, each once: what onceL makes. -/
theorem compact_good {d:List Int} (hs:d.Pairwise (· ≤ ·)):∀m,m≤d.length→(compactUpTo d.toArray m).Pairwise (· < ·)∧(∀x,x∈compactUpTo d.toArray m↔∃j,∃h:j<d.length,j<m∧d[j]=x):=by
 intro m
 induction m with
 | zero =>
  intro _
  refine ⟨by simp[compactUpTo],fun x=> ?_⟩
  simp[compactUpTo]
 | succ m ih =>
  intro hm
  obtain ⟨h1,h2⟩:=ih (by omega)
  have hmd:m<d.length:=by omega
  have em:d.toArray[m]! = d[m]:=by simp[hmd]
  rw[compactUpTo_succ]
  have hle:∀x∈compactUpTo d.toArray m,x≤d[m]:=by
   intro x hx
   obtain ⟨j,hj,hjm,rfl⟩:=(h2 x).1 hx
   exact (List.pairwise_iff_getElem.1 hs) j m hj hmd hjm
  by_cases hk:keeps d.toArray m=true
  ·rw[if_pos hk,em]
   refine ⟨?_,fun x=> ?_⟩
   ·rw[List.pairwise_append]
    refine ⟨h1,by simp,?_⟩
    intro x hx y hy
    have hy':y=d[m]:=by simpa using hy
    subst hy'
    obtain ⟨j,hj,hjm,rfl⟩:=(h2 x).1 hx
    have hm1:m-1<d.length:=by omega
    have e1:d.toArray[m-1]! = d[m-1]:=by simp[hm1]
    have hne:d[m]≠d[m-1]:=by
     unfold keeps at hk
     have:=of_decide_eq_true hk
     rcases this with k|k
     ·omega
     ·rw[em,e1] at k;exact k
    have a1:d[j]≤d[m-1]:=by
     by_cases e:j=m-1
     ·subst e;exact Int.le_refl _
     ·exact (List.pairwise_iff_getElem.1 hs) j (m-1) hj hm1 (by omega)
    have a2:d[m-1]≤d[m]:=(List.pairwise_iff_getElem.1 hs) (m-1) m hm1 hmd (by omega)
    omega
   ·rw[List.mem_append,h2]
    constructor
    ·rintro (⟨j,hj,hjm,e⟩|k)
     ·exact ⟨j,hj,by omega,e⟩
     ·exact ⟨m,hmd,by omega,(by simpa using k:x=d[m]).symm⟩
    ·rintro ⟨j,hj,hjm,e⟩
     by_cases e2:j=m
     ·subst e2;exact Or.inr (by simp[e])
     ·exact Or.inl ⟨j,hj,by omega,e⟩
  ·rw[if_neg hk,List.append_nil]
   refine ⟨h1,fun x=> ?_⟩
   rw[h2]
   constructor
   ·rintro ⟨j,hj,hjm,e⟩;exact ⟨j,hj,by omega,e⟩
   ·rintro ⟨j,hj,hjm,e⟩
    by_cases e2:j=m
    ·subst e2
     unfold keeps at hk
     have hk':¬(j=0∨d.toArray[j]! ≠ d.toArray[j-1]!):=fun k=>hk (decide_eq_true k)
     have hj0:j≠0:=fun k=>hk' (Or.inl k)
     have hm1:j-1<d.length:=by omega
     have e1:d.toArray[j-1]! = d[j-1]:=by simp[hm1]
     have he:d[j]=d[j-1]:=by
      by_cases k:d[j]=d[j-1]
      ·exact k
      ·exact absurd (Or.inr (by rw[em,e1];exact k)) hk'
     exact ⟨j-1,hm1,by omega,by rw[←he];exact e⟩
    ·exact ⟨j,hj,by omega,e⟩
theorem once_good (l:List Int):(onceL l).Pairwise (· < ·)∧∀x,x∈onceL l↔x∈l:=by
 have hs:(l.mergeSort fun x y=>decide (x≤y)).Pairwise (· ≤ ·):=by
  have:=List.pairwise_mergeSort (le:=fun x y:Int=>decide (x≤y)) (by intro a b c h1 h2;simp only[decide_eq_true_eq] at *;omega) (by intro a b;simp only[Bool.or_eq_true,decide_eq_true_eq];omega) l
  exact this.imp fun h=>by simpa using h
 have h:=compact_good hs _ (Nat.le_refl _)
 refine ⟨h.1,fun x=> ?_⟩
 show x∈compactUpTo _ _↔_
 rw[h.2]
 constructor
 ·rintro ⟨j,hj,_,e⟩
  rw[←e]
  exact (List.mergeSort_perm l _).mem_iff.1 (List.getElem_mem hj)
 ·intro hx
  obtain ⟨j,hj,e⟩:=List.getElem_of_mem ((List.mergeSort_perm l _).mem_iff.2 hx)
  exact ⟨j,hj,hj,e⟩
theorem mem_vals {key col:Int} {e:List Cel} {x:Int}:x∈valsOf key col e↔∃y∈e,fitP key col y=true∧y.2.2.2=x:=by
 unfold valsOf
 rw[List.mem_map]
 constructor
 ·rintro ⟨y,hy,e⟩
  have:=List.mem_filter.1 hy
  exact ⟨y,this.1,this.2,e⟩
 ·rintro ⟨y,hy,hf,e⟩
  exact ⟨y,List.mem_filter.2 ⟨hy,hf⟩,e⟩
theorem errT_place {t:Tab} (h:errT t=0) {x:Cel} (hx:x∈t.e):okPlace x.2.1 x.2.2.1 x.2.2.2=true:=by
 obtain ⟨j,hj,rfl⟩:=List.getElem_of_mem hx
 have hk:=(errT_parts h).2.2 j hj
 have hg:t.e.getD j ((0,0),0,0,0)=t.e[j]:=by simp[hj]
 unfold okCel at hk
 rw[hg] at hk
 simp only[Bool.and_eq_true] at hk
 exact hk.1.2

end Go.Proofs.YtkadjjmkokhldaaGreat

namespace Go.Proofs.YtkadjjmkokhldaaGreat

/-- The greatest number of a rising list, 0 if it has none. -/
def grt (l:List Int):Int:=l.getD (l.length-1) 0
/-- The row of a key. -/
def rowOf (e:List Cel) (key:Int):List Int:=[key,grt (onceL (valsOf key 0 e)),grt (onceL (valsOf key 1 e)),grt (onceL (valsOf key 2 e))]
/-- The rows of a table. -/
def ofL (t:Tab):List Zit:=(onceL (keysOf t.e)).map fun key=>(rowOf t.e key,1)
theorem grt_mem (l:List Int):grt l=0∨grt l∈l:=by
 unfold grt
 by_cases h:l=[]
 ·subst h;exact Or.inl rfl
 ·have hp:0<l.length:=List.length_pos_iff.2 h
  right
  rw[List.getD_eq_getElem?_getD,List.getElem?_eq_getElem (show l.length-1<l.length by omega)]
  exact List.getElem_mem _
theorem key_ok {t:Tab} (h:errT t=0) {key:Int} (hk:key∈keysOf t.e):0≤key∧key≤49:=by
 unfold keysOf at hk
 obtain ⟨y,hy,rfl⟩:=List.mem_map.1 hk
 have:=errT_place h hy
 simp only[okPlace,inB,Bool.and_eq_true,decide_eq_true_eq] at this
 exact this.1.1
theorem grt_ok {t:Tab} (h:errT t=0) (key col:Int): -1000≤grt (onceL (valsOf key col t.e))∧grt (onceL (valsOf key col t.e))≤1000:=by
 rcases grt_mem (onceL (valsOf key col t.e)) with k|k
 ·rw[k];omega
 ·have h1:=((once_good _).2 _).1 k
  obtain ⟨y,hy,_,e⟩:=mem_vals.1 h1
  rw[←e]
  have:=errT_place h hy
  simp only[okPlace,inB,Bool.and_eq_true,decide_eq_true_eq] at this
  exact this.2
theorem okN_of {n:Int} (h: -1000≤n∧n≤1000):okN n=true:=by
 simp only[okN,inB,Bool.and_eq_true,decide_eq_true_eq];omega
/-- What Of tells of a right table is a right set. -/
theorem of_ok {t:Tab} (h:errT t=0):errZ (ofL t)=0:=by
 have hp:=errT_parts h
 refine (errZ_iff _).2 ⟨?_,?_,?_⟩
 ·have h1:=onceL_len (keysOf t.e)
  have h2:=keysOf_len t.e
  unfold ofL
  rw[List.length_map];omega
 ·intro x hx
  unfold ofL at hx
  obtain ⟨key,hk,rfl⟩:=List.mem_map.1 hx
  have h1:=key_ok h (((once_good _).2 _).1 hk)
  have h2:okN key=true:=okN_of (by omega)
  unfold okZ okR rowOf
  simp[h2,okN_of (grt_ok h key 0),okN_of (grt_ok h key 1),okN_of (grt_ok h key 2)]
  decide
 ·unfold Rise ofL
  rw[List.pairwise_map]
  refine (once_good (keysOf t.e)).1.imp fun {a b} hab=> ?_
  show (if cmpI a b=0 then _ else cmpI a b)<0
  have:=cmpI_cases a b
  rw[if_neg (by omega)];omega

end Go.Proofs.YtkadjjmkokhldaaGreat

namespace Go.Proofs.YtkadjjmkokhldaaGreat
open Go.RowKit Go.Sort

set_option maxHeartbeats 1000000 in
theorem greatest_any (l:List Int) (A:Option Addr) (cap:Nat) (w:World) (hl:l.length≤maxLen) (hr:RowI w A l) :
  Calls Tryz.prog 74 #[.slice A l.length cap] w fun e w'=>e= .returned (.int .i64 (grt l))∧Gr w w':=by
 unfold maxLen at hl
 by_cases h:l=[]
 ·subst h
  go_enter Tryz.func74,Tryz.ntmps74
  go_wp2
  go_ret
  exact ⟨rfl,Gr.refl _⟩
 ·have hp:0<l.length:=List.length_pos_iff.2 h
  have hk:l.length-1<l.length:=by omega
  obtain ⟨b,off,rfl,hb,hcs⟩:=hr.at hk
  obtain ⟨x,hx⟩:∃x,l[l.length-1]=x:=⟨_,rfl⟩
  have e0:=hcs (l.length-1) hk 0 (by omega)
  rw[hx] at e0
  have e1:w.cell? ⟨b,off+(l.length-1),none⟩=some (.int .i64 x):=by simpa[encI] using e0
  have hfin:Hid (grt l=x):=by
   show _=_
   unfold grt
   rw[List.getD_eq_getElem?_getD,List.getElem?_eq_getElem hk,←hx];rfl
  obtain ⟨n,hn⟩:∃n,l.length=n+1:=⟨l.length-1,by omega⟩
  rw[hn] at e1 ⊢
  rw[Nat.add_sub_cancel] at e1
  have hne:(((n+1:Nat):Int)==0)=false:=by simp;omega
  have hw:IntKind.i64.wrap (((n+1:Nat):Int)-1)=(n:Int):=by rw[IntKind.wrap_i64];omega
  have hlt:(n:Int)<((n+1:Nat):Int):=by omega
  clear hcs e0 hx h
  go_enter Tryz.func74,Tryz.ntmps74
  go_wp2
  go_ret
  exact ⟨by rw[hfin.out];rfl,Gr.refl _⟩

end Go.Proofs.YtkadjjmkokhldaaGreat
