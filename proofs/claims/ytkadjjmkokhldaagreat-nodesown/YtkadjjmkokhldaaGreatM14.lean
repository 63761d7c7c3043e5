/-
  What is handed in, opened: a row of numbers.
  What is handed in, opened: a row of numbers, a list of items.
  What is carried through the calls of viewkeep.ZsetGroup: lists of items, and what each call tells of them.
-/
import Derived.Test.YtkadjjmkokhldaaGreatM13
import Derived.Test.YtkadjjmkokhldaaGreatM07
import Derived.Test.YtkadjjmkokhldaaGreatM08
import Derived.Test.YtkadjjmkokhldaaGreatM12
import Derived.Test.YtkadjjmkokhldaaGreatM11
namespace Go.Proofs.YtkadjjmkokhldaaGreat
open Go.ChangeShapes Go.WideShapes Go.ChangeAt Go.RowKit Go.Deep

variable {H:Type} {enc:TypeId×Value→H} {W:World}

set_option maxRecDepth 100000 in
theorem open_row {fuel:Nat} {cs:List Value} {x:DataW H×List MemPlace} (h:DataW.trod enc Tryz.prog W 0 (fun _=>true) true fuel 46 cs=some x) :
  ∃A cap l,cs=[.slice A (l:List Int).length cap]∧(A=none→cap=0)∧RowI W A l∧l.length≤maxLen:=by
 rcases open_slice Tryz.underlying46 h with ⟨hcs,_⟩|⟨a,len,cap,m,n,D,Pl,hcs,_,hl,hm,hmm,hx,hi⟩
 ·exact ⟨none,0,[],hcs,fun _=>rfl,Or.inl rfl,by simp⟩
 ·have c1:Tryz.prog.cellsOf 3=1:=by kernel_rfl
  have hlm:len≤m:=by rw[hmm];simp;exact hl
  obtain ⟨Z,hZ⟩:=choose_lt (α := Int) (n:=len) (p:=fun i z=>W.cell? (a.add i)=some (.int .i64 z)) (fun i hi'=>by
   obtain ⟨cs',h1,h2⟩:=hi i (by omega)
   rw[c1] at h1
   obtain ⟨_,hlen,hcell⟩:=World.cells?_some h1
   obtain ⟨z,e,_⟩:=DataW.trod_int Tryz.underlying3 h2
   refine ⟨z,?_⟩
   have:=hcell 0 (by omega)
   rw[add_add] at this
   simp only[Nat.mul_one,Nat.add_zero] at this
   rw[this]
   simp[e])
  refine ⟨some a,cap,(List.range len).map Z,by rw[hcs];simp,(fun h=>by cases h),?_,by simp;omega⟩
  by_cases h0:len=0
  ·exact Or.inl (by rw[h0];rfl)
  ·have hc0:=hZ 0 (by omega)
   obtain ⟨b,off,spot⟩:=a
   have hspot:spot=none:=by simpa[Addr.add] using World.cell?_spot hc0
   subst hspot
   refine Or.inr ⟨b,off,rfl,?_,fun j hj i hi1=> ?_⟩
   ·have:=World.block_lt_of_cell? W _ hc0
    simpa[Addr.add_lit] using this
   ·have hj':j<len:=by simpa using hj
    have:=hZ j hj'
    obtain rfl:i=0:=by omega
    simp only[Addr.add_lit] at this
    simpa[encI] using this

end Go.Proofs.YtkadjjmkokhldaaGreat

namespace Go.Proofs.YtkadjjmkokhldaaGreat
open Go.ChangeShapes Go.WideShapes Go.ChangeAt Go.RowKit Go.Deep

variable {H:Type} {enc:TypeId×Value→H} {W:World}

end Go.Proofs.YtkadjjmkokhldaaGreat

namespace Go.Proofs.YtkadjjmkokhldaaGreat
open Go.RowKit Go.Sort

theorem small_z {L:List Itm} {m:List Zit} (h:L.map Itm.z=m) (hm:m.length≤400):L.length≤maxLen:=by
 have:L.length=m.length:=by rw[←h,List.length_map]
 unfold maxLen;omega
theorem normL_len (l:List Zit):(normL l).length≤400:=by
 unfold normL
 by_cases h:normE l=0
 ·rw[if_pos h];exact Nat.le_trans (totL_len l) (normE_parts h).1
 ·rw[if_neg h];simp
theorem negL_len (l:List Zit):(negL l).length≤400:=by
 unfold negL
 by_cases h:errZ l=0
 ·rw[if_pos h,List.length_map];exact ((errZ_iff _).1 h).1
 ·rw[if_neg h];simp
theorem addL_len (a b:List Zit):(addL a b).length≤400:=by
 unfold addL
 by_cases h:addE a b=0
 ·rw[if_pos h]
  by_cases k:400<(totL (a++b)).length
  ·exfalso
   unfold addE at h
   by_cases h1:errZ a=0
   ·rw[if_pos h1] at h
    by_cases h2:errZ b=0
    ·rw[if_pos h2] at h
     by_cases h3:totE (a++b)=0
     ·rw[if_pos h3,if_pos k] at h;cases h
     ·rw[if_neg h3] at h;exact h3 h
    ·rw[if_neg h2] at h;exact h2 h
   ·rw[if_neg h1] at h;exact h1 h
  ·omega
 ·rw[if_neg h];simp
theorem normVn {W:World} {A:Option Addr} {c:Nat} {l:List Itm} (h:Lv W A c l) {m:List Zit} (hm:l.map Itm.z=m) :
  Calls Tryz.prog 140 #[.slice A l.length c] W fun e w'=>∃(L:List Itm) (C:Option Addr) (k:Nat),e= .returned (.tuple #[.slice C L.length k,.int .i64 (normE m)])∧L.map Itm.z=normL m∧Lv w' C k L∧Below W.heap.size W w'∧NwT w' k W.heap.size C L:=by
 subst hm
 refine (norm_new l A c W h.len h.nil h.items).mono ?_
 rintro e w' ⟨L,C,k,h1,h2,h3,h4,h5⟩
 exact ⟨L,C,k,h1,h2,⟨h3,h4,small_z h2 (normL_len _)⟩,h5⟩
theorem negV {W:World} {A:Option Addr} {c:Nat} {l:List Itm} (h:Lv W A c l) {m:List Zit} (hm:l.map Itm.z=m) :
  Calls Tryz.prog 67 #[.slice A l.length c] W fun e w'=>∃(L:List Itm) (C:Option Addr) (k:Nat),e= .returned (.tuple #[.slice C L.length k,.int .i64 (errZ m)])∧L.map Itm.z=negL m∧Lv w' C k L∧Below W.heap.size W w':=by
 subst hm
 refine (neg_any l A c W h.len h.items).mono ?_
 rintro e w' ⟨L,C,k,h1,h2,h3,h4,h5⟩
 exact ⟨L,C,k,h1,h2,⟨h3,h4,small_z h2 (negL_len _)⟩,h5⟩
theorem addV {W:World} {A B:Option Addr} {c d:Nat} {l r:List Itm} (h:Lv W A c l) (h':Lv W B d r) {m n:List Zit} (hm:l.map Itm.z=m) (hn:r.map Itm.z=n) :
  Calls Tryz.prog 69 #[.slice A l.length c,.slice B r.length d] W fun e w'=>∃(L:List Itm) (C:Option Addr) (k:Nat),e= .returned (.tuple #[.slice C L.length k,.int .i64 (addE m n)])∧L.map Itm.z=addL m n∧Lv w' C k L∧Below W.heap.size W w':=by
 subst hm
 subst hn
 refine (add_any l r A B c d W h.len h'.len h.nil h'.nil h.items h'.items).mono ?_
 rintro e w' ⟨L,C,k,h1,h2,h3,h4,h5⟩
 exact ⟨L,C,k,h1,h2,⟨h3,h4,small_z h2 (addL_len _ _)⟩,h5⟩
theorem addVn {W:World} {A B:Option Addr} {c d:Nat} {l r:List Itm} (h:Lv W A c l) (h':Lv W B d r) {m n:List Zit} (hm:l.map Itm.z=m) (hn:r.map Itm.z=n) :
  Calls Tryz.prog 69 #[.slice A l.length c,.slice B r.length d] W fun e w'=>∃(L:List Itm) (C:Option Addr) (k:Nat),e= .returned (.tuple #[.slice C L.length k,.int .i64 (addE m n)])∧L.map Itm.z=addL m n∧Lv w' C k L∧Below W.heap.size W w'∧NwT w' k W.heap.size C L:=by
 subst hm
 subst hn
 refine (add_new l r A B c d W h.len h'.len h.nil h'.nil h.items h'.items).mono ?_
 rintro e w' ⟨L,C,k,h1,h2,h3,h4,h5⟩
 exact ⟨L,C,k,h1,h2,⟨h3,h4,small_z h2 (addL_len _ _)⟩,h5⟩
theorem checkV {W:World} {A:Option Addr} {c:Nat} {l:List Itm} (h:Lv W A c l) {m:List Zit} (hm:l.map Itm.z=m) :
  Calls Tryz.prog 84 #[.slice A l.length c] W fun e w'=>e= .returned (.int .i64 (errZ m))∧Gr W w':=by
 subst hm
 exact checkZ_any l A c W h.len h.items
theorem sameV {W:World} {A B:Option Addr} {c d:Nat} {l r:List Itm} (h:Lv W A c l) (h':Lv W B d r) (hm:l.map Itm.z=r.map Itm.z) :
  Calls Tryz.prog 20 #[.slice A l.length c,.slice B r.length d] W fun e w'=>e= .returned (.bool true)∧Gr W w':=by
 have:=sameS_any l r A B c d W h.len h.items h'.items
 rw[decide_eq_true hm] at this
 exact this

end Go.Proofs.YtkadjjmkokhldaaGreat
