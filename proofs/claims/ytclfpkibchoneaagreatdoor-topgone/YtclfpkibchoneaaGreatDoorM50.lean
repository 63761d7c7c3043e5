/-
  slices.Index and slices.Contains at numbers.
-/
import Derived.Test.YtclfpkibchoneaaGreatDoorM04
set_option maxRecDepth 100000
set_option maxHeartbeats 8000000
namespace Go.Proofs.YtclfpkibchoneaaGreatDoor
open Go.RowKit Go.Sort

def lj (l:List Int) (x:Int):Bool:=decide (x∈l)

theorem rS (l:List Int) (A:Option Addr) (cap:Nat) (x:Int) (w:World) (hl:l.length≤maxLen) (hr:ar w A l) :
  Calls Tryz.prog 39 #[.slice A l.length cap,.int .i64 x] w fun e w'=>∃r:Int,e= .returned (.int .i64 r)∧Hid (decide (0≤r)=lj l x)∧Gr w w':=by
 unfold maxLen at hl
 go_enter Tryz.func39,Tryz.ntmps39
 go_wp2
 go_loopw [8] (fun i wr=>∃k:Nat,k≤l.length∧i= .int .i64 k∧Hid (∀j (h:j<l.length),j<k→l[j]≠x)∧Gr w wr) (fun i _=>l.length-(intOf i).toNat)
 case atStart=>exact ⟨0,nZ _,rfl,fun j _ hj=>absurd hj (Nat.not_lt_zero _),gR _⟩
 case round =>
  obtain ⟨k,hk,rfl,hno,hgr⟩:=hrel
  by_cases hlt:k<l.length
  ·have hltz:(k:Int)<(l.length:Int):=by omega
   obtain ⟨bb,off,rfl,hb,hcs⟩:=(hr.gr hgr).at hlt
   have e0:=hcs k hlt 0 (by omega)
   obtain ⟨y,hy⟩:∃y,l[k]=y:=⟨_,rfl⟩
   rw[hy] at e0
   have e1:wr.cell? ⟨bb,off+k,none⟩=some (.int .i64 y):=by simpa[eT] using e0
   have hyH:Hid (l[k]=y):=hy
   clear hcs e0 hy
   cases hq:(x==y)
   ·have hne:Hid (l[k]≠x):=by
     intro h
     rw[hyH.out] at h
     rw[h] at hq
     simp at hq
    go_wp2
    go_roundw
    case rel =>
     refine ⟨k+1,by omega,by go_num,?_,hgr⟩
     intro j hj hjk
     by_cases e:j=k
     ·subst e;exact hne
     ·exact hno j hj (by omega)
    case measure=>simp[intOf];omega
   ·have hfin:Hid (decide ((0:Int)≤(k:Int))=lj l x):=by
     have hm:x∈l:=by
      have:x=l[k]:=by rw[hyH.out];exact beq_iff_eq.1 hq
      rw[this];exact gM hlt
     show decide _=_
     simp[lj,hm]
    go_wp2
    go_ret
    exact ⟨_,rfl,hfin,hgr⟩
  ·have hltz:¬(k:Int)<(l.length:Int):=by omega
   have hfin:Hid (decide ((0:Int)≤ -1)=lj l x):=by
    have hm:x ∉ l:=by
     intro h
     obtain ⟨j,hj,e⟩:=List.getElem_of_mem h
     exact hno j hj (by omega) e
    show decide _=_
    simp[lj,hm]
   go_wp2
   go_ret
   exact ⟨_,rfl,hfin,hgr⟩
theorem ni (l:List Int) (A:Option Addr) (cap:Nat) (x:Int) (w:World) (hl:l.length≤maxLen) (hr:ar w A l) :
  Calls Tryz.prog 24 #[.slice A l.length cap,.int .i64 x] w fun e w'=>e= .returned (.bool (lj l x))∧Gr w w':=by
 go_enter Tryz.func24,Tryz.ntmps24
 go_wp2_with fail
 refine (rS l A cap x _ hl hr).mono ?_
 rintro e w' ⟨r,rfl,hrr,hg⟩
 go_wp2
 go_ret
 exact ⟨by rw[←hrr.out];rfl,hg⟩

end Go.Proofs.YtclfpkibchoneaaGreatDoor
