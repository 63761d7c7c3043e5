/-
  Packets that come in some order, to one of two nets; happenings that are kept.
-/
import Derived.Test.YtkefkplnamkicaaGreatDoorM48
set_option maxRecDepth 100000
set_option maxHeartbeats 8000000
namespace Go.Proofs.YtkefkplnamkicaaGreatDoor
open Go.RowKit Go.Sort

theorem wV (N:NetM) (n:Nat):aj N (cC n)=aR N n:=by
 show (if (4:Int)=1 then _ else if (4:Int)=2 then _ else if (4:Int)=3 then _ else if (4:Int)=4 then (if (0:Int)≤(n:Int) then (match N.pk[((n:Nat):Int).toNat]? with|some p=>f9 N p.1 p.2.1 p.2.2|none=>N) else _) else _)=_
 rw[if_neg (by decide),if_neg (by decide),if_neg (by decide),if_pos rfl,if_pos (by omega),Int.toNat_natCast]
 rfl
theorem oj {w wr:World} {X Y:Nat} {M M':NetM} {Q Q':Nat→List (List Stp)} (h:TwN w wr X Y M Q M' Q') (hr:Reads w) (n:Nat) :
  Calls Tryz.prog 11 #[.pointer (some ⟨X,0,none⟩),.agg (bH (cC n,[])).toArray] wr fun e w'=>∃er,e= .returned (.int .i64 er)∧TwN w w' X Y (aR M n) Q M' Q':=by
 refine (s6 h hr (cC n,[]) (nZ _)).mono ?_
 rintro e w' ⟨er,R,rfl,g1,g2,_⟩
 obtain ⟨rfl,rfl⟩:=g1.ok (by show (4:Int)≠5;decide)
 rw[wV] at g2
 exact ⟨_,rfl,g2⟩
theorem wG (y:Hap×List UInt8):∀u∈bH y,u.oneCell'=true:=by
 intro u hu
 simp only[bH,List.mem_cons,List.not_mem_nil,or_false] at hu
 rcases hu with h|h|h|h|h|h|h|h|h|h<;>rw[h]<;>rfl
theorem B2:(Tryz.prog.info? 30).map (fun i=>(i.zero,i.size,i.bytes))=some (some (.agg #[.int .i64 0,.int .i64 0,.int .i64 0,.int .i64 0,.int .i64 0,.int .i64 0,.int .i64 0,.int .i64 0,.int .i64 0,.string ⟨#[]⟩]),10,88):=by kernel_rfl
theorem gX (w:World) {ops:Array Oper} {rest:List Oper} {o:Oper} {a:Act} {Q:Exit→Act→World→Prop} (hgd:o.guard=none) (s z:Operand)
  (ho:o.op= .call { callee:= .builtin .append,args:= #[s,z],argTypes:= #[22,22] })
  (base:Nat) (v:Value) (l:List (Hap×List UInt8)) (y:Hap×List UInt8) (X:Nat) (hs:a.eval s=v) (hz:a.eval z= .slice (some ⟨X,0,none⟩) 1 1) (hown:af bH 10 30 w base v l) (hr:au bH 10 w (some ⟨X,0,none⟩) [y]) (hl:l.length≤1000) (hb:base≤w.heap.size)
  (h:∀v' w',af bH 10 30 w' base v' (l++[y])→Below base w w'→wpList Tryz.prog ops Q rest (a.put o.dst v') w'):wpList Tryz.prog ops Q (o::rest) a w :=
 wpList_plain hgd fun K hK=>dZ fR wG (by omega) 22 Tryz.underlying22 _ 88 B2 rfl w s z ho base v l [y] (some ⟨X,0,none⟩) 1 hs hz hown hr (fun h=>by cases h) (by unfold maxLen;simp;omega) (by simp;omega) hb fun v' w' h1 h2=>hK _ _ (h v' w' h1 (hown.grown_below h2 hb))
def cP (l:List (Hap×List UInt8)):List (Hap×List UInt8):=l.filter fun y=>y.1.k != 4
theorem oM {l:List (Hap×List UInt8)} {k:Nat} (hk:k<l.length):cP (l.take (k+1))=if l[k].1.k=4 then cP (l.take k) else cP (l.take k)++[l[k]]:=by
 unfold cP
 rw[List.take_succ_eq_append_getElem hk,List.filter_append]
 by_cases h:l[k].1.k=4
 ·simp[h]
 ·simp[h]
theorem mz (l:List (Hap×List UInt8)):(cP l).length≤l.length:=List.length_filter_le _ _
end Go.Proofs.YtkefkplnamkicaaGreatDoor
