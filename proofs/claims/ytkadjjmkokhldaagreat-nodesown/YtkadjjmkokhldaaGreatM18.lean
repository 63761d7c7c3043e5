/-
  What a step's width is, in the document's tests, kind by kind.
  What each step of a query tells, on plain lists, and that it is a right set whose rows are as wide as they should be.
  The small functions of package plain: isTo, times.
-/
import Derived.Test.YtkadjjmkokhldaaGreatM17
import Derived.Test.YtkadjjmkokhldaaGreatM14
namespace Go.Proofs.YtkadjjmkokhldaaGreat

theorem below_in (n k:Int):belowB n k=inB n 0 (k-1):=by
 unfold belowB inB
 rw[Bool.eq_iff_iff]
 simp only[Bool.and_eq_true,decide_eq_true_eq]
 omega
theorem op_in (n:Int):opB n=inB n 1 3:=by
 unfold opB inB
 rw[Bool.eq_iff_iff]
 simp only[Bool.and_eq_true,decide_eq_true_eq]
 omega
theorem alone1 {s:Stp} (h:s.k=1):aloneB s=(decide (s.b=0) && decide (s.c=0) && decide (s.o=0) && decide (s.v=0) && s.l.isEmpty):=by
 have t:tellsB 1 65=true∧tellsB 1 66=false∧tellsB 1 67=false∧tellsB 1 79=false∧tellsB 1 86=false∧tellsB 1 76=false:=by decide
 obtain ⟨t1,t2,t3,t4,t5,t6⟩:=t
 simp[aloneB,condB,h,List.range_succ,prtL,Stp.at,t1,t2,t3,t4,t5,t6,Bool.and_assoc]
theorem alone2 {s:Stp} (h:s.k=2):aloneB s=(decide (s.b=0) && s.l.isEmpty):=by
 have t:tellsB 2 65=true∧tellsB 2 66=false∧tellsB 2 67=true∧tellsB 2 79=true∧tellsB 2 86=true∧tellsB 2 76=false:=by decide
 obtain ⟨t1,t2,t3,t4,t5,t6⟩:=t
 simp[aloneB,condB,h,List.range_succ,prtL,Stp.at,t1,t2,t3,t4,t5,t6]
theorem alone3 {s:Stp} (h:s.k=3):aloneB s=(decide (s.b=0) && decide (s.c=0) && decide (s.o=0) && decide (s.v=0)):=by
 have t:tellsB 3 65=true∧tellsB 3 66=false∧tellsB 3 67=false∧tellsB 3 79=false∧tellsB 3 86=false∧tellsB 3 76=true:=by decide
 obtain ⟨t1,t2,t3,t4,t5,t6⟩:=t
 simp[aloneB,condB,h,List.range_succ,prtL,Stp.at,t1,t2,t3,t4,t5,t6,Bool.and_assoc]
theorem alone4 {s:Stp} (h:s.k=4):aloneB s=(decide (s.o=0) && s.l.isEmpty):=by
 have t:tellsB 4 65=true∧tellsB 4 66=true∧tellsB 4 67=true∧tellsB 4 79=false∧tellsB 4 86=true∧tellsB 4 76=false:=by decide
 obtain ⟨t1,t2,t3,t4,t5,t6⟩:=t
 simp[aloneB,condB,h,List.range_succ,prtL,Stp.at,t1,t2,t3,t4,t5,t6]
theorem alone5 {s:Stp} (h:s.k=5):aloneB s=(decide (s.c=0) && decide (s.o=0) && decide (s.v=0) && s.l.isEmpty):=by
 have t:tellsB 5 65=true∧tellsB 5 66=true∧tellsB 5 67=false∧tellsB 5 79=false∧tellsB 5 86=false∧tellsB 5 76=false:=by decide
 obtain ⟨t1,t2,t3,t4,t5,t6⟩:=t
 simp[aloneB,condB,h,List.range_succ,prtL,Stp.at,t1,t2,t3,t4,t5,t6,Bool.and_assoc]
theorem alone6 {s:Stp} (h:s.k=6):aloneB s=(decide (s.c=0) && decide (s.o=0) && decide (s.v=0) && s.l.isEmpty):=by
 have t:tellsB 6 65=true∧tellsB 6 66=true∧tellsB 6 67=false∧tellsB 6 79=false∧tellsB 6 86=false∧tellsB 6 76=false:=by decide
 obtain ⟨t1,t2,t3,t4,t5,t6⟩:=t
 simp[aloneB,condB,h,List.range_succ,prtL,Stp.at,t1,t2,t3,t4,t5,t6,Bool.and_assoc]
theorem alone7 {s:Stp} (h:s.k=7):aloneB s=(decide (s.b=0) && decide (s.c=0) && decide (s.o=0) && decide (s.v=0) && s.l.isEmpty):=by
 have t:tellsB 7 65=true∧tellsB 7 66=false∧tellsB 7 67=false∧tellsB 7 79=false∧tellsB 7 86=false∧tellsB 7 76=false:=by decide
 obtain ⟨t1,t2,t3,t4,t5,t6⟩:=t
 simp[aloneB,condB,h,List.range_succ,prtL,Stp.at,t1,t2,t3,t4,t5,t6,Bool.and_assoc]
theorem alone8 {s:Stp} (h:s.k=8):aloneB s=(decide (s.b=0) && decide (s.o=0) && decide (s.v=0) && s.l.isEmpty):=by
 have t:tellsB 8 65=true∧tellsB 8 66=false∧tellsB 8 67=true∧tellsB 8 79=false∧tellsB 8 86=false∧tellsB 8 76=false:=by decide
 obtain ⟨t1,t2,t3,t4,t5,t6⟩:=t
 simp[aloneB,condB,h,List.range_succ,prtL,Stp.at,t1,t2,t3,t4,t5,t6,Bool.and_assoc]
theorem alone9 {s:Stp} (h:s.k=9):aloneB s=(decide (s.b=0) && decide (s.o=0) && s.l.isEmpty):=by
 have t:tellsB 9 65=true∧tellsB 9 66=false∧tellsB 9 67=true∧tellsB 9 79=false∧tellsB 9 86=true∧tellsB 9 76=false:=by decide
 obtain ⟨t1,t2,t3,t4,t5,t6⟩:=t
 simp[aloneB,condB,h,List.range_succ,prtL,Stp.at,t1,t2,t3,t4,t5,t6,Bool.and_assoc]
theorem ite2 (x y:Bool) (r:Int):(if x=true then (if y=true then r else 0) else 0)=if (x && y)=true then r else 0:=by cases x<;>cases y<;>simp
theorem ite3 (x y z:Bool) (r:Int):(if x=true then (if y=true then (if z=true then r else 0) else 0) else 0)=if (x && y && z)=true then r else 0:=by cases x<;>cases y<;>cases z<;>simp
theorem ite4 (x y z u:Bool) (r:Int):(if x=true then (if y=true then (if z=true then (if u=true then r else 0) else 0) else 0) else 0)=if (x && y && z && u)=true then r else 0:=by cases x<;>cases y<;>cases z<;>cases u<;>simp
theorem alone0 {s:Stp} (h:¬(1≤s.k∧s.k≤9)) {ah:List Int}:widW s ah=0:=by
 have h1:¬s.k=1:=by omega
 unfold widW
 rw[if_neg h1,if_neg (by omega:¬(s.k=4∨s.k=5∨s.k=6))]
 unfold oneW
 rw[if_neg (by omega:¬s.k=2),if_neg (by omega:¬s.k=3),if_neg (by omega:¬s.k=7),if_neg (by omega:¬s.k=8),if_neg (by omega:¬s.k=9)]
 simp
theorem wid1 {s:Stp} (h:s.k=1) (ah:List Int):widW s ah=if (inB s.a 0 1 && decide (s.b=0) && decide (s.c=0) && decide (s.o=0) && decide (s.v=0) && s.l.isEmpty)=true then 4 else 0:=by
 unfold widW
 rw[alone1 h,if_pos h]
 rw[below_in,show (2:Int)-1=1 from rfl,ite2,show ((decide (s.b=0) && decide (s.c=0) && decide (s.o=0) && decide (s.v=0) && s.l.isEmpty) && inB s.a 0 1)=(inB s.a 0 1 && decide (s.b=0) && decide (s.c=0) && decide (s.o=0) && decide (s.v=0) && s.l.isEmpty) from by ac_rfl]
theorem wid2 {s:Stp} (h:s.k=2) (ah:List Int):widW s ah=if (inB s.a 0 ((ah.length:Int)-1) && decide (s.b=0) && s.l.isEmpty && inB s.o 1 3 && inB s.v (-1073741824) 1073741824 && inB s.c 0 ((ah.getD s.a.toNat 0)-1))=true then (ah.getD s.a.toNat 0) else 0:=by
 unfold widW
 rw[alone2 h,if_neg (by omega:¬s.k=1),if_neg (by omega:¬(s.k=4∨s.k=5∨s.k=6))]
 unfold oneW
 rw[if_pos h]
 rw[below_in,below_in,op_in,show numB s.v=inB s.v (-1073741824) 1073741824 from rfl,ite3,show ((decide (s.b=0) && s.l.isEmpty) && inB s.a 0 ((ah.length:Int)-1) && (inB s.c 0 ((ah.getD s.a.toNat 0)-1) && inB s.o 1 3 && inB s.v (-1073741824) 1073741824))=(inB s.a 0 ((ah.length:Int)-1) && decide (s.b=0) && s.l.isEmpty && inB s.o 1 3 && inB s.v (-1073741824) 1073741824 && inB s.c 0 ((ah.getD s.a.toNat 0)-1)) from by ac_rfl]
theorem wid3 {s:Stp} (h:s.k=3) (ah:List Int):widW s ah=if (inB s.a 0 ((ah.length:Int)-1) && decide (s.b=0) && inB (s.l.length:Int) 1 8 && s.l.all (fun n=>inB n 0 ((ah.getD s.a.toNat 0)-1)) && decide (s.c=0) && decide (s.o=0) && decide (s.v=0))=true then (s.l.length:Int) else 0:=by
 unfold widW
 rw[alone3 h,if_neg (by omega:¬s.k=1),if_neg (by omega:¬(s.k=4∨s.k=5∨s.k=6))]
 unfold oneW
 rw[if_neg (by omega:¬s.k=2),if_pos h]
 rw[below_in,show (fun n=>belowB n (ah.getD s.a.toNat 0))=(fun n=>inB n 0 (ah.getD s.a.toNat 0-1)) from funext fun n=>below_in n _]
 rw[show (if (decide (s.l.length≤8) && s.l.all (fun n=>inB n 0 (ah.getD s.a.toNat 0-1)))=true then (s.l.length:Int) else 0)=(if (inB (s.l.length:Int) 1 8 && s.l.all (fun n=>inB n 0 (ah.getD s.a.toNat 0-1)))=true then (s.l.length:Int) else 0) from ?_]
 ·rw[ite3,show ((decide (s.b=0) && decide (s.c=0) && decide (s.o=0) && decide (s.v=0)) && inB s.a 0 ((ah.length:Int)-1) && (inB (s.l.length:Int) 1 8 && s.l.all (fun n=>inB n 0 ((ah.getD s.a.toNat 0)-1))))=(inB s.a 0 ((ah.length:Int)-1) && decide (s.b=0) && inB (s.l.length:Int) 1 8 && s.l.all (fun n=>inB n 0 ((ah.getD s.a.toNat 0)-1)) && decide (s.c=0) && decide (s.o=0) && decide (s.v=0)) from by ac_rfl]
 ·by_cases hl:s.l.length=0
  ·rw[hl];simp
  ·rw[show decide (s.l.length≤8)=inB (s.l.length:Int) 1 8 from ?_]
   unfold inB
   rw[Bool.eq_iff_iff]
   simp only[Bool.and_eq_true,decide_eq_true_eq]
   omega
theorem wid4 {s:Stp} (h:s.k=4) (ah:List Int):widW s ah=if (inB s.a 0 ((ah.length:Int)-1) && inB s.b 0 ((ah.length:Int)-1) && s.l.isEmpty && decide ((ah.getD s.a.toNat 0)+(ah.getD s.b.toNat 0)≤8) && inB s.v 0 ((ah.getD s.b.toNat 0)-1) && inB s.c 0 ((ah.getD s.a.toNat 0)-1) && decide (s.o=0))=true then (ah.getD s.a.toNat 0)+(ah.getD s.b.toNat 0) else 0:=by
 unfold widW
 rw[alone4 h,if_neg (by omega:¬s.k=1),if_pos (by omega:s.k=4∨s.k=5∨s.k=6)]
 unfold twoW
 rw[if_pos h]
 rw[below_in,below_in,below_in,below_in,ite4,show ((decide (s.o=0) && s.l.isEmpty) && inB s.a 0 ((ah.length:Int)-1) && inB s.b 0 ((ah.length:Int)-1) && (inB s.c 0 ((ah.getD s.a.toNat 0)-1) && inB s.v 0 ((ah.getD s.b.toNat 0)-1) && decide ((ah.getD s.a.toNat 0)+(ah.getD s.b.toNat 0)≤8)))=(inB s.a 0 ((ah.length:Int)-1) && inB s.b 0 ((ah.length:Int)-1) && s.l.isEmpty && decide ((ah.getD s.a.toNat 0)+(ah.getD s.b.toNat 0)≤8) && inB s.v 0 ((ah.getD s.b.toNat 0)-1) && inB s.c 0 ((ah.getD s.a.toNat 0)-1) && decide (s.o=0)) from by ac_rfl]
theorem wid5 {s:Stp} (h:s.k=5) (ah:List Int):widW s ah=if (inB s.a 0 ((ah.length:Int)-1) && inB s.b 0 ((ah.length:Int)-1) && s.l.isEmpty && decide ((ah.getD s.a.toNat 0)=(ah.getD s.b.toNat 0)) && decide (s.c=0) && decide (s.o=0) && decide (s.v=0))=true then (ah.getD s.a.toNat 0) else 0:=by
 unfold widW
 rw[alone5 h,if_neg (by omega:¬s.k=1),if_pos (by omega:s.k=4∨s.k=5∨s.k=6)]
 unfold twoW
 rw[if_neg (by omega:¬s.k=4),if_pos h]
 rw[show (if (ah.getD s.a.toNat 0)=(ah.getD s.b.toNat 0) then (ah.getD s.a.toNat 0) else 0)=(if decide ((ah.getD s.a.toNat 0)=(ah.getD s.b.toNat 0))=true then (ah.getD s.a.toNat 0) else 0) from by simp only[decide_eq_true_eq],below_in,below_in,ite4,show ((decide (s.c=0) && decide (s.o=0) && decide (s.v=0) && s.l.isEmpty) && inB s.a 0 ((ah.length:Int)-1) && inB s.b 0 ((ah.length:Int)-1) && decide ((ah.getD s.a.toNat 0)=(ah.getD s.b.toNat 0)))=(inB s.a 0 ((ah.length:Int)-1) && inB s.b 0 ((ah.length:Int)-1) && s.l.isEmpty && decide ((ah.getD s.a.toNat 0)=(ah.getD s.b.toNat 0)) && decide (s.c=0) && decide (s.o=0) && decide (s.v=0)) from by ac_rfl]
theorem wid6 {s:Stp} (h:s.k=6) (ah:List Int):widW s ah=if (inB s.a 0 ((ah.length:Int)-1) && inB s.b 0 ((ah.length:Int)-1) && s.l.isEmpty && decide ((ah.getD s.a.toNat 0)=(ah.getD s.b.toNat 0)) && decide (s.c=0) && decide (s.o=0) && decide (s.v=0))=true then (ah.getD s.a.toNat 0) else 0:=by
 unfold widW
 rw[alone6 h,if_neg (by omega:¬s.k=1),if_pos (by omega:s.k=4∨s.k=5∨s.k=6)]
 unfold twoW
 rw[if_neg (by omega:¬s.k=4),if_neg (by omega:¬s.k=5),if_pos h]
 rw[show (if (ah.getD s.a.toNat 0)=(ah.getD s.b.toNat 0) then (ah.getD s.a.toNat 0) else 0)=(if decide ((ah.getD s.a.toNat 0)=(ah.getD s.b.toNat 0))=true then (ah.getD s.a.toNat 0) else 0) from by simp only[decide_eq_true_eq],below_in,below_in,ite4,show ((decide (s.c=0) && decide (s.o=0) && decide (s.v=0) && s.l.isEmpty) && inB s.a 0 ((ah.length:Int)-1) && inB s.b 0 ((ah.length:Int)-1) && decide ((ah.getD s.a.toNat 0)=(ah.getD s.b.toNat 0)))=(inB s.a 0 ((ah.length:Int)-1) && inB s.b 0 ((ah.length:Int)-1) && s.l.isEmpty && decide ((ah.getD s.a.toNat 0)=(ah.getD s.b.toNat 0)) && decide (s.c=0) && decide (s.o=0) && decide (s.v=0)) from by ac_rfl]
theorem wid7 {s:Stp} (h:s.k=7) (ah:List Int):widW s ah=if (inB s.a 0 ((ah.length:Int)-1) && decide (s.b=0) && s.l.isEmpty && decide (s.c=0) && decide (s.o=0) && decide (s.v=0))=true then (ah.getD s.a.toNat 0) else 0:=by
 unfold widW
 rw[alone7 h,if_neg (by omega:¬s.k=1),if_neg (by omega:¬(s.k=4∨s.k=5∨s.k=6))]
 unfold oneW
 rw[if_neg (by omega:¬s.k=2),if_neg (by omega:¬s.k=3),if_pos h]
 rw[below_in,ite2,show ((decide (s.b=0) && decide (s.c=0) && decide (s.o=0) && decide (s.v=0) && s.l.isEmpty) && inB s.a 0 ((ah.length:Int)-1))=(inB s.a 0 ((ah.length:Int)-1) && decide (s.b=0) && s.l.isEmpty && decide (s.c=0) && decide (s.o=0) && decide (s.v=0)) from by ac_rfl]
theorem wid8 {s:Stp} (h:s.k=8) (ah:List Int):widW s ah=if (inB s.a 0 ((ah.length:Int)-1) && decide (s.b=0) && s.l.isEmpty && inB s.c 0 ((ah.getD s.a.toNat 0)-1) && decide (s.o=0) && decide (s.v=0))=true then 2 else 0:=by
 unfold widW
 rw[alone8 h,if_neg (by omega:¬s.k=1),if_neg (by omega:¬(s.k=4∨s.k=5∨s.k=6))]
 unfold oneW
 rw[if_neg (by omega:¬s.k=2),if_neg (by omega:¬s.k=3),if_neg (by omega:¬s.k=7),if_pos h]
 rw[below_in,below_in,ite3,show ((decide (s.b=0) && decide (s.o=0) && decide (s.v=0) && s.l.isEmpty) && inB s.a 0 ((ah.length:Int)-1) && inB s.c 0 ((ah.getD s.a.toNat 0)-1))=(inB s.a 0 ((ah.length:Int)-1) && decide (s.b=0) && s.l.isEmpty && inB s.c 0 ((ah.getD s.a.toNat 0)-1) && decide (s.o=0) && decide (s.v=0)) from by ac_rfl]
theorem wid9 {s:Stp} (h:s.k=9) (ah:List Int):widW s ah=if (inB s.a 0 ((ah.length:Int)-1) && decide (s.b=0) && s.l.isEmpty && inB s.v 0 ((ah.getD s.a.toNat 0)-1) && inB s.c 0 ((ah.getD s.a.toNat 0)-1) && decide (s.o=0))=true then 2 else 0:=by
 unfold widW
 rw[alone9 h,if_neg (by omega:¬s.k=1),if_neg (by omega:¬(s.k=4∨s.k=5∨s.k=6))]
 unfold oneW
 rw[if_neg (by omega:¬s.k=2),if_neg (by omega:¬s.k=3),if_neg (by omega:¬s.k=7),if_neg (by omega:¬s.k=8),if_pos h]
 rw[below_in,below_in,below_in,ite3,show ((decide (s.b=0) && decide (s.o=0) && s.l.isEmpty) && inB s.a 0 ((ah.length:Int)-1) && (inB s.c 0 ((ah.getD s.a.toNat 0)-1) && inB s.v 0 ((ah.getD s.a.toNat 0)-1)))=(inB s.a 0 ((ah.length:Int)-1) && decide (s.b=0) && s.l.isEmpty && inB s.v 0 ((ah.getD s.a.toNat 0)-1) && inB s.c 0 ((ah.getD s.a.toNat 0)-1) && decide (s.o=0)) from by ac_rfl]

end Go.Proofs.YtkadjjmkokhldaaGreat

namespace Go.Proofs.YtkadjjmkokhldaaGreat

/-- One more item into groups. -/
def putG:List (Int×List Zit)→Int→Zit→List (Int×List Zit)
 | [],n,x=>[(n,[x])]
 | g::t,n,x=>if g.1=n then (g.1,g.2++[x])::t else g::putG t n x
def grpL (l:List Zit) (c:Int):List (Int×List Zit):=l.foldl (fun g x=>putG g (atI x.1 c) x) []
def timesL:List Zit→Int
 | []=>0
 | x::t=>x.2+timesL t
def sumAtL (v:Int):List Zit→Int
 | []=>0
 | x::t=>atI x.1 v*x.2+sumAtL v t
def cntG (g:Int×List Zit):Option Zit:=if timesL g.2=0 then none else some ([g.1,timesL g.2],1)
def sumG (v:Int) (g:Int×List Zit):Option Zit:=if timesL g.2=0 then none else some ([g.1,sumAtL v g.2],1)
def countL (l:List Zit) (c:Int):List Zit:=(grpL l c).filterMap cntG
def sumL (l:List Zit) (c v:Int):List Zit:=(grpL l c).filterMap (sumG v)
/-- What a step that takes one set makes of it. -/
def oneF (s:Stp) (a:List Zit):List Zit:=if s.k=2 then whereL a s.c s.o s.v else if s.k=3 then pickL a s.l else if s.k=7 then distL a else if s.k=8 then countL a s.c else sumL a s.c s.v
/-- All pairs. -/
def pairL (a b:List Zit) (c v:Int):List Zit:=a.flatMap fun x=>(b.filter fun y=>decide (atI y.1 v=atI x.1 c)).map fun y=>(x.1++y.1,x.2*y.2)
def pjnE (a b:List Zit) (c v:Int):Int:=if (pairL a b c v).all (fun x=>okW x.2)=true then normE ((pairL a b c v).take 401) else 5
def pjnF (a b:List Zit) (c v:Int):List Zit:=if pjnE a b c v=0 then normL ((pairL a b c v).take 401) else []
def negP (b:List Zit):List Zit:=b.map fun x=>(x.1,-x.2)
def minE (a b:List Zit):Int:=if errZ b=0 then addE a (negP b) else errZ b
def minF (a b:List Zit):List Zit:=if minE a b=0 then addL a (negP b) else []
def tabF (s:Stp) (a b:List Zit):List Zit:=if s.a=0 then a else b
def getS (S:List (List Zit)) (i:Int):List Zit:=S.getD i.toNat []
def tellE (s:Stp) (a b:List Zit) (S:List (List Zit)):Int:=if s.k=1 then normE (tabF s a b) else if s.k=4 then pjnE (getS S s.a) (getS S s.b) s.c s.v else if s.k=5 then addE (getS S s.a) (getS S s.b) else if s.k=6 then minE (getS S s.a) (getS S s.b) else normE (oneF s (getS S s.a))
def tellF (s:Stp) (a b:List Zit) (S:List (List Zit)):List Zit:=if s.k=1 then normL (tabF s a b) else if s.k=4 then pjnF (getS S s.a) (getS S s.b) s.c s.v else if s.k=5 then addL (getS S s.a) (getS S s.b) else if s.k=6 then minF (getS S s.a) (getS S s.b) else normL (oneF s (getS S s.a))
/-- All steps: the first error, or their sets. -/
def allE (a b:List Zit):List Stp→List (List Zit)→Int
 | [],_=>0
 | s::t,S=>if tellE s a b S=0 then allE a b t (S++[tellF s a b S]) else tellE s a b S
def allF (a b:List Zit):List Stp→List (List Zit)→List (List Zit)
 | [],S=>S
 | s::t,S=>if tellE s a b S=0 then allF a b t (S++[tellF s a b S]) else []
def Wide (n:Int) (l:List Zit):Prop:=∀x∈l,(x.1.length:Int)=n
/-- What is wrong ahead of all steps. -/
def ahdE (q:List Stp) (a b:List Zit):Int:=if errQ q=0 then (if errZ a=0 then (if errZ b=0 then (if (a++b).all (fun x=>decide (x.1.length=4))=true then 0 else 5) else errZ b) else errZ a) else errQ q
def plnE (q:List Stp) (a b:List Zit):Int:=if ahdE q a b=0 then allE a b q [] else ahdE q a b
def plnF (q:List Stp) (a b:List Zit):List (List Zit):=if plnE q a b=0 then allF a b q [] else []

theorem norm_wide {l:List Zit} {n:Int} (h:Wide n l):Wide n (normL l):=fun x hx=>by
 unfold normL at hx
 by_cases e:normE l=0
 ·rw[if_pos e] at hx
  obtain ⟨y,hy,e2⟩:=(totL_is l).row hx
  rw[←e2];exact h y hy
 ·rw[if_neg e] at hx;cases hx
theorem add_wide {a b:List Zit} {n:Int} (h:Wide n a) (k:Wide n b):Wide n (addL a b):=fun x hx=>by
 unfold addL at hx
 by_cases e:addE a b=0
 ·rw[if_pos e] at hx
  obtain ⟨y,hy,e2⟩:=(totL_is _).row hx
  rw[←e2]
  rcases List.mem_append.1 hy with m|m
  ·exact h y m
  ·exact k y m
 ·rw[if_neg e] at hx;cases hx
theorem norm_right {l:List Zit} (h:normE l=0):errZ (normL l)=0:=by rw[(norm_ok h).1];exact (norm_ok h).2
/-- The sets of the steps ahead. -/
structure Ahd (S:List (List Zit)) (ah:List Int):Prop where
 len:S.length=ah.length
 ok:∀i,i<S.length→errZ (S.getD i [])=0∧Wide (ah.getD i 0) (S.getD i [])
theorem Ahd.nil:Ahd [] []:=⟨rfl,fun i h=>absurd h (by simp)⟩
theorem Ahd.snoc {S:List (List Zit)} {ah:List Int} (h:Ahd S ah) {T:List Zit} {n:Int} (h1:errZ T=0) (h2:Wide n T):Ahd (S++[T]) (ah++[n]):=by
 refine ⟨by simp[h.len],fun i hi=> ?_⟩
 by_cases e:i<S.length
 ·have e2:i<ah.length:=by rw[←h.len];exact e
  rw[List.getD_eq_getElem?_getD,List.getD_eq_getElem?_getD,List.getElem?_append_left e,List.getElem?_append_left e2,←List.getD_eq_getElem?_getD,←List.getD_eq_getElem?_getD]
  exact h.ok i e
 ·have e1:i=S.length:=by simp at hi;omega
  have e2:i=ah.length:=by rw[←h.len];exact e1
  rw[List.getD_eq_getElem?_getD,List.getD_eq_getElem?_getD,List.getElem?_append_right (by omega),List.getElem?_append_right (by omega),e1,←h.len]
  simp only[Nat.sub_self,List.getElem?_cons_zero,Option.getD_some]
  exact ⟨h1,h2⟩
/-- A number below another one: the sets' place. -/
theorem Ahd.at {S:List (List Zit)} {ah:List Int} (h:Ahd S ah) {i:Int} (hi:inB i 0 ((ah.length:Int)-1)=true):0≤i∧i.toNat<S.length∧errZ (getS S i)=0∧Wide (ah.getD i.toNat 0) (getS S i):=by
 have hi':0≤i∧i≤(ah.length:Int)-1:=by simpa[inB] using hi
 have e:i.toNat<S.length:=by rw[h.len];omega
 exact ⟨hi'.1,e,h.ok _ e⟩
theorem count_wide (l:List Zit) (c:Int):Wide 2 (countL l c):=fun x hx=>by
 obtain ⟨g,_,h⟩:=List.mem_filterMap.1 hx
 unfold cntG at h
 by_cases e:timesL g.2=0
 ·rw[if_pos e] at h;cases h
 ·rw[if_neg e] at h;cases h;rfl
theorem sum_wide (l:List Zit) (c v:Int):Wide 2 (sumL l c v):=fun x hx=>by
 obtain ⟨g,_,h⟩:=List.mem_filterMap.1 hx
 unfold sumG at h
 by_cases e:timesL g.2=0
 ·rw[if_pos e] at h;cases h
 ·rw[if_neg e] at h;cases h;rfl
theorem where_wide {l:List Zit} {n:Int} (h:Wide n l) (c o v:Int):Wide n (whereL l c o v):=fun x hx=>h x (List.mem_filter.1 hx).1
theorem pick_wide (l:List Zit) (cols:List Int):Wide cols.length (pickL l cols):=fun x hx=>by
 obtain ⟨y,_,rfl⟩:=List.mem_map.1 hx
 simp[pickR]
theorem dist_wide {l:List Zit} {n:Int} (h:Wide n l):Wide n (distL l):=fun x hx=>by
 obtain ⟨y,hy,rfl⟩:=List.mem_map.1 hx
 exact h y (List.mem_filter.1 hy).1
theorem pair_wide {a b:List Zit} {n m:Int} (h:Wide n a) (k:Wide m b) (c v:Int):Wide (n+m) (pairL a b c v):=fun x hx=>by
 obtain ⟨y,hy,hx⟩:=List.mem_flatMap.1 hx
 obtain ⟨z,hz,rfl⟩:=List.mem_map.1 hx
 have h1:=h y hy
 have h2:=k z (List.mem_filter.1 hz).1
 simp only[List.length_append]
 omega
theorem neg_wide {l:List Zit} {n:Int} (h:Wide n l):Wide n (l.map fun x=>(x.1,-x.2)):=fun x hx=>by
 obtain ⟨y,hy,rfl⟩:=List.mem_map.1 hx
 exact h y hy
theorem Wide.take {l:List Zit} {n:Int} (h:Wide n l) (k:Nat):Wide n (l.take k):=fun x hx=>h x (List.mem_of_mem_take hx)
theorem kinds {s:Stp} {ah:List Int} (h:widW s ah≠0):s.k=1∨s.k=2∨s.k=3∨s.k=4∨s.k=5∨s.k=6∨s.k=7∨s.k=8∨s.k=9:=by
 by_cases h1:s.k=1 ;· exact Or.inl h1
 by_cases h2:s.k=2 ;· simp[h2]
 by_cases h3:s.k=3 ;· simp[h3]
 by_cases h4:s.k=4 ;· simp[h4]
 by_cases h5:s.k=5 ;· simp[h5]
 by_cases h6:s.k=6 ;· simp[h6]
 by_cases h7:s.k=7 ;· simp[h7]
 by_cases h8:s.k=8 ;· simp[h8]
 by_cases h9:s.k=9 ;· simp[h9]
 exfalso
 apply h
 have h456:¬(s.k=4∨s.k=5∨s.k=6):=by omega
 unfold widW oneW
 simp only[if_neg h1,if_neg h2,if_neg h3,if_neg h7,if_neg h8,if_neg h9,if_neg h456,ite_self]
theorem ite_parts {p:Bool} {n:Int} (h:(if p=true then n else 0)≠0):p=true∧(if p=true then n else 0)=n:=by
 cases p with
 | true=>exact ⟨rfl,rfl⟩
 | false=>exact absurd rfl h
/-- A step that may stand there: what its parts are, and its width. -/
theorem par1 {s:Stp} {ah:List Int} (h:widW s ah≠0) (k:s.k=1):(s.a=0∨s.a=1)∧widW s ah=4:=by
 rw[wid1 k] at h ⊢
 obtain ⟨h1,h2⟩:=ite_parts h
 simp only[inB,Bool.and_eq_true,decide_eq_true_eq] at h1
 exact ⟨by omega,h2⟩
theorem par2 {s:Stp} {ah:List Int} (h:widW s ah≠0) (k:s.k=2):inB s.a 0 ((ah.length:Int)-1)=true∧inB s.o 1 3=true∧inB s.c 0 ((ah.getD s.a.toNat 0)-1)=true∧widW s ah=ah.getD s.a.toNat 0:=by
 rw[wid2 k] at h ⊢
 obtain ⟨h1,h2⟩:=ite_parts h
 simp only[Bool.and_eq_true] at h1
 exact ⟨h1.1.1.1.1.1,h1.1.1.2,h1.2,h2⟩
theorem par3 {s:Stp} {ah:List Int} (h:widW s ah≠0) (k:s.k=3):inB s.a 0 ((ah.length:Int)-1)=true∧s.l.length≤8∧(∀n∈s.l,inB n 0 ((ah.getD s.a.toNat 0)-1)=true)∧widW s ah=s.l.length:=by
 rw[wid3 k] at h ⊢
 obtain ⟨h1,h2⟩:=ite_parts h
 simp only[Bool.and_eq_true,List.all_eq_true] at h1
 refine ⟨h1.1.1.1.1.1.1,?_,h1.1.1.1.2,h2⟩
 have:=h1.1.1.1.1.2
 simp only[inB,Bool.and_eq_true,decide_eq_true_eq] at this
 omega
theorem par4 {s:Stp} {ah:List Int} (h:widW s ah≠0) (k:s.k=4):inB s.a 0 ((ah.length:Int)-1)=true∧inB s.b 0 ((ah.length:Int)-1)=true∧inB s.v 0 ((ah.getD s.b.toNat 0)-1)=true∧inB s.c 0 ((ah.getD s.a.toNat 0)-1)=true∧widW s ah=ah.getD s.a.toNat 0+ah.getD s.b.toNat 0:=by
 rw[wid4 k] at h ⊢
 obtain ⟨h1,h2⟩:=ite_parts h
 simp only[Bool.and_eq_true] at h1
 exact ⟨h1.1.1.1.1.1.1,h1.1.1.1.1.1.2,h1.1.1.2,h1.1.2,h2⟩
theorem par5 {s:Stp} {ah:List Int} (h:widW s ah≠0) (k:s.k=5):inB s.a 0 ((ah.length:Int)-1)=true∧inB s.b 0 ((ah.length:Int)-1)=true∧ah.getD s.a.toNat 0=ah.getD s.b.toNat 0∧widW s ah=ah.getD s.a.toNat 0:=by
 rw[wid5 k] at h ⊢
 obtain ⟨h1,h2⟩:=ite_parts h
 simp only[Bool.and_eq_true,decide_eq_true_eq] at h1
 exact ⟨h1.1.1.1.1.1.1,h1.1.1.1.1.1.2,h1.1.1.1.2,h2⟩
theorem par6 {s:Stp} {ah:List Int} (h:widW s ah≠0) (k:s.k=6):inB s.a 0 ((ah.length:Int)-1)=true∧inB s.b 0 ((ah.length:Int)-1)=true∧ah.getD s.a.toNat 0=ah.getD s.b.toNat 0∧widW s ah=ah.getD s.a.toNat 0:=by
 rw[wid6 k] at h ⊢
 obtain ⟨h1,h2⟩:=ite_parts h
 simp only[Bool.and_eq_true,decide_eq_true_eq] at h1
 exact ⟨h1.1.1.1.1.1.1,h1.1.1.1.1.1.2,h1.1.1.1.2,h2⟩
theorem par7 {s:Stp} {ah:List Int} (h:widW s ah≠0) (k:s.k=7):inB s.a 0 ((ah.length:Int)-1)=true∧widW s ah=ah.getD s.a.toNat 0:=by
 rw[wid7 k] at h ⊢
 obtain ⟨h1,h2⟩:=ite_parts h
 simp only[Bool.and_eq_true] at h1
 exact ⟨h1.1.1.1.1.1,h2⟩
theorem par8 {s:Stp} {ah:List Int} (h:widW s ah≠0) (k:s.k=8):inB s.a 0 ((ah.length:Int)-1)=true∧inB s.c 0 ((ah.getD s.a.toNat 0)-1)=true∧widW s ah=2:=by
 rw[wid8 k] at h ⊢
 obtain ⟨h1,h2⟩:=ite_parts h
 simp only[Bool.and_eq_true] at h1
 exact ⟨h1.1.1.1.1.1,h1.1.1.2,h2⟩
theorem par9 {s:Stp} {ah:List Int} (h:widW s ah≠0) (k:s.k=9):inB s.a 0 ((ah.length:Int)-1)=true∧inB s.v 0 ((ah.getD s.a.toNat 0)-1)=true∧inB s.c 0 ((ah.getD s.a.toNat 0)-1)=true∧widW s ah=2:=by
 rw[wid9 k] at h ⊢
 obtain ⟨h1,h2⟩:=ite_parts h
 simp only[Bool.and_eq_true] at h1
 exact ⟨h1.1.1.1.1.1,h1.1.1.2,h1.1.2,h2⟩

theorem tell_right {s:Stp} {ah:List Int} {S:List (List Zit)} {a b:List Zit} (h:widW s ah≠0) (hS:Ahd S ah) (ha:Wide 4 a) (hb:Wide 4 b) (e:tellE s a b S=0):errZ (tellF s a b S)=0∧Wide (widW s ah) (tellF s a b S):=by
 have hone:s.k≠1→s.k≠4→s.k≠5→s.k≠6→(Wide (widW s ah) (oneF s (getS S s.a)))→errZ (tellF s a b S)=0∧Wide (widW s ah) (tellF s a b S):=fun h1 h4 h5 h6 hw=>by
  unfold tellE at e
  unfold tellF
  rw[if_neg h1,if_neg h4,if_neg h5,if_neg h6] at e ⊢
  exact ⟨norm_right e,norm_wide hw⟩
 rcases kinds h with k|k|k|k|k|k|k|k|k
 ·obtain ⟨hp,hw⟩:=par1 h k
  unfold tellE at e
  unfold tellF
  rw[if_pos k] at e ⊢
  rw[hw]
  refine ⟨norm_right e,norm_wide ?_⟩
  unfold tabF
  split
  ·exact ha
  ·exact hb
 ·obtain ⟨h1,h2,h3,h4⟩:=par2 h k
  refine hone (by omega) (by omega) (by omega) (by omega) ?_
  unfold oneF
  rw[if_pos k,h4]
  exact where_wide (hS.at h1).2.2.2 _ _ _
 ·obtain ⟨h1,h2,h3,h4⟩:=par3 h k
  refine hone (by omega) (by omega) (by omega) (by omega) ?_
  unfold oneF
  rw[if_neg (by omega),if_pos k,h4]
  exact pick_wide _ _
 ·obtain ⟨h1,h2,h3,h4,h5⟩:=par4 h k
  unfold tellE at e
  unfold tellF
  rw[if_neg (by omega),if_pos k] at e ⊢
  unfold pjnF
  rw[if_pos e]
  unfold pjnE at e
  split at e
  ·rw[h5]
   exact ⟨norm_right e,norm_wide ((pair_wide (hS.at h1).2.2.2 (hS.at h2).2.2.2 _ _).take _)⟩
  ·cases e
 ·obtain ⟨h1,h2,h3,h4⟩:=par5 h k
  unfold tellE at e
  unfold tellF
  rw[if_neg (by omega),if_neg (by omega),if_pos k] at e ⊢
  rw[h4]
  exact ⟨(add_right e).2.2,add_wide (hS.at h1).2.2.2 (h3▸(hS.at h2).2.2.2)⟩
 ·obtain ⟨h1,h2,h3,h4⟩:=par6 h k
  unfold tellE at e
  unfold tellF
  rw[if_neg (by omega),if_neg (by omega),if_neg (by omega),if_pos k] at e ⊢
  unfold minF
  rw[if_pos e]
  unfold minE at e
  rw[if_pos (hS.at h2).2.2.1] at e
  rw[h4]
  exact ⟨(add_right e).2.2,add_wide (hS.at h1).2.2.2 (neg_wide (h3▸(hS.at h2).2.2.2))⟩
 ·obtain ⟨h1,h4⟩:=par7 h k
  refine hone (by omega) (by omega) (by omega) (by omega) ?_
  unfold oneF
  rw[if_neg (by omega),if_neg (by omega),if_pos k,h4]
  exact dist_wide (hS.at h1).2.2.2
 ·obtain ⟨h1,h2,h4⟩:=par8 h k
  refine hone (by omega) (by omega) (by omega) (by omega) ?_
  unfold oneF
  rw[if_neg (by omega),if_neg (by omega),if_neg (by omega),if_pos k,h4]
  exact count_wide _ _
 ·obtain ⟨h1,h2,h3,h4⟩:=par9 h k
  refine hone (by omega) (by omega) (by omega) (by omega) ?_
  unfold oneF
  rw[if_neg (by omega),if_neg (by omega),if_neg (by omega),if_neg (by omega),h4]
  exact sum_wide _ _ _
end Go.Proofs.YtkadjjmkokhldaaGreat

namespace Go.Proofs.YtkadjjmkokhldaaGreat
open Go.RowKit Go.Sort

set_option maxHeartbeats 400000 in
theorem isTo_any (n o v:Int) (w:World) (ho:inB o 1 3=true):Calls Tryz.prog 179 #[.int .i64 n,.int .i64 o,.int .i64 v] w fun e w'=>e= .returned (.bool (toB n o v))∧w'=w:=by
 have ho':o=1∨o=2∨o=3:=by
  simp only[inB,Bool.and_eq_true,decide_eq_true_eq] at ho
  omega
 clear ho
 rcases ho' with rfl|rfl|rfl
 ·have e:toB n 1 v=decide (n<v):=rfl
  rw[e];clear e
  go_enter Tryz.func179,Tryz.ntmps179
  go_wp2
  go_ret
  exact ⟨rfl,rfl⟩
 ·have e:toB n 2 v=decide (n=v):=rfl
  rw[e];clear e
  go_enter Tryz.func179,Tryz.ntmps179
  go_wp2
  go_ret
  exact ⟨rfl,rfl⟩
 ·have e:toB n 3 v=decide (v<n):=rfl
  rw[e];clear e
  go_enter Tryz.func179,Tryz.ntmps179
  go_wp2
  go_ret
  exact ⟨rfl,rfl⟩
theorem timesL_append (a b:List Zit):timesL (a++b)=timesL a+timesL b:=by
 induction a with
 | nil=>simp[timesL]
 | cons x a ih=>simp only[List.cons_append,timesL,ih];omega
theorem timesL_bound {l:List Zit} (h:∀x∈l,okW x.2=true): -((l.length:Int)*1048576)≤timesL l∧timesL l≤(l.length:Int)*1048576:=by
 induction l with
 | nil=>simp[timesL]
 | cons x l ih =>
  have h1:=ih fun y hy=>h y (List.mem_cons_of_mem _ hy)
  have h2:=h x (List.mem_cons_self ..)
  simp only[okW,inB,Bool.and_eq_true,decide_eq_true_eq] at h2
  simp only[timesL,List.length_cons]
  omega
theorem timesL_take {l:List Itm} {k:Nat} (h:k<l.length):timesL ((l.take (k+1)).map Itm.z)=timesL ((l.take k).map Itm.z)+l[k].n:=by
 rw[List.take_succ_eq_append_getElem h,List.map_append,timesL_append]
 simp[timesL,Itm.z]

set_option maxRecDepth 100000 in
set_option maxHeartbeats 1000000 in
theorem times_any (l:List Itm) (A:Option Addr) (cap:Nat) (w:World) (hl:l.length≤400) (hw:∀x∈l,okW x.n=true) (hr:Items w A l) :
  Calls Tryz.prog 180 #[.slice A l.length cap] w fun e w'=>e= .returned (.int .i64 (timesL (l.map Itm.z)))∧Gr w w':=by
 have hrH:Hid (Items w A l):=hr
 have hwH:Hid (∀x∈l,okW x.n=true):=hw
 clear hr hw
 go_enter Tryz.func180,Tryz.ntmps180
 go_wp2
 go_loopw [3,8] (fun v i wr=>∃k:Nat,k≤l.length∧i= .int .i64 k∧v= .int .i64 (timesL ((l.take k).map Itm.z))∧Hid (Gr w wr)) (fun _ i _=>l.length-(intOf i).toNat)
 case atStart=>exact ⟨0,Nat.zero_le _,rfl,rfl,Gr.refl _⟩
 case round =>
  obtain ⟨k,hk,rfl,rfl,hg⟩:=hrel
  by_cases hlt:k<l.length
  ·have hltz:(k:Int)<(l.length:Int):=by omega
   have hI:Hid (Items wr A l):=hrH.out.gr hg.out
   obtain ⟨bb,off,rfl,hb,hcs⟩:=hI.out.at hlt
   obtain ⟨x,hx⟩:∃x,l[k]=x:=⟨_,rfl⟩
   obtain ⟨e0,e1⟩:=hcs k hlt
   rw[hx] at e0 e1
   have hst:Hid (timesL ((l.take (k+1)).map Itm.z)=timesL ((l.take k).map Itm.z)+x.n):=by show _=_;rw[timesL_take hlt,hx]
   have hx2:=hwH.out x (by rw[←hx];exact List.getElem_mem hlt)
   have hbd:=timesL_bound (l:=(l.take k).map Itm.z) (fun y hy=>by
    obtain ⟨z,hz,rfl⟩:=List.mem_map.1 hy
    exact hwH.out z (List.mem_of_mem_take hz))
   have hlen:((l.take k).map Itm.z).length≤400:=by simp;omega
   obtain ⟨T,hT⟩:∃T,timesL ((l.take k).map Itm.z)=T:=⟨_,rfl⟩
   rw[hT] at hst hbd ⊢
   have hwr:IntKind.i64.wrap (T+x.n)=T+x.n:=by
    simp only[okW,inB,Bool.and_eq_true,decide_eq_true_eq] at hx2
    rw[IntKind.wrap_i64];omega
   clear hcs hx hx2 hbd hlen hT
   have hgX:Hid (Gr w (wr.alloc (.cells #[.slice x.p x.r.length x.c,.int .i64 x.n] 90))):=hg.out.alloc _
   go_wp2
   go_roundw
   case rel=>exact ⟨k+1,by omega,by go_num,by rw[hst.out],hgX.out⟩
   case measure=>simp[intOf];omega
  ·have hltz:¬(k:Int)<(l.length:Int):=by omega
   have hke:l.take k=l:=List.take_of_length_le (by omega)
   rw[hke]
   clear hke
   go_wp2
   go_ret
   exact ⟨rfl,hg.out⟩

end Go.Proofs.YtkadjjmkokhldaaGreat
