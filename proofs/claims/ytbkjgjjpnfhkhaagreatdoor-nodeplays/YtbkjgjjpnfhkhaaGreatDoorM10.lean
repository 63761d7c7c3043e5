import Derived.Test.YtbkjgjjpnfhkhaaGreatDoorM09
import Derived.Maps.OwnSet
set_option maxRecDepth 100000
set_option maxHeartbeats 8000000
open Go renaming World → J, Value → Y, Addr → X, Calls → N
open Go.IntKind renaming i64 → V
open Go.Obj renaming cells → Z
open Go.Proofs.Tryz renaming prog → O
open Go.RowKit renaming Hid → H, Below → U
open Go.Value renaming slice → I, agg → M
namespace Go.Proofs.YtbkjgjjpnfhkhaaGreatDoor

def eN:List (Int×List Zit)->Int->Zit->List (Int×List Zit)
 | [],n,x=>[(n,[x])]
 | g::t,n,x=>if g.1=n then (g.1,g.2++[x])::t else g::eN t n x
def fW (l:List Zit) (c:Int):List (Int×List Zit):=l.foldl (fun g x=>eN g (atI x.1 c) x) []
def aV:List Zit->Int
 | []=>0
 | x::t=>x.2+aV t
def bq (v:Int):List Zit->Int
 | []=>0
 | x::t=>atI x.1 v*x.2+bq v t
def gE (g:Int×List Zit):Option Zit:=if aV g.2=0 then none else some ([g.1,aV g.2],1)
def gT (v:Int) (g:Int×List Zit):Option Zit:=if aV g.2=0 then none else some ([g.1,bq v g.2],1)
def jD (l:List Zit) (c:Int):List Zit:=(fW l c).filterMap gE
def um (l:List Zit) (c v:Int):List Zit:=(fW l c).filterMap (gT v)
def dS (s:Stp) (a:List Zit):List Zit:=if s.k=2 then bM a s.c s.o s.v else if s.k=3 then dj a s.l else if s.k=7 then de a else if s.k=8 then jD a s.c else um a s.c s.v
def aP (a b:List Zit) (c v:Int):List Zit:=a.flatMap fun x=>(b.filter fun y=>decide (atI y.1 v=atI x.1 c)).map fun y=>(x.1++y.1,x.2*y.2)
def gP (a b:List Zit) (c v:Int):Int:=if (aP a b c v).all (fun x=>okW x.2)=true then bS ((aP a b c v).take 401) else 5
def j4 (a b:List Zit) (c v:Int):List Zit:=if gP a b c v=0 then cY ((aP a b c v).take 401) else []
def cW (b:List Zit):List Zit:=b.map fun x=>(x.1,-x.2)
def lY (a b:List Zit):Int:=if am b=0 then bi a (cW b) else am b
def oE (a b:List Zit):List Zit:=if lY a b=0 then aZ a (cW b) else []
def jy (s:Stp) (a b:List Zit):List Zit:=if s.a=0 then a else b
def bm (S:List (List Zit)) (i:Int):List Zit:=S.getD i.toNat []
def aK (s:Stp) (a b:List Zit) (S:List (List Zit)):Int:=if s.k=1 then bS (jy s a b) else if s.k=4 then gP (bm S s.a) (bm S s.b) s.c s.v else if s.k=5 then bi (bm S s.a) (bm S s.b) else if s.k=6 then lY (bm S s.a) (bm S s.b) else bS (dS s (bm S s.a))
def aJ (s:Stp) (a b:List Zit) (S:List (List Zit)):List Zit:=if s.k=1 then cY (jy s a b) else if s.k=4 then j4 (bm S s.a) (bm S s.b) s.c s.v else if s.k=5 then aZ (bm S s.a) (bm S s.b) else if s.k=6 then oE (bm S s.a) (bm S s.b) else cY (dS s (bm S s.a))
def g9 (a b:List Zit):List Stp->List (List Zit)->Int
 | [],_=>0
 | s::t,S=>if aK s a b S=0 then g9 a b t (S++[aJ s a b S]) else aK s a b S
def gB (a b:List Zit):List Stp->List (List Zit)->List (List Zit)
 | [],S=>S
 | s::t,S=>if aK s a b S=0 then gB a b t (S++[aJ s a b S]) else []
def cQ (n:Int) (l:List Zit):Prop:=∀x∈l,(x.1.length:Int)=n
def ff (q:List Stp) (a b:List Zit):Int:=if bX q=0 then (if am a=0 then (if am b=0 then (if (a++b).all (fun x=>decide (x.1.length=4))=true then 0 else 5) else am b) else am a) else bX q
def ct (q:List Stp) (a b:List Zit):Int:=if ff q a b=0 then g9 a b q [] else ff q a b
def eu (q:List Stp) (a b:List Zit):List (List Zit):=if ct q a b=0 then gB a b q [] else []

theorem jP {l:List Zit} {n:Int} (h:cQ n l):cQ n (cY l):=fun x c=>by
 unfold cY at c
 by_cases e:bS l=0
 ·rw[if_pos e] at c
  obtain ⟨y,f,d⟩:=(bk l).row c
  rw[<-d];exact h y f
 ·rw[if_neg e] at c;cases c
theorem oU {a b:List Zit} {n:Int} (h:cQ n a) (k:cQ n b):cQ n (aZ a b):=fun x c=>by
 unfold aZ at c
 by_cases e:bi a b=0
 ·rw[if_pos e] at c
  obtain ⟨y,f,d⟩:=(bk _).row c
  rw[<-d]
  rcases List.mem_append.1 f with m|m
  ·exact h y m
  ·exact k y m
 ·rw[if_neg e] at c;cases c
theorem iZ {l:List Zit} (h:bS l=0):am (cY l)=0:=by rw[(sk h).1];exact (sk h).2
structure Ahd (S:List (List Zit)) (ah:List Int):Prop where
 len:S.length=ah.length
 ok:∀i,i<S.length->am (S.getD i [])=0/\cQ (ah.getD i 0) (S.getD i [])
theorem Ahd.nil:Ahd [] []:=⟨rfl,fun i h=>absurd h (by simp)⟩
theorem Ahd.snoc {S:List (List Zit)} {c:List Int} (h:Ahd S c) {T:List Zit} {n:Int} (g:am T=0) (j:cQ n T):Ahd (S++[T]) (c++[n]):=by
 refine ⟨by simp[h.len],fun i hi=> ?_⟩;by_cases e:i<S.length
 ·have f:i<c.length:=by rw[<-h.len];exact e
  rw[List.getD_eq_getElem?_getD,List.getD_eq_getElem?_getD,List.getElem?_append_left e,List.getElem?_append_left f,<-List.getD_eq_getElem?_getD,<-List.getD_eq_getElem?_getD];exact h.ok i e
 ·have d:i=S.length:=by simp at hi;omega
  have f:i=c.length:=by rw[<-h.len];exact d
  rw[List.getD_eq_getElem?_getD,List.getD_eq_getElem?_getD,List.getElem?_append_right (by omega),List.getElem?_append_right (by omega),d,<-h.len];simp only[Nat.sub_self,z0',Option.getD_some];exact ⟨g,j⟩
theorem Ahd.at {S:List (List Zit)} {c:List Int} (h:Ahd S c) {i:Int} (hi:inB i 0 ((c.length:Int)-1)=true):0<=i/\i.toNat<S.length/\am (bm S i)=0/\cQ (c.getD i.toNat 0) (bm S i):=by
 have d:0<=i/\i<=(c.length:Int)-1:=by simpa[inB] using hi
 have e:i.toNat<S.length:=by rw[h.len];omega
 exact ⟨d.1,e,h.ok _ e⟩
theorem qj:∀(g:List (Int×List Zit)) (n:Int) (x:Zit) (y:Int×List Zit),y∈eN g n x->y.1=n\/∃z∈g,z.1=y.1
 | [],n,x,y,h=>by simp only[eN,List.mem_singleton] at h;exact oL (by rw[h])
 | g::t,n,x,y,h=>by
  simp only[eN] at h;by_cases e:g.1=n
  ·rw[if_pos e] at h;rcases List.mem_cons.1 h with k|k
   ·exact oL (by rw[k];exact e)
   ·exact oR ⟨y,mC _ k,rfl⟩
  ·rw[if_neg e] at h;rcases List.mem_cons.1 h with k|k
   ·exact oR ⟨g,mS ..,by rw[k]⟩
   ·rcases qj t n x y k with m|⟨z,hz,m⟩
    ·exact oL m
    ·exact oR ⟨z,mC _ hz,m⟩
theorem qO (l:List Zit) (c:Int):cQ 2 (jD l c):=fun x d=>by
 obtain ⟨g,_,h⟩:=List.mem_filterMap.1 d
 unfold gE at h
 by_cases e:aV g.2=0
 ·rw[if_pos e] at h;cases h
 ·rw[if_neg e] at h;cases h;rfl
theorem xB (l:List Zit) (c v:Int):cQ 2 (um l c v):=fun x d=>by
 obtain ⟨g,_,h⟩:=List.mem_filterMap.1 d
 unfold gT at h
 by_cases e:aV g.2=0
 ·rw[if_pos e] at h;cases h
 ·rw[if_neg e] at h;cases h;rfl
theorem rP {l:List Zit} {n:Int} (h:cQ n l) (c o v:Int):cQ n (bM l c o v):=fun x d=>h x (List.mem_filter.1 d).1
theorem tP (l:List Zit) (c:List Int):cQ c.length (dj l c):=fun x d=>by
 obtain ⟨y,_,rfl⟩:=List.mem_map.1 d
 simp[cK]
theorem sS {l:List Zit} {n:Int} (h:cQ n l):cQ n (de l):=fun x c=>by
 obtain ⟨y,d,rfl⟩:=List.mem_map.1 c
 exact h y (List.mem_filter.1 d).1
theorem tL {a b:List Zit} {n m:Int} (h:cQ n a) (k:cQ m b) (c v:Int):cQ (n+m) (aP a b c v):=fun x d=>by
 obtain ⟨y,f,d⟩:=List.mem_flatMap.1 d
 obtain ⟨z,g,rfl⟩:=List.mem_map.1 d
 have j:=h y f
 have l:=k z (List.mem_filter.1 g).1
 simp only[List.length_append]
 omega
theorem ws {l:List Zit} {n:Int} (h:cQ n l):cQ n (l.map fun x=>(x.1,-x.2)):=fun x c=>by
 obtain ⟨y,d,rfl⟩:=List.mem_map.1 c
 exact h y d
theorem cQ.take {l:List Zit} {n:Int} (h:cQ n l) (k:Nat):cQ n (l.take k):=fun x c=>h x (List.mem_of_mem_take c)
theorem kinds {s:Stp} {n:List Int} (h:aB s n≠0):s.k=1\/s.k=2\/s.k=3\/s.k=4\/s.k=5\/s.k=6\/s.k=7\/s.k=8\/s.k=9:=by
 by_cases d:s.k=1 ;· exact oL d
 by_cases f:s.k=2 ;· simp[f]
 by_cases g:s.k=3 ;· simp[g]
 by_cases r:s.k=4 ;· simp[r]
 by_cases u:s.k=5 ;· simp[u]
 by_cases C:s.k=6 ;· simp[C]
 by_cases j:s.k=7 ;· simp[j]
 by_cases l:s.k=8 ;· simp[l]
 by_cases m:s.k=9 ;· simp[m]
 exfalso
 apply h
 have c:¬(s.k=4\/s.k=5\/s.k=6):=by omega
 unfold aB dd
 simp only[if_neg d,if_neg f,if_neg g,if_neg j,if_neg l,if_neg m,if_neg c,ite_self]
theorem bW {p:Bool} {n:Int} (h:(if p=true then n else 0)≠0):p=true/\(if p=true then n else 0)=n:=by
 cases p with
 | true=>exact ⟨rfl,rfl⟩
 | false=>exact absurd rfl h
theorem Af {s:Stp} {c:List Int} (h:aB s c≠0) (k:s.k=1):(s.a=0\/s.a=1)/\aB s c=4:=by rw[Ak k] at h ⊢;obtain ⟨d,f⟩:=bW h;simp only[inB,Bool.and_eq_true,decide_eq_true_eq] at d;exact ⟨by omega,f⟩
theorem tM {s:Stp} {d:List Int} (h:aB s d≠0) (k:s.k=2):inB s.a 0 ((d.length:Int)-1)=true/\inB s.o 1 3=true/\inB s.c 0 ((d.getD s.a.toNat 0)-1)=true/\aB s d=d.getD s.a.toNat 0:=by rw[zh k] at h ⊢;obtain ⟨f,g⟩:=bW h;simp only[Bool.and_eq_true] at f;exact ⟨f.1.1.1.1.1,f.1.1.2,f.2,g⟩
theorem rC {s:Stp} {c:List Int} (h:aB s c≠0) (k:s.k=3):inB s.a 0 ((c.length:Int)-1)=true/\s.l.length<=8/\(∀n∈s.l,inB n 0 ((c.getD s.a.toNat 0)-1)=true)/\aB s c=s.l.length:=by rw[zi k] at h ⊢;obtain ⟨d,f⟩:=bW h;simp only[Bool.and_eq_true,List.all_eq_true] at d;refine ⟨d.1.1.1.1.1.1,?_,d.1.1.1.2,f⟩;have:=d.1.1.1.1.2;simp only[inB,Bool.and_eq_true,decide_eq_true_eq] at this;omega
theorem rD {s:Stp} {d:List Int} (h:aB s d≠0) (k:s.k=4):inB s.a 0 ((d.length:Int)-1)=true/\inB s.b 0 ((d.length:Int)-1)=true/\inB s.v 0 ((d.getD s.b.toNat 0)-1)=true/\inB s.c 0 ((d.getD s.a.toNat 0)-1)=true/\aB s d=d.getD s.a.toNat 0+d.getD s.b.toNat 0:=by rw[zj k] at h ⊢;obtain ⟨f,g⟩:=bW h;simp only[Bool.and_eq_true] at f;exact ⟨f.1.1.1.1.1.1,f.1.1.1.1.1.2,f.1.1.2,f.1.2,g⟩
theorem wT {s:Stp} {c:List Int} (h:aB s c≠0) (k:s.k=5):inB s.a 0 ((c.length:Int)-1)=true/\inB s.b 0 ((c.length:Int)-1)=true/\c.getD s.a.toNat 0=c.getD s.b.toNat 0/\aB s c=c.getD s.a.toNat 0:=by rw[Am k] at h ⊢;obtain ⟨d,f⟩:=bW h;simp only[Bool.and_eq_true,decide_eq_true_eq] at d;exact ⟨d.1.1.1.1.1.1,d.1.1.1.1.1.2,d.1.1.1.2,f⟩
theorem wU {s:Stp} {c:List Int} (h:aB s c≠0) (k:s.k=6):inB s.a 0 ((c.length:Int)-1)=true/\inB s.b 0 ((c.length:Int)-1)=true/\c.getD s.a.toNat 0=c.getD s.b.toNat 0/\aB s c=c.getD s.a.toNat 0:=by rw[An k] at h ⊢;obtain ⟨d,f⟩:=bW h;simp only[Bool.and_eq_true,decide_eq_true_eq] at d;exact ⟨d.1.1.1.1.1.1,d.1.1.1.1.1.2,d.1.1.1.2,f⟩
theorem yN {s:Stp} {c:List Int} (h:aB s c≠0) (k:s.k=7):inB s.a 0 ((c.length:Int)-1)=true/\aB s c=c.getD s.a.toNat 0:=by rw[zk k] at h ⊢;obtain ⟨d,f⟩:=bW h;simp only[Bool.and_eq_true] at d;exact ⟨d.1.1.1.1.1,f⟩
theorem tN {s:Stp} {d:List Int} (h:aB s d≠0) (k:s.k=8):inB s.a 0 ((d.length:Int)-1)=true/\inB s.c 0 ((d.getD s.a.toNat 0)-1)=true/\aB s d=2:=by rw[xM k] at h ⊢;obtain ⟨f,g⟩:=bW h;simp only[Bool.and_eq_true] at f;exact ⟨f.1.1.1.1.1,f.1.1.2,g⟩
theorem tO {s:Stp} {d:List Int} (h:aB s d≠0) (k:s.k=9):inB s.a 0 ((d.length:Int)-1)=true/\inB s.v 0 ((d.getD s.a.toNat 0)-1)=true/\inB s.c 0 ((d.getD s.a.toNat 0)-1)=true/\aB s d=2:=by rw[zm k] at h ⊢;obtain ⟨f,g⟩:=bW h;simp only[Bool.and_eq_true] at f;exact ⟨f.1.1.1.1.1,f.1.1.2,f.1.2,g⟩

theorem jc {s:Stp} {m:List Int} {S:List (List Zit)} {a b:List Zit} (h:aB s m≠0) (j:Ahd S m) (C:cQ 4 a) (D:cQ 4 b) (e:aK s a b S=0):am (aJ s a b S)=0/\cQ (aB s m) (aJ s a b S):=by
 have c:s.k≠1->s.k≠4->s.k≠5->s.k≠6->(cQ (aB s m) (dS s (bm S s.a)))->am (aJ s a b S)=0/\cQ (aB s m) (aJ s a b S):=fun f d n u r=>by unfold aK at e;unfold aJ;rw[if_neg f,if_neg d,if_neg n,if_neg u] at e ⊢;exact ⟨iZ e,jP r⟩
 rcases kinds h with k|k|k|k|k|k|k|k|k
 ·obtain ⟨E,r⟩:=Af h k;unfold aK at e;unfold aJ;rw[if_pos k] at e ⊢;rw[r];refine ⟨iZ e,jP ?_⟩;unfold jy;split
  ·exact C
  ·exact D
 ·obtain ⟨f,g,l,d⟩:=tM h k;refine c (by omega) (by omega) (by omega) (by omega) ?_;unfold dS;rw[if_pos k,d];exact rP (j.at f).2.2.2 _ _ _
 ·obtain ⟨f,g,l,d⟩:=rC h k;refine c (by omega) (by omega) (by omega) (by omega) ?_;unfold dS;rw[if_neg (by omega),if_pos k,d];exact tP _ _
 ·obtain ⟨f,g,l,d,n⟩:=rD h k;unfold aK at e;unfold aJ;rw[if_neg (by omega),if_pos k] at e ⊢;unfold j4;rw[if_pos e];unfold gP at e;split at e
  ·rw[n];exact ⟨iZ e,jP ((tL (j.at f).2.2.2 (j.at g).2.2.2 _ _).take _)⟩
  ·cases e
 ·obtain ⟨f,g,l,d⟩:=wT h k;unfold aK at e;unfold aJ;rw[if_neg (by omega),if_neg (by omega),if_pos k] at e ⊢;rw[d];exact ⟨(mU e).2.2,oU (j.at f).2.2.2 (l▸(j.at g).2.2.2)⟩
 ·obtain ⟨f,g,l,d⟩:=wU h k;unfold aK at e;unfold aJ;rw[if_neg (by omega),if_neg (by omega),if_neg (by omega),if_pos k] at e ⊢;unfold oE;rw[if_pos e];unfold lY at e;rw[if_pos (j.at g).2.2.1] at e;rw[d];exact ⟨(mU e).2.2,oU (j.at f).2.2.2 (ws (l▸(j.at g).2.2.2))⟩
 ·obtain ⟨f,d⟩:=yN h k;refine c (by omega) (by omega) (by omega) (by omega) ?_;unfold dS;rw[if_neg (by omega),if_neg (by omega),if_pos k,d];exact sS (j.at f).2.2.2
 ·obtain ⟨f,g,d⟩:=tN h k;refine c (by omega) (by omega) (by omega) (by omega) ?_;unfold dS;rw[if_neg (by omega),if_neg (by omega),if_neg (by omega),if_pos k,d];exact qO _ _
 ·obtain ⟨f,g,l,d⟩:=tO h k;refine c (by omega) (by omega) (by omega) (by omega) ?_;unfold dS;rw[if_neg (by omega),if_neg (by omega),if_neg (by omega),if_neg (by omega),d];exact xB _ _ _
end Go.Proofs.YtbkjgjjpnfhkhaaGreatDoor

namespace Go.Proofs.YtbkjgjjpnfhkhaaGreatDoor
open Go.RowKit Go.Sort

theorem vJ (n o v:Int) (w:J) (d:inB o 1 3=true):N O 233 #[.int V n,.int V o,.int V v] w fun e w'=>e= .returned (.bool (toB n o v))/\w'=w:=by
 have c:o=1\/o=2\/o=3:=by simp only[inB,Bool.and_eq_true,decide_eq_true_eq] at d;omega
 rcases c with rfl|rfl|rfl
 ·have e:toB n 1 v=decide (n<v):=rfl;rw[e];clear e;go_enter Tryz.func233,Tryz.ntmps233;go_wp2;go_ret;exact ⟨rfl,rfl⟩
 ·have e:toB n 2 v=decide (n=v):=rfl;rw[e];clear e;go_enter Tryz.func233,Tryz.ntmps233;go_wp2;go_ret;exact ⟨rfl,rfl⟩
 ·have e:toB n 3 v=decide (v<n):=rfl;rw[e];clear e;go_enter Tryz.func233,Tryz.ntmps233;go_wp2;go_ret;exact ⟨rfl,rfl⟩
theorem iU (a b:List Zit):aV (a++b)=aV a+aV b:=by
 induction a with
 | nil=>simp[aV]
 | cons x a ih=>simp only[List.cons_append,aV,ih];omega
theorem gV {l:List Zit} (h:∀x∈l,okW x.2=true): -((l.length:Int)*1048576)<=aV l/\aV l<=(l.length:Int)*1048576:=by
 induction l with
 | nil=>simp[aV]
 | cons x l ih =>
  have f:=ih fun y d=>h y (mC _ d)
  have c:=h x (mS ..)
  simp only[okW,inB,Bool.and_eq_true,decide_eq_true_eq] at c
  simp only[aV,List.length_cons]
  omega
theorem qz {l:List Itm} {k:Nat} (h:k<l.length):aV ((l.take (k+1)).map Itm.z)=aV ((l.take k).map Itm.z)+l[k].n:=by rw[List.take_succ_eq_append_getElem h,List.map_append,iU];simp[aV,Itm.z]

theorem nX (l:List Itm) (A:Option X) (cap:Nat) (w:J) (hl:l.length<=400) (hw:∀x∈l,okW x.n=true) (hr:Items w A l) :
  N O 234 #[I A l.length cap] w fun e w'=>e= .returned (.int V (aV (l.map Itm.z)))/\Gr w w':=by
 have E:=ja1 hr;have h:=ja1 hw;go_enter Tryz.func234,Tryz.ntmps234;go_wp2;go_loopw [3,8] (fun v i wr=>∃k:Nat,k<=l.length/\i= .int V k/\v= .int V (aV ((l.take k).map Itm.z))/\H (Gr w wr)) (fun _ i _=>l.length-(intOf i).toNat);exact ⟨0,nZ _,rfl,rfl,gR _⟩;obtain ⟨k,hk,rfl,rfl,u⟩:=hrel;by_cases d:k<l.length
 ·have f:(k:Int)<(l.length:Int):=by omega
  have hI:=ja1 (E.out.gr u.out);obtain ⟨bb,ak,rfl,hb,m⟩:=hI.out.at d;obtain ⟨x,F⟩:=jb0 (l[k]);obtain ⟨e0,e1⟩:=m k d;rw[F] at e0 e1;have g:H (aV ((l.take (k+1)).map Itm.z)=aV ((l.take k).map Itm.z)+x.n):=by show _=_;rw[qz d,F]
  have R:=h.out x (by rw[<-F];exact gM d);have j:=gV (l:=(l.take k).map Itm.z) (fun y hy=>by obtain ⟨z,hz,rfl⟩:=List.mem_map.1 hy;exact h.out z (List.mem_of_mem_take hz))
  have ad:((l.take k).map Itm.z).length<=400:=by simp;omega
  obtain ⟨an,hT⟩:=jb0 (aV ((l.take k).map Itm.z));rw[hT] at g j ⊢;have ah:IntKind.i64.wrap (an+x.n)=an+x.n:=by simp only[okW,inB,Bool.and_eq_true,decide_eq_true_eq] at R;rw[IntKind.wrap_i64];omega
  have C:H (Gr w (wr.alloc (Z #[I x.p x.r.length x.c,.int V x.n] 101))):=u.out.alloc _;go_wp2;go_roundw;exact ⟨k+1,by omega,by go_num,by rw[g.out],C.out⟩;simp[intOf];omega
 ·have f:¬(k:Int)<(l.length:Int):=by omega
  have D:l.take k=l:=List.take_of_length_le (by omega);rw[D];go_wp2;go_ret;exact ⟨rfl,u.out⟩


theorem mF {l:List Itm} {k:Nat} (h:k<l.length) (c o v:Int):bM ((l.take (k+1)).map Itm.z) c o v=bM ((l.take k).map Itm.z) c o v++(if toB (atI l[k].r c) o v=true then [l[k].z] else []):=by
 rw[List.take_succ_eq_append_getElem h,List.map_append];unfold bM;rw[List.filter_append];congr 1;by_cases e:toB (atI l[k].r c) o v=true
 ·rw[if_pos e];simp[Itm.z,e]
 ·rw[if_neg e];simp[Itm.z,e]
theorem dA {w:J} {p:Option X} {r:List Int} {c:Int} (h:aq w p r) (k:inB c 0 ((r.length:Int)-1)=true):∃(b d:Nat) (n:Nat),p=some ⟨b,d,none⟩/\b<w.heap.size/\c=n/\n<r.length/\w.cell? ⟨b,d+n,none⟩=some (.int V (atI r c)):=by
 simp only[inB,Bool.and_eq_true,decide_eq_true_eq] at k;have f:c.toNat<r.length:=by omega
 obtain ⟨b,d,l,j,g⟩:=h.at f;refine ⟨b,d,c.toNat,l,j,by omega,f,?_⟩;have:=g c.toNat f 0 (by omega);simp only[Nat.mul_one,Nat.add_zero] at this;rw[this];unfold atI;rw[List.getD_eq_getElem?_getD,List.getElem?_eq_getElem f];rfl

theorem uw (l:List Itm) (A:Option X) (cap:Nat) (c o v:Int) (w:J) (hl:l.length<=400) (hr:Items w A l) (hc:∀x∈l,inB c 0 ((x.r.length:Int)-1)=true) (ho:inB o 1 3=true) :
  N O 216 #[I A l.length cap,.int V c,.int V o,.int V v] w fun e w'=>∃(L:List Itm) (C:Option X) (k:Nat),e= .returned (I C L.length k)/\L.map Itm.z=bM (l.map Itm.z) c o v/\Lv w' C k L/\L.length<=400/\U w.heap.size w w':=by
 have a0:=ja1 hr;have a2:=ja1 hc;have be:=ja1 ho;go_enter Tryz.func216,Tryz.ntmps216;go_wp2;go_loopw [9,14] (fun u i wr=>∃(k:Nat) (L:List Itm),k<=l.length/\i= .int V k/\H (L.length<=k/\L.map Itm.z=bM ((l.take k).map Itm.z) c o v/\(∀x∈L,x∈l)/\ae aE 2 101 wr w.heap.size u L/\U w.heap.size w wr)) (fun _ i _=>l.length-(intOf i).toNat);exact ⟨0,[],nZ _,rfl,nR _,rfl,fun x hx=>(by cases hx),ae.nil _ _ _ _ _,bR _ _⟩;obtain ⟨k,L,hk,rfl,f⟩:=hrel;by_cases E:k<l.length
 ·have aL:(k:Int)<(l.length:Int):=by omega
  have hI:=ja1 (a0.out.below f.out.2.2.2.2);obtain ⟨bb,bC,rfl,hb,a5⟩:=hI.out.at E;obtain ⟨x,hx⟩:=jb0 (l[k]);obtain ⟨e0,e1⟩:=a5 k E;rw[hx] at e0 e1;have ap:x∈l:=by rw[<-hx];exact gM E
  obtain ⟨F,R,cn,hp,bv,a3,bt,ah⟩:=dA (hI.out.each x ap).1 (a2.out x ap);have an:H (bM ((l.take (k+1)).map Itm.z) c o v=bM ((l.take k).map Itm.z) c o v++(if toB (atI x.r c) o v=true then [x.z] else [])):=by show _=_;rw[mF E,hx]
  have bp:=ja1 ap;obtain ⟨nn,bd⟩:=jb0 (atI x.r c);have ao:H (∀w,N O 233 #[.int V nn,.int V o,.int V v] w fun e w'=>e= .returned (.bool (toB nn o v))/\w'=w):=fun w=>vJ nn o v w be.out;rw[bd] at ah an;rw[hp] at e0;have D:H (Gr wr (wr.alloc (Z #[I (some ⟨F,R,none⟩) x.r.length x.c,.int V x.n] 101))):=(gR _).alloc _;have bh:=ja1 hp;obtain rfl:=a3;obtain ⟨tt,a1⟩:=jb0 (toB nn o v);have ad:=ja1 a1;rw[a1] at ao;cases tt
  ·have m:H (bM ((l.take (k+1)).map Itm.z) cn o v=bM ((l.take k).map Itm.z) cn o v):=by show _=_;rw[an.out,ad.out];simp
   have d:H (L.length<=k+1/\L.map Itm.z=bM ((l.take (k+1)).map Itm.z) cn o v/\(∀x∈L,x∈l)/\ae aE 2 101 (wr.alloc (Z #[I (some ⟨F,R,none⟩) x.r.length x.c,.int V x.n] 101)) w.heap.size u9 L/\U w.heap.size w (wr.alloc (Z #[I (some ⟨F,R,none⟩) x.r.length x.c,.int V x.n] 101))) :=
    ⟨by have:=f.out.1;omega,by rw[m.out];exact f.out.2.1,f.out.2.2.1,f.out.2.2.2.1.gr D.out,f.out.2.2.2.2.trans (D.out.below.mono f.out.2.2.2.2.size)⟩
   go_wp2_with (go_at_call 233;refine (ao.out _).mono ?_;rintro e w' ⟨rfl,bo⟩;subst w');go_roundw;exact ⟨k+1,L,by omega,by go_num,d.out⟩;simp[intOf];omega
  ·have m:H (bM ((l.take (k+1)).map Itm.z) cn o v=bM ((l.take k).map Itm.z) cn o v++[x.z]):=(by show _=_;rw[an.out,ad.out];simp);have g:H (ae aE 2 101 ((wr.alloc (Z #[I (some ⟨F,R,none⟩) x.r.length x.c,.int V x.n] 101)).alloc (Z #[I (some ⟨F,R,none⟩) x.r.length x.c,.int V x.n] 101)) w.heap.size u9 L/\aC aE 2 ((wr.alloc (Z #[I (some ⟨F,R,none⟩) x.r.length x.c,.int V x.n] 101)).alloc (Z #[I (some ⟨F,R,none⟩) x.r.length x.c,.int V x.n] 101)) (some ⟨wr.heap.size+1,0,none⟩) [x]/\L.length+[x].length<=maxLen/\(L.length+[x].length)*32<=140737488355328/\U w.heap.size w ((wr.alloc (Z #[I (some ⟨F,R,none⟩) x.r.length x.c,.int V x.n] 101)).alloc (Z #[I (some ⟨F,R,none⟩) x.r.length x.c,.int V x.n] 101))):=by have bs:=f.out.1;refine ⟨f.out.2.2.2.1.gr (D.out.alloc _),?_,by unfold maxLen;simp;omega,by simp;omega,f.out.2.2.2.2.trans ((D.out.alloc _).below.mono f.out.2.2.2.2.size)⟩;rw[<-bh.out];exact bV (by simp) x _
   go_wp2_with (first|(go_at_call 233;refine (ao.out _).mono ?_;rintro e w' ⟨rfl,bo⟩;subst w')|(at_builtin;refine bA _ rfl (.tmp 26) (.tmp 28) rfl w.heap.size u9 L [x] (some ⟨wr.heap.size+1,0,none⟩) 1 rfl rfl g.out.1 g.out.2.1 (fun h=>by cases h) g.out.2.2.1 g.out.2.2.2.1 g.out.2.2.2.2.size ?_;intro v3 w3 ak a6));have d:H ((L++[x]).length<=k+1/\(L++[x]).map Itm.z=bM ((l.take (k+1)).map Itm.z) cn o v/\(∀y∈L++[x],y∈l)/\ae aE 2 101 w3 w.heap.size v3 (L++[x])/\U w.heap.size w w3):=by
    refine ⟨by have:=f.out.1;simp;omega,by rw[m.out,List.map_append,f.out.2.1];rfl,fun y hy=> ?_,ak,g.out.2.2.2.2.trans (g.out.1.grown_below a6 g.out.2.2.2.2.size)⟩;rcases List.mem_append.1 hy with h|h
    ·exact f.out.2.2.1 y h
    ·rw[List.mem_singleton.1 h];exact bp.out
   go_roundw;exact ⟨k+1,L++[x],by omega,by go_num,d.out⟩;simp[intOf];omega
 ·have aL:¬(k:Int)<(l.length:Int):=by omega
  have a8:l.take k=l:=List.take_of_length_le (by omega);obtain ⟨A2,j,bl,ba,a7,a4,_,_⟩:=ae.full bO f.out.2.2.2.1;have bc:dC A2 L.length j:=dC.mk ba a4;have a9:L.length<=400:=by have:=f.out.1;omega
  have d:H (L.map Itm.z=bM (l.map Itm.z) c o v/\Lv wr A2 j L/\U w.heap.size w wr):=by refine ⟨by have:=f.out.2.1;rw[a8] at this;exact this,⟨⟨a7,fun x hx=> ?_⟩,bc,by unfold maxLen;omega⟩,f.out.2.2.2.2⟩;have:=(a0.out.below f.out.2.2.2.2).each x (f.out.2.2.1 x hx);exact this
  subst bl;go_wp2;go_ret;exact ⟨L,A2,j,rfl,d.out.1,d.out.2.1,a9,d.out.2.2⟩
section
open Go.Maps

structure Grp where
 n:Int
 p:Option X
 c:Nat
 l:List Itm
def Grp.v (g:Grp):Y:= I g.p g.l.length g.c
def Grp.z (g:Grp):Int×List Zit:=(g.n,g.l.map Itm.z)
def fq (g:Grp):List Y:=[.int V g.n,g.v]
theorem dV (g:Grp):(fq g).length=2:=rfl
theorem uZ (g:Grp):∀u∈fq g,u.oneCell'=true:=by intro u c;simp[fq,Grp.v] at c;rcases c with h|h<;>rw[h]<;>rfl
theorem Tryz.infoP:(Tryz.prog.info? 246).map (fun i=>(i.zero,i.size,i.bytes))=some (some (M #[.int V 0,I none 0 0]),2,32):=by kernel_rfl
theorem Tryz.infoT2:(Tryz.prog.info? 101).map (fun i=>(i.zero,i.size,i.bytes))=some (some (M #[I none 0 0,.int V 0]),2,32):=by kernel_rfl

def Two (g h:Grp):Prop:=∀b,g.v.ownBlock=some b->h.v.ownBlock≠some b
structure Gps (w:J) (B:Nat) (v:Y) (gs:List Grp):Prop where
 own:ae fq 2 246 w B v gs
 each:∀g∈gs,ae aE 2 101 w B g.v g.l
 apart:gs.Pairwise Two
theorem Gps.nil (w:J) (B:Nat):Gps w B (I none 0 0) []:=⟨ae.nil _ _ _ _ _,fun g c=>(by cases c),List.Pairwise.nil⟩
theorem Gps.below {w w':J} {B:Nat} {v:Y} {c:List Grp} (h:Gps w B v c) (q:jb2 w w'):Gps w' B v c:=⟨h.own.below q,fun g d=>(h.each g d).below q,h.apart⟩
theorem Gps.gr {w w':J} {B:Nat} {v:Y} {c:List Grp} (h:Gps w B v c) (q:Gr w w'):Gps w' B v c:=h.below q.below
theorem ae.keep {α : Type} {enc: α -> List Y} {k:Nat} {e:TypeId} {w w':J} {c:Nat} {v:Y} {l:List α} {row:Option Nat} (h:ae enc k e w c v l) (f:w.grownBy w' row) (d:v.ownBlock=none\/v.ownBlock≠row):ae enc k e w' c v l:=World.ownsRow.kept h f d
theorem jR {α β : Type} {enc: α -> List Y} {j: β -> List Y} {k D:Nat} {e r:TypeId} {w:J} {f c:Nat} {v u:Y} {l:List α} {E:List β} (h:ae enc k e w f v l) (C:ae j D r w c u E) (n:e≠r):v.ownBlock=none\/v.ownBlock≠u.ownBlock:=by
 rcases h.2 with ⟨m,_⟩|⟨g,cap,cur,m,_,hg,_⟩
 ·exact oL (by rw[m];rfl)
 ·rcases C.2 with ⟨d,_⟩|⟨g',cap',cur',d,_,hg',_⟩
  ·refine oR ?_;rw[m,d];intro k;cases k
  ·refine oR ?_;rw[m,d];intro k;have:g=g':=by simpa[Value.ownBlock] using k
   subst this;rw[hg] at hg';simp at hg';exact n hg'.2
theorem Gps.more {w w':J} {B:Nat} {v f:Y} {c:List Grp} {n:Int} (h:Gps w B v c) (m:ae fq 2 246 w' B f (c++[⟨n,none,0,[]⟩])) (l:w.grownBy w' v.ownBlock):Gps w' B f (c++[⟨n,none,0,[]⟩]):=by
 refine ⟨m,fun g d=> ?_,?_⟩
 ·rcases List.mem_append.1 d with k|k
  ·exact (h.each g k).keep l (jR (h.each g k) h.own (by decide))
  ·rw[List.mem_singleton.1 k];exact ae.nil _ _ _ _ _
 ·refine List.pairwise_append.2 ⟨h.apart,List.pairwise_singleton _ _,fun a _ b j=> ?_⟩;rw[List.mem_singleton.1 j];intro x _ k;cases k
theorem nt:∀(d:List Grp) (i:Nat) (hi:i<d.length) (c:Grp),c.n=d[i].n->bu fq (d.set i c)=(bu fq d).set (i*2+1) c.v
 | g::t,0,_,c,h=>by have f:c.n=g.n:=h;simp[bu,fq,f]
 | g::t,i+1,hi,c,h=>by
  have ih:=nt t i (by simpa using hi) c (by simpa using h);have e:(i+1)*2+1=(i*2+1)+2:=by omega
  simp only[bu,yS,List.flatMap_cons] at ih ⊢;rw[ih,e];rfl
theorem tK {w:J} {B:Nat} {v:Y} {c:List Grp} {i:Nat} (hi:i<c.length) {g':Grp} (l:g'.n=c[i].n) (h:ae fq 2 246 w B v c) {G:Nat} (f:v.ownBlock=some G):ae fq 2 246 (w.jb3 G (i*2+1) g'.v) B v (c.set i g'):=by
 refine ⟨cA dV _,?_⟩;rcases h.2 with ⟨j,m⟩|⟨g,cap,cur,j,hb,hg,hle,hcm,hcs,htk⟩
 ·rw[j] at f;cases f
 ·rw[j] at f;have:g=G:=by simpa[Value.ownBlock] using f
  subst this;refine oR ⟨g,cap,cur.setIfInBounds (i*2+1) g'.v,by rw[j,List.length_set],hb,?_,by rw[List.length_set];exact hle,hcm,by simpa using hcs,?_⟩
  ·have d:=lt_of_block hg;have k:w.heap[g]= Z cur 246 (0,0):=by simpa[Array.getElem?_eq_getElem d] using hg
   show (w.heap.modify g _)[g]? = _;rw[Array.getElem?_eq_getElem (by simpa using d),Array.getElem_modify_self,k];rfl
  ·rw[List.length_set,nt c i hi g' l,<-htk];simp[List.take_set]
theorem jG (W:J) (a:X) (u:Y):W.grownBy (W.setCell a u) (some a.block) :=
 ⟨rfl,rfl,rfl,by simp[World.setCell],fun j _ c=>Below.heap_setCell _ _ _ _ (fun e=>c (by rw[e]))⟩
theorem Gps.item {w w':J} {B:Nat} {v:Y} {c:List Grp} (h:Gps w B v c) {i:Nat} (hi:i<c.length) {g':Grp} (hn:g'.n=c[i].n) (ho:ae aE 2 101 w' B g'.v g'.l) (hg:w.grownBy w' c[i].v.ownBlock) (ah:g'.v.ownBlock=c[i].v.ownBlock\/g'.v.ownBlock=some w.heap.size) {G:Nat} (hG:v.ownBlock=some G) :
  Gps (w'.jb3 G (i*2+1) g'.v) B v (c.set i g'):=by
 have ap:c[i]∈c:=gM hi;have d:=h.own.keep hg (jR h.own (h.each _ ap) (by decide));have D:=List.pairwise_iff_getElem.1 h.apart;have C:∀(a b:Nat) (m:a<c.length) (F:b<c.length),a≠b->Two c[a] c[b]:=fun a b m F ak=>by
  rcases Nat.lt_or_ge a b with k|k
  ·exact D a b m F k
  ·intro x r f;exact D b a F m (by omega) x f r
 have aL:∀(a:Nat) (m:a<c.length) x,c[a].v.ownBlock=some x->x<w.heap.size:=fun a m x e=>(World.ownsRow.lt (h.each _ (gM m)) x e).2;have u:∀(a:Nat) (m:a<c.length),a≠i->Two c[a] g'/\Two g' c[a]:=fun a m ak=>by
  have k:∀x,c[a].v.ownBlock=some x->g'.v.ownBlock≠some x:=fun x r f=>by
   rcases ah with e|e
   ·rw[e] at f;exact C a i m hi ak x r f
   ·rw[e] at f;have:=aL a m x r;have:w.heap.size=x:=by simpa using f
    omega
  exact ⟨k,fun x r f=>k x f r⟩
 refine ⟨tK hi hn d hG,fun g ao=> ?_,?_⟩
 ·obtain ⟨j,hj,rfl⟩:=List.mem_iff_getElem.1 ao;have ad:j<c.length:=by simpa using hj
  rw[List.getElem_set];by_cases e:i=j
  ·rw[if_pos e];have:=jR ho d (by decide);rw[hG] at this;exact ho.keep (jG _ _ _) this
  ·rw[if_neg e]
   have k1:=(h.each _ (gM ad)).keep hg (by
    cases f:c[j].v.ownBlock with
    | none=>exact oL rfl
    | some x=>exact oR (fun e3=>C j i ad hi (fun k=>e k.symm) x f e3.symm))
   have:=jR k1 d (by decide);rw[hG] at this;exact k1.keep (jG _ _ _) this
 ·refine List.pairwise_iff_getElem.2 fun a b m F an=> ?_;have E:a<c.length:=by simpa using m
  have R:b<c.length:=by simpa using F
  rw[List.getElem_set,List.getElem_set];by_cases r:i=a
  ·rw[if_pos r,if_neg (by omega)];exact (u b R (by omega)).2
  ·rw[if_neg r];by_cases f:i=b
   ·rw[if_pos f];exact (u a E (by omega)).1
   ·rw[if_neg f];exact D a b E R an
end
section
open Go.Maps

theorem kF (w:J) {ops:Array Oper} {d:List Oper} {o:Oper} {a:Act} {Q:Exit->Act->J->Prop} (k:o.guard=none) (s x:Operand)
  (F:o.op= .call { callee:= .builtin .append,args:= #[s,x],argTypes:= #[241,241] })
  (c:Nat) (v:Y) (l m:List Grp) (A:Option X) (cap:Nat) (hs:a.eval s=v) (hx:a.eval x= I A m.length cap) (g:ae fq 2 246 w c v l) (R:aC fq 2 w A m) (C:A=none->cap=0)
  (n:l.length+m.length<=maxLen) (E:(l.length+m.length)*32<=140737488355328) (f:c<=w.heap.size)
  (h:∀j w',ae fq 2 246 w' c j (l++m)->w.grownBy w' v.ownBlock->wpList O ops Q d (a.put o.dst j) w'):wpList O ops Q (o::d) a w :=
 wpList_plain k fun _ D=>dL dV uZ (by omega) 241 Tryz.underlying241 (M #[.int V 0,I none 0 0]) 32 Tryz.infoP rfl w s x F c v l m A cap hs hx g R C n E f fun j w' r u=>D _ _ (h j w' r u)
theorem fY (w:J) {ops:Array Oper} {o:Oper} {a:Act} {K:Act->J->Prop} {Q:Exit->Act->J->Prop} {E:Prop} (j:o.guard=none) (s z:Operand)
  (ho:o.op= .call { callee:= .builtin .append,args:= #[s,z],argTypes:= #[59,59] })
  (c:Nat) (v:Y) (l:List Itm) (x:Itm) (A:X) (cap:Nat) (hs:a.eval s=v) (hz:a.eval z= I (some A) 1 cap) (g:ae aE 2 101 w c v l) (hr:aC aE 2 w (some A) [x])
  (k:l.length+1<=maxLen) (hb:(l.length+1)*32<=140737488355328) (f:c<=w.heap.size)
  (h:∀d w',ae aE 2 101 w' c d (l++[x])->w.grownBy w' v.ownBlock->(d.ownBlock=v.ownBlock\/d.ownBlock=some w.heap.size)->K (a.put o.dst d) w') :
  if Region.wanted o (yielded ops a.tmps)=true then Oper.wp O o a w K Q else E:=by
 have hw:Region.wanted o (yielded ops a.tmps)=true:=by simp[Region.wanted,j]
 rw[if_pos hw];obtain ⟨i0,hi,m,n,r⟩:=info_parts Tryz.infoT2;obtain ⟨d,w',C,D,F,_,R⟩:=run_append_own_at (P:=O) w c 59 o.type 101 i0 (M #[I none 0 0,.int V 0]) 2 32 Tryz.underlying59 hi m n r rfl (by omega) v l.length (bu aE l) g A 1 cap (bu aE [x]) (cA bO [x]) (hr.cells bO (by omega)) (fun u hu=>ef gh u [x] hu) k hb f;have h2:ae aE 2 101 w' c d (l++[x]):=by show w'.ownsRow c _ 2 d (l++[x]).length (bu aE (l++[x]));rw[List.length_append,cV];exact D
 unfold Oper.wp execOp;simp only[ho,resolve,invoke,builtin,Sem.run_bind,Sem.run_pure,Result.andThen_ok,List.map_toArray,List.map_cons,List.map_nil,hs,hz,C];exact h d w' h2 F R

theorem qk:∀ {G:List (Int×List Zit)} {n:Int} {x:Zit},(∀g∈G,g.1≠n)->eN G n x=G++[(n,[x])]
 | [],_,_,_=>rfl
 | g::t,n,x,h=>by have c:=h g (mS ..);have ih:=qk (x:=x) (fun y d=>h y (mC _ d));simp only[eN,if_neg c,ih,List.cons_append]
theorem sr:∀ {G:List (Int×List Zit)} {n:Int} {x:Zit} {i:Nat} (hi:i<G.length),G[i].1=n->G.Pairwise (fun a b=>a.1≠b.1)->eN G n x=G.set i (n,G[i].2++[x])
 | g::t,n,x,0,_,h,_=>by have f:g.1=n:=h;simp[eN,f]
 | g::t,n,x,i+1,hi,h,hp=>by
  have d:=List.pairwise_cons.1 hp;have c:i<t.length:=by simpa using hi
  have f:t[i].1=n:=by simpa using h
  have j:g.1≠n:=by rw[<-f];exact d.1 _ (gM c)
  have ih:=sr (x:=x) c f d.2;simp only[eN,if_neg j,ih,yS,List.getElem_cons_succ]
theorem tg {l:List Itm} {k:Nat} (h:k<l.length) (c:Int):fW ((l.take (k+1)).map Itm.z) c=eN (fW ((l.take k).map Itm.z) c) (atI l[k].r c) l[k].z:=by rw[List.take_succ_eq_append_getElem h,List.map_append];unfold fW;rw[List.foldl_append];rfl

structure Plc (D:DataW Unit) (gs:List Grp):Prop where
 has:∀n:Int,Maps.has D (.int V n)=gs.any (fun g=>decide (g.n=n))
 pos:∀i (hi:i<gs.length),D.atKey (.int V gs[i].n) (.lit (.int V 0))= .lit (.int V i)
 uniq:gs.Pairwise fun a b=>a.n≠b.n
 map:IsMap D
theorem Plc.nil:Plc (.map []) []:=⟨fun n=>rfl,fun i hi=>absurd hi (by simp),List.Pairwise.nil,⟨[],rfl⟩⟩
theorem Plc.set {D:DataW Unit} {c:List Grp} (h:Plc D c) {i:Nat} (hi:i<c.length) {g':Grp} (r:g'.n=c[i].n):Plc D (c.set i g'):=by
 have f:(c.set i g').map (·.n)=c.map (·.n):=by
  apply List.ext_getElem (by simp);intro j u C;simp only[List.getElem_map,List.getElem_set];split
  ·rename_i e;subst e;exact r
  ·rfl
 refine ⟨fun n=> ?_,fun j k=> ?_,?_,h.map⟩
 ·rw[h.has n];have e:∀L:List Grp,L.any (fun g=>decide (g.n=n))=(L.map (·.n)).any (fun m=>decide (m=n)):=fun L=>by rw[List.any_map];rfl
  rw[e,e,f]
 ·have d:j<c.length:=by simpa using k
  have e:(c.set i g')[j].n=c[j].n:=by have:=congrArg (·[j]?) f;simp only[List.getElem?_map,List.getElem?_eq_getElem k,List.getElem?_eq_getElem d,Option.map_some] at this;exact sI this
  rw[e];exact h.pos j d
 ·have e:∀L:List Grp,(L.map (·.n)).Pairwise (· ≠ ·)->L.Pairwise fun a b=>a.n≠b.n:=fun L l=>List.pairwise_map.1 l;apply e;rw[f];exact List.pairwise_map.2 h.uniq
theorem Plc.more {D:DataW Unit} {d:List Grp} (h:Plc D d) {n:Int} (f:Maps.has D (.int V n)=false):Plc (D.put (.int V n) (.lit (.int V d.length))) (d++[⟨n,none,0,[]⟩]):=by
 have c:∀g∈d,g.n≠n:=fun g E e=>by rw[h.has n] at f;have:=List.any_eq_false.1 f g E;simp[e] at this
 refine ⟨fun m=> ?_,fun j F=> ?_,?_,?_⟩
 ·rw[List.any_append];by_cases e:m=n
  ·subst e;rw[has_put_same h.map (show WideAt.IsKeyLit (.int V m) from trivial)];simp
  ·rw[has_put_other (fun k=>e (by cases k;rfl)),h.has m];have:decide (n=m)=false:=by simpa using fun k=>e k.symm
   simp[this]
 ·by_cases e:j<d.length
  ·rw[List.getElem_append_left e];rw[atKey_put_other (fun k=>c _ (List.getElem_mem e) (by cases k;rfl))];exact h.pos j e
  ·have l:j=d.length:=(by simp at F;omega);subst l;rw[List.getElem_append_right (Nat.le_refl _)];simp only[Nat.sub_self,List.getElem_cons_zero];exact atKey_put_same h.map (show WideAt.IsKeyLit (.int V n) from trivial) _ _
 ·exact List.pairwise_append.2 ⟨h.uniq,List.pairwise_singleton _ _,fun a r b u=>by rw[List.mem_singleton.1 u];exact c a r⟩
 ·obtain ⟨R,C⟩:=h.map;rw[C];exact ⟨_,rfl⟩
theorem Plc.find {D:DataW Unit} {c:List Grp} (h:Plc D c) {n:Int} (f:Maps.has D (.int V n)=true):∃i,∃hi:i<c.length,c[i].n=n/\D.atKey (.int V n) (.lit (.int V 0))= .lit (.int V i):=by
 rw[h.has n] at f;obtain ⟨g,j,e⟩:=List.any_eq_true.1 f;obtain ⟨i,hi,rfl⟩:=List.mem_iff_getElem.1 j;have d:c[i].n=n:=by simpa using e
 exact ⟨i,hi,d,by rw[<-d];exact h.pos i hi⟩
theorem yT {W:J} {n:Nat} (f:W.heap.size=n) (m:Int) (T:TypeId):aC fq 2 (W.alloc (Z #[.int V m,I none 0 0] T)) (jb4 n 0) [⟨m,none,0,[]⟩]:=by
 subst f;refine oR ⟨W.heap.size,0,rfl,by simp,fun j d i hi=> ?_⟩;obtain rfl:j=0:=by simp at d;omega
 have c:i=0\/i=1:=by omega
 rcases c with rfl|rfl
 ·exact ab (w:=W) (gR _) (j:=0) rfl
 ·exact ab (w:=W) (gR _) (j:=1) rfl
theorem vR:Keyed O 3:=int_keyed Tryz.underlying3
theorem sF (w:J):(zeroValue 3).run O w= .ok (.int V 0) w:=by kernel_rfl
theorem wfN {n:Int} (h:okN n=true):(Lit.int V n).wf=true:=by simp only[okN,inB,Bool.and_eq_true,decide_eq_true_eq] at h;exact WalkArith.wf_i64 ⟨by omega,by omega⟩
theorem mi {r:List Int} (h:okR r=true) {c:Int}:okN (atI r c)=true:=by
 unfold okR at h;simp only[Bool.and_eq_true,List.all_eq_true] at h;unfold atI;rw[List.getD_eq_getElem?_getD];cases e:r[c.toNat]? with
 | none=>rfl
 | some y=>exact h.2 y (List.mem_of_getElem? e)
end
section
open Go.Maps
set_option linter.unusedSimpArgs false

theorem Gps.kept {w w':J} {B m:Nat} {v:Y} {d:List Grp} (h:Gps w B v d) (r:w.grownBy w' (some m)) (C:m<B):Gps w' B v d:=by have k:∀ {α : Type} {enc: α -> List Y} {n:Nat} {e:TypeId} {u:Y} {l:List α},ae enc n e w B u l->ae enc n e w' B u l:=fun {α enc n e u l} f=>f.keep r (oR (fun j=>by have:=(World.ownsRow.lt f m j).1;omega));exact ⟨k h.own,fun g c=>k (h.each g c),h.apart⟩
theorem Below.kept {B m:Nat} {a w w':J} (h:U B a w) (c:w.grownBy w' (some m)) (f:B<=m) (g:B<=w.heap.size):U B a w':=h.grown c g (fun j d=>by cases d;exact f)
structure GInv (w wr:J) (l:List Itm) (c:Int) (k:Nat) (u:Y) (gs:List Grp) (D:DataW Unit):Prop where
 z:List.map Grp.z gs=fW ((l.take k).map Itm.z) c
 gps:Gps wr (w.heap.size+1) u gs
 sub:∀g∈gs,g.l.length<=k/\∀x∈g.l,x∈l
 plc:Plc D gs
 map:wr.ownsMap O 3 (plainElem O 3) w.heap.size k D
 bel:jb2 w wr
 len:gs.length<=k
 size:w.heap.size+1<=wr.heap.size

structure MidG (w W:J) (l:List Itm) (c:Int) (k G gc:Nat) (gs:List Grp) (i:Nat) (g:Grp) (D:DataW Unit) (x:Itm) (xb:Nat):Prop where
 gps:Gps W (w.heap.size+1) (I (some ⟨G,0,none⟩) gs.length gc) gs
 at_:gs[i]? = some g
 z:∀g':Grp,g'.n=g.n->g'.l=g.l++[x]->(gs.set i g').map Grp.z=fW ((l.take (k+1)).map Itm.z) c
 sub:∀g∈gs,g.l.length<=k/\∀y∈g.l,y∈l
 xin:x∈l
 plc:Plc D gs
 map:W.ownsMap O 3 (plainElem O 3) w.heap.size (k+1) D
 bel:jb2 w W
 len:gs.length<=k+1
 size:w.heap.size+1<=W.heap.size
 blk:∀b,g.v.ownBlock=some b->b≠xb
 xlt:xb<W.heap.size
theorem MidG.hi {w W:J} {l:List Itm} {c:Int} {k G f:Nat} {d:List Grp} {i:Nat} {g:Grp} {D:DataW Unit} {x:Itm} {j:Nat} (h:MidG w W l c k G f d i g D x j):∃hi:i<d.length,d[i]=g:=by obtain ⟨hi,e⟩:=List.getElem?_eq_some_iff.1 h.at_;exact ⟨hi,e⟩
theorem MidG.own {w W:J} {l:List Itm} {c:Int} {k G d:Nat} {f:List Grp} {i:Nat} {g:Grp} {D:DataW Unit} {x:Itm} {j:Nat} (h:MidG w W l c k G d f i g D x j):ae aE 2 101 W (w.heap.size+1) (I g.p g.l.length g.c) g.l:=by obtain ⟨hi,rfl⟩:=h.hi;exact h.gps.each _ (gM hi)
theorem MidG.cell {w W:J} {l:List Itm} {c:Int} {k G j:Nat} {m:List Grp} {i:Nat} {g:Grp} {D:DataW Unit} {x:Itm} {F:Nat} (h:MidG w W l c k G j m i g D x F):jb1 W G (i*2+1) (I g.p g.l.length g.c)/\G<W.heap.size/\w.heap.size<G:=by obtain ⟨hi,rfl⟩:=h.hi;obtain ⟨A,R,f,_,C,r⟩:=h.gps.own.row dV;simp only[Value.slice.injEq] at f;obtain ⟨n,_,_⟩:=f;subst n;obtain ⟨b,E,e,_,u⟩:=C.at hi;cases e;have:=u i hi 1 (by omega);have d:=r _ rfl;exact ⟨by simpa[fq,Grp.v] using this,d.2,d.1⟩
theorem MidG.done {w W:J} {l:List Itm} {c:Int} {k G gc:Nat} {gs:List Grp} {i:Nat} {g:Grp} {D:DataW Unit} {x:Itm} {xb:Nat} (h:MidG w W l c k G gc gs i g D x xb) {o:Obj} {R:J} {C:Option X} {cc:Nat}
  (ho:ae aE 2 101 R (w.heap.size+1) (I C (g.l++[x]).length cc) (g.l++[x])) (F:(W.alloc o).drew.grownBy R (Value.slice g.p g.l.length g.c).ownBlock) (u:(Value.slice C (g.l++[x]).length cc).ownBlock=(Value.slice g.p g.l.length g.c).ownBlock\/(Value.slice C (g.l++[x]).length cc).ownBlock=some (W.alloc o).drew.heap.size) :
  GInv w (R.jb3 G (i*2+1) (I C (g.l++[x]).length cc)) l c (k+1) (I (jb4 G 0) gs.length gc) (gs.set i ⟨g.n,C,cc,g.l++[x]⟩) D:=by
 obtain ⟨_,an,ah⟩:=h.cell;obtain ⟨hi,d⟩:=h.hi;have f:Gr W (W.alloc o).drew:=((gR _).alloc _).drew;have ad:=h.gps.gr f;have E:=h.own;have r:∀b,(Value.slice g.p g.l.length g.c).ownBlock=some b->w.heap.size<b:=fun b e=>(World.ownsRow.lt E b e).1;have m:jb2 w R:=(h.bel.trans (f.below.mono h.bel.size)).grown F (nT h.bel.size f.size) (fun j ej=>Nat.le_of_lt (r j ej));have ak:=ad.item hi (g':=⟨g.n,C,cc,g.l++[x]⟩) (by rw[d]) ho (by rw[d];exact F) (by rw[d];exact u) (G:=G) rfl;refine ⟨h.z _ rfl rfl,ak,fun y hy=> ?_,h.plc.set hi (by rw[d]),?_,m.setCell (Nat.le_of_lt ah) _,by rw[List.length_set];exact h.len,?_⟩
 ·rcases List.mem_or_eq_of_mem_set hy with k1|k1
  ·have:=h.sub y k1;exact ⟨by omega,this.2⟩
  ·subst k1;have:=h.sub g (by rw[<-d];exact gM hi);refine ⟨by simp;omega,fun z hz=> ?_⟩;rcases List.mem_append.1 hz with e|e
   ·exact this.2 z e
   ·rw[List.mem_singleton.1 e];exact h.xin
 ·have m1:=(h.map.alloc o).drew;have m2:=m1.kept F (fun e=>by have:=r _ e.symm;omega);exact m2.kept (jG _ _ _) (fun e=>by simp at e;omega)
 ·have h1:=h.size;have h2:=f.size;have h3:=F.size;simp[World.setCell];omega

theorem iY (l:List Itm) (A:Option X) (cap:Nat) (c:Int) (w:J) (hl:l.length<=400) (hr:Items w A l) (hc:∀x∈l,inB c 0 ((x.r.length:Int)-1)=true) (dG:∀x∈l,okR x.r=true) :
  N O 214 #[I A l.length cap,.int V c] w fun e w'=>∃(gs:List Grp) (v:Y) (D:DataW Unit),e= .returned (.tuple #[v,.map (some w.heap.size)])/\GInv w w' l c l.length v gs D:=by
 have d1:=ja1 hr;have dk:=ja1 hc;have dx:=ja1 dG;have es:= @run_makeMap O;go_enter Tryz.func214,Tryz.ntmps214;go_wp2;go_loopw [6,16] (fun u i wr=>∃(k:Nat) (gs:List Grp) (D:DataW Unit),k<=l.length/\i= .int V k/\H (GInv w wr l c k u gs D)) (fun _ i _=>l.length-(intOf i).toNat);exact ⟨0,[],.map [],nZ _,rfl,show GInv _ _ _ _ _ _ _ _ from ⟨rfl,Gps.nil _ _,fun g hg=>(by cases hg),Plc.nil,World.ownsMap_made _ _ _ _,(bR _ _).alloc (nR _) _,nR _,by simp⟩⟩;obtain ⟨k,gs,D,hk,rfl,F⟩:=hrel;by_cases b0:k<l.length
 ·have c0:(k:Int)<(l.length:Int):=by omega
  have hI:=ja1 (d1.out.below F.out.bel);obtain ⟨bb,ez,rfl,hb,dp⟩:=hI.out.at b0;obtain ⟨x,hx⟩:=jb0 (l[k]);obtain ⟨e0,e1⟩:=dp k b0;rw[hx] at e0 e1;have b4:x∈l:=by rw[<-hx];exact gM b0
  obtain ⟨rb,ro,cn,hp,d2,dl,bv,ba⟩:=dA (hI.out.each x b4).1 (dk.out x b4);have cj:H (fW ((l.take (k+1)).map Itm.z) c=eN (fW ((l.take k).map Itm.z) c) (atI x.r c) x.z):=by show _=_;rw[tg b0,hx]
  have c6:=ja1 b4;obtain ⟨nn,c1⟩:=jb0 (atI x.r c);have a5:keyOf O 3 (.int V nn)=some (.int V nn):=keyOf_int_mk Tryz.underlying3 (by rw[<-c1];exact wfN (mi (dx.out x b4)));rw[c1] at ba cj;rw[hp] at e0;have ak:H (Gr wr (wr.alloc (Z #[I (some ⟨rb,ro,none⟩) x.r.length x.c,.int V x.n] 101))):=(gR _).alloc _;have y0:jb1 (wr.alloc (Z #[I (some ⟨rb,ro,none⟩) x.r.length x.c,.int V x.n] 101)) rb (ro+cn) (.int V nn):=(ak.out.cell (p:=⟨rb,ro+cn,none⟩) d2).trans ba;have d0:=ja1 hp;obtain rfl:=dl;have bh:H ((wr.alloc (Z #[I (some ⟨rb,ro,none⟩) x.r.length x.c,.int V x.n] 101)).ownsMap O 3 (plainElem O 3) w.heap.size k D):=F.out.map.alloc _;cases a4:Maps.has D (.int V nn);case' false =>
   have be:=ja1 (F.out.plc.more a4);obtain ⟨GA,a2,hu,eb,ec,ea⟩:=F.out.gps.own.row dV;have em:(gs.length:Int)<=400:=by have:=F.out.len;omega
   have c3:=ja1 hu;have c2:H (∀W,jb2 wr W->Gps W (w.heap.size+1) (I GA gs.length a2) gs):=fun W hW=>by rw[<-c3.out];exact F.out.gps.below hW
   subst hu;have b1:H (some wr.heap.size≠some w.heap.size):=fun e=>by have:=F.out.size;simp at e;omega
   have d6:(Lit.int V gs.length).wf=true:=WalkArith.wf_i64 ⟨by omega,by omega⟩
   go_wp2_with (first
    | (at_lookup;refine wpList_lookup_own_ok_int _ rfl _ _ 242 rfl 3 3 V vR Tryz.underlying242 Tryz.underlying3 (sF _) w.heap.size k _ rfl bh.out _ _ rfl a5 ?_;intro c' c9 c4)
    | (at_mapUpdate;refine wpList_mapUpdate_own _ rfl _ _ _ 242 rfl 3 3 vR Tryz.underlying242 _ w.heap.size k _ rfl bh.out (by unfold maxLen;omega) _ _ _ rfl rfl a5 _ [] (plainElem_int Tryz.underlying3 d6) ?_;intro w1 bo f;have a8:H (Gps (w1.alloc (Z #[.int V nn,I none 0 0] 246)) (w.heap.size+1) (I GA gs.length a2) gs):=((c2.out _ ak.out.below).kept f (Nat.lt_succ_self _)).gr ((gR _).alloc _);have ck:H ((w1.alloc (Z #[.int V nn,I none 0 0] 246)).ownsMap O 3 (plainElem O 3) w.heap.size (k+1) (D.put (.int V nn) (.lit (.int V gs.length)))):=bo.alloc _;have R:H (jb2 w w1/\w.heap.size+1<=w1.heap.size/\wr.heap.size<w1.heap.size):=⟨Below.kept (F.out.bel.trans (ak.out.below.mono F.out.bel.size)) f (nR _) (nT F.out.bel.size ak.out.size),nT F.out.size (nT ak.out.size f.size),nL (by simp) f.size⟩;have cd:H (jb1 w1 wr.heap.size 0 (I (some ⟨rb,ro,none⟩) x.r.length x.c)/\jb1 w1 wr.heap.size 1 (.int V x.n)):=⟨(World.cell?_of_block (a:=⟨wr.heap.size,0,none⟩) (f.block _ (by simp) (b1.out))).trans (ab (gR _) rfl),(World.cell?_of_block (a:=⟨wr.heap.size,1,none⟩) (f.block _ (by simp) (b1.out))).trans (ab (gR _) rfl)⟩;have cm:H (w1.heap[wr.heap.size]? = some (Z #[I (some ⟨rb,ro,none⟩) x.r.length x.c,.int V x.n] 101)):=(f.block _ (by simp) b1.out).trans (MapKept.heap_alloc _ _).1;clear bo f)
    | (at_builtin;refine kF _ rfl (.tmp 38) (.tmp 41) rfl (w.heap.size+1) (I GA gs.length a2) gs [⟨nn,none,0,[]⟩] (some ⟨w1.heap.size,0,none⟩) 1 rfl rfl a8.out.own (yT rfl nn _) (fun h=>by cases h) (by unfold maxLen;simp;omega) (by simp;omega) (nT R.out.2.1 (by simp)) ?_;intro v2 w2 ap ao)
    | fail)
   obtain ⟨c7,gc,d3,_,b2,_,bt,_⟩:=ap.full dV;obtain ⟨G,b7,b8,_,_⟩:=b2.at (m:=0) (by simp);subst b8;have cf:b7=0:=(bt _ rfl).2.2.1;subst cf;subst d3;have a6:some wr.heap.size≠(Value.slice GA gs.length a2).ownBlock:=fun e=>by have:=(World.ownsRow.lt F.out.gps.own wr.heap.size e.symm).2;omega
   have bp:jb1 w2 wr.heap.size 0 (I (some ⟨rb,ro,none⟩) x.r.length x.c):=(World.cell?_of_block (a:=⟨wr.heap.size,0,none⟩) (ao.block _ (nL R.out.2.2 (by simp)) a6)).trans ((((gR _).alloc _).below.cell (p:=⟨wr.heap.size,0,none⟩) R.out.2.2).trans cd.out.1);have bs:jb1 w2 wr.heap.size 1 (.int V x.n):=(World.cell?_of_block (a:=⟨wr.heap.size,1,none⟩) (ao.block _ (nL R.out.2.2 (by simp)) a6)).trans ((((gR _).alloc _).below.cell (p:=⟨wr.heap.size,1,none⟩) R.out.2.2).trans cd.out.2);obtain ⟨g,aL⟩:∃g:Grp,g=⟨nn,none,0,[]⟩:=⟨_,rfl⟩;obtain ⟨D2,a7⟩:=jb0 (D.put (.int V nn) (.lit (.int V gs.length)));have d:H (MidG w w2 l cn k G gc (gs++[⟨nn,none,0,[]⟩]) gs.length g D2 x wr.heap.size):=by
    refine ⟨a8.out.more ap ao,by rw[aL];simp,fun g' hn bc=> ?_,fun y hy=> ?_,c6.out,by rw[<-a7];exact be.out,?_,?_,by have:=F.out.len;simp;omega,?_,(fun b hb=>(by rw[aL] at hb;cases hb)),?_⟩
    ·rw[cj.out,<-F.out.z,qk]
     ·rw[aL] at hn bc;rw[List.set_append_right _ _ (Nat.le_refl _)];simp[Grp.z,hn,bc]
     ·intro y hy;obtain ⟨g2,cv,rfl⟩:=List.mem_map.1 hy;intro e;have h1:=F.out.plc.has nn;rw[a4] at h1;have:=List.any_eq_false.1 h1.symm g2 cv;simp at this;exact this e
    ·rcases List.mem_append.1 hy with e|e
     ·exact F.out.sub y e
     ·rw[List.mem_singleton.1 e];exact ⟨nZ _,fun z hz=>by cases hz⟩
    ·rw[<-a7];exact ck.out.kept ao (fun e=>by have:=(World.ownsRow.lt a8.out.own _ e.symm).1;omega)
    ·exact (R.out.1.alloc R.out.1.size _).grown ao (nT R.out.1.size (by simp)) (fun j ej=>by have:=(World.ownsRow.lt a8.out.own _ ej).1;omega)
    ·exact nT R.out.2.1 (nT (by simp) ao.size)
    ·exact nL R.out.2.2 (nT (by simp) ao.size)
   have a9:H (G≠wr.heap.size):=fun e=>by
    have h1:=ap;rcases h1.2 with ⟨hv,_⟩|⟨g2,cap2,cur2,hv,_,hgc,_⟩
    ·cases hv
    ·have e2:G=g2:=(by have h3:=hv;simp at h3;exact h3.1);subst e2;subst e;have h2:=((ao.block _ (nL R.out.2.2 (by simp)) a6).trans (Below.heap_alloc _ _ _ R.out.2.2)).trans cm.out;rw[hgc] at h2;simp at h2
   obtain ⟨an,a3⟩:=jb0 (gs++[(⟨nn,none,0,[]⟩:Grp)]);rw[a3] at d ⊢;obtain ⟨i,a0⟩:=jb0 gs.length;obtain ⟨xb,b3⟩:=jb0 wr.heap.size;rw[a0] at d ⊢;rw[b3] at d bp bs a9 ⊢;clear ap ao b2 bt a6 aL a7 a3 a8 ck R cd cm bh be a4 c9 c4 a5 y0 e0 e1 a0 b3 c3 c2 b1 ak hI
  case' true =>
   obtain ⟨i,a0,cz,cr⟩:=F.out.plc.find a4;have cs:=ja1 cr;obtain ⟨c7,gc,hu,_,b2,_,bt,_⟩:=F.out.gps.own.full dV;obtain ⟨G,b7,b8,_,_⟩:=b2.at a0;subst b8;have cf:b7=0:=(bt _ rfl).2.2.1;subst cf;subst hu;obtain ⟨g,aL⟩:∃g:Grp,gs[i]=g:=⟨_,rfl⟩;have bp:jb1 (wr.alloc (Z #[I (some ⟨rb,ro,none⟩) x.r.length x.c,.int V x.n] 101)) wr.heap.size 0 (I (some ⟨rb,ro,none⟩) x.r.length x.c):=ab (gR _) rfl;have bs:jb1 (wr.alloc (Z #[I (some ⟨rb,ro,none⟩) x.r.length x.c,.int V x.n] 101)) wr.heap.size 1 (.int V x.n):=ab (gR _) rfl;have a9:H (G≠wr.heap.size):=fun e=>by have:=(World.ownsRow.lt F.out.gps.own G rfl).2;omega
   have d:H (MidG w (wr.alloc (Z #[I (some ⟨rb,ro,none⟩) x.r.length x.c,.int V x.n] 101)) l cn k G gc gs i g D x wr.heap.size):=by
    refine ⟨F.out.gps.gr ak.out,by rw[List.getElem?_eq_getElem a0,aL],fun g' hn bc=> ?_,F.out.sub,c6.out,F.out.plc,bh.out.mono (Nat.le_succ _),F.out.bel.trans (ak.out.below.mono F.out.bel.size),by have:=F.out.len;omega,nT F.out.size ak.out.size,fun b hb=> ?_,by simp⟩
    ·have ds:i<(gs.map Grp.z).length:=(by simpa using a0);rw[cj.out,<-F.out.z,sr ds (by simpa[Grp.z] using cz) (List.pairwise_map.2 F.out.plc.uniq)];rw[List.map_set];congr 1;simp only[List.getElem_map];rw[<-aL] at hn bc;simp[Grp.z,hn,bc,cz]
    ·have:=(World.ownsRow.lt (F.out.gps.each g (by rw[<-aL];exact gM a0)) b hb).2;omega
   have ey:=ja1 ak
   go_wp2_with (first
    | (at_lookup;refine wpList_lookup_own_ok_int _ rfl _ _ 242 rfl 3 3 V vR Tryz.underlying242 Tryz.underlying3 (sF _) w.heap.size k _ rfl bh.out _ _ rfl a5 ?_;intro c' b6 c4;(obtain rfl:c'=(i:Int):=by (rw[cs.out] at b6;cases b6;rfl)))
    | fail)
   obtain ⟨xb,b3⟩:=jb0 wr.heap.size;obtain ⟨w2,d5⟩:=jb0 (wr.alloc (Z #[I (some ⟨rb,ro,none⟩) x.r.length x.c,.int V x.n] 101));rw[d5] at d bp bs ⊢;rw[b3] at d bp bs a9 ⊢;obtain ⟨an,a3⟩:=jb0 gs;rw[a3] at d ⊢;obtain ⟨D2,a7⟩:=jb0 D;rw[a7] at d
  all_goals
   have bv:=d.out.cell;have e6:jb1 w2 G (i*2+1) (I g.p g.l.length g.c):=bv.1;have b5:=ja1 bv.2;obtain ⟨dv,d7⟩:=d.out.hi;have en:(i:Int)<(an.length:Int):=by omega
   have ce:H (g.l.length<=k):=(d.out.sub g (by obtain ⟨a,b⟩:=d.out.hi;rw[<-b];exact gM a)).1;have ah:H (Gr w2 (w2.alloc (Z #[I (some ⟨rb,ro,none⟩) x.r.length x.c,.int V x.n] 101)).drew):=((gR _).alloc _).drew;have E:H (∀W',Gr w2 W'->(fun w'=>jb1 w' G (i*2+1) (I g.p g.l.length g.c)/\jb1 w' xb 0 (I (some ⟨rb,ro,none⟩) x.r.length x.c)/\jb1 w' xb 1 (.int V x.n)) W'):=fun W' h=>⟨(h.below.cell (p:=⟨G,i*2+1,none⟩) b5.out.1).trans e6,(h.below.cell (p:=⟨xb,0,none⟩) d.out.xlt).trans bp,(h.below.cell (p:=⟨xb,1,none⟩) d.out.xlt).trans bs⟩;have bG:H (Gr w2 w2.drew):=(gR _).drew;have bl:H (ae aE 2 101 (w2.alloc (Z #[I (some ⟨rb,ro,none⟩) x.r.length x.c,.int V x.n] 101)).drew (w.heap.size+1) (I g.p g.l.length g.c) g.l/\aC aE 2 (w2.alloc (Z #[I (some ⟨rb,ro,none⟩) x.r.length x.c,.int V x.n] 101)).drew (some ⟨w2.heap.size,0,none⟩) [x]/\g.l.length+1<=maxLen/\(g.l.length+1)*32<=140737488355328/\w.heap.size+1<=(w2.alloc (Z #[I (some ⟨rb,ro,none⟩) x.r.length x.c,.int V x.n] 101)).drew.heap.size):=by have h1:=ce.out;refine ⟨d.out.own.gr ah.out,?_,by unfold maxLen;omega,by omega,nT d.out.size ah.out.size⟩;rw[<-d0.out];exact (bV rfl x _).gr (gR _).drew
   have dg:H (some G≠(Value.slice g.p g.l.length g.c).ownBlock):=fun e=>by
    rcases jR d.out.own d.out.gps.own (by decide) with k1|k1
    ·rw[k1] at e;cases e
    ·exact k1 (by rw[<-e];rfl)
   have c5:H ((⟨G,i*2+1,none⟩:X)≠⟨xb,0,none⟩/\(⟨G,i*2+1,none⟩:X)≠⟨xb,1,none⟩):=⟨fun e=>a9.out (by injection e),fun e=>a9.out (by injection e)⟩;have cl:H (∀w3,(w2.alloc (Z #[I (some ⟨rb,ro,none⟩) x.r.length x.c,.int V x.n] 101)).drew.grownBy w3 (Value.slice g.p g.l.length g.c).ownBlock->(fun w'=>jb1 w' G (i*2+1) (I g.p g.l.length g.c)/\jb1 w' xb 0 (I (some ⟨rb,ro,none⟩) x.r.length x.c)/\jb1 w' xb 1 (.int V x.n)) w3):=fun w3 ad=>by have hk:=E.out _ ah.out;have cu:some xb≠(Value.slice g.p g.l.length g.c).ownBlock:=fun e=>d.out.blk xb e.symm rfl;have l1:xb<(w2.alloc (Z #[I (some ⟨rb,ro,none⟩) x.r.length x.c,.int V x.n] 101)).drew.heap.size:=nL d.out.xlt ah.out.size;have l2:G<(w2.alloc (Z #[I (some ⟨rb,ro,none⟩) x.r.length x.c,.int V x.n] 101)).drew.heap.size:=nL b5.out.1 ah.out.size;exact ⟨(World.cell?_of_block (a:=⟨G,i*2+1,none⟩) (ad.block _ l2 dg.out)).trans hk.1,(World.cell?_of_block (a:=⟨xb,0,none⟩) (ad.block _ l1 cu)).trans hk.2.1,(World.cell?_of_block (a:=⟨xb,1,none⟩) (ad.block _ l1 cu)).trans hk.2.2⟩
   have c8:H (∀w3,(w2.alloc (Z #[I (some ⟨rb,ro,none⟩) x.r.length x.c,.int V x.n] 101)).drew.grownBy w3 (Value.slice g.p g.l.length g.c).ownBlock->w3.frozen? ⟨G,i*2+1,none⟩=false):=(fun w3 ad=>by have k1:=(d.out.gps.own.gr ah.out).keep ad (jR d.out.gps.own d.out.own (by decide));obtain ⟨A2,cp,hv,_,_,_,_,hz⟩:=k1.full dV;simp only[Value.slice.injEq] at hv;exact hz _ hv.1.symm _);have d8:jb1 w2.drew G (i*2+1) (I g.p g.l.length g.c):=(E.out _ bG.out).1;have d9:jb1 (w2.alloc (Z #[I (some ⟨rb,ro,none⟩) x.r.length x.c,.int V x.n] 101)).drew G (i*2+1) (I g.p g.l.length g.c):=(E.out _ ah.out).1;clear bv d7 dv;refine wp_region_noPanic ?_;refine wp_region_held_drew (S:=(fun w'=>jb1 w' xb 0 (I (some ⟨rb,ro,none⟩) x.r.length x.c)/\jb1 w' xb 1 (.int V x.n))) (by kernel_rfl) ((E.out _ bG.out).2) (fun hHeld=> ?_);show wpAnyH _ _ _ _ _ 13 _ _ _
   repeat' first
    | with_reducible exact AllReadyH.nil
    | (
     (with_reducible refine isW ?_);refine wpAnyH_done (by decide +kernel) ?_ _
     refine NoPanic.normal ?_
     go_wp2
     go_roundw
     case rel=>exact ⟨k+1,an.set i ⟨g.n,C,cc,g.l++[x]⟩,D2,by omega,by go_num,bC⟩
     case measure=>simp[intOf];omega)
    | (
     (with_reducible refine isW ?_);first
      | refine tkk 0 [1,2,3,4,5,7] (by assumption) (v:= ?_) (by simp only[zA,z0',zS];rfl) (by decide +kernel) ?_ ?_
      | refine tkk 10 [11] (by assumption) (v:= ?_) (by simp only[zA,z0',zS];rfl) (by decide +kernel) ?_ ?_
     rotate_left
     ·(refine oL ⟨by rfl,?_⟩;intro w b9;(try dsimp only at b9);go_simp<;>with_reducible rfl)
     try simp only[Act.put,yA,kh,yS]
     repeat (refine tk (v:= ?_) (by simp only[zA,z0',zS];rfl) (by kernel_rfl) ?_ ?_;rotate_left;· (refine oL ⟨by rfl,?_⟩;intro w b9;(try dsimp only at b9);go_simp<;>with_reducible rfl);try simp only[Act.put,yA,kh,yS])
     refine tk0 ?_)
    | ((with_reducible refine isW ?_);first
      | refine wpAnyH_ready (rs:=[6,8]) (by decide +kernel) (by simp) ?_
      | refine wpAnyH_ready (rs:=[8]) (by decide +kernel) (by simp) ?_
      | refine wpAnyH_ready (rs:=[9]) (by decide +kernel) (by simp) ?_
      | refine wpAnyH_ready (rs:=[12]) (by decide +kernel) (by simp) ?_
      | refine wpAnyH_ready (rs:=[6]) (by decide +kernel) (by simp) ?_)
    | (
     (with_reducible refine isR ?_);refine rdc (i:=9) (by simp only[zA,z0',zS];rfl) ?_ fun K hK=> ?_
     rotate_left
     (refine fY _ rfl (.tmp 49) (.tmp 51) rfl (w.heap.size+1) (I g.p g.l.length g.c) g.l x ⟨w2.heap.size,0,none⟩ 1 rfl rfl bl.out.1 bl.out.2.1 bl.out.2.2.1 bl.out.2.2.2.1 bl.out.2.2.2.2 ?_;intro v3 w3 a1 ad bd;have bN:H (jb1 w3 xb 0 (I (some ⟨rb,ro,none⟩) x.r.length x.c)/\jb1 w3 xb 1 (.int V x.n)):=((cl.out w3 ad).2);have ek:w3.frozen? ⟨G,i*2+1,none⟩=false:=c8.out w3 ad;have eg:jb1 w3 G (i*2+1) (I g.p g.l.length g.c):=(cl.out w3 ad).1;obtain ⟨C,cc,d4,_,_,_⟩:=a1.row bO;subst d4;have bC:H (GInv w (w3.jb3 G (i*2+1) (I C (g.l.length+1) cc)) l cn (k+1) (I (some ⟨G,0,none⟩) an.length gc) (an.set i ⟨g.n,C,cc,g.l++[x]⟩) D2):=(by have h:=d.out.done a1 ad bd;rw[List.length_append] at h;exact h);have cG:H (∀u,jb1 (w3.jb3 G (i*2+1) u) xb 0 (I (some ⟨rb,ro,none⟩) x.r.length x.c)/\jb1 (w3.jb3 G (i*2+1) u) xb 1 (.int V x.n)):=(fun u=>⟨(World.cell?_setCell_other _ _ _ _ c5.out.1).trans bN.out.1,(World.cell?_setCell_other _ _ _ _ c5.out.2).trans bN.out.2⟩);clear a1 ad bd)
     refine hK.out _ _ ?_ (fun hHeld=> ?_)
     ·(try dsimp only);first|with_reducible exact (E.out _ bG.out).2|with_reducible exact (E.out _ ah.out).2|with_reducible exact bN.out|exact cG.out _|exact (E.out _ ah.out).2
     clear hK K
     try simp only[Act.put,yA,kh,yS])
    | ((with_reducible refine isR ?_);refine rdc (by simp only[zA,z0',zS];rfl) ?_ fun K hK=> ?_)
    | (
     go_simp
     refine hK.out _ _ ?_ (fun hHeld=> ?_)
     ·(try dsimp only);first|with_reducible exact (E.out _ bG.out).2|with_reducible exact (E.out _ ah.out).2|with_reducible exact bN.out|exact cG.out _|exact (E.out _ ah.out).2
     clear hK K
     try simp only[Act.put,yA,kh,yS])
 ·have c0:¬(k:Int)<(l.length:Int):=by omega
  have dy:k=l.length:=by omega
  subst dy;go_wp2;go_ret2;exact ⟨gs,u6,rfl,D,F.out⟩
end
end Go.Proofs.YtbkjgjjpnfhkhaaGreatDoor
