import Derived.Test.YtbkjgjjpnfhkhaaGreatDoorM03
set_option maxRecDepth 100000
set_option maxHeartbeats 8000000
open Go renaming World → J, Calls → Y, Addr → U, Value → K
open Go.Ending renaming returned → Z
open Go.IntKind renaming i64 → I
open Go.Obj renaming cells → X
open Go.Proofs.Tryz renaming prog → O
open Go.RowKit renaming Hid → H, Below → N
open Go.Value renaming int → V, slice → S, tuple → L, agg → P, bool → ia, pointer → ib
namespace Go.Proofs.YtbkjgjjpnfhkhaaGreatDoor
open Go.RowKit Go.Sort

def ar:Ctx:=⟨0,0,0,0,[]⟩
def cJ (l:List (Int×Int)):Int:=if 400<l.length then 2 else if oX l=true then 5 else 0
def eh (c:Ctx) (l:List (Int×Int)):Ctx:=aA c (srt l) (srt l).length
def aM (l:List (Int×Int)):Ctx:=if cJ l=0 then eh ar l else ar

theorem jx {l:List (Int×Int)} {x:Int×Int} (h:x∈srt l):x∈l:=by unfold srt at h;exact (List.mergeSort_perm l _).mem_iff.1 h

theorem pU (l:List (Int×Int)) (A:Option U) (cap:Nat) (w:J) (hl:l.length<=maxLen) (hA:A=none->cap=0) (hr:Row w A l) :
  Y O 82 #[S A l.length cap] w fun e w'=>∃C cp,e= Z (L #[P (ja7 (aM l) C cp),V I (cJ l)])/\Row w' C (aM l).l/\(C=none->cp=0)/\(∀a,C=some a->w.heap.size<=a.block)/\jb2 w w':=by
 unfold maxLen at hl;have m:=gR (w.alloc (X #[V I 0,V I 0,V I 0,V I 0,S none 0 0] 32));have r0:=ab m (j:=0) rfl;have r1:=ab m (j:=1) rfl;have r2:=ab m (j:=2) rfl;have r3:=ab m (j:=3) rfl;have r4:=ab m (j:=4) rfl;have rf:=fun j=>ee m j;by_cases n:400<l.length
 ·have an:(400:Int)<(l.length:Int):=by omega
  have d:H (cJ l=2/\aM l=ar):=by have:cJ l=2:=(by simp[cJ,n]);exact ⟨this,by simp[aM,this]⟩
  go_enter Tryz.func82,Tryz.ntmps82;go_wp2;rw[d.out.1,d.out.2];exact bodyPost_ret (v:= L #[P #[V I 0,V I 0,V I 0,V I 0,S none 0 0],V I 2]) (by simp[results,Tryz.results82,go_sem]) rfl ⟨none,0,rfl,oL rfl,fun _=>rfl,(fun a ha=>by cases ha),(bR _ _).alloc (nR _) _⟩
 ·have an:¬(400:Int)<(l.length:Int):=by omega
  go_enter Tryz.func82,Tryz.ntmps82;go_wp2;go_loopw [12] (fun i wr=>∃k:Nat,k<=l.length/\i= V I k/\H (∀j (h:j<l.length),j<k->ai l[j]=true)/\Gr (w.alloc (X #[V I 0,V I 0,V I 0,V I 0,S none 0 0] 32)) wr) (fun i _=>l.length-(intOf i).toNat);exact ⟨0,nZ _,rfl,fun j _ hj=>absurd hj (Nat.not_lt_zero _),gR _⟩;obtain ⟨k,hk,rfl,a6,c⟩:=hrel;have r0:=ab c (j:=0) rfl;have r1:=ab c (j:=1) rfl;have r2:=ab c (j:=2) rfl;have r3:=ab c (j:=3) rfl;have r4:=ab c (j:=4) rfl;have rf:=fun j=>ee c j;by_cases ad:k<l.length
  ·have a5:(k:Int)<(l.length:Int):=(by omega);obtain ⟨b,be,rfl,hb,a4⟩:=(hr.gr (br c)).at ad;obtain ⟨x,y,hx⟩:∃x y,l[k]=(x,y):=⟨_,_,rfl⟩;have e0:=(a4 k ad).1;have e1:=(a4 k ad).2;rw[hx] at e0 e1;have a7:H (l[k]=(x,y)):=hx;cases hq:ai (x,y)
   ·have d:H (cJ l=5/\aM l=ar):=(by have:cJ l=5:=(by simp[cJ,n,xV ad a7.out hq]);exact ⟨this,by simp[aM,this]⟩);go_wp2_with (go_at_call 104;refine (ie hq _).mono ?_;rintro e w1 ⟨rfl,ao⟩;have g:=(c.alloc (X #[V I x,V I y] 89)).trans ao;have q0:=ab g (j:=0) rfl;have q1:=ab g (j:=1) rfl;have q2:=ab g (j:=2) rfl;have q3:=ab g (j:=3) rfl;have q4:=ab g (j:=4) rfl;have qf:=fun j=>ee g j);rw[d.out.1,d.out.2];exact bodyPost_ret (v:= L #[P #[V I 0,V I 0,V I 0,V I 0,S none 0 0],V I 5]) (by simp[results,Tryz.results82,go_sem,q0,q1,q2,q3,q4]) rfl ⟨none,0,rfl,oL rfl,fun _=>rfl,(fun a ha=>by cases ha),((((((br g).below.setCell (by simp) _).setCell (by simp) _).setCell (by simp) _).setCell (by simp) _).setCell (by simp) _)⟩
   ·go_wp2_with (go_at_call 104;refine (ie hq _).mono ?_;rintro e w1 ⟨rfl,ao⟩);go_roundw;case rel =>
     refine ⟨k+1,by omega,by go_num,?_,(c.alloc _).trans ao⟩;intro j hj bc;by_cases e:j=k
     ·subst e;rw[a7.out];exact hq
     ·exact a6 j hj (by omega)
    case measure=>simp[intOf];omega
  ·have a5:¬(k:Int)<(l.length:Int):=(by omega);have ah:oX l=false:=oY fun j hj=>a6 j hj (by omega);have d:H (cJ l=0/\aM l=eh ar l):=by have:cJ l=0:=(by simp[cJ,n,ah]);exact ⟨this,by simp[aM,this]⟩
   have a3:H (∀x∈srt l,ai x=true):=fun x hx=>uH ah x (jx hx);have ak:=mn l [] A none cap 0 wr (hr.gr (br c)) (oL rfl) hA (fun _=>rfl) (by omega) (by simp);simp only[List.length_nil,List.append_nil] at ak;have ap:H _:=ak;go_wp2_with fail;refine ja0 ap ?_;rintro e w1 ⟨C1,a0,rfl,aL,E⟩;have u:=pF ar (srt l) C1 a0 w1 rfl (by decide) (by rw[fA];omega) a3.out aL;change Y O 90 #[P #[V I 0,V I 0,V I 0,V I 0],S C1 (srt l).length a0] w1 _ at u;have R:H _:=u;go_wp2_with fail;refine ja0 R ?_;rintro e w2 ⟨C2,a1,rfl,D,a8,a2,a9⟩;obtain ⟨F,hF⟩:=jb0 (aA ar (srt l) (srt l).length);rw[hF] at D ⊢;have HF:H (eh ar l=F):=hF;have bb:=c.size;simp only[World.size_alloc] at bb;have f:N (w.heap.size+1) wr w2:=(E.mono (by omega)).trans (a9.mono (by have:=E.size;omega));have s0:=(f.cell (p:=(jb5 w.heap.size 0)) (by simp)).trans (ab c (j:=0) rfl);have s1:=(f.cell (p:=(jb5 w.heap.size 1)) (by simp)).trans (ab c (j:=1) rfl);have s2:=(f.cell (p:=(jb5 w.heap.size 2)) (by simp)).trans (ab c (j:=2) rfl);have s3:=(f.cell (p:=(jb5 w.heap.size 3)) (by simp)).trans (ab c (j:=3) rfl);have s4:=(f.cell (p:=(jb5 w.heap.size 4)) (by simp)).trans (ab c (j:=4) rfl);have sf:∀j,w2.frozen? (jb5 w.heap.size j)=false:=fun j=>(f.frozen (p:=(jb5 w.heap.size j)) (by simp)).trans (ee c j);have ba:H (jb2 w w2):=(br c).below.trans (f.mono (by omega));have r:∀a,C2=some a->a.block≠w.heap.size:=fun a ha=>by have:=a2 a ha;have:=E.size;omega
   have bd:w.heap.size<=w1.heap.size:=(by have:=E.size;omega);go_wp2;rw[d.out.1,d.out.2,HF.out];refine bodyPost_ret (v:= L #[P (ja7 F C2 a1),V I 0]) (by simp[results,Tryz.results82,go_sem,s0,s1,s2,s3,s4]) rfl ⟨C2,a1,rfl,?_,a8,fun a ha=>nT (by omega) (a2 a ha),?_⟩
   ·exact ((((D.setCell _ r).setCell _ r).setCell _ r).setCell _ r).setCell _ r
   ·exact ((((ba.out.setCell (nR _) _).setCell (nR _) _).setCell (nR _) _).setCell (nR _) _).setCell (nR _) _

def ag (p:Cel->Bool) (l:List Cel):List (Int×Int):=(l.filter p).map (·.1)

def cB (key col:Int) (x:Cel):Bool:=decide (x.2.1=key) && decide (x.2.2.1=col)
def dQ (key:Int) (x:Cel):Bool:=decide (x.2.1=key)

theorem vq (key col:Int) (p q:Nat) (x:Cel) (w:J) (f:p<w.heap.size) (g:q<w.heap.size) (h:jb1 w p 0 (V I key)) (j:jb1 w q 0 (V I col)) :
  Y O 81 #[P #[V I x.1.1,V I x.1.2,V I x.2.1,V I x.2.2.1,V I x.2.2.2],ib (jb4 p 0),ib (jb4 q 0)] w fun e w'=>e= Z (ia (cB key col x))/\Gr w w':=by
 by_cases d:x.2.1=key
 ·by_cases c:x.2.2.1=col
  ·have e:cB key col x=true:=(by simp[cB,d,c]);rw[e];clear e;go_enter Tryz.func81,Tryz.ntmps81;go_wp2;go_ret;exact ⟨rfl,(gR _).alloc _⟩
  ·have e:cB key col x=false:=(by simp[cB,c]);rw[e];clear e;go_enter Tryz.func81,Tryz.ntmps81;go_wp2;go_ret;exact ⟨by simpa using c,(gR _).alloc _⟩
 ·have e:cB key col x=false:=by simp[cB,d]
  rw[e];clear e;go_enter Tryz.func81,Tryz.ntmps81;go_wp2;go_ret;exact ⟨rfl,(gR _).alloc _⟩

theorem pA (key:Int) (p:Nat) (x:Cel) (w:J) (d:p<w.heap.size) (f:jb1 w p 0 (V I key)) :
  Y O 84 #[P #[V I x.1.1,V I x.1.2,V I x.2.1,V I x.2.2.1,V I x.2.2.2],ib (jb4 p 0)] w fun e w'=>e= Z (ia (dQ key x))/\Gr w w':=by
 by_cases c:x.2.1=key
 ·have e:dQ key x=true:=by simp[dQ,c]
  rw[e];clear e;go_enter Tryz.func84,Tryz.ntmps84;go_wp2;go_ret;exact ⟨by simp[c],(gR _).alloc _⟩
 ·have e:dQ key x=false:=by simp[dQ,c]
  rw[e];clear e;go_enter Tryz.func84,Tryz.ntmps84;go_wp2;go_ret;exact ⟨by simpa using c,(gR _).alloc _⟩

def rS (g:Nat) (lb:Array K) (p:Cel->Bool) (w:J):Prop:=∀W,Gr w W->∀x:Cel,Y O g (#[P #[V I x.1.1,V I x.1.2,V I x.2.1,V I x.2.2.1,V I x.2.2.2]]++lb) W fun e w'=>e= Z (ia (p x))/\Gr W w'

theorem AY (key:Int) (p:Nat) (w:J) (d:p<w.heap.size) (f:jb1 w p 0 (V I key)):rS 84 #[ib (jb4 p 0)] (dQ key) w :=
 fun W c x=>pA key p x W (nL d c.size) ((c.cell (p:=(jb5 p 0)) d).trans f)

theorem lR (p:Cel->Bool) (g:Nat) (lb:Array K) (ah:∀m w,(callFunc g m).run O w= .ok (.enter g m) w) (l:List Cel) (A:Option U) (cap:Nat) (w:J) (hl:l.length<=maxLen) (hr:av w A l) (hp:rS g lb p w) :
  Y O 114 #[S A l.length cap,.func (.func g) #[] lb] w fun e w'=>∃r:Int,e= Z (V I r)/\H (decide (0<=r)=l.any p)/\Gr w w':=by
 unfold maxLen at hl;go_enter Tryz.func114,Tryz.ntmps114;go_wp2;go_loopw [8] (fun i wr=>∃k:Nat,k<=l.length/\i= V I k/\H (∀j (h:j<l.length),j<k->p l[j]=false)/\Gr w wr) (fun i _=>l.length-(intOf i).toNat);exact ⟨0,nZ _,rfl,fun j _ D=>absurd D (Nat.not_lt_zero _),gR _⟩;obtain ⟨k,hk,rfl,F,d⟩:=hrel;by_cases u:k<l.length
 ·have E:(k:Int)<(l.length:Int):=by omega
  obtain ⟨bb,an,rfl,hb,ad⟩:=av.get (hr.gr d) u;obtain ⟨x,hx⟩:=jb0 (l[k]);obtain ⟨e0,e1,e2,e3,e4⟩:=ad k u;rw[hx] at e0 e1 e2 e3 e4;have R:=ja1 hx;have n:=hp wr d x;have f:H _:=n;go_wp2;refine ja0 f ?_;rintro e w2 ⟨rfl,C⟩;cases hq:p x
  ·go_wp2;go_roundw;case rel =>
    refine ⟨k+1,by omega,by go_num,?_,d.trans C⟩;intro j D ak;by_cases e:j=k
    ·subst e;rw[R.out];exact hq
    ·exact F j D (by omega)
   case measure=>simp[intOf];omega
  ·have c:H (decide ((0:Int)<=(k:Int))=l.any p):=(by have:l.any p=true:=(by rw[List.any_eq_true];exact ⟨l[k],gM u,by rw[R.out,hq]⟩);show decide _=_;rw[this];simp);go_wp2;go_ret;exact ⟨_,rfl,c,d.trans C⟩
 ·have E:¬(k:Int)<(l.length:Int):=by omega
  have c:H (decide ((0:Int)<= -1)=l.any p):=by have:l.any p=false:=(by rw[List.any_eq_false];intro x hx;obtain ⟨j,D,rfl⟩:=List.getElem_of_mem hx;rw[F j D (by omega)];simp);show decide _=_;rw[this];simp
  go_wp2;go_ret;exact ⟨_,rfl,c,d⟩

theorem fG (p:Cel->Bool) (g:Nat) (h:Array K) (d:∀c w,(callFunc g c).run O w= .ok (.enter g c) w) (l:List Cel) (A:Option U) (cap:Nat) (w:J) (k:l.length<=maxLen) (n:av w A l) (m:rS g h p w) :
  Y O 85 #[S A l.length cap,.func (.func g) #[] h] w fun e w'=>e= Z (ia (l.any p))/\Gr w w':=by go_enter Tryz.func85,Tryz.ntmps85;go_wp2_with fail;refine (lR p g h d l A cap _ k n m).mono ?_;rintro e w' ⟨r,rfl,f,j⟩;go_wp2;go_ret;exact ⟨by rw[<-f.out];rfl,j⟩

theorem eT {p:Cel->Bool} {l:List Cel} {k:Nat} (h:k<l.length) {x:Cel} (d:l[k]=x):ag p (l.take (k+1))=ag p (l.take k)++(if p x then [x.1] else []):=by unfold ag;rw[List.take_succ_eq_append_getElem h,List.filter_append,List.map_append,d];cases c:p x<;>simp[c]
theorem ci (p:Cel->Bool) (l:List Cel):(ag p l).length<=l.length:=by unfold ag;rw[List.length_map];exact List.length_filter_le _ _

theorem iN (p:Cel->Bool) (g:Nat) (lb:Array K) (b1:∀ad w,(callFunc g ad).run O w= .ok (.enter g ad) w) (l:List Cel) (A:Option U) (cap:Nat) (w:J) (hl:l.length<=400) (hr:av w A l) (hp:∀W,jb2 w W->∀x:Cel,Y O g (#[P #[V I x.1.1,V I x.1.2,V I x.2.1,V I x.2.2.1,V I x.2.2.2]]++lb) W fun e w'=>e= Z (ia (p x))/\Gr W w') :
  Y O 80 #[S A l.length cap,.func (.func g) #[] lb] w fun e w'=>∃C cp,e= Z (L #[P #[V I (aM (ag p l)).c0,V I (aM (ag p l)).c1,V I (aM (ag p l)).c2,V I (aM (ag p l)).c3,S C (aM (ag p l)).l.length cp],V I (cJ (ag p l))])/\Row w' C (aM (ag p l)).l/\(C=none->cp=0)/\(∀a,C=some a->w.heap.size<=a.block)/\jb2 w w':=by
 have bd:ZAt (w.alloc (X #[V I 0,V I 0,V I 0,V I 0,S none 0 0] 32)) w.heap.size:=ZAt.new w 32 rfl;have ak:H (jb2 w (w.alloc (X #[V I 0,V I 0,V I 0,V I 0,S none 0 0] 32))):=((gR w).alloc _).below;have an:(w.alloc (X #[V I 0,V I 0,V I 0,V I 0,S none 0 0] 32)).heap.size=w.heap.size+1:=by simp
 go_enter Tryz.func80,Tryz.ntmps80;go_wp2;generalize w.alloc (X #[V I 0,V I 0,V I 0,V I 0,S none 0 0] 32)=w0 at bd ak an ⊢;have ao:=ja1 an;go_loopw [6,11] (fun v i wr=>∃k:Nat,k<=l.length/\i= V I k/\Own wr (w.heap.size+1) v (ag p (l.take k))/\N (w.heap.size+1) w0 wr) (fun _ i _=>l.length-(intOf i).toNat);exact ⟨0,by omega,rfl,Own.nil _ _,bR _ _⟩;obtain ⟨k,hk,rfl,r,f⟩:=hrel;obtain ⟨A1,ah,rfl,bh,d,bN⟩:=r.row;have b2:w.heap.size+1<=wr.heap.size:=by have:=f.size;have:=ao.out;omega
 have n:jb2 w wr:=ak.out.trans (f.mono (by omega));by_cases aL:k<l.length
 ·have a9:(k:Int)<(l.length:Int):=by omega
  obtain ⟨bb,b3,rfl,hb,bs⟩:=av.get (hr.below n) aL;obtain ⟨x,hx⟩:=jb0 (l[k]);obtain ⟨e0,e1,e2,e3,e4⟩:=bs k aL;rw[hx] at e0 e1 e2 e3 e4;have a2:=eT (p:=p) aL hx;have a7:Gr wr (wr.alloc (X #[V I x.1.1,V I x.1.2,V I x.2.1,V I x.2.2.1,V I x.2.2.2] 91)):=(gR _).alloc _;have bc:=CelAt.new (w:=wr) x 91 rfl;have ap:=hp (wr.alloc (X #[V I x.1.1,V I x.1.2,V I x.2.1,V I x.2.2.1,V I x.2.2.2] 91)) (n.trans (a7.below.mono (by omega))) x;have R:H _:=ap;obtain ⟨M,HM⟩:=jb0 (ag p (l.take k));have bl:M.length<=400:=by rw[<-HM];exact nT (ci _ _) (by rw[List.length_take];omega)
  rw[HM] at r a2 d ⊢;obtain ⟨x0,x1,x2,x3,x4,b4⟩:=(show CelAt _ _ _ from bc);have u:=ja1 r;have m:=ja1 f;go_wp2;refine ja0 R ?_;rintro e w2 ⟨rfl,a6⟩;have c:Gr wr w2:=a7.trans a6;obtain ⟨x0,x1,x2,x3,x4,b0⟩:=(show CelAt _ _ _ from bc.gr a6);cases hq:p x
  ·have E:H (ag p (l.take (k+1))=M):=(by show _=_;rw[a2,hq];simp);go_wp2;go_roundw;exact ⟨k+1,by omega,by go_num,by rw[E.out];exact u.out.gr c,m.out.trans (c.below.mono (by omega))⟩;simp[intOf];omega
  ·have E:H (ag p (l.take (k+1))=M++[x.1]):=(by show _=_;rw[a2,hq];simp);have bp:H ((M.length+[x.1].length)*16<=140737488355328):=by show _<=_;simp only[List.length_cons,List.length_nil];omega
   go_wp2_with (at_builtin;refine al _ rfl _ _ rfl (w.heap.size+1) (S A1 M.length ah) M [x.1] (jb4 w2.heap.size 0) 1 rfl rfl ?ho ?hr (fun h=>by cases h) bp.out ?hs ?_);case ho=>exact u.out.gr (c.alloc _)
   case hr=>exact ed rfl x.1.1 x.1.2 _
   case hs=>have:=(c.alloc (X #[V I x.1.1,V I x.1.2] 89)).size;simp at this ⊢;omega
   intro v1 w3 a0 a8 bG;have bo:H (N (w.heap.size+1) w0 w3):=m.out.trans (((c.alloc _).below.mono (by omega)).trans (Own.grown_below (u.out.gr (c.alloc _)) a8 (by have:=(c.alloc (X #[V I x.1.1,V I x.1.2] 89)).size;simp at this ⊢;omega)));have a1:=ja1 a0;go_wp2;go_roundw;exact ⟨k+1,by omega,by go_num,by rw[E.out];exact a1.out,bo.out⟩;simp[intOf];omega
 ·have a9:¬(k:Int)<(l.length:Int):=by omega
  have bt:l.take k=l:=List.take_of_length_le (by omega);rw[bt] at r d ⊢;obtain ⟨M,HM⟩:=jb0 (ag p l);have bl:M.length<=400:=by rw[<-HM];exact nT (ci _ _) hl
  rw[HM] at r d ⊢;have be:=ja1 HM;have bv:=pU M A1 ah wr (by unfold maxLen;omega) bh d;have ba:H _:=bv;have bC:=(bd.below (f.mono (by have:=ao.out;omega)));go_wp2_with fail;refine ja0 ba ?_;rintro e w2 ⟨C,cp,rfl,D,hC,a3,a4⟩;obtain ⟨z0,z1,z2,z3,z4,zf,b5⟩:=(show ZAt _ _ from bC.below a4);have j:∀a,C=some a->a.block≠w.heap.size:=fun a ha=>by have:=a3 a ha;omega
  have a5:H (jb2 w w2):=n.trans (a4.mono (by omega));obtain ⟨F,hF⟩:=jb0 (aM M);rw[hF] at D ⊢;have HF:=ja1 hF;go_wp2;rw[be.out,HF.out];refine bodyPost_ret (v:= L #[P (ja7 F C cp),V I (cJ M)]) (by simp[results,Tryz.results80,go_sem,z0,z1,z2,z3,z4]) rfl ⟨C,cp,rfl,?_,hC,fun a ha=>nT (by omega) (a3 a ha),?_⟩
  ·exact ((((D.setCell _ j).setCell _ j).setCell _ j).setCell _ j).setCell _ j
  ·exact au a5.out (nR _) _ _ _ _ _

section
open Go.Shelf Go.Lib

def dU (x:Int):List K:=[V I x]
theorem bI (x:Int):(dU x).length=1:=rfl
theorem pv (x:Int):∀u∈dU x,u.oneCell'=true:=by intro u c;simp[dU] at c;rw[c];rfl
abbrev aq (w:J) (A:Option U) (l:List Int):Prop:=aC dU 1 w A l
abbrev dD (w:J) (base:Nat) (v:K) (l:List Int):Prop:=ae dU 1 3 w base v l

theorem et (d:Array Int):∀m,(compactUpTo d m).length<=m
 | 0=>by simp[compactUpTo]
 | m+1=>by have:=et d m;rw[compactUpTo_succ,List.length_append];split<;>simp<;>omega
theorem lw (l:List Int):(compact l).length<=l.length:=et _ _
def aX (l:List Int):List Int:=compact (l.mergeSort fun x y=>decide (x<=y))
theorem di (l:List Int):(aX l).length<=l.length:=by unfold aX;refine nT (lw _) ?_;simp

theorem vF {w:J} {g:Nat} {l:List Int} (h:aq w (jb4 g 0) l) (m:∀j,w.frozen? (jb5 g j)=false):Holds (Value.int I) w g 0 l.toArray:=by
 intro j n;have c:j<l.length:=by simpa using n
 obtain ⟨b,f,d,r,k⟩:=h.at c;obtain ⟨rfl,rfl⟩:g=b/\0=f:=by injection d with d;injection d with h1 h2;exact ⟨h1,h2⟩
 refine ⟨?_,m _⟩;have:=k j c 0 (by omega);have e:l.toArray[j]! = l[j]:=by simp[c]
 rw[e];simpa[dU] using this
theorem yR {w:J} {g:Nat} {l m:List Int} (h:Holds (Value.int I) w g 0 (l++m).toArray) (k:g<w.heap.size):aq w (jb4 g 0) l:=by
 refine oR ⟨g,0,rfl,k,fun j n i hi=> ?_⟩;obtain rfl:i=0:=by omega
 have c:=(h j (by simp;omega)).1;have e:(l++m).toArray[j]! = l[j]:=by
  have d:j<(l++m).length:=by rw[List.length_append];omega
  have f:(l++m).toArray[j]! = (l++m)[j]:=by rw[getElem!_pos (l++m).toArray j (by simpa using d)];rfl
  rw[f,List.getElem_append_left n]
 rw[e] at c;simpa[dU] using c
theorem lh {w:J} {g n c:Nat} {d:Array Int} (f:c<=g):N c w (putRow (Value.int I) (Sort.ahead w n) g 0 d):=by refine ⟨rfl,rfl,rfl,by simp[putRow,mapBlock,Sort.ahead],fun k h=> ?_⟩;show ((Sort.ahead w n).heap.modify g _)[k]? = _;rw[Array.getElem?_modify,if_neg (by omega)];rfl
theorem jY {w:J} {g n:Nat} {d:Array Int}:(putRow (Value.int I) (Sort.ahead w n) g 0 d).heap.size=w.heap.size:=by simp[putRow,mapBlock,Sort.ahead]

theorem zv (g cap:Nat) (l:List Int) (w:J) (m:Holds (Value.int I) w g 0 l.toArray) (r:g<w.heap.size) (j:l.length<4611686018427387904) :
  Y O 137 #[S (jb4 g 0) l.length cap] w fun e w'=>e= Z (L #[])/\Holds (Value.int I) w' g 0 (l.mergeSort fun x y=>decide (x<=y)).toArray/\g<w'.heap.size/\∀c,c<=g->N c w w':=by
 have f:=Any.slices_Sort_int Tryz.sortInt g 0 cap l w m r j;change Y O 137 _ _ _ at f;refine f.mono ?_;rintro e w' ⟨D,n,u,k⟩;have E:g<(putRow (Value.int I) (Sort.ahead w n) g 0 (l.mergeSort fun x y=>decide (x<=y)).toArray).heap.size:=by rw[jY];exact r
 refine ⟨D,?_,?_,fun c C=> ?_⟩
 ·rw[k];exact holds_grow _ _ _ _ _ _ E (holds_putRow _ _ _ _ l.toArray _ (holds_ahead _ _ _ _ _ _ m) (by simp))
 ·rw[k];simp only[grow,Array.size_append];omega
 ·rw[k];refine (lh (n:=n) (d:=(l.mergeSort fun x y=>decide (x<=y)).toArray) C).trans ?_;have h:Gr (putRow (Value.int I) (Sort.ahead w n) g 0 (l.mergeSort fun x y=>decide (x<=y)).toArray) (grow (putRow (Value.int I) (Sort.ahead w n) g 0 (l.mergeSort fun x y=>decide (x<=y)).toArray) u):=⟨0,u,rfl⟩;exact h.below.mono (by rw[jY];omega)

theorem nV (A:Option U) (cap:Nat) (w:J):Y O 137 #[S A 0 cap] w fun e w'=>e= Z (L #[])/\w'=w :=
 Any.slices_Sort_int_none Tryz.sortInt A cap w

theorem uT (g cap:Nat) (l:List Int) (w:J) (j:Holds (Value.int I) w g 0 l.toArray) (C:g<w.heap.size) (h:l.length<=9223372036854775807) (f:l.length<=cap) :
  Y O 157 #[S (jb4 g 0) l.length cap] w fun e w'=>e= Z (S (jb4 g 0) (compact l).length cap)/\aq w' (jb4 g 0) (compact l)/\∀c,c<=g->N c w w':=by have d:=Any.slices_Compact_int Tryz.compactInt g 0 cap l w j h f;change Y O 157 _ _ _ at d;refine d.mono ?_;rintro e w' ⟨u,n,k⟩;refine ⟨u,?_,fun c r=>by rw[k];exact lh r⟩;rw[k];refine yR (m:=List.replicate (l.length-(compact l).length) 0) (holds_putRow _ _ _ _ l.toArray _ (holds_ahead _ _ _ _ _ _ j) ?_) (by rw[jY];exact C);have:=lw l;simp;omega
theorem ot (A:Option U) (cap:Nat) (w:J):Y O 157 #[S A 0 cap] w fun e w'=>e= Z (S A 0 cap)/\w'=w :=
 Any.slices_Compact_int_empty Tryz.compactInt A cap w

theorem iu (l:List Int) (c:Nat) (v:K) (w:J) (j:dD w c v l) (hl:l.length<4611686018427387904) :
  Y O 132 #[v] w fun e w'=>∃C cp,e= Z (S C (aX l).length cp)/\aq w' C (aX l)/\N c w w':=by
 obtain ⟨A,cap,rfl,hA,f,g,ad,F⟩:=ae.full bI j;by_cases h0:l=[]
 ·subst h0;have hz:aX []=[]:=List.eq_nil_of_length_eq_zero (Nat.le_zero.1 (di []));rw[hz];go_enter Tryz.func132,Tryz.ntmps132;go_wp2_with (first|(go_at_call 137;refine (nV _ _ _).mono ?_;rintro e w ⟨rfl,rfl⟩)|(go_at_call 157;refine (ot _ _ _).mono ?_;rintro e w ⟨rfl,rfl⟩));go_ret;exact ⟨A,cap,rfl,oL rfl,bR _ _⟩
 ·have k:0<l.length:=List.length_pos_iff.2 h0;obtain ⟨b,an,n,hb,_⟩:=f.at k;subst n;have m:=ad _ rfl;obtain rfl:an=0:=m.2.2.1;have hH:=vF f (F _ rfl);have hs:=zv b cap l w hH hb hl;have ak:H _:=hs;have h:H (aX l=compact (l.mergeSort fun x y=>decide (x<=y))):=rfl;go_enter Tryz.func132,Tryz.ntmps132;go_wp2_with fail;refine ja0 ak ?_;rintro e w1 ⟨rfl,r,R,u⟩;have d:(l.mergeSort fun x y=>decide (x<=y)).length=l.length:=by simp
  have hc:=uT b cap (l.mergeSort fun x y=>decide (x<=y)) w1 r R (by rw[d];omega) (by rw[d];exact g);rw[d,<-h.out] at hc;have E:H _:=hc;go_wp2_with fail;refine ja0 E ?_;rintro e w2 ⟨rfl,ah,D⟩;go_wp2;go_ret;exact ⟨_,_,rfl,ah,(u c m.1).trans (D c m.1)⟩

def aN (key col:Int) (l:List Cel):List Int:=(l.filter (cB key col)).map (·.2.2.2)
def bJ (l:List Cel):List Int:=l.map (·.2.1)
theorem kA {key col:Int} {l:List Cel} {k:Nat} (h:k<l.length) {x:Cel} (d:l[k]=x):aN key col (l.take (k+1))=aN key col (l.take k)++(if cB key col x then [x.2.2.2] else []):=by unfold aN;rw[List.take_succ_eq_append_getElem h,List.filter_append,List.map_append,d];cases c:cB key col x<;>simp[c]
theorem kn {l:List Cel} {k:Nat} (h:k<l.length) {x:Cel} (c:l[k]=x):bJ (l.take (k+1))=bJ (l.take k)++[x.2.1]:=by unfold bJ;rw[List.take_succ_eq_append_getElem h,List.map_append,c];simp
theorem eO (key col:Int) (l:List Cel):(aN key col l).length<=l.length:=by unfold aN;rw[List.length_map];exact List.length_filter_le _ _
theorem e7 (l:List Cel):(bJ l).length<=l.length:=by unfold bJ;rw[List.length_map];exact nR _

theorem Tryz.infoI:(Tryz.prog.info? 3).map (fun i=>(i.zero,i.size,i.bytes))=some (some (V I 0),1,8):=by kernel_rfl

theorem eQ {W:J} {n:Nat} (d:W.heap.size=n) (x:Int) (T:TypeId):aq (W.alloc (X #[V I x] T)) (jb4 n 0) [x]:=by
 subst d;refine oR ⟨W.heap.size,0,rfl,by simp,fun j c i hi=> ?_⟩;obtain rfl:j=0:=by simp at c;omega
 obtain rfl:i=0:=by omega
 exact ab (w:=W) (gR _) (j:=0) rfl

theorem aH (w:J) {ops:Array Oper} {d:List Oper} {o:Oper} {a:Act} {Q:Exit->Act->J->Prop} (k:o.guard=none) (s x:Operand)
  (F:o.op= .call { callee:= .builtin .append,args:= #[s,x],argTypes:= #[99,99] })
  (c:Nat) (v:K) (l m:List Int) (A:Option U) (cap:Nat) (hs:a.eval s=v) (hx:a.eval x= S A m.length cap) (g:dD w c v l) (R:aq w A m) (C:A=none->cap=0)
  (n:l.length+m.length<=maxLen) (E:(l.length+m.length)*8<=140737488355328) (f:c<=w.heap.size)
  (h:∀j w',dD w' c j (l++m)->w.grownBy w' v.ownBlock->wpList O ops Q d (a.put o.dst j) w'):wpList O ops Q (o::d) a w :=
 wpList_plain k fun _ D=>dL bI pv (by omega) 99 Tryz.underlying99 (V I 0) 8 Tryz.infoI rfl w s x F c v l m A cap hs hx g R C n E f fun j w' r u=>D _ _ (h j w' r u)

theorem rO (t:Tab) (A:Option U) (ca:Nat) (D:Option U) (cd:Nat) (key col:Int) (w:J) (bp:t.e.length*40<=140737488355328) (hr:Row w A t.c.l) (hd:av w D t.e) :
  Y O 103 #[P (T6 t A ca D cd).toArray,V I key,V I col] w fun e w'=>∃C cp,e= Z (S C (aX (aN key col t.e)).length cp)/\aq w' C (aX (aN key col t.e))/\jb2 w w':=by
 have an:TabAt (w.alloc (X #[V I t.c.c0,V I t.c.c1,V I t.c.c2,V I t.c.c3,S A t.c.l.length ca,S D t.e.length cd] 35)) w.heap.size t A ca D cd:=TabAt.new 35 hr hd rfl;have n:jb2 w (w.alloc (X #[V I t.c.c0,V I t.c.c1,V I t.c.c2,V I t.c.c3,S A t.c.l.length ca,S D t.e.length cd] 35)):=((gR w).alloc _).below;have k5:=an.k5;go_enter Tryz.func103,Tryz.ntmps103;go_wp2;generalize w.alloc (X #[V I t.c.c0,V I t.c.c1,V I t.c.c2,V I t.c.c3,S A t.c.l.length ca,S D t.e.length cd] 35)=w0 at an n k5 ⊢;go_loopw [7,13] (fun v i wr=>∃k:Nat,k<=t.e.length/\i= V I k/\dD wr w0.heap.size v (aN key col (t.e.take k))/\jb2 w0 wr) (fun _ i _=>t.e.length-(intOf i).toNat);exact ⟨0,by omega,rfl,ae.nil _ _ _ _ _,bR _ _⟩;obtain ⟨k,hk,rfl,u,m⟩:=hrel;obtain ⟨A1,ao,rfl,bo,j,bl⟩:=ae.row bI u;have bh:=an.below m;have ak:w0.heap.size<=wr.heap.size:=m.size;by_cases R:k<t.e.length
 ·have a2:(k:Int)<(t.e.length:Int):=by omega
  obtain ⟨bb,bs,rfl,hb,a9⟩:=av.get bh.rowC R;obtain ⟨x,hx⟩:=jb0 (t.e[k]);obtain ⟨e0,e1,e2,e3,e4⟩:=a9 k R;rw[hx] at e0 e1 e2 e3 e4;have F:=kA (key:=key) (col:=col) R hx;obtain ⟨M,HM⟩:=jb0 (aN key col (t.e.take k));have ap:M.length<=t.e.length:=by rw[<-HM];exact nT (eO _ _ _) (by rw[List.length_take];omega)
  rw[HM] at u F j ⊢;have r:=ja1 u;have f:=ja1 m;have g:Gr wr (wr.alloc (X #[V I x.1.1,V I x.1.2,V I x.2.1,V I x.2.2.1,V I x.2.2.2] 91)):=(gR _).alloc _;obtain ⟨x0,x1,x2,x3,x4,bt⟩:=(show CelAt _ _ _ from CelAt.new (w:=wr) x 91 rfl);by_cases hq:x.2.1=key
  ·have bc:(x.2.1==key)=true:=(by simpa using hq);by_cases E:x.2.2.1=col
   ·have a3:(x.2.2.1==col)=true:=(by simpa using E);have d:H (aN key col (t.e.take (k+1))=M++[x.2.2.2]):=by show _=_;rw[F,if_pos (by simp[cB,hq,E])]
    have aL:H (M.length+[x.2.2.2].length<=maxLen/\(M.length+[x.2.2.2].length)*8<=140737488355328):=(by show _/\_;unfold maxLen;simp only[List.length_cons,List.length_nil];omega);clear F hq E;go_wp2_with (at_builtin;refine aH _ rfl _ _ rfl w0.heap.size (S A1 M.length ao) M [x.2.2.2] (jb4 (wr.heap.size+1) 0) 1 rfl rfl ?ho ?hr (fun h=>by cases h) aL.out.1 aL.out.2 ?hs ?_);case ho=>exact r.out.gr (g.alloc _)
    case hr=>exact eQ (by simp) _ _
    case hs=>simp;omega
    intro v1 w3 ad a1;have a7:H (jb2 w0 w3):=f.out.trans (((g.alloc _).below.mono ak).trans (ae.grown_below (r.out.gr (g.alloc _)) a1 (by simp;omega)));have ah:=ja1 ad;go_wp2;go_roundw;exact ⟨k+1,by omega,by go_num,by rw[d.out];exact ah.out,a7.out⟩;simp[intOf];omega
   ·have a3:(x.2.2.1==col)=false:=(by simpa using E);have d:H (aN key col (t.e.take (k+1))=M):=by show _=_;rw[F,if_neg (by simp[cB,E])];simp
    clear F hq E;go_wp2;go_roundw;exact ⟨k+1,by omega,by go_num,by rw[d.out];exact r.out.gr g,f.out.trans (g.below.mono ak)⟩;simp[intOf];omega
  ·have bc:(x.2.1==key)=false:=(by simpa using hq);have d:H (aN key col (t.e.take (k+1))=M):=by show _=_;rw[F,if_neg (by simp[cB,hq])];simp
   go_wp2;go_roundw;exact ⟨k+1,by omega,by go_num,by rw[d.out];exact r.out.gr g,f.out.trans (g.below.mono ak)⟩;simp[intOf];omega
 ·have a2:¬(k:Int)<(t.e.length:Int):=by omega
  have ba:t.e.take k=t.e:=List.take_of_length_le (by omega);rw[ba] at u j ⊢;have ap:(aN key col t.e).length<=t.e.length:=eO _ _ _;obtain ⟨M,HM⟩:=jb0 (aN key col t.e);rw[HM] at u j ap ⊢;have a5:=ja1 HM;have be:=iu M w0.heap.size _ wr u (by omega);have a4:H _:=be;have a0:jb2 w wr:=n.trans (m.mono n.size);have a8:=n.size;go_wp2_with fail;refine ja0 a4 ?_;rintro e w2 ⟨C,cp,rfl,bd,a6⟩;go_wp2;go_ret;rw[a5.out];exact ⟨C,cp,rfl,bd,a0.trans (a6.mono a8)⟩

theorem vQ (t:Tab) (A:Option U) (ca:Nat) (D:Option U) (cd:Nat) (w:J) (bh:t.e.length*40<=140737488355328) (hr:Row w A t.c.l) (hd:av w D t.e) :
  Y O 101 #[P (T6 t A ca D cd).toArray] w fun e w'=>∃C cp,e= Z (S C (aX (bJ t.e)).length cp)/\aq w' C (aX (bJ t.e))/\jb2 w w':=by
 have R:TabAt (w.alloc (X #[V I t.c.c0,V I t.c.c1,V I t.c.c2,V I t.c.c3,S A t.c.l.length ca,S D t.e.length cd] 35)) w.heap.size t A ca D cd:=TabAt.new 35 hr hd rfl;have g:jb2 w (w.alloc (X #[V I t.c.c0,V I t.c.c1,V I t.c.c2,V I t.c.c3,S A t.c.l.length ca,S D t.e.length cd] 35)):=((gR w).alloc _).below;have k5:=R.k5;go_enter Tryz.func101,Tryz.ntmps101;go_wp2;generalize w.alloc (X #[V I t.c.c0,V I t.c.c1,V I t.c.c2,V I t.c.c3,S A t.c.l.length ca,S D t.e.length cd] 35)=w0 at R g k5 ⊢;go_loopw [3,9] (fun v i wr=>∃k:Nat,k<=t.e.length/\i= V I k/\dD wr w0.heap.size v (bJ (t.e.take k))/\jb2 w0 wr) (fun _ i _=>t.e.length-(intOf i).toNat);exact ⟨0,by omega,rfl,ae.nil _ _ _ _ _,bR _ _⟩;obtain ⟨k,hk,rfl,j,f⟩:=hrel;obtain ⟨A1,ad,rfl,be,d,bd⟩:=ae.row bI j;have bc:=R.below f;have ba:w0.heap.size<=wr.heap.size:=f.size;by_cases u:k<t.e.length
 ·have ap:(k:Int)<(t.e.length:Int):=by omega
  obtain ⟨bb,bl,rfl,hb,a6⟩:=av.get bc.rowC u;obtain ⟨x,hx⟩:=jb0 (t.e[k]);obtain ⟨e0,e1,e2,e3,e4⟩:=a6 k u;rw[hx] at e0 e1 e2 e3 e4;have a0:=kn u hx;obtain ⟨M,HM⟩:=jb0 (bJ (t.e.take k));have ah:M.length<=t.e.length:=by rw[<-HM];exact nT (e7 _) (by rw[List.length_take];omega)
  rw[HM] at j a0 d ⊢;have m:=ja1 j;have n:=ja1 f;have r:Gr wr (wr.alloc (X #[V I x.1.1,V I x.1.2,V I x.2.1,V I x.2.2.1,V I x.2.2.2] 91)):=(gR _).alloc _;obtain ⟨x0,x1,x2,x3,x4,bo⟩:=(show CelAt _ _ _ from CelAt.new (w:=wr) x 91 rfl);have a1:H (bJ (t.e.take (k+1))=M++[x.2.1]):=by show _=_;rw[a0]
  have ak:H (M.length+[x.2.1].length<=maxLen/\(M.length+[x.2.1].length)*8<=140737488355328):=by show _/\_;unfold maxLen;simp only[List.length_cons,List.length_nil];omega
  go_wp2_with (at_builtin;refine aH _ rfl _ _ rfl w0.heap.size (S A1 M.length ad) M [x.2.1] (jb4 (wr.heap.size+1) 0) 1 rfl rfl ?ho ?hr (fun h=>by cases h) ak.out.1 ak.out.2 ?hs ?_);case ho=>exact m.out.gr (r.alloc _)
  case hr=>exact eQ (by simp) _ _
  case hs=>simp;omega
  intro v1 w3 E ao;have a4:H (jb2 w0 w3):=n.out.trans (((r.alloc _).below.mono ba).trans (ae.grown_below (m.out.gr (r.alloc _)) ao (by simp;omega)));have F:=ja1 E;go_wp2;go_roundw;exact ⟨k+1,by omega,by go_num,by rw[a1.out];exact F.out,a4.out⟩;simp[intOf];omega
 ·have ap:¬(k:Int)<(t.e.length:Int):=by omega
  have a7:t.e.take k=t.e:=List.take_of_length_le (by omega);rw[a7] at j d ⊢;have ah:(bJ t.e).length<=t.e.length:=e7 _;obtain ⟨M,HM⟩:=jb0 (bJ t.e);rw[HM] at j d ah ⊢;have a2:=ja1 HM;have a9:=iu M w0.heap.size _ wr j (by omega);have aL:H _:=a9;have an:jb2 w wr:=g.trans (f.mono g.size);have a5:=g.size;go_wp2_with fail;refine ja0 aL ?_;rintro e w2 ⟨C,cp,rfl,a8,a3⟩;go_wp2;go_ret;rw[a2.out];exact ⟨C,cp,rfl,a8,an.trans (a3.mono a5)⟩

end

def okW (n:Int):Bool:=inB n (-1048576) 1048576
def okN (n:Int):Bool:=inB n (-1073741824) 1073741824
def okR (l:List Int):Bool:=decide (l.length<=8) && l.all okN

theorem gL (n:Int) (w:J) :
  Y O 142 #[V I n] w fun e w'=>e= Z (ia (okW n))/\w'=w:=by
 by_cases c: -1048576<=n
 ·by_cases d:n<=1048576
  ·have e:okW n=true:=(by simp[okW,inB];omega);rw[e];clear e;go_enter Tryz.func142,Tryz.ntmps142;go_wp2;go_ret;exact ⟨rfl,rfl⟩
  ·have e:okW n=false:=(by simp[okW,inB];omega);rw[e];clear e;go_enter Tryz.func142,Tryz.ntmps142;go_wp2;go_ret;exact ⟨rfl,rfl⟩
 ·have e:okW n=false:=by simp[okW,inB];omega
  rw[e];clear e;go_enter Tryz.func142,Tryz.ntmps142;go_wp2;go_ret;exact ⟨rfl,rfl⟩

theorem ny (l:List Int) (A:Option U) (cap:Nat) (w:J) (hl:l.length<=maxLen) (hr:aq w A l) :
  Y O 141 #[S A l.length cap] w fun e w'=>e= Z (ia (okR l))/\Gr w w':=by
 unfold maxLen at hl;by_cases h8:8<l.length
 ·have e:okR l=false:=by simp[okR];omega
  rw[e];clear e;have C:(8:Int)<(l.length:Int):=by omega
  go_enter Tryz.func141,Tryz.ntmps141;go_wp2;go_ret;exact ⟨rfl,gR _⟩
 ·have C:¬(8:Int)<(l.length:Int):=by omega
  go_enter Tryz.func141,Tryz.ntmps141;go_wp2;go_loopw [10] (fun i wr=>∃k:Nat,k<=l.length/\i= V I k/\H (∀j (h:j<l.length),j<k->okN l[j]=true)/\Gr w wr) (fun i _=>l.length-(intOf i).toNat);exact ⟨0,nZ _,rfl,fun j _ m=>absurd m (Nat.not_lt_zero _),gR _⟩;obtain ⟨k,hk,rfl,r,d⟩:=hrel;by_cases g:k<l.length
  ·have n:(k:Int)<(l.length:Int):=(by omega);obtain ⟨bb,F,rfl,hb,D⟩:=(hr.gr d).at g;have R:=D k g 0 (by omega);obtain ⟨y,hy⟩:=jb0 (l[k]);rw[hy] at R;have e1:jb1 wr bb (F+k) (V I y):=by simpa[dU] using R
   have u:=ja1 hy;have f:H (okN y=false->okR l=false):=by
    intro h;unfold okR;have:l.all okN=false:=by rw[List.all_eq_false];exact ⟨y,by rw[<-u.out];exact gM g,by simp[h]⟩
    rw[this];simp
   by_cases q1:y < -1073741824
   ·have c:H (okR l=false):=f.out (by simp[okN,inB];omega);go_wp2;go_ret;exact ⟨by rw[c.out];rfl,d⟩
   ·by_cases q2:1073741824<y
    ·have c:H (okR l=false):=f.out (by simp[okN,inB];omega);go_wp2;go_ret;exact ⟨by rw[c.out];rfl,d⟩
    ·have E:H (okN l[k]=true):=(by show okN l[k]=true;rw[u.out];simp[okN,inB];omega);go_wp2;go_roundw;case rel =>
      refine ⟨k+1,by omega,by go_num,?_,d⟩;intro j m ad;by_cases e:j=k
      ·subst e;exact E
      ·exact r j m (by omega)
     case measure=>simp[intOf];omega
  ·have n:¬(k:Int)<(l.length:Int):=(by omega);have c:H (okR l=true):=by
    show okR l=true;unfold okR;have:l.all okN=true:=by rw[List.all_eq_true];intro x hx;obtain ⟨j,m,e⟩:=List.getElem_of_mem hx;rw[<-e];exact r j m (by omega)
    rw[this];simp;omega
   go_wp2;go_ret;exact ⟨by rw[c.out];rfl,d⟩


def aw:List Int->List Int->Int
 | [],[]=>0
 | [],_::_=> -1
 | _::_,[]=>1
 | x::a,y::b=>if bf x y=0 then aw a b else bf x y

theorem jC {a b:List Int}:∀k,k<=a.length->k<=b.length->(∀j (c:j<a.length) (d:j<b.length),j<k->bf a[j] b[j]=0)->aw a b=aw (a.drop k) (b.drop k):=by
 intro k;induction k with
 | zero=>intros;simp
 | succ k ih =>intro c d h;rw[ih (by omega) (by omega) fun j f g l=>h j f g (by omega)];rw[List.drop_eq_getElem_cons (show k<a.length by omega),List.drop_eq_getElem_cons (show k<b.length by omega)];show (if bf a[k] b[k]=0 then _ else _)=_;rw[if_pos (h k (by omega) (by omega) (by omega))]
theorem oo {a b:List Int} {k:Nat} (d:k<a.length) (f:k<b.length) (h:∀j (d:j<a.length) (f:j<b.length),j<k->bf a[j] b[j]=0) (c:bf a[k] b[k]≠0):aw a b=bf a[k] b[k]:=by rw[jC k (by omega) (by omega) h,List.drop_eq_getElem_cons d,List.drop_eq_getElem_cons f];show (if bf a[k] b[k]=0 then _ else _)=_;rw[if_neg c]
theorem ng {a b:List Int} {k:Nat} (c:k<a.length) (d:k=b.length) (h:∀j (c:j<a.length) (d:j<b.length),j<k->bf a[j] b[j]=0):aw a b=1:=by rw[jC k (by omega) (by omega) h,List.drop_eq_getElem_cons c,show b.drop k=[] from List.drop_eq_nil_of_le (by omega)];rfl
theorem ls {a b:List Int} (c:a.length<=b.length) (h:∀j (h1:j<a.length) (h2:j<b.length),j<a.length->bf a[j] b[j]=0):aw a b=if a.length<b.length then -1 else 0:=by
 rw[jC a.length (by omega) c h,List.drop_eq_nil_of_le (Nat.le_refl _)];by_cases k:a.length<b.length
 ·rw[if_pos k,List.drop_eq_getElem_cons k];rfl
 ·rw[if_neg k,List.drop_eq_nil_of_le (by omega)];rfl

theorem pm (a b:List Int) (A B:Option U) (ca cb:Nat) (w:J) (ap:a.length<=maxLen) (a1:aq w A a) (a2:aq w B b) :
  Y O 170 #[S A a.length ca,S B b.length cb] w fun e w'=>e= Z (V I (aw a b))/\Gr w w':=by
 unfold maxLen at ap;go_enter Tryz.func170,Tryz.ntmps170;go_wp2;go_loopw [11] (fun i wr=>∃k:Nat,k<=a.length/\k<=b.length/\i= V I k/\H (∀j (h1:j<a.length) (h2:j<b.length),j<k->bf a[j] b[j]=0)/\Gr w wr) (fun i _=>a.length-(intOf i).toNat);exact ⟨0,nZ _,nZ _,rfl,fun j _ _ hj=>absurd hj (Nat.not_lt_zero _),gR _⟩;obtain ⟨k,hk,a7,rfl,m,f⟩:=hrel;by_cases l:k<a.length
 ·have ao:(k:Int)<(a.length:Int):=by omega
  obtain ⟨bb,a4,rfl,hb,C⟩:=(a1.gr f).at l;have R:=C k l 0 (by omega);obtain ⟨x,hx⟩:=jb0 (a[k]);rw[hx] at R;have e1:jb1 wr bb (a4+k) (V I x):=by simpa[dU] using R
  have E:=ja1 hx;by_cases h:k<b.length
  ·have D:(k:Int)<(b.length:Int):=(by omega);obtain ⟨bc,a3,rfl,a5,C⟩:=(a2.gr f).at h;have R:=C k h 0 (by omega);obtain ⟨y,hy⟩:=jb0 (b[k]);rw[hy] at R;have e2:jb1 wr bc (a3+k) (V I y):=by simpa[dU] using R
   have F:=ja1 hy;obtain ⟨c,hc⟩:=jb0 (bf x y);have u:=ja1 hc;have ak:=jh x y wr;rw[hc] at ak;have n:H _:=ak;cases hq:(c != 0)
   ·have r:c=0:=(by simpa using hq);have a0:H (bf a[k] b[k]=0):=by show bf _ _=0;rw[E.out,F.out,u.out,r]
    go_wp2_with (go_at_call 133;(refine ja0 n ?_);rintro e w' ⟨rfl,rfl⟩);go_roundw;case rel =>
     refine ⟨k+1,by omega,by omega,by go_num,?_,f⟩;intro j hj aL a6;by_cases e:j=k
     ·subst e;exact a0
     ·exact m j hj aL (by omega)
    case measure=>simp[intOf];omega
   ·have d:H (aw a b=c):=(by have r:c≠0:=(by simpa using hq);show _=_;rw[oo l h m (by rw[E.out,F.out,u.out];exact r),E.out,F.out,u.out]);go_wp2_with (go_at_call 133;(refine ja0 n ?_);rintro e w' ⟨rfl,rfl⟩);go_ret;exact ⟨by rw[d.out];rfl,f⟩
  ·have D:(b.length:Int)<=(k:Int):=(by omega);have d:H (aw a b=1):=ng l (by omega) m;go_wp2;go_ret;exact ⟨by rw[d.out];rfl,f⟩
 ·have ao:¬(k:Int)<(a.length:Int):=by omega
  have an:k=a.length:=by omega
  have g:=ls (a:=a) (b:=b) (by omega) (fun j h1 h2 _=>m j h1 h2 (by omega));by_cases ad:a.length<b.length
  ·have d:H (aw a b= -1):=(by show _=_;rw[g,if_pos ad]);have ah:(a.length:Int)<(b.length:Int):=by omega
   clear g an;go_wp2;go_ret;exact ⟨by rw[d.out];rfl,f⟩
  ·have d:H (aw a b=0):=(by show _=_;rw[g,if_neg ad]);have ah:¬(a.length:Int)<(b.length:Int):=by omega
   clear g an;go_wp2;go_ret;exact ⟨by rw[d.out];rfl,f⟩
theorem fw (a b:List Int) (A B:Option U) (ca cb:Nat) (w:J) (c:a.length<=maxLen) (d:aq w A a) (f:aq w B b) :
  Y O 143 #[S A a.length ca,S B b.length cb] w fun e w'=>e= Z (V I (aw a b))/\Gr w w':=by go_enter Tryz.func143,Tryz.ntmps143;go_wp2_with fail;refine (pm a b A B ca cb _ c d f).mono ?_;rintro e w' ⟨rfl,g⟩;go_wp2;go_ret;exact ⟨rfl,g⟩


structure Itm where
 p:Option U
 c:Nat
 r:List Int
 n:Int
def aE (x:Itm):List K:=[S x.p x.r.length x.c,V I x.n]
theorem bO (x:Itm):(aE x).length=2:=rfl
theorem gh (x:Itm):∀u∈aE x,u.oneCell'=true:=by intro u c;simp[aE] at c;rcases c with rfl|rfl<;>rfl
def dC (A:Option U) (n c:Nat):Prop:=Unit->(if A.isNone then c else 0)+(n-c)=0
theorem dC.z {A:Option U} {n c:Nat} (h:dC A n c):A=none->c=0:=fun e=>by
 subst e
 have d:c+(n-c)=0:=h ()
 omega
theorem dC.cap {A:Option U} {n c:Nat} (h:dC A n c):n<=c:=by have:=h ();omega
theorem dC.mk {A:Option U} {n c:Nat} (h:A=none->c=0) (k:n<=c):dC A n c:=fun _=>by
 cases A with
 | none=>rw[h rfl] at k ⊢;simp;omega
 | some a=>simp;omega
structure Items (w:J) (A:Option U) (l:List Itm):Prop where
 row:aC aE 2 w A l
 each:∀x∈l,aq w x.p x.r/\x.r.length<=maxLen/\(x.p=none->x.c=0)
theorem Items.below {w w':J} {A:Option U} {l:List Itm} (h:Items w A l) (q:jb2 w w'):Items w' A l:=⟨h.row.below q,fun x c=>⟨(h.each x c).1.below q,(h.each x c).2⟩⟩
theorem Items.gr {w w':J} {A:Option U} {l:List Itm} (h:Items w A l) (q:Gr w w'):Items w' A l:=h.below q.below
theorem Items.at {w:J} {A:Option U} {l:List Itm} (h:Items w A l) {k:Nat} (C:k<l.length):∃b d,A=some (jb5 b d)/\b<w.heap.size/\∀j (f:j<l.length),jb1 w b (d+j*2) (.slice l[j].p l[j].r.length l[j].c)/\jb1 w b (d+j*2+1) (V I l[j].n):=by obtain ⟨b,d,m,u,g⟩:=h.row.at C;exact ⟨b,d,m,u,fun j f=>⟨g j f 0 (by omega),g j f 1 (by omega)⟩⟩

abbrev Zit:=List Int×Int
def Itm.z (x:Itm):Zit:=(x.r,x.n)
def okZ (x:Zit):Bool:=okR x.1 && okW x.2 && decide (x.2≠0)
def jn (l:List Zit) (k:Nat):Bool:=decide (k=0) || decide (aw (l.getD (k-1) ([],0)).1 (l.getD k ([],0)).1<0)
def am (l:List Zit):Int:=if 400<l.length then 2 else if ∃k,k<l.length/\(okZ (l.getD k ([],0)) && jn l k)=false then 5 else 0

end Go.Proofs.YtbkjgjjpnfhkhaaGreatDoor
