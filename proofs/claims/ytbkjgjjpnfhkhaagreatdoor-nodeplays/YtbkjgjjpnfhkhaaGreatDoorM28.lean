import Derived.Test.YtbkjgjjpnfhkhaaGreatDoorM27
set_option maxRecDepth 100000
set_option maxHeartbeats 8000000
open Go renaming World → K, Calls → Q, Addr → q, Value → o
open Go.Ending renaming returned → P
open Go.IntKind renaming i64 → I
open Go.Obj renaming cells → J
open Go.Proofs.Tryz renaming prog → L
open Go.RowKit renaming Hid → Z, Below → Y
open Go.Value renaming int → S, slice → O, tuple → H, agg → U, bool → s
namespace Go.Proofs.YtbkjgjjpnfhkhaaGreatDoor
open Go.RowKit Go.Sort

def yX:Nat->List (Int×Int)->List (Int×Int)
 | 0,_=>[]
 | n+1,l=>l.getD (lix l n) (0,0)::yX n (l.eraseIdx (lix l n))

theorem nG:∀(n:Nat) (c:Ctx) (l:List (Int×Int)),ei n c l=(yX n l).foldl bx c
 | 0,_,_=>rfl
 | n+1,c,l=>by show ei n _ _=List.foldl bx (bx c _) _;rw[nG n]

theorem tp (l:List (Int×Int)):∀i,i<l.length->∀j,j<=i->leD (l.getD (lix l i) (0,0)) (l.getD j (0,0)):=by
 intro i;induction i with
 | zero =>
  intro _ j h;obtain rfl:j=0:=by omega
  exact lU _
 | succ i ih =>
  intro hi j h;have c:=ih (by omega);show leD (l.getD (if _ then _ else _) _) _;by_cases d:bj (l.getD (i+1) (0,0)) (l.getD (lix l i) (0,0))=true
  ·rw[if_pos d];by_cases e:j=i+1
   ·rw[e];exact lU _
   ·have f:=c j (by omega);have g:leD (l.getD (i+1) (0,0)) (l.getD (lix l i) (0,0)):=by rw[fJ];have:=(i8 _ _).1 d;omega
    exact iH g f
  ·rw[if_neg d];by_cases e:j=i+1
   ·rw[e];show bj _ _=false;simpa using d
   ·exact c j (by omega)

theorem qX {l:List (Int×Int)} {k:Nat} (h:k<l.length):(l.getD k (0,0)::l.eraseIdx k).Perm l:=by
 have e:l.getD k (0,0)=l[k]:=by simp[h]
 rw[e,List.eraseIdx_eq_take_drop_succ];have c:l=l.take k++l[k]::l.drop (k+1):=by rw[List.getElem_cons_drop,List.take_append_drop]
 exact (List.perm_middle.symm).trans (List.Perm.of_eq c.symm)

theorem jX:∀(n:Nat) (l:List (Int×Int)),l.length=n->(yX n l).Perm l
 | 0,l,h=>by rw[List.eq_nil_of_length_eq_zero h];exact List.Perm.refl _
 | n+1,l,h=>by
  have c:lix l n<l.length:=by have:=oC l n;omega
  have d:(l.eraseIdx (lix l n)).length=n:=by rw[List.length_eraseIdx,if_pos c];omega
  exact ((jX n _ d).cons _).trans (qX c)

theorem kt:∀(n:Nat) (l:List (Int×Int)),l.length=n->(yX n l).Pairwise leD
 | 0,_,_=>List.Pairwise.nil
 | n+1,l,h=>by
  have k:lix l n<l.length:=by have:=oC l n;omega
  have f:(l.eraseIdx (lix l n)).length=n:=by rw[List.length_eraseIdx,if_pos k];omega
  refine List.pairwise_cons.2 ⟨fun y m=> ?_,kt n _ f⟩;have c:=(jX n _ f).mem_iff.1 m;have d:=List.mem_of_mem_eraseIdx c;obtain ⟨j,g,rfl⟩:=List.getElem_of_mem d;have:=tp l n (by omega) j (by omega);have e:l.getD j (0,0)=l[j]:=by simp[g]
  rw[e] at this;exact this

theorem jS {c:Ctx} (d:c.l=[]) {l:List (Int×Int)} (f:∀x∈l,ai x=true):ei l.length c l=eh c l:=by rw[nG,ii d f];congr 1;exact uj (kt _ l rfl) (ja l) ((jX _ l rfl).trans (qv l).symm)


theorem gI {t:Tab} (h:ay t=0) (p:Cel->Bool):∀x∈ag p t.e,ai x=true:=by
 intro x k;obtain ⟨y,l,rfl⟩:=List.mem_map.1 k;obtain ⟨j,d,rfl⟩:=List.getElem_of_mem (List.mem_filter.1 l).1;have f:=af h;have c:=f.2.2 j d;have g:t.e.getD j ((0,0),0,0,0)=t.e[j]:=by simp[d]
 unfold dE at c;rw[g] at c;simp only[Bool.and_eq_true] at c;exact jI (fo f.1) c.1.1
theorem fL {l:List (Int×Int)} (d:l.length<=400) (h:∀x∈l,ai x=true):cJ l=0:=by unfold cJ;rw[if_neg (by omega),if_neg];rw[oY fun j c=>h _ (List.getElem_mem c)];simp
theorem fK {l:List (Int×Int)} (c:l.length<=400) (h:∀x∈l,ai x=true):aM l=eh ar l:=by unfold aM;rw[if_pos (fL c h)]
theorem qQ {p:Cel->Bool} {l:List Cel}:l.any p=decide (0<(ag p l).length):=by
 unfold ag;rw[List.length_map];induction l with
 | nil=>rfl
 | cons x l ih =>rw[List.any_cons,ih];cases c:p x<;>simp[c]

theorem qh {l:List (Int×Int)} {A:Option q} {cap:Nat} {w:K} {n:Nat} (j:n=l.length) (g:l.length<=400) (c:∀x∈l,ai x=true) (k:Row w A l) (f:A=none->cap=0) :
  Q L 52 #[U #[S I 0,S I 0,S I 0,S I 0],O A n cap] w fun e w'=>∃C d,e= P (U (ja7 (aM l) C d))/\Row w' C (aM l).l/\(C=none->d=0)/\(∀a,C=some a->w.heap.size<=a.block)/\jb2 w w':=by subst j;have h:=j3 ar l A cap w rfl (by decide) (by omega) c k f;rw[jS rfl c,<-fK g c] at h;exact h

theorem xf (t:Tab) (A:Option q) (ca:Nat) (D:Option q) (cd:Nat) (key:Int) (w:K) (hl:t.c.l.length<=maxLen) (b8:t.e.length<=maxLen) (hr:Row w A t.c.l) (hd:av w D t.e) :
  Q L 25 #[U (T6 t A ca D cd).toArray,S I key] w fun e w'=>∃C cp,e= P (H #[U #[S I (du t key).c0,S I (du t key).c1,S I (du t key).c2,S I (du t key).c3,O C (du t key).l.length cp,O none 0 0],S I (dN t key)])/\Row w' C (du t key).l/\(C=none->cp=0)/\jb2 w w':=by
 have b9:Gr w ((w.alloc (J #[S I t.c.c0,S I t.c.c1,S I t.c.c2,S I t.c.c3,O A t.c.l.length ca,O D t.e.length cd] 35)).alloc (J #[S I 0,S I 0,S I 0,S I 0,O none 0 0,O none 0 0] 35)):=((gR w).alloc _).alloc _;have be:TabAt ((w.alloc (J #[S I t.c.c0,S I t.c.c1,S I t.c.c2,S I t.c.c3,O A t.c.l.length ca,O D t.e.length cd] 35)).alloc (J #[S I 0,S I 0,S I 0,S I 0,O none 0 0,O none 0 0] 35)) w.heap.size t A ca D cd:=(TabAt.new 35 hr hd rfl).gr ((gR _).alloc _);have cj:qD ((w.alloc (J #[S I t.c.c0,S I t.c.c1,S I t.c.c2,S I t.c.c3,O A t.c.l.length ca,O D t.e.length cd] 35)).alloc (J #[S I 0,S I 0,S I 0,S I 0,O none 0 0,O none 0 0] 35)) (w.heap.size+1):=Six.new _ _ _ _ _ _ _ 35 (by simp);have b6:=fy t A ca D cd _ hl b8 be.row be.rowC;have bs:Z _:=b6;go_enter Tryz.func25,Tryz.ntmps25;go_wp2_with fail;refine ja0 bs ?_;rintro e w1 ⟨rfl,a9⟩;have cf:=be.gr a9;have a2:=cj.gr a9;have ah:jb2 w w1:=(b9.trans a9).below;have cr:=a2.lt;obtain ⟨E1,R⟩:=jb0 (ay t);rw[R];by_cases h1:E1=0
 ·subst h1;have a8:=ja1 R;have bt:t.e.length<=400:=(af R).2.1;cases a1:inB key 0 49
  ·have d:Z (dN t key=1/\du t key=ar):=(by have h1:dN t key=1:=(by simp[dN,a8.out,a1]);exact ⟨h1,by simp[du,h1]⟩);obtain ⟨z0,z1,z2,z3,z4,z5,zf,bh⟩:=(show Six _ _ _ _ _ _ _ _ from a2);go_wp2_with (go_at_call 5;refine (dn a1 _).mono ?_;rintro e w1 ⟨rfl,rfl⟩);rw[d.out.1,d.out.2];exact bodyPost_ret (v:= H #[U #[S I 0,S I 0,S I 0,S I 0,O none 0 0,O none 0 0],S I 1]) (by simp[results,Tryz.results25,go_sem,z0,z1,z2,z3,z4,z5]) rfl ⟨none,0,rfl,oL rfl,fun _=>rfl,ac ah (by omega) _ _ _ _ _ _⟩
  ·go_wp2_with (go_at_call 5;refine (dn a1 _).mono ?_;rintro e w1 ⟨rfl,rfl⟩);go_loopw [7,8] (fun v i wr=>∃k:Nat,k<=t.e.length/\i= S I k/\Own wr w1.heap.size v (ag (dQ key) (t.e.take k))/\jb2 w1 wr) (fun _ i _=>t.e.length-(intOf i).toNat);exact ⟨0,by omega,rfl,Own.nil _ _,bR _ _⟩;obtain ⟨k,hk,rfl,j,g⟩:=hrel;obtain ⟨A1,a3,rfl,b3,f,cl⟩:=j.row;have b0:=cf.below g;have r5:=b0.k5;have ce:w1.heap.size<=wr.heap.size:=g.size;by_cases ba:k<t.e.length
   ·have bC:(k:Int)<(t.e.length:Int):=(by omega);obtain ⟨bb,cs,rfl,hb,b7⟩:=av.get b0.rowC ba;obtain ⟨x,hx⟩:=jb0 (t.e[k]);obtain ⟨e0,e1,e2,e3,e4⟩:=b7 k ba;rw[hx] at e0 e1 e2 e3 e4;have ap:=eT (p:=(dQ key)) ba hx;obtain ⟨M,HM⟩:=jb0 (ag (dQ key) (t.e.take k));have cm:M.length<=400:=by rw[<-HM];exact nT (ci _ _) (by rw[List.length_take];omega)
    rw[HM] at j ap f ⊢;have ak:=ja1 j;have ad:=ja1 g;by_cases hq:x.2.1=key
    ·have cc:(x.2.1==key)=true:=(by simpa using hq);have aL:Z (ag (dQ key) (t.e.take (k+1))=M++[x.1]):=by show _=_;rw[ap,if_pos (by simp[dQ,hq])]
     have b5:Z ((M.length+[x.1].length)*16<=140737488355328):=(by show _<=_;simp only[List.length_cons,List.length_nil];omega);clear ap;go_wp2_with (at_builtin;refine al _ rfl _ _ rfl w1.heap.size (O A1 M.length a3) M [x.1] (jb4 wr.heap.size 0) 1 rfl rfl ?ho ?hr (fun h=>by cases h) b5.out ?hs ?_);case ho=>exact ak.out.gr ((gR _).alloc _)
     case hr=>exact ed rfl x.1.1 x.1.2 _
     case hs=>simp;omega
     intro v1 w3 an a5 bo;have a0:Z (jb2 w1 w3):=ad.out.trans ((((gR wr).alloc _).below.mono ce).trans (Own.grown_below (ak.out.gr ((gR _).alloc _)) a5 (by simp;omega)));have bc:=ja1 an;clear an a5 bo;go_wp2;go_roundw;exact ⟨k+1,by omega,by go_num,by rw[aL.out];exact bc.out,a0.out⟩;simp[intOf];omega
    ·have cc:(x.2.1==key)=false:=(by simpa using hq);have aL:Z (ag (dQ key) (t.e.take (k+1))=M):=by show _=_;rw[ap,if_neg (by simp[dQ,hq])];simp
     clear ap;go_wp2;go_roundw;exact ⟨k+1,by omega,by go_num,by rw[aL.out];exact ak.out,ad.out⟩;simp[intOf];omega
   ·have bC:¬(k:Int)<(t.e.length:Int):=(by omega);have bv:t.e.take k=t.e:=List.take_of_length_le (by omega);rw[bv] at j f ⊢;clear bv;have a7:(ag (dQ key) t.e).length<=400:=nT (ci _ _) bt;have bd:=gI a8.out (dQ key);have bG:=fL a7 bd;have bl:=qQ (p:=dQ key) (l:=t.e);have hD:dN t key=if (ag (dQ key) t.e).length=0 then 4 else 0:=by
     unfold dN;rw[if_neg (by simpa using a8.out),if_neg (by simp[a1]),bl,bG];by_cases r:(ag (dQ key) t.e).length=0
     ·rw[if_pos r,if_pos (by simp[r])]
     ·rw[if_neg r,if_neg (by rw[decide_eq_true (by omega)];simp)]
    have u:du t key=if (ag (dQ key) t.e).length=0 then ar else aM (ag (dQ key) t.e):=(by unfold du;rw[hD];by_cases r:(ag (dQ key) t.e).length=0<;>simp[r]);obtain ⟨M,HM⟩:=jb0 (ag (dQ key) t.e);rw[HM] at j f a7 bd hD u ⊢;clear HM bG bl;have a4:jb2 w wr:=ah.trans (g.mono (by omega));have b1:=a2.below g;by_cases r:M.length=0
    ·have b2:((M.length:Int)==0)=true:=beq_iff_eq.2 (by omega);have d:Z (dN t key=4/\du t key=ar):=⟨by rw[hD,if_pos r],by rw[u,if_pos r]⟩;obtain ⟨z0,z1,z2,z3,z4,z5,zf,bh⟩:=(show Six _ _ _ _ _ _ _ _ from b1);clear r hD u j f;go_wp2;rw[d.out.1,d.out.2];exact bodyPost_ret (v:= H #[U #[S I 0,S I 0,S I 0,S I 0,O none 0 0,O none 0 0],S I 4]) (by simp[results,Tryz.results25,go_sem,z0,z1,z2,z3,z4,z5]) rfl ⟨none,0,rfl,oL rfl,fun _=>rfl,ac a4 (by omega) _ _ _ _ _ _⟩
    ·have b2:((M.length:Int)==0)=false:=beq_eq_false_iff_ne.2 (by omega);have d:Z (dN t key=0/\du t key=aM M):=⟨by rw[hD,if_neg r],by rw[u,if_neg r]⟩;have a6:=ja9 (qh (A:=A1) (cap:=a3) (w:=wr) (n:=M.length) rfl a7 bd f b3);clear r hD u j f;go_wp2_with fail;refine ja0 a6 ?_;rintro e w3 ⟨C,cp,rfl,ao,hC,b4,a0⟩;clear a6;obtain ⟨F,hF⟩:=jb0 (aM M);rw[hF] at ao ⊢;have HF:=ja1 hF;clear hF;have ck:=b1.below a0;have bp:jb2 w w3:=a4.trans (a0.mono (by omega));have m:∀a,C=some a->a.block≠w.heap.size+1:=fun a ha=>by have:=b4 a ha;omega
     obtain ⟨z0,z1,z2,z3,z4,z5,zf,bh⟩:=(show Six _ _ _ _ _ _ _ _ from ck);go_wp2;rw[d.out.1,d.out.2,HF.out];exact bodyPost_ret (v:= H #[U #[S I F.c0,S I F.c1,S I F.c2,S I F.c3,O C F.l.length cp,O none 0 0],S I 0]) (by simp[results,Tryz.results25,go_sem,z0,z1,z2,z3,z4,z5]) rfl ⟨C,cp,rfl,(((((ao.setCell _ m).setCell _ m).setCell _ m).setCell _ m).setCell _ m).setCell _ m,hC,ac bp (by omega) _ _ _ _ _ _⟩
 ·have d:Z (dN t key=E1/\du t key=ar):=by have h2:dN t key=E1:=(by unfold dN;rw[R,if_pos h1]);exact ⟨h2,by unfold du;rw[h2,if_neg h1]⟩
  have cn:(E1 != 0)=true:=by simpa using h1
  clear h1 R;obtain ⟨z0,z1,z2,z3,z4,z5,zf,bh⟩:=(show Six _ _ _ _ _ _ _ _ from a2);go_wp2;rw[d.out.1,d.out.2];exact bodyPost_ret (v:= H #[U #[S I 0,S I 0,S I 0,S I 0,O none 0 0,O none 0 0],S I E1]) (by simp[results,Tryz.results25,go_sem,z0,z1,z2,z3,z4,z5]) rfl ⟨none,0,rfl,oL rfl,fun _=>rfl,ac ah (by omega) _ _ _ _ _ _⟩


theorem tZ (c:Ctx) (A:Option q) (cap:Nat) (n:Int) (w:K) (hl:c.l.length<=maxLen) (hr:Row w A c.l) (R:aW c=true) (h0:0<=n) (h4:n<4) :
  Q L 53 #[U (ja7 c A cap),S I n] w fun e w'=>e= P (H #[U #[S I (dh c n).1,S I (dh c n).2],S I (dJ c n)])/\Gr w w':=by
 unfold maxLen at hl;have ah:=bF R n h0 h4;have kc:=ab ((gR (w.alloc (J (ja7 c A cap) 32))).alloc (J #[S I 0,S I 0] 89)) (dM (c:=c) h0 h4);go_enter Tryz.func53,Tryz.ntmps53;go_wp2;go_loopw [6,7] (fun m i wr=>∃k:Nat,k<=c.l.length/\i= S I k/\m= S I (eA c n (c.l.take k))/\Gr ((w.alloc (J (ja7 c A cap) 32)).alloc (J #[S I 0,S I 0] 89)) wr) (fun _ i _=>c.l.length-(intOf i).toNat);exact ⟨0,by omega,rfl,rfl,gR _⟩;obtain ⟨k,hk,rfl,rfl,d⟩:=hrel;have k4:=ab (dK d) (j:=4) rfl;have r0:=jf d (j:=0) rfl;have r1:=jf d (j:=1) rfl;have ap:=lj d 0;have aL:=lj d 1;have F:=oN c n (c.l.take k);by_cases f:k<c.l.length
 ·have E:(k:Int)<(c.l.length:Int):=by omega
  obtain ⟨b,ao,rfl,hb,r⟩:=(hr.gr (br (br d))).at f;obtain ⟨x,y,hx⟩:∃x y,c.l[k]=(x,y):=⟨_,_,rfl⟩;have e0:=(r k f).1;have e1:=(r k f).2;rw[hx] at e0 e1;have u:=ja1 (nY c n k f hx);clear r hx;by_cases g:x=n
  ·subst g;by_cases an:eA c x (c.l.take k)<y
   ·go_wp2;go_roundw;exact ⟨k+1,by omega,by go_num,by rw[u.out,if_pos rfl];congr 1;omega,d⟩;simp[intOf];omega
   ·go_wp2;go_roundw;exact ⟨k+1,by omega,by go_num,by rw[u.out,if_pos rfl];congr 1;omega,d⟩;simp[intOf];omega
  ·have ak:(x==n)=false:=(by simpa using g);have ad:=ja1 g;clear g;go_wp2;go_roundw;exact ⟨k+1,by omega,by go_num,by rw[u.out,if_neg ad.out],d⟩;simp[intOf];omega
 ·have E:¬(k:Int)<(c.l.length:Int):=by omega
  have D:c.l.take k=c.l:=List.take_of_length_le (by omega);rw[D] at F ⊢;clear D;by_cases h:1099511627776<=eA c n c.l
  ·have C:Z (dh c n=(0,0)/\dJ c n=2):=(by show _/\_;simp[dh,dJ,h]);go_wp2;rw[C.out.1,C.out.2];exact bodyPost_ret (v:= H #[U #[S I 0,S I 0],S I 2]) (by simp[results,Tryz.results53,go_sem,r0,r1]) rfl ⟨rfl,(((br (br d)).setCell (by simp) _).setCell (by simp) _)⟩
  ·have C:Z (dh c n=(n,eA c n c.l+1)/\dJ c n=0):=(by show _/\_;simp[dh,dJ,h]);go_wp2;rw[C.out.1,C.out.2];exact bodyPost_ret (v:= H #[U #[S I n,S I (eA c n c.l+1)],S I 0]) (by simp[results,Tryz.results53,go_sem,r0,r1]) rfl ⟨rfl,(((br (br d)).setCell (by simp) _).setCell (by simp) _)⟩


theorem m8 {c:Ctx} {n:Int} (h:aU c=0) (m:inB n 0 3=true) (f:dJ c n=0):ai (dh c n)=true:=by
 have g:=(aY h).1;have d:0<=n/\n<4:=by simp[inB] at m;omega
 have u:=bF g n d.1 d.2;have k:=oN c n c.l;have r:¬ 1099511627776<=eA c n c.l:=by intro j;unfold dJ at f;rw[if_pos j] at f;cases f
 unfold dh;rw[if_neg r];simp[ai,inB];omega

theorem ql {l:List (Int×Int)} {d:Int×Int} (u:l.length<=400) (m:∀x∈l,ai x=true) (r:ai d=true):eh ar (d::l)=gX (aM l) (aM [d]):=by
 have g:∀x∈[d],ai x=true:=fun x n=>by simp at n;rw[n];exact r
 have j:=gl (c:=ar) rfl (by decide) m;have k:=gl (c:=ar) rfl (by decide) g;have f:∀x∈d::l,ai x=true:=fun x n=>by
  rcases List.mem_cons.1 n with h|h
  ·rw[h];exact r
  ·exact m x h
 rw[fK u m,fK (by simp) g];refine zQ (gl rfl (by decide) f) (jJ j k) fun z=> ?_;rw[iF rfl f,nA j k,iF rfl m,iF rfl g];simp only[List.mem_cons,List.not_mem_nil,or_false];constructor
 ·rintro (h|h|h)
  ·exact oL (oL h)
  ·exact oR (oR h)
  ·exact oL (oR h)
 ·rintro ((h|h)|(h|h))
  ·exact oL h
  ·exact oR (oR h)
  ·exact oL h
  ·exact oR (oL h)

theorem pV {l:List (Int×Int)} (d:l.length<=400) (c:∀x∈l,ai x=true):aU (aM l)=0:=by have h:=fK d c;refine lH (by rw[h];exact gl rfl (by decide) c) ?_;rw[h];unfold eh;have:=iX ar (srt l) (srt l).length;rw[fA] at this ⊢;have f:ar.l.length=0:=rfl;omega

theorem xi {t:Tab} {n key col v:Int} (h:ay t=0) (hp:aF key col v=true) (E:inB n 0 3=true) (D:dJ t.c n=0) :
  cF t n key col v=(if 400<(eh ar (dh t.c n::ag (cB key col) t.e)).l.length then 2 else 0) /\
  dm t n key col v=(if 400<(eh ar (dh t.c n::ag (cB key col) t.e)).l.length then ⟨ar,[]⟩ else ⟨eh ar (dh t.c n::ag (cB key col) t.e),[(dh t.c n,key,col,v)]⟩):=by
 have f:=af h;have u:cX t.c n=(dh t.c n,dJ t.c n):=by unfold cX;rw[if_pos f.1,if_pos E]
 have k:(ag (cB key col) t.e).length<=400:=nT (ci _ _) f.2.1;have m:=gI h (cB key col);have r:=m8 f.1 E D;have j:∀x∈[dh t.c n],ai x=true:=fun x F=>by simp at F;rw[F];exact r
 have C:cF t n key col v=aI (aM (ag (cB key col) t.e)) (aM [dh t.c n]):=by unfold cF;rw[u,h,hp,D,fL k m,fL (by simp) j];rfl
 have R:eH (aM (ag (cB key col) t.e)) (aM [dh t.c n])=0:=by unfold eH;rw[if_pos (pV k m)];exact pV (by simp) j
 have d:cF t n key col v=(if 400<(eh ar (dh t.c n::ag (cB key col) t.e)).l.length then 2 else 0):=by rw[C,ql k m r];unfold aI;rw[if_pos R]
 refine ⟨d,?_⟩;unfold dm;rw[d,u];by_cases g:400<(eh ar (dh t.c n::ag (cB key col) t.e)).l.length
 ·rw[if_pos g,if_pos g,if_neg (by decide)]
 ·rw[if_neg g,if_neg g,if_pos rfl];have hj:aI (aM (ag (cB key col) t.e)) (aM [dh t.c n])=0:=by rw[<-C,d,if_neg g]
  rw[(jo hj).2.2.2.1,ql k m r]

theorem kU {t:Tab} {n key col v:Int} (h:ay t=0) (j:inB n 0 3=false\/aF key col v=false):cF t n key col v=1/\dm t n key col v=⟨ar,[]⟩:=by
 have d:cF t n key col v=1:=by
  unfold cF;rw[h];cases g:aF key col v
  ·simp
  ·rcases j with hn|hn
   ·have f:cX t.c n=((0,0),1):=(by unfold cX;rw[if_pos (af h).1,if_neg (by simp[hn])]);rw[f];simp
   ·rw[g] at hn;cases hn
 exact ⟨d,by unfold dm;rw[d];rfl⟩
theorem xe {t:Tab} {n key col v:Int} (h:ay t=0) (k:aF key col v=true) (j:inB n 0 3=true) (f:dJ t.c n≠0):cF t n key col v=dJ t.c n/\dm t n key col v=⟨ar,[]⟩:=by
 have g:cX t.c n=(dh t.c n,dJ t.c n):=by unfold cX;rw[if_pos (af h).1,if_pos j]
 have d:cF t n key col v=dJ t.c n:=by unfold cF;rw[h,k,g];simp[f]
 exact ⟨d,by unfold dm;rw[d,if_neg f]⟩

theorem Ae {W:K} {c:Nat} (f:c<=W.heap.size) (d:Int×Int):Own (W.alloc (J #[S I d.1,S I d.2] 89)) c (O (jb4 W.heap.size 0) 1 1) [d] :=
 ⟨rfl,oR ⟨W.heap.size,1,#[S I d.1,S I d.2],rfl,f,by show (W.heap.push _)[W.heap.size]? = _;simp,nR _,by decide,rfl,rfl⟩⟩

theorem xj (t:Tab) (A:Option q) (ca:Nat) (D:Option q) (cd:Nat) (n key col v:Int) (w:K) (hl:t.c.l.length<=maxLen) (ek:t.e.length<=maxLen) (hr:Row w A t.c.l) (hd:av w D t.e) :
  Q L 26 #[U (T6 t A ca D cd).toArray,S I n,S I key,S I col,S I v] w fun e w'=>∃C cp D' cr,e= P (H #[U (T6 (dm t n key col v) C cp D' cr).toArray,S I (cF t n key col v)])/\Row w' C (dm t n key col v).c.l/\av w' D' (dm t n key col v).e/\(C=none->cp=0)/\(D'=none->cr=0)/\jb2 w w'/\(∀a,C=some a->w.heap.size<=a.block)/\(∀a,D'=some a->w.heap.size<=a.block):=by
 have em:Gr w ((w.alloc (J #[S I t.c.c0,S I t.c.c1,S I t.c.c2,S I t.c.c3,O A t.c.l.length ca,O D t.e.length cd] 35)).alloc (J #[S I 0,S I 0,S I 0,S I 0,O none 0 0,O none 0 0] 35)):=((gR w).alloc _).alloc _;have cm:TabAt ((w.alloc (J #[S I t.c.c0,S I t.c.c1,S I t.c.c2,S I t.c.c3,O A t.c.l.length ca,O D t.e.length cd] 35)).alloc (J #[S I 0,S I 0,S I 0,S I 0,O none 0 0,O none 0 0] 35)) w.heap.size t A ca D cd:=(TabAt.new 35 hr hd rfl).gr ((gR _).alloc _);have e8:qD ((w.alloc (J #[S I t.c.c0,S I t.c.c1,S I t.c.c2,S I t.c.c3,O A t.c.l.length ca,O D t.e.length cd] 35)).alloc (J #[S I 0,S I 0,S I 0,S I 0,O none 0 0,O none 0 0] 35)) (w.heap.size+1):=Six.new _ _ _ _ _ _ _ 35 (by simp);have ec:=fy t A ca D cd _ hl ek cm.row cm.rowC;have c5:Z _:=ec;have en:=ja1 hl;go_enter Tryz.func26,Tryz.ntmps26;go_wp2_with fail;refine ja0 c5 ?_;rintro e w1 ⟨rfl,b9⟩;have d0:=cm.gr b9;have a3:=e8.gr b9;have r:jb2 w w1:=(em.trans b9).below;obtain ⟨E1,a6⟩:=jb0 (ay t);rw[a6];by_cases h1:E1=0
 ·subst h1;have u:=ja1 a6;have c7:t.e.length<=400:=(af a6).2.1;cases m:inB n 0 3
  ·have d:Z (cF t n key col v=1/\dm t n key col v=⟨ar,[]⟩):=kU u.out (oL m);obtain ⟨z0,z1,z2,z3,z4,z5,zf,a4⟩:=(show Six _ _ _ _ _ _ _ _ from a3);go_wp2_with (go_at_call 5;(first|with_reducible refine (dn m _).mono ?_);rintro e w1 ⟨rfl,rfl⟩);rw[d.out.1,d.out.2];exact bodyPost_ret (v:= H #[U #[S I 0,S I 0,S I 0,S I 0,O none 0 0,O none 0 0],S I 1]) (by simp[results,Tryz.results26,go_sem,z0,z1,z2,z3,z4,z5]) rfl ⟨none,0,none,0,rfl,oL rfl,oL rfl,fun _=>rfl,fun _=>rfl,ac r (by omega) _ _ _ _ _ _,(fun _ h=>by cases h),fun _ h=>by cases h⟩
  ·cases a2:inB key 0 49
   ·have d:Z (cF t n key col v=1/\dm t n key col v=⟨ar,[]⟩):=kU u.out (oR (by simp[aF,a2]));obtain ⟨z0,z1,z2,z3,z4,z5,zf,a4⟩:=(show Six _ _ _ _ _ _ _ _ from a3);go_wp2_with (go_at_call 5;(first|with_reducible refine (dn m _).mono ?_|with_reducible refine (dn a2 _).mono ?_);rintro e w1 ⟨rfl,rfl⟩);rw[d.out.1,d.out.2];exact bodyPost_ret (v:= H #[U #[S I 0,S I 0,S I 0,S I 0,O none 0 0,O none 0 0],S I 1]) (by simp[results,Tryz.results26,go_sem,z0,z1,z2,z3,z4,z5]) rfl ⟨none,0,none,0,rfl,oL rfl,oL rfl,fun _=>rfl,fun _=>rfl,ac r (by omega) _ _ _ _ _ _,(fun _ h=>by cases h),fun _ h=>by cases h⟩
   ·cases bh:inB col 0 2
    ·have d:Z (cF t n key col v=1/\dm t n key col v=⟨ar,[]⟩):=kU u.out (oR (by simp[aF,bh]));obtain ⟨z0,z1,z2,z3,z4,z5,zf,a4⟩:=(show Six _ _ _ _ _ _ _ _ from a3);go_wp2_with (go_at_call 5;(first|with_reducible refine (dn m _).mono ?_|with_reducible refine (dn a2 _).mono ?_|with_reducible refine (dn bh _).mono ?_);rintro e w1 ⟨rfl,rfl⟩);rw[d.out.1,d.out.2];exact bodyPost_ret (v:= H #[U #[S I 0,S I 0,S I 0,S I 0,O none 0 0,O none 0 0],S I 1]) (by simp[results,Tryz.results26,go_sem,z0,z1,z2,z3,z4,z5]) rfl ⟨none,0,none,0,rfl,oL rfl,oL rfl,fun _=>rfl,fun _=>rfl,ac r (by omega) _ _ _ _ _ _,(fun _ h=>by cases h),fun _ h=>by cases h⟩
    ·cases bv:inB v (-1000) 1000
     ·have d:Z (cF t n key col v=1/\dm t n key col v=⟨ar,[]⟩):=kU u.out (oR (by simp[aF,bv]));obtain ⟨z0,z1,z2,z3,z4,z5,zf,a4⟩:=(show Six _ _ _ _ _ _ _ _ from a3);go_wp2_with (go_at_call 5;(first|with_reducible refine (dn m _).mono ?_|with_reducible refine (dn a2 _).mono ?_|with_reducible refine (dn bh _).mono ?_|with_reducible refine (dn bv _).mono ?_);rintro e w1 ⟨rfl,rfl⟩);rw[d.out.1,d.out.2];exact bodyPost_ret (v:= H #[U #[S I 0,S I 0,S I 0,S I 0,O none 0 0,O none 0 0],S I 1]) (by simp[results,Tryz.results26,go_sem,z0,z1,z2,z3,z4,z5]) rfl ⟨none,0,none,0,rfl,oL rfl,oL rfl,fun _=>rfl,fun _=>rfl,ac r (by omega) _ _ _ _ _ _,(fun _ h=>by cases h),fun _ h=>by cases h⟩
     ·have dv:aF key col v=true:=(by unfold aF;rw[a2,bh,bv];rfl);have dg:0<=n/\n<4:=by simp[inB] at m;omega
      obtain ⟨k0,k1,k2,k3,k4,k5,f7,d4,f0⟩:=(show TabAt _ _ _ _ _ _ _ from d0);have es:=tZ t.c A ca n w1 en.out d4 (aY (af u.out).1).1 dg.1 dg.2;have ds:Z _:=es;go_wp2_with (first|(go_at_call 5;(first|with_reducible refine (dn m _).mono ?_|with_reducible refine (dn a2 _).mono ?_|with_reducible refine (dn bh _).mono ?_|with_reducible refine (dn bv _).mono ?_);rintro e w1 ⟨rfl,rfl⟩)|fail);refine ja0 ds ?_;rintro e w2 ⟨rfl,cc⟩;have bs:=fun (h0:dJ t.c n≠0)=>xe (v:=v) u.out dv m h0;have a8:=fun (h0:dJ t.c n=0)=>xi (v:=v) u.out dv m h0;have a7:=fun (h0:dJ t.c n=0)=>m8 (af u.out).1 m h0;obtain ⟨N,hN⟩:=jb0 (dh t.c n);obtain ⟨E2,d8⟩:=jb0 (dJ t.c n);rw[hN] at a8 a7 ⊢;rw[d8] at bs a8 a7 ⊢;have e6:=d0.gr cc;have fn:=a3.gr cc;have b3:jb2 w w2:=r.trans (cc.below.mono (by omega));go_upto_region 7 with fail;have ce:Gr w2 (w2.alloc (J #[S I N.1,S I N.2] 89)):=(gR _).alloc _;have d1:=e6.gr ce;have b1:=fn.gr ce;have bG:DotAt (w2.alloc (J #[S I N.1,S I N.2] 89)) w2.heap.size N.1 N.2:=DotAt.new 89 rfl;have ba:jb2 w (w2.alloc (J #[S I N.1,S I N.2] 89)):=b3.trans (ce.below.mono b3.size);generalize w2.alloc (J #[S I N.1,S I N.2] 89)=w3 at d1 b1 bG ba ⊢;generalize w2.heap.size=bN at bG ⊢;have f5:=b1.lt;by_cases h2:E2=0
      ·subst h2;have R:=a8 rfl;have cv:=a7 rfl;clear bs a8 a7;obtain ⟨n0,n1,f1⟩:=(show DotAt _ _ _ _ from bG);go_wp2;have cj:=Ae (W:=w3) (nR _) N;have ea:jb2 w3 (w3.alloc (J #[S I N.1,S I N.2] 89)):=((gR _).alloc _).below;go_loopw [15,16] (fun v i wr=>∃k:Nat,k<=t.e.length/\i= S I k/\Own wr w3.heap.size v (N::ag (cB key col) (t.e.take k))/\jb2 w3 wr) (fun _ i _=>t.e.length-(intOf i).toNat);exact ⟨0,by omega,rfl,cj,ea⟩;obtain ⟨k,hk,rfl,an,g⟩:=hrel;obtain ⟨A1,a5,rfl,d5,f,f2⟩:=an.row;have cn:=d1.below g;have r5:=cn.k5;have ez:w3.heap.size<=wr.heap.size:=g.size;by_cases cf:k<t.e.length
       ·have c9:(k:Int)<(t.e.length:Int):=(by omega);obtain ⟨bb,ga,rfl,hb,eg⟩:=av.get cn.rowC cf;obtain ⟨x,hx⟩:=jb0 (t.e[k]);obtain ⟨e0,e1,e2,e3,e4⟩:=eg k cf;rw[hx] at e0 e1 e2 e3 e4;have ao:=eT (p:=(cB key col)) cf hx;obtain ⟨M,HM⟩:=jb0 (ag (cB key col) (t.e.take k));have f4:M.length<=400:=by rw[<-HM];exact nT (ci _ _) (by rw[List.length_take];omega)
        rw[HM] at an ao f ⊢;clear HM;have a0:=ja1 an;have ak:=ja1 g;clear an g f;by_cases hq:x.2.1=key
        ·have ey:(x.2.1==key)=true:=(by simpa using hq);by_cases b0:x.2.2.1=col
         ·have dx:(x.2.2.1==col)=true:=(by simpa using b0);have ad:Z (ag (cB key col) (t.e.take (k+1))=M++[x.1]):=by show _=_;rw[ao,if_pos (by simp[cB,hq,b0])]
          have eb:Z (((N::M).length+[x.1].length)*16<=140737488355328):=(by show _<=_;simp only[List.length_cons,List.length_nil];omega);clear ao;go_wp2_with (at_builtin;refine al _ rfl _ _ rfl w3.heap.size (O A1 (N::M).length a5) (N::M) [x.1] (jb4 wr.heap.size 0) 1 rfl rfl ?ho ?hr (fun h=>by cases h) eb.out ?hs ?_);case ho=>exact a0.out.gr ((gR _).alloc _)
          case hr=>exact ed rfl x.1.1 x.1.2 _
          case hs=>simp;omega
          intro v1 w5 bl b4 cz;have a1:Z (jb2 w3 w5):=ak.out.trans ((((gR wr).alloc _).below.mono ez).trans (Own.grown_below (a0.out.gr ((gR _).alloc _)) b4 (by simp;omega)));have ck:=ja1 bl;clear bl b4 cz;go_wp2;go_roundw;exact ⟨k+1,by omega,by go_num,by rw[ad.out];exact ck.out,a1.out⟩;simp[intOf];omega
         ·have dx:(x.2.2.1==col)=false:=(by simpa using b0);have ad:Z (ag (cB key col) (t.e.take (k+1))=M):=by show _=_;rw[ao,if_neg (by simp[cB,b0])];simp
          clear ao;go_wp2;go_roundw;exact ⟨k+1,by omega,by go_num,by rw[ad.out];exact a0.out,ak.out⟩;simp[intOf];omega
        ·have ey:(x.2.1==key)=false:=(by simpa using hq);have ad:Z (ag (cB key col) (t.e.take (k+1))=M):=by show _=_;rw[ao,if_neg (by simp[cB,hq])];simp
         clear ao;go_wp2;go_roundw;exact ⟨k+1,by omega,by go_num,by rw[ad.out];exact a0.out,ak.out⟩;simp[intOf];omega
       ·have c9:¬(k:Int)<(t.e.length:Int):=(by omega);have c8:t.e.take k=t.e:=List.take_of_length_le (by omega);rw[c8] at an f ⊢;clear c8;have d7:(ag (cB key col) t.e).length<=400:=nT (ci _ _) c7;have cl:∀y∈N::ag (cB key col) t.e,ai y=true:=fun y hy=>by
         rcases List.mem_cons.1 hy with h|h
         ·rw[h];exact cv
         ·exact gI u.out (cB key col) y h
        obtain ⟨M,HM⟩:=jb0 (ag (cB key col) t.e);rw[HM] at an f d7 cl R ⊢;clear HM;have bo:=j3 ar (N::M) A1 a5 wr rfl (by decide) (by rw[List.length_cons];omega) cl f d5;rw[jS rfl cl] at bo;obtain ⟨F,hF⟩:=jb0 (eh ar (N::M));rw[hF] at bo R;clear hF;change Q L 52 #[U #[S I 0,S I 0,S I 0,S I 0],O A1 (N::M).length a5] wr _ at bo;have b5:Z _:=bo;have bd:jb2 w wr:=ba.trans (g.mono (by omega));have d3:=b1.below g;have dp:=bG.below g;clear bo an f;go_wp2_with fail;refine ja0 b5 ?_;rintro e w5 ⟨C,cp,rfl,dy,hC,b7,a1⟩;clear b5;have d2:=d3.below a1;have dk:=dp.below a1;have bc:jb2 w w5:=bd.trans (a1.mono (by omega));go_upto_region 16 with fail;have bt:Gr w5 (w5.alloc (J (ja7 F C cp) 32)):=(gR _).alloc _;have b2:=d2.gr bt;have dl:=dk.gr bt;have aL:jb2 w (w5.alloc (J (ja7 F C cp) 32)):=bc.trans (bt.below.mono bc.size);have b8:CtxAt (w5.alloc (J (ja7 F C cp) 32)) w5.heap.size F C cp:=CtxAt.new 32 dy rfl;have d6:Z (∀a,C=some a->w.heap.size<=a.block):=fun a ha=>nT bd.size (b7 a ha);have cu:Z (∀a,C=some a->a.block≠w.heap.size+1):=fun a ha=>by have:=b7 a ha;omega
        generalize w5.alloc (J (ja7 F C cp) 32)=V at b2 dl aL b8 ⊢;clear d2 dk bc bt dy a1 d3 dp bd cn r5 g b7;generalize w5.heap.size=bC at b8 ⊢;have f6:=b2.lt;have e5:=ja1 aL.size;obtain ⟨z0,z1,z2,z3,z4,z5,zf,a4⟩:=(show Six _ _ _ _ _ _ _ _ from b2);obtain ⟨c0,c1,c2,c3,c4,f3,cs⟩:=(show CtxAt _ _ _ _ _ from b8);obtain ⟨n0,n1,f1⟩:=(show DotAt _ _ _ _ from dl);by_cases ap:400<F.l.length
        ·have b6:(400:Int)<(F.l.length:Int):=(by omega);rw[if_pos ap,if_pos ap] at R;have d:=ja1 R;clear R;go_wp2;rw[d.out.1,d.out.2];exact bodyPost_ret (v:= H #[U #[S I 0,S I 0,S I 0,S I 0,O none 0 0,O none 0 0],S I 2]) (by simp[results,Tryz.results26,go_sem,z0,z1,z2,z3,z4,z5]) rfl ⟨none,0,none,0,rfl,oL rfl,oL rfl,fun _=>rfl,fun _=>rfl,ac aL (by omega) _ _ _ _ _ _,(fun _ h=>by cases h),fun _ h=>by cases h⟩
        ·have b6:¬(400:Int)<(F.l.length:Int):=(by omega);rw[if_neg ap,if_neg ap] at R;have d:=ja1 R;clear R;have ah:∀a,C=some a->a.block≠w.heap.size+1:=cu.out;have hV:=(b2.set (S I F.c0) (S I F.c1) (S I F.c2) (S I F.c3) (O C F.l.length cp) (O (jb4 V.heap.size 0) 1 1)).gr ((gR _).alloc (J #[S I N.1,S I N.2,S I key,S I col,S I v] 91));have bp:Row _ C F.l:=(((((((cs.setCell (B:=w.heap.size+1) (j:=0) (S I F.c0) ah).setCell (j:=1) (S I F.c1) ah).setCell (j:=2) (S I F.c2) ah).setCell (j:=3) (S I F.c3) ah).setCell (j:=4) (O C F.l.length cp) ah).setCell (j:=5) (O (jb4 V.heap.size 0) 1 1) ah)).gr ((gR _).alloc (J #[S I N.1,S I N.2,S I key,S I col,S I v] 91));have a9:=(ac aL (B:=w.heap.size+1) (by omega) (S I F.c0) (S I F.c1) (S I F.c2) (S I F.c3) (O C F.l.length cp) (O (jb4 V.heap.size 0) 1 1)).alloc (by simp;omega) (J #[S I N.1,S I N.2,S I key,S I col,S I v] 91);have be:=sw (W:=(((((V.jb3 (w.heap.size+1) 0 (S I F.c0)).jb3 (w.heap.size+1) 1 (S I F.c1)).jb3 (w.heap.size+1) 2 (S I F.c2)).jb3 (w.heap.size+1) 3 (S I F.c3)).jb3 (w.heap.size+1) 4 (O C F.l.length cp)).jb3 (w.heap.size+1) 5 (O (jb4 V.heap.size 0) 1 1)) (n:=V.heap.size) (by simp) (N,key,col,v) 91;have d9:Z _:=hV;have cG:Z _:=a9;have dG:Z _:=bp;have c6:Z _:=be;clear hV a9 bp be ah;go_wp2;obtain ⟨v0,v1,v2,v3,v4,v5,vf,gb⟩:=(show Six _ _ _ _ _ _ _ _ from d9.out);have a9:=cG.out;have bp:=dG.out;have be:=c6.out;rw[d.out.1,d.out.2];generalize World.alloc _ _=X at v0 v1 v2 v3 v4 v5 a9 bp be ⊢;exact bodyPost_ret (v:= H #[U #[S I F.c0,S I F.c1,S I F.c2,S I F.c3,O C F.l.length cp,O (jb4 V.heap.size 0) 1 1],S I 0]) (by simp[results,Tryz.results26,go_sem,v0,v1,v2,v3,v4,v5]) rfl ⟨C,cp,_,1,rfl,bp,be,hC,fun h=>(by cases h),a9,d6.out,fun a h=>by injection h with h;rw[<-h];exact e5.out⟩
      ·have d:=ja1 (bs h2);have ej:(E2 != 0)=true:=by simpa using h2
       clear h2 bs a8 a7;obtain ⟨z0,z1,z2,z3,z4,z5,zf,a4⟩:=(show Six _ _ _ _ _ _ _ _ from b1);go_wp2;rw[d.out.1,d.out.2];exact bodyPost_ret (v:= H #[U #[S I 0,S I 0,S I 0,S I 0,O none 0 0,O none 0 0],S I E2]) (by simp[results,Tryz.results26,go_sem,z0,z1,z2,z3,z4,z5]) rfl ⟨none,0,none,0,rfl,oL rfl,oL rfl,fun _=>rfl,fun _=>rfl,ac ba (by omega) _ _ _ _ _ _,(fun _ h=>by cases h),fun _ h=>by cases h⟩
 ·have d:Z (cF t n key col v=E1/\dm t n key col v=⟨ar,[]⟩):=by have h2:cF t n key col v=E1:=(by unfold cF;rw[a6,if_pos h1]);exact ⟨h2,by unfold dm;rw[h2,if_neg h1]⟩
  have ej:(E1 != 0)=true:=by simpa using h1
  clear h1 a6;obtain ⟨z0,z1,z2,z3,z4,z5,zf,a4⟩:=(show Six _ _ _ _ _ _ _ _ from a3);go_wp2;rw[d.out.1,d.out.2];exact bodyPost_ret (v:= H #[U #[S I 0,S I 0,S I 0,S I 0,O none 0 0,O none 0 0],S I E1]) (by simp[results,Tryz.results26,go_sem,z0,z1,z2,z3,z4,z5]) rfl ⟨none,0,none,0,rfl,oL rfl,oL rfl,fun _=>rfl,fun _=>rfl,ac r (by omega) _ _ _ _ _ _,(fun _ h=>by cases h),fun _ h=>by cases h⟩


structure FiveAt (w:K) (B:Nat) (u0 u1 u2 u3 u4:o):Prop where
 k0:w.cell? ⟨B,0,none⟩=some u0
 k1:w.cell? ⟨B,1,none⟩=some u1
 k2:w.cell? ⟨B,2,none⟩=some u2
 k3:w.cell? ⟨B,3,none⟩=some u3
 k4:w.cell? ⟨B,4,none⟩=some u4
 fz:∀j,w.frozen? ⟨B,j,none⟩=false
 lt:B<w.heap.size
theorem FiveAt.new (W:K) (u0 u1 u2 u3 u4:o) (T:TypeId) {B:Nat} (c:W.heap.size=B):FiveAt (W.alloc (J #[u0,u1,u2,u3,u4] T)) B u0 u1 u2 u3 u4:=by subst c;exact ⟨ab (gR _) rfl,ab (gR _) rfl,ab (gR _) rfl,ab (gR _) rfl,ab (gR _) rfl,fun j=>ee (gR _) j,by simp⟩
theorem FiveAt.below {w w':K} {B:Nat} {u0 u1 u2 u3 u4:o} (h:FiveAt w B u0 u1 u2 u3 u4) (k:jb2 w w'):FiveAt w' B u0 u1 u2 u3 u4 :=
 ⟨(k.cell (p:=(jb5 B 0)) h.lt).trans h.k0,(k.cell (p:=(jb5 B 1)) h.lt).trans h.k1,(k.cell (p:=(jb5 B 2)) h.lt).trans h.k2,(k.cell (p:=(jb5 B 3)) h.lt).trans h.k3,(k.cell (p:=(jb5 B 4)) h.lt).trans h.k4,fun j=>(k.frozen (p:=(jb5 B j)) h.lt).trans (h.fz j),nL h.lt k.size⟩
theorem FiveAt.gr {w w':K} {B:Nat} {u0 u1 u2 u3 u4:o} (h:FiveAt w B u0 u1 u2 u3 u4) (k:Gr w w'):FiveAt w' B u0 u1 u2 u3 u4:=h.below k.below
theorem Gr.set5 {a b:K} (h:Gr a b) {B:Nat} (c:a.heap.size<=B) (u0 u1 u2 u3 u4:o):Gr a (((((b.jb3 B 0 u0).jb3 B 1 u1).jb3 B 2 u2).jb3 B 3 u3).jb3 B 4 u4) :=
 ((((h.setCell (p:=(jb5 B 0)) c u0).setCell (p:=(jb5 B 1)) c u1).setCell (p:=(jb5 B 2)) c u2).setCell (p:=(jb5 B 3)) c u3).setCell (p:=(jb5 B 4)) c u4

def ft (l:List Cel) (d:Int×Int):Cel:=(l.find? fun y=>decide (y.1=d)).getD ((0,0),0,0,0)
theorem vu {l:List Cel} {d:Int×Int} (h:bY l d=true):ft l d∈l/\(ft l d).1=d:=by
 unfold ft;cases c:l.find? fun y=>decide (y.1=d) with
 | none =>unfold bY at h;rw[List.any_eq_true] at h;obtain ⟨y,g,f⟩:=h;rw[List.find?_eq_none] at c;exact absurd f (c y g)
 | some y =>exact ⟨List.mem_of_find?_eq_some c,by simpa using List.find?_some c⟩
theorem yq {l:List Cel} {d:Int×Int} {k:Nat} (g:k<l.length) (h:l[k].1=d) (c:∀j (h:j<l.length),j<k->l[j].1≠d):ft l d=l[k]:=by
 unfold ft;have:l.find? (fun y=>decide (y.1=d))=some l[k]:=by rw[List.find?_eq_some_iff_getElem];refine ⟨by simpa using h,k,g,rfl,fun j f=> ?_⟩;have:=c j (by omega) f;simpa using this
 rw[this];rfl
theorem te {l:List Cel} {d:Int×Int} (h:bY l d=false):ft l d=((0,0),0,0,0):=by
 unfold ft;have:l.find? (fun y=>decide (y.1=d))=none:=by rw[List.find?_eq_none];unfold bY at h;rw[List.any_eq_false] at h;exact h
 rw[this];rfl

theorem jV (t:Tab) (A:Option q) (ca:Nat) (D:Option q) (cd:Nat) (d:Int×Int) (w:K) (bc:t.e.length<=maxLen) (hr:Row w A t.c.l) (hd:av w D t.e) :
  Q L 54 #[U (T6 t A ca D cd).toArray,U #[S I d.1,S I d.2]] w fun e w'=>e= P (H #[U #[S I (ft t.e d).1.1,S I (ft t.e d).1.2,S I (ft t.e d).2.1,S I (ft t.e d).2.2.1,S I (ft t.e d).2.2.2],s (bY t.e d)])/\Gr w w':=by
 obtain ⟨C,E⟩:=d;unfold maxLen at bc;have ad:Tryz.prog.follows .mixedOrders=true:=by kernel_rfl
 have hE:=vh;have a6:Gr w (((w.alloc (J #[S I t.c.c0,S I t.c.c1,S I t.c.c2,S I t.c.c3,O A t.c.l.length ca,O D t.e.length cd] 35)).alloc (J #[S I C,S I E] 89)).alloc (J #[S I 0,S I 0,S I 0,S I 0,S I 0] 91)):=(((gR _).alloc _).alloc _).alloc _;have a9:TabAt (((w.alloc (J #[S I t.c.c0,S I t.c.c1,S I t.c.c2,S I t.c.c3,O A t.c.l.length ca,O D t.e.length cd] 35)).alloc (J #[S I C,S I E] 89)).alloc (J #[S I 0,S I 0,S I 0,S I 0,S I 0] 91)) w.heap.size t A ca D cd:=(TabAt.new 35 hr hd rfl).gr (((gR _).alloc _).alloc _);have a2:DotAt (((w.alloc (J #[S I t.c.c0,S I t.c.c1,S I t.c.c2,S I t.c.c3,O A t.c.l.length ca,O D t.e.length cd] 35)).alloc (J #[S I C,S I E] 89)).alloc (J #[S I 0,S I 0,S I 0,S I 0,S I 0] 91)) (w.heap.size+1) C E:=(DotAt.new 89 (by simp)).gr ((gR _).alloc _);have a3:FiveAt (((w.alloc (J #[S I t.c.c0,S I t.c.c1,S I t.c.c2,S I t.c.c3,O A t.c.l.length ca,O D t.e.length cd] 35)).alloc (J #[S I C,S I E] 89)).alloc (J #[S I 0,S I 0,S I 0,S I 0,S I 0] 91)) (w.heap.size+1+1) (S I 0) (S I 0) (S I 0) (S I 0) (S I 0):=FiveAt.new _ _ _ _ _ _ 91 (by simp);go_enter Tryz.func54,Tryz.ntmps54;go_wp2;generalize ((w.alloc (J #[S I t.c.c0,S I t.c.c1,S I t.c.c2,S I t.c.c3,O A t.c.l.length ca,O D t.e.length cd] 35)).alloc (J #[S I C,S I E] 89)).alloc (J #[S I 0,S I 0,S I 0,S I 0,S I 0] 91)=w0 at a6 a9 a2 a3 ⊢;go_loopw [6] (fun i wr=>∃k:Nat,k<=t.e.length/\i= S I k/\Z (∀j (h:j<t.e.length),j<k->t.e[j].1≠(C,E))/\Gr w0 wr) (fun i _=>t.e.length-(intOf i).toNat);exact ⟨0,nZ _,rfl,fun j _ hj=>absurd hj (Nat.not_lt_zero _),gR _⟩;obtain ⟨k,hk,rfl,a0,R⟩:=hrel;have an:=a9.gr R;have ah:=a2.gr R;have a5:=a3.gr R;have a7:Gr w wr:=a6.trans R;have k5:=an.k5;by_cases ak:k<t.e.length
 ·have a8:(k:Int)<(t.e.length:Int):=by omega
  obtain ⟨bb,u,rfl,m,ba⟩:=av.get an.rowC ak;obtain ⟨x,hx⟩:=jb0 (t.e[k]);obtain ⟨e0,e1,e2,e3,e4⟩:=ba k ak;rw[hx] at e0 e1 e2 e3 e4;have ao:=ja1 hx;have q0:=cell_grown (a:=(jb5 bb (u+k*5))) m e0;have q1:=cell_grown (a:=(jb5 bb (u+k*5+1))) m e1;have kG:=cell_grown (a:=(jb5 w.heap.size 5)) an.lt k5;obtain ⟨d0,d1⟩:=(show (∀n os,jb1 (grow (wr.drewN n) os) (w.heap.size+1) 0 (S I C))/\(∀n os,jb1 (grow (wr.drewN n) os) (w.heap.size+1) 1 (S I E)) from ⟨cell_grown (a:=(jb5 (w.heap.size+1) 0)) ah.lt ah.k0,cell_grown (a:=(jb5 (w.heap.size+1) 1)) ah.lt ah.k1⟩);cases hq:(x.1.1==C && x.1.2==E)
  ·have bd:Z (t.e[k].1≠(C,E)):=(by intro h;rw[ao.out] at h;rw[h] at hq;simp at hq);go_wp2;refine wp_region_quiet_grown ad (by kernel_rfl) ?_;repeat (go_big_quiet_step (fail))
   refine wpQuiet_nil ?_;rintro _ ⟨⟨nq,F⟩,rfl⟩;go_wp2;go_roundw;case rel =>
    refine ⟨k+1,by omega,by go_num,?_,R.trans ⟨nq,F,rfl⟩⟩;intro j hj bh;by_cases e:j=k
    ·subst e;exact bd
    ·exact a0 j hj (by omega)
   case measure=>simp[intOf];omega
  ·have a1:x.1=(C,E):=(by simp only[Bool.and_eq_true,beq_iff_eq] at hq;exact Prod.ext hq.1 hq.2);have aL:x∈t.e:=by rw[<-ao.out];exact gM ak
   have f:Z (bY t.e (C,E)=true/\ft t.e (C,E)=x):=(by refine ⟨?_,by rw[yq ak (by rw[ao.out];exact a1) a0.out,ao.out]⟩;unfold bY;rw[List.any_eq_true];exact ⟨x,aL,by simpa using a1⟩);clear a1 aL;go_wp2;refine wp_region_quiet_grown ad (by kernel_rfl) ?_;repeat (go_big_quiet_step (fail))
   refine wpQuiet_nil ?_;rintro _ ⟨⟨nq,F⟩,rfl⟩;have g:Gr wr (grow (wr.drewN nq) F):=⟨nq,F,rfl⟩;have a4:=a5.gr g;have r5:=(an.gr g).k5;have ap:Gr w (grow (wr.drewN nq) F):=a7.trans g;have f0:=(g.cell (p:=(jb5 bb (u+k*5))) m).trans e0;have f1:=(g.cell (p:=(jb5 bb (u+k*5+1))) m).trans e1;have f2:=(g.cell (p:=(jb5 bb (u+k*5+2))) m).trans e2;have f3:=(g.cell (p:=(jb5 bb (u+k*5+3))) m).trans e3;have f4:=(g.cell (p:=(jb5 bb (u+k*5+4))) m).trans e4;generalize grow (wr.drewN nq) F=wq at a4 r5 ap f0 f1 f2 f3 f4 ⊢;obtain ⟨z0,z1,z2,z3,z4,zf,be⟩:=(show FiveAt _ _ _ _ _ _ _ from a4);go_wp2;rw[f.out.1,f.out.2];exact bodyPost_ret (v:= H #[U #[S I x.1.1,S I x.1.2,S I x.2.1,S I x.2.2.1,S I x.2.2.2],s true]) (by simp[results,Tryz.results54,go_sem,z0,z1,z2,z3,z4]) rfl ⟨rfl,ap.set5 (by omega) _ _ _ _ _⟩
 ·have a8:¬(k:Int)<(t.e.length:Int):=by omega
  have r:bY t.e (C,E)=false:=by unfold bY;rw[List.any_eq_false];intro y hy he;obtain ⟨j,hj,rfl⟩:=List.getElem_of_mem hy;exact a0 j hj (by omega) (by simpa using he)
  have f:=ja2 r (te r);clear r;obtain ⟨z0,z1,z2,z3,z4,zf,be⟩:=(show FiveAt _ _ _ _ _ _ _ from a5);go_wp2;rw[f.out.1,f.out.2];exact bodyPost_ret (v:= H #[U #[S I 0,S I 0,S I 0,S I 0,S I 0],s false]) (by simp[results,Tryz.results54,go_sem,z0,z1,z2,z3,z4]) rfl ⟨rfl,a7.set5 (by omega) _ _ _ _ _⟩


theorem ZAt.belowB {w w':K} {B c:Nat} (h:ZAt w B) (k:Y c w w') (d:B<c):ZAt w' B :=
 ⟨(k.cell (p:=(jb5 B 0)) d).trans h.k0,(k.cell (p:=(jb5 B 1)) d).trans h.k1,(k.cell (p:=(jb5 B 2)) d).trans h.k2,(k.cell (p:=(jb5 B 3)) d).trans h.k3,(k.cell (p:=(jb5 B 4)) d).trans h.k4,fun j=>(k.frozen (p:=(jb5 B j)) d).trans (h.fz j),nL h.lt k.size⟩
theorem ZAt.grown {w w':K} {B:Nat} {row:Option Nat} (h:ZAt w B) (c:w.grownBy w' row) (d:some B≠row):ZAt w' B:=by have f:=c.block B h.lt d;refine ⟨c.cell h.k0 d,c.cell h.k1 d,c.cell h.k2 d,c.cell h.k3 d,c.cell h.k4 d,fun j=> ?_,nL h.lt c.size⟩;have:=h.fz j;simpa[World.frozen?,f] using this
theorem ClkAt.drewN {w:K} {B:Nat} {d f x2 x3:Int} (h:ClkAt w B d f x2 x3) (n:Nat):ClkAt (w.drewN n) B d f x2 x3:=by have c:Gr w (w.drewN n):=(gR w).drewN n;exact ⟨(c.below.cell (p:=(jb5 B 0)) h.lt).trans h.k0,(c.below.cell (p:=(jb5 B 1)) h.lt).trans h.k1,(c.below.cell (p:=(jb5 B 2)) h.lt).trans h.k2,(c.below.cell (p:=(jb5 B 3)) h.lt).trans h.k3,fun j=>(c.below.frozen (p:=(jb5 B j)) h.lt).trans (h.fz j),nL h.lt c.size⟩
theorem dq {B:Nat} {a w:K} (h:Y B a w) (c:B<=a.heap.size) (n:Nat):Y B a (w.drewN n):=h.trans (((gR w).drewN n).below.mono (nT c h.size))

theorem rq (a b:Ctx) (A B:Option q) (ca cb:Nat) (w:K) (bN:Z (eH a b=0)) (es:Row w A a.l) (ey:Row w B b.l) (hA:A=none->ca=0) (hB:B=none->cb=0) :
  Q L 55 #[U #[S I a.c0,S I a.c1,S I a.c2,S I a.c3,O A a.l.length ca],U #[S I b.c0,S I b.c1,S I b.c2,S I b.c3,O B b.l.length cb]] w fun e w'=>∃C cp,e= P (H #[U #[S I (aO a b).c0,S I (aO a b).c1,S I (aO a b).c2,S I (aO a b).c3,O C (aO a b).l.length cp],S I (aI a b)])/\Row w' C (aO a b).l/\(C=none->cp=0)/\(∀x,C=some x->w.heap.size<=x.block)/\Y w.heap.size w w':=by
 have dx:Gr w (((w.alloc (J #[S I a.c0,S I a.c1,S I a.c2,S I a.c3,O A a.l.length ca] 32)).alloc (J #[S I b.c0,S I b.c1,S I b.c2,S I b.c3,O B b.l.length cb] 32)).alloc (J #[S I 0,S I 0,S I 0,S I 0,O none 0 0] 32)):=(((gR w).alloc _).alloc _).alloc _;have d5:CtxAt (((w.alloc (J #[S I a.c0,S I a.c1,S I a.c2,S I a.c3,O A a.l.length ca] 32)).alloc (J #[S I b.c0,S I b.c1,S I b.c2,S I b.c3,O B b.l.length cb] 32)).alloc (J #[S I 0,S I 0,S I 0,S I 0,O none 0 0] 32)) w.heap.size a A ca:=(CtxAt.new 32 es rfl).gr (((gR _).alloc _).alloc _);have dv:CtxAt (((w.alloc (J #[S I a.c0,S I a.c1,S I a.c2,S I a.c3,O A a.l.length ca] 32)).alloc (J #[S I b.c0,S I b.c1,S I b.c2,S I b.c3,O B b.l.length cb] 32)).alloc (J #[S I 0,S I 0,S I 0,S I 0,O none 0 0] 32)) (w.heap.size+1) b B cb:=(CtxAt.new 32 (ey.gr ((gR _).alloc _)) (by simp)).gr ((gR _).alloc _);have d1:CtxAt (((w.alloc (J #[S I a.c0,S I a.c1,S I a.c2,S I a.c3,O A a.l.length ca] 32)).alloc (J #[S I b.c0,S I b.c1,S I b.c2,S I b.c3,O B b.l.length cb] 32)).alloc (J #[S I 0,S I 0,S I 0,S I 0,O none 0 0] 32)) (w.heap.size+1+1) ar none 0:=CtxAt.new (c:=ar) (A:=none) (cap:=0) 32 (oL rfl) (by simp);have dl:∀j,(((w.alloc (J #[S I a.c0,S I a.c1,S I a.c2,S I a.c3,O A a.l.length ca] 32)).alloc (J #[S I b.c0,S I b.c1,S I b.c2,S I b.c3,O B b.l.length cb] 32)).alloc (J #[S I 0,S I 0,S I 0,S I 0,O none 0 0] 32)).frozen? ⟨w.heap.size+1+1,j,none⟩=false:=fun j=>by have:=ee (w:=(w.alloc (J #[S I a.c0,S I a.c1,S I a.c2,S I a.c3,O A a.l.length ca] 32)).alloc (J #[S I b.c0,S I b.c1,S I b.c2,S I b.c3,O B b.l.length cb] 32)) (gR (((w.alloc (J #[S I a.c0,S I a.c1,S I a.c2,S I a.c3,O A a.l.length ca] 32)).alloc (J #[S I b.c0,S I b.c1,S I b.c2,S I b.c3,O B b.l.length cb] 32)).alloc (J #[S I 0,S I 0,S I 0,S I 0,O none 0 0] 32))) j;simpa using this
 go_enter Tryz.func55,Tryz.ntmps55;have hN:(((w.alloc (J #[S I a.c0,S I a.c1,S I a.c2,S I a.c3,O A a.l.length ca] 32)).alloc (J #[S I b.c0,S I b.c1,S I b.c2,S I b.c3,O B b.l.length cb] 32)).alloc (J #[S I 0,S I 0,S I 0,S I 0,O none 0 0] 32)).heap.size=w.heap.size+1+1+1:=by simp
 have dG:ClkAt ((((w.alloc (J #[S I a.c0,S I a.c1,S I a.c2,S I a.c3,O A a.l.length ca] 32)).alloc (J #[S I b.c0,S I b.c1,S I b.c2,S I b.c3,O B b.l.length cb] 32)).alloc (J #[S I 0,S I 0,S I 0,S I 0,O none 0 0] 32)).alloc (J #[S I a.c0,S I a.c1,S I a.c2,S I a.c3] 29)) (((w.alloc (J #[S I a.c0,S I a.c1,S I a.c2,S I a.c3,O A a.l.length ca] 32)).alloc (J #[S I b.c0,S I b.c1,S I b.c2,S I b.c3,O B b.l.length cb] 32)).alloc (J #[S I 0,S I 0,S I 0,S I 0,O none 0 0] 32)).heap.size a.c0 a.c1 a.c2 a.c3:=⟨ab (gR _) rfl,ab (gR _) rfl,ab (gR _) rfl,ab (gR _) rfl,fun j=>ee (gR _) j,by simp⟩;go_wp2;generalize ((w.alloc (J #[S I a.c0,S I a.c1,S I a.c2,S I a.c3,O A a.l.length ca] 32)).alloc (J #[S I b.c0,S I b.c1,S I b.c2,S I b.c3,O B b.l.length cb] 32)).alloc (J #[S I 0,S I 0,S I 0,S I 0,O none 0 0] 32)=w1 at d5 dv d1 dl dx hN dG ⊢;rw[hN] at dG;have c4:Z (w1.heap.size=w.heap.size+1+1+1):=hN;go_loopw [7] (fun i wr=>∃k:Nat,k<=4/\i= S I k/\ClkAt wr (w.heap.size+1+1+1) (ep a b k).1 (ep a b k).2.1 (ep a b k).2.2.1 (ep a b k).2.2.2/\Y (w.heap.size+1+1+1) w1 wr) (fun i _=>4-(intOf i).toNat);exact ⟨0,by omega,rfl,dG,(bR _ _).alloc (Nat.le_of_eq c4.out.symm) _⟩;obtain ⟨k,hk,rfl,ap,aL⟩:=hrel;have bb:w.heap.size+1+1+1<=w1.heap.size:=Nat.le_of_eq c4.out.symm;by_cases e1:k<4
 ·have h4:k=0\/k=1\/k=2\/k=3:=by omega
  obtain ⟨b0,b1,b2,b3,b4,e0,_⟩:=(show CtxAt _ _ _ _ _ from dv.below (by show Y _ _ _;rw[c4.out];exact aL));obtain ⟨c0,c1,c2,c3,cf,cm⟩:=(show ClkAt _ _ _ _ _ _ from ap);rcases h4 with rfl|rfl|rfl|rfl
  ·simp only[ep] at c0 c1 c2 c3 ap;by_cases dy:a.c0<b.c0
   ·have a8:max a.c0 b.c0=b.c0:=(by omega);go_upto_region 5 with fail;go_quiet (fail);go_wp2;go_roundw;case rel=>exact ⟨1,by omega,by go_num,by have:=(ap.drewN nq).set 0 b.c0;simpa[ep,a8] using this,(dq aL bb nq).setCell (nR _) _⟩
    case measure=>simp[intOf]
   ·have a8:max a.c0 b.c0=a.c0:=(by omega);go_upto_region 5 with fail;go_quiet (fail);go_wp2;go_roundw;case rel=>exact ⟨1,by omega,by go_num,by simpa[ep,a8] using ap.drewN nq,dq aL bb nq⟩
    case measure=>simp[intOf]
  ·simp only[ep] at c0 c1 c2 c3 ap;by_cases dy:a.c1<b.c1
   ·have a8:max a.c1 b.c1=b.c1:=(by omega);go_upto_region 5 with fail;go_quiet (fail);go_wp2;go_roundw;case rel=>exact ⟨2,by omega,by go_num,by have:=(ap.drewN nq).set 1 b.c1;simpa[ep,a8] using this,(dq aL bb nq).setCell (nR _) _⟩
    case measure=>simp[intOf]
   ·have a8:max a.c1 b.c1=a.c1:=(by omega);go_upto_region 5 with fail;go_quiet (fail);go_wp2;go_roundw;case rel=>exact ⟨2,by omega,by go_num,by simpa[ep,a8] using ap.drewN nq,dq aL bb nq⟩
    case measure=>simp[intOf]
  ·simp only[ep] at c0 c1 c2 c3 ap;by_cases dy:a.c2<b.c2
   ·have a8:max a.c2 b.c2=b.c2:=(by omega);go_upto_region 5 with fail;go_quiet (fail);go_wp2;go_roundw;case rel=>exact ⟨3,by omega,by go_num,by have:=(ap.drewN nq).set 2 b.c2;simpa[ep,a8] using this,(dq aL bb nq).setCell (nR _) _⟩
    case measure=>simp[intOf]
   ·have a8:max a.c2 b.c2=a.c2:=(by omega);go_upto_region 5 with fail;go_quiet (fail);go_wp2;go_roundw;case rel=>exact ⟨3,by omega,by go_num,by simpa[ep,a8] using ap.drewN nq,dq aL bb nq⟩
    case measure=>simp[intOf]
  ·simp only[ep] at c0 c1 c2 c3 ap;by_cases dy:a.c3<b.c3
   ·have a8:max a.c3 b.c3=b.c3:=(by omega);go_upto_region 5 with fail;go_quiet (fail);go_wp2;go_roundw;case rel=>exact ⟨4,by omega,by go_num,by have:=(ap.drewN nq).set 3 b.c3;simpa[ep,a8] using this,(dq aL bb nq).setCell (nR _) _⟩
    case measure=>simp[intOf]
   ·have a8:max a.c3 b.c3=a.c3:=(by omega);go_upto_region 5 with fail;go_quiet (fail);go_wp2;go_roundw;case rel=>exact ⟨4,by omega,by go_num,by simpa[ep,a8] using ap.drewN nq,dq aL bb nq⟩
    case measure=>simp[intOf]
 ·obtain rfl:k=4:=by omega
  simp only[ep] at ap;simp only[show (0<4)=True from by simp,show (1<4)=True from by simp,show (2<4)=True from by simp,show (3<4)=True from by simp,if_true] at ap;have bs:Y w1.heap.size w1 wr:=by rw[c4.out];exact aL
  have d6:=d5.below bs;have d7:=dv.below bs;have cl:=d1.below bs;have eb:∀j,wr.frozen? ⟨w.heap.size+1+1,j,none⟩=false:=fun j=>(bs.frozen (p:=⟨w.heap.size+1+1,j,none⟩) d1.lt).trans (dl j);have ad:Z (Y w.heap.size w wr):=dx.below.trans (bs.mono dx.size);have c5:=kJ bN.out;have ej:=aY c5.1;have ek:=aY c5.2;have d9:Z (∀W,Y wr.heap.size wr W->Row W A a.l):=fun W h=>d6.row.below h;have d0:Z (∀W,Y wr.heap.size wr W->Row W B b.l):=fun W h=>d7.row.below h;have d4:Z (A=none->ca=0):=hA;have ds:Z (B=none->cb=0):=hB;obtain ⟨F,hF⟩:∃F,eh (iQ a b) (a.l++b.l)=F:=⟨_,rfl⟩;have ea:∀x∈a.l++b.l,ai x=true:=fun x R=>by
   rcases List.mem_append.1 R with h|h
   ·exact fr c5.1 x h
   ·exact fr c5.2 x h
  have em:∀(W:K) (C1:Option q) (ce:Nat),Row W C1 (a.l++b.l)->(C1=none->ce=0)->Q L 52 #[U #[S I (max a.c0 b.c0),S I (max a.c1 b.c1),S I (max a.c2 b.c2),S I (max a.c3 b.c3)],O C1 (a.l.length+b.l.length) ce] W fun e w'=>∃r f,e= P (U #[S I F.c0,S I F.c1,S I F.c2,S I F.c3,O r F.l.length f])/\Row w' r F.l/\(r=none->f=0)/\(∀x,r=some x->W.heap.size<=x.block)/\Y W.heap.size W w':=fun W C1 ce en eg=>by have h:=j3 (iQ a b) (a.l++b.l) C1 ce W rfl (lT ej.1 ek.1) (by rw[List.length_append];omega) ea en eg;rw[jS rfl ea,hF,List.length_append] at h;exact h
  have dk:Z (∀(W:K) (C1:Option q) (ce:Nat),Row W C1 (a.l++b.l)->(C1=none->ce=0)->_):=em;have bc:Z (gX a b=F):=hF;have dg:Z ((([]:List (Int×Int)).length+a.l.length)*16<=140737488355328):=by show _<=_;simp;omega
  have cs:Z ((a.l.length+b.l.length)*16<=140737488355328):=by show _<=_;omega
  obtain ⟨c0,c1,c2,c3,cf,cm⟩:=(show ClkAt _ _ _ _ _ _ from ap);obtain ⟨a0,a1,a2,a3,a4,d2,_⟩:=(show CtxAt _ _ _ _ _ from d6);obtain ⟨b0,b1,b2,b3,b4,d3,_⟩:=(show CtxAt _ _ _ _ _ from d7);have g:Z (∀w':K,Y wr.heap.size wr w'->(fun w'=>w'.cell? ⟨w.heap.size+1+1+1,0,none⟩=some (S I (max a.c0 b.c0))/\w'.cell? ⟨w.heap.size+1+1+1,1,none⟩=some (S I (max a.c1 b.c1))/\w'.cell? ⟨w.heap.size+1+1+1,2,none⟩=some (S I (max a.c2 b.c2))/\w'.cell? ⟨w.heap.size+1+1+1,3,none⟩=some (S I (max a.c3 b.c3))/\w'.cell? ⟨w.heap.size,4,none⟩=some (O A a.l.length ca)/\w'.cell? ⟨w.heap.size+1,4,none⟩=some (O B b.l.length cb)) w'):=fun w' hb=>⟨(hb.cell (p:=⟨w.heap.size+1+1+1,0,none⟩) cm).trans c0,(hb.cell (p:=⟨w.heap.size+1+1+1,1,none⟩) cm).trans c1,(hb.cell (p:=⟨w.heap.size+1+1+1,2,none⟩) cm).trans c2,(hb.cell (p:=⟨w.heap.size+1+1+1,3,none⟩) cm).trans c3,(hb.cell (p:=⟨w.heap.size,4,none⟩) d2).trans a4,(hb.cell (p:=⟨w.heap.size+1,4,none⟩) d3).trans b4⟩;have b5:Z (ZAt wr (w.heap.size+1+1)):=⟨cl.k0,cl.k1,cl.k2,cl.k3,cl.k4,eb,cl.lt⟩;go_upto_region 7 with fail;have c6:Y wr.heap.size wr wr.drew:=(bR _ _).drew;have d8:Z (Y wr.heap.size wr (wr.drew.alloc (J #[S I 0,S I 0,S I 0,S I 0,O none 0 0] 32))):=c6.alloc (nR _) _;have cd:Z (Y wr.heap.size wr (wr.alloc (J #[S I 0,S I 0,S I 0,S I 0,O none 0 0] 32)).drew):=((bR _ _).alloc (nR _) _).drew
  go_region_held3 (fun w'=>w'.cell? ⟨w.heap.size+1+1+1,0,none⟩=some (S I (max a.c0 b.c0))/\w'.cell? ⟨w.heap.size+1+1+1,1,none⟩=some (S I (max a.c1 b.c1))/\w'.cell? ⟨w.heap.size+1+1+1,2,none⟩=some (S I (max a.c2 b.c2))/\w'.cell? ⟨w.heap.size+1+1+1,3,none⟩=some (S I (max a.c3 b.c3))/\w'.cell? ⟨w.heap.size,4,none⟩=some (O A a.l.length ca)/\w'.cell? ⟨w.heap.size+1,4,none⟩=some (O B b.l.length cb)) (first|with_reducible exact g.out _ c6|with_reducible exact g.out _ cd.out|with_reducible exact g.out _ d8.out|with_reducible exact g.out _ D.out|with_reducible exact g.out _ (D.out.alloc D.out.size _)|with_reducible exact g.out _ ao.out|with_reducible exact g.out _ (ao.out.alloc ao.out.size _)|with_reducible exact g.out _ E.out|with_reducible exact g.out _ (E.out.alloc E.out.size _)|with_reducible exact g.out _ (au E.out (nR _) _ _ _ _ _)|with_reducible exact g.out _ (au E.out D.out.size _ _ _ _ _)|with_reducible exact g.out _ (au E.out ao.out.size _ _ _ _ _))
   (first
    | (refine cN _ rfl _ (.tmp 31) rfl wr.heap.size (O none 0 0) [] a.l A ca (by simp[Act.eval]) (by simp[Act.eval]) (Own.nil _ _) (d9.out _ c6) d4.out dg.out (nR _) ?_;intro vA wA bt bG cr;have D:Z (Y wr.heap.size wr wA):=c6.trans (bB bG);have n:Z (Own wA wr.heap.size vA a.l):=bt;clear bt bG cr;obtain ⟨A1,b9,rfl,ec,b8,cu⟩:=n.out.row;clear b8 cu)
    | (refine cN _ rfl _ (.tmp 31) rfl (wr.heap.size+1) (O none 0 0) [] a.l A ca (by simp[Act.eval]) (by simp[Act.eval]) (Own.nil _ _) (d9.out _ cd.out) d4.out dg.out (by simp) ?_;intro vA wA bt bG cr;have D:Z (Y wr.heap.size wr wA):=cd.out.trans ((bB bG).mono cd.out.size);have c8:Z (ZAt wA wr.heap.size):=((ZAt.new wr 32 rfl).below ((gR _).drew).below).below (bB bG);have n:Z (Own wA (wr.heap.size+1) vA a.l):=bt;clear bt bG cr;obtain ⟨A1,b9,rfl,ec,b8,cu⟩:=n.out.row;clear b8 cu)
    | (refine cN _ rfl (.tmp 32) (.tmp 34) rfl wr.heap.size (O A1 a.l.length b9) a.l b.l B cb (by simp[Act.eval]) (by simp[Act.eval]) n.out (d0.out _ D.out) ds.out cs.out D.out.size ?_;intro vB u ak a5 b6;have ao:Z (Y wr.heap.size wr u):=D.out.trans (Own.grown_below n.out a5 D.out.size);have bv:Z (Own u wr.heap.size vB (a.l++b.l)):=ak;clear ak a5 b6;obtain ⟨A2,cc,rfl,cG,an,b7⟩:=bv.out.row;clear b7;have bd:Z (Row u A2 (a.l++b.l)):=an;clear an)
    | (refine cN _ rfl (.tmp 32) (.tmp 34) rfl (wr.heap.size+1) (O A1 a.l.length b9) a.l b.l B cb (by simp[Act.eval]) (by simp[Act.eval]) n.out (d0.out _ D.out) ds.out cs.out c8.out.lt ?_;intro vB u ak a5 b6;have ao:Z (Y wr.heap.size wr u):=D.out.trans ((Own.grown_below n.out a5 c8.out.lt).mono (Nat.le_succ _));have c9:Z (ZAt u wr.heap.size):=c8.out.belowB (Own.grown_below n.out a5 c8.out.lt) (Nat.lt_succ_self _);have bv:Z (Own u (wr.heap.size+1) vB (a.l++b.l)):=ak;clear ak a5 b6;obtain ⟨A2,cc,rfl,cG,an,b7⟩:=bv.out.row;clear b7;have bd:Z (Row u A2 (a.l++b.l)):=an;clear an)
    | (refine cN _ rfl (.tmp 32) (.tmp 34) rfl wr.heap.size (O A1 a.l.length b9) a.l b.l B cb (by simp[Act.eval]) (by simp[Act.eval]) (n.out.gr ((gR _).alloc _)) (d0.out _ (D.out.alloc D.out.size _)) ds.out cs.out (D.out.alloc D.out.size _).size ?_;intro vB u ak a5 b6;have ao:Z (Y wr.heap.size wr u):=(D.out.alloc D.out.size _).trans (Own.grown_below (n.out.gr ((gR _).alloc _)) a5 (D.out.alloc D.out.size _).size);have c9:Z (ZAt u wA.heap.size):=(ZAt.new wA 32 rfl).grown a5 (fun e=>by have:=(n.out.lt _ e.symm).2;omega);have bv:Z (Own u wr.heap.size vB (a.l++b.l)):=ak;clear ak a5 b6;obtain ⟨A2,cc,rfl,cG,an,b7⟩:=bv.out.row;clear b7;have bd:Z (Row u A2 (a.l++b.l)):=an;clear an)
    | (go_at_call 52;(with_reducible refine cM (show Q _ _ _ _ _ from dk.out (u.alloc (J #[S I 0,S I 0,S I 0,S I 0,O none 0 0] 32)) A2 cc (bd.out.gr ((gR _).alloc _)) cG) ?_);rintro e wP ⟨r,f,rfl,bC,cn,bl,ba⟩;have E:Z (Y wr.heap.size wr wP):=(ao.out.alloc ao.out.size _).trans (ba.mono (ao.out.alloc ao.out.size _).size);have cv:Z (Row wP r F.l):=bC;have a9:Z (∀x,r=some x->(u.alloc (J #[S I 0,S I 0,S I 0,S I 0,O none 0 0] 32)).heap.size<=x.block):=bl;have ck:Z (ZAt wP u.heap.size):=(ZAt.new u 32 rfl).below ba;clear bC bl ba;obtain ⟨y0,y1,y2,y3,y4,yf,ez⟩:=ck.out)
    | (go_at_call 52;(with_reducible refine cM (show Q _ _ _ _ _ from dk.out u A2 cc bd.out cG) ?_);rintro e wP ⟨r,f,rfl,bC,cn,bl,ba⟩;have E:Z (Y wr.heap.size wr wP):=ao.out.trans (ba.mono ao.out.size);have cv:Z (Row wP r F.l):=bC;have a9:Z (∀x,r=some x->u.heap.size<=x.block):=bl;clear bC bl;first|(have ck:Z (ZAt wP _):=c9.out.below ba;obtain ⟨y0,y1,y2,y3,y4,yf,ez⟩:=ck.out;clear ba)|(clear ba)))
  ·have cj:w.heap.size+1+1<wr.heap.size:=b5.out.lt;have cz:wr.heap.size<=u.heap.size:=ao.out.size;have c7:wr.heap.size<=wP.heap.size:=E.out.size;have bo:CtxAt (wP.alloc (J #[S I F.c0,S I F.c1,S I F.c2,S I F.c3,O r F.l.length f] 32)) wP.heap.size F r f:=CtxAt.new 32 cv.out rfl;have bp:ZAt (wP.alloc (J #[S I F.c0,S I F.c1,S I F.c2,S I F.c3,O r F.l.length f] 32)) (w.heap.size+1+1):=(b5.out.below E.out).below ((gR _).alloc _).below;have a7:Z (Y w.heap.size w (wP.alloc (J #[S I F.c0,S I F.c1,S I F.c2,S I F.c3,O r F.l.length f] 32))):=(ad.out.trans (E.out.mono ad.out.size)).alloc (nT ad.out.size c7) _;have bh:Z (∀x,r=some x->w.heap.size+1+1<x.block):=fun x R=>by have:=a9.out x R;omega
   generalize (wP.alloc (J #[S I F.c0,S I F.c1,S I F.c2,S I F.c3,O r F.l.length f] 32))=V at bo bp a7 ⊢;obtain ⟨f0,f1,f2,f3,f4,dp,be⟩:=(show CtxAt _ _ _ _ _ from bo);obtain ⟨z0,z1,z2,z3,z4,zf,zl⟩:=(show ZAt _ _ from bp);by_cases ah:400<F.l.length
   ·have a6:(400:Int)<(F.l.length:Int):=(by omega);have d:Z (aI a b=2/\aO a b=ar):=by have h1:aI a b=2:=(by unfold aI;rw[if_pos bN.out,bc.out,if_pos ah]);exact ⟨h1,by simp[aO,h1]⟩
    go_wp2;rw[d.out.1,d.out.2];exact bodyPost_ret (v:= H #[U #[S I 0,S I 0,S I 0,S I 0,O none 0 0],S I 2]) (by simp[results,Tryz.results55,go_sem,z0,z1,z2,z3,z4]) rfl ⟨none,0,rfl,oL rfl,fun _=>rfl,(fun x R=>by cases R),au a7.out (by omega) _ _ _ _ _⟩
   ·have a6:¬(400:Int)<(F.l.length:Int):=(by omega);have d:Z (aI a b=0/\aO a b=F):=by have h1:aI a b=0:=(by unfold aI;rw[if_pos bN.out,bc.out,if_neg ah]);exact ⟨h1,by simp[aO,h1,bc.out]⟩
    have m:∀x,r=some x->x.block≠w.heap.size+1+1:=(fun x R=>by have:=bh.out x R;omega);go_wp2;rw[d.out.1,d.out.2];refine bodyPost_ret (v:= H #[U #[S I F.c0,S I F.c1,S I F.c2,S I F.c3,O r F.l.length f],S I 0]) (by simp[results,Tryz.results55,go_sem,z0,z1,z2,z3,z4]) rfl ⟨r,f,rfl,?_,cn,fun x R=>by have:=bh.out x R;omega,au a7.out (by omega) _ _ _ _ _⟩;exact ((((be.setCell _ m).setCell _ m).setCell _ m).setCell _ m).setCell _ m
  ·have cj:w.heap.size+1+1<wr.heap.size:=b5.out.lt;have cz:wr.heap.size<=u.heap.size:=ao.out.size;have c7:wr.heap.size<=wP.heap.size:=E.out.size;have bo:CtxAt (((((wP.setCell ⟨u.heap.size,0,none⟩ (S I F.c0)).setCell ⟨u.heap.size,1,none⟩ (S I F.c1)).setCell ⟨u.heap.size,2,none⟩ (S I F.c2)).setCell ⟨u.heap.size,3,none⟩ (S I F.c3)).setCell ⟨u.heap.size,4,none⟩ (O r F.l.length f)) u.heap.size F r f:=(ck.out.ctx).set cv.out (fun x R=>by have h1:=a9.out x R;simp at h1;omega);have bp:ZAt (((((wP.setCell ⟨u.heap.size,0,none⟩ (S I F.c0)).setCell ⟨u.heap.size,1,none⟩ (S I F.c1)).setCell ⟨u.heap.size,2,none⟩ (S I F.c2)).setCell ⟨u.heap.size,3,none⟩ (S I F.c3)).setCell ⟨u.heap.size,4,none⟩ (O r F.l.length f)) (w.heap.size+1+1):=(b5.out.below E.out).other5 _ _ _ _ _ (Nat.ne_of_lt (nL cj (cz)));have a7:Z (Y w.heap.size w (((((wP.setCell ⟨u.heap.size,0,none⟩ (S I F.c0)).setCell ⟨u.heap.size,1,none⟩ (S I F.c1)).setCell ⟨u.heap.size,2,none⟩ (S I F.c2)).setCell ⟨u.heap.size,3,none⟩ (S I F.c3)).setCell ⟨u.heap.size,4,none⟩ (O r F.l.length f))):=au (ad.out.trans (E.out.mono ad.out.size)) (nT ad.out.size (cz)) _ _ _ _ _;have bh:Z (∀x,r=some x->w.heap.size+1+1<x.block):=fun x R=>by have h1:=a9.out x R;simp at h1;omega
   generalize (((((wP.setCell ⟨u.heap.size,0,none⟩ (S I F.c0)).setCell ⟨u.heap.size,1,none⟩ (S I F.c1)).setCell ⟨u.heap.size,2,none⟩ (S I F.c2)).setCell ⟨u.heap.size,3,none⟩ (S I F.c3)).setCell ⟨u.heap.size,4,none⟩ (O r F.l.length f))=V at bo bp a7 ⊢;obtain ⟨f0,f1,f2,f3,f4,dp,be⟩:=(show CtxAt _ _ _ _ _ from bo);obtain ⟨z0,z1,z2,z3,z4,zf,zl⟩:=(show ZAt _ _ from bp);by_cases ah:400<F.l.length
   ·have a6:(400:Int)<(F.l.length:Int):=(by omega);have d:Z (aI a b=2/\aO a b=ar):=by have h1:aI a b=2:=(by unfold aI;rw[if_pos bN.out,bc.out,if_pos ah]);exact ⟨h1,by simp[aO,h1]⟩
    go_wp2;rw[d.out.1,d.out.2];exact bodyPost_ret (v:= H #[U #[S I 0,S I 0,S I 0,S I 0,O none 0 0],S I 2]) (by simp[results,Tryz.results55,go_sem,z0,z1,z2,z3,z4]) rfl ⟨none,0,rfl,oL rfl,fun _=>rfl,(fun x R=>by cases R),au a7.out (by omega) _ _ _ _ _⟩
   ·have a6:¬(400:Int)<(F.l.length:Int):=(by omega);have d:Z (aI a b=0/\aO a b=F):=by have h1:aI a b=0:=(by unfold aI;rw[if_pos bN.out,bc.out,if_neg ah]);exact ⟨h1,by simp[aO,h1,bc.out]⟩
    have m:∀x,r=some x->x.block≠w.heap.size+1+1:=(fun x R=>by have:=bh.out x R;omega);go_wp2;rw[d.out.1,d.out.2];refine bodyPost_ret (v:= H #[U #[S I F.c0,S I F.c1,S I F.c2,S I F.c3,O r F.l.length f],S I 0]) (by simp[results,Tryz.results55,go_sem,z0,z1,z2,z3,z4]) rfl ⟨r,f,rfl,?_,cn,fun x R=>by have:=bh.out x R;omega,au a7.out (by omega) _ _ _ _ _⟩;exact ((((be.setCell _ m).setCell _ m).setCell _ m).setCell _ m).setCell _ m
  ·have cj:w.heap.size+1+1<wr.heap.size:=b5.out.lt;have cz:wr.heap.size<=u.heap.size:=ao.out.size;have c7:wr.heap.size<=wP.heap.size:=E.out.size;have bo:CtxAt (((((wP.setCell ⟨wA.heap.size,0,none⟩ (S I F.c0)).setCell ⟨wA.heap.size,1,none⟩ (S I F.c1)).setCell ⟨wA.heap.size,2,none⟩ (S I F.c2)).setCell ⟨wA.heap.size,3,none⟩ (S I F.c3)).setCell ⟨wA.heap.size,4,none⟩ (O r F.l.length f)) wA.heap.size F r f:=(ck.out.ctx).set cv.out (fun x R=>by have h1:=a9.out x R;have h2:=c9.out.lt;omega);have bp:ZAt (((((wP.setCell ⟨wA.heap.size,0,none⟩ (S I F.c0)).setCell ⟨wA.heap.size,1,none⟩ (S I F.c1)).setCell ⟨wA.heap.size,2,none⟩ (S I F.c2)).setCell ⟨wA.heap.size,3,none⟩ (S I F.c3)).setCell ⟨wA.heap.size,4,none⟩ (O r F.l.length f)) (w.heap.size+1+1):=(b5.out.below E.out).other5 _ _ _ _ _ (Nat.ne_of_lt (nL cj (D.out.size)));have a7:Z (Y w.heap.size w (((((wP.setCell ⟨wA.heap.size,0,none⟩ (S I F.c0)).setCell ⟨wA.heap.size,1,none⟩ (S I F.c1)).setCell ⟨wA.heap.size,2,none⟩ (S I F.c2)).setCell ⟨wA.heap.size,3,none⟩ (S I F.c3)).setCell ⟨wA.heap.size,4,none⟩ (O r F.l.length f))):=au (ad.out.trans (E.out.mono ad.out.size)) (nT ad.out.size (D.out.size)) _ _ _ _ _;have bh:Z (∀x,r=some x->w.heap.size+1+1<x.block):=fun x R=>by have h1:=a9.out x R;omega
   generalize (((((wP.setCell ⟨wA.heap.size,0,none⟩ (S I F.c0)).setCell ⟨wA.heap.size,1,none⟩ (S I F.c1)).setCell ⟨wA.heap.size,2,none⟩ (S I F.c2)).setCell ⟨wA.heap.size,3,none⟩ (S I F.c3)).setCell ⟨wA.heap.size,4,none⟩ (O r F.l.length f))=V at bo bp a7 ⊢;obtain ⟨f0,f1,f2,f3,f4,dp,be⟩:=(show CtxAt _ _ _ _ _ from bo);obtain ⟨z0,z1,z2,z3,z4,zf,zl⟩:=(show ZAt _ _ from bp);by_cases ah:400<F.l.length
   ·have a6:(400:Int)<(F.l.length:Int):=(by omega);have d:Z (aI a b=2/\aO a b=ar):=by have h1:aI a b=2:=(by unfold aI;rw[if_pos bN.out,bc.out,if_pos ah]);exact ⟨h1,by simp[aO,h1]⟩
    go_wp2;rw[d.out.1,d.out.2];exact bodyPost_ret (v:= H #[U #[S I 0,S I 0,S I 0,S I 0,O none 0 0],S I 2]) (by simp[results,Tryz.results55,go_sem,z0,z1,z2,z3,z4]) rfl ⟨none,0,rfl,oL rfl,fun _=>rfl,(fun x R=>by cases R),au a7.out (by omega) _ _ _ _ _⟩
   ·have a6:¬(400:Int)<(F.l.length:Int):=(by omega);have d:Z (aI a b=0/\aO a b=F):=by have h1:aI a b=0:=(by unfold aI;rw[if_pos bN.out,bc.out,if_neg ah]);exact ⟨h1,by simp[aO,h1,bc.out]⟩
    have m:∀x,r=some x->x.block≠w.heap.size+1+1:=(fun x R=>by have:=bh.out x R;omega);go_wp2;rw[d.out.1,d.out.2];refine bodyPost_ret (v:= H #[U #[S I F.c0,S I F.c1,S I F.c2,S I F.c3,O r F.l.length f],S I 0]) (by simp[results,Tryz.results55,go_sem,z0,z1,z2,z3,z4]) rfl ⟨r,f,rfl,?_,cn,fun x R=>by have:=bh.out x R;omega,au a7.out (by omega) _ _ _ _ _⟩;exact ((((be.setCell _ m).setCell _ m).setCell _ m).setCell _ m).setCell _ m
  ·have cj:w.heap.size+1+1<wr.heap.size:=b5.out.lt;have cz:wr.heap.size<=u.heap.size:=ao.out.size;have c7:wr.heap.size<=wP.heap.size:=E.out.size;have bo:CtxAt (((((wP.setCell ⟨wr.heap.size,0,none⟩ (S I F.c0)).setCell ⟨wr.heap.size,1,none⟩ (S I F.c1)).setCell ⟨wr.heap.size,2,none⟩ (S I F.c2)).setCell ⟨wr.heap.size,3,none⟩ (S I F.c3)).setCell ⟨wr.heap.size,4,none⟩ (O r F.l.length f)) wr.heap.size F r f:=(ck.out.ctx).set cv.out (fun x R=>by have h1:=a9.out x R;have h2:=c9.out.lt;omega);have bp:ZAt (((((wP.setCell ⟨wr.heap.size,0,none⟩ (S I F.c0)).setCell ⟨wr.heap.size,1,none⟩ (S I F.c1)).setCell ⟨wr.heap.size,2,none⟩ (S I F.c2)).setCell ⟨wr.heap.size,3,none⟩ (S I F.c3)).setCell ⟨wr.heap.size,4,none⟩ (O r F.l.length f)) (w.heap.size+1+1):=(b5.out.below E.out).other5 _ _ _ _ _ (Nat.ne_of_lt (nL cj (nR _)));have a7:Z (Y w.heap.size w (((((wP.setCell ⟨wr.heap.size,0,none⟩ (S I F.c0)).setCell ⟨wr.heap.size,1,none⟩ (S I F.c1)).setCell ⟨wr.heap.size,2,none⟩ (S I F.c2)).setCell ⟨wr.heap.size,3,none⟩ (S I F.c3)).setCell ⟨wr.heap.size,4,none⟩ (O r F.l.length f))):=au (ad.out.trans (E.out.mono ad.out.size)) (nT ad.out.size (nR _)) _ _ _ _ _;have bh:Z (∀x,r=some x->w.heap.size+1+1<x.block):=fun x R=>by have h1:=a9.out x R;omega
   generalize (((((wP.setCell ⟨wr.heap.size,0,none⟩ (S I F.c0)).setCell ⟨wr.heap.size,1,none⟩ (S I F.c1)).setCell ⟨wr.heap.size,2,none⟩ (S I F.c2)).setCell ⟨wr.heap.size,3,none⟩ (S I F.c3)).setCell ⟨wr.heap.size,4,none⟩ (O r F.l.length f))=V at bo bp a7 ⊢;obtain ⟨f0,f1,f2,f3,f4,dp,be⟩:=(show CtxAt _ _ _ _ _ from bo);obtain ⟨z0,z1,z2,z3,z4,zf,zl⟩:=(show ZAt _ _ from bp);by_cases ah:400<F.l.length
   ·have a6:(400:Int)<(F.l.length:Int):=(by omega);have d:Z (aI a b=2/\aO a b=ar):=by have h1:aI a b=2:=(by unfold aI;rw[if_pos bN.out,bc.out,if_pos ah]);exact ⟨h1,by simp[aO,h1]⟩
    go_wp2;rw[d.out.1,d.out.2];exact bodyPost_ret (v:= H #[U #[S I 0,S I 0,S I 0,S I 0,O none 0 0],S I 2]) (by simp[results,Tryz.results55,go_sem,z0,z1,z2,z3,z4]) rfl ⟨none,0,rfl,oL rfl,fun _=>rfl,(fun x R=>by cases R),au a7.out (by omega) _ _ _ _ _⟩
   ·have a6:¬(400:Int)<(F.l.length:Int):=(by omega);have d:Z (aI a b=0/\aO a b=F):=by have h1:aI a b=0:=(by unfold aI;rw[if_pos bN.out,bc.out,if_neg ah]);exact ⟨h1,by simp[aO,h1,bc.out]⟩
    have m:∀x,r=some x->x.block≠w.heap.size+1+1:=(fun x R=>by have:=bh.out x R;omega);go_wp2;rw[d.out.1,d.out.2];refine bodyPost_ret (v:= H #[U #[S I F.c0,S I F.c1,S I F.c2,S I F.c3,O r F.l.length f],S I 0]) (by simp[results,Tryz.results55,go_sem,z0,z1,z2,z3,z4]) rfl ⟨r,f,rfl,?_,cn,fun x R=>by have:=bh.out x R;omega,au a7.out (by omega) _ _ _ _ _⟩;exact ((((be.setCell _ m).setCell _ m).setCell _ m).setCell _ m).setCell _ m

end Go.Proofs.YtbkjgjjpnfhkhaaGreatDoor
