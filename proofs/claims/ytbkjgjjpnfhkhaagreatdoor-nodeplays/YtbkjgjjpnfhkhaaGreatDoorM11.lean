import Derived.Test.YtbkjgjjpnfhkhaaGreatDoorM10
set_option maxRecDepth 100000
set_option maxHeartbeats 8000000
open Go renaming Calls → H, World → Y, Addr → X
open Go.Ending renaming returned → Z
open Go.IntKind renaming i64 → V
open Go.Obj renaming cells → S
open Go.Proofs.Tryz renaming prog → J
open Go.RowKit renaming Hid → O
open Go.Value renaming slice → I
namespace Go.Proofs.YtbkjgjjpnfhkhaaGreatDoor
open Go.RowKit Go.Sort Go.Maps

theorem uS {c:List Grp} {k:Nat} (h:k<c.length):((c.take (k+1)).map Grp.z).filterMap gE=((c.take k).map Grp.z).filterMap gE++(if aV (c[k].l.map Itm.z)=0 then [] else [([c[k].n,aV (c[k].l.map Itm.z)],1)]):=by
 rw[List.take_succ_eq_append_getElem h,List.map_append,List.filterMap_append];congr 1;by_cases e:aV (c[k].l.map Itm.z)=0
 ·rw[if_pos e];simp[gE,Grp.z,e]
 ·rw[if_neg e];simp[gE,Grp.z,e]
theorem oI {W:Y} {n:Nat} (f:W.heap.size=n) (a b:Int) (T:TypeId):aq (W.alloc (S #[.int V a,.int V b] T)) (jb4 n 0) [a,b]:=by
 subst f;refine oR ⟨W.heap.size,0,rfl,by simp,fun j d i hi=> ?_⟩;obtain rfl:i=0:=by omega
 have c:j=0\/j=1:=by simp at d;omega
 rcases c with rfl|rfl
 ·exact ab (w:=W) (gR _) (j:=0) rfl
 ·exact ab (w:=W) (gR _) (j:=1) rfl
theorem GInv.items {w wr W:Y} {l:List Itm} {c:Int} {k:Nat} {u:Value} {j:List Grp} {D:DataW Unit} {A:Option X} (h:GInv w wr l c k u j D) (C:Items w A l) (m:jb2 wr W) {g:Grp} (n:g∈j):Items W g.p g.l:=by
 obtain ⟨r,R,E,_,d,_⟩:=((h.gps.each g n).below m).row bO;have e:g.p=r:=by have f:=E;unfold Grp.v at f;simp at f;exact f.1
 rw[e];exact ⟨d,fun x F=>((C.below h.bel).below m).each x ((h.sub g n).2 x F)⟩

theorem sR (l:List Itm) (A:Option X) (cap:Nat) (c:Int) (w:Y) (hl:l.length<=400) (hr:Items w A l) (hc:∀x∈l,inB c 0 ((x.r.length:Int)-1)=true) (be:∀x∈l,okR x.r=true/\okW x.n=true) :
  H J 219 #[I A l.length cap,.int V c] w fun e w'=>∃(L:List Itm) (C:Option X) (k:Nat),e= Z (I C L.length k)/\L.map Itm.z=jD (l.map Itm.z) c/\Lv w' C k L/\L.length<=400/\jb2 w w':=by
 have bh:O (Items w A l/\(∀x∈l,okW x.n=true)):=⟨hr,fun x hx=>(be x hx).2⟩;have hG:O _:=iY l A cap c w hl hr hc (fun x hx=>(be x hx).1);go_enter Tryz.func219,Tryz.ntmps219;go_wp2_with fail;refine ja0 hG ?_;rintro e m ⟨E,v,D,rfl,bp⟩;have hR:=ja1 bp;obtain ⟨GA,bN,hv,_,bl,_⟩:=hR.out.gps.own.row dV;have bv:=ja1 bl;subst hv;have b1:E.length<=400:=nT hR.out.len hl;go_wp2;go_loopw [5,19] (fun u i wr=>∃(k:Nat) (L:List Itm),k<=E.length/\i= .int V k/\O (L.length<=k/\L.map Itm.z=((E.take k).map Grp.z).filterMap gE/\OwnT wr m.heap.size u L/\jb2 m wr)) (fun _ i _=>E.length-(intOf i).toNat);exact ⟨0,[],nZ _,rfl,nR _,rfl,OwnT.nil _ _,bR _ _⟩;obtain ⟨k,L,hk,rfl,F⟩:=hrel;by_cases an:k<E.length
 ·have ba:(k:Int)<(E.length:Int):=by omega
  obtain ⟨bb,bo,rfl,hb,a2⟩:=(bv.out.below F.out.2.2.2).at an;obtain ⟨g,hg⟩:=jb0 (E[k]);have e0:jb1 wr bb (bo+k*2) (.int V g.n):=by have:=a2 k an 0 (by omega);rw[hg] at this;simpa[fq] using this
  have e1:jb1 wr bb (bo+k*2+1) (I g.p g.l.length g.c):=by have:=a2 k an 1 (by omega);rw[hg] at this;simpa[fq,Grp.v] using this
  have a7:O (g∈E):=by show _∈_;rw[<-hg];exact gM an
  have a4:O (((E.take (k+1)).map Grp.z).filterMap gE=((E.take k).map Grp.z).filterMap gE++(if aV (g.l.map Itm.z)=0 then [] else [([g.n,aV (g.l.map Itm.z)],1)])):=by show _=_;rw[uS an,hg]
  clear a2 hg;obtain ⟨WX,ap⟩:=jb0 (wr.alloc (S #[.int V g.n,I g.p g.l.length g.c] 246));have a3:O (Gr wr WX):=by show Gr _ _;rw[<-ap];exact (gR _).alloc _
  have y0:jb1 WX wr.heap.size 0 (.int V g.n):=by rw[<-ap];exact ab (gR _) rfl
  have y1:jb1 WX wr.heap.size 1 (I g.p g.l.length g.c):=by rw[<-ap];exact ab (gR _) rfl
  have bC:wr.heap.size<WX.heap.size:=by rw[<-ap];simp
  have ah:=ja1 (F.out.2.2.2.trans (a3.out.below.mono F.out.2.2.2.size));obtain ⟨b3,hT⟩:=jb0 (aV (g.l.map Itm.z));have ad:H J 234 #[I g.p g.l.length g.c] WX fun e w'=>e= Z (.int V b3)/\Gr WX w':=by rw[<-hT];have h1:=hR.out.sub g a7.out;exact nX g.l g.p g.c WX (by omega) (fun x hx=>bh.out.2 x (h1.2 x hx)) (hR.out.items bh.out.1 ah.out a7.out)
  have ak:O _:=ad;clear ad;rw[hT] at a4;clear hT;cases hq:(b3 != 0)
  ·have a0:b3=0:=(by simpa using hq);go_wp2_with (go_at_call 234;(refine ja0 ak ?_);rintro e d ⟨rfl,j⟩)
   have f:O (L.length<=k+1/\L.map Itm.z=((E.take (k+1)).map Grp.z).filterMap gE/\OwnT d m.heap.size u5 L/\jb2 m d) :=
    ⟨by have:=F.out.1;omega,by rw[a4.out,if_pos a0,List.append_nil];exact F.out.2.1,(F.out.2.2.1.gr a3.out).gr j,ah.out.trans (j.below.mono ah.out.size)⟩
   go_roundw;exact ⟨k+1,L,by omega,by go_num,f⟩;simp[intOf];omega
  ·have a0:¬b3=0:=(by simpa using hq);have bt:O (∀d,Gr wr d->jb2 m d->OwnT ((d.alloc (S #[.int V g.n,.int V b3] 3)).alloc (S #[I (jb4 d.heap.size 0) 2 2,.int V 1] 101)) m.heap.size u5 L/\aC aE 2 ((d.alloc (S #[.int V g.n,.int V b3] 3)).alloc (S #[I (jb4 d.heap.size 0) 2 2,.int V 1] 101)) (jb4 (d.heap.size+1) 0) [(⟨some (jb5 d.heap.size 0),2,[g.n,b3],1⟩:Itm)]/\Apart ((d.alloc (S #[.int V g.n,.int V b3] 3)).alloc (S #[I (jb4 d.heap.size 0) 2 2,.int V 1] 101)) m.heap.size u5.ownBlock (⟨some (jb5 d.heap.size 0),2,[g.n,b3],1⟩:Itm)/\L.length+1<=maxLen/\(L.length+1)*32<=140737488355328/\jb2 m ((d.alloc (S #[.int V g.n,.int V b3] 3)).alloc (S #[I (jb4 d.heap.size 0) 2 2,.int V 1] 101))):=fun d j a1=>by
    have b0:=F.out.1;have h2:Gr d ((d.alloc (S #[.int V g.n,.int V b3] 3)).alloc (S #[I (jb4 d.heap.size 0) 2 2,.int V 1] 101)):=((gR _).alloc _).alloc _;refine ⟨(F.out.2.2.1.gr j).gr h2,bV (by simp) (⟨some (jb5 d.heap.size 0),2,[g.n,b3],1⟩:Itm) _,⟨(oI rfl g.n b3 _).gr ((gR _).alloc _),by simp[maxLen],fun h=>(by cases h),fun a ha=>⟨?_,?_,?_⟩⟩,by unfold maxLen;omega,by omega,a1.trans (h2.below.mono a1.size)⟩
    ·cases ha;exact a1.size
    ·cases ha;simp;omega
    ·cases ha;intro e;have h3:=(World.ownsRow.lt F.out.2.2.1.own d.heap.size e).2;have h4:=j.size;omega
   go_wp2_with (first|(go_at_call 234;(refine ja0 ak ?_);rintro e d ⟨rfl,j⟩;have b2:jb1 d wr.heap.size 0 (.int V g.n):=(j.below.cell (p:=(jb5 wr.heap.size 0)) bC).trans y0;have a5:O (jb2 m d/\Gr wr d):=⟨ah.out.trans (j.below.mono ah.out.size),a3.out.trans j⟩;clear j;have bd:=bt.out d a5.out.2 a5.out.1;have R:O _:=bd;clear bd)|(at_builtin;refine cT _ rfl (.tmp 28) (.tmp 34) rfl m.heap.size u5 L (⟨some (jb5 d.heap.size 0),2,[g.n,b3],1⟩:Itm) (jb5 (d.heap.size+1) 0) 1 rfl rfl R.out.1 R.out.2.1 R.out.2.2.1 R.out.2.2.2.1 R.out.2.2.2.2.1 R.out.2.2.2.2.2.size ?_;intro v3 w3 ao a6)|fail)
   have f:O ((L++[(⟨some (jb5 d.heap.size 0),2,[g.n,b3],1⟩:Itm)]).length<=k+1/\(L++[(⟨some (jb5 d.heap.size 0),2,[g.n,b3],1⟩:Itm)]).map Itm.z=((E.take (k+1)).map Grp.z).filterMap gE/\OwnT w3 m.heap.size v3 (L++[(⟨some (jb5 d.heap.size 0),2,[g.n,b3],1⟩:Itm)])/\jb2 m w3) :=
    ⟨by have:=F.out.1;simp;omega,by rw[a4.out,if_neg a0,List.map_append,F.out.2.1];rfl,ao,R.out.2.2.2.2.2.trans a6⟩
   clear ao a6;go_roundw;exact ⟨k+1,L++[(⟨some (jb5 d.heap.size 0),2,[g.n,b3],1⟩:Itm)],by omega,by go_num,f⟩;simp[intOf];omega
 ·have ba:¬(k:Int)<(E.length:Int):=by omega
  have a9:E.take k=E:=List.take_of_length_le (by omega);obtain ⟨A2,aL,bG,bc,a8,_⟩:=F.out.2.2.1.items;have bs:L.length<=400:=by have:=F.out.1;omega
  have f:O (L.map Itm.z=jD (l.map Itm.z) c/\Lv wr A2 aL L/\jb2 w wr):=by refine ⟨?_,⟨a8,bc,by unfold maxLen;omega⟩,hR.out.bel.trans (F.out.2.2.2.mono hR.out.bel.size)⟩;have:=F.out.2.1;rw[a9,hR.out.z,List.take_length] at this;exact this
  subst bG;clear a9 a8 bc;go_wp2;go_ret;exact ⟨L,A2,aL,rfl,f.out.1,f.out.2.1,bs,f.out.2.2⟩

theorem fu (w:Y) (n:Nat):Gr w (w.drewN n):=⟨n,#[],by rw[grow_empty]⟩
theorem iT (v:Int) (a b:List Zit):bq v (a++b)=bq v a+bq v b:=by
 induction a with
 | nil=>simp[bq]
 | cons x a ih=>simp only[List.cons_append,bq,ih];omega
theorem jM {x y:Int} (g: -1073741824<=x/\x<=1073741824) (h: -1048576<=y/\y<=1048576): -1125899906842624<=x*y/\x*y<=1125899906842624:=by
 have c:x.natAbs<=1073741824:=by omega
 have d:y.natAbs<=1048576:=by omega
 have f:(x*y).natAbs<=1073741824*1048576:=by rw[Int.natAbs_mul];exact Nat.mul_le_mul c d
 omega
theorem ol {x:Itm} {v:Int} (h:okR x.r=true/\okW x.n=true): -1125899906842624<=atI x.r v*x.n/\atI x.r v*x.n<=1125899906842624:=by have d:=mi h.1 (c:=v);have f:=h.2;simp only[okN,okW,inB,Bool.and_eq_true,decide_eq_true_eq] at d f;exact jM d f
theorem oK {l:List Itm} {v:Int} (h:∀x∈l,okR x.r=true/\okW x.n=true): -((l.length:Int)*1125899906842624)<=bq v (l.map Itm.z)/\bq v (l.map Itm.z)<=(l.length:Int)*1125899906842624:=by
 induction l with
 | nil=>simp[bq]
 | cons x l ih =>
  have f:=ih fun y d=>h y (mC _ d)
  have c:=ol (v:=v) (h x (mS ..))
  have e:bq v ((x::l).map Itm.z)=atI x.r v*x.n+bq v (l.map Itm.z):=rfl
  rw[e]
  generalize atI x.r v*x.n=t at c ⊢
  simp only[List.length_cons]
  omega
theorem qy {l:List Itm} {k:Nat} (h:k<l.length) (v:Int):bq v ((l.take (k+1)).map Itm.z)=bq v ((l.take k).map Itm.z)+atI l[k].r v*l[k].n:=by rw[List.take_succ_eq_append_getElem h,List.map_append,iT];simp[bq,Itm.z]

theorem ul (l:List Itm) (A:Option X) (cap:Nat) (v:Int) (w:Y) (hl:l.length<=400) (hw:∀x∈l,okR x.r=true/\okW x.n=true) (hc:∀x∈l,inB v 0 ((x.r.length:Int)-1)=true) (hr:Items w A l) :
  H J 235 #[I A l.length cap,.int V v] w fun e w'=>e= Z (.int V (bq v (l.map Itm.z)))/\Gr w w':=by
 have aL:=ja1 hr;have m:=ja2 hw hc;go_enter Tryz.func235,Tryz.ntmps235;go_wp2;go_loopw [5,10] (fun u i wr=>∃k:Nat,k<=l.length/\i= .int V k/\u= .int V (bq v ((l.take k).map Itm.z))/\O (Gr w wr)) (fun _ i _=>l.length-(intOf i).toNat);exact ⟨0,nZ _,rfl,rfl,gR _⟩;obtain ⟨k,hk,rfl,rfl,hg⟩:=hrel;by_cases f:k<l.length
 ·have R:(k:Int)<(l.length:Int):=by omega
  have hI:=ja1 (aL.out.gr hg.out);obtain ⟨bb,a5,rfl,hb,ak⟩:=hI.out.at f;obtain ⟨x,hx⟩:=jb0 (l[k]);obtain ⟨e0,e1⟩:=ak k f;rw[hx] at e0 e1;have C:x∈l:=by rw[<-hx];exact gM f
  obtain ⟨D,E,cn,hp,a0,ah,a4,d⟩:=dA (hI.out.each x C).1 (m.out.2 x C);have g:O (bq v ((l.take (k+1)).map Itm.z)=bq v ((l.take k).map Itm.z)+atI x.r v*x.n):=by show _=_;rw[qy f,hx]
  have ad:=oK (l:=l.take k) (v:=v) (fun y hy=>m.out.1 y (List.mem_of_mem_take hy));have ao:=ol (v:=v) (m.out.1 x C);have a3:(l.take k).length<=400:=by simp;omega
  obtain ⟨a6,hT⟩:=jb0 (bq v ((l.take k).map Itm.z));obtain ⟨h,ap⟩:=jb0 (atI x.r v);rw[hT] at g ad ⊢;rw[ap] at d g ao;rw[hp] at e0;have a1:IntKind.i64.wrap (h*x.n)=h*x.n:=by rw[IntKind.wrap_i64];omega
  have a2:IntKind.i64.wrap (a6+h*x.n)=a6+h*x.n:=by rw[IntKind.wrap_i64];omega
  have F:O (Gr w (wr.alloc (S #[I (jb4 D E) x.r.length x.c,.int V x.n] 101))):=hg.out.alloc _;have y0:jb1 (wr.alloc (S #[I (jb4 D E) x.r.length x.c,.int V x.n] 101)) D (E+cn) (.int V h):=(((gR _).alloc _).cell (p:=(jb5 D (E+cn))) a0).trans d;obtain rfl:=ah;obtain ⟨M,hM⟩:=jb0 (h*x.n);rw[hM] at a1 a2 g;obtain ⟨WX,j⟩:=jb0 (wr.alloc (S #[I (jb4 D E) x.r.length x.c,.int V x.n] 101));have x0:jb1 WX wr.heap.size 0 (I (jb4 D E) x.r.length x.c):=by rw[<-j];exact ab (gR _) rfl
  have x1:jb1 WX wr.heap.size 1 (.int V x.n):=by rw[<-j];exact ab (gR _) rfl
  rw[j] at y0 F;go_wp2;go_quiet (fail);go_wp2;go_roundw;exact ⟨k+1,by omega,by go_num,by rw[g.out],F.out.trans (fu _ _)⟩;simp[intOf];omega
 ·have R:¬(k:Int)<(l.length:Int):=by omega
  have an:l.take k=l:=List.take_of_length_le (by omega);rw[an];go_wp2;go_ret;exact ⟨rfl,hg.out⟩

theorem xA {c:List Grp} {k:Nat} (h:k<c.length) (v:Int):((c.take (k+1)).map Grp.z).filterMap (gT v)=((c.take k).map Grp.z).filterMap (gT v)++(if aV (c[k].l.map Itm.z)=0 then [] else [([c[k].n,bq v (c[k].l.map Itm.z)],1)]):=by
 rw[List.take_succ_eq_append_getElem h,List.map_append,List.filterMap_append];congr 1;by_cases e:aV (c[k].l.map Itm.z)=0
 ·rw[if_pos e];simp[gT,Grp.z,e]
 ·rw[if_neg e];simp[gT,Grp.z,e]

theorem xz (l:List Itm) (A:Option X) (cap:Nat) (c v:Int) (w:Y) (hl:l.length<=400) (hr:Items w A l) (hc:∀x∈l,inB c 0 ((x.r.length:Int)-1)=true) (hv:∀x∈l,inB v 0 ((x.r.length:Int)-1)=true) (bc:∀x∈l,okR x.r=true/\okW x.n=true) :
  H J 220 #[I A l.length cap,.int V c,.int V v] w fun e w'=>∃(L:List Itm) (C:Option X) (k:Nat),e= Z (I C L.length k)/\L.map Itm.z=um (l.map Itm.z) c v/\Lv w' C k L/\L.length<=400/\jb2 w w':=by
 have ao:O (Items w A l/\(∀x∈l,okW x.n=true)/\(∀x∈l,okR x.r=true/\okW x.n=true)/\∀x∈l,inB v 0 ((x.r.length:Int)-1)=true):=⟨hr,fun x hx=>(bc x hx).2,bc,hv⟩;have hG:O _:=iY l A cap c w hl hr hc (fun x hx=>(bc x hx).1);go_enter Tryz.func220,Tryz.ntmps220;go_wp2_with fail;refine ja0 hG ?_;rintro e w1 ⟨gs,vv,D,rfl,bN⟩;have hR:=ja1 bN;obtain ⟨GA,b6,b5,_,bt,_⟩:=hR.out.gps.own.row dV;have b3:=ja1 bt;subst b5;have b8:gs.length<=400:=nT hR.out.len hl;go_wp2;go_loopw [7,20] (fun u i wr=>∃(k:Nat) (L:List Itm),k<=gs.length/\i= .int V k/\O (L.length<=k/\L.map Itm.z=((gs.take k).map Grp.z).filterMap (gT v)/\OwnT wr w1.heap.size u L/\jb2 w1 wr)) (fun _ i _=>gs.length-(intOf i).toNat);exact ⟨0,[],nZ _,rfl,nR _,rfl,OwnT.nil _ _,bR _ _⟩;obtain ⟨k,L,hk,rfl,hS⟩:=hrel;by_cases R:k<gs.length
 ·have bl:(k:Int)<(gs.length:Int):=by omega
  obtain ⟨bb,bG,rfl,hb,a8⟩:=(b3.out.below hS.out.2.2.2).at R;obtain ⟨g,hg⟩:=jb0 (gs[k]);have e0:jb1 wr bb (bG+k*2) (.int V g.n):=by have:=a8 k R 0 (by omega);rw[hg] at this;simpa[fq] using this
  have e1:jb1 wr bb (bG+k*2+1) (I g.p g.l.length g.c):=by have:=a8 k R 1 (by omega);rw[hg] at this;simpa[fq,Grp.v] using this
  have a1:O (g∈gs):=by show _∈_;rw[<-hg];exact gM R
  have a3:O (((gs.take (k+1)).map Grp.z).filterMap (gT v)=((gs.take k).map Grp.z).filterMap (gT v)++(if aV (g.l.map Itm.z)=0 then [] else [([g.n,bq v (g.l.map Itm.z)],1)])):=by show _=_;rw[xA R,hg]
  clear a8 hg;obtain ⟨E,aL⟩:=jb0 (wr.alloc (S #[.int V g.n,I g.p g.l.length g.c] 246));have ba:O (Gr wr E):=by show Gr _ _;rw[<-aL];exact (gR _).alloc _
  have y0:jb1 E wr.heap.size 0 (.int V g.n):=by rw[<-aL];exact ab (gR _) rfl
  have y1:jb1 E wr.heap.size 1 (I g.p g.l.length g.c):=by rw[<-aL];exact ab (gR _) rfl
  have a2:wr.heap.size<E.heap.size:=by rw[<-aL];simp
  have ad:=ja1 (hS.out.2.2.2.trans (ba.out.below.mono hS.out.2.2.2.size));obtain ⟨b9,hT⟩:=jb0 (aV (g.l.map Itm.z));have a0:H J 234 #[I g.p g.l.length g.c] E fun e w'=>e= Z (.int V b9)/\Gr E w':=by rw[<-hT];have h1:=hR.out.sub g a1.out;exact nX g.l g.p g.c E (by omega) (fun x hx=>ao.out.2.1 x (h1.2 x hx)) (hR.out.items ao.out.1 ad.out a1.out)
  have ah:O _:=a0;rw[hT] at a3;cases hq:(b9 != 0)
  ·have a6:b9=0:=(by simpa using hq);go_wp2_with (go_at_call 234;(refine ja0 ah ?_);rintro e w2 ⟨rfl,F⟩)
   have m:O (L.length<=k+1/\L.map Itm.z=((gs.take (k+1)).map Grp.z).filterMap (gT v)/\OwnT w2 w1.heap.size u7 L/\jb2 w1 w2) :=
    ⟨by have:=hS.out.1;omega,by rw[a3.out,if_pos a6,List.append_nil];exact hS.out.2.1,(hS.out.2.2.1.gr ba.out).gr F,ad.out.trans (F.below.mono ad.out.size)⟩
   go_roundw;exact ⟨k+1,L,by omega,by go_num,m⟩;simp[intOf];omega
  ·have a6:¬b9=0:=(by simpa using hq);obtain ⟨cc,hU⟩:=jb0 (bq v (g.l.map Itm.z));rw[hU] at a3;have bv:O (∀W,jb2 E W->H J 235 #[I g.p g.l.length g.c,.int V v] W fun e w'=>e= Z (.int V cc)/\Gr W w'):=fun W hW=>by rw[<-hU];have h1:=hR.out.sub g a1.out;exact ul g.l g.p g.c v W (by omega) (fun x hx=>ao.out.2.2.1 x (h1.2 x hx)) (fun x hx=>ao.out.2.2.2 x (h1.2 x hx)) (hR.out.items ao.out.1 (ad.out.trans (hW.mono ad.out.size)) a1.out)
   have ak:O (∀d,Gr E d->OwnT ((d.alloc (S #[.int V g.n,.int V cc] 3)).alloc (S #[I (jb4 d.heap.size 0) 2 2,.int V 1] 101)) w1.heap.size u7 L/\aC aE 2 ((d.alloc (S #[.int V g.n,.int V cc] 3)).alloc (S #[I (jb4 d.heap.size 0) 2 2,.int V 1] 101)) (jb4 (d.heap.size+1) 0) [(⟨some (jb5 d.heap.size 0),2,[g.n,cc],1⟩:Itm)]/\Apart ((d.alloc (S #[.int V g.n,.int V cc] 3)).alloc (S #[I (jb4 d.heap.size 0) 2 2,.int V 1] 101)) w1.heap.size u7.ownBlock (⟨some (jb5 d.heap.size 0),2,[g.n,cc],1⟩:Itm)/\L.length+1<=maxLen/\(L.length+1)*32<=140737488355328/\jb2 w1 ((d.alloc (S #[.int V g.n,.int V cc] 3)).alloc (S #[I (jb4 d.heap.size 0) 2 2,.int V 1] 101))):=fun d f=>by
    have b7:=hS.out.1;have F:Gr wr d:=ba.out.trans f;have a7:jb2 w1 d:=ad.out.trans (f.below.mono ad.out.size);have h2:Gr d ((d.alloc (S #[.int V g.n,.int V cc] 3)).alloc (S #[I (jb4 d.heap.size 0) 2 2,.int V 1] 101)):=((gR _).alloc _).alloc _;refine ⟨(hS.out.2.2.1.gr F).gr h2,bV (by simp) (⟨some (jb5 d.heap.size 0),2,[g.n,cc],1⟩:Itm) _,⟨(oI rfl g.n cc _).gr ((gR _).alloc _),by simp[maxLen],fun h=>(by cases h),fun a ha=>⟨?_,?_,?_⟩⟩,by unfold maxLen;omega,by omega,a7.trans (h2.below.mono a7.size)⟩
    ·cases ha;exact a7.size
    ·cases ha;simp;omega
    ·cases ha;intro e;have h3:=(World.ownsRow.lt hS.out.2.2.1.own d.heap.size e).2;have h4:=F.size;omega
   have bC:O (∀b,u7.ownBlock=some b->b<wr.heap.size):=fun b hb=>(World.ownsRow.lt hS.out.2.2.1.own b hb).2;clear hU;go_wp2_with (go_at_call 234;(refine ja0 ah ?_);rintro e w2 ⟨rfl,F⟩);obtain ⟨gb,b0⟩:=jb0 wr.heap.size;rw[b0] at y0 y1 a2 bC ⊢;have a9:O (Gr E w2.drew):=F.trans (gR _).drew;have j:O (∀W',Gr E W'->(fun w'=>jb1 w' gb 0 (.int V g.n)/\jb1 w' gb 1 (I g.p g.l.length g.c)) W'):=fun W' h=>⟨(h.below.cell (p:=(jb5 gb 0)) a2).trans y0,(h.below.cell (p:=(jb5 gb 1)) a2).trans y1⟩;have ap:O (∀d w4,Gr E d->((d.alloc (S #[.int V g.n,.int V cc] 3)).alloc (S #[I (jb4 d.heap.size 0) 2 2,.int V 1] 101)).grownBy w4 u7.ownBlock->(fun w'=>jb1 w' gb 0 (.int V g.n)/\jb1 w' gb 1 (I g.p g.l.length g.c)) w4):=fun d w4 h3 h4=>by
    have hW:Gr E ((d.alloc (S #[.int V g.n,.int V cc] 3)).alloc (S #[I (jb4 d.heap.size 0) 2 2,.int V 1] 101)):=(h3.alloc _).alloc _;have hk:=j.out _ hW;have R:gb<((d.alloc (S #[.int V g.n,.int V cc] 3)).alloc (S #[I (jb4 d.heap.size 0) 2 2,.int V 1] 101)).heap.size:=nL a2 hW.size;have bp:some gb≠u7.ownBlock:=fun e=>by have:=bC.out _ e.symm;omega
    exact ⟨(World.cell?_of_block (a:=(jb5 gb 0)) (h4.block _ R bp)).trans hk.1,(World.cell?_of_block (a:=(jb5 gb 1)) (h4.block _ R bp)).trans hk.2⟩
   clear F y0 y1 ah
   go_region_held3 (fun w'=>jb1 w' gb 0 (.int V g.n)/\jb1 w' gb 1 (I g.p g.l.length g.c)) (first|with_reducible exact j.out _ a9.out|with_reducible exact j.out _ f.out|with_reducible exact j.out _ (f.out.alloc _)|with_reducible exact j.out _ ((f.out.alloc _).alloc _)|exact b1.out) (first
    | (go_at_call 235;(refine cM (bv.out _ a9.out.below) ?_);rintro e d ⟨rfl,bs⟩;have f:O (Gr E d):=a9.out.trans bs;clear bs)
    | (refine fZ _ rfl (.tmp 28) (.tmp 37) rfl w1.heap.size u7 L (⟨some (jb5 d.heap.size 0),2,[g.n,cc],1⟩:Itm) (jb5 (d.heap.size+1) 0) 1 rfl rfl (ak.out d f.out).1 (ak.out d f.out).2.1 (ak.out d f.out).2.2.1 (ak.out d f.out).2.2.2.1 (ak.out d f.out).2.2.2.2.1 (ak.out d f.out).2.2.2.2.2.size ?_;intro v4 w4 an bd a5;have b1:O ((fun w'=>jb1 w' gb 0 (.int V g.n)/\jb1 w' gb 1 (I g.p g.l.length g.c)) w4):=ap.out d w4 f.out a5;have m:O ((L++[(⟨some (jb5 d.heap.size 0),2,[g.n,cc],1⟩:Itm)]).length<=k+1/\(L++[(⟨some (jb5 d.heap.size 0),2,[g.n,cc],1⟩:Itm)]).map Itm.z=((gs.take (k+1)).map Grp.z).filterMap (gT v)/\OwnT w4 w1.heap.size v4 (L++[(⟨some (jb5 d.heap.size 0),2,[g.n,cc],1⟩:Itm)])/\jb2 w1 w4):=⟨by have:=hS.out.1;simp;omega,by rw[a3.out,if_neg a6,List.map_append,hS.out.2.1];rfl,an,(ak.out d f.out).2.2.2.2.2.trans bd⟩;clear an bd a5))
   all_goals go_wp2;go_roundw;exact ⟨k+1,L++[(⟨some (jb5 d.heap.size 0),2,[g.n,cc],1⟩:Itm)],by omega,by go_num,m⟩;simp[intOf];omega
 ·have bl:¬(k:Int)<(gs.length:Int):=by omega
  have bh:gs.take k=gs:=List.take_of_length_le (by omega);obtain ⟨A2,a4,b4,bo,be,_⟩:=hS.out.2.2.1.items;have b2:L.length<=400:=by have:=hS.out.1;omega
  have m:O (L.map Itm.z=um (l.map Itm.z) c v/\Lv wr A2 a4 L/\jb2 w wr):=by refine ⟨?_,⟨be,bo,by unfold maxLen;omega⟩,hR.out.bel.trans (hS.out.2.2.2.mono hR.out.bel.size)⟩;have:=hS.out.2.1;rw[bh,hR.out.z,List.take_length] at this;exact this
  subst b4;clear bh be bo;go_wp2;go_ret;exact ⟨L,A2,a4,rfl,m.out.1,m.out.2.1,b2,m.out.2.2⟩

theorem nI {l:List Itm} {k:Nat} (h:k<l.length) (c:List Int):dj ((l.take (k+1)).map Itm.z) c=dj ((l.take k).map Itm.z) c++[(cK c l[k].r,l[k].n)]:=by rw[List.take_succ_eq_append_getElem h,List.map_append];unfold dj;rw[List.map_append];rfl
theorem ml {c:List Int} {m:Nat} (h:m<c.length) (r:List Int):cK (c.take (m+1)) r=cK (c.take m) r++[atI r c[m]]:=by unfold cK;rw[List.take_succ_eq_append_getElem h,List.map_append];rfl

theorem wV (l:List Itm) (A B:Option X) (cap cb:Nat) (d:List Int) (w:Y) (hl:l.length<=400) (b6:d.length<=8) (hr:Items w A l) (b3:aq w B d) (hc:∀x∈l,∀c∈d,inB c 0 ((x.r.length:Int)-1)=true) :
  H J 217 #[I A l.length cap,I B d.length cb] w fun e w'=>∃(L:List Itm) (C:Option X) (k:Nat),e= Z (I C L.length k)/\L.map Itm.z=dj (l.map Itm.z) d/\Lv w' C k L/\L.length<=400/\jb2 w w':=by
 have bo:=ja2 hr b3;have bC:=ja1 hc;go_enter Tryz.func217,Tryz.ntmps217;go_wp2;go_loopw [5,13] (fun u i wr=>∃(k:Nat) (L:List Itm),k<=l.length/\i= .int V k/\O (L.length=k/\L.map Itm.z=dj ((l.take k).map Itm.z) d/\OwnT wr w.heap.size u L/\jb2 w wr)) (fun _ i _=>l.length-(intOf i).toNat);exact ⟨0,[],nZ _,rfl,rfl,rfl,OwnT.nil _ _,bR _ _⟩;obtain ⟨k,L,hk,rfl,hR⟩:=hrel;by_cases aL:k<l.length
 ·have bh:(k:Int)<(l.length:Int):=by omega
  have hI:=ja2 (bo.out.1.below hR.out.2.2.2) (bo.out.2.below hR.out.2.2.2);obtain ⟨bb,b9,rfl,hb,bN⟩:=hI.out.1.at aL;obtain ⟨x,hx⟩:=jb0 (l[k]);obtain ⟨e0,e1⟩:=bN k aL;rw[hx] at e0 e1;have bt:O (x∈l):=by show _∈_;rw[<-hx];exact gM aL
  have bp:O (dj ((l.take (k+1)).map Itm.z) d=dj ((l.take k).map Itm.z) d++[(cK d x.r,x.n)]):=by show _=_;rw[nI aL,hx]
  have ah:O (Gr wr (wr.alloc (S #[I x.p x.r.length x.c,.int V x.n] 101))):=(gR _).alloc _;obtain ⟨E,a2⟩:=jb0 (wr.alloc (S #[I x.p x.r.length x.c,.int V x.n] 101));have y0:jb1 E wr.heap.size 0 (I x.p x.r.length x.c):=by rw[<-a2];exact ab (gR _) rfl
  have y1:jb1 E wr.heap.size 1 (.int V x.n):=by rw[<-a2];exact ab (gR _) rfl
  have a8:wr.heap.size<E.heap.size:=by rw[<-a2];simp
  rw[a2] at ah;go_wp2;obtain ⟨xb,bs⟩:=jb0 wr.heap.size;have bc:=ja3 ((hI.out.1.each x bt.out).1.gr ah.out) (hI.out.2.gr ah.out) bs.symm;rw[bs] at y0 y1 a8 ⊢;have hO:=ja4 (hR.out.2.2.1.gr ah.out) (hR.out.2.2.2.trans (ah.out.below.mono hR.out.2.2.2.size)) hR.out.1 hR.out.2.1;have b0:=ja1 (bC.out x bt.out);go_loopw [8,19] (fun u i wi=>∃m:Nat,m<=d.length/\i= .int V m/\O (dD wi E.heap.size u (cK (d.take m) x.r)/\jb2 E wi)) (fun _ i _=>d.length-(intOf i).toNat);exact ⟨0,nZ _,rfl,ae.nil _ _ _ _ _,bR _ _⟩;obtain ⟨m,hm,rfl,hS⟩:=hrel;have z0:jb1 wr xb 0 (I x.p x.r.length x.c):=(hS.out.2.cell (p:=(jb5 xb 0)) a8).trans y0;have z1:jb1 wr xb 1 (.int V x.n):=(hS.out.2.cell (p:=(jb5 xb 1)) a8).trans y1;have D:(cK (d.take m) x.r).length<=8:=by unfold cK;simp;omega
  by_cases R:m<d.length
  ·have a7:(m:Int)<(d.length:Int):=(by omega);have ba:=ja2 (bc.out.1.below hS.out.2) (bc.out.2.1.below hS.out.2);obtain ⟨b2,bv,rfl,b5,bd⟩:=ba.out.2.at R;obtain ⟨c,ao⟩:=jb0 (d[m]);have e2:jb1 wr b2 (bv+m) (.int V c):=by have:=bd m R 0 (by omega);rw[ao] at this;simpa[dU] using this
   have a4:O (cK (d.take (m+1)) x.r=cK (d.take m) x.r++[atI x.r c]):=(by show _=_;rw[ml R,ao]);obtain ⟨rb,ro,cn,hp,b8,bG,be,a6⟩:=dA ba.out.1 (b0.out c (by rw[<-ao];exact gM R));obtain ⟨nn,bl⟩:=jb0 (atI x.r c);rw[bl] at a6 a4;rw[hp] at z0;have b7:(cn:Int)<(x.r.length:Int):=by omega
   obtain rfl:=bG;clear bd ao hp bl be
   have f:O (dD (wr.alloc (S #[.int V nn] 3)) E.heap.size u8 (cK (d.take m) x.r)/\aq (wr.alloc (S #[.int V nn] 3)) (jb4 wr.heap.size 0) [nn]/\(cK (d.take m) x.r).length+[nn].length<=maxLen/\((cK (d.take m) x.r).length+[nn].length)*8<=140737488355328/\jb2 E (wr.alloc (S #[.int V nn] 3))) :=
    ⟨hS.out.1.gr ((gR _).alloc _),eQ rfl nn _,by unfold maxLen;simp;omega,by simp;omega,hS.out.2.alloc hS.out.2.size _⟩
   go_wp2_with (at_builtin;refine aH _ rfl (.tmp 23) (.tmp 29) rfl E.heap.size u8 (cK (d.take m) x.r) [nn] (jb4 wr.heap.size 0) 1 rfl rfl f.out.1 f.out.2.1 (fun h=>by cases h) f.out.2.2.1 f.out.2.2.2.1 f.out.2.2.2.2.size ?_;intro v3 w3 j ap);have g:O (dD w3 E.heap.size v3 (cK (d.take (m+1)) x.r)/\jb2 E w3):=⟨by rw[a4.out];exact j,f.out.2.2.2.2.trans (f.out.1.grown_below ap f.out.2.2.2.2.size)⟩;go_roundw;exact ⟨m+1,by omega,by go_num,g.out⟩;simp[intOf];omega
  ·have a7:¬(m:Int)<(d.length:Int):=(by omega);have ak:d.take m=d:=List.take_of_length_le (by omega);rw[ak] at hS D;obtain ⟨C,cc,a1,an,ad,a0⟩:=hS.out.1.row bI;obtain ⟨F,a9⟩:=jb0 (cK d x.r);rw[a9] at bp hS a1 ad D;subst a1;have a5:=ja2 (hO.out.2.1.trans (hS.out.2.mono hO.out.2.1.size)) hO.out.2.1.size;have f:O (OwnT (wr.alloc (S #[I C F.length cc,.int V x.n] 101)) w.heap.size u5 L/\aC aE 2 (wr.alloc (S #[I C F.length cc,.int V x.n] 101)) (jb4 wr.heap.size 0) [⟨C,cc,F,x.n⟩]/\Apart (wr.alloc (S #[I C F.length cc,.int V x.n] 101)) w.heap.size u5.ownBlock ⟨C,cc,F,x.n⟩/\L.length+1<=maxLen/\(L.length+1)*32<=140737488355328/\jb2 w (wr.alloc (S #[I C F.length cc,.int V x.n] 101))):=by
    have b4:=hO.out.2.2.1;refine ⟨(hO.out.1.below hS.out.2).gr ((gR _).alloc _),bV rfl ⟨C,cc,F,x.n⟩ _,⟨ad.gr ((gR _).alloc _),nT D (by decide),an,fun a ha=>⟨?_,?_,?_⟩⟩,by unfold maxLen;omega,by omega,a5.out.1.alloc a5.out.1.size _⟩
    ·have h1:=(a0 a ha).1;have h2:=a5.out.2;omega
    ·have h1:=(a0 a ha).2;simp;omega
    ·intro e;have h1:=(World.ownsRow.lt hO.out.1.own a.block e).2;have h2:=(a0 a ha).1;omega
   clear ak ad an a0 a9;go_wp2_with (at_builtin;refine cT _ rfl _ _ rfl w.heap.size u5 L ⟨C,cc,F,x.n⟩ (jb5 wr.heap.size 0) 1 rfl rfl f.out.1 f.out.2.1 f.out.2.2.1 f.out.2.2.2.1 f.out.2.2.2.2.1 f.out.2.2.2.2.2.size ?_;intro v3 w3 j ap)
   have g:O ((L++[(⟨C,cc,F,x.n⟩:Itm)]).length=k+1/\(L++[(⟨C,cc,F,x.n⟩:Itm)]).map Itm.z=dj ((l.take (k+1)).map Itm.z) d/\OwnT w3 w.heap.size v3 (L++[⟨C,cc,F,x.n⟩])/\jb2 w w3) :=
    ⟨by have:=hO.out.2.2.1;simp;omega,by rw[bp.out,List.map_append,hO.out.2.2.2];rfl,j,f.out.2.2.2.2.2.trans ap⟩
   clear j ap;go_roundw;exact ⟨k+1,L++[(⟨C,cc,F,x.n⟩:Itm)],by omega,by go_num,g⟩;simp[intOf];omega
 ·have bh:¬(k:Int)<(l.length:Int):=by omega
  have ak:l.take k=l:=List.take_of_length_le (by omega);obtain ⟨A2,a3,a1,an,ad,_⟩:=hR.out.2.2.1.items;have b1:L.length<=400:=by have:=hR.out.1;omega
  have g:O (L.map Itm.z=dj (l.map Itm.z) d/\Lv wr A2 a3 L/\jb2 w wr):=⟨by have:=hR.out.2.1;rw[ak] at this;exact this,⟨ad,an,by unfold maxLen;omega⟩,hR.out.2.2.2⟩;subst a1;clear ak ad an;go_wp2;go_ret;exact ⟨L,A2,a3,rfl,g.out.1,g.out.2.1,b1,g.out.2.2⟩

theorem nj {l:List Itm} {k:Nat} (h:k<l.length):de ((l.take (k+1)).map Itm.z)=de ((l.take k).map Itm.z)++(if 0<l[k].n then [(l[k].r,1)] else []):=by
 rw[List.take_succ_eq_append_getElem h,List.map_append];unfold de;rw[List.filter_append,List.map_append];congr 1;by_cases e:0<l[k].n
 ·rw[if_pos e];simp[Itm.z,e]
 ·rw[if_neg e];simp[Itm.z,e]

theorem uV (l:List Itm) (A:Option X) (cap:Nat) (w:Y) (hl:l.length<=400) (hr:Items w A l) :
  H J 218 #[I A l.length cap] w fun e w'=>∃(L:List Itm) (C:Option X) (k:Nat),e= Z (I C L.length k)/\L.map Itm.z=de (l.map Itm.z)/\Lv w' C k L/\L.length<=400/\jb2 w w':=by
 have ad:=ja1 hr;go_enter Tryz.func218,Tryz.ntmps218;go_wp2;go_loopw [3,8] (fun u i wr=>∃(k:Nat) (L:List Itm),k<=l.length/\i= .int V k/\O (L.length<=k/\L.map Itm.z=de ((l.take k).map Itm.z)/\(∀y∈L,∃x∈l,y=⟨x.p,x.c,x.r,1⟩)/\ae aE 2 101 wr w.heap.size u L/\jb2 w wr)) (fun _ i _=>l.length-(intOf i).toNat);exact ⟨0,[],nZ _,rfl,nR _,rfl,fun x F=>(by cases F),ae.nil _ _ _ _ _,bR _ _⟩;obtain ⟨k,L,hk,rfl,f⟩:=hrel;by_cases D:k<l.length
 ·have R:(k:Int)<(l.length:Int):=by omega
  have hI:=ja1 (ad.out.below f.out.2.2.2.2);obtain ⟨bb,a6,rfl,hb,an⟩:=hI.out.at D;obtain ⟨x,F⟩:=jb0 (l[k]);obtain ⟨e0,e1⟩:=an k D;rw[F] at e0 e1;have ah:O (de ((l.take (k+1)).map Itm.z)=de ((l.take k).map Itm.z)++(if 0<x.n then [(x.r,1)] else [])):=by show _=_;rw[nj D,F]
  have a4:O (x∈l):=by show _∈_;rw[<-F];exact gM D
  have m:O (Gr wr (wr.alloc (S #[I x.p x.r.length x.c,.int V x.n] 101))):=(gR _).alloc _;by_cases hn:0<x.n
  ·have g:O (ae aE 2 101 ((wr.alloc (S #[I x.p x.r.length x.c,.int V x.n] 101)).alloc (S #[I x.p x.r.length x.c,.int V 1] 101)) w.heap.size u3 L/\aC aE 2 ((wr.alloc (S #[I x.p x.r.length x.c,.int V x.n] 101)).alloc (S #[I x.p x.r.length x.c,.int V 1] 101)) (jb4 (wr.heap.size+1) 0) [(⟨x.p,x.c,x.r,1⟩:Itm)]/\L.length+[(⟨x.p,x.c,x.r,1⟩:Itm)].length<=maxLen/\(L.length+[(⟨x.p,x.c,x.r,1⟩:Itm)].length)*32<=140737488355328/\jb2 w ((wr.alloc (S #[I x.p x.r.length x.c,.int V x.n] 101)).alloc (S #[I x.p x.r.length x.c,.int V 1] 101))):=(by have a5:=f.out.1;exact ⟨f.out.2.2.2.1.gr (m.out.alloc _),bV (by simp) ⟨x.p,x.c,x.r,1⟩ _,by unfold maxLen;simp;omega,by simp;omega,f.out.2.2.2.2.trans ((m.out.alloc _).below.mono f.out.2.2.2.2.size)⟩);go_wp2_with (at_builtin;refine bA _ rfl _ _ rfl w.heap.size u3 L [(⟨x.p,x.c,x.r,1⟩:Itm)] (jb4 (wr.heap.size+1) 0) 1 rfl rfl g.out.1 g.out.2.1 (fun h=>by cases h) g.out.2.2.1 g.out.2.2.2.1 g.out.2.2.2.2.size ?_;intro v3 w3 E ao);have d:O ((L++[(⟨x.p,x.c,x.r,1⟩:Itm)]).length<=k+1/\(L++[(⟨x.p,x.c,x.r,1⟩:Itm)]).map Itm.z=de ((l.take (k+1)).map Itm.z)/\(∀y∈L++[(⟨x.p,x.c,x.r,1⟩:Itm)],∃x∈l,y=⟨x.p,x.c,x.r,1⟩)/\ae aE 2 101 w3 w.heap.size v3 (L++[(⟨x.p,x.c,x.r,1⟩:Itm)])/\jb2 w w3):=by
    refine ⟨by have:=f.out.1;simp;omega,by rw[ah.out,if_pos hn,List.map_append,f.out.2.1];rfl,fun y hy=> ?_,E,g.out.2.2.2.2.trans (g.out.1.grown_below ao g.out.2.2.2.2.size)⟩;rcases List.mem_append.1 hy with h|h
    ·exact f.out.2.2.1 y h
    ·exact ⟨x,a4.out,List.mem_singleton.1 h⟩
   go_roundw;exact ⟨k+1,L++[(⟨x.p,x.c,x.r,1⟩:Itm)],by omega,by go_num,d⟩;simp[intOf];omega
  ·have d:O (L.length<=k+1/\L.map Itm.z=de ((l.take (k+1)).map Itm.z)/\(∀y∈L,∃x∈l,y=⟨x.p,x.c,x.r,1⟩)/\ae aE 2 101 (wr.alloc (S #[I x.p x.r.length x.c,.int V x.n] 101)) w.heap.size u3 L/\jb2 w (wr.alloc (S #[I x.p x.r.length x.c,.int V x.n] 101))) :=
    ⟨by have:=f.out.1;omega,by rw[ah.out,if_neg hn,List.append_nil];exact f.out.2.1,f.out.2.2.1,f.out.2.2.2.1.gr m.out,f.out.2.2.2.2.trans (m.out.below.mono f.out.2.2.2.2.size)⟩
   go_wp2;go_roundw;exact ⟨k+1,L,by omega,by go_num,d⟩;simp[intOf];omega
 ·have R:¬(k:Int)<(l.length:Int):=by omega
  have aL:l.take k=l:=List.take_of_length_le (by omega);obtain ⟨A2,j,a3,a1,ap,ak,_,_⟩:=ae.full bO f.out.2.2.2.1;have a2:dC A2 L.length j:=dC.mk a1 ak;have a0:L.length<=400:=by have:=f.out.1;omega
  have d:O (L.map Itm.z=de (l.map Itm.z)/\Lv wr A2 j L/\jb2 w wr):=by refine ⟨by have:=f.out.2.1;rw[aL] at this;exact this,⟨⟨ap,fun y hy=> ?_⟩,a2,by unfold maxLen;omega⟩,f.out.2.2.2.2⟩;obtain ⟨x,F,rfl⟩:=f.out.2.2.1 y hy;exact (ad.out.below f.out.2.2.2.2).each x F
  subst a3;go_wp2;go_ret;exact ⟨L,A2,j,rfl,d.out.1,d.out.2.1,a0,d.out.2.2⟩

structure GInvL (c:Int) (G:List (Int×List Zit)) (l:List Zit):Prop where
 uniq:G.Pairwise fun a b=>a.1≠b.1
 pick:∀g∈G,g.2=l.filter fun y=>decide (atI y.1 c=g.1)
 all:∀y∈l,∃g∈G,g.1=atI y.1 c
theorem nJ:∀(G:List (Int×List Zit)) (n:Int) (x:Zit),(eN G n x).map (·.1)=if n∈G.map (·.1) then G.map (·.1) else G.map (·.1)++[n]
 | [],n,x=>by simp[eN]
 | g::t,n,x=>by
  have ih:=nJ t n x;by_cases e:g.1=n
  ·simp[eN,e]
  ·have c:¬n=g.1:=fun h=>e h.symm;simp only[eN,if_neg e,List.map_cons,ih,List.mem_cons,c,false_or];split<;>simp
theorem nK:∀(G:List (Int×List Zit)) (n:Int) (x:Zit),G.Pairwise (fun a b=>a.1≠b.1)->∀g∈eN G n x,(g.1≠n/\g∈G)\/(g.1=n/\((∃h∈G,h.1=n/\g.2=h.2++[x])\/((∀h∈G,h.1≠n)/\g.2=[x])))
 | [],n,x,_,g,hg=>by simp only[eN,List.mem_singleton] at hg;subst hg;exact oR ⟨rfl,oR ⟨fun h m=>(by cases m),rfl⟩⟩
 | h::t,n,x,hp,g,hg=>by
  have c:=List.pairwise_cons.1 hp;by_cases e:h.1=n
  ·simp only[eN,if_pos e] at hg;rcases List.mem_cons.1 hg with k|k
   ·subst k;exact oR ⟨e,oL ⟨h,mS ..,e,rfl⟩⟩
   ·refine oL ⟨fun r=>c.1 g k (by rw[e,r]),mC _ k⟩
  ·simp only[eN,if_neg e] at hg;rcases List.mem_cons.1 hg with k|k
   ·subst k;exact oL ⟨e,mS ..⟩
   ·rcases nK t n x c.2 g k with ⟨d,f⟩|⟨d,⟨h2,b1,b2,b3⟩|⟨b1,b2⟩⟩
    ·exact oL ⟨d,mC _ f⟩
    ·exact oR ⟨d,oL ⟨h2,mC _ b1,b2,b3⟩⟩
    ·refine oR ⟨d,oR ⟨fun j l=> ?_,b2⟩⟩;rcases List.mem_cons.1 l with k3|k3
     ·rw[k3];exact e
     ·exact b1 j k3
theorem GInvL.step {c:Int} {G:List (Int×List Zit)} {l:List Zit} (h:GInvL c G l) (x:Zit):GInvL c (eN G (atI x.1 c) x) (l++[x]):=by
 have D:=nJ G (atI x.1 c) x;refine ⟨?_,fun g f=> ?_,fun y C=> ?_⟩
 ·have:((eN G (atI x.1 c) x).map (·.1)).Pairwise (· ≠ ·):=by
   rw[D];split
   ·exact List.pairwise_map.2 h.uniq
   ·rename_i u;exact List.pairwise_append.2 ⟨List.pairwise_map.2 h.uniq,List.pairwise_singleton _ _,fun a R b hb e=>by rw[List.mem_singleton.1 hb] at e;exact u (e▸R)⟩
  exact List.pairwise_map.1 this
 ·rw[List.filter_append];rcases nK G _ x h.uniq g f with ⟨d,E⟩|⟨d,⟨h2,b1,b2,b3⟩|⟨b1,b2⟩⟩
  ·have:decide (atI x.1 c=g.1)=false:=(by simpa using fun k=>d k.symm);simp[this,h.pick g E]
  ·rw[b3,h.pick h2 b1,b2,d];simp
  ·have u:l.filter (fun y=>decide (atI y.1 c=g.1))=[]:=(by rw[List.filter_eq_nil_iff];intro y C e;obtain ⟨F,r,m⟩:=h.all y C;exact b1 F r (by rw[m,<-d];simpa using e));rw[u,b2,d];simp
 ·have j:∀n,n∈(eN G (atI x.1 c) x).map (·.1)↔n∈G.map (·.1)\/n=atI x.1 c:=fun n=>by
   rw[D];split
   ·rename_i hin;exact ⟨oL,fun k=>k.elim id (fun e=>e▸hin)⟩
   ·simp
  have:atI y.1 c∈(eN G (atI x.1 c) x).map (·.1):=by
   rw[j];rcases List.mem_append.1 C with e|e
   ·obtain ⟨g,f,m⟩:=h.all y e;exact oL (List.mem_map.2 ⟨g,f,m⟩)
   ·rw[List.mem_singleton.1 e];exact oR rfl
  obtain ⟨g,f,e⟩:=List.mem_map.1 this;exact ⟨g,f,e⟩
theorem lL {c:Int}:∀(m:List Zit) {G:List (Int×List Zit)} {l:List Zit},GInvL c G l->GInvL c (m.foldl (fun g x=>eN g (atI x.1 c) x) G) (l++m)
 | [],_,_,h=>by simpa using h
 | x::m,_,l,h=>by have:=lL m (h.step x);simpa using this
theorem lM (l:List Zit) (c:Int):GInvL c (fW l c) l:=by have:=lL (c:=c) l (G:=[]) (l:=[]) ⟨List.Pairwise.nil,fun g d=>(by cases d),fun y f=>(by cases f)⟩;rw[List.nil_append] at this;exact this
def prs (x:Zit) (l:List Zit):List Zit:=l.map fun y=>(x.1++y.1,x.2*y.2)
theorem nH {a:List Itm} {k:Nat} (h:k<a.length) (b:List Zit) (c v:Int):aP ((a.take (k+1)).map Itm.z) b c v=aP ((a.take k).map Itm.z) b c v++prs a[k].z (b.filter fun y=>decide (atI y.1 v=atI a[k].r c)):=by rw[List.take_succ_eq_append_getElem h,List.map_append];unfold aP prs;rw[List.flatMap_append];simp[Itm.z]
theorem wW {x:Zit} {l:List Itm} {m:Nat} (h:m<l.length):prs x ((l.take (m+1)).map Itm.z)=prs x ((l.take m).map Itm.z)++[(x.1++l[m].r,x.2*l[m].n)]:=by rw[List.take_succ_eq_append_getElem h,List.map_append];unfold prs;rw[List.map_append];rfl
theorem wS {a:List Itm} {k:Nat} (b:List Zit) (c v:Int) {p:Zit} (h:p∈aP ((a.take k).map Itm.z) b c v):p∈aP (a.map Itm.z) b c v:=by unfold aP at h ⊢;obtain ⟨x,f,d⟩:=List.mem_flatMap.1 h;obtain ⟨y,g,e⟩:=List.mem_map.1 f;exact List.mem_flatMap.2 ⟨x,List.mem_map.2 ⟨y,List.mem_of_mem_take g,e⟩,d⟩

theorem uK (l m:List Int) (A B:Option X) (ca cb:Nat) (w:Y) (hl:l.length<=8) (hm:m.length<=8) (F:A=none->ca=0) (R:B=none->cb=0) (hr:aq w A l) (hs:aq w B m) :
  H J 215 #[I A l.length ca,I B m.length cb] w fun e w'=>∃C c,e= Z (I C (l++m).length c)/\aq w' C (l++m)/\(C=none->c=0)/\(∀a,C=some a->w.heap.size<=a.block/\a.block<w'.heap.size)/\jb2 w w':=by
 have h:O (0+l.length<=maxLen/\(0+l.length)*8<=140737488355328/\([]++l).length+m.length<=maxLen/\(([]++l).length+m.length)*8<=140737488355328):=by show _/\_;unfold maxLen;simp;omega
 have j:=ja4 hr F hs R;go_enter Tryz.func215,Tryz.ntmps215;go_wp2_with (first|(at_builtin;refine aH _ rfl _ _ rfl w.heap.size (I none 0 0) [] l A ca rfl rfl (ae.nil _ _ _ _ _) j.out.1 j.out.2.1 h.out.1 h.out.2.1 (nR _) ?_;intro v1 w1 g d)|(at_builtin;refine aH _ rfl _ _ rfl w.heap.size v1 ([]++l) m B cb rfl rfl g (j.out.2.2.1.below (bB d)) j.out.2.2.2 h.out.2.2.1 h.out.2.2.2 (bB d).size ?_;intro v2 E k n));have u:=ja1 ((bB d).trans (ae.grown_below g n (bB d).size));obtain ⟨C,c,rfl,hC,r,D⟩:=ae.row bI k;have f:O (aq E C (l++m)/\(C=none->c=0)/\(∀a,C=some a->w.heap.size<=a.block/\a.block<E.heap.size)):=⟨by simpa using r,hC,D⟩;go_wp2;go_ret;exact ⟨C,c,by simp,f.out.1,f.out.2.1,f.out.2.2,u.out⟩
end Go.Proofs.YtbkjgjjpnfhkhaaGreatDoor
