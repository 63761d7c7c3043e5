import Derived.Test.YtbkjgjjpnfhkhaaGreatDoorM28
import Derived.Deep.CutRange
import Derived.Deep.CutBlock
set_option maxRecDepth 100000
set_option maxHeartbeats 8000000
open Go renaming World → U, Calls → q, Addr → vf
open Go.Ending renaming returned → Q
open Go.IntKind renaming i64 → I
open Go.Obj renaming cells → H
open Go.Proofs.Tryz renaming prog → Y
open Go.RowKit renaming Hid → Z, Below → vb
open Go.Value renaming int → S, slice → J, agg → ih, tuple → vc, pointer → vk
namespace Go.Proofs.YtbkjgjjpnfhkhaaGreatDoor
open Go.RowKit Go.Sort Go.Shelf Go.Lib

def oh (a b:Tab):List Cel:=a.e++b.e.filter fun y=> !bY a.e y.1
def fc (a b:Tab) (z:Cel):Bool:=(bY a.e z.1 && bY b.e z.1) || (bY a.e z.1 && !ax b.c z.1) || (bY b.e z.1 && !ax a.c z.1)

theorem pW {l:List Cel} {d:Int×Int}:bY l d=true↔∃y∈l,y.1=d:=by
 unfold bY;rw[List.any_eq_true];constructor
 ·rintro ⟨y,c,h⟩;exact ⟨y,c,by simpa using h⟩
 ·rintro ⟨y,c,h⟩;exact ⟨y,c,by simpa using h⟩
theorem kL {l:List Cel} {y:Cel} (h:y∈l):bY l y.1=true:=pW.2 ⟨y,h,rfl⟩

theorem xU {l m:List Cel} (c:Asc l) (d:Asc m) (h:∀x,x∈l↔x∈m):l=m:=by unfold Asc at c d;have k:l.Nodup:=List.Pairwise.imp (fun {a b} (h:bj a.1 b.1=true) (e:a=b)=>iA h (by rw[e])) c;have n:m.Nodup:=List.Pairwise.imp (fun {a b} (h:bj a.1 b.1=true) (e:a=b)=>iA h (by rw[e])) d;have j:l.Perm m:=(List.perm_ext_iff_of_nodup k n).2 h;refine List.Perm.eq_of_pairwise (le:=fun x y=>bj x.1 y.1=true) ?_ c d j;intro x y _ _ f g;have:=gC f g;rw[pb] at this;cases this
theorem l7 {a b:Tab} (g:ay a=0) (h:ay b=0):((oh a b).map (·.1)).Nodup:=by unfold oh;rw[List.map_append,List.nodup_append];refine ⟨iz (fs g),(iz (fs h)).sublist (List.filter_sublist.map _),?_⟩;intro d j m c e;subst e;obtain ⟨x,k,rfl⟩:=List.mem_map.1 j;obtain ⟨y,l,e⟩:=List.mem_map.1 c;have f:=(List.mem_filter.1 l).2;rw[e,kL k] at f;cases f
theorem sd {a b:Tab} {x:Cel} (h:bY a.e x.1=true):fc a b x=fe b x:=by unfold fc fe;rw[h];cases bY b.e x.1<;>cases ax b.c x.1<;>simp
theorem se {a b:Tab} {x:Cel} (h:bY a.e x.1=false) (c:x∈b.e):fc a b x=eC a x:=by unfold fc eC;rw[h,kL c];simp
theorem yF {a b:Tab} (g:ay a=0) (k:ay b=0):(f9 (oh a b)).filter (fc a b)=mrg a b:=by
 have h:=qu (l7 g k);unfold Asc at h;refine xU (show Asc _ from List.Pairwise.filter _ h) (si g k) ?_;intro x;rw[List.mem_filter,(fk _).mem_iff];unfold mrg;rw[(fk _).mem_iff];unfold oh gd;rw[List.mem_append,List.mem_append,List.mem_filter,List.mem_filter,List.mem_filter];constructor
 ·rintro ⟨c|⟨c,d⟩,j⟩
  ·exact oL ⟨c,by rw[<-sd (kL c)];exact j⟩
  ·have f:bY a.e x.1=false:=(by simpa using d);exact oR ⟨c,by rw[<-se f c];exact j⟩
 ·rintro (⟨c,d⟩|⟨c,d⟩)
  ·exact ⟨oL c,by rw[sd (kL c)];exact d⟩
  ·have f:bY a.e x.1=false:=by
    cases l:bY a.e x.1
    ·rfl
    ·obtain ⟨y,n,e⟩:=pW.1 l;have m:=ig g n;unfold eC at d;rw[<-e,m] at d;cases d
   exact ⟨oR ⟨c,by rw[f];rfl⟩,by rw[se f c];exact d⟩
theorem ln (a b:Tab):dH a b=b.e.any (clP a.e):=by
 have d:∀a b:Tab,dH a b=true->b.e.any (clP a.e)=true:=by
  intro a b h;unfold dH at h;obtain ⟨x,j,f⟩:=List.any_eq_true.1 h;unfold clP at f;obtain ⟨y,k,c⟩:=List.any_eq_true.1 f;simp only[Bool.and_eq_true,decide_eq_true_eq,Bool.not_eq_true'] at c;refine List.any_eq_true.2 ⟨y,k,?_⟩;unfold clP;refine List.any_eq_true.2 ⟨x,j,?_⟩;simp only[Bool.and_eq_true,decide_eq_true_eq,Bool.not_eq_true'];refine ⟨c.1.symm,?_⟩;cases g:ge x y
  ·rfl
  ·rw[fi] at g;rw[g,fi.2 rfl] at c;cases c.2
 cases h:dH a b
 ·cases c:b.e.any (clP a.e)
  ·rfl
  ·have:=d b a c;unfold dH at h;rw[h] at this;cases this
 ·exact (d a b h).symm

def cfR (x y:Cel):Int:=if fg x y then -1 else 1
theorem ltR (x y:Cel):ltOf cfR x y=fg x y:=by unfold ltOf cfR;cases fg x y<;>simp

theorem qm (x y:Cel) (w:U):q Y 57 #[ih #[S I x.1.1,S I x.1.2,S I x.2.1,S I x.2.2.1,S I x.2.2.2],ih #[S I y.1.1,S I y.1.2,S I y.2.1,S I y.2.2.1,S I y.2.2.2]] w fun e w'=>e= Q (S I (cfR x y))/\Gr w w':=by
 have d:Gr w ((w.alloc (H #[S I x.1.1,S I x.1.2,S I x.2.1,S I x.2.2.1,S I x.2.2.2] 91)).alloc (H #[S I y.1.1,S I y.1.2,S I y.2.1,S I y.2.2.1,S I y.2.2.2] 91)):=((gR _).alloc _).alloc _;have h:cfR x y=if bj x.1 y.1 then -1 else 1:=rfl;have c:Z _:=h;go_enter Tryz.func57,Tryz.ntmps57;go_wp2_with fail;refine (lg x.1 y.1 _).mono ?_;rintro e w' ⟨rfl,g⟩;cases f:bj x.1 y.1
 ·go_wp2;go_ret;rw[c.out,f];exact ⟨rfl,d.trans g⟩
 ·go_wp2;go_ret;rw[c.out,f];exact ⟨rfl,d.trans g⟩
theorem Bh (c d size:Nat) (w:U):CmpLays Y 57 #[] ex 5 cfR c d size w :=
 fun _ _ _ _ x y=>qm x y _

theorem dt {w w':U} {row:Option Nat} (h:w.grownBy w' row) {p:vf} (d:p.block<w.heap.size) (c:some p.block≠row):w'.cell? p=w.cell? p :=
 World.cell?_of_block (h.block p.block d c)
theorem Row.grownBy {w w':U} {row:Option Nat} {A:Option vf} {l:List (Int×Int)} (h:Row w A l) (k:w.grownBy w' row) (g:∀x,A=some x->l≠[]->some x.block≠row):Row w' A l:=by
 rcases h with h|⟨b,off,rfl,hb,hc⟩
 ·exact oL h
 ·by_cases d:l=[]
  ·exact oL d
  ·have c:=g _ rfl d;refine oR ⟨b,off,rfl,nL hb k.size,fun j f=>⟨?_,?_⟩⟩
   ·exact (dt k (p:=(jb5 b (off+j*2))) hb c).trans (hc j f).1
   ·exact (dt k (p:=(jb5 b (off+j*2+1))) hb c).trans (hc j f).2
theorem CtxAt.grownBy {w w':U} {row:Option Nat} {B:Nat} {c:Ctx} {A:Option vf} {cap:Nat} (h:CtxAt w B c A cap) (k:w.grownBy w' row) (d:some B≠row) (f:∀x,A=some x->c.l≠[]->some x.block≠row):CtxAt w' B c A cap :=
 ⟨(dt k (p:=(jb5 B 0)) h.lt d).trans h.k0,(dt k (p:=(jb5 B 1)) h.lt d).trans h.k1,(dt k (p:=(jb5 B 2)) h.lt d).trans h.k2,(dt k (p:=(jb5 B 3)) h.lt d).trans h.k3,(dt k (p:=(jb5 B 4)) h.lt d).trans h.k4,nL h.lt k.size,h.row.grownBy k f⟩
theorem pH {w:U} {g n:Nat} {os:Array Obj} {d:Array Cel}:w.grownBy (sortWorldK ex 5 w g 0 n d os) (some g):=by refine ⟨rfl,rfl,rfl,by simp[sortWorldK,grow,putRowK],fun k f c=> ?_⟩;show ((putRowK ex 5 (Sort.ahead w n) g 0 d).heap++os)[k]? = _;rw[Array.getElem?_append_left (by simp[putRowK];omega)];show ((Sort.ahead w n).heap.modify g _)[k]? = _;rw[Array.getElem?_modify,if_neg (fun e=>c (by rw[e]))];rfl

theorem Ai {C:Cel->Cel->Int} (r:∀x y,ltOf C x y=fg x y) (c:Nat) (cb:Array Value) (eg:∀h w,(callFunc c h).run Y w= .ok (.enter c h) w) (g cap:Nat) (l:List Cel) (w:U) (u:CmpLays Y c cb ex 5 C g 0 l.length w) (hu:mR l) (hH:HoldsK ex 5 w g 0 l.toArray) (hg:g<w.heap.size) (ah:l.length<4611686018427387904) :
  q Y 56 #[J (jb4 g 0) l.length cap,.func (.func c) #[] cb] w fun e w'=>e= Q (vc #[])/\av w' (jb4 g 0) (f9 l)/\w.grownBy w' (some g):=by
 have d:=AnyQ.slices_SortFunc Tryz.sortCell 5 Tryz.isAgg91 Tryz.sizeOf91 ex (fun _=>rfl) ji C (B8 r) c cb g 0 cap l.toArray w eg (by simpa using u) hH hg (by simpa using ah);change q Y 56 _ _ _ at d;simp only[List.size_toArray] at d;refine d.mono ?_;rintro e w' ⟨he,k,n,os,hp,hs,hw⟩;obtain ⟨m,_,f⟩:=hp;simp only[List.size_toArray] at m;have e1:k.extract 0 l.length=k:=by rw[<-m];exact Array.extract_size
 have e2:(l.toArray.extract 0 l.length).toList=l:=by simp
 rw[e1,e2] at f;have ad:k.toList.Pairwise fun x y=>(!fg y x)=true:=by
  rw[List.pairwise_iff_getElem];intro i j hi hj F;have E:i<k.size:=by simpa using hi
  have R:j<k.size:=by simpa using hj
  have:=hs i j (nZ _) F (by omega);rw[getElem!_pos k j R,getElem!_pos k i E,r] at this;simpa using this
 have hd:k=(f9 l).toArray:=by have:=sy hu f ad;rw[<-this]
 subst hd;refine ⟨he,?_,by rw[hw];exact pH⟩;have D:HoldsK ex 5 w' g 0 (f9 l).toArray:=by rw[hw];refine holdsK_grow _ _ _ _ _ _ _ (by simp[putRowK];exact hg) ?_;exact holdsK_putRowK _ _ _ _ _ l.toArray _ (holdsK_ahead _ _ _ _ _ _ _ hH) (by simp[eY])
 refine zu D ?_;rw[hw];simp[sortWorldK,grow,putRowK];omega

theorem xr {cf:Cel->Cel->Int} (D:∀x y,ltOf cf x y=fg x y) (c:Nat) (cb:Array Value) (eg:∀d w,(callFunc c d).run Y w= .ok (.enter c d) w) (j:Nat) (A:Option vf) (cap:Nat) (l:List Cel) (w:U) (m:∀g,CmpLays Y c cb ex 5 cf g 0 l.length w) (hu:mR l) (n:cL w j (J A l.length cap) l) (ad:l.length<4611686018427387904) :
  q Y 56 #[J A l.length cap,.func (.func c) #[] cb] w fun e w'=>e= Q (vc #[])/\av w' A (f9 l)/\w.grownBy w' (Value.slice A l.length cap).ownBlock:=by
 obtain ⟨A',k,E,hA,h,ak,R,F⟩:=ae.full cO n;obtain ⟨rfl,rfl⟩:A=A'/\cap=k:=by injection E with h1 h2 h3;exact ⟨h1,h3⟩
 by_cases h0:l=[]
 ·subst h0;have f:=AnyF.slices_SortFunc_none Tryz.sortCell A cap (.func (.func c) #[] cb) w;change q Y 56 _ _ _ at f;refine f.mono ?_;rintro e w' ⟨E,rfl⟩;exact ⟨E,oL (by simp[f9]),⟨rfl,rfl,rfl,nR _,fun _ _ _=>rfl⟩⟩
 ·have r:0<l.length:=List.length_pos_iff.2 h0;obtain ⟨b,ah,u,C,_⟩:=h.at r;subst u;have h5:=R _ rfl;obtain rfl:ah=0:=h5.2.2.1;exact Ai D c cb eg b cap l w (m b) hu (vE h (F _ rfl)) C ad


structure CelOff (w:U) (b o:Nat) (x:Cel):Prop where
 k0:w.cell? ⟨b,o,none⟩=some (S I x.1.1)
 k1:w.cell? ⟨b,o+1,none⟩=some (S I x.1.2)
 k2:w.cell? ⟨b,o+2,none⟩=some (S I x.2.1)
 k3:w.cell? ⟨b,o+3,none⟩=some (S I x.2.2.1)
 k4:w.cell? ⟨b,o+4,none⟩=some (S I x.2.2.2)
 lt:b<w.heap.size
theorem CelOff.gr {w w':U} {b o:Nat} {x:Cel} (h:CelOff w b o x) (k:Gr w w'):CelOff w' b o x :=
 ⟨(k.cell (p:=(jb5 b o)) h.lt).trans h.k0,(k.cell (p:=(jb5 b (o+1))) h.lt).trans h.k1,(k.cell (p:=(jb5 b (o+2))) h.lt).trans h.k2,(k.cell (p:=(jb5 b (o+3))) h.lt).trans h.k3,(k.cell (p:=(jb5 b (o+4))) h.lt).trans h.k4,nL h.lt k.size⟩
theorem CelOff.G {w:U} {b o:Nat} {x:Cel} (h:CelOff w b o x):(∀n c,jb1 (grow (w.drewN n) c) b o (S I x.1.1))/\(∀n c,jb1 (grow (w.drewN n) c) b (o+1) (S I x.1.2))/\(∀n c,jb1 (grow (w.drewN n) c) b (o+2) (S I x.2.1))/\(∀n c,jb1 (grow (w.drewN n) c) b (o+3) (S I x.2.2.1))/\(∀n c,jb1 (grow (w.drewN n) c) b (o+4) (S I x.2.2.2)) :=
 ⟨cell_grown (a:=(jb5 b o)) h.lt h.k0,cell_grown (a:=(jb5 b (o+1))) h.lt h.k1,cell_grown (a:=(jb5 b (o+2))) h.lt h.k2,cell_grown (a:=(jb5 b (o+3))) h.lt h.k3,cell_grown (a:=(jb5 b (o+4))) h.lt h.k4⟩

theorem TabAt.G {w:U} {B:Nat} {t:Tab} {A:Option vf} {ca:Nat} {D:Option vf} {cd:Nat} (h:TabAt w B t A ca D cd):(∀n d,jb1 (grow (w.drewN n) d) B 0 (S I t.c.c0))/\(∀n d,jb1 (grow (w.drewN n) d) B 1 (S I t.c.c1))/\(∀n d,jb1 (grow (w.drewN n) d) B 2 (S I t.c.c2))/\(∀n d,jb1 (grow (w.drewN n) d) B 3 (S I t.c.c3))/\(∀n d,jb1 (grow (w.drewN n) d) B 4 (J A t.c.l.length ca))/\(∀n d,jb1 (grow (w.drewN n) d) B 5 (J D t.e.length cd)) :=
 ⟨cell_grown (a:=(jb5 B 0)) h.lt h.k0,cell_grown (a:=(jb5 B 1)) h.lt h.k1,cell_grown (a:=(jb5 B 2)) h.lt h.k2,cell_grown (a:=(jb5 B 3)) h.lt h.k3,cell_grown (a:=(jb5 B 4)) h.lt h.k4,cell_grown (a:=(jb5 B 5)) h.lt h.k5⟩
theorem sv {c:Ctx} {A:Option vf} {cap:Nat} {d:Int×Int} {r:Bool} {W:U} (j:ax c d=r) (g:c.l.length<=maxLen) (h:Row W A c.l) (n:Nat) (os:Array Obj) :
  q Y 59 #[ih (ja7 c A cap),ih #[S I d.1,S I d.2]] (grow (W.drewN n) os) fun e f=>e= Q (.bool r)/\∃p:GrownBy,f=grow (W.drewN p.n) p.os:=by rw[<-j];exact toG n os (ir c A cap d _ g (h.gr (grG W n os)))

theorem rK (a b:Tab) (A B C D:Option vf) (ca cb cc cd:Nat) (w:U) (h5:a.c.l.length<=maxLen) (kc:b.c.l.length<=maxLen) (e6:a.e.length<=maxLen) (u:b.e.length<=maxLen) (hA:A=none->ca=0) (hB:B=none->cb=0) (hC:C=none->cc=0) (d5:Row w A a.c.l) (d6:Row w B b.c.l) (kv:av w C a.e) (kz:av w D b.e) :
  q Y 27 #[ih (T6 a A ca C cc).toArray,ih (T6 b B cb D cd).toArray] w fun e w'=>∃E ce F cf,e= Q (vc #[ih (T6 (aR a b) E ce F cf).toArray,S I (aD a b)])/\Row w' E (aR a b).c.l/\av w' F (aR a b).e/\(E=none->ce=0)/\(F=none->cf=0)/\vb w.heap.size w w'/\(∀x,E=some x->w.heap.size<=x.block)/\(∀x,F=some x->w.heap.size<=x.block):=by
 have hc:MergeAt w (((w.alloc (H #[S I a.c.c0,S I a.c.c1,S I a.c.c2,S I a.c.c3,J A a.c.l.length ca,J C a.e.length cc] 35)).alloc (H #[S I b.c.c0,S I b.c.c1,S I b.c.c2,S I b.c.c3,J B b.c.l.length cb,J D b.e.length cd] 35)).alloc (H #[S I 0,S I 0,S I 0,S I 0,J none 0 0,J none 0 0] 35)) a b A ca C cc B cb D cd :=
  ⟨(TabAt.new 35 d5 kv rfl).gr (((gR _).alloc _).alloc _),(TabAt.new 35 (d6.gr ((gR _).alloc _)) (kz.gr ((gR _).alloc _)) (by simp)).gr ((gR _).alloc _),Six.new _ _ _ _ _ _ _ 35 (by simp),((((gR w).alloc _).alloc _).alloc _).below⟩
 have bt:Tryz.prog.follows .mixedOrders=true:=by kernel_rfl
 have ck:=ja4 h5 kc e6 u;have g6:=ja3 hA hB hC;have hn:=fy a A ca C cc _ h5 e6 hc.ta.row hc.ta.rowC;have dv:Z _:=hn;go_enter Tryz.func27,Tryz.ntmps27;go_wp2_with fail;refine ja0 dv ?_;rintro e w1 ⟨rfl,ko⟩;have ea:=hc.gr ko;obtain ⟨E1,d9⟩:∃E,ay a=E:=⟨_,rfl⟩;rw[d9];by_cases h1:E1=0
 ·subst h1;have bd:=ja1 d9;obtain ⟨b0,b1,b2,b3,b4,b5,hP,cn,b7⟩:=(show TabAt _ _ _ _ _ _ _ from ea.tb);have hn:=fy b B cb D cd w1 ck.out.2.1 ck.out.2.2.2 cn b7;have dv:Z _:=hn;go_wp2_with fail;refine ja0 dv ?_;rintro e w2 ⟨rfl,kp⟩;have cs:=ea.gr kp;obtain ⟨E2,c8⟩:∃E,ay b=E:=⟨_,rfl⟩;rw[c8];by_cases h2:E2=0
  ·subst h2;have bG:=ja1 c8;clear c8;have a5:=cs.ta.k5;have k6:a.e.length<=400:=(af bd.out).2.1;have k7:b.e.length<=400:=(af bG.out).2.1;have r:Z (([]:List Cel).length+a.e.length<=maxLen/\(([]:List Cel).length+a.e.length)*40<=140737488355328):=by show _/\_;unfold maxLen;simp only[List.length_nil];omega
   go_wp2_with (at_builtin;refine cD _ rfl _ _ rfl w2.heap.size (J none 0 0) [] a.e C cc rfl rfl (ae.nil _ _ _ _ _) cs.ta.rowC g6.out.2.2 r.out.1 r.out.2 (nR _) ?_;intro v3 w3 d4 fn);clear a5;have h6:vb w2.heap.size w2 w3:=bB fn;have i2:Z (a.e.length+b.e.length<=800):=by show _<=_;omega
   go_loopw [8,9] (fun v i wr=>∃k:Nat,k<=b.e.length/\i= S I k/\cL wr w2.heap.size v (a.e++(b.e.take k).filter fun y=> !bY a.e y.1)/\Z (∀j (h:j<b.e.length),j<k->clP a.e b.e[j]=false)/\vb w2.heap.size w2 wr) (fun _ i _=>b.e.length-(intOf i).toNat);exact ⟨0,by omega,rfl,by simpa using d4,fun j _ hj=>absurd hj (Nat.not_lt_zero _),h6⟩;clear d4 fn h6;obtain ⟨k,hk,rfl,ah,ek,u⟩:=hrel;obtain ⟨A1,c5,rfl,lk,ba,k9⟩:=ae.row cO ah;have bp:=cs.below u;have iv:w2.heap.size<=wr.heap.size:=u.size;have b5:=bp.tb.k5;by_cases cl:k<b.e.length
   ·have ib:(k:Int)<(b.e.length:Int):=(by omega);obtain ⟨bb,R,rfl,bC,cj⟩:=av.get bp.tb.rowC cl;obtain ⟨y,hy⟩:∃y,b.e[k]=y:=⟨_,rfl⟩;have cz:=eV (p:=fun y=> !bY a.e y.1) cl hy;have d8:=ja1 hy;obtain ⟨M,HM⟩:∃M,(a.e++(b.e.take k).filter fun y=> !bY a.e y.1)=M:=⟨_,rfl⟩;have hl:M.length<=800:=by rw[<-HM,List.length_append];have:=iE (fun y=> !bY a.e y.1) b.e k;omega
    have d7:Z ((a.e++(b.e.take (k+1)).filter fun y=> !bY a.e y.1)=M++(if !bY a.e y.1 then [y] else [])):=(by show _=_;rw[cz,<-List.append_assoc,HM]);rw[HM] at ah ba ⊢;have ao:=ja1 ah;have bs:=ja1 u;have bh:=ja1 bp;have f:Z (∀W,vb wr.heap.size wr W->q Y 54 #[ih (T6 a A ca C cc).toArray,ih #[S I y.1.1,S I y.1.2]] W fun e w'=>e= Q (vc #[ih #[S I (ft a.e y.1).1.1,S I (ft a.e y.1).1.2,S I (ft a.e y.1).2.1,S I (ft a.e y.1).2.2.1,S I (ft a.e y.1).2.2.2],.bool (bY a.e y.1)])/\Gr W w'):=fun W hb=>jV a A ca C cc y.1 W ck.out.2.2.1 (bh.out.ta.below hb).row (bh.out.ta.below hb).rowC;have d:Z (∀w':U,vb wr.heap.size wr w'->(fun w'=>w'.cell? ⟨w.heap.size,0,none⟩=some (S I a.c.c0)/\w'.cell? ⟨w.heap.size,1,none⟩=some (S I a.c.c1)/\w'.cell? ⟨w.heap.size,2,none⟩=some (S I a.c.c2)/\w'.cell? ⟨w.heap.size,3,none⟩=some (S I a.c.c3)/\w'.cell? ⟨w.heap.size,4,none⟩=some (J A a.c.l.length ca)/\w'.cell? ⟨w.heap.size,5,none⟩=some (J C a.e.length cc)/\w'.cell? ⟨w.heap.size+1,5,none⟩=some (J (some ⟨bb,R,none⟩) b.e.length cd)/\w'.cell? ⟨bb,R+k*5,none⟩=some (S I y.1.1)/\w'.cell? ⟨bb,R+k*5+1,none⟩=some (S I y.1.2)) w'):=fun w' hb=>by
     have h1:=bh.out.ta.below hb;have h2:=bh.out.tb.below hb;have kf:=av.get h2.rowC cl;obtain ⟨b',o',he,_,h3⟩:=kf;obtain ⟨rfl,rfl⟩:bb=b'/\R=o':=by injection he with he;injection he with h1 h2;exact ⟨h1,h2⟩
     have h4:=h3 k cl;rw[d8.out] at h4;exact ⟨h1.k0,h1.k1,h1.k2,h1.k3,h1.k4,h1.k5,h2.k5,h4.1,h4.2.1⟩
    obtain ⟨X,HX⟩:∃X,ft a.e y.1=X:=⟨_,rfl⟩;rw[HX] at f;have i3:=ja1 HX;obtain ⟨mm,Hm⟩:∃m,bY a.e y.1=m:=⟨_,rfl⟩;rw[Hm] at f d7;have hO:=ja1 Hm;have r:vb wr.heap.size wr wr.drew:=(bR _ _).drew;have ap:vb wr.heap.size wr (wr.alloc (H #[S I 0,S I 0,S I 0,S I 0,S I 0] 91)).drew:=((bR _ _).alloc (nR _) _).drew;clear ah u ba cj hy cz HM HX Hm bp;go_upto_region 11 with fail;clear b5
    go_region_held3 (fun w'=>w'.cell? ⟨w.heap.size,0,none⟩=some (S I a.c.c0)/\w'.cell? ⟨w.heap.size,1,none⟩=some (S I a.c.c1)/\w'.cell? ⟨w.heap.size,2,none⟩=some (S I a.c.c2)/\w'.cell? ⟨w.heap.size,3,none⟩=some (S I a.c.c3)/\w'.cell? ⟨w.heap.size,4,none⟩=some (J A a.c.l.length ca)/\w'.cell? ⟨w.heap.size,5,none⟩=some (J C a.e.length cc)/\w'.cell? ⟨w.heap.size+1,5,none⟩=some (J (some ⟨bb,R,none⟩) b.e.length cd)/\w'.cell? ⟨bb,R+k*5,none⟩=some (S I y.1.1)/\w'.cell? ⟨bb,R+k*5+1,none⟩=some (S I y.1.2)) (first|with_reducible exact d.out _ r|with_reducible exact d.out _ ap|with_reducible exact d.out _ ad.out|with_reducible exact d.out _ dl.out|with_reducible exact d.out _ ak.out)
     (first
      | (go_at_call 54;(with_reducible refine cM (show q _ _ _ _ _ from f.out wr.drew r) ?_);rintro e x1 ⟨rfl,hg⟩;have ad:Z (vb wr.heap.size wr x1):=r.trans (hg.below.mono r.size);have dl:Z (vb wr.heap.size wr (x1.alloc (H #[S I 0,S I 0,S I 0,S I 0,S I 0] 91))):=ad.out.alloc ad.out.size _;obtain ⟨y0,y1,y2,y3,y4,yf,bv⟩:=FiveAt.new x1 (S I 0) (S I 0) (S I 0) (S I 0) (S I 0) 91 rfl;have ak:Z (vb wr.heap.size wr (x1.alloc (H #[S I X.1.1,S I X.1.2,S I X.2.1,S I X.2.2.1,S I X.2.2.2] 91))):=ad.out.alloc ad.out.size _;have hm:Z (CelAt (x1.alloc (H #[S I X.1.1,S I X.1.2,S I X.2.1,S I X.2.2.1,S I X.2.2.2] 91)) x1.heap.size X):=CelAt.new X 91 rfl;clear hg)
      | (go_at_call 54;(with_reducible refine cM (show q _ _ _ _ _ from f.out (wr.alloc (H #[S I 0,S I 0,S I 0,S I 0,S I 0] 91)).drew ap) ?_);rintro e x1 ⟨rfl,hg⟩;have ad:Z (vb wr.heap.size wr x1):=ap.trans (hg.below.mono ap.size);obtain ⟨y0,y1,y2,y3,y4,yf,bv⟩:=(FiveAt.new wr (S I 0) (S I 0) (S I 0) (S I 0) (S I 0) 91 rfl).gr ((gR _).drew.trans hg);have ak:Z (vb wr.heap.size wr ((((((x1.setCell ⟨wr.heap.size,0,none⟩ (S I X.1.1)).setCell ⟨wr.heap.size,1,none⟩ (S I X.1.2)).setCell ⟨wr.heap.size,2,none⟩ (S I X.2.1)).setCell ⟨wr.heap.size,3,none⟩ (S I X.2.2.1)).setCell ⟨wr.heap.size,4,none⟩ (S I X.2.2.2)))):=au ad.out (nR _) _ _ _ _ _;have hm:Z (CelAt ((((((x1.setCell ⟨wr.heap.size,0,none⟩ (S I X.1.1)).setCell ⟨wr.heap.size,1,none⟩ (S I X.1.2)).setCell ⟨wr.heap.size,2,none⟩ (S I X.2.1)).setCell ⟨wr.heap.size,3,none⟩ (S I X.2.2.1)).setCell ⟨wr.heap.size,4,none⟩ (S I X.2.2.2))) wr.heap.size X):=⟨aa (aa (aa (aa (aa y0)))),aa (aa (aa (aa (aa y1)))),aa (aa (aa (aa (aa y2)))),aa (aa (aa (aa (aa y3)))),aa (aa (aa (aa (aa y4)))),by simpa[World.setCell] using bv⟩;clear hg))
    all_goals (have b8:=bh.out.below ak.out;have cr:=ao.out.below ak.out;have dk:=hm.out;have bl:vb w2.heap.size w2 _:=bs.out.trans (ak.out.mono iv);clear ak hm d f ad r ap y0 y1 y2 y3 y4 yf bv)
    all_goals (first|(with_reducible change Exit.then _ _ _ _ (World.alloc x1 _);generalize x1.alloc (H #[S I X.1.1,S I X.1.2,S I X.2.1,S I X.2.2.1,S I X.2.2.2] 91)=V at b8 cr dk bl ⊢;generalize x1.heap.size=Bx at dk ⊢)|(generalize ((((((x1.setCell ⟨wr.heap.size,0,none⟩ (S I X.1.1)).setCell ⟨wr.heap.size,1,none⟩ (S I X.1.2)).setCell ⟨wr.heap.size,2,none⟩ (S I X.2.1)).setCell ⟨wr.heap.size,3,none⟩ (S I X.2.2.1)).setCell ⟨wr.heap.size,4,none⟩ (S I X.2.2.2)))=V at b8 cr dk bl ⊢;generalize wr.heap.size=Bx at dk ⊢))
    all_goals
     clear ao bh;have hE:=ry;have hG:=pM;obtain ⟨i5,i1,ej,bC,cj⟩:=av.get b8.tb.rowC cl;obtain ⟨rfl,rfl⟩:bb=i5/\R=i1:=by injection ej with ej;injection ej with h1 h2;exact ⟨h1,h2⟩
     obtain ⟨e0,e1,e2,e3,e4⟩:=cj k cl;rw[d8.out] at e0 e1 e2 e3 e4;have b5:=b8.tb.k5;have kG:=cell_grown (a:=⟨w.heap.size+1,5,none⟩) b8.tb.lt b5;have q0:=cell_grown (a:=⟨bb,R+k*5,none⟩) bC e0;have q1:=cell_grown (a:=⟨bb,R+k*5+1,none⟩) bC e1;have q2:=cell_grown (a:=⟨bb,R+k*5+2,none⟩) bC e2;have q3:=cell_grown (a:=⟨bb,R+k*5+3,none⟩) bC e3;have q4:=cell_grown (a:=⟨bb,R+k*5+4,none⟩) bC e4;obtain ⟨g0,g1,g2,g3,g4⟩:=dk.G;have hT:=ja1 b8;have d3:=ja1 cr;clear b8 cr cj ej b5 e0 e1 e2 e3 e4;cases mm
     ·have d0:Z (∀j (h:j<b.e.length),j<k+1->clP a.e b.e[j]=false):=by
       intro j hj ks;by_cases e:j=k
       ·subst e;rw[d8.out];exact pi hO.out
       ·exact ek j hj (by omega)
      have bc:Z ((a.e++(b.e.take (k+1)).filter fun y=> !bY a.e y.1)=M++[y]):=(by show _=_;rw[d7.out];rfl);have r:Z (M.length+[y].length<=maxLen/\(M.length+[y].length)*40<=140737488355328):=by show _/\_;unfold maxLen;simp only[List.length_cons,List.length_nil];omega
      go_upto_region 12 with fail;refine wp_region_quiet_grown bt (by kernel_rfl) ?_;repeat (go_big_quiet_step (fail))
      refine wpQuiet_nil ?_;rintro _ ⟨⟨nq,an⟩,rfl⟩;have be:Gr V (grow (V.drewN nq) an):=⟨nq,an,rfl⟩;have f0:=q0 nq an;have f1:=q1 nq an;have f2:=q2 nq an;have f3:=q3 nq an;have f4:=q4 nq an;have f5:=kG nq an;have b6:=d3.out.gr be;have dp:=ja1 (bl.trans (be.below.mono bl.size));clear q0 q1 q2 q3 q4 kG g0 g1 g2 g3 g4 be;generalize grow (V.drewN nq) an=wq at f0 f1 f2 f3 f4 f5 b6 dp ⊢;have d2:=ja1 b6;have cv:=dp.out.size;clear b6;go_wp2_with (at_builtin;refine cD _ rfl _ _ rfl w2.heap.size (J A1 M.length c5) M [y] (some ⟨wq.heap.size,0,none⟩) 1 rfl rfl ?ho ?hr (fun h=>by cases h) r.out.1 r.out.2 ?hs ?_);case ho=>exact d2.out.gr ((gR _).alloc _)
      case hr=>exact fx rfl _ _
      case hs=>simp;omega
      intro v1 w4 a9 bN;have b9:Z (vb w2.heap.size w2 w4):=dp.out.trans ((((gR _).alloc _).below.mono cv).trans (ae.grown_below (d2.out.gr ((gR _).alloc _)) bN (by simp;omega)));have cm:=ja1 a9;clear a9 bN;go_wp2;go_roundw;exact ⟨k+1,by omega,by go_num,by rw[bc.out];exact cm.out,d0,b9.out⟩;simp[intOf];omega
     ·obtain ⟨eg,ec⟩:=vu hO.out;rw[i3.out] at eg ec;obtain ⟨ix,kq,cp⟩:=List.getElem_of_mem eg;have dx:=uO (x:=y) (fs bd.out) kq (by rw[cp];exact ec);rw[cp] at dx;cases hq:ge X y
      ·have n:Z (aD a b=5/\aR a b=⟨ar,[]⟩):=by
        refine dB ?_ (by decide);have:dH a b=true:=by rw[ln,List.any_eq_true];exact ⟨y,by rw[<-d8.out];exact gM cl,by rw[dx,hq];rfl⟩
        unfold aD;rw[bd.out,bG.out,this];simp
       clear eg ec cp dx;go_upto_region 12 with fail;refine wp_region_quiet_grown bt (by kernel_rfl) ?_;repeat (go_big_quiet_step (fail))
       refine wpQuiet_nil ?_;rintro _ ⟨⟨nq,an⟩,rfl⟩;have be:Gr V (grow (V.drewN nq) an):=⟨nq,an,rfl⟩;have aL:=hT.out.gr be;clear q0 q1 q2 q3 q4 kG g0 g1 g2 g3 g4 be;generalize grow (V.drewN nq) an=wq at aL ⊢;obtain ⟨z0,z1,z2,z3,z4,z5,zf,cG⟩:=(show Six _ _ _ _ _ _ _ _ from aL.res);have a7:=ja1 aL.hw;go_wp2;rw[n.out.1,n.out.2];exact bodyPost_ret (v:= vc #[ih #[S I 0,S I 0,S I 0,S I 0,J none 0 0,J none 0 0],S I 5]) (by simp[results,Tryz.results27,go_sem,z0,z1,z2,z3,z4,z5]) rfl ⟨none,0,none,0,rfl,oL rfl,oL rfl,fun _=>rfl,fun _=>rfl,ac a7.out (by omega) _ _ _ _ _ _,(fun _ h=>by cases h),(fun _ h=>by cases h)⟩
      ·have d0:Z (∀j (h:j<b.e.length),j<k+1->clP a.e b.e[j]=false):=by
        intro j hj ks;by_cases e:j=k
        ·subst e;rw[d8.out,dx,hq];rfl
        ·exact ek j hj (by omega)
       have bc:Z ((a.e++(b.e.take (k+1)).filter fun y=> !bY a.e y.1)=M):=(by show _=_;rw[d7.out];simp);clear eg ec cp dx;go_upto_region 12 with fail;refine wp_region_quiet_grown bt (by kernel_rfl) ?_;repeat (go_big_quiet_step (fail))
       refine wpQuiet_nil ?_;rintro _ ⟨⟨nq,an⟩,rfl⟩;have be:Gr V (grow (V.drewN nq) an):=⟨nq,an,rfl⟩;have b6:=ja1 (d3.out.gr be);have dp:=ja1 (bl.trans (be.below.mono bl.size));clear q0 q1 q2 q3 q4 kG g0 g1 g2 g3 g4 be;go_wp2;go_roundw;exact ⟨k+1,by omega,by go_num,by rw[bc.out];exact b6.out,d0,dp.out⟩;simp[intOf];omega
   ·have ib:¬(k:Int)<(b.e.length:Int):=(by omega);have dG:b.e.take k=b.e:=List.take_of_length_le (by omega);rw[dG] at ah ba ⊢;have hf:Z (dH a b=false):=by show dH a b=false;rw[ln,List.any_eq_false];intro y hy;obtain ⟨j,hj,rfl⟩:=List.getElem_of_mem hy;rw[ek.out j hj (by omega)];simp
    obtain ⟨M,HM⟩:∃M,oh a b=M:=⟨_,rfl⟩;have hl:M.length<=800:=by rw[<-HM];unfold oh;rw[List.length_append];have:=List.length_filter_le (fun y=> !bY a.e y.1) b.e;omega
    have hV:Z ((M.map (·.1)).Nodup):=(by show List.Nodup _;rw[<-HM];exact l7 bd.out bG.out);have hW:Z ((f9 M).filter (fc a b)=mrg a b):=by show _=_;rw[<-HM];exact yF bd.out bG.out
    change cL _ _ _ (oh a b) at ah;rw[show (a.e++b.e.filter fun y=> !bY a.e y.1)=oh a b from rfl,HM] at ba ⊢;rw[show (a.e++b.e.filter fun y=> !bY a.e y.1)=oh a b from rfl] at ah;rw[HM] at ah;have ao:=ja1 ah;clear ah dG ba HM b5 ek;obtain ⟨a0,a1,a2,a3,a4,a5,i4,en,gv⟩:=(show TabAt _ _ _ _ _ _ _ from bp.ta);obtain ⟨b0,b1,b2,b3,b4,b5,hP,cn,b7⟩:=(show TabAt _ _ _ _ _ _ _ from bp.tb);have j1:Z (eH a.c b.c=0):=by show eH a.c b.c=0;unfold eH;rw[(af bd.out).1,(af bG.out).1];simp
    have h9:=rq a.c b.c A B ca cb wr j1 en cn g6.out.1 g6.out.2.1;have f6:Z _:=h9;clear h9 en cn gv b7 i4 hP;go_wp2_with fail;refine ja0 f6 ?_;rintro e w4 ⟨C4,p4,rfl,hI,j0,c7,b9⟩;clear f6 a0 a1 a2 a3 a4 a5 b0 b1 b2 b3 b4 b5;have hR:=bp.below b9;have ga:=ao.out.below b9;have la:=bp.res.lt;have e5:Z (∀x,C4=some x->x.block≠w.heap.size+1+1/\w.heap.size<=x.block):=fun x hx=>by have:=c7 x hx;omega
    have e8:vb w2.heap.size w2 w4:=u.trans (b9.mono iv);have hQ:=ja1 c7;have lb:wr.heap.size<=w4.heap.size:=b9.size;have gb:=ja1 ao;clear bp b9 c7 ao;obtain ⟨lv,hJ⟩:∃lv,aO a.c b.c=lv:=⟨_,rfl⟩;obtain ⟨E4,ha⟩:∃E,aI a.c b.c=E:=⟨_,rfl⟩;rw[hJ] at hI ⊢;rw[ha];have eb:=ja2 hJ ha;clear hJ ha;have a8:Gr w4 (w4.alloc (H (ja7 lv C4 p4) 32)):=(gR _).alloc _;have hd:=hR.gr a8;have d1:cL _ _ _ _:=ga.gr a8;have h7:CtxAt (w4.alloc (H (ja7 lv C4 p4) 32)) w4.heap.size lv C4 p4:=CtxAt.new (c:=lv) 32 hI rfl;have ds:vb w2.heap.size w2 (w4.alloc (H (ja7 lv C4 p4) 32)):=e8.trans (a8.below.mono e8.size);clear hR a8 hI ga;by_cases h4:E4=0
    ·subst h4;have i0:=xr (fun x y=>ltR x y) 57 #[] (enters_of Tryz.func57 (by kernel_rfl) rfl) w2.heap.size A1 c5 M _ (fun g=>Bh g 0 _ _) (m9 hV.out) d1 (by omega);have gc:Z _:=i0;have hu:∀g,(Value.slice A1 M.length c5).ownBlock=some g->g<wr.heap.size:=fun g hg=>(World.ownsRow.lt gb.out g hg).2;clear i0;go_wp2_with fail;refine ja0 gc ?_;rintro e w6 ⟨rfl,ik,dy⟩;clear gc;have ka:vb w2.heap.size w2 w6:=ds.trans (ae.grown_below d1 dy ds.size);have hS:=cs.below ka;have kk:=h7.grownBy dy (fun e=>by have:=hu _ e.symm;omega) (fun x hx _ e=>by have:=hu _ e.symm;have:=hQ.out x hx;omega);clear d1 dy hd h7 ds hu;go_wp2;obtain ⟨L,HL⟩:∃L,f9 M=L:=⟨_,rfl⟩;have hU:M.length=L.length:=by rw[<-HL,eY]
     rw[HL] at ik;have hX:Z (L.filter (fc a b)=mrg a b):=by show _=_;rw[<-HL];exact hW.out
     rw[hU];rw[hU] at hl;clear HL hW hV gb u;go_loopw [14,15] (fun v i wq=>∃k:Nat,k<=L.length/\i= S I k/\cL wq w6.heap.size v ((L.take k).filter (fc a b))/\vb w6.heap.size w6 wq) (fun _ i _=>L.length-(intOf i).toNat);exact ⟨0,by omega,rfl,ae.nil _ _ _ _ _,bR _ _⟩;rename U=>wq;obtain ⟨j,hj,rfl,ah,u⟩:=hrel;obtain ⟨A2,c6,rfl,i9,a6,f7⟩:=ae.row cO ah;have aL:=hS.below u;have kl:=kk.below u;have ku:=ik.below u;have cv:w6.heap.size<=wq.heap.size:=u.size;by_cases hv:j<L.length
     ·have hD:(j:Int)<(L.length:Int):=(by omega);obtain ⟨bb,R,rfl,bC,cj⟩:=av.get ku hv;obtain ⟨z,hz⟩:∃z,L[j]=z:=⟨_,rfl⟩;have hN:CelOff wq bb (R+j*5) z:=by obtain ⟨e0,e1,e2,e3,e4⟩:=cj j hv;rw[hz] at e0 e1 e2 e3 e4;exact ⟨e0,e1,e2,e3,e4,bC⟩
      have cz:=eV (p:=fc a b) hv hz;obtain ⟨N,HN⟩:∃N,(L.take j).filter (fc a b)=N:=⟨_,rfl⟩;have ll:N.length<=800:=by rw[<-HN];exact nT (iE _ _ _) hl
      rw[HN] at ah cz a6 ⊢;have gf:=ja1 cz;have ao:=ja1 ah;have bs:=ja1 u;clear cj hz HN cz ah u a6 f7;obtain ⟨Xa,hY⟩:∃X,ft a.e z.1=X:=⟨_,rfl⟩;obtain ⟨Xb,hZ⟩:∃X,ft b.e z.1=X:=⟨_,rfl⟩;obtain ⟨ma,hF⟩:∃m,bY a.e z.1=m:=⟨_,rfl⟩;obtain ⟨mb,hH⟩:∃m,bY b.e z.1=m:=⟨_,rfl⟩;obtain ⟨ra,d5⟩:∃m,ax a.c z.1=m:=⟨_,rfl⟩;obtain ⟨rb,d6⟩:∃m,ax b.c z.1=m:=⟨_,rfl⟩;have ia:Z (fc a b z=((ma && mb) || (ma && !rb) || (mb && !ra))):=by show _=_;unfold fc;rw[hF,hH,d5,d6]
      have f:Z (∀W,Gr wq W->q Y 54 #[ih (T6 a A ca C cc).toArray,ih #[S I z.1.1,S I z.1.2]] W fun e w'=>e= Q (vc #[ih #[S I Xa.1.1,S I Xa.1.2,S I Xa.2.1,S I Xa.2.2.1,S I Xa.2.2.2],.bool ma])/\Gr W w'):=(fun W hg=>by have:=jV a A ca C cc z.1 W ck.out.2.2.1 (aL.ta.gr hg).row (aL.ta.gr hg).rowC;rw[hY,hF] at this;exact this);have d:Z (∀w':U,Gr wq w'->(fun w'=>w'.cell? ⟨w.heap.size,0,none⟩=some (S I a.c.c0)/\w'.cell? ⟨w.heap.size,1,none⟩=some (S I a.c.c1)/\w'.cell? ⟨w.heap.size,2,none⟩=some (S I a.c.c2)/\w'.cell? ⟨w.heap.size,3,none⟩=some (S I a.c.c3)/\w'.cell? ⟨w.heap.size,4,none⟩=some (J A a.c.l.length ca)/\w'.cell? ⟨w.heap.size,5,none⟩=some (J C a.e.length cc)/\w'.cell? ⟨bb,R+j*5,none⟩=some (S I z.1.1)/\w'.cell? ⟨bb,R+j*5+1,none⟩=some (S I z.1.2)) w'):=fun w' hg=>by have h1:=aL.ta.gr hg;have h2:=hN.gr hg;exact ⟨h1.k0,h1.k1,h1.k2,h1.k3,h1.k4,h1.k5,h2.k0,h2.k1⟩
      have r:Gr wq wq.drew:=(gR _).drew;have ap:Gr wq (wq.alloc (H #[S I 0,S I 0,S I 0,S I 0,S I 0] 91)).drew:=((gR _).alloc _).drew;go_upto_region 24 with fail
      go_region_held3 (fun w'=>w'.cell? ⟨w.heap.size,0,none⟩=some (S I a.c.c0)/\w'.cell? ⟨w.heap.size,1,none⟩=some (S I a.c.c1)/\w'.cell? ⟨w.heap.size,2,none⟩=some (S I a.c.c2)/\w'.cell? ⟨w.heap.size,3,none⟩=some (S I a.c.c3)/\w'.cell? ⟨w.heap.size,4,none⟩=some (J A a.c.l.length ca)/\w'.cell? ⟨w.heap.size,5,none⟩=some (J C a.e.length cc)/\w'.cell? ⟨bb,R+j*5,none⟩=some (S I z.1.1)/\w'.cell? ⟨bb,R+j*5+1,none⟩=some (S I z.1.2)) (first|with_reducible exact d.out _ r|with_reducible exact d.out _ ap|with_reducible exact d.out _ ad.out|with_reducible exact d.out _ dl.out|with_reducible exact d.out _ ak.out)
       (first
        | (go_at_call 54;(with_reducible refine cM (show q _ _ _ _ _ from f.out wq.drew r) ?_);rintro e x1 ⟨rfl,hg⟩;have ad:Z (Gr wq x1):=r.trans hg;have dl:Z (Gr wq (x1.alloc (H #[S I 0,S I 0,S I 0,S I 0,S I 0] 91))):=ad.out.alloc _;obtain ⟨y0,y1,y2,y3,y4,yf,bv⟩:=FiveAt.new x1 (S I 0) (S I 0) (S I 0) (S I 0) (S I 0) 91 rfl;have ak:Z (Gr wq (x1.alloc (H #[S I Xa.1.1,S I Xa.1.2,S I Xa.2.1,S I Xa.2.2.1,S I Xa.2.2.2] 91))):=ad.out.alloc _;clear hg)
        | (go_at_call 54;(with_reducible refine cM (show q _ _ _ _ _ from f.out (wq.alloc (H #[S I 0,S I 0,S I 0,S I 0,S I 0] 91)).drew ap) ?_);rintro e x1 ⟨rfl,hg⟩;have ad:Z (Gr wq x1):=ap.trans hg;obtain ⟨y0,y1,y2,y3,y4,yf,bv⟩:=(FiveAt.new wq (S I 0) (S I 0) (S I 0) (S I 0) (S I 0) 91 rfl).gr ((gR _).drew.trans hg);have ak:Z (Gr wq (((((x1.setCell ⟨wq.heap.size,0,none⟩ (S I Xa.1.1)).setCell ⟨wq.heap.size,1,none⟩ (S I Xa.1.2)).setCell ⟨wq.heap.size,2,none⟩ (S I Xa.2.1)).setCell ⟨wq.heap.size,3,none⟩ (S I Xa.2.2.1)).setCell ⟨wq.heap.size,4,none⟩ (S I Xa.2.2.2))):=ad.out.set5 (nR _) _ _ _ _ _;clear hg))
      all_goals (have cu:=ak.out;clear ak d f ad r ap y0 y1 y2 y3 y4 yf bv)
      all_goals (first|(with_reducible change Exit.then _ _ _ _ (World.alloc x1 _);generalize x1.alloc (H #[S I Xa.1.1,S I Xa.1.2,S I Xa.2.1,S I Xa.2.2.1,S I Xa.2.2.2] 91)=wA at cu ⊢;generalize x1.heap.size=B24 at ⊢)|(generalize (((((x1.setCell ⟨wq.heap.size,0,none⟩ (S I Xa.1.1)).setCell ⟨wq.heap.size,1,none⟩ (S I Xa.1.2)).setCell ⟨wq.heap.size,2,none⟩ (S I Xa.2.1)).setCell ⟨wq.heap.size,3,none⟩ (S I Xa.2.2.1)).setCell ⟨wq.heap.size,4,none⟩ (S I Xa.2.2.2))=wA at cu ⊢;generalize wq.heap.size=B24 at ⊢))
      all_goals
       have c9:=aL.gr cu;have hK:=hN.gr cu;clear aL hN;have f:Z (∀W,Gr wA W->q Y 54 #[ih (T6 b B cb D cd).toArray,ih #[S I z.1.1,S I z.1.2]] W fun e w'=>e= Q (vc #[ih #[S I Xb.1.1,S I Xb.1.2,S I Xb.2.1,S I Xb.2.2.1,S I Xb.2.2.2],.bool mb])/\Gr W w'):=fun W hg=>by have:=jV b B cb D cd z.1 W ck.out.2.2.2 (c9.tb.gr hg).row (c9.tb.gr hg).rowC;rw[hZ,hH] at this;exact this
       have d:Z (∀w':U,Gr wA w'->(fun w'=>w'.cell? ⟨w.heap.size+1,0,none⟩=some (S I b.c.c0)/\w'.cell? ⟨w.heap.size+1,1,none⟩=some (S I b.c.c1)/\w'.cell? ⟨w.heap.size+1,2,none⟩=some (S I b.c.c2)/\w'.cell? ⟨w.heap.size+1,3,none⟩=some (S I b.c.c3)/\w'.cell? ⟨w.heap.size+1,4,none⟩=some (J B b.c.l.length cb)/\w'.cell? ⟨w.heap.size+1,5,none⟩=some (J D b.e.length cd)/\w'.cell? ⟨bb,R+j*5,none⟩=some (S I z.1.1)/\w'.cell? ⟨bb,R+j*5+1,none⟩=some (S I z.1.2)) w'):=(fun w' hg=>by have h1:=c9.tb.gr hg;have h2:=hK.gr hg;exact ⟨h1.k0,h1.k1,h1.k2,h1.k3,h1.k4,h1.k5,h2.k0,h2.k1⟩);have r:Gr wA wA.drew:=(gR _).drew;have ap:Gr wA (wA.alloc (H #[S I 0,S I 0,S I 0,S I 0,S I 0] 91)).drew:=((gR _).alloc _).drew;go_upto_region 25 with fail
       go_region_held3 (fun w'=>w'.cell? ⟨w.heap.size+1,0,none⟩=some (S I b.c.c0)/\w'.cell? ⟨w.heap.size+1,1,none⟩=some (S I b.c.c1)/\w'.cell? ⟨w.heap.size+1,2,none⟩=some (S I b.c.c2)/\w'.cell? ⟨w.heap.size+1,3,none⟩=some (S I b.c.c3)/\w'.cell? ⟨w.heap.size+1,4,none⟩=some (J B b.c.l.length cb)/\w'.cell? ⟨w.heap.size+1,5,none⟩=some (J D b.e.length cd)/\w'.cell? ⟨bb,R+j*5,none⟩=some (S I z.1.1)/\w'.cell? ⟨bb,R+j*5+1,none⟩=some (S I z.1.2)) (first|with_reducible exact d.out _ r|with_reducible exact d.out _ ap|with_reducible exact d.out _ ad.out|with_reducible exact d.out _ dl.out|with_reducible exact d.out _ ak.out)
        (first
         | (go_at_call 54;(with_reducible refine cM (show q _ _ _ _ _ from f.out wA.drew r) ?_);rintro e x1 ⟨rfl,hg⟩;have ad:Z (Gr wA x1):=r.trans hg;have dl:Z (Gr wA (x1.alloc (H #[S I 0,S I 0,S I 0,S I 0,S I 0] 91))):=ad.out.alloc _;obtain ⟨y0,y1,y2,y3,y4,yf,bv⟩:=FiveAt.new x1 (S I 0) (S I 0) (S I 0) (S I 0) (S I 0) 91 rfl;have ak:Z (Gr wA (x1.alloc (H #[S I Xb.1.1,S I Xb.1.2,S I Xb.2.1,S I Xb.2.2.1,S I Xb.2.2.2] 91))):=ad.out.alloc _;clear hg)
         | (go_at_call 54;(with_reducible refine cM (show q _ _ _ _ _ from f.out (wA.alloc (H #[S I 0,S I 0,S I 0,S I 0,S I 0] 91)).drew ap) ?_);rintro e x1 ⟨rfl,hg⟩;have ad:Z (Gr wA x1):=ap.trans hg;obtain ⟨y0,y1,y2,y3,y4,yf,bv⟩:=(FiveAt.new wA (S I 0) (S I 0) (S I 0) (S I 0) (S I 0) 91 rfl).gr ((gR _).drew.trans hg);have ak:Z (Gr wA (((((x1.setCell ⟨wA.heap.size,0,none⟩ (S I Xb.1.1)).setCell ⟨wA.heap.size,1,none⟩ (S I Xb.1.2)).setCell ⟨wA.heap.size,2,none⟩ (S I Xb.2.1)).setCell ⟨wA.heap.size,3,none⟩ (S I Xb.2.2.1)).setCell ⟨wA.heap.size,4,none⟩ (S I Xb.2.2.2))):=ad.out.set5 (nR _) _ _ _ _ _;clear hg))
       all_goals (have bo:=ak.out;clear ak d f ad r ap y0 y1 y2 y3 y4 yf bv)
       all_goals (first|(with_reducible change Exit.then _ _ _ _ (World.alloc x1 _);generalize x1.alloc (H #[S I Xb.1.1,S I Xb.1.2,S I Xb.2.1,S I Xb.2.2.1,S I Xb.2.2.2] 91)=wB at bo ⊢;generalize x1.heap.size=B25 at ⊢)|(generalize (((((x1.setCell ⟨wA.heap.size,0,none⟩ (S I Xb.1.1)).setCell ⟨wA.heap.size,1,none⟩ (S I Xb.1.2)).setCell ⟨wA.heap.size,2,none⟩ (S I Xb.2.1)).setCell ⟨wA.heap.size,3,none⟩ (S I Xb.2.2.1)).setCell ⟨wA.heap.size,4,none⟩ (S I Xb.2.2.2))=wB at bo ⊢;generalize wA.heap.size=B25 at ⊢))
       all_goals
        have ht:Gr wq wB:=cu.trans bo;have dg:=c9.gr bo;have hL:=hK.gr bo;clear c9 hK cu bo;obtain ⟨f0,f1,f2,f3,f4⟩:=hL.G;obtain ⟨a0,a1,a2,a3,a4,a5⟩:=dg.ta.G;obtain ⟨b0,b1,b2,b3,b4,b5⟩:=dg.tb.G;have go:=dg.ta.row;have gs:=dg.tb.row;have lq:w6.heap.size<=wB.heap.size:=nT cv ht.size;clear hY hZ hF hH;cases ma<;>cases mb;rotate_left;cases ra;rotate_left 2;cases rb;all_goals
         go_upto_region 26 with fail;refine wp_region_quiet_grown bt (by kernel_rfl) ?_;repeat (go_big_quiet_step (first|(go_at_call 59;(with_reducible exact sv d6 ck.out.2.1 gs _ _))|(go_at_call 59;(with_reducible exact sv d5 ck.out.1 go _ _))))
         refine wpQuiet_nil ?_;rintro _ ⟨⟨ns,em⟩,rfl⟩;have a8:Gr wq (grow (wB.drewN ns) em):=ht.trans ⟨ns,em,rfl⟩;have hM:=hL.gr ⟨ns,em,rfl⟩;clear f0 f1 f2 f3 f4 a0 a1 a2 a3 a4 a5 b0 b1 b2 b3 b4 b5 go gs dg hL ht d5 d6;generalize grow (wB.drewN ns) em=wC at a8 hM ⊢
         first
          | (
           have bc:Z ((L.take (j+1)).filter (fc a b)=N):=by show _=_;rw[gf.out,ia.out];simp
           go_wp2
           go_roundw
           case rel=>exact ⟨j+1,by omega,by go_num,by rw[bc.out];exact ao.out.gr a8,bs.out.trans (a8.below.mono cv)⟩
           case measure=>simp[intOf];omega)
          | (
           have bc:Z ((L.take (j+1)).filter (fc a b)=N++[z]):=by show _=_;rw[gf.out,ia.out];rfl
           have r:Z (N.length+[z].length<=maxLen/\(N.length+[z].length)*40<=140737488355328):=by show _/\_;unfold maxLen;simp only[List.length_cons,List.length_nil];omega
           obtain ⟨g0,g1,g2,g3,g4,ld⟩:=(show CelOff _ _ _ _ from hM)
           have lr:w6.heap.size<=wC.heap.size:=nT cv a8.size
           clear hM
           go_wp2_with (at_builtin;refine cD _ rfl _ _ rfl w6.heap.size (J A2 N.length c6) N [z] (some ⟨wC.heap.size,0,none⟩) 1 rfl rfl ?ho ?hr (fun h=>by cases h) r.out.1 r.out.2 ?hs ?_)
           case ho=>exact ao.out.gr (a8.alloc _)
           case hr=>exact fx rfl _ _
           case hs=>simp;omega
           intro v1 w7 a9 bN
           have kb:Z (vb w6.heap.size w6 w7):=bs.out.trans (((a8.alloc _).below.mono cv).trans (ae.grown_below (ao.out.gr (a8.alloc _)) bN (by simp;omega)))
           have cm:=ja1 a9
           clear a9 bN
           go_wp2
           go_roundw
           case rel=>exact ⟨j+1,by omega,by go_num,by rw[bc.out];exact cm.out,kb.out⟩
           case measure=>simp[intOf];omega)
     ·have hD:¬(j:Int)<(L.length:Int):=(by omega);have dG:L.take j=L:=List.take_of_length_le (by omega);rw[dG,hX.out] at ah a6 ⊢;have k8:vb w.heap.size w wq:=aL.hw;have lo:=hS.res.lt;have ez:Z (∀x,A2=some x->x.block≠w.heap.size+1+1/\w.heap.size<=x.block):=fun x hx=>by have:=(f7 x hx).1;omega
      obtain ⟨G,HG⟩:∃G,mrg a b=G:=⟨_,rfl⟩;rw[HG] at a6 ⊢;have hh:=ja1 HG;clear dG ah HG;by_cases ey:400<G.length
      ·have g5:(400:Int)<(G.length:Int):=(by omega);have n:Z (aD a b=2/\aR a b=⟨ar,[]⟩):=dB (by unfold aD;rw[bd.out,bG.out,hf.out,eb.out.2,hh.out];simp[ey]) (by decide);obtain ⟨z0,z1,z2,z3,z4,z5,zf,cG⟩:=(show Six _ _ _ _ _ _ _ _ from aL.res);have a7:=ja1 aL.hw;go_wp2;rw[n.out.1,n.out.2];exact bodyPost_ret (v:= vc #[ih #[S I 0,S I 0,S I 0,S I 0,J none 0 0,J none 0 0],S I 2]) (by simp[results,Tryz.results27,go_sem,z0,z1,z2,z3,z4,z5]) rfl ⟨none,0,none,0,rfl,oL rfl,oL rfl,fun _=>rfl,fun _=>rfl,ac a7.out (by omega) _ _ _ _ _ _,(fun _ h=>by cases h),(fun _ h=>by cases h)⟩
      ·have g5:¬(400:Int)<(G.length:Int):=(by omega);have n:Z (aD a b=0/\aR a b=⟨lv,G⟩):=by have h0:aD a b=0:=(by unfold aD;rw[bd.out,bG.out,hf.out,eb.out.2,hh.out];simp;omega);exact ⟨h0,by unfold aR;rw[h0,if_pos rfl,eb.out.1,hh.out]⟩
       obtain ⟨z0,z1,z2,z3,z4,z5,zf,cG⟩:=(show Six _ _ _ _ _ _ _ _ from aL.res);obtain ⟨c0,c1,c2,c3,c4,lc,es⟩:=(show CtxAt _ _ _ _ _ from kl);have a7:=ja1 aL.hw;have hp:=ja1 es;have it:=ja1 a6;clear es a6 ey;go_wp2;rw[n.out.1,n.out.2];have h1:∀x,C4=some x->x.block≠w.heap.size+1+1:=fun x hx=>(e5.out x hx).1;have h2:∀x,A2=some x->x.block≠w.heap.size+1+1:=fun x hx=>(ez.out x hx).1;exact bodyPost_ret (v:= vc #[ih #[S I lv.c0,S I lv.c1,S I lv.c2,S I lv.c3,J C4 lv.l.length p4,J A2 G.length c6],S I 0]) (by simp[results,Tryz.results27,go_sem,z0,z1,z2,z3,z4,z5]) rfl ⟨C4,p4,A2,c6,rfl,(((((hp.out.setCell _ h1).setCell _ h1).setCell _ h1).setCell _ h1).setCell _ h1).setCell _ h1,(((((it.out.setCell _ h2).setCell _ h2).setCell _ h2).setCell _ h2).setCell _ h2).setCell _ h2,j0,i9,ac a7.out (by omega) _ _ _ _ _ _,fun x hx=>(e5.out x hx).2,fun x hx=>(ez.out x hx).2⟩
    ·have n:Z (aD a b=E4/\aR a b=⟨ar,[]⟩):=dB (by unfold aD;rw[bd.out,bG.out,hf.out,eb.out.2];simp[h4]) h4;have h8:(E4 != 0)=true:=by simpa using h4
     clear h4;obtain ⟨z0,z1,z2,z3,z4,z5,zf,cG⟩:=(show Six _ _ _ _ _ _ _ _ from hd.res);have a7:=ja1 hd.hw;go_upto_region 18 with fail;generalize w4.alloc (H (ja7 lv C4 p4) 32)=V at z0 z1 z2 z3 z4 z5 zf cG a7 ⊢;go_wp2;rw[n.out.1,n.out.2];exact bodyPost_ret (v:= vc #[ih #[S I 0,S I 0,S I 0,S I 0,J none 0 0,J none 0 0],S I E4]) (by simp[results,Tryz.results27,go_sem,z0,z1,z2,z3,z4,z5]) rfl ⟨none,0,none,0,rfl,oL rfl,oL rfl,fun _=>rfl,fun _=>rfl,ac a7.out (by omega) _ _ _ _ _ _,(fun _ h=>by cases h),(fun _ h=>by cases h)⟩
  ·have n:Z (aD a b=E2/\aR a b=⟨ar,[]⟩):=dB (by unfold aD;rw[bd.out,c8];simp[h2]) h2;have h8:(E2 != 0)=true:=by simpa using h2
   clear h2 c8;obtain ⟨z0,z1,z2,z3,z4,z5,zf,cG⟩:=(show Six _ _ _ _ _ _ _ _ from cs.res);have a7:=ja1 cs.hw;go_wp2;rw[n.out.1,n.out.2];exact bodyPost_ret (v:= vc #[ih #[S I 0,S I 0,S I 0,S I 0,J none 0 0,J none 0 0],S I E2]) (by simp[results,Tryz.results27,go_sem,z0,z1,z2,z3,z4,z5]) rfl ⟨none,0,none,0,rfl,oL rfl,oL rfl,fun _=>rfl,fun _=>rfl,ac a7.out (by omega) _ _ _ _ _ _,(fun _ h=>by cases h),(fun _ h=>by cases h)⟩
 ·have n:Z (aD a b=E1/\aR a b=⟨ar,[]⟩):=dB (by unfold aD;rw[d9];simp[h1]) h1;have h8:(E1 != 0)=true:=by simpa using h1
  clear h1 d9;obtain ⟨z0,z1,z2,z3,z4,z5,zf,cG⟩:=(show Six _ _ _ _ _ _ _ _ from ea.res);have a7:=ja1 ea.hw;go_wp2;rw[n.out.1,n.out.2];exact bodyPost_ret (v:= vc #[ih #[S I 0,S I 0,S I 0,S I 0,J none 0 0,J none 0 0],S I E1]) (by simp[results,Tryz.results27,go_sem,z0,z1,z2,z3,z4,z5]) rfl ⟨none,0,none,0,rfl,oL rfl,oL rfl,fun _=>rfl,fun _=>rfl,ac a7.out (by omega) _ _ _ _ _ _,(fun _ h=>by cases h),(fun _ h=>by cases h)⟩


theorem j5 {a b m:Tab} {e:Int} {A B C D:Option vf} {ca cb cc cd:Nat} {w:U} (hm:aR a b=m) (he:aD a b=e) (d:a.c.l.length<=maxLen/\a.e.length<=maxLen) (f:b.c.l.length<=maxLen/\b.e.length<=maxLen) (hA:A=none->ca=0) (hB:B=none->cb=0) (hC:C=none->cc=0) (j:Row w A a.c.l) (k:Row w B b.c.l) (n:av w C a.e) (r:av w D b.e) :
  q Y 27 #[ih (T6 a A ca C cc).toArray,ih (T6 b B cb D cd).toArray] w fun x w'=>∃E g F h,x= Q (vc #[ih (T6 m E g F h).toArray,S I e])/\TbW w.heap.size w' m E g F h/\jb2 w w':=by subst hm he;refine (rK a b A B C D ca cb cc cd w d.1 f.1 d.2 f.2 hA hB hC j k n r).mono ?_;rintro e w' ⟨E,g,F,h,rfl,u,R,f3,f4,f5,f6,f7⟩;exact ⟨E,g,F,h,rfl,⟨u,R,f3,f4,f6,f7⟩,f5⟩
theorem wk {s t:Tab} {id k x2 x3 x4 x5:Int} (h:inB k 1 2=false\/inB x2 0 1=false):ndE s t id k x2 x3 x4 x5=1/\ndS s id k x2 x3 x4 x5=s/\ndT t id k x2 x3 x4 x5=t:=by
 have d:inB k 1 2=false->∀r:Tab,doE r id k x3 x4 x5=1/\doT r id k x3 x4 x5=r:=fun g r=>by
  have c:¬k=1/\¬k=2:=by simp[inB] at g;omega
  have f:doE r id k x3 x4 x5=1:=by unfold doE edE;simp[c.1,c.2]
  exact ⟨f,by unfold doT;rw[f];rfl⟩
 unfold ndE ndS ndT;rcases h with h|h
 ·rw[(d h s).1,(d h s).2,(d h t).1,(d h t).2];refine ⟨?_,?_,?_⟩<;>repeat' split
  all_goals rfl
 ·have c:¬x2=0/\¬x2=1:=by simp[inB] at h;omega
  rw[if_neg c.1,if_neg c.2,if_neg c.1,if_neg c.2];exact ⟨rfl,rfl,rfl⟩

theorem yO {w:U} {M:Nat} {K:Nat->Prop} {id:Int} {s t:Tab} {v:Value} (h:Pr w M K id s t v) (k x2 x3 x4 x5:Int) :
  q Y 7 #[vk (some (jb5 M 0)),ih #[S I k,S I x2,S I x3,S I x4,S I x5]] w fun e w'=>e= Q (S I (ndE s t id k x2 x3 x4 x5))/\Pr w' M (aj K w.heap.size w'.heap.size) id (ndS s id k x2 x3 x4 x5) (ndT t id k x2 x3 x4 x5) v/\Wr M 1 13 w w':=by
 obtain ⟨d,be⟩:=jb0 (w.alloc (H #[S I k,S I x2,S I x3,S I x4,S I x5] 41));have b9:Gr w d:=by rw[<-be];exact (gR w).alloc _
 have n:Z (Pr w M K id s t v/\Gr w d/\Cls d w.heap.size [S I k,S I x2,S I x3,S I x4,S I x5]):=⟨h,b9,by rw[<-be];exact Cls.new w _ _⟩;have a0:Z (∀W,jb2 w W->Pr W M (aj K w.heap.size W.heap.size) id s t v/\Wr M 1 13 w W):=fun W hW=>⟨h.plus hW,Wr.of hW h.lt⟩;have b0:=n.out.2.2.cell (j:=0) rfl;have b1:=n.out.2.2.cell (j:=1) rfl;go_enter Tryz.func7,Tryz.ntmps7;cases hk:inB k 1 2<;>cases hx:inB x2 0 1;rotate_left 3;all_goals
  first
   | (
    have hb:=wk (s:=s) (t:=t) (id:=id) (k:=k) (x2:=x2) (x3:=x3) (x4:=x4) (x5:=x5) (oL hk)
    have a4:Z _:=hb
    clear hb)
   | (
    have hb:=wk (s:=s) (t:=t) (id:=id) (k:=k) (x2:=x2) (x3:=x3) (x4:=x4) (x5:=x5) (oR hx)
    have a4:Z _:=hb
    clear hb)
   | skip
 rotate_left
 iterate 3
  focus
   go_wp2_with (go_at_call 5;(first|with_reducible refine (dn hk _).mono ?_|with_reducible refine (dn hx _).mono ?_);rintro e w' ⟨rfl,rfl⟩)
   go_ret
   rw[a4.out.1,a4.out.2.1,a4.out.2.2]
   exact ⟨rfl,a0.out _ n.out.2.1.below⟩
 obtain ⟨j,hj,rfl⟩:∃j:Nat,j<2/\x2=(j:Int):=⟨x2.toNat,by simp[inB] at hx;omega,by simp[inB] at hx;omega⟩;have cm:(j:Int)<2:=by omega
 obtain ⟨r,A,ca,C,cc,b4,hc,hp,bG,bC⟩:=(n.out.1.below n.out.2.1.below).tab hj;have hr:=ja1 b4;have hp:=ja1 hp;clear b4 bC;have k0:=hc.k0;have k1:=hc.k1;have k2:=hc.k2;have k3:=hc.k3;have k4:=hc.k4;have k5:=hc.k5;go_wp2_with (go_at_call 5;(first|with_reducible refine (dn hk _).mono ?_|with_reducible refine (dn hx _).mono ?_);rintro e w2 ⟨rfl,R⟩;subst w2);have hS:Z (∀W,Gr d W->(fun w'=>jb1 w' w.heap.size 1 (S I (j:Int))/\jb1 w' M (1+j*6) (S I r.c.c0)/\jb1 w' M (1+j*6+1) (S I r.c.c1)/\jb1 w' M (1+j*6+2) (S I r.c.c2)/\jb1 w' M (1+j*6+3) (S I r.c.c3)/\jb1 w' M (1+j*6+4) (J A r.c.l.length ca)/\jb1 w' M (1+j*6+5) (J C r.e.length cc)) W):=fun W g=>by have hb:=g.below;have hl:=n.out.1.lt;have cn:=n.out.2.1.size;have an:=hc.keep (w':=W) fun i _ _=>hb.cell (p:=(jb5 M i)) (by show M<_;omega);exact ⟨(n.out.2.2.gr g).cell (j:=1) rfl,an.k0,an.k1,an.k2,an.k3,an.k4,an.k5⟩
 go_region_held3 (fun w'=>jb1 w' w.heap.size 1 (S I (j:Int))/\jb1 w' M (1+j*6) (S I r.c.c0)/\jb1 w' M (1+j*6+1) (S I r.c.c1)/\jb1 w' M (1+j*6+2) (S I r.c.c2)/\jb1 w' M (1+j*6+3) (S I r.c.c3)/\jb1 w' M (1+j*6+4) (J A r.c.l.length ca)/\jb1 w' M (1+j*6+5) (J C r.e.length cc)) (exact hS.out _ (by first|with_reducible exact (gR _).drew|with_reducible exact ((gR _).alloc _).drew)) (fail);obtain ⟨w2,a6⟩:=jb0 (d.alloc (H #[S I r.c.c0,S I r.c.c1,S I r.c.c2,S I r.c.c3,J A r.c.l.length ca,J C r.e.length cc] 35)).drew;rw[a6];have R:Z (Gr d w2/\Cls w2 d.heap.size (T6 r A ca C cc)/\jb1 w2 M 0 (S I id)):=by
  have g:Gr d w2:=by rw[<-a6];exact ((gR _).alloc _).drew
  exact ⟨g,by rw[<-a6];exact (Cls.new d _ _).gr (gR _).drew,(g.cell (p:=(jb5 M 0)) (nL n.out.1.lt n.out.2.1.size)).trans bG⟩
 clear a6 hS k0 k1 k2 k3 k4 k5 b0 b1 hc bG be hx;obtain ⟨k0,k1,k2,k3,k4,k5⟩:=ic R.out.2.1;have b0:=(n.out.2.2.gr R.out.1).cell (j:=0) rfl;have b2:=(n.out.2.2.gr R.out.1).cell (j:=2) rfl;have a8:=xf r A ca C cc x3 w2 hp.out.len.1 hp.out.len.2 (hp.out.row.gr R.out.1) (hp.out.cel.gr R.out.1);obtain ⟨DE,a9⟩:=jb0 (dN r x3);obtain ⟨DC,a3⟩:=jb0 (du r x3);have a7:Z (dN r x3=DE/\du r x3=DC/\DC.l.length<=maxLen):=⟨a9,a3,a3▸ni r x3⟩;rw[a9,a3] at a8;have hD:Z _:=a8;clear a8 a9 a3;go_wp2_with fail;refine ja0 hD ?_;rintro e w3 ⟨EC,ec,rfl,f1,f2,f3⟩;go_upto_region 5 with fail;obtain ⟨w4,bh⟩:=jb0 (w3.alloc (H #[S I DC.c0,S I DC.c1,S I DC.c2,S I DC.c3,J EC DC.l.length ec,J none 0 0] 35));rw[bh];have h4:Z (jb2 w2 w3/\Gr w3 w4/\Cls w4 w3.heap.size [S I DC.c0,S I DC.c1,S I DC.c2,S I DC.c3,J EC DC.l.length ec,J none 0 0]/\Row w4 EC DC.l/\(EC=none->ec=0)):=by
  have g:Gr w3 w4:=by rw[<-bh];exact (gR _).alloc _
  exact ⟨f3,g,by rw[<-bh];exact Cls.new w3 _ _,f1.gr g,f2⟩
 clear f1 f2 f3 hD k0 k1 k2 k3 k4 k5 b0 b2;obtain ⟨kb,bN⟩:=jb0 (Value.int I k);have b7:Z (Cls w2 w.heap.size [kb,S I (j:Int),S I x3,S I x4,S I x5]):=by show Cls _ _ _;rw[<-bN];exact n.out.2.2.gr R.out.1
 clear bN;have ak:=ja1 (h4.out.1.trans (h4.out.2.1.below.mono h4.out.1.size));have b0:=((n.out.2.2.gr R.out.1).below ak.out).cell (j:=0) rfl;obtain ⟨EE,bl⟩:=jb0 (edE r id k x3 x4 x5);obtain ⟨u,hu⟩:=jb0 (edT r id k x3 x4 x5);have ad:=ja2 bl hu;clear bl hu;by_cases h1:k=1;case' pos =>
  subst h1;have bp:Z (∀W,jb2 w4 W->q Y 26 #[ih (T6 r A ca C cc).toArray,S I id,S I x3,S I x4,S I x5] W fun e w'=>∃E ce F cf,e= Q (vc #[ih (T6 u E ce F cf).toArray,S I EE])/\Row w' E u.c.l/\av w' F u.e/\(E=none->ce=0)/\jb2 W w'/\(∀a,E=some a->W.heap.size<=a.block)/\(∀a,F=some a->W.heap.size<=a.block)):=fun W hW=>by have hb:=ak.out.trans (hW.mono ak.out.size);have h:=xj r A ca C cc id x3 x4 x5 W hp.out.len.1 hp.out.len.2 ((hp.out.row.gr R.out.1).below hb) ((hp.out.cel.gr R.out.1).below hb);rw[show cF r id x3 x4 x5=EE from ad.out.1,show dm r id x3 x4 x5=u from ad.out.2] at h;refine h.mono ?_;rintro e w' ⟨E,ce,F,cf,rfl,f1,f2,f3,_,f4⟩;exact ⟨E,ce,F,cf,rfl,f1,f2,f3,f4⟩
  have hS:Z (∀W,vb w3.heap.size w4 W->(fun w'=>jb1 w' d.heap.size 0 (S I r.c.c0)/\jb1 w' d.heap.size 1 (S I r.c.c1)/\jb1 w' d.heap.size 2 (S I r.c.c2)/\jb1 w' d.heap.size 3 (S I r.c.c3)/\jb1 w' d.heap.size 4 (J A r.c.l.length ca)/\jb1 w' d.heap.size 5 (J C r.e.length cc)/\jb1 w' M 0 (S I id)/\jb1 w' w.heap.size 2 (S I x3)/\jb1 w' w.heap.size 3 (S I x4)/\jb1 w' w.heap.size 4 (S I x5)) W):=fun W g=>by have hb:jb2 w2 W:=ak.out.trans (g.mono h4.out.1.size);have hq:=R.out.2.1.below hb;have hx:=(n.out.2.2.gr R.out.1).below hb;exact ⟨hq.cell (j:=0) rfl,hq.cell (j:=1) rfl,hq.cell (j:=2) rfl,hq.cell (j:=3) rfl,hq.cell (j:=4) rfl,hq.cell (j:=5) rfl,(hb.cell (p:=(jb5 M 0)) (nL n.out.1.lt (nT n.out.2.1.size R.out.1.size))).trans R.out.2.2,hx.cell (j:=2) rfl,hx.cell (j:=3) rfl,hx.cell (j:=4) rfl⟩
  have bc:=ja1 h4.out.2.1.size;go_upto_region 6 with fail
  go_region_held3 (fun w'=>jb1 w' d.heap.size 0 (S I r.c.c0)/\jb1 w' d.heap.size 1 (S I r.c.c1)/\jb1 w' d.heap.size 2 (S I r.c.c2)/\jb1 w' d.heap.size 3 (S I r.c.c3)/\jb1 w' d.heap.size 4 (J A r.c.l.length ca)/\jb1 w' d.heap.size 5 (J C r.e.length cc)/\jb1 w' M 0 (S I id)/\jb1 w' w.heap.size 2 (S I x3)/\jb1 w' w.heap.size 3 (S I x4)/\jb1 w' w.heap.size 4 (S I x5)) (exact hS.out _ (by first|with_reducible exact (gR _).drew.below.mono bc.out|with_reducible exact hQ.out.1.mono bc.out|exact ac (hQ.out.1.mono bc.out) (nR _) _ _ _ _ _ _)) (first
   | (go_at_call 26;(with_reducible refine cM (bp.out _ (gR _).drew.below) ?_);rintro e w5 ⟨E,ce,F,cf,rfl,f1,f2,f3,f4,f5,f6⟩;have hQ:Z (jb2 w4 w5/\Row w5 E u.c.l/\av w5 F u.e/\(E=none->ce=0)/\(∀a,E=some a->w4.heap.size<=a.block)/\(∀a,F=some a->w4.heap.size<=a.block)):=⟨(gR w4).drew.below.trans f4,f1,f2,f3,f5,f6⟩;have ah:=h4.out.2.2.1.below hQ.out.1;have p0:=ah.cell (j:=0) rfl;have p1:=ah.cell (j:=1) rfl;have p2:=ah.cell (j:=2) rfl;have p3:=ah.cell (j:=3) rfl;have p4:=ah.cell (j:=4) rfl;have p5:=ah.cell (j:=5) rfl;have zz:=ah.fz;clear f1 f2 f3 f4 f5 f6))
  obtain ⟨wx,a1⟩:=jb0 ((((((w5.setCell (jb5 w3.heap.size 0) (S I u.c.c0)).setCell (jb5 w3.heap.size 1) (S I u.c.c1)).setCell (jb5 w3.heap.size 2) (S I u.c.c2)).setCell (jb5 w3.heap.size 3) (S I u.c.c3)).setCell (jb5 w3.heap.size 4) (J E u.c.l.length ce)).setCell (jb5 w3.heap.size 5) (J F u.e.length cf));rw[a1];have hU:Z (jb2 w2 wx/\∃UA ap UC a2,Cls wx w3.heap.size (T6 u UA ap UC a2)/\Row wx UA u.c.l/\av wx UC u.e/\(UA=none->ap=0)):=by
   have cr:=h4.out.2.2.1.lt;have ha:Agr (fun b=>b≠w3.heap.size) w5 wx:=by rw[<-a1];exact gy (fun h=>h rfl) _ _ _ _ _ _
   refine ⟨by rw[<-a1];exact ac (ak.out.trans (hQ.out.1.mono ak.out.size)) h4.out.1.size _ _ _ _ _ _,E,ce,F,cf,by rw[<-a1];exact (h4.out.2.2.1.below hQ.out.1).put6 0 _ _ _ _ _ _,hQ.out.2.1.agr (fun a h _=> ?_) ha,hQ.out.2.2.1.agr (fun a h _=> ?_) ha,hQ.out.2.2.2.1⟩
   ·have:=hQ.out.2.2.2.2.1 a h;show a.block≠_;omega
   ·have:=hQ.out.2.2.2.2.2 a h;show a.block≠_;omega
  clear a1 hS bp hQ p0 p1 p2 p3 p4 p5 zz;go_upto_region 7 with fail
 case' neg =>
  obtain rfl:k=2:=by simp[inB] at hk;omega
  obtain rfl:EE=DE:=by rw[<-ad.out.1,<-a7.out.1];rfl
  have b5:Z (⟨DC,[]⟩=u):=by show _=_;rw[<-ad.out.2,<-a7.out.2.1];rfl
  have hU:Z (jb2 w2 w4/\∃UA ap UC a2,Cls w4 w3.heap.size (T6 u UA ap UC a2)/\Row w4 UA u.c.l/\av w4 UC u.e/\(UA=none->ap=0)):=by show _/\_;rw[<-b5.out];exact ⟨ak.out,EC,ec,none,0,h4.out.2.2.1,h4.out.2.2.2.1,oL rfl,h4.out.2.2.2.2⟩
  clear b5;go_upto_region 7 with fail;generalize w4=wx at hU b0 ⊢
 all_goals
  have a5:=ja2 (n.out.2.1.below.trans ((R.out.1.below.trans (hU.out.1.mono R.out.1.size)).mono n.out.2.1.size)) R.out.1;cases hn:(EE != 0);rotate_left
  ·have D:=kN hj hr.out (id:=id) (x3:=x3) (x4:=x4) (x5:=x5) (E:=EE) (by unfold doE;rw[ad.out.1,if_neg (by simpa using hn)]) hn;have f:Z _:=D;clear D;go_wp2;go_ret;rw[f.out.1,f.out.2.1,f.out.2.2];exact ⟨rfl,a0.out _ a5.out.1⟩
  obtain rfl:EE=0:=by simpa using hn
  clear hn;obtain ⟨UA,ap,UC,a2,b8,bv,bs,bt⟩:=hU.out.2;have hq:=R.out.2.1.below hU.out.1;obtain ⟨k0,k1,k2,k3,k4,k5⟩:=ic hq;obtain ⟨u0,u1,u2,u3,u4,u5⟩:=ic b8;obtain ⟨ME,ba⟩:=jb0 (aD r u);obtain ⟨m,bb⟩:=jb0 (aR r u);have bd:=(hp.out.below R.out.1.below).below (hU.out.1.mono (nR _));have bo:=j5 (cd:=a2) bb ba hp.out.len (ad.out.2▸rX r id _ x3 x4 x5) hp.out.nr bt hp.out.nc bd.row bv bd.cel bs;have hM:Z _:=bo;have aL:=ja2 ba bb;clear bo ba bb bv bs bt bd hq;go_wp2_with fail;refine ja0 hM ?_;rintro e w7 ⟨XA,xa,XC,xc,rfl,f1,f2⟩;have h7:=ja3 f1 (hU.out.1.trans (f2.mono hU.out.1.size)) f2;clear f1 f2 hM k0 k1 k2 k3 k4 k5 u0 u1 u2 u3 u4 u5;have hq:=R.out.2.1.below h7.out.2.1;obtain ⟨k0,k1,k2,k3,k4,k5⟩:=ic hq;have zz:=hq.fz;go_upto_region 10 with fail;obtain ⟨w8,ao⟩:=jb0 ((((((w7.setCell (jb5 d.heap.size 0) (S I m.c.c0)).setCell (jb5 d.heap.size 1) (S I m.c.c1)).setCell (jb5 d.heap.size 2) (S I m.c.c2)).setCell (jb5 d.heap.size 3) (S I m.c.c3)).setCell (jb5 d.heap.size 4) (J XA m.c.l.length xa)).setCell (jb5 d.heap.size 5) (J XC m.e.length xc));rw[ao];have h8:Z (jb2 w w8/\TbW wx.heap.size w8 m XA xa XC xc/\Cls w8 d.heap.size (T6 m XA xa XC xc)/\Cls w8 w.heap.size [kb,S I (j:Int),S I x3,S I x4,S I x5]):=by have hl:=hq.lt;have cs:=(R.out.2.1.below hU.out.1).lt;have hs:=n.out.2.1.size;have cp:=n.out.2.2.lt;have hb:=a5.out.1.trans (h7.out.2.2.mono a5.out.1.size);refine ⟨by rw[<-ao];exact ac hb hs _ _ _ _ _ _,by rw[<-ao];exact h7.out.1.agr (gy (fun h=>by omega) _ _ _ _ _ _),by rw[<-ao];exact hq.put6 0 _ _ _ _ _ _,?_⟩;have:=b7.out.below h7.out.2.1;refine this.keep ?_;rw[<-ao];exact (fS (B:=d.heap.size) (o:=0) (lo:=0) (hi:=6) (by omega) (by omega) _ _ _ _ _ _).oth w.heap.size (nL this.lt (nR _)) (by omega)
  clear ao k0 k1 k2 k3 k4 k5 zz hq;cases hn:(ME != 0);rotate_left
  ·have D:=kN hj hr.out (id:=id) (x3:=x3) (x4:=x4) (x5:=x5) (E:=ME) (by unfold doE;rw[ad.out.1,if_pos rfl,ad.out.2];exact aL.out.1) hn;have f:Z _:=D;have cu:(ME==0)=false:=by simpa using hn
   clear D;go_wp2;go_ret;rw[f.out.1,f.out.2.1,f.out.2.2];exact ⟨rfl,a0.out _ h8.out.1⟩
  obtain rfl:ME=0:=by simpa using hn
  clear hn;have hT:=(n.out.1.below h8.out.1).tab hj;obtain ⟨r',A',cj,C',ck,_,hc,_,_,cl⟩:=hT;have k0:=hc.k0;have k1:=hc.k1;have k2:=hc.k2;have k3:=hc.k3;have k4:=hc.k4;have k5:=hc.k5;have hS:Z (∀W,Agr (fun b=>b≠M) w8 W->(fun w'=>jb1 w' w.heap.size 1 (S I (j:Int))/\jb1 w' d.heap.size 0 (S I m.c.c0)/\jb1 w' d.heap.size 1 (S I m.c.c1)/\jb1 w' d.heap.size 2 (S I m.c.c2)/\jb1 w' d.heap.size 3 (S I m.c.c3)/\jb1 w' d.heap.size 4 (J XA m.c.l.length xa)/\jb1 w' d.heap.size 5 (J XC m.e.length xc)) W):=fun W g=>by have hl:=n.out.1.lt;have hs:=n.out.2.1.size;have c1:=h8.out.2.2.1.keep (g.block _ (show _≠M by omega) h8.out.2.2.1.lt);have c2:=h8.out.2.2.2.keep (g.block _ (show _≠M by omega) h8.out.2.2.2.lt);exact ⟨c2.cell (j:=1) rfl,c1.cell (j:=0) rfl,c1.cell (j:=1) rfl,c1.cell (j:=2) rfl,c1.cell (j:=3) rfl,c1.cell (j:=4) rfl,c1.cell (j:=5) rfl⟩
  have b3:¬(fun b=>b≠M) M:=fun h=>h rfl;go_upto_region 11 with fail;go_region_held3 (fun w'=>jb1 w' w.heap.size 1 (S I (j:Int))/\jb1 w' d.heap.size 0 (S I m.c.c0)/\jb1 w' d.heap.size 1 (S I m.c.c1)/\jb1 w' d.heap.size 2 (S I m.c.c2)/\jb1 w' d.heap.size 3 (S I m.c.c3)/\jb1 w' d.heap.size 4 (J XA m.c.l.length xa)/\jb1 w' d.heap.size 5 (J XC m.e.length xc)) (exact hS.out _ (by first|with_reducible exact Agr.of (gR w8).drew.below|with_reducible exact Agr.trans ((fS (w:=w8) (B:=M) (o:=1+j*6) (lo:=1) (hi:=13) (by omega) (by omega) _ _ _ _ _ _).agr b3) (Agr.of (gR _).drew.below))) (fail);have D:=zr hj hr.out ad.out.1 ad.out.2 aL.out.1 aL.out.2;have hf:Z _:=D;have hP:Z (Pr ((((((w8.setCell (jb5 M (1+j*6)) (S I m.c.c0)).setCell (jb5 M (1+j*6+1)) (S I m.c.c1)).setCell (jb5 M (1+j*6+2)) (S I m.c.c2)).setCell (jb5 M (1+j*6+3)) (S I m.c.c3)).setCell (jb5 M (1+j*6+4)) (J XA m.c.l.length xa)).setCell (jb5 M (1+j*6+5)) (J XC m.e.length xc)) M (aj K w.heap.size w8.heap.size) id (if j=0 then m else s) (if j=0 then t else m) v/\Wr M 1 13 w8 ((((((w8.setCell (jb5 M (1+j*6)) (S I m.c.c0)).setCell (jb5 M (1+j*6+1)) (S I m.c.c1)).setCell (jb5 M (1+j*6+2)) (S I m.c.c2)).setCell (jb5 M (1+j*6+3)) (S I m.c.c3)).setCell (jb5 M (1+j*6+4)) (J XA m.c.l.length xa)).setCell (jb5 M (1+j*6+5)) (J XC m.e.length xc))/\(((((((w8.setCell (jb5 M (1+j*6)) (S I m.c.c0)).setCell (jb5 M (1+j*6+1)) (S I m.c.c1)).setCell (jb5 M (1+j*6+2)) (S I m.c.c2)).setCell (jb5 M (1+j*6+3)) (S I m.c.c3)).setCell (jb5 M (1+j*6+4)) (J XA m.c.l.length xa)).setCell (jb5 M (1+j*6+5)) (J XC m.e.length xc))).heap.size=w8.heap.size):=⟨(n.out.1.plus h8.out.1).set hj (h8.out.2.1.mono a5.out.1.size) (by rw[<-aL.out.2];exact eJ (by rw[aL.out.1])) fun b hb=>oR hb,fS (by omega) (by omega) _ _ _ _ _ _,gz _ _ _ _ _ _⟩;clear D hS b3 k0 k1 k2 k3 k4 k5 hc;obtain ⟨wq,b6⟩:=jb0 ((((((w8.setCell (jb5 M (1+j*6)) (S I m.c.c0)).setCell (jb5 M (1+j*6+1)) (S I m.c.c1)).setCell (jb5 M (1+j*6+2)) (S I m.c.c2)).setCell (jb5 M (1+j*6+3)) (S I m.c.c3)).setCell (jb5 M (1+j*6+4)) (J XA m.c.l.length xa)).setCell (jb5 M (1+j*6+5)) (J XC m.e.length xc));rw[b6] at hP ⊢;clear b6;have hF:Z (Pr wq.drew M (aj K w.heap.size wq.drew.heap.size) id (if j=0 then m else s) (if j=0 then t else m) v/\Wr M 1 13 w wq.drew):=by refine ⟨?_,((Wr.of h8.out.1 n.out.1.lt).trans hP.out.2.1).trans (Wr.of (gR _).drew.below hP.out.1.lt)⟩;rw[show wq.drew.heap.size=w8.heap.size from hP.out.2.2];exact hP.out.1.below (gR _).drew.below
  clear hP;go_wp2;go_ret;rw[hf.out.1,hf.out.2.1,hf.out.2.2];exact ⟨rfl,hF.out⟩
set_option linter.unusedSimpArgs false

def tkE (s t a b:Tab):Int:=if aD s a=0 then aD t b else aD s a
def tkS (s t a b:Tab):Tab:=if tkE s t a b=0 then aR s a else s
def tkT (s t a b:Tab):Tab:=if tkE s t a b=0 then aR t b else t
def TbR (w1 wx:U) (Bm:Nat) (u:Tab):Prop:=∃(E:Option vf) (ce:Nat) (F:Option vf) (cf:Nat),Cls wx Bm (T6 u E ce F cf)/\TbW w1.heap.size wx u E ce F cf/\jb2 w1 wx/\w1.heap.size<=Bm
theorem eZ {d f:U} {u:Tab} {E:Option vf} {g:Nat} {F:Option vf} {j:Nat} (k:Cls f d.heap.size Z6) (m:TbW (d.heap.size+1) f u E g F j) (n:jb2 d f) :
  TbR d ((((((f.jb3 d.heap.size 0 (S I u.c.c0)).jb3 d.heap.size 1 (S I u.c.c1)).jb3 d.heap.size 2 (S I u.c.c2)).jb3 d.heap.size 3 (S I u.c.c3)).jb3 d.heap.size 4 (J E u.c.l.length g)).jb3 d.heap.size 5 (J F u.e.length j)) d.heap.size u :=
 ⟨E,g,F,j,(((((k.put 0 _).put 1 _).put 2 _).put 3 _).put 4 _).put 5 _,(m.agr (gy (fun h=>by omega) _ _ _ _ _ _)).mono (by omega),ac n (nR _) _ _ _ _ _ _,nR _⟩
theorem fQ {f d:U} {u:Tab} {E:Option vf} {g:Nat} {F:Option vf} {h:Nat} {T:TypeId} (k:TbW f.heap.size d u E g F h) (j:jb2 f d) :
  TbR f (d.alloc (H #[S I u.c.c0,S I u.c.c1,S I u.c.c2,S I u.c.c3,J E u.c.l.length g,J F u.e.length h] T)) d.heap.size u :=
 ⟨E,g,F,h,Cls.new d _ T,k.below ((gR d).alloc _).below,j.alloc j.size _,j.size⟩

theorem xD {w:U} {N O:Nat} {P:Nat->Prop} {id:Int} {s t:Tab} {qs:List (List Stp)} (h:Nd w N O P id s t qs) (a b:Tab) (PA PB PC PD:Option vf) (ad ah an ao:Nat) (ra:Row w PA a.c.l) (rc:av w PC a.e) (rb:Row w PB b.c.l) (rd:av w PD b.e) (la:a.c.l.length<=maxLen) (lc:a.e.length<=maxLen) (lb:b.c.l.length<=maxLen) (ld:b.e.length<=maxLen) (na:PA=none->ad=0) (nb:PB=none->ah=0) :
  q Y 8 #[vk (jb4 N O),ih (T2 a PA ad PC an b PB ah PD ao).toArray] w fun e w'=>e= Q (S I (tkE s t a b))/\Nd w' N O (aj P w.heap.size w'.heap.size) id (tkS s t a b) (tkT s t a b) qs/\Wr N (O+1) (O+37) w w':=by
 have dl:=s7 (S I a.c.c0) (S I a.c.c1) (S I a.c.c2) (S I a.c.c3) (J PA a.c.l.length ad) (J PC a.e.length an) (S I b.c.c0) (S I b.c.c1) (S I b.c.c2) (S I b.c.c3) (J PB b.c.l.length ah) (J PD b.e.length ao)
 have dp:=s8 (S I a.c.c0) (S I a.c.c1) (S I a.c.c2) (S I a.c.c3) (J PA a.c.l.length ad) (J PC a.e.length an) (S I b.c.c0) (S I b.c.c1) (S I b.c.c2) (S I b.c.c3) (J PB b.c.l.length ah) (J PD b.e.length ao)
 obtain ⟨A,ca,C,cc,cn,cv⟩:=h.ts
 obtain ⟨B,cb,D,cd,cp,cz⟩:=h.tt
 have a1:Z (Row w PA a.c.l/\av w PC a.e/\Row w PB b.c.l/\av w PD b.e/\a.c.l.length<=maxLen/\a.e.length<=maxLen/\b.c.l.length<=maxLen/\b.e.length<=maxLen/\(PA=none->ad=0)/\(PB=none->ah=0)):=⟨ra,rc,rb,rd,la,lc,lb,ld,na,nb⟩
 have hH:=ja5 h cv cz cn cp
 go_enter Tryz.func8,Tryz.ntmps8
 go_wp2
 obtain ⟨w1,b4⟩:=jb0 ((w.alloc (H #[S I a.c.c0,S I a.c.c1,S I a.c.c2,S I a.c.c3,J PA a.c.l.length ad,J PC a.e.length an,S I b.c.c0,S I b.c.c1,S I b.c.c2,S I b.c.c3,J PB b.c.l.length ah,J PD b.e.length ao] 43)).alloc (H #[S I 0,S I 0,S I 0,S I 0,J none 0 0,J none 0 0,S I 0,S I 0,S I 0,S I 0,J none 0 0,J none 0 0] 36))
 rw[b4]
 have hI:Z (jb2 w w1/\Cls w1 (w.heap.size+1) Z2):=by
  refine ⟨by rw[<-b4];exact (((gR w).alloc _).alloc _).below,?_⟩
  have:=Cls.new (w.alloc (H #[S I a.c.c0,S I a.c.c1,S I a.c.c2,S I a.c.c3,J PA a.c.l.length ad,J PC a.e.length an,S I b.c.c0,S I b.c.c1,S I b.c.c2,S I b.c.c3,J PB b.c.l.length ah,J PD b.e.length ao] 43)) #[S I 0,S I 0,S I 0,S I 0,J none 0 0,J none 0 0,S I 0,S I 0,S I 0,S I 0,J none 0 0,J none 0 0] 36
  rw[b4,show (w.alloc (H #[S I a.c.c0,S I a.c.c1,S I a.c.c2,S I a.c.c3,J PA a.c.l.length ad,J PC a.e.length an,S I b.c.c0,S I b.c.c1,S I b.c.c2,S I b.c.c3,J PB b.c.l.length ah,J PD b.e.length ao] 43)).heap.size=w.heap.size+1 by simp] at this
  exact this
 have cj:=ja1 hI.out.2.lt
 refine wp_loop_rounds 3 ?_
 rw[rounds_succ]
 go_upto_region 5 with fail
 obtain ⟨d,a9⟩:=jb0 (w1.alloc (H #[S I a.c.c0,S I a.c.c1,S I a.c.c2,S I a.c.c3,J PA a.c.l.length ad,J PC a.e.length an] 35))
 rw[a9]
 have m:Z (Gr w1 d/\jb2 w d/\Cls d w1.heap.size (T6 a PA ad PC an)/\Cls d (w.heap.size+1) Z2/\N<d.heap.size/\TbC d N (O+1) s A ca C cc/\TbC d N (O+7) t B cb D cd):=by
  have hg:Gr w1 d:=by rw[<-a9];exact (gR _).alloc _
  have hb:=hI.out.1.trans (hg.below.mono hI.out.1.size)
  have a8:=hH.out.1.blk.lt
  exact ⟨hg,hb,by rw[<-a9];exact Cls.new w1 _ _,hI.out.2.gr hg,nL a8 hb.size,hH.out.2.2.2.1.keep fun j _ _=>hb.cell (p:=(jb5 N j)) a8,hH.out.2.2.2.2.keep fun j _ _=>hb.cell (p:=(jb5 N j)) a8⟩
 obtain ⟨a4,bh⟩:=jb0 (aD s a)
 obtain ⟨f,bl⟩:=jb0 (aR s a)
 have ap:=ja2 bh bl
 have hM:Z (∀W,jb2 d W->q Y 23 #[ih (T6 s A ca C cc).toArray,ih (T6 a PA ad PC an).toArray] W fun e w'=>∃E ce F cf,e= Q (vc #[ih (T6 f E ce F cf).toArray,S I a4])/\TbW W.heap.size w' f E ce F cf/\jb2 W w'):=fun W R=>by
  have hb:=m.out.2.1.trans (R.mono m.out.2.1.size)
  have aL:=hH.out.2.1.below hb
  have hm:=jL s a A PA C PC ca ad cc an W aL.len.1 a1.out.2.2.2.2.1 aL.len.2 a1.out.2.2.2.2.2.1 aL.nr a1.out.2.2.2.2.2.2.2.2.1 (aL.row) (a1.out.1.below hb) (aL.cel) (a1.out.2.1.below hb)
  rw[bh,bl] at hm
  refine hm.mono ?_
  rintro e w' ⟨E,ce,F,cf,rfl,f1,f2,f3,f4,f5,f6,f7⟩
  exact ⟨E,ce,F,cf,rfl,⟨f1,f2,f3,f4,f5,f6⟩,f7⟩
 go_cut [8,9,12] from 12 to 33 (fun v8 v9 v12 wx=>v9= S I a4/\v12= S I 0/\∃Bm:Nat,v8= vk (jb4 Bm 0)/\TbR d wx Bm f)
 case first =>
  have a2:=ja1 ((gR d).drew.below)
  have a3:Z (jb2 d (d.alloc (H #[S I 0,S I 0,S I 0,S I 0,J none 0 0,J none 0 0] 35)).drew):=((gR d).alloc _).drew.below
  have bs:Z (d.heap.size<=d.drew.heap.size):=nR _
  have bt:Z (d.heap.size+1<=(d.alloc (H #[S I 0,S I 0,S I 0,S I 0,J none 0 0,J none 0 0] 35)).drew.heap.size):=by show _<=(d.alloc _).heap.size;simp
  have a7:Z (∀W,jb2 d W->(fun w'=>jb1 w' w1.heap.size 0 (S I a.c.c0)/\jb1 w' w1.heap.size 1 (S I a.c.c1)/\jb1 w' w1.heap.size 2 (S I a.c.c2)/\jb1 w' w1.heap.size 3 (S I a.c.c3)/\jb1 w' w1.heap.size 4 (J PA a.c.l.length ad)/\jb1 w' w1.heap.size 5 (J PC a.e.length an)/\jb1 w' N (O+1) (S I s.c.c0)/\jb1 w' N (O+2) (S I s.c.c1)/\jb1 w' N (O+3) (S I s.c.c2)/\jb1 w' N (O+4) (S I s.c.c3)/\jb1 w' N (O+5) (J A s.c.l.length ca)/\jb1 w' N (O+6) (J C s.e.length cc)) W):=fun W R=>⟨(m.out.2.2.1.below R).cell (j:=0) rfl,(m.out.2.2.1.below R).cell (j:=1) rfl,(m.out.2.2.1.below R).cell (j:=2) rfl,(m.out.2.2.1.below R).cell (j:=3) rfl,(m.out.2.2.1.below R).cell (j:=4) rfl,(m.out.2.2.1.below R).cell (j:=5) rfl,(R.cell (p:=(jb5 N (O+1))) m.out.2.2.2.2.1).trans m.out.2.2.2.2.2.1.k0,(R.cell (p:=(jb5 N (O+2))) m.out.2.2.2.2.1).trans m.out.2.2.2.2.2.1.k1,(R.cell (p:=(jb5 N (O+3))) m.out.2.2.2.2.1).trans m.out.2.2.2.2.2.1.k2,(R.cell (p:=(jb5 N (O+4))) m.out.2.2.2.2.1).trans m.out.2.2.2.2.2.1.k3,(R.cell (p:=(jb5 N (O+5))) m.out.2.2.2.2.1).trans m.out.2.2.2.2.2.1.k4,(R.cell (p:=(jb5 N (O+6))) m.out.2.2.2.2.1).trans m.out.2.2.2.2.2.1.k5⟩
  go_region_held3 (fun w'=>jb1 w' w1.heap.size 0 (S I a.c.c0)/\jb1 w' w1.heap.size 1 (S I a.c.c1)/\jb1 w' w1.heap.size 2 (S I a.c.c2)/\jb1 w' w1.heap.size 3 (S I a.c.c3)/\jb1 w' w1.heap.size 4 (J PA a.c.l.length ad)/\jb1 w' w1.heap.size 5 (J PC a.e.length an)/\jb1 w' N (O+1) (S I s.c.c0)/\jb1 w' N (O+2) (S I s.c.c1)/\jb1 w' N (O+3) (S I s.c.c2)/\jb1 w' N (O+4) (S I s.c.c3)/\jb1 w' N (O+5) (J A s.c.l.length ca)/\jb1 w' N (O+6) (J C s.e.length cc)) (exact a7.out _ (by first|with_reducible exact a2.out|with_reducible exact a3.out|with_reducible exact hF.out|with_reducible exact hF.out.alloc hF.out.size _|exact ac hF.out (nR _) _ _ _ _ _ _)) (first
   | ((go_at_call 23;(with_reducible refine cM (hM.out _ (by first|with_reducible exact a2.out|with_reducible exact a3.out)) ?_);rintro e w2 ⟨E,ce,F,cf,rfl,f2,f3⟩;have hF:Z (jb2 d w2):=(by first|exact a2.out.trans (f3.mono a2.out.size)|exact a3.out.trans (f3.mono a3.out.size));have bo:Z _:=f2;(first|(have k:Z (Cls w2 d.heap.size Z6):=((Cls.new d #[S I 0,S I 0,S I 0,S I 0,J none 0 0,J none 0 0] 35).gr (gR _).drew).below f3)|skip);clear f2 f3;(first|(have p0:=k.out.cell (j:=0) rfl;have z0:=k.out.fz 0;have p1:=k.out.cell (j:=1) rfl;have z1:=k.out.fz 1;have p2:=k.out.cell (j:=2) rfl;have z2:=k.out.fz 2;have p3:=k.out.cell (j:=3) rfl;have z3:=k.out.fz 3;have p4:=k.out.cell (j:=4) rfl;have z4:=k.out.fz 4;have p5:=k.out.cell (j:=5) rfl;have z5:=k.out.fz 5)|skip))))
  all_goals
   go_wp2_with fail
   go_meet
   case rel=>exact ⟨rfl,rfl,_,rfl,(by first|with_reducible exact fQ (bo.out.mono bs.out) hF.out|with_reducible exact eZ k.out (bo.out.mono bt.out) hF.out)⟩
 rename U=>c7
 obtain ⟨rfl,rfl,Bm,rfl,b0⟩:=hcut
 obtain ⟨MA,ba,MC,bb,g1,g2,g3,g4⟩:=b0
 have hN:=ja5 g1 g2 (m.out.2.1.trans (g3.mono m.out.2.1.size)) (m.out.2.2.2.1.below g3) g4
 have bN:=ja1 m.out.2.2.1.lt
 cases hn:(a4 != 0)
 rotate_left
 focus
  have r:Z (tkE s t a b=a4/\¬tkE s t a b=0):=by
   have h0:¬a4=0:=by simpa using hn
   have h1:tkE s t a b=a4:=by unfold tkE;rw[if_neg (by rw[ap.out.1];exact h0)];exact ap.out.1
   exact ⟨h1,by rw[h1];exact h0⟩
  go_wp2
  go_ret
  refine ⟨by rw[r.out.1];rfl,?_,Wr.of hN.out.2.2.1 hH.out.1.blk.lt⟩
  unfold tkS tkT
  rw[if_neg r.out.2,if_neg r.out.2]
  have bv:=hH.out.1.below hN.out.2.2.1
  exact bv.mono (fun b hb=>aj.old b hb) (cZ hH.out.1.out hH.out.1.blk.lt) (fM fun b hb=>bv.up b hb)
 have h0:a4=0:=by simpa using hn
 have bc:=ja1 h0
 have b5:(a4 != 0)=false:=by rw[bc.out];rfl
 obtain ⟨c0,c1,c2,c3,c4,c5⟩:=ic hN.out.1
 obtain ⟨p0,p1,p2,p3,p4,p5⟩:=ic hN.out.2.2.2.1
 obtain ⟨z0,z1,z2,z3,z4,z5⟩:=vj hN.out.2.2.2.1
 go_wp2
 obtain ⟨n,a0⟩:=jb0 ((((((c7.setCell (jb5 (w.heap.size+1) 0) (S I f.c.c0)).setCell (jb5 (w.heap.size+1) 1) (S I f.c.c1)).setCell (jb5 (w.heap.size+1) 2) (S I f.c.c2)).setCell (jb5 (w.heap.size+1) 3) (S I f.c.c3)).setCell (jb5 (w.heap.size+1) 4) (J MA f.c.l.length ba)).setCell (jb5 (w.heap.size+1) 5) (J MC f.e.length bb))
 rw[a0]
 have hJ:Z (TbW d.heap.size n f MA ba MC bb/\jb2 w n/\Cls n (w.heap.size+1) [S I f.c.c0,S I f.c.c1,S I f.c.c2,S I f.c.c3,J MA f.c.l.length ba,J MC f.e.length bb,S I 0,S I 0,S I 0,S I 0,J none 0 0,J none 0 0]):=by
  have cu:=bN.out
  have cs:=hI.out.1.size
  have cr:=hI.out.2.lt
  refine ⟨?_,?_,?_⟩
  ·rw[<-a0];exact hN.out.2.1.agr ((((((aS _ fun h=>by omega).trans (aS _ fun h=>by omega)).trans (aS _ fun h=>by omega)).trans (aS _ fun h=>by omega)).trans (aS _ fun h=>by omega)).trans (aS _ fun h=>by omega))
  ·have ak:w.heap.size<=w.heap.size+1:=by omega
   rw[<-a0];exact (((((hN.out.2.2.1.setCell ak _).setCell ak _).setCell ak _).setCell ak _).setCell ak _).setCell ak _
  ·rw[<-a0];exact (((((hN.out.2.2.2.1.put 0 _).put 1 _).put 2 _).put 3 _).put 4 _).put 5 _

 have cl:=ja1 hJ.out.1
 have b2:=ja1 m.out.2.1.size
 have hI:=ja2 hJ.out.2.1 hJ.out.2.2
 have b9:=ja2 b2.out trivial
 rw[rounds_succ]
 go_upto_region 5 with fail
 obtain ⟨g,a9⟩:=jb0 (n.alloc (H #[S I b.c.c0,S I b.c.c1,S I b.c.c2,S I b.c.c3,J PB b.c.l.length ah,J PD b.e.length ao] 35))
 rw[a9]
 have m:Z (Gr n g/\jb2 w g/\Cls g n.heap.size (T6 b PB ah PD ao)/\Cls g (w.heap.size+1) [S I f.c.c0,S I f.c.c1,S I f.c.c2,S I f.c.c3,J MA f.c.l.length ba,J MC f.e.length bb,S I 0,S I 0,S I 0,S I 0,J none 0 0,J none 0 0]/\N<g.heap.size/\TbC g N (O+1) s A ca C cc/\TbC g N (O+7) t B cb D cd):=by
  have hg:Gr n g:=by rw[<-a9];exact (gR _).alloc _
  have hb:=hI.out.1.trans (hg.below.mono hI.out.1.size)
  have a8:=hH.out.1.blk.lt
  exact ⟨hg,hb,by rw[<-a9];exact Cls.new n _ _,hI.out.2.gr hg,nL a8 hb.size,hH.out.2.2.2.1.keep fun j _ _=>hb.cell (p:=(jb5 N j)) a8,hH.out.2.2.2.2.keep fun j _ _=>hb.cell (p:=(jb5 N j)) a8⟩
 obtain ⟨a5,bh⟩:=jb0 (aD t b)
 obtain ⟨u,bl⟩:=jb0 (aR t b)
 have a6:=ja2 bh bl
 have hM:Z (∀W,jb2 g W->q Y 23 #[ih (T6 t B cb D cd).toArray,ih (T6 b PB ah PD ao).toArray] W fun e w'=>∃E ce F cf,e= Q (vc #[ih (T6 u E ce F cf).toArray,S I a5])/\TbW W.heap.size w' u E ce F cf/\jb2 W w'):=fun W R=>by
  have hb:=m.out.2.1.trans (R.mono m.out.2.1.size)
  have aL:=hH.out.2.2.1.below hb
  have hm:=jL t b B PB D PD cb ah cd ao W aL.len.1 a1.out.2.2.2.2.2.2.1 aL.len.2 a1.out.2.2.2.2.2.2.2.1 aL.nr a1.out.2.2.2.2.2.2.2.2.2 (aL.row) (a1.out.2.2.1.below hb) (aL.cel) (a1.out.2.2.2.1.below hb)
  rw[bh,bl] at hm
  refine hm.mono ?_
  rintro e w' ⟨E,ce,F,cf,rfl,f1,f2,f3,f4,f5,f6,f7⟩
  exact ⟨E,ce,F,cf,rfl,⟨f1,f2,f3,f4,f5,f6⟩,f7⟩
 go_cut [8,9,12] from 12 to 33 (fun v8 v9 v12 wx=>v9= S I a5/\v12= S I 1/\∃Bm:Nat,v8= vk (jb4 Bm 0)/\TbR g wx Bm u)
 case first =>
  have a2:=ja1 ((gR g).drew.below)
  have a3:Z (jb2 g (g.alloc (H #[S I 0,S I 0,S I 0,S I 0,J none 0 0,J none 0 0] 35)).drew):=((gR g).alloc _).drew.below
  have bs:Z (g.heap.size<=g.drew.heap.size):=nR _
  have bt:Z (g.heap.size+1<=(g.alloc (H #[S I 0,S I 0,S I 0,S I 0,J none 0 0,J none 0 0] 35)).drew.heap.size):=by show _<=(g.alloc _).heap.size;simp
  have a7:Z (∀W,jb2 g W->(fun w'=>jb1 w' n.heap.size 0 (S I b.c.c0)/\jb1 w' n.heap.size 1 (S I b.c.c1)/\jb1 w' n.heap.size 2 (S I b.c.c2)/\jb1 w' n.heap.size 3 (S I b.c.c3)/\jb1 w' n.heap.size 4 (J PB b.c.l.length ah)/\jb1 w' n.heap.size 5 (J PD b.e.length ao)/\jb1 w' N (O+7) (S I t.c.c0)/\jb1 w' N (O+8) (S I t.c.c1)/\jb1 w' N (O+9) (S I t.c.c2)/\jb1 w' N (O+10) (S I t.c.c3)/\jb1 w' N (O+11) (J B t.c.l.length cb)/\jb1 w' N (O+12) (J D t.e.length cd)) W):=fun W R=>⟨(m.out.2.2.1.below R).cell (j:=0) rfl,(m.out.2.2.1.below R).cell (j:=1) rfl,(m.out.2.2.1.below R).cell (j:=2) rfl,(m.out.2.2.1.below R).cell (j:=3) rfl,(m.out.2.2.1.below R).cell (j:=4) rfl,(m.out.2.2.1.below R).cell (j:=5) rfl,(R.cell (p:=(jb5 N (O+7))) m.out.2.2.2.2.1).trans m.out.2.2.2.2.2.2.k0,(R.cell (p:=(jb5 N (O+8))) m.out.2.2.2.2.1).trans m.out.2.2.2.2.2.2.k1,(R.cell (p:=(jb5 N (O+9))) m.out.2.2.2.2.1).trans m.out.2.2.2.2.2.2.k2,(R.cell (p:=(jb5 N (O+10))) m.out.2.2.2.2.1).trans m.out.2.2.2.2.2.2.k3,(R.cell (p:=(jb5 N (O+11))) m.out.2.2.2.2.1).trans m.out.2.2.2.2.2.2.k4,(R.cell (p:=(jb5 N (O+12))) m.out.2.2.2.2.1).trans m.out.2.2.2.2.2.2.k5⟩
  go_region_held3 (fun w'=>jb1 w' n.heap.size 0 (S I b.c.c0)/\jb1 w' n.heap.size 1 (S I b.c.c1)/\jb1 w' n.heap.size 2 (S I b.c.c2)/\jb1 w' n.heap.size 3 (S I b.c.c3)/\jb1 w' n.heap.size 4 (J PB b.c.l.length ah)/\jb1 w' n.heap.size 5 (J PD b.e.length ao)/\jb1 w' N (O+7) (S I t.c.c0)/\jb1 w' N (O+8) (S I t.c.c1)/\jb1 w' N (O+9) (S I t.c.c2)/\jb1 w' N (O+10) (S I t.c.c3)/\jb1 w' N (O+11) (J B t.c.l.length cb)/\jb1 w' N (O+12) (J D t.e.length cd)) (exact a7.out _ (by first|with_reducible exact a2.out|with_reducible exact a3.out|with_reducible exact hF.out|with_reducible exact hF.out.alloc hF.out.size _|exact ac hF.out (nR _) _ _ _ _ _ _)) (first
   | ((go_at_call 23;(with_reducible refine cM (hM.out _ (by first|with_reducible exact a2.out|with_reducible exact a3.out)) ?_);rintro e w2 ⟨E,ce,F,cf,rfl,f2,f3⟩;have hF:Z (jb2 g w2):=(by first|exact a2.out.trans (f3.mono a2.out.size)|exact a3.out.trans (f3.mono a3.out.size));have bo:Z _:=f2;(first|(have k:Z (Cls w2 g.heap.size Z6):=((Cls.new g #[S I 0,S I 0,S I 0,S I 0,J none 0 0,J none 0 0] 35).gr (gR _).drew).below f3)|skip);clear f2 f3;(first|(have p0:=k.out.cell (j:=0) rfl;have z0:=k.out.fz 0;have p1:=k.out.cell (j:=1) rfl;have z1:=k.out.fz 1;have p2:=k.out.cell (j:=2) rfl;have z2:=k.out.fz 2;have p3:=k.out.cell (j:=3) rfl;have z3:=k.out.fz 3;have p4:=k.out.cell (j:=4) rfl;have z4:=k.out.fz 4;have p5:=k.out.cell (j:=5) rfl;have z5:=k.out.fz 5)|skip))))
  all_goals
   go_wp2_with fail
   go_meet
   case rel=>exact ⟨rfl,rfl,_,rfl,(by first|with_reducible exact fQ (bo.out.mono bs.out) hF.out|with_reducible exact eZ k.out (bo.out.mono bt.out) hF.out)⟩
 rename U=>ck
 obtain ⟨rfl,rfl,Bm,rfl,b0⟩:=hcut
 obtain ⟨MB,bC,MD,bG,g1,g2,g3,g4⟩:=b0
 have hN:=ja5 g1 g2 (m.out.2.1.trans (g3.mono m.out.2.1.size)) (m.out.2.2.2.1.below g3) g4
 have b8:=ja1 m.out.2.2.1.lt
 have b7:=ja1 g3
 cases hn:(a5 != 0)
 rotate_left
 focus
  have r:Z (tkE s t a b=a5/\¬tkE s t a b=0):=by
   have h0:¬a5=0:=by simpa using hn
   have h1:tkE s t a b=a5:=by unfold tkE;rw[if_pos (by rw[ap.out.1];exact bc.out)];exact a6.out.1
   exact ⟨h1,by rw[h1];exact h0⟩
  go_wp2
  go_ret
  refine ⟨by rw[r.out.1];rfl,?_,Wr.of hN.out.2.2.1 hH.out.1.blk.lt⟩
  unfold tkS tkT
  rw[if_neg r.out.2,if_neg r.out.2]
  have bv:=hH.out.1.below hN.out.2.2.1
  exact bv.mono (fun b hb=>aj.old b hb) (cZ hH.out.1.out hH.out.1.blk.lt) (fM fun b hb=>bv.up b hb)
 have h0:a5=0:=by simpa using hn
 have be:=ja1 h0
 have b5:(a5 != 0)=false:=by rw[be.out];rfl
 obtain ⟨c0,c1,c2,c3,c4,c5⟩:=ic hN.out.1
 obtain ⟨p6,p7,p8,p9,cG,c6⟩:=Ax hN.out.2.2.2.1
 obtain ⟨z6,z7,z8,z9,c8,c9⟩:=AA hN.out.2.2.2.1
 go_wp2
 obtain ⟨bd,a0⟩:=jb0 ((((((ck.setCell (jb5 (w.heap.size+1) 6) (S I u.c.c0)).setCell (jb5 (w.heap.size+1) 7) (S I u.c.c1)).setCell (jb5 (w.heap.size+1) 8) (S I u.c.c2)).setCell (jb5 (w.heap.size+1) 9) (S I u.c.c3)).setCell (jb5 (w.heap.size+1) 10) (J MB u.c.l.length bC)).setCell (jb5 (w.heap.size+1) 11) (J MD u.e.length bG))
 rw[a0]
 have hJ:Z (TbW g.heap.size bd u MB bC MD bG/\jb2 w bd/\Cls bd (w.heap.size+1) (T2 f MA ba MC bb u MB bC MD bG)/\TbW d.heap.size bd f MA ba MC bb):=by
  have cu:=b8.out
  have cs:=hI.out.1.size
  have cr:=hI.out.2.lt
  refine ⟨?_,?_,?_,?_⟩
  ·rw[<-a0];exact hN.out.2.1.agr ((((((aS _ fun h=>by omega).trans (aS _ fun h=>by omega)).trans (aS _ fun h=>by omega)).trans (aS _ fun h=>by omega)).trans (aS _ fun h=>by omega)).trans (aS _ fun h=>by omega))
  ·have ak:w.heap.size<=w.heap.size+1:=by omega
   rw[<-a0];exact (((((hN.out.2.2.1.setCell ak _).setCell ak _).setCell ak _).setCell ak _).setCell ak _).setCell ak _
  ·rw[<-a0];exact (((((hN.out.2.2.2.1.put 6 _).put 7 _).put 8 _).put 9 _).put 10 _).put 11 _
  ·have cm:jb2 n ck:=m.out.1.below.trans (b7.out.mono m.out.1.size)
   have dk:=bN.out
   have dg:=cj.out
   rw[<-a0];exact (cl.out.below cm).agr ((((((aS _ fun h=>by omega).trans (aS _ fun h=>by omega)).trans (aS _ fun h=>by omega)).trans (aS _ fun h=>by omega)).trans (aS _ fun h=>by omega)).trans (aS _ fun h=>by omega))
 clear a0 b5 c0 c1 c2 c3 c4 c5 p6 z6 p7 z7 p8 z8 p9 z9 cG c8 c6 c9
 have b3:=ja1 m.out.2.1.size
 rw[rounds_succ]
 have r:Z (tkE s t a b=0/\tkS s t a b=f/\tkT s t a b=u/\ay f=0/\ay u=0):=by
  have h1:tkE s t a b=0:=by unfold tkE;rw[if_pos (by rw[ap.out.1];exact bc.out),a6.out.1];exact be.out
  exact ⟨h1,by unfold tkS;rw[if_pos h1];exact ap.out.2,by unfold tkT;rw[if_pos h1];exact a6.out.2,by rw[<-ap.out.2];exact eJ (by rw[ap.out.1];exact bc.out),by rw[<-a6.out.2];exact eJ (by rw[a6.out.1];exact be.out)⟩
 have b1:=ja2 hJ.out.2.1 (hH.out.1.below hJ.out.2.1)
 have b6:Z (q Y 24 #[vk (jb4 N O),ih (T2 f MA ba MC bb u MB bC MD bG).toArray] bd fun e w'=>e= Q (vc #[])/\Nd w' N O (aj P w.heap.size w'.heap.size) id f u qs/\Wr N (O+1) (O+37) bd w') :=
  l9 b1.out.2 hH.out.1.blk.lt b1.out.1.size ((hJ.out.2.2.2.p r.out.2.2.2.1).mono fun b hb=>aj.new b9.out.1 (nR _) b hb) ((hJ.out.1.p r.out.2.2.2.2).mono fun b hb=>aj.new b3.out (nR _) b hb)
 obtain ⟨q0,q1,q2,q3,q4,q5,q6,q7,q8,q9,ds,dv⟩:=eS hJ.out.2.2.1
 go_wp2_with fail
 refine ja0 b6 ?_
 rintro e w8 ⟨rfl,f1,f2⟩
 have bp:=ja2 f1 ((Wr.of b1.out.1 hH.out.1.blk.lt).trans f2)
 clear f1 f2 b6
 go_wp2
 go_ret
 refine ⟨by rw[r.out.1];rfl,?_,bp.out.2⟩
 rw[r.out.2.1,r.out.2.2.1]
 exact bp.out.1

theorem tT {w:U} {M:Nat} {K:Nat->Prop} {id:Int} {s t:Tab} {v:Value} (h:Pr w M K id s t v) (a b:Tab) (PA PB PC PD:Option vf) (ak an ao ap:Nat) (ra:Row w PA a.c.l) (rc:av w PC a.e) (rb:Row w PB b.c.l) (rd:av w PD b.e) (la:a.c.l.length<=maxLen) (lc:a.e.length<=maxLen) (lb:b.c.l.length<=maxLen) (ld:b.e.length<=maxLen) (na:PA=none->ak=0) (nb:PB=none->an=0) :
  q Y 9 #[vk (some (jb5 M 0)),ih (T2 a PA ak PC ao b PB an PD ap).toArray] w fun e w'=>e= Q (S I (tkE s t a b))/\Pr w' M (aj K w.heap.size w'.heap.size) id (tkS s t a b) (tkT s t a b) v/\Wr M 1 13 w w':=by
 have a2:Z (∀W,jb2 w W->Pr W M (aj K w.heap.size W.heap.size) id s t v/\Wr M 1 13 w W):=fun W hW=>⟨h.plus hW,Wr.of hW h.lt⟩;obtain ⟨r,a8⟩:=jb0 (w.alloc (H #[S I a.c.c0,S I a.c.c1,S I a.c.c2,S I a.c.c3,J PA a.c.l.length ak,J PC a.e.length ao,S I b.c.c0,S I b.c.c1,S I b.c.c2,S I b.c.c3,J PB b.c.l.length an,J PD b.e.length ap] 43));have a5:Gr w r:=by rw[<-a8];exact (gR w).alloc _
 have ah:Z (Row w PA a.c.l/\av w PC a.e/\Row w PB b.c.l/\av w PD b.e/\(a.c.l.length<=maxLen/\a.e.length<=maxLen)/\(b.c.l.length<=maxLen/\b.e.length<=maxLen)/\(PA=none->ak=0)/\(PB=none->an=0)):=⟨ra,rc,rb,rd,⟨la,lc⟩,⟨lb,ld⟩,na,nb⟩;have hh:=h;obtain ⟨A,ca,C,cc,B,cb,D,cd,g1,g2,g3,_⟩:=hh;have hC:Z (Cls r M (iS id s A ca C cc t B cb D cd v)/\Cls r w.heap.size (T2 a PA ak PC ao b PB an PD ap)/\TbP K w s A ca C cc/\TbP K w t B cb D cd/\Gr w r/\Pr w M K id s t v):=⟨g1.gr a5,by rw[<-a8];exact Cls.new w _ _,g2,g3,a5,h⟩;obtain ⟨E0,a4⟩:=jb0 (aD s a);obtain ⟨f,a7⟩:=jb0 (aR s a);obtain ⟨E1,a9⟩:=jb0 (aD t b);obtain ⟨k,ba⟩:=jb0 (aR t b);have hM:Z (∀W,jb2 r W->q Y 27 #[ih (T6 s A ca C cc).toArray,ih (T6 a PA ak PC ao).toArray] W fun e w'=>∃E ce F cf,e= Q (vc #[ih (T6 f E ce F cf).toArray,S I E0])/\TbW W.heap.size w' f E ce F cf/\jb2 W w'):=fun W hW=>by have hb:=hC.out.2.2.2.2.1.below.trans (hW.mono hC.out.2.2.2.2.1.size);have n:=hC.out.2.2.1.below hb;exact j5 a7 a4 n.len ah.out.2.2.2.2.1 n.nr ah.out.2.2.2.2.2.2.1 n.nc n.row (ah.out.1.below hb) n.cel (ah.out.2.1.below hb)
 have hS:Z (∀W,jb2 r W->(fun w'=>jb1 w' M 1 (S I s.c.c0)/\jb1 w' M 2 (S I s.c.c1)/\jb1 w' M 3 (S I s.c.c2)/\jb1 w' M 4 (S I s.c.c3)/\jb1 w' M 5 (J A s.c.l.length ca)/\jb1 w' M 6 (J C s.e.length cc)/\jb1 w' w.heap.size 0 (S I a.c.c0)/\jb1 w' w.heap.size 1 (S I a.c.c1)/\jb1 w' w.heap.size 2 (S I a.c.c2)/\jb1 w' w.heap.size 3 (S I a.c.c3)/\jb1 w' w.heap.size 4 (J PA a.c.l.length ak)/\jb1 w' w.heap.size 5 (J PC a.e.length ao)) W):=fun W hW=>by have c:=hC.out.1.below hW;have p:=hC.out.2.1.below hW;exact ⟨c.cell (j:=1) rfl,c.cell (j:=2) rfl,c.cell (j:=3) rfl,c.cell (j:=4) rfl,c.cell (j:=5) rfl,c.cell (j:=6) rfl,p.cell (j:=0) rfl,p.cell (j:=1) rfl,p.cell (j:=2) rfl,p.cell (j:=3) rfl,p.cell (j:=4) rfl,p.cell (j:=5) rfl⟩
 have hR:=ja4 a4 a7 a9 ba;go_enter Tryz.func9,Tryz.ntmps9;go_upto_region 1 with fail;go_cut [6,5] from 8 to 20 (fun v6 v5 u=>v6= S I E0/\∃Bm:Nat,v5= vk (some (jb5 Bm 0))/\TbR r u Bm f);case first =>
  have R:=ja1 ((gR r).drew.below);have ad:Z (jb2 r (r.alloc (H #[S I 0,S I 0,S I 0,S I 0,J none 0 0,J none 0 0] 35)).drew):=((gR r).alloc _).drew.below;have a1:Z (r.heap.size<=r.drew.heap.size/\r.heap.size+1<=(r.alloc (H #[S I 0,S I 0,S I 0,S I 0,J none 0 0,J none 0 0] 35)).drew.heap.size):=⟨nR _,by show _<=(r.alloc _).heap.size;simp⟩
  go_region_held3 (fun w'=>jb1 w' M 1 (S I s.c.c0)/\jb1 w' M 2 (S I s.c.c1)/\jb1 w' M 3 (S I s.c.c2)/\jb1 w' M 4 (S I s.c.c3)/\jb1 w' M 5 (J A s.c.l.length ca)/\jb1 w' M 6 (J C s.e.length cc)/\jb1 w' w.heap.size 0 (S I a.c.c0)/\jb1 w' w.heap.size 1 (S I a.c.c1)/\jb1 w' w.heap.size 2 (S I a.c.c2)/\jb1 w' w.heap.size 3 (S I a.c.c3)/\jb1 w' w.heap.size 4 (J PA a.c.l.length ak)/\jb1 w' w.heap.size 5 (J PC a.e.length ao)) (exact hS.out _ (by first|with_reducible exact R.out|with_reducible exact ad.out|with_reducible exact hF.out|with_reducible exact hF.out.alloc hF.out.size _|exact ac hF.out (nR _) _ _ _ _ _ _)) (first
   | (go_at_call 27;(with_reducible refine cM (hM.out _ (by first|with_reducible exact R.out|with_reducible exact ad.out)) ?_);rintro e w2 ⟨E,ce,F,cf,rfl,f2,f3⟩;have hF:Z (jb2 r w2):=(by first|exact R.out.trans (f3.mono R.out.size)|exact ad.out.trans (f3.mono ad.out.size));have aL:Z _:=f2;(first|(have d:Z (Cls w2 r.heap.size Z6):=((Cls.new r #[S I 0,S I 0,S I 0,S I 0,J none 0 0,J none 0 0] 35).gr (gR _).drew).below f3;have p0:=d.out.cell (j:=0) rfl;have z0:=d.out.fz 0;have p1:=d.out.cell (j:=1) rfl;have z1:=d.out.fz 1;have p2:=d.out.cell (j:=2) rfl;have z2:=d.out.fz 2;have p3:=d.out.cell (j:=3) rfl;have z3:=d.out.fz 3;have p4:=d.out.cell (j:=4) rfl;have z4:=d.out.fz 4;have p5:=d.out.cell (j:=5) rfl;have z5:=d.out.fz 5)|skip);clear f2 f3))
  all_goals go_wp2_with fail;go_meet;case rel=>exact ⟨rfl,_,rfl,(by first|with_reducible exact fQ (aL.out.mono a1.out.1) hF.out|with_reducible exact eZ d.out (aL.out.mono a1.out.2) hF.out)⟩
 rename U=>u;obtain ⟨rfl,Bm,rfl,XA,xa,XC,xc,q1,q2,q3,q4⟩:=hcut;have hX:=ja4 q1 q2 q3 q4;have a0:=ja1 (hC.out.2.2.2.2.1.below.trans (q3.mono hC.out.2.2.2.2.1.size));cases hn:(E0 != 0);rotate_left
 ·have m:Z (tkE s t a b=E0/\¬tkE s t a b=0):=by
   have h0:¬E0=0:=(by simpa using hn);have n:tkE s t a b=E0:=by unfold tkE;rw[if_neg (by rw[hR.out.1];exact h0)];exact hR.out.1
   exact ⟨n,by rw[n];exact h0⟩
  go_wp2;go_ret;unfold tkS tkT;rw[if_neg m.out.2,if_neg m.out.2];exact ⟨by rw[m.out.1];rfl,a2.out _ a0.out⟩
 obtain rfl:E0=0:=by simpa using hn
 have hM:Z (∀W,jb2 u W->q Y 27 #[ih (T6 t B cb D cd).toArray,ih (T6 b PB an PD ap).toArray] W fun e w'=>∃E ce F cf,e= Q (vc #[ih (T6 k E ce F cf).toArray,S I E1])/\TbW W.heap.size w' k E ce F cf/\jb2 W w'):=fun W hW=>by have hb:=a0.out.trans (hW.mono a0.out.size);have n:=hC.out.2.2.2.1.below hb;exact j5 hR.out.2.2.2 hR.out.2.2.1 n.len ah.out.2.2.2.2.2.1 n.nr ah.out.2.2.2.2.2.2.2 n.nc n.row (ah.out.2.2.1.below hb) n.cel (ah.out.2.2.2.1.below hb)
 have hS:Z (∀W,jb2 u W->(fun w'=>jb1 w' M 7 (S I t.c.c0)/\jb1 w' M 8 (S I t.c.c1)/\jb1 w' M 9 (S I t.c.c2)/\jb1 w' M 10 (S I t.c.c3)/\jb1 w' M 11 (J B t.c.l.length cb)/\jb1 w' M 12 (J D t.e.length cd)/\jb1 w' w.heap.size 6 (S I b.c.c0)/\jb1 w' w.heap.size 7 (S I b.c.c1)/\jb1 w' w.heap.size 8 (S I b.c.c2)/\jb1 w' w.heap.size 9 (S I b.c.c3)/\jb1 w' w.heap.size 10 (J PB b.c.l.length an)/\jb1 w' w.heap.size 11 (J PD b.e.length ap)) W):=fun W hW=>by have c:=(hC.out.1.below hX.out.2.2.1).below hW;have p:=(hC.out.2.1.below hX.out.2.2.1).below hW;exact ⟨c.cell (j:=7) rfl,c.cell (j:=8) rfl,c.cell (j:=9) rfl,c.cell (j:=10) rfl,c.cell (j:=11) rfl,c.cell (j:=12) rfl,p.cell (j:=6) rfl,p.cell (j:=7) rfl,p.cell (j:=8) rfl,p.cell (j:=9) rfl,p.cell (j:=10) rfl,p.cell (j:=11) rfl⟩
 go_upto_region 4 with fail;go_cut [6,7] from 23 to 35 (fun v6 v7 wy=>v6= S I E1/\∃Bn:Nat,v7= vk (some (jb5 Bn 0))/\TbR u wy Bn k);case first =>
  have R:=ja1 ((gR u).drew.below);have ad:Z (jb2 u (u.alloc (H #[S I 0,S I 0,S I 0,S I 0,J none 0 0,J none 0 0] 35)).drew):=((gR u).alloc _).drew.below;have a1:Z (u.heap.size<=u.drew.heap.size/\u.heap.size+1<=(u.alloc (H #[S I 0,S I 0,S I 0,S I 0,J none 0 0,J none 0 0] 35)).drew.heap.size):=⟨nR _,by show _<=(u.alloc _).heap.size;simp⟩
  go_region_held3 (fun w'=>jb1 w' M 7 (S I t.c.c0)/\jb1 w' M 8 (S I t.c.c1)/\jb1 w' M 9 (S I t.c.c2)/\jb1 w' M 10 (S I t.c.c3)/\jb1 w' M 11 (J B t.c.l.length cb)/\jb1 w' M 12 (J D t.e.length cd)/\jb1 w' w.heap.size 6 (S I b.c.c0)/\jb1 w' w.heap.size 7 (S I b.c.c1)/\jb1 w' w.heap.size 8 (S I b.c.c2)/\jb1 w' w.heap.size 9 (S I b.c.c3)/\jb1 w' w.heap.size 10 (J PB b.c.l.length an)/\jb1 w' w.heap.size 11 (J PD b.e.length ap)) (exact hS.out _ (by first|with_reducible exact R.out|with_reducible exact ad.out|with_reducible exact hF.out|with_reducible exact hF.out.alloc hF.out.size _|exact ac hF.out (nR _) _ _ _ _ _ _)) (first
   | (go_at_call 27;(with_reducible refine cM (hM.out _ (by first|with_reducible exact R.out|with_reducible exact ad.out)) ?_);rintro e w2 ⟨E,ce,F,cf,rfl,f2,f3⟩;have hF:Z (jb2 u w2):=(by first|exact R.out.trans (f3.mono R.out.size)|exact ad.out.trans (f3.mono ad.out.size));have aL:Z _:=f2;(first|(have d:Z (Cls w2 u.heap.size Z6):=((Cls.new u #[S I 0,S I 0,S I 0,S I 0,J none 0 0,J none 0 0] 35).gr (gR _).drew).below f3;have p0:=d.out.cell (j:=0) rfl;have z0:=d.out.fz 0;have p1:=d.out.cell (j:=1) rfl;have z1:=d.out.fz 1;have p2:=d.out.cell (j:=2) rfl;have z2:=d.out.fz 2;have p3:=d.out.cell (j:=3) rfl;have z3:=d.out.fz 3;have p4:=d.out.cell (j:=4) rfl;have z4:=d.out.fz 4;have p5:=d.out.cell (j:=5) rfl;have z5:=d.out.fz 5)|skip);clear f2 f3))
  all_goals go_wp2_with fail;go_meet;case rel=>exact ⟨rfl,_,rfl,(by first|with_reducible exact fQ (aL.out.mono a1.out.1) hF.out|with_reducible exact eZ d.out (aL.out.mono a1.out.2) hF.out)⟩
 rename U=>wy;obtain ⟨rfl,Bn,rfl,YA,ya,YC,yc,q1,q2,q3,q4⟩:=hcut;have hY:Z (Cls wy Bn (T6 k YA ya YC yc)/\TbW w.heap.size wy k YA ya YC yc/\jb2 w wy/\Cls wy Bm (T6 f XA xa XC xc)/\TbW w.heap.size wy f XA xa XC xc/\M≠Bm/\M≠Bn/\jb2 r wy):=by have a6:=hC.out.2.2.2.2.2.lt;have n:=a0.out.size;have h2:=hC.out.2.2.2.2.1.size;exact ⟨q1,q2.mono n,a0.out.trans (q3.mono n),hX.out.1.below q3,(hX.out.2.1.below q3).mono h2,by omega,by omega,hX.out.2.2.1.trans (q3.mono hX.out.2.2.1.size)⟩
 cases hn:(E1 != 0);rotate_left
 ·have m:Z (tkE s t a b=E1/\¬tkE s t a b=0):=by
   have h0:¬E1=0:=(by simpa using hn);have n:tkE s t a b=E1:=by unfold tkE;rw[if_pos hR.out.1];exact hR.out.2.2.1
   exact ⟨n,by rw[n];exact h0⟩
  go_wp2;go_ret;unfold tkS tkT;rw[if_neg m.out.2,if_neg m.out.2];exact ⟨by rw[m.out.1];rfl,a2.out _ hY.out.2.2.1⟩
 obtain rfl:E1=0:=by simpa using hn
 have a3:=ja1 (hC.out.1.below hY.out.2.2.2.2.2.2.2);obtain ⟨k1,k2,k3,k4,k5,k6,k7,k8,k9,be,bh,bl⟩:=Au a3.out;have hz:=a3.out.fz;have hS:Z (∀W,Agr (fun b=>b≠M) wy W->(fun w'=>jb1 w' Bm 0 (S I f.c.c0)/\jb1 w' Bm 1 (S I f.c.c1)/\jb1 w' Bm 2 (S I f.c.c2)/\jb1 w' Bm 3 (S I f.c.c3)/\jb1 w' Bm 4 (J XA f.c.l.length xa)/\jb1 w' Bm 5 (J XC f.e.length xc)/\jb1 w' Bn 0 (S I k.c.c0)/\jb1 w' Bn 1 (S I k.c.c1)/\jb1 w' Bn 2 (S I k.c.c2)/\jb1 w' Bn 3 (S I k.c.c3)/\jb1 w' Bn 4 (J YA k.c.l.length ya)/\jb1 w' Bn 5 (J YC k.e.length yc)) W):=fun W g=>by have c:=hY.out.2.2.2.1.keep (g.block _ (fun e=>hY.out.2.2.2.2.2.1 e.symm) hY.out.2.2.2.1.lt);have p:=hY.out.1.keep (g.block _ (fun e=>hY.out.2.2.2.2.2.2.1 e.symm) hY.out.1.lt);exact ⟨c.cell (j:=0) rfl,c.cell (j:=1) rfl,c.cell (j:=2) rfl,c.cell (j:=3) rfl,c.cell (j:=4) rfl,c.cell (j:=5) rfl,p.cell (j:=0) rfl,p.cell (j:=1) rfl,p.cell (j:=2) rfl,p.cell (j:=3) rfl,p.cell (j:=4) rfl,p.cell (j:=5) rfl⟩
 have bb:¬(fun b=>b≠M) M:=fun h=>h rfl;go_upto_region 7 with fail;go_region_held3 (fun w'=>jb1 w' Bm 0 (S I f.c.c0)/\jb1 w' Bm 1 (S I f.c.c1)/\jb1 w' Bm 2 (S I f.c.c2)/\jb1 w' Bm 3 (S I f.c.c3)/\jb1 w' Bm 4 (J XA f.c.l.length xa)/\jb1 w' Bm 5 (J XC f.e.length xc)/\jb1 w' Bn 0 (S I k.c.c0)/\jb1 w' Bn 1 (S I k.c.c1)/\jb1 w' Bn 2 (S I k.c.c2)/\jb1 w' Bn 3 (S I k.c.c3)/\jb1 w' Bn 4 (J YA k.c.l.length ya)/\jb1 w' Bn 5 (J YC k.e.length yc)) (exact hS.out _ (by first|with_reducible exact Agr.of (gR wy).drew.below|(refine Agr.trans ?_ (Agr.of (gR _).drew.below);(repeat' (first|with_reducible exact Agr.refl _ _|refine Agr.trans ?_ (aS _ bb)))))) (fail);have m:Z (tkE s t a b=0/\tkS s t a b=f/\tkT s t a b=k):=by
  have n:tkE s t a b=0:=by unfold tkE;rw[if_pos hR.out.1];exact hR.out.2.2.1
  exact ⟨n,by unfold tkS;rw[n,if_pos rfl];exact hR.out.2.1,by unfold tkT;rw[n,if_pos rfl];exact hR.out.2.2.2⟩
 have hP:Z (Pr (((((((((((((wy.setCell (jb5 M 1) (S I f.c.c0)).setCell (jb5 M 2) (S I f.c.c1)).setCell (jb5 M 3) (S I f.c.c2)).setCell (jb5 M 4) (S I f.c.c3)).setCell (jb5 M 5) (J XA f.c.l.length xa)).setCell (jb5 M 6) (J XC f.e.length xc)).setCell (jb5 M 7) (S I k.c.c0)).setCell (jb5 M 8) (S I k.c.c1)).setCell (jb5 M 9) (S I k.c.c2)).setCell (jb5 M 10) (S I k.c.c3)).setCell (jb5 M 11) (J YA k.c.l.length ya)).setCell (jb5 M 12) (J YC k.e.length yc))) M (aj K w.heap.size (((((((((((((wy.setCell (jb5 M 1) (S I f.c.c0)).setCell (jb5 M 2) (S I f.c.c1)).setCell (jb5 M 3) (S I f.c.c2)).setCell (jb5 M 4) (S I f.c.c3)).setCell (jb5 M 5) (J XA f.c.l.length xa)).setCell (jb5 M 6) (J XC f.e.length xc)).setCell (jb5 M 7) (S I k.c.c0)).setCell (jb5 M 8) (S I k.c.c1)).setCell (jb5 M 9) (S I k.c.c2)).setCell (jb5 M 10) (S I k.c.c3)).setCell (jb5 M 11) (J YA k.c.l.length ya)).setCell (jb5 M 12) (J YC k.e.length yc))).heap.size) id f k v/\Wr M 1 13 w (((((((((((((wy.setCell (jb5 M 1) (S I f.c.c0)).setCell (jb5 M 2) (S I f.c.c1)).setCell (jb5 M 3) (S I f.c.c2)).setCell (jb5 M 4) (S I f.c.c3)).setCell (jb5 M 5) (J XA f.c.l.length xa)).setCell (jb5 M 6) (J XC f.e.length xc)).setCell (jb5 M 7) (S I k.c.c0)).setCell (jb5 M 8) (S I k.c.c1)).setCell (jb5 M 9) (S I k.c.c2)).setCell (jb5 M 10) (S I k.c.c3)).setCell (jb5 M 11) (J YA k.c.l.length ya)).setCell (jb5 M 12) (J YC k.e.length yc)))):=by
  have a6:=hC.out.2.2.2.2.2.lt;have n:=(hC.out.2.2.2.2.2.plus hY.out.2.2.1).set (j:=0) (by omega) hY.out.2.2.2.2.1 (by rw[<-hR.out.2.1];exact eJ hR.out.1) fun b hb=>oR hb;have h2:=n.set (j:=1) (by omega) (hY.out.2.1.agr ((fS (B:=M) (o:=1) (lo:=1) (hi:=7) (by omega) (by omega) _ _ _ _ _ _).agr fun h=>by omega)) (by rw[<-hR.out.2.2.2];exact eJ hR.out.2.2.1) fun b hb=>by rw[gz] at hb;exact oR hb
  refine ⟨?_,(Wr.of hY.out.2.2.1 a6).trans ((fS (o:=1) (lo:=1) (hi:=13) (by omega) (by omega) _ _ _ _ _ _).trans (fS (o:=7) (lo:=1) (hi:=13) (by omega) (by omega) _ _ _ _ _ _))⟩;have bc:(((((((((((((wy.setCell (jb5 M 1) (S I f.c.c0)).setCell (jb5 M 2) (S I f.c.c1)).setCell (jb5 M 3) (S I f.c.c2)).setCell (jb5 M 4) (S I f.c.c3)).setCell (jb5 M 5) (J XA f.c.l.length xa)).setCell (jb5 M 6) (J XC f.e.length xc)).setCell (jb5 M 7) (S I k.c.c0)).setCell (jb5 M 8) (S I k.c.c1)).setCell (jb5 M 9) (S I k.c.c2)).setCell (jb5 M 10) (S I k.c.c3)).setCell (jb5 M 11) (J YA k.c.l.length ya)).setCell (jb5 M 12) (J YC k.e.length yc))).heap.size=wy.heap.size:=(gz (B:=M) (o:=7) _ _ _ _ _ _).trans (gz (B:=M) (o:=1) _ _ _ _ _ _);rw[bc];exact h2
 obtain ⟨wq,bd⟩:=jb0 ((((((((((((wy.setCell (jb5 M 1) (S I f.c.c0)).setCell (jb5 M 2) (S I f.c.c1)).setCell (jb5 M 3) (S I f.c.c2)).setCell (jb5 M 4) (S I f.c.c3)).setCell (jb5 M 5) (J XA f.c.l.length xa)).setCell (jb5 M 6) (J XC f.e.length xc)).setCell (jb5 M 7) (S I k.c.c0)).setCell (jb5 M 8) (S I k.c.c1)).setCell (jb5 M 9) (S I k.c.c2)).setCell (jb5 M 10) (S I k.c.c3)).setCell (jb5 M 11) (J YA k.c.l.length ya)).setCell (jb5 M 12) (J YC k.e.length yc));rw[bd] at hP ⊢;have hF:Z (Pr wq.drew M (aj K w.heap.size wq.drew.heap.size) id f k v/\Wr M 1 13 w wq.drew):=⟨hP.out.1.below (gR _).drew.below,hP.out.2.trans (Wr.of (gR _).drew.below hP.out.1.lt)⟩;go_wp2;go_ret;rw[m.out.1,m.out.2.1,m.out.2.2];exact ⟨rfl,hF.out⟩
end Go.Proofs.YtbkjgjjpnfhkhaaGreatDoor
