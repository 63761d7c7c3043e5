import Derived.Test.YtjmmpnmgpgaagaaGreatDoorM28
import Derived.Shelf.SlicesE.DeleteFunc
import Derived.Shelf.Strings.Count
set_option maxRecDepth 100000
set_option maxHeartbeats 8000000
open Go renaming World → V, Value → Z, Calls → ib, Addr → ic
open Go.Ending renaming returned → Y
open Go.IntKind renaming i64 → N
open Go.Obj renaming cells → X
open Go.Proofs.Tryz renaming prog → J
open Go.RowKit renaming Hid → O, Below → H
open Go.Value renaming slice → I, pointer → K, int → P, string → ia
namespace Go.Proofs.YtjmmpnmgpgaagaaGreatDoor
open Go.RowKit Go.Sort

def wB (n:Int):Int:=if n<0 then -n-1 else n-1
def fo (w:V):List Int->Z->Prop
 | [],v=>v= .func (.func 159) #[] #[]
 | n::t,v=>∃(bc bs bn:Nat) (u:Z),v= .func (.func 186) #[] #[K (some ⟨bc,0,none⟩),K (some ⟨bs,0,none⟩),K (some ⟨bn,0,none⟩)]/\(bc<w.heap.size/\bs<w.heap.size/\bn<w.heap.size)/\w.cell? ⟨bc,0,none⟩=some (P N (wB n))/\w.cell? ⟨bs,0,none⟩=some (P N (mr n))/\w.cell? ⟨bn,0,none⟩=some u/\fo w t u
theorem fo.below {w w':V} (q:H w.heap.size w w'):∀ {cs:List Int} {v:Z},fo w cs v->fo w' cs v
 | [],_,h=>h
 | _::_,_,⟨bc,bs,bn,u,h1,⟨l1,l2,l3⟩,h2,h3,h4,h5⟩=>⟨bc,bs,bn,u,h1,⟨nL l1 q.size,nL l2 q.size,nL l3 q.size⟩,(q.cell (p:=⟨bc,0,none⟩) l1).trans h2,(q.cell (p:=⟨bs,0,none⟩) l2).trans h3,(q.cell (p:=⟨bn,0,none⟩) l3).trans h4,fo.below q h5⟩
theorem fo.gr {w w':V} (q:Gr w w') {f:List Int} {v:Z} (h:fo w f v):fo w' f v:=fo.below q.below h
theorem fo.form {w:V}:∀ {cs:List Int} {v:Z},fo w cs v->∃F cb,v= .func (.func F) #[] cb/\∀f w,(callFunc F f).run J w= .ok (.enter F f) w
 | [],_,h=>⟨_,_,h,enters_of Tryz.func159 (by kernel_rfl) rfl⟩
 | _::_,_,⟨_,_,_,_,h,_⟩=>⟨_,_,h,enters_of Tryz.func186 (by kernel_rfl) rfl⟩

theorem DL {w:V} {C1 C2 f:Array Z} {T1 T2 g:TypeId} {j:Nat} {v:Z} (h:C1[j]? = some v):(((w.alloc (X C1 T1)).alloc (X C2 T2)).alloc (X f g)).cell? ⟨w.heap.size,j,none⟩=some v:=aa (w:=w) (((gR _).alloc _).alloc _) h
theorem DM {w:V} {C1 C2 f:Array Z} {T1 T2 g:TypeId} {j:Nat} {v:Z} (h:C2[j]? = some v):(((w.alloc (X C1 T1)).alloc (X C2 T2)).alloc (X f g)).cell? ⟨w.heap.size+1,j,none⟩=some v:=l9 (w:=w) ((gR _).alloc _) h
theorem DN {w:V} {C1 C2 f:Array Z} {T1 T2 g:TypeId} {j:Nat} {v:Z} (h:f[j]? = some v):(((w.alloc (X C1 T1)).alloc (X C2 T2)).alloc (X f g)).cell? ⟨w.heap.size+1+1,j,none⟩=some v:=by
 have:=l9 (w:=w.alloc (X C1 T1)) (gR _) (T1:=T2) (C1:=C2) (T2:=g) h
 simpa using this
theorem Af {w:V} {n:Int} {t:List Int} {u:Z} {c s:Int} (T1 T2 f:TypeId) (h:fo w t u) (g:wB n=c) (j:mr n=s) :
  fo (((w.alloc (X #[u] T1)).alloc (X #[P N c] T2)).alloc (X #[P N s] f)) (n::t) (.func (.func 186) #[] #[K (some ⟨w.heap.size+1,0,none⟩),K (some ⟨w.heap.size+1+1,0,none⟩),K (some ⟨w.heap.size,0,none⟩)]) :=
 ⟨_,_,_,u,rfl,⟨by simp<;>omega,by simp,by simp<;>omega⟩,by rw[g];exact DM rfl,by rw[j];exact DN rfl,DL rfl,h.gr ((((gR _).alloc _).alloc _).alloc _)⟩

theorem sF (n:Int) (t:List Int) (u:Z) (w:V) (C: -1000<=n/\n<=1000) (h:fo w t u) :
  ib J 160 #[P N n,u] w fun e w'=>∃v,e= Y v/\fo w' (n::t) v/\Gr w w':=by
 obtain ⟨F,cb,rfl,_⟩:=h.form
 have r:∀(j:Fn) (first cap:Array Z) (w:V),(Instr.makeFunc j first cap).run J w= .ok (.func j first cap) w:=fun _ _ _ _=>rfl
 have k:O (fo w t (.func (.func F) #[] cb)):=h
 clear h
 by_cases f:n<0
 ·have g:O (wB n= -n-1/\mr n= -1):=⟨if_pos f,if_pos f⟩
  go_enter Tryz.func160,Tryz.ntmps160
  go_wp2
  go_ret
  exact ⟨_,rfl,Af _ _ _ k.out g.out.1 g.out.2,(((gR _).alloc _).alloc _).alloc _⟩
 ·have g:O (wB n=n-1/\mr n=1):=⟨if_neg f,if_neg f⟩
  go_enter Tryz.func160,Tryz.ntmps160
  go_wp2
  go_ret
  exact ⟨_,rfl,Af _ _ _ k.out g.out.1 g.out.2,(((gR _).alloc _).alloc _).alloc _⟩

theorem sG (f:List Int) (A:Option ic) (cap:Nat) (w:V) (hl:f.length<=8) (h:∀n∈f,-1000<=n/\n<=1000) (hr:al w A f) :
  ib J 127 #[I A f.length cap] w fun e w'=>∃v,e= Y v/\fo w' f v/\Gr w w':=by
 have hH:=ja2 hr h
 clear hr h
 go_enter Tryz.func127,Tryz.ntmps127
 go_wp2
 go_loopw [3,4] (fun u i wr=>∃k:Nat,k<=f.length/\i= P N ((k:Int)-1)/\O (fo wr (f.drop k) u/\Gr w wr)) (fun _ i _=>(intOf i+1).toNat)
 case atStart=>exact ⟨f.length,nR _,rfl,by rw[List.drop_length];exact rfl,gR _⟩
 case round =>
  obtain ⟨k,hk,rfl,j⟩:=hrel
  by_cases ad:0<k
  ·obtain ⟨m,rfl⟩:∃m,k=m+1:=⟨k-1,by omega⟩
   have E:m<f.length:=by omega
   have ah:(m:Int)<(f.length:Int):=by omega
   have e1:(((m+1:Nat):Int)-1)=(m:Int):=by omega
   obtain ⟨b,L,rfl,hb,C⟩:=(hH.out.1.gr j.out.2).at E
   have F:=C m E 0 (by omega)
   obtain ⟨n,h⟩:∃n,f[m]=n:=⟨_,rfl⟩
   rw[h] at F
   have e2:wr.cell? ⟨b,L+m,none⟩=some (P N n):=by simpa[df] using F
   have r:=sF n (f.drop (m+1)) u3 wr (by rw[<-h];exact hH.out.2 _ (gM E)) j.out.1
   have hC:O _:=r
   have hd:O (f.drop m=n::f.drop (m+1)):=by show _=_;rw[List.drop_eq_getElem_cons E,h]
   have hg:=ja1 j.out.2
   rw[e1]
   clear C F h r j
   go_wp2_with fail
   refine ja0 hC ?_
   rintro e w1 ⟨v,rfl,R,h2⟩
   have g:O (fo w1 (f.drop m) v/\Gr w w1):=⟨by rw[hd.out];exact R,hg.out.trans h2⟩
   clear hC R h2
   go_wp2
   go_roundw
   case rel=>exact ⟨m,by omega,by go_num,g⟩
   case measure=>simp[intOf]<;>omega
  ·obtain rfl:k=0:=by omega
   have g:O (fo wr f u3/\Gr w wr):=by have:=j.out;rwa [List.drop_zero] at this
   clear j
   go_wp2
   go_ret
   exact ⟨u3,rfl,g.out⟩

theorem DP {x y r:Int} (h:aQ x y=r) (w:V):ib J 178 #[P N x,P N y] w fun e w'=>e= Y (P N r)/\∃q f,w'=grow (w.drewN q) f:=by
 rw[<-h]
 refine (jk x y w).mono ?_
 rintro e w' ⟨g,rfl⟩
 exact ⟨g,gR _⟩
theorem sO {w:V} {p:Option ic} {r:List Int} {n:Int} (h:al w p r) (C:n≠0) (g:fp n<r.length):∃(b f m:Nat),p=some ⟨b,f,none⟩/\b<w.heap.size/\wB n=m/\m<r.length/\w.cell? ⟨b,f+m,none⟩=some (P N (r.getD (fp n) 0)):=by
 obtain ⟨b,f,u,k,j⟩:=h.at g
 refine ⟨b,f,fp n,u,k,?_,g,?_⟩
 ·unfold fp wB
  split<;>omega
 ·have:=j (fp n) g 0 (by omega)
  simp only[Nat.mul_one,Nat.add_zero] at this
  rw[this,List.getD_eq_getElem?_getD,List.getElem?_eq_getElem g]
  rfl

theorem sE (a b:List Int) (A B:Option ic) (ca cb:Nat) (an:a.length<=maxLen) (a0:b.length<=maxLen):∀(cs:List Int) (F:FuncId) (cap:Array Z) (w:V),fo w cs (.func (.func F) #[] cap)->al w A a->al w B b->(∀n∈cs,n≠0/\fp n<a.length/\fp n<b.length) ->
  ib J F (#[I A a.length ca,I B b.length cb]++cap) w fun e w'=>e= Y (P N (dW cs a b))/\∃q ah,w'=grow (w.drewN q) ah
 | [],F,cap,w,h,ha,hb,_=>by
  have h':Value.func (.func F) #[] cap= .func (.func 159) #[] #[]:=h
  injection h' with h1 h2 h3
  injection h1 with h1
  subst h1 h3
  exact eU a b A B ca cb w an ha hb
 | n::t,F,cap,w,h,ha,hb,hn=>by
  obtain ⟨bc,bs,bn,u,h',R,c0,c1,c2,hO⟩:=h
  injection h' with h1 h2 h3
  injection h1 with h1
  subst h1 h3
  have j:Tryz.prog.follows .mixedOrders=true:=by kernel_rfl
  obtain ⟨G,gc,rfl,eg⟩:=hO.form
  have IH:O (∀W,Gr w W->ib J G (#[I A a.length ca,I B b.length cb]++gc) W fun e w'=>e= Y (P N (dW t a b))/\∃q ah,w'=grow (W.drewN q) ah):=fun W hg=>sE a b A B ca cb an a0 t G gc W (hO.gr hg) (ha.gr hg) (hb.gr hg) (fun m hm=>hn m (mC _ hm))
  obtain ⟨n0,na,nb⟩:=hn n (mS ..)
  obtain ⟨b1,o1,m1,hA,l1,k1,j1,d1⟩:=sO ha n0 na
  obtain ⟨b2,o2,m2,hB,l2,k2,j2,d2⟩:=sO hb n0 nb
  obtain rfl:m1=m2:=by omega
  rw[k1] at c0
  obtain ⟨x,hx⟩:∃x,a.getD (fp n) 0=x:=⟨_,rfl⟩
  obtain ⟨y,hy⟩:∃y,b.getD (fp n) 0=y:=⟨_,rfl⟩
  rw[hx] at d1
  rw[hy] at d2
  obtain ⟨r,hr⟩:∃r,aQ x y=r:=⟨_,rfl⟩
  obtain ⟨a2,hT⟩:∃a2,dW t a b=a2:=⟨_,rfl⟩
  obtain ⟨a3,hZ⟩:∃a3,dW (n::t) a b=a3:=⟨_,rfl⟩
  have L:O (a3=if r=0 then a2 else mr n*r):=by show _=_;rw[<-hZ];unfold dW;rw[hx,hy,hr,hT]
  have ad:O ((mr n= -1\/mr n=1)/\(r= -1\/r=0\/r=1)):=⟨by rcases fF n with h|h<;>simp[h.1],by rcases bI x y with h|h|h<;>rw[<-hr,h.1]<;>simp⟩
  rw[hZ]
  rw[hT] at IH
  have ap:=ja1 hr
  obtain ⟨s,hs⟩:∃s,mr n=s:=⟨_,rfl⟩
  rw[hs] at c1 L ad
  subst hA hB
  have g0:=(gR w).cellG (a:=⟨bc,0,none⟩) R.1 c0
  have g1:=(gR w).cellG (a:=⟨bs,0,none⟩) R.2.1 c1
  have g2:=(gR w).cellG (a:=⟨bn,0,none⟩) R.2.2 c2
  have g3:=(gR w).cellG (a:=⟨b1,o1+m1,none⟩) l1 d1
  have g4:=(gR w).cellG (a:=⟨b2,o2+m1,none⟩) l2 d2
  have q1:(m1:Int)<(a.length:Int):=by omega
  have q2:(m1:Int)<(b.length:Int):=by omega
  clear hO hr hx hy hT hZ hs ha hb hn k1 k2
  show ib J 186 #[I (some ⟨b1,o1,none⟩) a.length ca,I (some ⟨b2,o2,none⟩) b.length cb,K (some ⟨bc,0,none⟩),K (some ⟨bs,0,none⟩),K (some ⟨bn,0,none⟩)] w _
  by_cases C:r=0
  ·have g:O (a2=a3):=by show _=_;rw[L.out,if_pos C]
   subst C
   go_enter Tryz.func186,Tryz.ntmps186
   go_wp2_with fail
   refine wp_region_quiet_grown j (by kernel_rfl) ?_
   repeat (go_big_quiet_step ((go_at_call 178;refine Calls.grown_of (DP ap.out _))))
   refine wpQuiet_nil ?_
   rintro _ ⟨⟨E,f⟩,rfl⟩
   go_wp2_with fail
   refine cM (IH.out _ ⟨E,f,rfl⟩) ?_
   rintro e w2 ⟨rfl,ao⟩
   have hg:O (Gr w w2):=Gr.trans ⟨E,f,rfl⟩ ao
   clear ao
   go_wp2
   go_ret
   exact ⟨by rw[<-g.out];rfl,hg.out⟩
  ·have a1:(r != 0)=true:=by simpa using C
   have hw:IntKind.i64.wrap (s*r)=s*r:=by
    rcases ad.out.1 with h|h<;>rcases ad.out.2 with k|k|k<;>rw[h,k]<;>decide
   have g:O (s*r=a3):=by show _=_;rw[L.out,if_neg C]
   go_enter Tryz.func186,Tryz.ntmps186
   go_wp2_with fail
   refine wp_region_quiet_grown j (by kernel_rfl) ?_
   repeat (go_big_quiet_step ((go_at_call 178;refine Calls.grown_of (DP ap.out _))))
   refine wpQuiet_nil ?_
   rintro _ ⟨⟨E,f⟩,rfl⟩
   go_wp2
   go_ret
   exact ⟨by rw[<-g.out];rfl,E,f,rfl⟩
section
open Go.Shelf Go.Lib

def oz (w:V) (B:Nat) (cs:List Int):Prop:=∃v,w.cell? ⟨B,0,none⟩=some v/\fo w cs v/\B<w.heap.size
theorem oz.below {w w':V} {B:Nat} {f:List Int} (h:oz w B f) (q:H w.heap.size w w'):oz w' B f:=by
 obtain ⟨v,j,k,g⟩:=h
 exact ⟨v,(q.cell (p:=⟨B,0,none⟩) g).trans j,fo.below q k,nL g q.size⟩
theorem oz.gr {w w':V} {B:Nat} {f:List Int} (h:oz w B f) (q:Gr w w'):oz w' B f:=h.below q.below
def vX (cs:List Int) (r:List Int):Prop:=∀n∈cs,n≠0/\fp n<r.length

theorem yU (j:List Int) (B:Nat) (x y:Itm) (w:V) (hO:oz w B j) (hx:al w x.p x.r) (hy:al w y.p y.r) (E:x.r.length<=maxLen) (F:y.r.length<=maxLen) (cx:vX j x.r) (cy:vX j y.r) :
  ib J 158 (#[.agg (aD x).toArray,.agg (aD y).toArray]++ #[K (some ⟨B,0,none⟩)]) w fun e w'=>e= Y (P N (dW j x.r y.r))/\∃q ad,w'=grow (w.drewN q) ad:=by
 obtain ⟨v,c0,L,hB⟩:=hO
 obtain ⟨G,gc,rfl,eg⟩:=L.form
 obtain ⟨f,g⟩:∃f,((w.alloc (X #[I x.p x.r.length x.c,P N x.n] 151)).alloc (X #[I y.p y.r.length y.c,P N y.n] 151))=f:=⟨_,rfl⟩
 have h:Gr w f:=by rw[<-g];exact ((gR _).alloc _).alloc _
 have k:=sE x.r y.r x.p y.p x.c y.c E F j G gc f (L.gr h) (hx.gr h) (hy.gr h) (fun n hn=>⟨(cx n hn).1,(cx n hn).2,(cy n hn).2⟩)
 have hC:O _:=k
 have x0:f.cell? ⟨w.heap.size,0,none⟩=some (I x.p x.r.length x.c):=by rw[<-g];exact aa (w:=w) ((gR _).alloc _) rfl
 have x1:f.cell? ⟨w.heap.size+1,0,none⟩=some (I y.p y.r.length y.c):=by rw[<-g];exact l9 (w:=w) (gR _) rfl
 have x2:f.cell? ⟨B,0,none⟩=some (.func (.func G) #[] gc):=(h.cell (p:=⟨B,0,none⟩) hB).trans c0
 have R:=ja1 h
 clear k L hx hy E F cx cy h c0
 show ib J 158 #[.agg #[I x.p x.r.length x.c,P N x.n],.agg #[I y.p y.r.length y.c,P N y.n],K (some ⟨B,0,none⟩)] w _
 go_enter Tryz.func158,Tryz.ntmps158
 go_wp2_with fail
 refine ja0 hC ?_
 rintro e w2 ⟨rfl,C⟩
 have u:=ja1 (R.out.trans C)
 clear hC C
 go_wp2
 go_ret
 exact ⟨rfl,u.out⟩

def cfN (cs:List Int) (l:List Itm) (x y:InT l):Int:=dW cs x.1.r y.1.r
theorem ltN (f:List Int) (l:List Itm) (x y:InT l):ltOf (cfN f l) x y=decide (dW f x.1.r y.1.r<0):=rfl
theorem F4 (f:List Int) (l:List Itm):SWO (ltOf (cfN f l)) where
 irrefl x:=by rw[ltN,pv];rfl
 trans x y z h1 h2:=by
  rw[ltN,decide_eq_true_eq] at *
  exact (gO f _ _ _ (by omega) (by omega)).2 (oL h1)
 ntrans x y z h1 h2:=by
  rw[ltN,decide_eq_false_iff_not] at *
  have g:=e9 f x.1.r y.1.r
  have h:=e9 f y.1.r z.1.r
  have j:=e9 f x.1.r z.1.r
  have:=(gO f z.1.r y.1.r x.1.r (by omega) (by omega)).1
  omega

theorem Es (C:List Int) (B:Nat) (w0:V) (hO:oz w0 B C) (g cap:Nat) (l:List Itm) (w:V) (ah:Go.RowKit.Below w0.heap.size w0 w) (a1:w0.heap.size<=g) (a3:l≠[]) (F:az aD 2 w (some ⟨g,0,none⟩) l) (hf:∀j,w.frozen? ⟨g,j,none⟩=false) (hg:g<w.heap.size) (L:∀x∈l,al w x.p x.r/\x.r.length<=maxLen/\(x.p=none->x.c=0)/\(∀a,x.p=some a->x.r≠[]->a.block≠g)) (hc:∀x∈l,vX C x.r) (a4:l.length<4611686018427387904) :
  ib J 157 #[I (some ⟨g,0,none⟩) l.length cap,.func (.func 158) #[] #[K (some ⟨B,0,none⟩)]] w fun e w'=>e= Y (.tuple #[])/\(∃S:List Itm,S.Perm l/\(S.map Itm.z).Pairwise (fun x y=>dW C x.1 y.1<=0)/\Items w' (some ⟨g,0,none⟩) S)/\∀f,f<=g->f<=w.heap.size->Go.RowKit.Below f w w':=by
 obtain ⟨x0,a5⟩:∃x,x∈l:=List.exists_mem_of_ne_nil l a3
 haveI:Inhabited (InT l):=⟨⟨x0,a5⟩⟩
 have ap:CmpLays J 158 #[K (some ⟨B,0,none⟩)] (jI l) 2 (cfN C l) g 0 l.attach.toArray.size w:=fun m os dk _ x y =>
  yU C B x.1 y.1 _ (hO.below (ah.trans (iI a1 ah.size))) (eV (L _ x.2).1 (L _ x.2).2.2.2) (eV (L _ y.2).1 (L _ y.2).2.2.2) (L _ x.2).2.1 (L _ y.2).2.1 (hc _ x.2) (hc _ y.2)
 have h:=AnyQ.slices_SortFunc Tryz.sortItm 2 Tryz.isAgg151 Tryz.sizeOf151 (jI l) (fun _=>rfl) (fun x=>fC x.1) (cfN C l) (F4 C l) 158 #[K (some ⟨B,0,none⟩)] g 0 cap l.attach.toArray w (enters_of Tryz.func158 (by kernel_rfl) rfl) ap (qF F hf) hg (by simpa using a4)
 change ib J 157 _ _ _ at h
 simp only[List.size_toArray,List.length_attach] at h
 refine h.mono ?_
 rintro e w' ⟨a0,d',n,os,hp,hs,hw⟩
 obtain ⟨u,_,k⟩:=hp
 simp only[List.size_toArray,List.length_attach] at u
 have e1:d'.extract 0 l.length=d':=by rw[<-u];exact Array.extract_size
 have e2:(l.attach.toArray.extract 0 l.length).toList=l.attach:=by simp only[List.extract_toArray,List.drop_zero,Nat.sub_zero,List.extract_eq_take_drop];exact List.take_of_length_le (by simp)
 rw[e1,e2] at k
 have an:(d'.toList.map Subtype.val).Perm l:=by have:=k.map Subtype.val;rwa [mF] at this
 refine ⟨a0,⟨d'.toList.map Subtype.val,an,?_,?_,?_⟩,fun f h1 h2=>by rw[hw];exact iI h1 h2⟩
 ·rw[List.map_map,List.pairwise_map,List.pairwise_iff_getElem]
  intro i j hi hj a2
  have R:i<d'.size:=by simpa using hi
  have ad:j<d'.size:=by simpa using hj
  have:=hs i j (nZ _) a2 (by omega)
  rw[getElem!_pos d' j ad,getElem!_pos d' i R,ltN,decide_eq_false_iff_not] at this
  have e3:=e9 C (d'[j]'ad).1.r (d'[i]'R).1.r
  show dW C (d'[i]'R).1.r (d'[j]'ad).1.r<=0
  omega
 ·have ao:HoldsK (jI l) 2 w' g 0 d':=by
   rw[hw]
   refine holdsK_grow _ _ _ _ _ _ _ (by simp[putRowK];exact hg) ?_
   exact holdsK_putRowK _ _ _ _ _ l.attach.toArray _ (holdsK_ahead _ _ _ _ _ _ _ (qF F hf)) (by simp[u])
  exact CC ao (by rw[hw];exact nL hg io)
 ·intro x hx
  have E:=L x (an.mem_iff.1 hx)
  rw[hw]
  exact ⟨eV E.1 E.2.2.2,E.2.1,E.2.2.1⟩

theorem s9 (cs:List Int) (u:Z) (l:List Itm) (A:Option ic) (cap:Nat) (w:V) (hl:l.length<=400) (h:Lv w A cap l) (hO:fo w cs u) (hc:∀x∈l,vX cs x.r) :
  ib J 126 #[I A l.length cap,u] w fun e w'=>∃(S:List Itm) (C:Option ic) (k:Nat),e= Y (I C S.length k)/\S.Perm l/\(S.map Itm.z).Pairwise (fun x y=>dW cs x.1 y.1<=0)/\Lv w' C k S/\H w.heap.size w w':=by
 have a7:∀(fn:Fn) (first cap:Array Z) (w:V),(Instr.makeFunc fn first cap).run J w= .ok (.func fn first cap) w:=fun _ _ _ _=>rfl
 obtain ⟨G,gc,rfl,_⟩:=hO.form
 obtain ⟨W1,ad⟩:∃W1,w.alloc (X #[.func (.func G) #[] gc] 199)=W1:=⟨_,rfl⟩
 have E:O (Gr w W1):=by show Gr _ _;rw[<-ad];exact (gR _).alloc _
 have a4:O (oz W1 w.heap.size cs):=by
  show oz _ _ _
  refine ⟨.func (.func G) #[] gc,by rw[<-ad];exact aa (w:=w) (gR _) rfl,hO.gr E.out,by rw[<-ad];simp⟩
 have hH:=ja2 h hc
 clear hO h hc
 have hap:O (az aD 2 W1 A l/\(A=none->cap=0)/\([]:List Itm).length+l.length<=maxLen/\(([]:List Itm).length+l.length)*32<=140737488355328):=⟨(hH.out.1.gr E.out).items.row,hH.out.1.nil,by unfold maxLen;simp;omega,by simp;omega⟩
 go_enter Tryz.func126,Tryz.ntmps126
 go_wp2_with (at_builtin;refine dH _ rfl _ _ rfl W1.heap.size (I none 0 0) [] l A cap rfl rfl (ae.nil _ _ _ _ _) hap.out.1 hap.out.2.1 hap.out.2.2.1 hap.out.2.2.2 (nR _) ?_)
 intro v2 w2 f R
 clear ad
 have a0:=ja1 (cW R)
 obtain ⟨C,k,rfl,hC,j,F,ap,an⟩:=ae.full bz f
 have g:=ja1 (E.out.below.trans (a0.out.mono E.out.size))
 by_cases h0:l=[]
 ·subst h0
  have n:=AnyF.slices_SortFunc_none Tryz.sortItm C k (.func (.func 158) #[] #[K (some ⟨w.heap.size,0,none⟩)]) w2
  change ib J 157 _ _ _ at n
  have hS:O _:=n
  have L:O (cV C 0 k):=cV.mk hC (nZ _)
  clear n f R hC j F ap an
  go_wp2_with fail
  refine ja0 hS ?_
  rintro e w3 ⟨rfl,a8⟩
  subst w3
  clear hS
  go_wp2
  go_ret
  exact ⟨[],C,k,rfl,List.Perm.refl _,List.Pairwise.nil,⟨⟨oL rfl,fun x hx=>by cases hx⟩,L.out,by simp⟩,g.out⟩
 ·have a2:0<l.length:=List.length_pos_iff.2 h0
  obtain ⟨b,a6,a3,a5,_⟩:=j.at a2
  subst a3
  have h5:=ap _ rfl
  obtain rfl:a6=0:=h5.2.2.1
  have n:=Es cs w.heap.size W1 a4.out b k l w2 a0.out h5.1 h0 j (an _ rfl) a5 (fun x hx=>by
   have ah:=(hH.out.1.items.each x hx)
   refine ⟨ah.1.below g.out,ah.2.1,ah.2.2,fun a ha hr=> ?_⟩
   have h7:=ah.1.lt a ha hr
   have h8:W1.heap.size<=b:=h5.1
   have:=E.out.size
   omega) hH.out.2 (by omega)
  have hS:O _:=n
  have hk:=ja2 h5.1 F
  clear n f R hC j F ap an h5
  go_wp2_with fail
  refine ja0 hS ?_
  rintro e w3 ⟨rfl,⟨S,s1,s2,s3⟩,s4⟩
  have ao:=s1.length_eq
  have L:O (S.Perm l/\(S.map Itm.z).Pairwise (fun x y=>dW cs x.1 y.1<=0)/\Lv w3 (some ⟨b,0,none⟩) k S/\H w.heap.size w w3):=by
   refine ⟨s1,s2,⟨s3,cV.mk (fun h=>by cases h) (by rw[ao];exact hk.out.2),by unfold maxLen;omega⟩,g.out.trans (s4 w.heap.size ?_ g.out.size)⟩
   have:=E.out.size
   have:=hk.out.1
   omega
  have a1:=ja1 ao
  clear hS s1 s2 s3 s4 ao
  go_wp2
  go_ret
  exact ⟨S,_,k,by rw[a1.out];rfl,L.out⟩
end

def lh (x:Itm):List Z:=[I x.p x.r.length x.c]
theorem kB (x:Itm):(lh x).length=1:=rfl
theorem zp (x:Itm):∀u∈lh x,u.oneCell'=true:=by
 intro u f
 simp[lh] at f
 rw[f];rfl
theorem Tryz.infoW:(Tryz.prog.info? 77).map (fun i=>(i.zero,i.size,i.bytes))=some (some (I none 0 0),1,24):=by kernel_rfl
theorem mu (w:V) {ops:Array Oper} {f:List Oper} {o:Oper} {a:Act} {Q:Exit->Act->V->Prop} (n:o.guard=none) (s x:Operand)
  (R:o.op= .call { callee:= .builtin .append,args:= #[s,x],argTypes:= #[152,152] })
  (base:Nat) (v:Z) (l m:List Itm) (A:Option ic) (cap:Nat) (hs:a.eval s=v) (hx:a.eval x= I A m.length cap) (j:ae lh 1 77 w base v l) (hr:az lh 1 w A m) (E:A=none->cap=0)
  (r:l.length+m.length<=maxLen) (L:(l.length+m.length)*24<=140737488355328) (g:base<=w.heap.size)
  (h:∀k w',ae lh 1 77 w' base k (l++m)->w.grownBy w' v.ownBlock->wpList J ops Q f (a.put o.dst k) w'):wpList J ops Q (o::f) a w :=
 wpList_plain n fun _ F=>cU kB zp (by omega) 152 Tryz.underlying152 (I none 0 0) 24 Tryz.infoW rfl w s x R base v l m A cap hs hx j hr E r L g fun k w' u C=>F _ _ (h k w' u C)
theorem ae.keepN {α : Type} {enc: α -> List Z} {k:Nat} {e:TypeId} {w w':V} {base:Nat} {v:Z} {l:List α} {row:Option Nat} (h:ae enc k e w base v l) (g:w.grownBy w' row) (f:v.ownBlock=none\/v.ownBlock≠row):ae enc k e w' base v l:=World.ownsRow.kept h g f
theorem qP {α β : Type} {enc: α -> List Z} {n: β -> List Z} {k L:Nat} {e C:TypeId} {w:V} {base f:Nat} {v E:Z} {l:List α} {R:List β} (h:ae enc k e w base v l) (F:ae n L C w f E R) (u:e≠C):v.ownBlock=none\/v.ownBlock≠E.ownBlock:=by
 rcases h.2 with ⟨r,_⟩|⟨g,cap,cur,r,_,hg,_⟩
 ·exact oL (by rw[r];rfl)
 ·rcases F.2 with ⟨j,_⟩|⟨g',cap',cur',j,_,hg',_⟩
  ·refine oR ?_
   rw[r,j];intro k;cases k
  ·refine oR ?_
   rw[r,j]
   intro k
   have:g=g':=by simpa[Value.ownBlock] using k
   subst this
   rw[hg] at hg'
   simp at hg'
   exact u hg'.2
def Itm.v (x:Itm):Z:= I x.p x.r.length x.c
structure OwnR (w:V) (base:Nat) (v:Z) (L:List Itm):Prop where
 own:ae lh 1 77 w base v L
 each:∀x∈L,dr w base x.v x.r
theorem OwnR.nil (w:V) (base:Nat):OwnR w base (I none 0 0) []:=⟨ae.nil _ _ _ _ _,fun x f=>by cases f⟩
theorem OwnR.below {w w':V} {base:Nat} {v:Z} {L:List Itm} (h:OwnR w base v L) (q:H w.heap.size w w'):OwnR w' base v L:=⟨h.own.below q,fun x f=>(h.each x f).below q⟩
theorem OwnR.gr {w w':V} {base:Nat} {v:Z} {L:List Itm} (h:OwnR w base v L) (q:Gr w w'):OwnR w' base v L:=h.below q.below
theorem OwnR.more {w w':V} {base:Nat} {v j:Z} {L:List Itm} {x:Itm} (h:OwnR w base v L) (g:dr w base x.v x.r) (n:ae lh 1 77 w' base j (L++[x])) (f:w.grownBy w' v.ownBlock):OwnR w' base j (L++[x]):=by
 refine ⟨n,fun y u=> ?_⟩
 rcases List.mem_append.1 u with k|k
 ·exact (h.each y k).keepN f (qP (h.each y k) h.own (by decide))
 ·rw[List.mem_singleton.1 k]
  exact g.keepN f (qP g h.own (by decide))
theorem Cb {W:V} {n:Nat} (g:W.heap.size=n) (x:Itm) (T:TypeId):az lh 1 (W.alloc (X #[I x.p x.r.length x.c] T)) (some ⟨n,0,none⟩) [x]:=by
 subst g
 refine oR ⟨W.heap.size,0,rfl,by simp,fun j f i hi=> ?_⟩
 obtain rfl:j=0:=by simp at f;omega
 obtain rfl:i=0:=by omega
 exact aa (w:=W) (gR _) (j:=0) rfl
theorem yg {R:List (List Int)} {r:List Int} {n f:Nat}:R.take f++List.replicate (min n (f-(R.take f).length)) r=(R++List.replicate n r).take f:=by
 rw[List.take_append,List.length_take,List.take_replicate]
 congr 2
 omega
theorem wZ {l:List Itm} {k:Nat} (h:k<l.length):fg ((l.take (k+1)).map Itm.z)=fg ((l.take k).map Itm.z)++List.replicate (l[k].n.toNat) l[k].r:=by
 rw[List.take_succ_eq_append_getElem h,List.map_append,rM]
 congr 1
 show _++[]=_
 rw[List.append_nil]
 rfl
theorem BP (w:V) (x:Itm):ae aD 2 151 (w.alloc (X #[I x.p x.r.length x.c,P N x.n] 151)) w.heap.size (I (some ⟨w.heap.size,0,none⟩) 1 1) [x] :=
 ⟨rfl,.inr ⟨w.heap.size,1,_,rfl,nR _,heap_alloc_new w _,nR _,by unfold maxLen;omega,rfl,rfl⟩⟩
theorem qQ {w:V} {B:Nat} {x:Itm} (h:ae aD 2 151 w B (I (some ⟨B,0,none⟩) 1 1) [x]):w.cell? ⟨B,0,none⟩=some (I x.p x.r.length x.c):=by
 obtain ⟨A,cap,k,_,f,_⟩:=ae.full bz h
 injection k with h1 h2 h3
 subst h1
 obtain ⟨b,n,g,_,j⟩:=f.at (m:=0) (by simp)
 injection g with g
 injection g with h4 h5
 have:=j 0 (by simp) 0 (by omega)
 rw[<-h4,<-h5] at this
 simpa[aD] using this
structure FInv (w wr:V) (v:Z) (L:List Itm) (R:List (List Int)):Prop where
 own:OwnR wr w.heap.size v L
 rows:L.map Itm.r=R
 bel:H w.heap.size w wr

theorem oG (l:List Itm) (A:Option ic) (cap:Nat) (f:Nat) (w:V) (hl:l.length<=400) (h:Lv w A cap l) (hr:∀x∈l,x.r.length<=8) (hn:∀x∈l,0<=x.n/\x.n<=400) (hm:f<=400) :
  ib J 125 #[I A l.length cap,P N f] w fun e w'=>∃(v:Z) (L:List Itm),e= Y v/\OwnR w' w.heap.size v L/\L.map Itm.r=(fg (l.map Itm.z)).take f/\H w.heap.size w w':=by
 have hH:=ja3 h hr hn
 clear h hr hn
 go_enter Tryz.func125,Tryz.ntmps125
 go_wp2
 go_loopw [5,10] (fun v i wr=>∃(k:Nat) (L:List Itm),k<=l.length/\i= P N k/\O (FInv w wr v L ((fg ((l.take k).map Itm.z)).take f))) (fun _ i _=>l.length-(intOf i).toNat)
 case atStart=>exact ⟨0,[],nZ _,rfl,show FInv _ _ _ _ _ from ⟨OwnR.nil _ _,by simp[fg],bR _ _⟩⟩
 case round =>
  rename V=>E
  obtain ⟨k,L,hk,rfl,g⟩:=hrel
  by_cases ao:k<l.length
  ·have bo:(k:Int)<(l.length:Int):=by omega
   have hI:=ja1 (hH.out.1.below g.out.bel)
   obtain ⟨bb,b5,rfl,hb,bl⟩:=hI.out.items.at ao
   obtain ⟨x,hx⟩:∃x,l[k]=x:=⟨_,rfl⟩
   obtain ⟨e0,e1⟩:=bl k ao
   rw[hx] at e0 e1
   have a2:x∈l:=by rw[<-hx];exact gM ao
   have hX:=ja4 ((hI.out.items.each x a2).1) ((hI.out.items.each x a2).2.2) (hH.out.2.1 x a2) (hH.out.2.2 x a2)
   obtain ⟨v0,cv,b1,_⟩:=ae.full kB g.out.own.own
   have bt:L.length<=f:=by
    have:=congrArg List.length g.out.rows
    rw[List.length_map,List.length_take] at this
    omega
   obtain ⟨mm,bp⟩:∃mm:Nat,min x.n.toNat (f-L.length)=mm:=⟨_,rfl⟩
   have ap:O ((fg ((l.take k).map Itm.z)).take f++List.replicate mm x.r=(fg ((l.take (k+1)).map Itm.z)).take f):=by
    show _=_
    rw[wZ ao,hx,<-yg,<-bp,<-g.out.rows,List.length_map]
   have bN:min x.n ((f:Int)-(L.length:Int))=(mm:Int):=by
    have h1:=hX.out.2.2.2.1
    omega
   have b4:mm<=400:=by omega
   obtain ⟨WX,ah⟩:∃WX,(E.alloc (X #[I x.p x.r.length x.c,P N x.n] 151))=WX:=⟨_,rfl⟩
   have bc:O (Gr E WX):=by show Gr _ _;rw[<-ah];exact (gR _).alloc _
   have bC:O (E.heap.size<WX.heap.size):=by show _<_;rw[<-ah];simp
   have x0:WX.cell? ⟨E.heap.size,0,none⟩=some (I x.p x.r.length x.c):=by rw[<-ah];exact aa (w:=E) (gR _) rfl
   have x1:WX.cell? ⟨E.heap.size,1,none⟩=some (P N x.n):=by rw[<-ah];exact aa (w:=E) (gR _) rfl
   have bs:ae aD 2 151 WX E.heap.size (I (some ⟨E.heap.size,0,none⟩) 1 1) [x]:=by rw[<-ah];exact BP E x
   obtain ⟨R,a6⟩:∃R,(fg ((l.take k).map Itm.z)).take f=R:=⟨_,rfl⟩
   have a8:O (FInv w WX u5 L R/\ae aD 2 151 WX E.heap.size (I (some ⟨E.heap.size,0,none⟩) 1 1) [x]/\w.heap.size<=E.heap.size/\L.length<=400):=⟨⟨g.out.own.gr bc.out,by rw[<-a6];exact g.out.rows,g.out.bel.trans (bc.out.below.mono g.out.bel.size)⟩,bs,g.out.bel.size,by omega⟩
   rw[a6] at ap
   subst b1
   have a4:O (al w x.p x.r/\(x.p=none->x.c=0)/\x.r.length<=8):=⟨(hH.out.1.items.each x (by rw[<-hx];exact gM ao)).1,hX.out.2.1,hX.out.2.2.1⟩
   clear bl hx a2 bp g hI bs a6 hX
   go_wp2
   clear x0 x1 ah bc bC e0 e1 bN bt
   generalize E.heap.size=XB at *
   go_loopw [5,21] (fun v j wr=>∃(m:Nat) (M:List Itm),m<=mm/\j= P N m/\O (FInv w wr v M (R++List.replicate m x.r)/\ae aD 2 151 wr XB (I (some ⟨XB,0,none⟩) 1 1) [x]/\M.length<=400+m)) (fun _ j _=>mm-(intOf j).toNat)
   case atStart=>exact ⟨0,L,nZ _,rfl,by rw[List.replicate_zero,List.append_nil];exact a8.out.1,a8.out.2.1,a8.out.2.2.2⟩
   case round =>
    rename V=>be
    obtain ⟨m,M,b3,rfl,g⟩:=hrel
    by_cases b2:m<mm
    ·have bd:(m:Int)<(mm:Int):=by omega
     have x0:=qQ g.out.2.1
     have hap:O (al be x.p x.r/\(x.p=none->x.c=0)/\([]:List Int).length+x.r.length<=maxLen/\(([]:List Int).length+x.r.length)*8<=140737488355328/\w.heap.size<=be.heap.size):=⟨a4.out.1.below g.out.1.bel,a4.out.2.1,by have:=a4.out.2.2;unfold maxLen;simp;omega,by have:=a4.out.2.2;simp;omega,g.out.1.bel.size⟩
     obtain ⟨v1,bh,b0,_⟩:=ae.full kB g.out.1.own.own
     subst b0
     go_wp2_with (at_builtin;refine aJ _ rfl (.const (I none 0 0)) (.tmp 25) rfl w.heap.size (I none 0 0) [] x.r x.p x.c rfl rfl (ae.nil _ _ _ _ _) hap.out.1 hap.out.2.1 hap.out.2.2.1 hap.out.2.2.2.1 hap.out.2.2.2.2 ?_)
     intro v3 w3 F bn
     have a9:=cW bn
     obtain ⟨C,c3,rfl,_⟩:=ae.full bS F
     obtain ⟨W4,a7⟩:∃W4,(w3.alloc (X #[I C x.r.length c3] 77))=W4:=⟨_,rfl⟩
     have ba:Gr w3 W4:=by rw[<-a7];exact (gR _).alloc _
     have a1:az lh 1 W4 (some ⟨w3.heap.size,0,none⟩) [⟨C,c3,x.r,0⟩]:=by rw[<-a7];exact Cb rfl ⟨C,c3,x.r,0⟩ _
     have ad:=a9.trans (ba.below.mono a9.size)
     have a5:=g.out.1.bel.trans (ad.mono g.out.1.bel.size)
     have u:O (OwnR W4 w.heap.size (I v1 M.length bh) M/\az lh 1 W4 (some ⟨w3.heap.size,0,none⟩) [⟨C,c3,x.r,0⟩]/\dr W4 w.heap.size (I C x.r.length c3) x.r/\ae aD 2 151 W4 XB (I (some ⟨XB,0,none⟩) 1 1) [x]/\H w.heap.size w W4/\M.length+1<=maxLen/\(M.length+1)*24<=140737488355328):=⟨g.out.1.own.below ad,a1,F.gr ba,g.out.2.1.below ad,a5,by have:=g.out.2.2;unfold maxLen;omega,by have:=g.out.2.2;omega⟩
     clear F bn a9 ba a1 ad a5 hap x0
     go_wp2_with (at_builtin;refine mu _ rfl (.tmp 23) (.tmp 27) rfl w.heap.size (I v1 M.length bh) M [⟨C,c3,x.r,0⟩] (some ⟨w3.heap.size,0,none⟩) 1 rfl rfl u.out.1.own u.out.2.1 (fun h=>by cases h) u.out.2.2.2.2.2.1 u.out.2.2.2.2.2.2 u.out.2.2.2.2.1.size ?_)
     intro v5 w5 a0 a3
     have an:O (FInv w w5 v5 (M++[⟨C,c3,x.r,0⟩]) (R++List.replicate (m+1) x.r)/\ae aD 2 151 w5 XB (I (some ⟨XB,0,none⟩) 1 1) [x]/\(M++[(⟨C,c3,x.r,0⟩:Itm)]).length<=400+(m+1)):=by
      refine ⟨⟨u.out.1.more u.out.2.2.1 a0 a3,?_,u.out.2.2.2.2.1.trans (u.out.1.own.grown_below a3 u.out.2.2.2.2.1.size)⟩,u.out.2.2.2.1.keepN a3 (qP u.out.2.2.2.1 u.out.1.own (by decide)),by have:=g.out.2.2;simp;omega⟩
      rw[List.map_append,g.out.1.rows,List.replicate_succ',<-List.append_assoc]
      rfl
     clear a0 a3 a7 u
     go_wp2
     go_roundw
     case rel=>exact ⟨m+1,M++[⟨C,c3,x.r,0⟩],by omega,by go_num,an⟩
     case measure=>simp[intOf];omega
    ·have bd:¬(m:Int)<(mm:Int):=by omega
     obtain rfl:m=mm:=by omega
     have an:O (FInv w be u5 M ((fg ((l.take (k+1)).map Itm.z)).take f)):=by show FInv _ _ _ _ _;rw[<-ap.out];exact g.out.1
     clear g
     go_wp2
     go_roundw
     case rel=>exact ⟨k+1,M,by omega,by go_num,an⟩
     case measure=>simp[intOf];omega
  ·have bo:¬(k:Int)<(l.length:Int):=by omega
   have bG:l.take k=l:=List.take_of_length_le (by omega)
   rw[bG] at g
   go_wp2
   go_ret
   exact ⟨u5,rfl,L,g.out.own,g.out.rows,g.out.bel⟩

theorem lp {l:List Zit} (h:aq l=0):∀x∈l,x.1.length<=8:=fun x g=>by
 have f:=(bA (((aR l).1 h).2.1 x g)).1
 unfold okR at f
 simp only[Bool.and_eq_true,decide_eq_true_eq] at f
 omega
theorem ov {l:List Zit} (h:aq l=0):0<=jd l/\jd l<=8:=by
 unfold jd
 split
 ·omega
 ·cases l with
  | nil=>simp
  | cons x t =>
   have:=lp h x (mS ..)
   simp
   omega
theorem wn {l:List Zit} (h:ml l=0):aq l=0/\jW l=true:=by
 unfold ml at h
 by_cases f:aq l=0
 ·rw[if_pos f] at h
  by_cases g:jW l=true
  ·exact ⟨f,g⟩
  ·rw[if_neg g] at h;cases h
 ·rw[if_neg f] at h;exact absurd h f
theorem BW (l:List Zit) (j:List Int) (f:Int):ki l j f=if ml l=0 then (if (dO j (jd l) && inB f 0 400)=true then 0 else 1) else ml l:=by
 unfold ki ml
 by_cases g:aq l=0
 ·rw[if_pos g,if_pos g]
  by_cases h:jW l=true
  ·rw[if_pos h,if_pos h,if_pos rfl]
  ·rw[if_neg h,if_neg h];rfl
 ·rw[if_neg g,if_neg g,if_neg g]
structure Rws (w:V) (base:Nat) (v:Z) (R:List (List Int)):Prop where
 has:∃L:List Itm,OwnR w base v L/\L.map Itm.r=R
theorem Rws.below {w w':V} {base:Nat} {v:Z} {R:List (List Int)} (h:Rws w base v R) (q:H w.heap.size w w'):Rws w' base v R:=by
 obtain ⟨L,f,g⟩:=h.has
 exact ⟨L,f.below q,g⟩

theorem Au (l:List Itm) (A:Option ic) (cap:Nat) (F:List Int) (CA:Option ic) (cc:Nat) (f:Int) (w:V) (h:Lv w A cap l) (hc:al w CA F) (bo:F.length<=maxLen) :
  ib J 89 #[I A l.length cap,I CA F.length cc,P N f] w fun e w'=>∃v,e= Y (.tuple #[v,P N (ki (l.map Itm.z) F f)])/\Rws w' w.heap.size v (ig (l.map Itm.z) F f)/\H w.heap.size w w':=by
 obtain ⟨E,hE⟩:∃E,ki (l.map Itm.z) F f=E:=⟨_,rfl⟩
 obtain ⟨R,hR⟩:∃R,ig (l.map Itm.z) F f=R:=⟨_,rfl⟩
 obtain ⟨D,hD⟩:∃D,ml (l.map Itm.z)=D:=⟨_,rfl⟩
 have a7:=mK l A cap w h
 rw[hD] at a7
 rw[hE,hR]
 have hC:O _:=a7
 have bd:O (E=if D=0 then (if (dO F (jd (l.map Itm.z)) && inB f 0 400)=true then 0 else 1) else D):=by show _=_;rw[<-hE,BW,hD]
 have bh:O (R=if E=0 then (kO F (l.map Itm.z)).take f.toNat else []):=by show _=_;rw[<-hR,<-hE];rfl
 have hH:=ja4 h hc bo hD
 have ap:O (∀W,¬E=0->Rws W w.heap.size (I none 0 0) R):=fun W h0=>by
  rw[bh.out,if_neg h0]
  exact ⟨[],OwnR.nil _ _,rfl⟩
 clear a7 h hc bo hE hR hD
 go_enter Tryz.func89,Tryz.ntmps89
 go_wp2_with fail
 refine ja0 hC ?_
 rintro e w1 ⟨rfl,bp⟩
 have j:=ja1 bp
 clear hC bp
 by_cases ad:D=0
 rotate_left
 focus
  have bC:(D != 0)=true:=by simpa using ad
  have g:O (D=E/\¬E=0):=by
   have:E=D:=by rw[bd.out,if_neg ad]
   exact ⟨this.symm,by rw[this];exact ad⟩
  clear ad
  go_wp2
  go_ret2
  exact ⟨I none 0 0,by rw[g.out.1];rfl,ap.out _ g.out.2,j.out.below⟩
 obtain ⟨ez,fz⟩:=wn (hH.out.2.2.2.trans ad)
 have bC:(D != 0)=false:=by simpa using ad
 have hF:=ja2 ez fz
 have bs:l.length<=400:=by have:=((aR _).1 ez).1;simpa using this
 have bc:O (E=if (dO F (jd (l.map Itm.z)) && inB f 0 400)=true then 0 else 1):=by show _=_;rw[bd.out,if_pos ad]
 have bt:=ov ez
 have a3:=tj l A cap w1 hH.out.1.len (hH.out.1.gr j.out).items
 unfold Cq at a3
 have a2:=mE F CA cc (jd (l.map Itm.z)) w1 hH.out.2.2.1 ⟨bt.1,by omega⟩ (hH.out.2.1.gr j.out)
 obtain ⟨wd,a4⟩:∃wd,jd (l.map Itm.z)=wd:=⟨_,rfl⟩
 have b0:=ja1 a4
 rw[a4] at a3 a2
 obtain ⟨cb,a8⟩:∃cb,dO F wd=cb:=⟨_,rfl⟩
 rw[a8] at a2
 have ah:O (dO F (jd (l.map Itm.z))=cb):=by show _=_;rw[a4,a8]
 have hw:O _:=a3
 have hk:O _:=a2
 clear a3 a2 a4 a8 ez fz ad bt
 by_cases C:cb=true/\0<=f/\f<=400
 rotate_left
 focus
  have g:O (E=1/\¬E=0):=by
   have:E=1:=by
    rw[bc.out,if_neg]
    rw[ah.out]
    intro h
    simp only[inB,Bool.and_eq_true,decide_eq_true_eq] at h
    exact C h
   exact ⟨this,by rw[this];decide⟩
  cases cb
  ·clear C
   go_wp2_with (first|(go_at_call 124;refine ja0 hw ?_;rintro e w2 ⟨rfl,an⟩;subst w2)|(go_at_call 123;refine ja0 hk ?_;rintro e w2 ⟨rfl,an⟩;subst w2))
   go_ret2
   exact ⟨I none 0 0,by rw[g.out.1];rfl,ap.out _ g.out.2,j.out.below⟩
  ·have bG:f<0\/400<f:=by
    rcases Int.lt_or_le f 0 with k|k
    ·exact oL k
    ·exact oR (by
      have:¬f<=400:=fun h=>C ⟨rfl,k,h⟩
      omega)
   clear C
   rcases bG with k1|k1
   ·go_wp2_with (first|(go_at_call 124;refine ja0 hw ?_;rintro e w2 ⟨rfl,an⟩;subst w2)|(go_at_call 123;refine ja0 hk ?_;rintro e w2 ⟨rfl,an⟩;subst w2))
    go_ret2
    exact ⟨I none 0 0,by rw[g.out.1];rfl,ap.out _ g.out.2,j.out.below⟩
   ·have k2:¬f<0:=by omega
    have k3:decide (f<0)=false:=decide_eq_false k2
    go_wp2_with (first|(go_at_call 124;refine ja0 hw ?_;rintro e w2 ⟨rfl,an⟩;subst w2)|(go_at_call 123;refine ja0 hk ?_;rintro e w2 ⟨rfl,an⟩;subst w2))
    go_ret2
    exact ⟨I none 0 0,by rw[g.out.1];rfl,ap.out _ g.out.2,j.out.below⟩
 obtain ⟨rfl,m0,m1⟩:=C
 have bb:O (E=0):=by
  show _=_
  rw[bc.out,if_pos]
  rw[ah.out]
  simp only[inB,Bool.and_eq_true,decide_eq_true_eq]
  exact ⟨trivial,m0,m1⟩
 have a0:=Bg hF.out.2 ah.out
 have a5:F.length<=8:=by
  have:=ah.out
  unfold dO at this
  simp only[Bool.and_eq_true,decide_eq_true_eq] at this
  exact this.1
 have a6:∀n∈F,-1000<=n/\n<=1000:=fun n hn=>by
  have:=ah.out
  unfold dO at this
  rw[Bool.and_eq_true] at this
  have h1:=List.all_eq_true.1 this.2 n hn
  simp only[Bool.and_eq_true,decide_eq_true_eq] at h1
  have:=ov hF.out.1
  omega
 have be:=sG F CA cc w1 a5 a6 (hH.out.2.1.gr j.out)
 have hO:O _:=be
 have a1:O (∀x∈l,vX F x.r):=fun x hx n hn=>by
  have:=a0 n hn x.z (List.mem_map.2 ⟨x,hx,rfl⟩)
  exact ⟨this.1,this.2.2.2⟩
 obtain ⟨mn,bN⟩:∃mn:Nat,f=(mn:Int):=⟨f.toNat,by omega⟩
 subst bN
 clear be a0 a5 a6
 have k2:¬(mn:Int)<0:=by omega
 have k3:decide ((mn:Int)<0)=false:=decide_eq_false k2
 have k4:¬(400:Int)<(mn:Int):=by omega
 have k5:decide ((400:Int)<(mn:Int))=false:=decide_eq_false k4
 go_wp2_with (first|(go_at_call 124;refine ja0 hw ?_;rintro e w2 ⟨rfl,an⟩;subst w2)|(go_at_call 123;refine ja0 hk ?_;rintro e w2 ⟨rfl,an⟩;subst w2)|fail)
 refine ja0 hO ?_
 rintro e w3 ⟨u,rfl,o1,o2⟩
 have a9:=ja1 (j.out.trans o2)
 have bl:=s9 F u l A cap w3 bs (hH.out.1.gr a9.out) o1 a1.out
 have hS:O _:=bl
 clear bl hO o1 o2 hw hk
 go_wp2_with fail
 refine ja0 hS ?_
 rintro e w4 ⟨S,SA,sc,rfl,s1,s2,s3,s4⟩
 have ao:=ja1 (a9.out.below.trans (s4.mono a9.out.size))
 have bn:=oG S SA sc mn w4 (by rw[s1.length_eq];exact bs) s3 (fun x hx=>lp hF.out.1 x.z (List.mem_map.2 ⟨x,s1.mem_iff.1 hx,rfl⟩)) (fun x hx=>by
  have:=ng hF.out.2 x.z (List.mem_map.2 ⟨x,s1.mem_iff.1 hx,rfl⟩)
  exact ⟨this.1,this.2.1⟩) (by omega)
 have hT:O _:=bn
 have ba:O (fg (S.map Itm.z)=kO F (l.map Itm.z)):=At (s1.map _) s2
 clear bn hS s1 s2 s3 s4
 go_wp2_with fail
 refine ja0 hT ?_
 rintro e w5 ⟨v,L,rfl,t1,t2,t3⟩
 have g:O (Rws w5 w.heap.size v R/\H w.heap.size w w5):=by
  refine ⟨⟨L,⟨t1.own.mono ao.out.size,fun x hx=>(t1.each x hx).mono ao.out.size⟩,?_⟩,ao.out.trans (t3.mono ao.out.size)⟩
  rw[t2,ba.out,bh.out,if_pos bb.out]
  rfl
 clear hT t1 t2 t3
 go_wp2
 go_ret2
 exact ⟨v,by rw[bb.out];rfl,g.out⟩

structure RwR (w:V) (A:Option ic) (L:List Itm):Prop where
 row:az lh 1 w A L
 each:∀x∈L,al w x.p x.r/\x.r.length<=maxLen
theorem RwR.below {w w':V} {A:Option ic} {L:List Itm} (h:RwR w A L) (q:H w.heap.size w w'):RwR w' A L:=⟨h.row.below q,fun x f=>⟨(h.each x f).1.below q,(h.each x f).2⟩⟩
theorem RwR.gr {w w':V} {A:Option ic} {L:List Itm} (h:RwR w A L) (q:Gr w w'):RwR w' A L:=h.below q.below
theorem OwnR.read {w:V} {base:Nat} {v:Z} {L:List Itm} (h:OwnR w base v L):∃A cap,v= I A L.length cap/\cV A L.length cap/\RwR w A L:=by
 obtain ⟨A,cap,F,C,j,r,_⟩:=ae.full kB h.own
 refine ⟨A,cap,F,cV.mk C r,j,fun x R=> ?_⟩
 have n:=h.each x R
 obtain ⟨B,cb,k,h2,f,u,_⟩:=ae.full bS n
 unfold Itm.v at k
 injection k with e1 e2 e3
 subst e1
 refine ⟨f,?_⟩
 rcases n.2 with ⟨_,E⟩|⟨g,cap,cur,_,_,_,hle3,hcm,_⟩
 ·rw[E];exact nZ _
 ·exact nT hle3 hcm
theorem RwR.take {w:V} {A:Option ic} {L:List Itm} (h:RwR w A L) (n:Nat):RwR w A (L.take n):=by
 refine ⟨?_,fun x r=>h.each x (List.mem_of_mem_take r)⟩
 rcases h.row with k|⟨b,off,hA,hb,hc⟩
 ·rw[k];exact oL (by simp)
 ·refine oR ⟨b,off,hA,hb,fun j g i hi=> ?_⟩
  have f:j<L.length:=by rw[List.length_take] at g;omega
  rw[List.getElem_take]
  exact hc j f i hi
theorem RwR.at {w:V} {A:Option ic} {L:List Itm} (h:RwR w A L) {k:Nat} (g:k<L.length) {x:Itm} (C:L[k]=x):∃b f,A=some ⟨b,f,none⟩/\b<w.heap.size/\w.cell? ⟨b,f+k,none⟩=some (I x.p x.r.length x.c):=by
 obtain ⟨b,f,j,n,u⟩:=h.row.at g
 refine ⟨b,f,j,n,?_⟩
 have:=u k g 0 (by omega)
 rw[C] at this
 simpa[lh] using this

def dg (r:List Int):Nat->List UInt8
 | 0=>[]
 | k+1=>dg r k++((if k=0 then [] else [32])++Lib.itoa (r.getD k 0))
def d8 (R:List (List Int)):Nat->List UInt8
 | 0=>[]
 | k+1=>d8 R k++(dg (R.getD k []) (R.getD k []).length++[10])
theorem i8 {r:List Int} (h:∀n∈r,Small n):∀k,k<=r.length->(dg r k).length<=22*k
 | 0,_=>by simp[dg]
 | k+1,hk=>by
  have ih:=i8 h k (by omega)
  have e:r.getD k 0=r[k]:=by simp[List.getD_eq_getElem?_getD,List.getElem?_eq_getElem (show k<r.length by omega)]
  have hi:=dw (h r[k] (gM _))
  unfold dg
  rw[e,List.length_append,List.length_append]
  split<;>simp<;>omega
theorem ij {R:List (List Int)} (h:∀r∈R,r.length<=8/\∀n∈r,Small n):∀k,k<=R.length->(d8 R k).length<=200*k
 | 0,_=>by simp[d8]
 | k+1,hk=>by
  have ih:=ij h k (by omega)
  have e:R.getD k []=R[k]:=by simp[List.getD_eq_getElem?_getD,List.getElem?_eq_getElem (show k<R.length by omega)]
  have f:=h R[k] (gM _)
  have hi:=i8 f.2 R[k].length (nR _)
  unfold d8
  rw[e,List.length_append,List.length_append]
  simp
  omega
def pg (L:List Itm):Prop:=L.length<=400/\∀x∈L,x.r.length<=8/\∀n∈x.r,Small n
theorem BX {l:List Zit} {g:List Int} {f:Int} {r:List Int} (h:r∈ig l g f):∃x∈l,x.1=r:=by
 unfold ig at h
 split at h
 ·obtain ⟨x,j,e,_⟩:=su ((o6 g l).mem_iff.1 (List.mem_of_mem_take h))
  exact ⟨x,j,e⟩
 ·cases h
theorem BV {l:List Zit} {g:List Int} {f:Int} (h:¬ki l g f=0):ig l g f=[]:=if_neg h
theorem pZ {l:List Zit} {g:List Int} {f:Int} {L:List Itm} (h:L.map Itm.r=ig l g f):pg L:=by
 by_cases j:ki l g f=0
 ·obtain ⟨E,p2,p3,p4⟩:=uz j
  simp only[inB,Bool.and_eq_true,decide_eq_true_eq] at p4
  have F:ig l g f=(kO g l).take f.toNat:=by unfold ig;rw[if_pos j]
  refine ⟨?_,fun x k=> ?_⟩
  ·have:=congrArg List.length h
   rw[List.length_map,F,List.length_take] at this
   omega
  ·have hm:x.r∈ig l g f:=by rw[<-h];exact List.mem_map.2 ⟨x,k,rfl⟩
   obtain ⟨z,C,e⟩:=BX hm
   have R:=lp E z C
   have u:=(bA (((aR l).1 E).2.1 z C)).1
   rw[<-e]
   refine ⟨R,fun n hn=> ?_⟩
   simp only[okR,Bool.and_eq_true,decide_eq_true_eq] at u
   have:=List.all_eq_true.1 u.2 n hn
   simp only[okN,inB,Bool.and_eq_true,decide_eq_true_eq] at this
   exact ⟨by omega,by omega⟩
 ·rw[BV j] at h
  obtain rfl:=List.map_eq_nil_iff.1 h
  exact ⟨by simp,fun x k=>by cases k⟩
theorem pg.rows {L:List Itm} (h:pg L):∀r∈L.map Itm.r,r.length<=8/\∀n∈r,Small n:=fun r f=>by
 obtain ⟨x,g,rfl⟩:=List.mem_map.1 f
 exact h.2 x g

theorem uy (L:List Itm) (A:Option ic) (ca:Nat) (w:V) (hs:pg L) (hr:RwR w A L) (ht:dK w) :
  ib J 90 #[I A L.length ca] w fun e w'=>e= Y (ia ⟨(d8 (L.map Itm.r) L.length).toArray⟩)/\H w.heap.size w w':=by
 have hH:=ja3 hr ht hs
 have bo:=hs.1
 clear hr ht hs
 go_enter Tryz.func90,Tryz.ntmps90
 go_wp2
 go_loopw [10] (fun i wr=>∃j:Nat,j<=L.length/\i= P N j/\O (Lib.IsBuilder 38 5 w.heap.size w.heap.size (Lib.byteCells (d8 (L.map Itm.r) j)) wr/\H w.heap.size w wr)) (fun i _=>L.length-(intOf i).toNat)
 case atStart=>exact ⟨0,nZ _,rfl,oL ⟨nR _,I none 0 0,heap_alloc_new w _,World.ownsRow_nil _ _ _ _,by simp[Value.ownBlock]⟩,((gR _).alloc _).below⟩
 case round =>
  rename V=>bh
  obtain ⟨j,hj,rfl,C⟩:=hrel
  by_cases a2:j<L.length
  ·have bc:(j:Int)<(L.length:Int):=by omega
   obtain ⟨x,hx⟩:∃x,L[j]=x:=⟨_,rfl⟩
   have hI:=ja1 (hH.out.1.below C.out.2)
   obtain ⟨b,bt,rfl,hb,e0⟩:=hI.out.at a2 hx
   have ao:x∈L:=by rw[<-hx];exact gM a2
   have hX:=ja3 ((hH.out.1.each x ao).1) ((hH.out.2.2.2 x ao).1) ((hH.out.2.2.2 x ao).2)
   have ad:O (d8 (L.map Itm.r) (j+1)=d8 (L.map Itm.r) j++(dg x.r x.r.length++[10])):=by
    show _=_
    have e:(L.map Itm.r).getD j []=x.r:=by rw[List.getD_eq_getElem?_getD,List.getElem?_map,List.getElem?_eq_getElem a2,hx];rfl
    show d8 _ j++(dg ((L.map Itm.r).getD j []) ((L.map Itm.r).getD j []).length++[10])=_
    rw[e]
   obtain ⟨bC,hT⟩:∃bC,d8 (L.map Itm.r) j=bC:=⟨_,rfl⟩
   have a5:O (bC.length<=200*j):=by show _<=_;rw[<-hT];exact ij hH.out.2.2.rows j (by simp;omega)
   have bs:=hX.out.2.1
   rw[hT] at ad C
   clear hx ao hT hI
   go_wp2
   go_loopw [16] (fun i wr=>∃k:Nat,k<=x.r.length/\i= P N k/\O (Lib.IsBuilder 38 5 w.heap.size w.heap.size (Lib.byteCells (bC++dg x.r k)) wr/\H w.heap.size w wr)) (fun i _=>x.r.length-(intOf i).toNat)
   case atStart=>exact ⟨0,nZ _,rfl,by show Lib.IsBuilder _ _ _ _ (Lib.byteCells (bC++[])) _;rw[List.append_nil];exact C.out.1,C.out.2⟩
   case round =>
    rename V=>an
    obtain ⟨k,hk,rfl,f⟩:=hrel
    by_cases R:k<x.r.length
    ·have a3:(k:Int)<(x.r.length:Int):=by omega
     obtain ⟨rb,ro,hp,bp,a8⟩:=(hX.out.1.below f.out.2).at R
     obtain ⟨n,hn⟩:∃n,x.r[k]=n:=⟨_,rfl⟩
     have c0:=a8 k R 0 (by omega)
     rw[hn] at c0
     have c1:an.cell? ⟨rb,ro+k,none⟩=some (P N n):=by simpa[df] using c0
     have be:O (Small n):=hX.out.2.2 n (by rw[<-hn];exact gM _)
     have bd:O (dg x.r (k+1)=dg x.r k++((if k=0 then [] else [32])++Lib.itoa n)):=by
      show _=_
      have e:x.r.getD k 0=n:=by rw[List.getD_eq_getElem?_getD,List.getElem?_eq_getElem R,hn];rfl
      show dg _ k++((if k=0 then [] else [32])++Lib.itoa (x.r.getD k 0))=_
      rw[e]
     obtain ⟨U,hU⟩:∃U,bC++dg x.r k=U:=⟨_,rfl⟩
     have ap:O (U.length<=200*j+22*k):=by
      show _<=_
      rw[<-hU,List.length_append]
      have:=a5.out
      have:=i8 hX.out.2.2 k hk
      omega
     have a6:=ja1 hU
     rw[hU] at f
     rw[hp]
     clear a8 c0 hn hU
     have ba:O (∀W,H w.heap.size w W->ib J 22 #[P N n] W fun e w'=>e= Y (ia ⟨(Lib.itoa n).toArray⟩)/\Gr W w'):=fun W h=>gu be.out (hH.out.2.1.below h)
     have a9:=ja1 (dw be.out)
     by_cases bb:k=0
     ·subst bb
      have c2:an.cell? ⟨rb,ro,none⟩=some (P N n):=by simpa using c1
      have ah:O (bC++dg x.r 1=U++Lib.itoa n):=by show _=_;rw[bd.out,<-a6.out,if_pos rfl,List.append_assoc];rfl
      go_wp2_with fail
      refine cM (ba.out an f.out.2) ?_
      rintro e w2 ⟨rfl,a0⟩
      have u:=ja1 (f.out.2.trans (a0.below.mono f.out.2.size))
      have E:=fk w.heap.size w.heap.size U (Lib.itoa n) w2 (eX f.out.1 a0.below) (by have:=ap.out;have:=a9.out;omega) u.out.size
      have hW:O _:=E
      clear E a0
      go_wp2_with fail
      refine ja0 hW ?_
      rintro e w3 ⟨rfl,h1,h2⟩
      have g:O (Lib.IsBuilder 38 5 w.heap.size w.heap.size (Lib.byteCells (bC++dg x.r 1)) w3/\H w.heap.size w w3):=⟨by rw[ah.out];exact h1,u.out.trans h2⟩
      clear hW h1 h2
      go_wp2
      go_roundw
      case rel=>exact ⟨1,by omega,by go_num,g⟩
      case measure=>simp[intOf];omega
     ·have bn:(0:Int)<(k:Int):=by omega
      have bl:0<k:=by omega
      have ah:O (bC++dg x.r (k+1)=(U++[32])++Lib.itoa n):=by show _=_;rw[bd.out,<-a6.out,if_neg bb];simp
      have F:=gf w.heap.size w.heap.size U 32 an f.out.1 (by have:=ap.out;omega) f.out.2.size
      have hY:O _:=F
      clear F
      go_wp2_with fail
      refine ja0 hY ?_
      rintro e w2 ⟨rfl,g1,g2⟩
      have u:=ja2 g1 (f.out.2.trans g2)
      clear hY g1 g2
      go_wp2_with fail
      refine cM (ba.out w2 u.out.2) ?_
      rintro e w3 ⟨rfl,a1⟩
      have a7:=ja1 (u.out.2.trans (a1.below.mono u.out.2.size))
      have E:=fk w.heap.size w.heap.size (U++[32]) (Lib.itoa n) w3 (eX u.out.1 a1.below) (by have:=ap.out;have:=a9.out;simp;omega) a7.out.size
      have hW:O _:=E
      clear E a1
      go_wp2_with fail
      refine ja0 hW ?_
      rintro e w4 ⟨rfl,h1,h2⟩
      have g:O (Lib.IsBuilder 38 5 w.heap.size w.heap.size (Lib.byteCells (bC++dg x.r (k+1))) w4/\H w.heap.size w w4):=⟨by rw[ah.out];exact h1,a7.out.trans h2⟩
      clear hW h1 h2
      go_wp2
      go_roundw
      case rel=>exact ⟨k+1,by omega,by go_num,g⟩
      case measure=>simp[intOf];omega
    ·have a3:¬(k:Int)<(x.r.length:Int):=by omega
     obtain rfl:k=x.r.length:=by omega
     have F:=gf w.heap.size w.heap.size (bC++dg x.r x.r.length) 10 an f.out.1 (by have:=a5.out;have:=i8 hX.out.2.2 x.r.length (nR _);rw[List.length_append];omega) f.out.2.size
     have hY:O _:=F
     clear F
     go_wp2_with fail
     refine ja0 hY ?_
     rintro e w2 ⟨rfl,g1,g2⟩
     have g:O (Lib.IsBuilder 38 5 w.heap.size w.heap.size (Lib.byteCells (d8 (L.map Itm.r) (j+1))) w2/\H w.heap.size w w2):=⟨by rw[ad.out,<-List.append_assoc];exact g1,f.out.2.trans g2⟩
     clear hY g1 g2
     go_wp2
     go_roundw
     case rel=>exact ⟨j+1,by omega,by go_num,g⟩
     case measure=>simp[intOf];omega
  ·have bc:¬(j:Int)<(L.length:Int):=by omega
   obtain rfl:j=L.length:=by omega
   have a4:=j8 w.heap.size w.heap.size (d8 (L.map Itm.r) L.length) bh C.out.1 C.out.2.size
   have hS:O _:=a4
   clear a4
   go_wp2_with fail
   refine ja0 hS ?_
   rintro e w2 ⟨rfl,h2⟩
   have g:=ja1 (C.out.2.trans h2)
   clear hS h2
   go_wp2
   go_ret
   exact ⟨rfl,g.out⟩

def fr (y p:List UInt8):Bool:=decide (p.length<=y.length) && (y.take p.length==p)
theorem D4 (x:List UInt8) (n:Nat):(ByteArray.mk x.toArray).extract 0 n=⟨(x.take n).toArray⟩:=by
 apply ByteArray.ext
 rw[ByteArray.data_extract]
 simp
theorem xh (y p:List UInt8) (w:V):ib J 18 #[ia ⟨y.toArray⟩,ia ⟨p.toArray⟩] w fun e w'=>e= Y (.bool (fr y p))/\w'=w:=by
 obtain ⟨r,g⟩:∃r,fr y p=r:=⟨_,rfl⟩
 have f:=ja1 g
 rw[g]
 clear g
 by_cases h:p.length<=y.length
 ·have k:(p.length:Int)<=(y.length:Int):=by omega
  have hcut:=D4 y p.length
  have n:(y.take p.length==p)=r:=by
   rw[<-f.out]
   unfold fr
   simp[h]
  go_enter Tryz.func18,Tryz.ntmps18
  go_wp2
  go_ret
  exact ⟨rfl,rfl⟩
 ·have k:¬(p.length:Int)<=(y.length:Int):=by omega
  have j:O (r=false):=by
   show _=_
   rw[<-f.out]
   unfold fr
   simp[h]
  go_enter Tryz.func18,Tryz.ntmps18
  go_wp2
  go_ret
  exact ⟨by rw[j.out];rfl,rfl⟩
theorem gW (y p:List UInt8) (w:V):ib J 7 #[ia ⟨y.toArray⟩,ia ⟨p.toArray⟩] w fun e w'=>e= Y (.bool (fr y p))/\Gr w w':=by
 have g:=xh y p w
 have f:O _:=g
 clear g
 go_enter Tryz.func7,Tryz.ntmps7
 go_wp2_with fail
 refine ja0 f ?_
 rintro e w1 ⟨rfl,h⟩
 subst w1
 go_wp2
 go_ret
 exact ⟨rfl,gR _⟩

theorem fH (c:UInt8):∀l:List UInt8,ac c (l++[c])=ac c l++[[]]
 | []=>by simp[ac]
 | a::l=>by
  have ih:=fH c l
  rw[List.cons_append]
  by_cases h:a=c
  ·subst h
   simp only[ac] at ih ⊢
   rw[ih];rfl
  ·simp only[ac,if_neg h] at ih ⊢
   rw[ih]
   cases e:ac c l with
   | nil=>exact absurd e (cF c l)
   | cons y t=>rfl
theorem j6 {c d:UInt8} (h:d≠c):∀l:List UInt8,∃L y,ac c l=L++[y]/\ac c (l++[d])=L++[y++[d]]
 | []=>⟨[],[],by simp[ac],by simp[ac,h]⟩
 | a::l=>by
  obtain ⟨L,y,f,g⟩:=j6 h l
  rw[List.cons_append]
  by_cases k:a=c
  ·subst k
   refine ⟨[]::L,y,?_,?_⟩
   ·simp only[ac];rw[f];rfl
   ·simp only[ac];rw[g];rfl
  ·simp only[ac,if_neg k]
   rw[f,g]
   cases L with
   | nil=>exact ⟨[],a::y,rfl,rfl⟩
   | cons z t=>exact ⟨(a::z)::t,y,rfl,rfl⟩
theorem e7 {c:UInt8}:∀ {l:List UInt8} {y:List UInt8},y∈ac c l->y.length<=l.length
 | [],y,h=>by simp[ac] at h;rw[h];simp
 | a::l,y,h=>by
  by_cases k:a=c
  ·subst k
   simp only[ac] at h
   rcases List.mem_cons.1 h with e|e
   ·rw[e];simp
   ·have:=e7 e;simp;omega
  ·simp only[ac,if_neg k] at h
   cases e:ac c l with
   | nil=>exact absurd e (cF c l)
   | cons z t =>
    rw[e] at h
    rcases List.mem_cons.1 h with e2|e2
    ·have:=e7 (l:=l) (y:=z) (c:=c) (by rw[e];simp)
     rw[e2];simp;omega
    ·have:=e7 (l:=l) (y:=y) (c:=c) (by rw[e];exact mC _ e2)
     simp;omega
theorem l6 {x y:List UInt8} {a b c:ByteArray} (j:c=⟨(x++y).toArray⟩) (f:a=⟨x.toArray⟩) (g:b=⟨y.toArray⟩) (h:x.length+y.length<=9000000000000000000):∀w,(Op.stringOp .add a b).run J w= .ok (ia c) w:=fun w=>by
 subst j f g
 rw[run_string_add_sum w _ _ (by simp[ByteArray.size];omega),ByteArray.mk_append_mk]
theorem Bv {x:List UInt8} {k:Nat} (h:k<x.length):(x.drop k).take 1=[x[k]]:=by
 rw[List.drop_eq_getElem_cons h]
 rfl
theorem Ct (L:List (List UInt8)):aL g9 L=L.map fun x=>Value.string ⟨x.toArray⟩:=by
 induction L with
 | nil=>rfl
 | cons x t ih =>
  show g9 x++aL g9 t=_
  rw[ih]
  rfl
theorem xG {w:V} {base g cap:Nat} {L:List (List UInt8)} {y z:List UInt8} (h:eJ w base (I (some ⟨g,0,none⟩) (L.length+1) cap) (L++[y])):eJ (w.setCell ⟨g,L.length,none⟩ (ia ⟨z.toArray⟩)) base (I (some ⟨g,0,none⟩) (L.length+1) cap) (L++[z]):=by
 refine ⟨aW du _,?_⟩
 rcases h.2 with ⟨n,_⟩|⟨g',cap',cur,n,hb,hg,hl,hm,hs,ht⟩
 ·cases n
 ·injection n with h1 h2 h3
  injection h1 with h1
  injection h1 with h1
  subst h1 h3
  have k:g<w.heap.size:=(Array.getElem?_eq_some_iff.1 hg).1
  have r:w.heap[g]= X cur 9 (0,0):=by simpa[Array.getElem?_eq_getElem k] using hg
  refine .inr ⟨g,cap,cur.setIfInBounds L.length (ia ⟨z.toArray⟩),by simp,hb,?_,by simpa using hl,hm,by simpa using hs,?_⟩
  ·show (w.heap.modify g _)[g]? = _
   rw[Array.getElem?_eq_getElem (by simpa using k),Array.getElem_modify_self,r]
   rfl
  ·rw[Ct] at ht ⊢
   have j:(L++[z]).length*1=L.length+1:=by simp
   have f:(L++[y]).length*1=L.length+1:=by simp
   rw[j]
   rw[f] at ht
   rw[Array.toList_setIfInBounds,List.take_set,ht,List.map_append,List.map_append]
   rw[show L.length=(L.map fun x=>Value.string ⟨x.toArray⟩).length by simp,List.set_append_right _ _ (Nat.le_refl _)]
   simp
theorem xF {w:V} {base g cap:Nat} {L:List (List UInt8)} {y:List UInt8} (h:eJ w base (I (some ⟨g,0,none⟩) (L.length+1) cap) (L++[y])):w.cell? ⟨g,L.length,none⟩=some (ia ⟨y.toArray⟩)/\w.frozen? ⟨g,L.length,none⟩=false:=by
 have k:=h.cells (g:=g) rfl
 refine ⟨?_,?_⟩
 ·have:=k L.length (ia ⟨y.toArray⟩) (by rw[Ct];simp)
  rw[Addr.add_lit] at this
  simpa using this
 ·have e:(L++[y]).length=L.length+1:=by simp
  have j:w.ownsRow base 9 1 (I (some ⟨g,0,none⟩) (L++[y]).length cap) (L++[y]).length (aL g9 (L++[y])):=by
   have f:w.ownsRow base 9 1 (I (some ⟨g,0,none⟩) (L.length+1) cap) (L++[y]).length (aL g9 (L++[y])):=h
   rw[<-e] at f
   exact f
  exact World.ownsRow.frozenAt j (g:=g) (cap:=cap) L.length

theorem nS (x:List UInt8) (c:UInt8) (w:V) (hx:x.length<=70000) :
  ib J 17 #[ia ⟨x.toArray⟩,P .u8 c.toNat] w fun e w'=>∃v,e= Y v/\eJ w' w.heap.size v (ac c x)/\H w.heap.size w w':=by
 have bc:Tryz.prog.follows .mixedOrders=true:=by kernel_rfl
 go_enter Tryz.func17,Tryz.ntmps17
 go_wp2
 go_loopw [5,6] (fun v i wr=>∃k:Nat,k<=x.length/\i= P N k/\O (eJ wr w.heap.size v (ac c (x.take k))/\(ac c (x.take k)).length<=k+1/\H w.heap.size w wr)) (fun _ i _=>x.length-(intOf i).toNat)
 case atStart =>
  refine ⟨0,nZ _,rfl,?_,by simp[ac],((gR _).alloc _).below⟩
  exact ⟨rfl,.inr ⟨w.heap.size,1,_,rfl,nR _,heap_alloc_new w _,nR _,by unfold maxLen;omega,rfl,rfl⟩⟩
 case round =>
  rename V=>f
  obtain ⟨k,hk,rfl,j⟩:=hrel
  by_cases a5:k<x.length
  ·have a6:(k:Int)<(x.length:Int):=by omega
   obtain ⟨d,hd⟩:∃d,x[k]=d:=⟨_,rfl⟩
   have F:O (x.take (k+1)=x.take k++[d]):=by show _=_;rw[List.take_succ_eq_append_getElem a5,hd]
   have bl:((⟨x.toArray⟩:ByteArray)[k]'(by simp[ByteArray.size];omega))=d:=by rw[<-hd];rfl
   by_cases ao:d=c
   ·subst ao
    obtain ⟨A,cap,R,_⟩:=ae.full du j.out.1
    subst R
    obtain ⟨W2,an⟩:∃W,(f.alloc (X #[ia ⟨([]:List UInt8).toArray⟩] 9))=W:=⟨_,rfl⟩
    have a0:Gr f W2:=by rw[<-an];exact (gR _).alloc _
    have u:cw W2 (some ⟨f.heap.size,0,none⟩) [[]]:=by rw[<-an];exact my rfl [] _
    have E:O (eJ W2 w.heap.size (I A (ac d (x.take k)).length cap) (ac d (x.take k))/\cw W2 (some ⟨f.heap.size,0,none⟩) [[]]/\(ac d (x.take k)).length+1<=maxLen/\((ac d (x.take k)).length+1)*16<=140737488355328/\H w.heap.size w W2/\(ac d (x.take k)).length<=k+1):=⟨j.out.1.gr a0,u,by have:=j.out.2.1;unfold maxLen;omega,by have:=j.out.2.1;omega,j.out.2.2.trans (a0.below.mono j.out.2.2.size),j.out.2.1⟩
    clear a0 u j
    go_wp2_with (at_builtin;refine fj _ rfl (.tmp 19) (.tmp 20) rfl w.heap.size (I A (ac d (x.take k)).length cap) (ac d (x.take k)) [[]] (some ⟨f.heap.size,0,none⟩) 1 rfl rfl E.out.1 E.out.2.1 (fun h=>by cases h) E.out.2.2.1 E.out.2.2.2.1 E.out.2.2.2.2.1.size ?_)
    intro v3 w3 r a4
    clear an
    have n:O (eJ w3 w.heap.size v3 (ac d (x.take (k+1)))/\(ac d (x.take (k+1))).length<=k+1+1/\H w.heap.size w w3):=by
     refine ⟨by rw[F.out,fH];exact r,by rw[F.out,fH];have:=E.out.2.2.2.2.2;simp;omega,E.out.2.2.2.2.1.trans (E.out.1.grown_below a4 E.out.2.2.2.2.1.size)⟩
    clear r a4
    go_wp2
    go_roundw
    case rel=>exact ⟨k+1,by omega,by go_num,n⟩
    case measure=>simp[intOf];omega
   ·have bn:((d.toNat:Int)==(c.toNat:Int))=false:=by
     have:¬(d.toNat:Int)=(c.toNat:Int):=fun e=>ao (UInt8.toNat_inj.1 (by omega))
     simpa using this
    obtain ⟨L,y,s1,s2⟩:=j6 ao (x.take k)
    have C:=j.out.1
    rw[s1] at C
    have be:L.length+1<=k+1:=by have:=j.out.2.1;rw[s1] at this;simpa using this
    have bb:y.length<=70000:=by
     have h1:Lib.join (ac c (x.take k)) [c]=x.take k:=lZ c _
     have h2:y∈ac c (x.take k):=by rw[s1];simp
     exact nT (e7 h2) (by rw[List.length_take];omega)
    obtain ⟨A,cap,R,a7,ad,_,ap,_⟩:=ae.full du C
    obtain ⟨g,bd,a8,_,_⟩:=ad.at (m:=0) (by simp)
    subst a8
    obtain rfl:bd=0:=(ap _ rfl).2.2.1
    have e1:(L++[y]).length=L.length+1:=by simp
    rw[e1] at R
    subst R
    have ah:eJ f w.heap.size (I (some ⟨g,0,none⟩) (L.length+1) cap) (L++[y]):=C
    obtain ⟨c0,z0⟩:=xF ah
    obtain ⟨yb,a1⟩:∃b:ByteArray,b=⟨y.toArray⟩:=⟨_,rfl⟩
    obtain ⟨zb,a2⟩:∃b:ByteArray,b=⟨(y++[d]).toArray⟩:=⟨_,rfl⟩
    rw[<-a1] at c0
    have bo:(⟨x.toArray⟩:ByteArray).extract k (k+1)=⟨#[d]⟩:=by
     rw[<-hd]
     apply ByteArray.ext
     simp[ByteArray.data_extract]
     exact Bv a5
    have ha:=l6 a2 a1 (rfl:(⟨#[d]⟩:ByteArray)=⟨([d]:List UInt8).toArray⟩) (by simp;omega)
    have n:O (eJ (f.setCell ⟨g,L.length,none⟩ (ia zb)).drew w.heap.size (I (some ⟨g,0,none⟩) (L.length+1) cap) (ac c (x.take (k+1)))/\(ac c (x.take (k+1))).length<=k+1+1/\H w.heap.size w (f.setCell ⟨g,L.length,none⟩ (ia zb)).drew):=by
     have h1:=xG (z:=y++[d]) ah
     rw[<-a2] at h1
     have a9:=(ap _ rfl).1
     refine ⟨by rw[F.out,s2];exact h1.gr (gR _).drew,by rw[F.out,s2];simp;omega,?_⟩
     have a3:H w.heap.size w (f.setCell ⟨g,L.length,none⟩ (ia zb)):=j.out.2.2.setCell (p:=⟨g,L.length,none⟩) a9 _
     exact a3.trans ((gR _).drew.below.mono a3.size)
    have bh:L.length+1<=70000+1:=by omega
    clear j C ah ad ap a7 a1 a2 s1 s2 bb hd e1
    go_wp2_with fail
    go_region
    all_goals
     go_wp2
     go_roundw
     case rel=>exact ⟨k+1,by omega,by go_num,n⟩
     case measure=>simp[intOf];omega
  ·have a6:¬(k:Int)<(x.length:Int):=by omega
   have ba:x.take k=x:=List.take_of_length_le (by omega)
   rw[ba] at j
   go_wp2
   go_ret
   exact ⟨_,rfl,j.out.1,j.out.2.2⟩
end Go.Proofs.YtjmmpnmgpgaagaaGreatDoor

namespace Go.Proofs
open Go.Shelf
def Tryz.delD_ren:Go.Shelf.Ren:=⟨fun|10=>30|6=>45|n=>n,fun|22=>23|23=>9|25=>27|3=>3|4=>4|0=>0|n=>n,fun|n=>n⟩
theorem Tryz.delD:Go.Proofs.SlLaysH.n10 J Tryz.delD_ren:={
 mixed:=by kernel_rfl
 f6:=⟨Tryz.f45.name,by decide,Tryz.func45.trans (congrArg some (by kernel_rfl))⟩
 f10:=⟨Tryz.f30.name,by decide,Tryz.func30.trans (congrArg some (by kernel_rfl))⟩
 t0:=Tryz.underlying0
 a0:=Tryz.isAgg0
 z0:=Tryz.sizeOf0
 v0:=Tryz.zeroValue0
 t3:=Tryz.underlying3
 a3:=Tryz.isAgg3
 z3:=Tryz.sizeOf3
 v3:=Tryz.zeroValue3
 t4:=Tryz.underlying4
 a4:=Tryz.isAgg4
 z4:=Tryz.sizeOf4
 v4:=Tryz.zeroValue4
 t22:=Tryz.underlying23
 a22:=Tryz.isAgg23
 z22:=Tryz.sizeOf23
 v22:=Tryz.zeroValue23
 a23:=Tryz.isAgg9
 z23:=Tryz.sizeOf9
 t25:=Tryz.underlying27
 a25:=Tryz.isAgg27
 z25:=Tryz.sizeOf27
 v25:=Tryz.zeroValue27 }
def Tryz.lays138_ren:Go.Shelf.Ren:=⟨fun|138=>9|195=>19|218=>20|143=>21|219=>32|217=>46|225=>47|224=>48|267=>49|266=>67|314=>68|n=>n,fun|9=>9|3=>3|4=>4|5=>5|0=>0|46=>101|146=>122|51=>121|n=>n,fun|1=>0|n=>n⟩
theorem Tryz.lays138:Go.Proofs.Lays.n138 J Tryz.lays138_ren:={
 mixed:=by kernel_rfl
 f138:=Tryz.func9.trans (congrArg some (by kernel_rfl))
 f143:=Tryz.func21.trans (congrArg some (by kernel_rfl))
 f195:=Tryz.func19.trans (congrArg some (by kernel_rfl))
 f217:=Tryz.func46.trans (congrArg some (by kernel_rfl))
 f218:=Tryz.func20.trans (congrArg some (by kernel_rfl))
 f219:=Tryz.func32.trans (congrArg some (by kernel_rfl))
 f224:=Tryz.func48.trans (congrArg some (by kernel_rfl))
 f225:=Tryz.func47.trans (congrArg some (by kernel_rfl))
 f266:=Tryz.func67.trans (congrArg some (by kernel_rfl))
 f267:=Tryz.func49.trans (congrArg some (by kernel_rfl))
 f314:=Tryz.func68.trans (congrArg some (by kernel_rfl))
 t0:=Tryz.underlying0
 a0:=Tryz.isAgg0
 z0:=Tryz.sizeOf0
 v0:=Tryz.zeroValue0
 t3:=Tryz.underlying3
 a3:=Tryz.isAgg3
 z3:=Tryz.sizeOf3
 v3:=Tryz.zeroValue3
 t4:=Tryz.underlying4
 a4:=Tryz.isAgg4
 z4:=Tryz.sizeOf4
 v4:=Tryz.zeroValue4
 t5:=Tryz.underlying5
 a5:=Tryz.isAgg5
 z5:=Tryz.sizeOf5
 v5:=Tryz.zeroValue5
 t9:=Tryz.underlying9
 a9:=Tryz.isAgg9
 z9:=Tryz.sizeOf9
 v9:=Tryz.zeroValue9
 t46:=Tryz.underlying101
 a46:=Tryz.isAgg101
 z46:=Tryz.sizeOf101
 v46:=Tryz.zeroValue101
 t51:=Tryz.underlying121
 a51:=Tryz.isAgg121
 z51:=Tryz.sizeOf121
 v51:=Tryz.zeroValue121
 t146:=Tryz.underlying122
 a146:=Tryz.isAgg122
 z146:=Tryz.sizeOf122
 v146:=Tryz.zeroValue122
 g1:=by kernel_rfl }
end Go.Proofs
