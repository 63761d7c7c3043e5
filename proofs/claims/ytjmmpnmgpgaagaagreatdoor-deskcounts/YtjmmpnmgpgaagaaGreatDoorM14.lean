import Derived.Test.YtjmmpnmgpgaagaaGreatDoorM13
set_option maxRecDepth 100000
set_option maxHeartbeats 8000000
open Go renaming Addr → S, World → O, Value → ih
open Go.IntKind renaming i64 → J
open Go.Obj renaming cells → K
open Go.Proofs.Tryz renaming prog → N
open Go.RowKit renaming Below → H, Hid → ia
open Go.Value renaming slice → I, int → Z, agg → ib
namespace Go.Proofs.YtjmmpnmgpgaagaaGreatDoor
open Go.RowKit Go.Sort

structure TbP (P:Nat->Prop) (w:O) (t:Tab) (A:Option S) (ca:Nat) (D:Option S) (cd:Nat):Prop where
 row:Row w A t.c.l
 cel:bF w D t.e
 pr:PIn P A t.c.l
 pc:PIn P D t.e
 nr:A=none->ca=0
 nc:D=none->cd=0
 ok:aw t=0
theorem TbP.agr {P:Nat->Prop} {w w':O} {t:Tab} {A:Option S} {ca:Nat} {D:Option S} {f:Nat} (h:TbP P w t A ca D f) (q:Agr P w w'):TbP P w' t A ca D f:=⟨h.row.agr h.pr q,h.cel.agr h.pc q,h.pr,h.pc,h.nr,h.nc,h.ok⟩
theorem TbP.below {P:Nat->Prop} {w w':O} {t:Tab} {A:Option S} {ca:Nat} {D:Option S} {f:Nat} (h:TbP P w t A ca D f) (q:H w.heap.size w w'):TbP P w' t A ca D f:=h.agr (Agr.of q)
theorem TbP.mono {P Q:Nat->Prop} {w:O} {t:Tab} {A:Option S} {ca:Nat} {D:Option S} {f:Nat} (h:TbP P w t A ca D f) (k:∀b,P b->Q b):TbP Q w t A ca D f:=⟨h.row,h.cel,h.pr.mono k,h.pc.mono k,h.nr,h.nc,h.ok⟩
theorem TbP.len {P:Nat->Prop} {w:O} {t:Tab} {A:Option S} {ca:Nat} {D:Option S} {f:Nat} (h:TbP P w t A ca D f):t.c.l.length<=maxLen/\t.e.length<=maxLen:=by
 have g:=(bx (aj h.ok).1).2.1
 have j:=(aj h.ok).2.1
 unfold maxLen
 omega

theorem Agr.set {P:Nat->Prop} {w:O} {V j:Nat} (v:ih) (h:¬P V):Agr P w (w.setCell ⟨V,j,none⟩ v):=(Wr.set (lo:=j) (hi:=j+1) w v (nR _) (by omega)).agr h
theorem kM {W:O} {A B:Option S} {c d:Nat} {l r:List Itm} (h:Lv W A c l) (j:Lv W B d r) {m:List Zit} (hm:bw (l.map Itm.z) (r.map Itm.z)=m) :
  Calls N 170 #[I A l.length c,I B r.length d] W fun e w'=>∃(L:List Itm) (C:Option S) (k:Nat),e= .returned (I C L.length k)/\L.map Itm.z=m/\LvP (fun b=>W.heap.size<=b/\b<w'.heap.size) w' C k L/\H W.heap.size W w':=by
 obtain ⟨E,hE⟩:∃E,aY (l.map Itm.z) (r.map Itm.z)=E:=⟨_,rfl⟩
 have f:=rm h j rfl rfl
 rw[hm,hE] at f
 have hA:ia _:=f
 clear f h j hm hE
 go_enter Tryz.func170,Tryz.ntmps170
 go_wp2_with fail
 refine ja0 hA ?_
 rintro e w1 ⟨L,C,k,rfl,n,u,F,R⟩
 have g:=ja3 n (LvP.new u R.new) F
 clear n u F R hA
 go_wp2
 go_ret
 exact ⟨L,C,k,rfl,g.out⟩
theorem s7 (a b c d e f g h i j k l:ih) (w:O):(Instr.index 57 (ib #[a,b,c,d,e,f,g,h,i,j,k,l]) (Z J 0)).run N w= .ok (ib #[a,b,c,d,e,f]) w:=by kernel_rfl
theorem s8 (a b c d e f g h i j k l:ih) (w:O):(Instr.index 57 (ib #[a,b,c,d,e,f,g,h,i,j,k,l]) (Z J 1)).run N w= .ok (ib #[g,h,i,j,k,l]) w:=by kernel_rfl
theorem DW (x y:ih) (w:O):(Instr.index 63 (ib #[x,y]) (Z J 0)).run N w= .ok x w:=by kernel_rfl
theorem DX (x y:ih) (w:O):(Instr.index 63 (ib #[x,y]) (Z J 1)).run N w= .ok y w:=by kernel_rfl

theorem vR (f:O) (T:TypeId) {w1:O} {n:Nat} (k:(f.alloc (K #[I none 0 0,I none 0 0] T)).alloc (K #[I none 0 0,I none 0 0] T)=w1) (j:f.heap.size=n):Cls w1 n [I none 0 0,I none 0 0]/\Cls w1 (n+1) [I none 0 0,I none 0 0]:=by
 subst j
 subst k
 have h:=Cls.new f #[I none 0 0,I none 0 0] T
 have g:=Cls.new (f.alloc (K #[I none 0 0,I none 0 0] T)) #[I none 0 0,I none 0 0] T
 rw[show (f.alloc (K #[I none 0 0,I none 0 0] T)).heap.size=f.heap.size+1 by simp] at g
 exact ⟨h.gr ((gR _).alloc _),g⟩
theorem oo {L:List Itm} {t:Tab} (h:L.map Itm.z=ofR t) (e:aw t=0):L.length<=maxLen:=by
 have f:=congrArg List.length h
 rw[List.length_map] at f
 have g:=(TS.of e).len
 unfold maxLen
 omega
theorem kj {P:Nat->Prop} (s t:Tab) (A B C D:Option S) (ca cb cc cd:Nat) (w:O) (hs:TbP P w s A ca C cc) (ht:TbP P w t B cb D cd) :
  Calls N 136 #[ib (T2 s A ca C cc t B cb D cd).toArray] w fun e w'=>∃(L M:List Itm) (X Y:Option S) (k m:Nat),e= .returned (ib #[I X L.length k,I Y M.length m])/\L.map Itm.z=ofR s/\M.map Itm.z=ofR t/\LvP (fun b=>w.heap.size<=b/\b<w'.heap.size) w' X k L/\LvP (fun b=>w.heap.size<=b/\b<w'.heap.size) w' Y m M/\H w.heap.size w w':=by
 have bb:=s7 (Z J s.c.c0) (Z J s.c.c1) (Z J s.c.c2) (Z J s.c.c3) (I A s.c.l.length ca) (I C s.e.length cc) (Z J t.c.c0) (Z J t.c.c1) (Z J t.c.c2) (Z J t.c.c3) (I B t.c.l.length cb) (I D t.e.length cd)
 have bc:=s8 (Z J s.c.c0) (Z J s.c.c1) (Z J s.c.c2) (Z J s.c.c3) (I A s.c.l.length ca) (I C s.e.length cc) (Z J t.c.c0) (Z J t.c.c1) (Z J t.c.c2) (Z J t.c.c3) (I B t.c.l.length cb) (I D t.e.length cd)
 have f:=ja2 hs ht
 clear hs ht
 go_enter Tryz.func136,Tryz.ntmps136
 go_wp2
 obtain ⟨wa,a2⟩:∃W,w.alloc (K #[Z J s.c.c0,Z J s.c.c1,Z J s.c.c2,Z J s.c.c3,I A s.c.l.length ca,I C s.e.length cc,Z J t.c.c0,Z J t.c.c1,Z J t.c.c2,Z J t.c.c3,I B t.c.l.length cb,I D t.e.length cd] 57)=W:=⟨_,rfl⟩
 rw[a2]
 have a9:Gr w wa:=by rw[<-a2];exact (gR w).alloc _
 have a7:wa.heap.size=w.heap.size+1:=by rw[<-a2];simp
 clear a2
 obtain ⟨w1,ah⟩:∃W,(wa.alloc (K #[I none 0 0,I none 0 0] 63)).alloc (K #[I none 0 0,I none 0 0] 63)=W:=⟨_,rfl⟩
 rw[ah]
 have a3:=vR wa 63 ah a7
 have a1:Gr w w1:=by rw[<-ah];exact (a9.alloc _).alloc _
 have ad:w1.heap.size=w.heap.size+1+1+1:=by rw[<-ah];simp[a7]
 have n:=ut s A ca C cc (w1.alloc (K #[Z J s.c.c0,Z J s.c.c1,Z J s.c.c2,Z J s.c.c3,I A s.c.l.length ca,I C s.e.length cc] 56)) f.out.1.len.1 f.out.1.len.2 (f.out.1.row.gr (a1.alloc _)) (f.out.1.cel.gr (a1.alloc _))
 rw[f.out.1.ok] at n
 have hO:ia _:=n
 have hH:=ja4 a1 a3.1 a3.2 ad
 clear n a1 ad a3 a9 a7 ah
 refine wp_loop_rounds 3 ?_
 rw[rounds_succ]
 go_wp2_with fail
 refine ja0 hO ?_
 rintro e w3 ⟨L,X,k,rfl,l1,l2,l3,l4,l5⟩
 have a0:H w1.heap.size w1 w3:=((gR w1).alloc _).below.trans (l4.mono (by simp))
 have an:=hH.out.2.2.1.below a0
 have p0:=an.cell (j:=0) rfl
 have z0:=an.fz 0
 have R:L.length<=maxLen:=oo l1 f.out.1.ok
 have a8:ia (LvP (fun b=>w1.heap.size<=b/\b<w3.heap.size) w3 X k L/\L.map Itm.z=ofR s):=⟨(LvP.new ⟨l2,l3,R⟩ l5).mono fun b u=>⟨nT (by simp) u.1,u.2⟩,l1⟩
 have F:=ja3 (hH.out.2.1.below a0) an a0
 clear l1 l2 l3 l4 l5 hO a0 an R
 go_wp2
 clear p0 z0
 obtain ⟨w4,r⟩:∃W,w3.setCell ⟨w.heap.size+1+1,0,none⟩ (I X L.length k)=W:=⟨_,rfl⟩
 rw[r]
 have a5:w4.heap.size=w3.heap.size:=by rw[<-r];simp
 have h4:ia (Cls w4 (w.heap.size+1) [I none 0 0,I none 0 0]/\Cls w4 (w.heap.size+1+1) [I X L.length k,I none 0 0]/\LvP (fun b=>w1.heap.size<=b/\b<w4.heap.size) w4 X k L/\H w.heap.size w w4/\w1.heap.size<=w4.heap.size):=by
  have ad:=hH.out.2.2.2
  have u:=hH.out.1.below.trans (F.out.2.2.mono hH.out.1.size)
  refine ⟨?_,?_,?_,?_,?_⟩
  ·rw[<-r];exact F.out.1.oth (by omega) _
  ·rw[<-r];exact F.out.2.1.put 0 _
  ·rw[a5,<-r];exact a8.out.1.agr (Agr.set _ fun h=>by omega)
  ·rw[<-r];exact u.setCell (by show _<=w.heap.size+1+1;omega) _
  ·rw[a5];exact F.out.2.2.size
 clear r a5 F
 rw[rounds_succ]
 have n:=ut t B cb D cd (w4.alloc (K #[Z J t.c.c0,Z J t.c.c1,Z J t.c.c2,Z J t.c.c3,I B t.c.l.length cb,I D t.e.length cd] 56)) f.out.2.len.1 f.out.2.len.2 ((f.out.2.row.below h4.out.2.2.2.1).gr ((gR _).alloc _)) ((f.out.2.cel.below h4.out.2.2.2.1).gr ((gR _).alloc _))
 rw[f.out.2.ok] at n
 have hO:ia _:=n
 clear n
 go_wp2_with fail
 refine ja0 hO ?_
 rintro e w5 ⟨M,Y,m,rfl,l1,l2,l3,l4,l5⟩
 have E:H w4.heap.size w4 w5:=((gR w4).alloc _).below.trans (l4.mono (by simp))
 have ao:=h4.out.2.1.below E
 have p0:=ao.cell (j:=1) rfl
 have z0:=ao.fz 1
 have R:M.length<=maxLen:=oo l1 f.out.2.ok
 have a4:ia (LvP (fun b=>w1.heap.size<=b/\b<w5.heap.size) w5 X k L/\LvP (fun b=>w1.heap.size<=b/\b<w5.heap.size) w5 Y m M/\M.map Itm.z=ofR t):=⟨(h4.out.2.2.1.below E).mono fun b u=>⟨u.1,nL u.2 E.size⟩,(LvP.new ⟨l2,l3,R⟩ l5).mono fun b u=>⟨nT h4.out.2.2.2.2 (nT (by simp) u.1),u.2⟩,l1⟩
 have ap:=ja3 (h4.out.1.below E) ao (h4.out.2.2.2.1.trans (E.mono h4.out.2.2.2.1.size))
 clear l1 l2 l3 l4 l5 hO E ao R
 go_wp2
 clear p0 z0
 obtain ⟨w6,g⟩:∃W,w5.setCell ⟨w.heap.size+1+1,1,none⟩ (I Y M.length m)=W:=⟨_,rfl⟩
 rw[g]
 have a6:w6.heap.size=w5.heap.size:=by rw[<-g];simp
 have h6:ia (Cls w6 (w.heap.size+1) [I none 0 0,I none 0 0]/\Cls w6 (w.heap.size+1+1) [I X L.length k,I Y M.length m]/\LvP (fun b=>w1.heap.size<=b/\b<w6.heap.size) w6 X k L/\LvP (fun b=>w1.heap.size<=b/\b<w6.heap.size) w6 Y m M/\H w.heap.size w w6):=by
  have ad:=hH.out.2.2.2
  refine ⟨?_,?_,?_,?_,?_⟩
  ·rw[<-g];exact ap.out.1.oth (by omega) _
  ·rw[<-g];exact ap.out.2.1.put 1 _
  ·rw[a6,<-g];exact a4.out.1.agr (Agr.set _ fun h=>by omega)
  ·rw[a6,<-g];exact a4.out.2.1.agr (Agr.set _ fun h=>by omega)
  ·rw[<-g];exact ap.out.2.2.setCell (by show _<=w.heap.size+1+1;omega) _
 clear g a6 ap
 rw[rounds_succ]
 have q0:=h6.out.2.1.cell (j:=0) rfl
 have q1:=h6.out.2.1.cell (j:=1) rfl
 have r0:=h6.out.1.cell (j:=0) rfl
 have r1:=h6.out.1.cell (j:=1) rfl
 have z0:=h6.out.1.fz 0
 have z1:=h6.out.1.fz 1
 go_wp2
 have ad:=hH.out.2.2.2
 have ba:w.heap.size<=w.heap.size+1:=by omega
 refine bodyPost_ret (v:= ib #[I X L.length k,I Y M.length m]) (by simp[results,Tryz.results136,go_sem,r0,r1]) rfl ⟨L,M,X,Y,k,m,rfl,a8.out.2,a4.out.2.2,?_,?_,(h6.out.2.2.2.2.setCell ba _).setCell ba _⟩
 ·exact ((h6.out.2.2.1.agr (Agr.set _ fun h=>by omega)).agr (Agr.set _ fun h=>by omega)).mono fun b u=>⟨by omega,by simpa using u.2⟩
 ·exact ((h6.out.2.2.2.1.agr (Agr.set _ fun h=>by omega)).agr (Agr.set _ fun h=>by omega)).mono fun b u=>⟨by omega,by simpa using u.2⟩
theorem sA {W:O} {A:Option S} {c:Nat} {l:List Itm} (h:Lv W A c l) (f:TS (l.map Itm.z)) :
  Calls N 195 #[I A l.length c] W fun e w'=>∃(L:List Itm) (C:Option S) (k:Nat),e= .returned (.tuple #[I C L.length k,Z J 0])/\L.map Itm.z=iG (l.map Itm.z)/\Lv w' C k L/\H W.heap.size W w':=by
 have:=Ea h rfl
 rw[f.ok] at this
 exact this
theorem mT (a b c d:List Itm) (A B C D:Option S) (ca cb cc cd:Nat) (w:O) (ha:Lv w A ca a) (u:Lv w B cb b) (hc:Lv w C cc c) (hd:Lv w D cd d) (ta:TS (a.map Itm.z)) (tb:TS (b.map Itm.z)) (tc:TS (c.map Itm.z)) (td:TS (d.map Itm.z)) :
  Calls N 165 #[ib #[I A a.length ca,I B b.length cb],ib #[I C c.length cc,I D d.length cd]] w fun e w'=>∃(L M:List Itm) (X Y:Option S) (k m:Nat),e= .returned (ib #[I X L.length k,I Y M.length m])/\L.map Itm.z=bf (a.map Itm.z) (c.map Itm.z)/\M.map Itm.z=bf (b.map Itm.z) (d.map Itm.z)/\LvP (fun b=>w.heap.size<=b/\b<w'.heap.size) w' X k L/\LvP (fun b=>w.heap.size<=b/\b<w'.heap.size) w' Y m M/\H w.heap.size w w':=by
 have f:ia (Lv w A ca a/\Lv w B cb b/\Lv w C cc c/\Lv w D cd d/\TS (a.map Itm.z)/\TS (b.map Itm.z)/\TS (c.map Itm.z)/\TS (d.map Itm.z)):=⟨ha,u,hc,hd,ta,tb,tc,td⟩
 clear ha u hc hd ta tb tc td
 go_enter Tryz.func165,Tryz.ntmps165
 go_wp2
 obtain ⟨wa,an⟩:∃W,(w.alloc (K #[I A a.length ca,I B b.length cb] 63)).alloc (K #[I C c.length cc,I D d.length cd] 63)=W:=⟨_,rfl⟩
 rw[an]
 have bb:Gr w wa:=by rw[<-an];exact ((gR w).alloc _).alloc _
 have a8:wa.heap.size=w.heap.size+1+1:=by rw[<-an];simp
 have hN:Cls wa w.heap.size [I A a.length ca,I B b.length cb]:=by rw[<-an];exact (Cls.new w _ _).gr ((gR _).alloc _)
 have hO:Cls wa (w.heap.size+1) [I C c.length cc,I D d.length cd]:=by
  have:=Cls.new (w.alloc (K #[I A a.length ca,I B b.length cb] 63)) #[I C c.length cc,I D d.length cd] 63
  rw[an,show (w.alloc (K #[I A a.length ca,I B b.length cb] 63)).heap.size=w.heap.size+1 by simp] at this
  exact this
 clear an
 obtain ⟨w1,ap⟩:∃W,(wa.alloc (K #[I none 0 0,I none 0 0] 63)).alloc (K #[I none 0 0,I none 0 0] 63)=W:=⟨_,rfl⟩
 rw[ap]
 have a2:=vR wa 63 ap a8
 have ad:Gr wa w1:=by rw[<-ap];exact ((gR _).alloc _).alloc _
 have ba:Gr w w1:=bb.trans ad
 have ao:w1.heap.size=w.heap.size+1+1+1+1:=by rw[<-ap];simp[a8]
 have F:=ja6 ba (hN.gr ad) (hO.gr ad) a2.1 a2.2 ao
 clear ba ao a2 bb a8 ap hN hO ad
 have q0:=F.out.2.1.cell (j:=0) rfl
 have q1:=F.out.2.2.1.cell (j:=0) rfl
 refine wp_loop_rounds 3 ?_
 rw[rounds_succ]
 have g:=sA (f.out.2.2.1.gr F.out.1) f.out.2.2.2.2.2.2.1
 have hC:ia _:=g
 clear g
 go_wp2_with fail
 clear q0 q1
 refine ja0 hC ?_
 rintro e w2 ⟨bd,TA,tk,rfl,t1,t2,t3⟩
 have r:=ja3 t2 t1 t3
 clear t1 t2 t3 hC
 have q0:=(F.out.2.1.below r.out.2.2).cell (j:=0) rfl
 have g:=kM ((f.out.1.gr F.out.1).below r.out.2.2) r.out.1 (m:=bf (a.map Itm.z) (c.map Itm.z)) (by rw[r.out.2.1];exact (pi f.out.2.2.2.2.1 f.out.2.2.2.2.2.2.1).2)
 have hC:ia _:=g
 clear g
 go_wp2_with fail
 clear q0
 refine ja0 hC ?_
 rintro e w3 ⟨L,X,k,rfl,l1,l2,l3⟩
 have a5:H w1.heap.size w1 w3:=r.out.2.2.trans (l3.mono r.out.2.2.size)
 have a3:=F.out.2.2.2.2.1.below a5
 have p0:=a3.cell (j:=0) rfl
 have z0:=a3.fz 0
 have a9:ia (LvP (fun b=>w1.heap.size<=b/\b<w3.heap.size) w3 X k L/\L.map Itm.z=bf (a.map Itm.z) (c.map Itm.z)):=⟨l2.mono fun b u=>⟨nT r.out.2.2.size u.1,u.2⟩,l1⟩
 have R:=ja1 a5
 clear l1 l2 l3 hC a5 a3
 go_wp2
 clear p0 z0
 obtain ⟨w4,n⟩:∃W,w3.setCell ⟨w.heap.size+1+1+1,0,none⟩ (I X L.length k)=W:=⟨_,rfl⟩
 rw[n]
 have a6:w4.heap.size=w3.heap.size:=by rw[<-n];simp
 have h4:ia (Cls w4 w.heap.size [I A a.length ca,I B b.length cb]/\Cls w4 (w.heap.size+1) [I C c.length cc,I D d.length cd]/\Cls w4 (w.heap.size+1+1) [I none 0 0,I none 0 0]/\Cls w4 (w.heap.size+1+1+1) [I X L.length k,I none 0 0]/\LvP (fun b=>w1.heap.size<=b/\b<w4.heap.size) w4 X k L/\H w.heap.size w w4/\w1.heap.size<=w4.heap.size):=by
  have ao:=F.out.2.2.2.2.2
  have u:=F.out.1.below.trans (R.out.mono F.out.1.size)
  refine ⟨?_,?_,?_,?_,?_,?_,?_⟩
  ·rw[<-n];exact (F.out.2.1.below R.out).oth (by omega) _
  ·rw[<-n];exact (F.out.2.2.1.below R.out).oth (by omega) _
  ·rw[<-n];exact (F.out.2.2.2.1.below R.out).oth (by omega) _
  ·rw[<-n];exact (F.out.2.2.2.2.1.below R.out).put 0 _
  ·rw[a6,<-n];exact a9.out.1.agr (Agr.set _ fun h=>by omega)
  ·rw[<-n];exact u.setCell (by show _<=w.heap.size+1+1+1;omega) _
  ·rw[a6];exact R.out.size
 clear n a6 R r
 rw[rounds_succ]
 have q0:=h4.out.1.cell (j:=1) rfl
 have q1:=h4.out.2.1.cell (j:=1) rfl
 have g:=sA (f.out.2.2.2.1.below h4.out.2.2.2.2.2.1) f.out.2.2.2.2.2.2.2
 have hC:ia _:=g
 clear g
 go_wp2_with fail
 clear q0 q1
 refine ja0 hC ?_
 rintro e w5 ⟨U,UA,uk,rfl,t1,t2,t3⟩
 have r:=ja3 t2 t1 t3
 clear t1 t2 t3 hC
 have q0:=(h4.out.1.below r.out.2.2).cell (j:=1) rfl
 have g:=kM ((f.out.2.1.below h4.out.2.2.2.2.2.1).below r.out.2.2) r.out.1 (m:=bf (b.map Itm.z) (d.map Itm.z)) (by rw[r.out.2.1];exact (pi f.out.2.2.2.2.2.1 f.out.2.2.2.2.2.2.2).2)
 have hC:ia _:=g
 clear g
 go_wp2_with fail
 clear q0
 refine ja0 hC ?_
 rintro e w6 ⟨M,Y,m,rfl,l1,l2,l3⟩
 have ah:H w4.heap.size w4 w6:=r.out.2.2.trans (l3.mono r.out.2.2.size)
 have a0:=h4.out.2.2.2.1.below ah
 have p0:=a0.cell (j:=1) rfl
 have z0:=a0.fz 1
 have a4:ia (LvP (fun b=>w1.heap.size<=b/\b<w6.heap.size) w6 X k L/\LvP (fun b=>w1.heap.size<=b/\b<w6.heap.size) w6 Y m M/\M.map Itm.z=bf (b.map Itm.z) (d.map Itm.z)):=⟨(h4.out.2.2.2.2.1.below ah).mono fun b u=>⟨u.1,nL u.2 ah.size⟩,l2.mono fun b u=>⟨nT h4.out.2.2.2.2.2.2 (nT r.out.2.2.size u.1),u.2⟩,l1⟩
 have a1:=ja3 (h4.out.2.2.1.below ah) a0 (h4.out.2.2.2.2.2.1.trans (ah.mono h4.out.2.2.2.2.2.1.size))
 clear l1 l2 l3 hC ah a0
 go_wp2
 clear p0 z0
 obtain ⟨w7,E⟩:∃W,w6.setCell ⟨w.heap.size+1+1+1,1,none⟩ (I Y M.length m)=W:=⟨_,rfl⟩
 rw[E]
 have a7:w7.heap.size=w6.heap.size:=by rw[<-E];simp
 have h7:ia (Cls w7 (w.heap.size+1+1) [I none 0 0,I none 0 0]/\Cls w7 (w.heap.size+1+1+1) [I X L.length k,I Y M.length m]/\LvP (fun b=>w1.heap.size<=b/\b<w7.heap.size) w7 X k L/\LvP (fun b=>w1.heap.size<=b/\b<w7.heap.size) w7 Y m M/\H w.heap.size w w7):=by
  have ao:=F.out.2.2.2.2.2
  refine ⟨?_,?_,?_,?_,?_⟩
  ·rw[<-E];exact a1.out.1.oth (by omega) _
  ·rw[<-E];exact a1.out.2.1.put 1 _
  ·rw[a7,<-E];exact a4.out.1.agr (Agr.set _ fun h=>by omega)
  ·rw[a7,<-E];exact a4.out.2.1.agr (Agr.set _ fun h=>by omega)
  ·rw[<-E];exact a1.out.2.2.setCell (by show _<=w.heap.size+1+1+1;omega) _
 clear E a7 a1 r
 rw[rounds_succ]
 have q0:=h7.out.2.1.cell (j:=0) rfl
 have q1:=h7.out.2.1.cell (j:=1) rfl
 have r0:=h7.out.1.cell (j:=0) rfl
 have r1:=h7.out.1.cell (j:=1) rfl
 have z0:=h7.out.1.fz 0
 have z1:=h7.out.1.fz 1
 go_wp2
 have ao:=F.out.2.2.2.2.2
 have bc:w.heap.size<=w.heap.size+1+1:=by omega
 refine bodyPost_ret (v:= ib #[I X L.length k,I Y M.length m]) (by simp[results,Tryz.results165,go_sem,r0,r1]) rfl ⟨L,M,X,Y,k,m,rfl,a9.out.2,a4.out.2.2,?_,?_,(h7.out.2.2.2.2.setCell bc _).setCell bc _⟩
 ·exact ((h7.out.2.2.1.agr (Agr.set _ fun h=>by omega)).agr (Agr.set _ fun h=>by omega)).mono fun b u=>⟨by omega,by simpa using u.2⟩
 ·exact ((h7.out.2.2.2.1.agr (Agr.set _ fun h=>by omega)).agr (Agr.set _ fun h=>by omega)).mono fun b u=>⟨by omega,by simpa using u.2⟩
abbrev aS:=@Agr.set

theorem Vo.mono {w:O} {V o:Nat} {P P':Nat->Prop} {q:List Stp} {QA:Option S} {cq:Nat} {a:List Itm} {A:Option S} {ca:Nat} {b:List Itm} {B:Option S} {cb:Nat} (h:Vo w V o P q QA cq a A ca b B cb) (k:∀b,P b->P' b):Vo w V o P' q QA cq a A ca b B cb :=
 ⟨h.lt,h.fz,h.c0,h.c1,h.c2,h.st.mono k,h.len,h.la.mono k,h.lb.mono k⟩
theorem Vo.set {w:O} {V o:Nat} {P:Nat->Prop} {q:List Stp} {QA:Option S} {cq:Nat} {a:List Itm} {A:Option S} {ca:Nat} {b:List Itm} {B:Option S} {cb:Nat} (h:Vo w V o P q QA cq a A ca b B cb) (g:¬P V) {j:Nat} (k:o+3<=j) (v:ih):Vo (w.setCell ⟨V,j,none⟩ v) V o P q QA cq a A ca b B cb :=
 have f:Agr P w (w.setCell ⟨V,j,none⟩ v):=aS v g
 ⟨by simpa using h.lt,fun j=>by simpa using h.fz j,by rw[cG (by omega)];exact h.c0,by rw[cG (by omega)];exact h.c1,by rw[cG (by omega)];exact h.c2,h.st.agr f,h.len,h.la.agr f,h.lb.agr f⟩
structure Vm (w:O) (V o:Nat) (P:Nat->Prop) (q:List Stp) (QA:Option S) (cq:Nat) (a:List Itm) (A:Option S) (ca:Nat) (b:List Itm) (B:Option S) (cb:Nat) (x:List Itm) (X:Option S) (cx:Nat) (y:List Itm) (Y:Option S) (cy:Nat) (e:Int):Prop where
 vo:Vo w V o P q QA cq a A ca b B cb
 c3:w.cell? ⟨V,o+3,none⟩=some (I X x.length cx)
 c4:w.cell? ⟨V,o+4,none⟩=some (I Y y.length cy)
 c5:w.cell? ⟨V,o+5,none⟩=some (Z J e)
 lx:LvP P w X cx x
 ly:LvP P w Y cy y
section
variable {w w':O} {V o:Nat} {P P':Nat->Prop} {q:List Stp} {QA:Option S} {cq:Nat} {a:List Itm} {A:Option S} {ca:Nat} {b:List Itm} {B:Option S} {cb:Nat} {x:List Itm} {X:Option S} {cx:Nat} {y:List Itm} {Y:Option S} {cy:Nat} {e:Int}
theorem Vm.below (h:Vm w V o P q QA cq a A ca b B cb x X cx y Y cy e) (k:H w.heap.size w w'):Vm w' V o P q QA cq a A ca b B cb x X cx y Y cy e :=
 ⟨h.vo.below k,(k.cell (p:=⟨V,o+3,none⟩) h.vo.lt).trans h.c3,(k.cell (p:=⟨V,o+4,none⟩) h.vo.lt).trans h.c4,(k.cell (p:=⟨V,o+5,none⟩) h.vo.lt).trans h.c5,h.lx.below k,h.ly.below k⟩
theorem Vm.mono (h:Vm w V o P q QA cq a A ca b B cb x X cx y Y cy e) (k:∀b,P b->P' b):Vm w V o P' q QA cq a A ca b B cb x X cx y Y cy e :=
 ⟨h.vo.mono k,h.c3,h.c4,h.c5,h.lx.mono k,h.ly.mono k⟩
theorem Vm.set3 (h:Vm w V o P q QA cq a A ca b B cb x X cx y Y cy e) (j:¬P V) {k:List Itm} {g:Option S} {f:Nat} (n:LvP P w g f k):Vm (w.setCell ⟨V,o+3,none⟩ (I g k.length f)) V o P q QA cq a A ca b B cb k g f y Y cy e :=
 ⟨h.vo.set j (by omega) _,World.cell?_setCell_same _ _ _ h.c3,by rw[cG (by omega)];exact h.c4,by rw[cG (by omega)];exact h.c5,n.agr (aS _ j),h.ly.agr (aS _ j)⟩
theorem Vm.set4 (h:Vm w V o P q QA cq a A ca b B cb x X cx y Y cy e) (j:¬P V) {k:List Itm} {g:Option S} {f:Nat} (n:LvP P w g f k):Vm (w.setCell ⟨V,o+4,none⟩ (I g k.length f)) V o P q QA cq a A ca b B cb x X cx k g f e :=
 ⟨h.vo.set j (by omega) _,by rw[cG (by omega)];exact h.c3,World.cell?_setCell_same _ _ _ h.c4,by rw[cG (by omega)];exact h.c5,h.lx.agr (aS _ j),n.agr (aS _ j)⟩
theorem Vm.set5 (h:Vm w V o P q QA cq a A ca b B cb x X cx y Y cy e) (f:¬P V) (g:Int):Vm (w.setCell ⟨V,o+5,none⟩ (Z J g)) V o P q QA cq a A ca b B cb x X cx y Y cy g :=
 ⟨h.vo.set f (by omega) _,by rw[cG (by omega)];exact h.c3,by rw[cG (by omega)];exact h.c4,World.cell?_setCell_same _ _ _ h.c5,h.lx.agr (aS _ f),h.ly.agr (aS _ f)⟩
end
def VwM (w:O) (V o:Nat) (P:Nat->Prop) (q:List Stp) (k l m n:List Zit) (e:Int):Prop :=
 ∃(q':List Stp) (QA:Option S) (cq:Nat) (a:List Itm) (A:Option S) (ca:Nat) (b:List Itm) (B:Option S) (cb:Nat) (x:List Itm) (X:Option S) (cx:Nat) (y:List Itm) (Y:Option S) (cy:Nat),
  Vm w V o P q' QA cq a A ca b B cb x X cx y Y cy e/\q'.map bare=q.map bare/\a.map Itm.z=k/\b.map Itm.z=l/\x.map Itm.z=m/\y.map Itm.z=n
theorem VwM.below {w w':O} {V o:Nat} {P:Nat->Prop} {q:List Stp} {k l m n:List Zit} {e:Int} (h:VwM w V o P q k l m n e) (g:H w.heap.size w w'):VwM w' V o P q k l m n e:=by
 obtain ⟨r,QA,cq,a,A,ca,b,B,cb,x,X,cx,y,Y,cy,f,j⟩:=h
 exact ⟨r,QA,cq,a,A,ca,b,B,cb,x,X,cx,y,Y,cy,f.below g,j⟩
theorem VwM.mono {w:O} {V o:Nat} {P P':Nat->Prop} {q:List Stp} {k l m n:List Zit} {e:Int} (h:VwM w V o P q k l m n e) (g:∀b,P b->P' b):VwM w V o P' q k l m n e:=by
 obtain ⟨r,QA,cq,a,A,ca,b,B,cb,x,X,cx,y,Y,cy,f,j⟩:=h
 exact ⟨r,QA,cq,a,A,ca,b,B,cb,x,X,cx,y,Y,cy,f.mono g,j⟩
theorem VwM.keep {w w':O} {V o:Nat} {P:Nat->Prop} {q:List Stp} {k l m n:List Zit} {e:Int} (h:VwM w V o P q k l m n e) (r:Agr P w w') (E:V<w'.heap.size) (C:∀j,w'.frozen? ⟨V,j,none⟩=false) (g:∀j,o<=j->j<o+6->w'.cell? ⟨V,j,none⟩=w.cell? ⟨V,j,none⟩):VwM w' V o P q k l m n e:=by
 obtain ⟨F,QA,cq,a,A,ca,b,B,cb,x,X,cx,y,Y,cy,f,u⟩:=h
 exact ⟨F,QA,cq,a,A,ca,b,B,cb,x,X,cx,y,Y,cy,⟨⟨E,C,(g o (by omega) (by omega)).trans f.vo.c0,(g (o+1) (by omega) (by omega)).trans f.vo.c1,(g (o+2) (by omega) (by omega)).trans f.vo.c2,f.vo.st.agr r,f.vo.len,f.vo.la.agr r,f.vo.lb.agr r⟩,(g (o+3) (by omega) (by omega)).trans f.c3,(g (o+4) (by omega) (by omega)).trans f.c4,(g (o+5) (by omega) (by omega)).trans f.c5,f.lx.agr r,f.ly.agr r⟩,u⟩
def VwN (w:O) (V o:Nat) (P:Nat->Prop) (q:List Stp) (z y:List Zit):Prop :=
 ∃k l,VwM w V o P q k l (bf z k) (bf y l) (bM q z y)/\TS k/\TS l/\(bM q z y=0->k=z/\l=y)
theorem VwN.mono {w:O} {V o:Nat} {P P':Nat->Prop} {q:List Stp} {z y:List Zit} (h:VwN w V o P q z y) (g:∀b,P b->P' b):VwN w V o P' q z y:=by
 obtain ⟨k,l,f,j⟩:=h
 exact ⟨k,l,f.mono g,j⟩
theorem VwN.keep {w w':O} {V o:Nat} {P:Nat->Prop} {q:List Stp} {z y:List Zit} (h:VwN w V o P q z y) (n:Agr P w w') (C:V<w'.heap.size) (u:∀j,w'.frozen? ⟨V,j,none⟩=false) (r:∀j,o<=j->j<o+6->w'.cell? ⟨V,j,none⟩=w.cell? ⟨V,j,none⟩):VwN w' V o P q z y:=by
 obtain ⟨k,l,f,g⟩:=h
 exact ⟨k,l,f.keep n C u r,g⟩
end Go.Proofs.YtjmmpnmgpgaagaaGreatDoor
