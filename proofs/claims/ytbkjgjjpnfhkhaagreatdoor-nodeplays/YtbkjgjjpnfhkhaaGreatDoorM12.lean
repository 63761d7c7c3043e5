import Derived.Test.YtbkjgjjpnfhkhaaGreatDoorM11
set_option maxRecDepth 100000
set_option maxHeartbeats 8000000
open Go renaming Addr → X, World → U, Calls → K
open Go.IntKind renaming i64 → I
open Go.Obj renaming cells → Z
open Go.Proofs.Tryz renaming prog → J
open Go.RowKit renaming Hid → O, Below → Y
open Go.Value renaming slice → V, tuple → T
namespace Go.Proofs.YtbkjgjjpnfhkhaaGreatDoor
open Go.RowKit Go.Sort Go.Maps

theorem mL {w w':U} {H:Type} {k:TypeId} {R:Value->Option (DataW H×List MemPlace)} {b n:Nat} {D:DataW H} (h:w.ownsMap J k R b n D) (q:jb2 w w'):w'.ownsMap J k R b n D :=
 h.kept (row:=none) ⟨q.os,q.tape,q.output,q.size,fun j c _=>q.block j c⟩ (by simp)
def er (L:List Itm) (P:List Zit):Prop:=L.map Itm.z=P.take 401/\P.all (fun x=>okW x.2)=true

theorem ui {M:List Itm} {Q:List Zit} (h:er M Q) (d:M.length<=400) {y:Itm} (c:okW y.n=true):er (M++[y]) (Q++[y.z]):=by
 have f:Q.length<=400:=by have:=congrArg List.length h.1;simp only[List.length_map,List.length_take] at this;omega
 refine ⟨?_,?_⟩
 ·rw[List.map_append,h.1,List.take_of_length_le (by omega),List.take_of_length_le (by simp;omega)];rfl
 ·rw[List.all_append,h.2];simpa[Itm.z] using c
theorem uh {M:List Itm} {Q:List Zit} (h:er M Q) (f:¬M.length<=400) {y:Zit} (d:okW y.2=true):er M (Q++[y]):=by
 have c:401<=Q.length:=by have:=congrArg List.length h.1;simp only[List.length_map,List.length_take] at this;omega
 refine ⟨?_,?_⟩
 ·rw[h.1,List.take_append_of_le_length c]
 ·rw[List.all_append,h.2];simpa using d
theorem ke (w:U) {ops:Array Oper} {g:List Oper} {o:Oper} {a:Act} {Q:Exit->Act->U->Prop} (r:o.guard=none) (s z:Operand)
  (ho:o.op= .call { callee:= .builtin .append,args:= #[s,z],argTypes:= #[59,59] })
  (c:Nat) (v:Value) (l:List Itm) (x:Itm) (A:X) (cap:Nat) (hs:a.eval s=v) (hz:a.eval z= V (some A) 1 cap) (f:OwnT w c v l) (hr:aC aE 2 w (some A) [x]) (hx:Apart w c v.ownBlock x)
  (C:l.length+1<=maxLen) (hb:(l.length+1)*32<=140737488355328) (d:c<=w.heap.size)
  (h:∀j w',OwnT w' c j (l++[x])->Y c w w'->w.grownBy w' v.ownBlock->(j.ownBlock=v.ownBlock\/j.ownBlock=some w.heap.size)->wpList J ops Q g (a.put o.dst j) w'):wpList J ops Q (o::g) a w :=
 wpList_plain r fun _ hK=>by
  obtain ⟨i0,hi,D,E,F⟩:=info_parts Tryz.infoT
  obtain ⟨j,w',R,g2,m,_,n⟩:=run_append_own_at (P:=J) w c 59 o.type 101 i0 (.agg #[V none 0 0,.int I 0]) 2 32 Tryz.underlying59 hi D E F rfl (by omega) v l.length (bu aE l) f.own A 1 cap (bu aE [x]) (cA bO [x]) (hr.cells bO (by omega)) (fun u hu=>ef gh u [x] hu) C hb d
  have h2:OwnT w' c j (l++[x]):=by
   refine ⟨?_,fun y hy=> ?_⟩
   ·show w'.ownsRow c _ 2 j (l++[x]).length (bu aE (l++[x]))
    rw[List.length_append,cV]
    exact g2
   ·rcases List.mem_append.1 hy with k|k
    ·exact (f.each y k).grown m n
    ·have:y=x:=by simpa using k
     subst this
     exact hx.grown m n
  unfold Oper.wp execOp
  simp only[ho,resolve,invoke,builtin,Sem.run_bind,Sem.run_pure,Result.andThen_ok,List.map_toArray,List.map_cons,List.map_nil,hs,hz,R]
  exact hK _ _ (h j w' h2 (ae.grown_below f.own m d) m n)

theorem tQ (a b:List Itm) (A B:Option X) (ca cb:Nat) (c v:Int) (w:U) (fn:a.length<=400) (c6:b.length<=400) (ha:Lv w A ca a) (hb:Lv w B cb b) (hc:∀x∈a,inB c 0 ((x.r.length:Int)-1)=true) (hv:∀x∈b,inB v 0 ((x.r.length:Int)-1)=true) (dl:∀x∈a,okR x.r=true/\okW x.n=true) (cl:∀x∈b,okR x.r=true/\okW x.n=true) :
  K J 181 #[V A a.length ca,V B b.length cb,.int I c,.int I v] w fun e w'=>∃(L:List Itm) (C:Option X) (k:Nat),e= .returned (T #[V C L.length k,.int I (gP (a.map Itm.z) (b.map Itm.z) c v)])/\L.map Itm.z=j4 (a.map Itm.z) (b.map Itm.z) c v/\Lv w' C k L/\Y w.heap.size w w'/\NwT w' k w.heap.size C L:=by
 have hH:=ja5 ha hb hc dl cl;have cu:=iY b B cb v w c6 hb.items hv (fun x hx=>(cl x hx).1);have hG:O _:=cu;obtain ⟨E,hE⟩:=jb0 (gP (a.map Itm.z) (b.map Itm.z) c v);have cs:=ja1 hE;rw[hE];clear cu ha hb hc hv dl cl hE;go_enter Tryz.func181,Tryz.ntmps181;go_wp2_with fail;refine ja0 hG ?_;rintro e F ⟨gs,vv,D,rfl,cz⟩;have hR:=ja1 cz;obtain ⟨GA,e6,ez,_,b4,_⟩:=hR.out.gps.own.row dV;have em:=ja1 b4;subst ez;clear cz b4 hG;have b3:O (GInvL v (gs.map Grp.z) (b.map Itm.z)):=by show GInvL _ _ _;have:=lM (b.map Itm.z) v;rw[<-List.take_length (l:=b),<-hR.out.z,List.take_length] at this;exact this
 go_wp2;go_loopw [12,28] (fun u i wr=>∃(k:Nat) (L:List Itm),k<=a.length/\i= .int I k/\O (er L (aP ((a.take k).map Itm.z) (b.map Itm.z) c v)/\L.length<=401/\OwnT wr F.heap.size u L/\Y F.heap.size F wr)) (fun _ i _=>a.length-(intOf i).toNat);exact ⟨0,[],nZ _,rfl,⟨rfl,rfl⟩,by simp,OwnT.nil _ _,bR _ _⟩;obtain ⟨k,L,hk,rfl,hS⟩:=hrel;by_cases bG:k<a.length
 ·have dg:(k:Int)<(a.length:Int):=by omega
  have hI:=ja1 ((hH.out.1.items.below hR.out.bel).below hS.out.2.2.2);obtain ⟨bb,f6,rfl,hb,c7⟩:=hI.out.at bG;obtain ⟨x,hx⟩:=jb0 (a[k]);obtain ⟨e0,e1⟩:=c7 k bG;rw[hx] at e0 e1;have a5:x∈a:=by rw[<-hx];exact gM bG
  obtain ⟨rb,ro,cn,hp,ek,d7,d6,an⟩:=dA (hI.out.each x a5).1 (hH.out.2.2.1 x a5);have bN:O (aP ((a.take (k+1)).map Itm.z) (b.map Itm.z) c v=aP ((a.take k).map Itm.z) (b.map Itm.z) c v++prs x.z ((b.map Itm.z).filter fun y=>decide (atI y.1 v=atI x.r c))):=by show _=_;rw[nH bG,hx]
  have dx:=ja1 a5;obtain ⟨nn,ck⟩:=jb0 (atI x.r c);have be:keyOf J 3 (.int I nn)=some (.int I nn):=keyOf_int_mk Tryz.underlying3 (by rw[<-ck];exact wfN (mi (hH.out.2.2.2.1 x a5).1));rw[ck] at an bN;rw[hp] at e0;obtain ⟨WX,a6⟩:=jb0 (wr.alloc (Z #[V (some (jb5 rb ro)) x.r.length x.c,.int I x.n] 101));have a4:O (Gr wr WX):=by show Gr _ _;rw[<-a6];exact (gR _).alloc _
  have bs:=ja1 (hS.out.2.2.2.trans (a4.out.below.mono hS.out.2.2.2.size));have y0:WX.cell? (jb5 rb (ro+cn))=some (.int I nn):=(a4.out.below.cell (p:=(jb5 rb (ro+cn))) ek).trans an;have x0:WX.cell? (jb5 wr.heap.size 0)=some (V (some (jb5 rb ro)) x.r.length x.c):=by rw[<-a6];exact ab (gR _) rfl
  have x1:WX.cell? (jb5 wr.heap.size 1)=some (.int I x.n):=by rw[<-a6];exact ab (gR _) rfl
  have dp:wr.heap.size<WX.heap.size:=by rw[<-a6];simp
  have f0:(cn:Int)<(x.r.length:Int):=by omega
  have ej:=ja2 hp ((hI.out.each x a5).1.gr a4.out);obtain rfl:=d7;clear c7 hx a5 ck hp an d6;have cf:=ja1 (mL hR.out.map bs.out);cases bd:Maps.has D (.int I nn)
  ·have eg:O ((b.map Itm.z).filter (fun y=>decide (atI y.1 v=nn))=[]):=(by show _=_;rw[List.filter_eq_nil_iff];intro y hy e;obtain ⟨g,hg,e2⟩:=b3.out.all y hy;obtain ⟨g',d9,rfl⟩:=List.mem_map.1 hg;have h1:=hR.out.plc.has nn;rw[bd] at h1;have:=List.any_eq_false.1 h1.symm g' d9;simp at this;exact this (e2.trans (by simpa using e)));have d:O (er L (aP ((a.take (k+1)).map Itm.z) (b.map Itm.z) cn v)/\L.length<=401/\OwnT WX F.heap.size u12 L/\Y F.heap.size F WX):=⟨by rw[bN.out,eg.out];simpa[prs] using hS.out.1,hS.out.2.1,hS.out.2.2.1.gr a4.out,bs.out⟩
   go_wp2_with (first
    | (at_lookup;refine wpList_lookup_own_ok_int _ rfl _ _ 242 rfl 3 3 I vR Tryz.underlying242 Tryz.underlying3 (sF _) w.heap.size b.length _ rfl cf.out _ _ rfl be ?_;intro c' ap ds)
    | fail)
   go_roundw;exact ⟨k+1,L,by omega,by go_num,d⟩;simp[intOf];omega
  ·obtain ⟨i,bv,bC,b2⟩:=hR.out.plc.find bd;have c3:=ja1 b2;obtain ⟨G,cp,d4,d5,c8⟩:=em.out.at bv;subst d4;obtain ⟨g,hg⟩:=jb0 (gs[i]);have g1:WX.cell? (jb5 G (cp+i*2+1))=some (V g.p g.l.length g.c):=by have:=c8 i bv 1 (by omega);rw[hg] at this;exact (bs.out.cell (p:=(jb5 G (cp+i*2+1))) d5).trans (by simpa[fq,Grp.v] using this)
   have f2:(i:Int)<(gs.length:Int):=(by omega);have bt:O (g∈gs):=by show _∈_;rw[<-hg];exact gM bv
   have ea:O (g.l.map Itm.z=(b.map Itm.z).filter fun y=>decide (atI y.1 v=nn)):=by
    have:=b3.out.pick g.z (List.mem_map.2 ⟨g,bt.out,rfl⟩);have hn:g.z.1=nn:=by rw[<-bC,hg];rfl
    rw[hn] at this;exact this
   have f1:g.l.length<=400:=nT (hR.out.sub g bt.out).1 c6;clear c8 hg bv bC b2
   go_wp2_with (first
    | (at_lookup;refine wpList_lookup_own_ok_int _ rfl _ _ 242 rfl 3 3 I vR Tryz.underlying242 Tryz.underlying3 (sF _) w.heap.size b.length _ rfl cf.out _ _ rfl be ?_;intro c' ap ds;(obtain rfl:c'=(i:Int):=by (rw[c3.out] at ap;cases ap;rfl)))
    | fail)
   obtain ⟨f,dG⟩:=jb0 wr.heap.size;have es:O (∀b,u12.ownBlock=some b->b≠f):=fun b hb e=>by have:=(World.ownsRow.lt hS.out.2.2.1.own b hb).2;omega
   obtain ⟨P,hP⟩:=jb0 (aP ((a.take k).map Itm.z) (b.map Itm.z) cn v);have hO:O (er L P/\L.length<=401/\OwnT WX F.heap.size u12 L/\aP ((a.take (k+1)).map Itm.z) (b.map Itm.z) cn v=P++prs x.z (g.l.map Itm.z)):=⟨by rw[<-hP];exact hS.out.1,hS.out.2.1,hS.out.2.2.1.gr a4.out,by rw[bN.out,hP,ea.out]⟩;have dy:=ja1 (hH.out.2.2.2.1 x dx.out);rw[dG] at x0 x1 dp ⊢;clear cf bd ap ds be y0 hS bN a4 dG a6 hI;go_loopw [12,50] (fun u i wi=>∃(m:Nat) (M:List Itm),m<=g.l.length/\i= .int I m/\O (er M (P++prs x.z ((g.l.take m).map Itm.z))/\M.length<=401/\OwnT wi F.heap.size u M/\Y F.heap.size F wi/\(∀b,u.ownBlock=some b->b≠f)/\wi.cell? (jb5 f 0)=some (V (some (jb5 rb ro)) x.r.length x.c)/\wi.cell? (jb5 f 1)=some (.int I x.n)/\f<wi.heap.size)) (fun _ i _=>g.l.length-(intOf i).toNat);exact ⟨0,L,nZ _,rfl,by simpa[prs] using hO.out.1,hO.out.2.1,hO.out.2.2.1,bs.out,es.out,x0,x1,dp⟩;obtain ⟨m,M,hm,rfl,j⟩:=hrel;by_cases a1:m<g.l.length
   ·have ce:(m:Int)<(g.l.length:Int):=(by omega);have b9:=ja1 (hR.out.items hH.out.2.1.items j.out.2.2.2.1 bt.out);obtain ⟨yb,f7,e5,f5,b6⟩:=b9.out.at a1;obtain ⟨y,hy⟩:=jb0 (g.l[m]);obtain ⟨e2,e3⟩:=b6 m a1;rw[hy] at e2 e3;have b0:O (y∈g.l):=by show _∈_;rw[<-hy];exact gM a1
    have d1:=ja1 (hH.out.2.2.2.2 y ((hR.out.sub g bt.out).2 y b0.out));have a2:O (P++prs x.z ((g.l.take (m+1)).map Itm.z)=(P++prs x.z ((g.l.take m).map Itm.z))++[(x.r++y.r,x.n*y.n)]):=by show _=_;rw[wW a1,hy,List.append_assoc];rfl
    have a9:O (okW (x.n*y.n)=false->E=5/\j4 (a.map Itm.z) (b.map Itm.z) cn v=[]):=fun hn=>by
     have bC:((x.r++y.r,x.n*y.n):Zit)∈aP (a.map Itm.z) (b.map Itm.z) cn v:=(by refine wS (k:=k+1) _ _ _ ?_;rw[hO.out.2.2.2];exact List.mem_append.2 (oR (List.mem_map.2 ⟨y.z,List.mem_map.2 ⟨y,b0.out,rfl⟩,rfl⟩)));have cr:gP (a.map Itm.z) (b.map Itm.z) cn v=5:=by unfold gP;rw[if_neg];intro h;have:=List.all_eq_true.1 h _ bC;rw[hn] at this;cases this
     exact ⟨by rw[<-cs.out,cr],by unfold j4;rw[if_neg (by rw[cr];decide)]⟩
    have eb: -1125899906842624<=x.n*y.n/\x.n*y.n<=1125899906842624:=(by have h1:=dy.out.2;have h2:=d1.out.2;simp only[okW,inB,Bool.and_eq_true,decide_eq_true_eq] at h1 h2;exact jM (x:=x.n) (y:=y.n) ⟨by omega,by omega⟩ h2);have e4:IntKind.i64.wrap (x.n*y.n)=x.n*y.n:=by rw[IntKind.wrap_i64];omega
    obtain ⟨WY,bp⟩:=jb0 (wr.alloc (Z #[V y.p y.r.length y.c,.int I y.n] 101));have ah:O (Gr wr WY):=by show Gr _ _;rw[<-bp];exact (gR _).alloc _
    have z0:WY.cell? (jb5 wr.heap.size 0)=some (V y.p y.r.length y.c):=(by rw[<-bp];exact ab (gR _) rfl);have z1:WY.cell? (jb5 wr.heap.size 1)=some (.int I y.n):=by rw[<-bp];exact ab (gR _) rfl
    have en:wr.heap.size<WY.heap.size:=(by rw[<-bp];simp);have k0:WY.cell? (jb5 f 0)=some (V (some (jb5 rb ro)) x.r.length x.c):=(ah.out.below.cell (p:=(jb5 f 0)) j.out.2.2.2.2.2.2.2).trans j.out.2.2.2.2.2.1;have k1:WY.cell? (jb5 f 1)=some (.int I x.n):=(ah.out.below.cell (p:=(jb5 f 1)) j.out.2.2.2.2.2.2.2).trans j.out.2.2.2.2.2.2.1;have a8:=ja1 (j.out.2.2.2.1.trans (ah.out.below.mono j.out.2.2.2.1.size));have b7:=ja1 (hR.out.bel.trans (a8.out.mono hR.out.bel.size));obtain ⟨N,hN⟩:=jb0 (x.n*y.n);rw[hN] at e4 a2 a9 eb;have e8:=ja1 hN;rw[e5];clear b6 hy;by_cases f4:N < -1048576
    ·have d:O (E=5/\j4 (a.map Itm.z) (b.map Itm.z) cn v=[]):=a9.out (by simp[okW,inB];omega);go_wp2;go_ret2;exact ⟨[],none,0,by rw[d.out.1];rfl,by rw[d.out.2];rfl,⟨⟨oL rfl,fun x hx=>(by cases hx)⟩,fun _=>rfl,nZ _⟩,b7.out,NwT.none _ _⟩
    ·by_cases cj:1048576<N
     ·have d:O (E=5/\j4 (a.map Itm.z) (b.map Itm.z) cn v=[]):=a9.out (by simp[okW,inB];omega);go_wp2;go_ret2;exact ⟨[],none,0,by rw[d.out.1];rfl,by rw[d.out.2];rfl,⟨⟨oL rfl,fun x hx=>(by cases hx)⟩,fun _=>rfl,nZ _⟩,b7.out,NwT.none _ _⟩
     ·have b1:O (okW N=true):=(by show _=_;simp[okW,inB];omega);obtain ⟨MA,mc,ec,f3,_,_⟩:=j.out.2.2.1.items;subst ec;by_cases bc:M.length<=400
      ·have d8:(M.length:Int)<=400:=(by omega);obtain ⟨R,cc⟩:=jb0 (x.r++y.r);have dv:x.r.length<=8:=by have:=dy.out.1;simp only[okR,Bool.and_eq_true,decide_eq_true_eq] at this;exact this.1
       have d0:y.r.length<=8:=(by have:=d1.out.1;simp only[okR,Bool.and_eq_true,decide_eq_true_eq] at this;exact this.1);have ak:=uK x.r y.r (some (jb5 rb ro)) y.p x.c y.c WY dv d0 (fun h=>by cases h) (b9.out.each y b0.out).2.2 (by rw[<-ej.out.1];exact (((hH.out.1.items.each x dx.out).1.below b7.out))) ((b9.out.each y b0.out).1.gr ah.out);rw[cc] at ak a2;have ba:O _:=ak;have cG:O (R.length<=16):=by show _<=_;rw[<-cc];simp;omega
       clear ak cc dv d0;go_wp2_with fail;refine ja0 ba ?_;rintro e w3 ⟨C,c2,rfl,r1,r2,r3,r4⟩;have c4:=ja2 r4 (a8.out.trans (r4.mono a8.out.size));have ao:O (OwnT (w3.alloc (Z #[V C R.length c2,.int I N] 101)) F.heap.size (V MA M.length mc) M/\aC aE 2 (w3.alloc (Z #[V C R.length c2,.int I N] 101)) (some (jb5 w3.heap.size 0)) [(⟨C,c2,R,N⟩:Itm)]/\Apart (w3.alloc (Z #[V C R.length c2,.int I N] 101)) F.heap.size (Value.slice MA M.length mc).ownBlock (⟨C,c2,R,N⟩:Itm)/\M.length+1<=maxLen/\(M.length+1)*32<=140737488355328/\Y F.heap.size F (w3.alloc (Z #[V C R.length c2,.int I N] 101))):=by
        have d2:=cG.out;refine ⟨((j.out.2.2.1.gr ah.out).below r4).gr ((gR _).alloc _),bV rfl (⟨C,c2,R,N⟩:Itm) _,⟨r1.gr ((gR _).alloc _),nT d2 (by decide),r2,fun ad cd=>⟨?_,?_,?_⟩⟩,by unfold maxLen;omega,by omega,c4.out.2.alloc c4.out.2.size _⟩
        ·have h1:=(r3 ad cd).1;have h2:=a8.out.size;omega
        ·have h1:=(r3 ad cd).2;simp;omega
        ·intro e;have h1:=(World.ownsRow.lt j.out.2.2.1.own ad.block e).2;have h2:=(r3 ad cd).1;omega
       have c0:(w3.alloc (Z #[V C R.length c2,.int I N] 101)).cell? (jb5 f 0)=some (V (some (jb5 rb ro)) x.r.length x.c):=(((r4.trans (((gR w3).alloc _).below.mono r4.size)).cell (p:=(jb5 f 0)) (nL j.out.2.2.2.2.2.2.2 ah.out.size)).trans k0);have c1:(w3.alloc (Z #[V C R.length c2,.int I N] 101)).cell? (jb5 f 1)=some (.int I x.n):=(((r4.trans (((gR w3).alloc _).below.mono r4.size)).cell (p:=(jb5 f 1)) (nL j.out.2.2.2.2.2.2.2 ah.out.size)).trans k1);have b5:f<(w3.alloc (Z #[V C R.length c2,.int I N] 101)).heap.size:=nL j.out.2.2.2.2.2.2.2 (nT ah.out.size (nT r4.size (by simp)));have a3:=ja3 c0 c1 b5;have q1:w3.cell? (jb5 wr.heap.size 1)=some (.int I y.n):=(r4.cell (p:=(jb5 wr.heap.size 1)) en).trans z1;clear r1 r2 r3 r4 ba c0 c1 b5;go_wp2_with (at_builtin;refine ke _ rfl _ _ rfl F.heap.size (V MA M.length mc) M (⟨C,c2,R,N⟩:Itm) (jb5 w3.heap.size 0) 1 rfl rfl ao.out.1 ao.out.2.1 ao.out.2.2.1 ao.out.2.2.2.1 ao.out.2.2.2.2.1 ao.out.2.2.2.2.2.size ?_;intro v4 w4 bo c5 a0 bh);have d:O (er (M++[(⟨C,c2,R,N⟩:Itm)]) (P++prs x.z ((g.l.take (m+1)).map Itm.z))/\(M++[(⟨C,c2,R,N⟩:Itm)]).length<=401/\OwnT w4 F.heap.size v4 (M++[(⟨C,c2,R,N⟩:Itm)])/\Y F.heap.size F w4/\(∀b,v4.ownBlock=some b->b≠f)/\w4.cell? (jb5 f 0)=some (V (some (jb5 rb ro)) x.r.length x.c)/\w4.cell? (jb5 f 1)=some (.int I x.n)/\f<w4.heap.size):=by
        have dk:some f≠(Value.slice MA M.length mc).ownBlock:=fun e=>j.out.2.2.2.2.1 f e.symm rfl;refine ⟨by rw[a2.out];exact ui (y:=(⟨C,c2,R,N⟩:Itm)) j.out.1 bc b1.out,by simp;omega,bo,ao.out.2.2.2.2.2.trans c5,fun bl aL=> ?_,(World.cell?_of_block (a:=(jb5 f 0)) (a0.block _ a3.out.2.2 dk)).trans a3.out.1,(World.cell?_of_block (a:=(jb5 f 1)) (a0.block _ a3.out.2.2 dk)).trans a3.out.2.1,nL a3.out.2.2 a0.size⟩;rcases bh with e|e
        ·rw[e] at aL;exact j.out.2.2.2.2.1 bl aL
        ·rw[e] at aL;have h1:=a3.out.2.2;intro e2;simp at aL h1;omega
       clear bo c5 a0 bh;go_roundw;exact ⟨m+1,M++[(⟨C,c2,R,N⟩:Itm)],by omega,by go_num,d⟩;simp[intOf];omega
      ·have d8:¬(M.length:Int)<=400:=(by omega);have d:O (er M (P++prs x.z ((g.l.take (m+1)).map Itm.z))/\M.length<=401/\OwnT WY F.heap.size (V MA M.length mc) M/\Y F.heap.size F WY/\(∀b,(Value.slice MA M.length mc).ownBlock=some b->b≠f)/\WY.cell? (jb5 f 0)=some (V (some (jb5 rb ro)) x.r.length x.c)/\WY.cell? (jb5 f 1)=some (.int I x.n)/\f<WY.heap.size):=⟨by rw[a2.out];exact uh j.out.1 bc b1.out,j.out.2.1,j.out.2.2.1.gr ah.out,a8.out,j.out.2.2.2.2.1,k0,k1,nL j.out.2.2.2.2.2.2.2 ah.out.size⟩;go_wp2;go_roundw;exact ⟨m+1,M,by omega,by go_num,d⟩;simp[intOf];omega
   ·have ce:¬(m:Int)<(g.l.length:Int):=(by omega);have d:O (er M (aP ((a.take (k+1)).map Itm.z) (b.map Itm.z) cn v)/\M.length<=401/\OwnT wr F.heap.size u12 M/\Y F.heap.size F wr):=⟨by have:=j.out.1;rw[List.take_of_length_le (by omega)] at this;rw[hO.out.2.2.2];exact this,j.out.2.1,j.out.2.2.1,j.out.2.2.2.1⟩
    go_wp2;go_roundw;exact ⟨k+1,M,by omega,by go_num,d⟩;simp[intOf];omega
 ·have dg:¬(k:Int)<(a.length:Int):=by omega
  obtain ⟨A2,cm,ey,cj,c9,_⟩:=hS.out.2.2.1.items;have a7:O (L.map Itm.z=(aP (a.map Itm.z) (b.map Itm.z) c v).take 401/\gP (a.map Itm.z) (b.map Itm.z) c v=bS ((aP (a.map Itm.z) (b.map Itm.z) c v).take 401)):=by have h1:=hS.out.1;rw[List.take_of_length_le (by omega)] at h1;exact ⟨h1.1,by unfold gP;rw[if_pos h1.2]⟩
  have cv:=oG (W:=wr) (A:=A2) (c:=cm) (l:=L) ⟨c9,cj,by have:=hS.out.2.1;unfold maxLen;omega⟩ a7.out.1;have hN:O _:=cv;have b8:=ja1 (hR.out.bel.trans (hS.out.2.2.2.mono hR.out.bel.size));have d3:O (bS ((aP (a.map Itm.z) (b.map Itm.z) c v).take 401)=E):=by show _=_;rw[<-a7.out.2,cs.out]
  subst ey;clear c9 cj cv;go_wp2_with fail;refine ja0 hN ?_;rintro e w2 ⟨L2,C2,k2,rfl,h1,h2,h3,h4⟩;rw[d3.out];have d:O (L2.map Itm.z=j4 (a.map Itm.z) (b.map Itm.z) c v/\Lv w2 C2 k2 L2/\Y w.heap.size w w2/\NwT w2 k2 w.heap.size C2 L2):=by
   refine ⟨?_,h2,b8.out.trans (h3.mono b8.out.size),h4.mono b8.out.size⟩;rw[h1];unfold j4;rw[a7.out.2];by_cases e:bS ((aP (a.map Itm.z) (b.map Itm.z) c v).take 401)=0
   ·rw[if_pos e]
   ·rw[if_neg e];exact mf e
  clear h1 h2 h3 h4 hN;go_wp2;go_ret2;exact ⟨L2,C2,k2,rfl,d.out.1,d.out.2.1,d.out.2.2.1,d.out.2.2.2⟩

structure OneOk (s:Stp) (l:List Itm):Prop where
 len:l.length<=400
 ok:∀x∈l,okR x.r=true/\okW x.n=true
 k2:s.k=2->inB s.o 1 3=true/\∀x∈l,inB s.c 0 ((x.r.length:Int)-1)=true
 k3:s.k=3->s.l.length<=8/\∀x∈l,∀c∈s.l,inB c 0 ((x.r.length:Int)-1)=true
 k8:s.k=8->∀x∈l,inB s.c 0 ((x.r.length:Int)-1)=true
 k9:s.k=9->∀x∈l,inB s.c 0 ((x.r.length:Int)-1)=true/\inB s.v 0 ((x.r.length:Int)-1)=true

theorem yM (s:Stp) (l:List Itm) (A:Option X) (cap:Nat) (w:U) (f:s.k=2\/s.k=3\/s.k=8\/s.k=7\/s.k=9) (ho:OneOk s l) (hr:Items w A l) (hs:aq w s.p s.l) :
  K J 183 #[.agg #[.int I s.k,.int I s.a,.int I s.b,.int I s.c,.int I s.o,.int I s.v,V s.p s.l.length s.n],V A l.length cap] w fun e w'=>∃(L:List Itm) (C:Option X) (k:Nat),e= .returned (V C L.length k)/\L.map Itm.z=dS s (l.map Itm.z)/\Lv w' C k L/\L.length<=400/\jb2 w w':=by
 have g:O (OneOk s l/\Items w A l/\aq w s.p s.l):=⟨ho,hr,hs⟩;rcases f with f|f|f|f|f
 ·have h:=uw l A cap s.c s.o s.v (w.alloc (Z #[.int I 2,.int I s.a,.int I s.b,.int I s.c,.int I s.o,.int I s.v,V s.p s.l.length s.n] 132)) g.out.1.len (g.out.2.1.gr ((gR _).alloc _)) (g.out.1.k2 f).2 (g.out.1.k2 f).1;have E:O _:=h;have F:O (dS s (l.map Itm.z)=bM (l.map Itm.z) s.c s.o s.v):=by show _=_;unfold dS;rw[if_pos f]
  rw[f];go_enter Tryz.func183,Tryz.ntmps183;go_wp2_with fail;refine ja0 E ?_;rintro e j ⟨L,C,k,rfl,m,r,u,D⟩;have d:O (L.map Itm.z=dS s (l.map Itm.z)/\Lv j C k L/\jb2 w j):=⟨by rw[F.out];exact m,r,((gR _).alloc _).below.trans (D.mono (by simp))⟩;go_wp2;go_ret;exact ⟨L,C,k,rfl,d.out.1,d.out.2.1,u,d.out.2.2⟩
 ·have h:=wV l A s.p cap s.n s.l (w.alloc (Z #[.int I 3,.int I s.a,.int I s.b,.int I s.c,.int I s.o,.int I s.v,V s.p s.l.length s.n] 132)) g.out.1.len (g.out.1.k3 f).1 (g.out.2.1.gr ((gR _).alloc _)) (g.out.2.2.gr ((gR _).alloc _)) (g.out.1.k3 f).2;have E:O _:=h;have F:O (dS s (l.map Itm.z)=dj (l.map Itm.z) s.l):=by show _=_;unfold dS;rw[if_neg (by omega),if_pos f]
  rw[f];go_enter Tryz.func183,Tryz.ntmps183;go_wp2_with fail;refine ja0 E ?_;rintro e j ⟨L,C,k,rfl,m,r,u,D⟩;have d:O (L.map Itm.z=dS s (l.map Itm.z)/\Lv j C k L/\jb2 w j):=⟨by rw[F.out];exact m,r,((gR _).alloc _).below.trans (D.mono (by simp))⟩;go_wp2;go_ret;exact ⟨L,C,k,rfl,d.out.1,d.out.2.1,u,d.out.2.2⟩
 ·have h:=sR l A cap s.c (w.alloc (Z #[.int I 8,.int I s.a,.int I s.b,.int I s.c,.int I s.o,.int I s.v,V s.p s.l.length s.n] 132)) g.out.1.len (g.out.2.1.gr ((gR _).alloc _)) (g.out.1.k8 f) g.out.1.ok;have E:O _:=h;have F:O (dS s (l.map Itm.z)=jD (l.map Itm.z) s.c):=by show _=_;unfold dS;rw[if_neg (by omega),if_neg (by omega),if_neg (by omega),if_pos f]
  rw[f];go_enter Tryz.func183,Tryz.ntmps183;go_wp2_with fail;refine ja0 E ?_;rintro e j ⟨L,C,k,rfl,m,r,u,D⟩;have d:O (L.map Itm.z=dS s (l.map Itm.z)/\Lv j C k L/\jb2 w j):=⟨by rw[F.out];exact m,r,((gR _).alloc _).below.trans (D.mono (by simp))⟩;go_wp2;go_ret;exact ⟨L,C,k,rfl,d.out.1,d.out.2.1,u,d.out.2.2⟩
 ·have h:=uV l A cap (w.alloc (Z #[.int I 7,.int I s.a,.int I s.b,.int I s.c,.int I s.o,.int I s.v,V s.p s.l.length s.n] 132)) g.out.1.len (g.out.2.1.gr ((gR _).alloc _));have E:O _:=h;have F:O (dS s (l.map Itm.z)=de (l.map Itm.z)):=by show _=_;unfold dS;rw[if_neg (by omega),if_neg (by omega),if_pos f]
  rw[f];go_enter Tryz.func183,Tryz.ntmps183;go_wp2_with fail;refine ja0 E ?_;rintro e j ⟨L,C,k,rfl,m,r,u,D⟩;have d:O (L.map Itm.z=dS s (l.map Itm.z)/\Lv j C k L/\jb2 w j):=⟨by rw[F.out];exact m,r,((gR _).alloc _).below.trans (D.mono (by simp))⟩;go_wp2;go_ret;exact ⟨L,C,k,rfl,d.out.1,d.out.2.1,u,d.out.2.2⟩
 ·have h:=xz l A cap s.c s.v (w.alloc (Z #[.int I 9,.int I s.a,.int I s.b,.int I s.c,.int I s.o,.int I s.v,V s.p s.l.length s.n] 132)) g.out.1.len (g.out.2.1.gr ((gR _).alloc _)) (fun x R=>(g.out.1.k9 f x R).1) (fun x R=>(g.out.1.k9 f x R).2) g.out.1.ok;have E:O _:=h;have F:O (dS s (l.map Itm.z)=um (l.map Itm.z) s.c s.v):=by show _=_;unfold dS;rw[if_neg (by omega),if_neg (by omega),if_neg (by omega),if_neg (by omega)]
  rw[f];go_enter Tryz.func183,Tryz.ntmps183;go_wp2_with fail;refine ja0 E ?_;rintro e j ⟨L,C,k,rfl,m,r,u,D⟩;have d:O (L.map Itm.z=dS s (l.map Itm.z)/\Lv j C k L/\jb2 w j):=⟨by rw[F.out];exact m,r,((gR _).alloc _).below.trans (D.mono (by simp))⟩;go_wp2;go_ret;exact ⟨L,C,k,rfl,d.out.1,d.out.2.1,u,d.out.2.2⟩

theorem wn {b:List Zit} (h:am b=0):i7 b=cW b:=by unfold i7;rw[if_pos h];rfl
theorem rE (a b:List Itm) (A B:Option X) (ca cb:Nat) (w:U) (ha:Lv w A ca a) (hb:Lv w B cb b) (E:am (b.map Itm.z)=0) :
  K J 182 #[V A a.length ca,V B b.length cb] w fun e w'=>∃(L:List Itm) (C:Option X) (k:Nat),e= .returned (T #[V C L.length k,.int I (lY (a.map Itm.z) (b.map Itm.z))])/\L.map Itm.z=oE (a.map Itm.z) (b.map Itm.z)/\Lv w' C k L/\jb2 w w'/\NwT w' k w.heap.size C L:=by
 have r:=AQ hb (m:=b.map Itm.z) rfl;have D:O _:=r;have l:=ja2 ha E;rw[E] at D;go_enter Tryz.func182,Tryz.ntmps182;go_wp2_with fail;refine ja0 D ?_;rintro e w1 ⟨L1,C1,k1,rfl,f,g,d⟩;have h:=oS (l.out.1.below d) g (m:=a.map Itm.z) (n:=cW (b.map Itm.z)) rfl (by rw[f,wn l.out.2]);have hA:O _:=h;have j:=ja1 d;go_wp2_with fail;refine ja0 hA ?_;rintro e R ⟨L,C,k,rfl,f,g,d,h4⟩;have u:=ja1 (h4.mono j.out.size);have c:O (bi (a.map Itm.z) (cW (b.map Itm.z))=lY (a.map Itm.z) (b.map Itm.z)/\L.map Itm.z=oE (a.map Itm.z) (b.map Itm.z)/\Lv R C k L/\jb2 w R):=by
  have F:lY (a.map Itm.z) (b.map Itm.z)=bi (a.map Itm.z) (cW (b.map Itm.z)):=by unfold lY;rw[if_pos l.out.2]
  refine ⟨F.symm,?_,g,j.out.trans (d.mono j.out.size)⟩;rw[f];unfold oE;rw[F];by_cases e:bi (a.map Itm.z) (cW (b.map Itm.z))=0
  ·rw[if_pos e]
  ·rw[if_neg e];unfold aZ;rw[if_neg e]
 go_wp2;go_ret2;exact ⟨L,C,k,by rw[c.out.1];rfl,c.out.2.1,c.out.2.2.1,c.out.2.2.2,u.out⟩
theorem A9 {W:U} {A B:Option X} {c d:Nat} {l r:List Itm} (h:Lv W A c l) (f:Lv W B d r) (g:am (r.map Itm.z)=0) {m n:List Zit} (j:l.map Itm.z=m) (u:r.map Itm.z=n) :
  K J 182 #[V A l.length c,V B r.length d] W fun e w'=>∃(L:List Itm) (C:Option X) (k:Nat),e= .returned (T #[V C L.length k,.int I (lY m n)])/\L.map Itm.z=oE m n/\Lv w' C k L/\jb2 W w'/\NwT w' k W.heap.size C L:=by subst j u;exact rE l r A B c d W h f g
structure JoinOk (c v:Int) (l r:List Itm):Prop where
 la:l.length<=400
 lb:r.length<=400
 c:∀x∈l,inB c 0 ((x.r.length:Int)-1)=true
 v:∀x∈r,inB v 0 ((x.r.length:Int)-1)=true
 oa:∀x∈l,okR x.r=true/\okW x.n=true
 ob:∀x∈r,okR x.r=true/\okW x.n=true
theorem AG {W:U} {A B:Option X} {c d:Nat} {l r:List Itm} {cc v:Int} (h:Lv W A c l) (g:Lv W B d r) (f:JoinOk cc v l r) {m n:List Zit} (j:l.map Itm.z=m) (u:r.map Itm.z=n) :
  K J 181 #[V A l.length c,V B r.length d,.int I cc,.int I v] W fun e w'=>∃(L:List Itm) (C:Option X) (k:Nat),e= .returned (T #[V C L.length k,.int I (gP m n cc v)])/\L.map Itm.z=j4 m n cc v/\Lv w' C k L/\jb2 W w'/\NwT w' k W.heap.size C L:=by subst j u;exact tQ l r A B c d cc v W f.la f.lb h g f.c f.v f.oa f.ob
end Go.Proofs.YtbkjgjjpnfhkhaaGreatDoor

namespace Go.Proofs.YtbkjgjjpnfhkhaaGreatDoor

theorem fB {s:Stp} {t:List Stp} {c:List Int} (h:(bT (s::t) c).isSome=true):aB s c≠0/\(bT t (c++[aB s c])).isSome=true:=by
 have d:(if aB s c=0 then none else bT t (c++[aB s c])).isSome=true:=h;by_cases e:aB s c=0
 ·rw[if_pos e] at d;cases d
 ·rw[if_neg e] at d;exact ⟨e,d⟩
theorem dO {q:List Stp} (h:bX q=0):q≠[]/\q.length<=8/\(bT q []).isSome=true:=by
 unfold bX at h;by_cases c:q.length=0
 ·rw[if_pos c] at h;cases h
 ·rw[if_neg c] at h;by_cases d:8<q.length
  ·rw[if_pos d] at h;cases h
  ·rw[if_neg d] at h;by_cases f:(bT q []).isSome=true
   ·exact ⟨fun e=>c (by rw[e];rfl),by omega,f⟩
   ·rw[if_neg f] at h;cases h
theorem sH {a b:List Zit} {s:Stp} {t:List Stp} {S:List (List Zit)} (h:g9 a b (s::t) S=0):aK s a b S=0/\g9 a b t (S++[aJ s a b S])=0/\gB a b (s::t) S=gB a b t (S++[aJ s a b S]):=by
 have c:(if aK s a b S=0 then g9 a b t (S++[aJ s a b S]) else aK s a b S)=0:=h;by_cases e:aK s a b S=0
 ·rw[if_pos e] at c;refine ⟨e,c,?_⟩;show (if aK s a b S=0 then _ else [])=_;rw[if_pos e]
 ·rw[if_neg e] at c;exact absurd c e
theorem jA {a b:List Zit} (f:cQ 4 a) (g:cQ 4 b):∀(q:List Stp) (d:List Int) (S:List (List Zit)),(bT q d).isSome=true->Ahd S d->g9 a b q S=0->∃c,Ahd (gB a b q S) c/\(gB a b q S).length=S.length+q.length
 | [],d,S,_,hS,_=>⟨d,hS,by simp[gB]⟩
 | s::t,d,S,hw,hS,he=>by obtain ⟨l,m⟩:=fB hw;obtain ⟨h,j,k⟩:=sH he;obtain ⟨u,C⟩:=jc l hS f g h;obtain ⟨c,n,r⟩:=jA f g t _ _ m (hS.snoc u C) j;rw[k];exact ⟨c,n,by rw[r];simp;omega⟩
def el (q:List Stp) (a b:List Zit):List Zit:=(eu q a b).getD (q.length-1) []
theorem gQ {q:List Stp} {a b:List Zit} (h:ct q a b=0):ff q a b=0/\g9 a b q []=0/\eu q a b=gB a b q []:=by
 have c:=h;unfold ct at h;by_cases e:ff q a b=0
 ·rw[if_pos e] at h;exact ⟨e,h,by unfold eu;rw[if_pos c]⟩
 ·rw[if_neg e] at h;exact absurd h e
theorem aT {q:List Stp} {a b:List Zit} (h:ff q a b=0):bX q=0/\am a=0/\am b=0/\cQ 4 a/\cQ 4 b:=by
 unfold ff at h;by_cases d:bX q=0
 ·rw[if_pos d] at h;by_cases f:am a=0
  ·rw[if_pos f] at h;by_cases g:am b=0
   ·rw[if_pos g] at h;by_cases j:(a++b).all (fun x=>decide (x.1.length=4))=true
    ·have k:∀x∈a++b,x.1.length=4:=(fun x c=>by simpa using List.all_eq_true.1 j x c);exact ⟨d,f,g,fun x c=>by rw[k x (List.mem_append.2 (Or.inl c))];rfl,fun x c=>by rw[k x (List.mem_append.2 (Or.inr c))];rfl⟩
    ·rw[if_neg j] at h;cases h
   ·rw[if_neg g] at h;exact absurd h g
  ·rw[if_neg f] at h;exact absurd h f
 ·rw[if_neg d] at h;exact absurd h d
theorem sX {q:List Stp} {a b:List Zit} (h:ct q a b=0):am (el q a b)=0:=by obtain ⟨d,f,g⟩:=gQ h;obtain ⟨j,_,_,k,l⟩:=aT d;obtain ⟨r,_,u⟩:=dO j;obtain ⟨c,m,n⟩:=jA k l q [] [] u Ahd.nil f;have C:0<q.length:=List.length_pos_iff.2 r;unfold el;rw[g];exact (m.ok _ (by rw[n];simp;omega)).1
end Go.Proofs.YtbkjgjjpnfhkhaaGreatDoor
