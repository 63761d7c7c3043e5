import Derived.Test.YtbkjgjjpnfhkhaaGreatDoorM33
import Derived.StringKeys
set_option maxRecDepth 100000
set_option maxHeartbeats 8000000
open Go renaming World → Z, Calls → X, Value → M, Addr → ia
open Go.Ending renaming returned → Y
open Go.IntKind renaming i64 → J
open Go.Obj renaming cells → U
open Go.Proofs.Tryz renaming prog → I
open Go.RowKit renaming Hid → O
open Go.Value renaming slice → V
namespace Go.Proofs.YtbkjgjjpnfhkhaaGreatDoor
open Go.RowKit Go.Sort

def I64 (n:Int):Prop:= -9223372036854775808<=n/\n<=9223372036854775807
theorem rn {n:Int} (h:I64 n) {w:Z} (d:fC w):X I 160 #[.int J n] w fun e w'=>e= Y (.string ⟨(Lib.itoa n).toArray⟩)/\Gr w w':=by have c:=Any.strconv_Itoa Tryz.lays171 n h.1 h.2 w d;change X I 160 _ _ _ at c;exact c
theorem nz {n:Int} (h:I64 n):(Lib.itoa n).length<=21:=Lib.itoa_length_le n (by have:=h.1;omega) (by have:=h.2;omega)
def nmL (r:List Int):List UInt8:=r.flatMap fun x=>Lib.itoa x++[44]
theorem wE {r:List Int} {k:Nat} (h:k<r.length):nmL (r.take (k+1))=nmL (r.take k)++(Lib.itoa r[k]++[44]):=by unfold nmL;rw[List.take_succ_eq_append_getElem h,List.flatMap_append,List.flatMap_cons,List.flatMap_nil,List.append_nil]
theorem kO:∀ {r:List Int},(∀x∈r,I64 x)->(nmL r).length<=r.length*22
 | [],_=>by simp[nmL]
 | x::r,h=>by
  have d:=kO (r:=r) fun y c=>h y (mC _ c);have f:=nz (h x (mS ..));have e:nmL (x::r)=Lib.itoa x++[44]++nmL r:=by simp[nmL]
  rw[e];simp only[List.length_append,List.length_cons,List.length_nil];omega
theorem nh:∀ {x y u v:List UInt8},(44:UInt8) ∉ x->(44:UInt8) ∉ y->x++44::u=y++44::v->x=y/\u=v
 | [],[],u,v,_,_,h=>by simp at h;exact ⟨rfl,h⟩
 | [],b::y,u,v,_,hy,h=>by simp at h;exact absurd (by rw[h.1];simp) hy
 | a::x,[],u,v,hx,_,h=>by simp at h;exact absurd (by rw[<-h.1];simp) hx
 | a::x,b::y,u,v,hx,hy,h=>by simp only[List.cons_append,List.cons.injEq] at h;obtain ⟨c,d⟩:=nh (fun e=>hx (mC _ e)) (fun e=>hy (mC _ e)) h.2;exact ⟨by rw[h.1,c],d⟩
theorem pn (u:Nat):(44:UInt8) ∉ Lib.decDigits u:=by
 induction u using Nat.strongRecOn with
 | ind u ih =>
  intro c
  rw[Lib.decDigits] at c
  have f:∀d,d<10->(44:UInt8)≠UInt8.ofNat (48+d):=fun d j e=>by
   have:=congrArg UInt8.toNat e
   rw[UInt8.toNat_ofNat'] at this
   have g:(44:UInt8).toNat=44:=rfl
   omega
  split at c
  ·next h=>exact f u h (List.mem_singleton.1 c)
  ·next h =>
   rcases List.mem_append.1 c with c|c
   ·exact ih (u / 10) (by omega) c
   ·exact f _ (Nat.mod_lt _ (by decide)) (List.mem_singleton.1 c)
theorem lS (n:Int):(44:UInt8) ∉ Lib.itoa n:=by
 unfold Lib.itoa;split
 ·intro h;rcases List.mem_cons.1 h with e|e
  ·exact absurd e (by decide)
  ·exact pn _ e
 ·exact pn _
theorem rU (u:Nat):(Lib.decDigits u).foldl (fun n b=>n*10+(b.toNat-48)) 0=u:=by
 induction u using Nat.strongRecOn with
 | ind u ih =>
  have c:∀d,d<10->(UInt8.ofNat (48+d)).toNat-48=d:=fun d f=>by rw[UInt8.toNat_ofNat'];omega
  rw[Lib.decDigits]
  split
  ·next h=>simp only[List.foldl_cons,List.foldl_nil];rw[c u h];omega
  ·next h =>
   rw[List.foldl_append,ih (u / 10) (by omega)]
   simp only[List.foldl_cons,List.foldl_nil]
   rw[c _ (Nat.mod_lt _ (by decide))]
   omega
theorem po (u:Nat):∀b t,Lib.decDigits u=b::t->b≠45:=by
 intro b t h e;have j:∀c∈Lib.decDigits u,c≠45:=by
  clear h;induction u using Nat.strongRecOn with
  | ind u ih =>
   intro c f;rw[Lib.decDigits] at f;have g:∀d,d<10->UInt8.ofNat (48+d)≠45:=fun d j e=>by have:=congrArg UInt8.toNat e;rw[UInt8.toNat_ofNat'] at this;have k:(45:UInt8).toNat=45:=rfl;omega
   split at f
   ·next h=>rw[List.mem_singleton.1 f];exact g u h
   ·next h =>
    rcases List.mem_append.1 f with f|f
    ·exact ih (u / 10) (by omega) c f
    ·rw[List.mem_singleton.1 f];exact g _ (Nat.mod_lt _ (by decide))
 exact j b (by rw[h];simp) e
theorem vL {m n:Int} (h:Lib.itoa m=Lib.itoa n):m=n:=by
 unfold Lib.itoa at h;have c:∀u v:Nat,Lib.decDigits u=Lib.decDigits v->u=v:=fun u v e=>by rw[<-rU u,<-rU v,e]
 split at h
 ·next hm =>
  split at h
  ·next hn =>
   have:=c _ _ (List.cons.inj h).2;omega
  ·next hn =>
   exfalso;exact po _ _ _ h.symm rfl
 ·next hm =>
  split at h
  ·next hn =>
   exfalso;exact po _ _ _ h rfl
  ·next hn =>
   have:=c _ _ h;omega
theorem oF:∀ {a b:List Int},nmL a=nmL b->a=b
 | [],[],_=>rfl
 | [],y::b,h=>by have:=congrArg List.length h;simp[nmL] at this
 | x::a,[],h=>by have:=congrArg List.length h;simp[nmL] at this
 | x::a,y::b,h=>by
  have e:∀(z:Int) (c:List Int),nmL (z::c)=Lib.itoa z++44::nmL c:=fun z c=>by simp[nmL]
  rw[e,e] at h;obtain ⟨d,f⟩:=nh (lS x) (lS y) h;rw[vL d,oF f]
theorem zn {x y:List UInt8} {a b c:ByteArray} (g:c=⟨(x++y).toArray⟩) (d:a=⟨x.toArray⟩) (f:b=⟨y.toArray⟩) (h:x.length+y.length<=9000000000000000000):∀w,(Op.stringOp .add a b).run I w= .ok (.string c) w:=fun w=>by
 subst g d f
 rw[run_string_add_sum w _ _ (by simp[ByteArray.size];omega),ByteArray.mk_append_mk]

theorem pY (r:List Int) (A:Option ia) (c:Nat) (w:Z) (hl:r.length<=100) (hs:∀x∈r,I64 x) (hr:aq w A r) (ht:fC w) :
  X I 138 #[V A r.length c] w fun e w'=>e= Y (.string ⟨(nmL r).toArray⟩)/\Gr w w':=by
 have E:=ja3 hr ht hs;go_enter Tryz.func138,Tryz.ntmps138;go_wp2;go_loopw [3,4] (fun v i wr=>∃(k:Nat) (B:ByteArray),k<=r.length/\i= .int J k/\v= .string B/\O (B=⟨(nmL (r.take k)).toArray⟩/\Gr w wr)) (fun _ i _=>r.length-(intOf i).toNat);exact ⟨0,⟨#[]⟩,nZ _,rfl,rfl,rfl,gR _⟩;obtain ⟨k,B,hk,rfl,rfl,l⟩:=hrel;by_cases f:k<r.length
 ·have D:(k:Int)<(r.length:Int):=by omega
  obtain ⟨bb,ao,rfl,hb,u⟩:=(E.out.1.gr l.out.2).at f;obtain ⟨n,F⟩:=jb0 (r[k]);have e0:jb1 wr bb (ao+k) (.int J n):=by have:=u k f 0 (by omega);rw[F] at this;simpa[dU] using this
  have j:I64 n:=E.out.2.2 n (by rw[<-F];exact gM f);have an:O (nmL (r.take (k+1))=nmL (r.take k)++(Lib.itoa n++[44])):=by show _=_;rw[wE f,F]
  have C:(nmL (r.take k)).length<=2200:=by have:=kO (r:=r.take k) fun x hx=>E.out.2.2 x (List.mem_of_mem_take hx);simp at this;omega
  have ak:=nz j;obtain ⟨ap,R⟩:∃ap:ByteArray,ap=⟨(Lib.itoa n).toArray⟩:=⟨_,rfl⟩;obtain ⟨aL,hJ⟩:∃aL:ByteArray,aL=⟨(Lib.itoa n++[44]).toArray⟩:=⟨_,rfl⟩;obtain ⟨m,g⟩:∃m:ByteArray,m=⟨(nmL (r.take k)++(Lib.itoa n++[44])).toArray⟩:=⟨_,rfl⟩;have s1:∀w,(Op.stringOp .add ap ⟨#[44]⟩).run I w= .ok (.string aL) w:=zn (x:=Lib.itoa n) (y:=[44]) hJ R rfl (by simp;omega);have s2:∀w,(Op.stringOp .add B aL).run I w= .ok (.string m) w:=zn g l.out.1 hJ (by simp;omega);have h:=rn j (E.out.2.1.gr l.out.2);rw[<-R] at h;have hC:O _:=h;have ad:O (m=⟨(nmL (r.take (k+1))).toArray⟩):=by show _=_;rw[an.out];exact g
  clear h R hJ g F j u ak C;go_wp2_with fail;refine ja0 hC ?_;rintro e w2 ⟨rfl,ah⟩;have d:=ja2 ad.out (l.out.2.trans ah);go_wp2;go_roundw;exact ⟨k+1,m,by omega,by go_num,rfl,d⟩;simp[intOf];omega
 ·have D:¬(k:Int)<(r.length:Int):=by omega
  have d:O (B=⟨(nmL r).toArray⟩):=by have:=l.out.1;rw[List.take_of_length_le (by omega)] at this;exact this
  go_wp2;go_ret;exact ⟨by rw[d.out];rfl,l.out.2⟩

theorem qM {a b:List Int} {k:Nat} (c:k=a.length) (d:k<b.length) (h:∀j (c:j<a.length) (d:j<b.length),j<k->bf a[j] b[j]=0):aw a b= -1:=by have:=ls (a:=a) (b:=b) (by omega) (fun j f g _=>h j f g (by omega));rw[this,if_pos (by omega)]
theorem sO {a b:List Int} {k:Nat} (c:k=a.length) (d:k=b.length) (h:∀j (c:j<a.length) (d:j<b.length),j<k->bf a[j] b[j]=0):aw a b=0:=by have:=ls (a:=a) (b:=b) (by omega) (fun j f g _=>h j f g (by omega));rw[this,if_neg (by omega)]
theorem j2 (a b:List Int) (A B:Option ia) (ca cb:Nat) (w:Z) (a1:a.length<=maxLen) (a6:aq w A a) (a7:aq w B b) :
  X I 136 #[V A a.length ca,V B b.length cb] w fun e w'=>e= Y (.int J (aw a b))/\Gr w w':=by
 have d:Tryz.prog.follows .mixedOrders=true:=by kernel_rfl
 unfold maxLen at a1;have hH:=ja2 a6 a7;go_enter Tryz.func136,Tryz.ntmps136;go_wp2;go_loopw [5] (fun i wr=>∃k:Nat,k<=a.length/\k<=b.length/\i= .int J k/\O (∀j (h1:j<a.length) (h2:j<b.length),j<k->bf a[j] b[j]=0)/\O (Gr w wr)) (fun i _=>a.length-(intOf i).toNat);exact ⟨0,nZ _,nZ _,rfl,fun j _ _ hj=>absurd hj (Nat.not_lt_zero _),gR _⟩;obtain ⟨k,hk,a9,rfl,r,l⟩:=hrel;by_cases E:k<a.length
 ·have a0:(k:Int)<(a.length:Int):=by omega
  by_cases g:k<b.length
  ·have ah:(k:Int)<(b.length:Int):=(by omega);obtain ⟨bb,an,rfl,hb,a3⟩:=(hH.out.1.gr l.out).at E;obtain ⟨x,hx⟩:=jb0 (a[k]);have e1:jb1 wr bb (an+k) (.int J x):=by have e0:=a3 k E 0 (by omega);rw[hx] at e0;simpa[dU] using e0
   obtain ⟨bc,ak,rfl,ad,aL⟩:=(hH.out.2.gr l.out).at g;obtain ⟨y,hy⟩:=jb0 (b[k]);have e2:jb1 wr bc (ak+k) (.int J y):=by have e0:=aL k g 0 (by omega);rw[hy] at e0;simpa[dU] using e0
   have f:=ja2 hx hy;have g1:=(gR wr).cellG hb e1;have g2:=(gR wr).cellG ad e2;have hc:=db x y;by_cases h1:x<y
   ·have c:O (aw a b= -1):=(by have m:bf x y= -1:=(by omega);show _=_;rw[oo E g r.out (by rw[f.out.1,f.out.2,m];decide),f.out.1,f.out.2,m]);go_wp2;refine wp_region_quiet_grown d (by kernel_rfl) ?_;repeat (go_big_quiet_step (fail))
    refine wpQuiet_nil ?_;rintro _ ⟨⟨nq,n⟩,rfl⟩;go_wp2;go_ret;exact ⟨by rw[c.out];rfl,l.out.trans ⟨nq,n,rfl⟩⟩
   ·have ao:O (∀W,Gr wr W->jb1 W bb (an+k) (.int J x)/\jb1 W bc (ak+k) (.int J y)/\bb<W.heap.size/\bc<W.heap.size):=fun W h=>⟨(h.cell (p:=(jb5 bb (an+k))) hb).trans e1,(h.cell (p:=(jb5 bc (ak+k))) ad).trans e2,nL hb h.size,nL ad h.size⟩;by_cases h2:y<x
    ·have c:O (aw a b=1):=(by have m:bf x y=1:=(by omega);show _=_;rw[oo E g r.out (by rw[f.out.1,f.out.2,m];decide),f.out.1,f.out.2,m]);go_wp2;refine wp_region_quiet_grown d (by kernel_rfl) ?_;repeat (go_big_quiet_step (fail))
     refine wpQuiet_nil ?_;rintro _ ⟨⟨nq,n⟩,rfl⟩;obtain ⟨F,u⟩:=jb0 (grow (wr.drewN nq) n);have C:Gr wr F:=⟨nq,n,u.symm⟩;rw[u];obtain ⟨q1,q2,q3,q4⟩:=ao.out F C;have g1:=(gR F).cellG q3 q1;have g2:=(gR F).cellG q4 q2;have D:=ja1 C;go_wp2;refine wp_region_quiet_grown d (by kernel_rfl) ?_;repeat (go_big_quiet_step (fail))
     refine wpQuiet_nil ?_;rintro _ ⟨⟨nr,R⟩,rfl⟩;go_wp2;go_ret;exact ⟨by rw[c.out];rfl,(l.out.trans D.out).trans ⟨nr,R,rfl⟩⟩
    ·have a5:O (bf a[k] b[k]=0):=(by have m:bf x y=0:=(by omega);show _=_;rw[f.out.1,f.out.2,m]);go_wp2;refine wp_region_quiet_grown d (by kernel_rfl) ?_;repeat (go_big_quiet_step (fail))
     refine wpQuiet_nil ?_;rintro _ ⟨⟨nq,n⟩,rfl⟩;obtain ⟨F,u⟩:=jb0 (grow (wr.drewN nq) n);have C:Gr wr F:=⟨nq,n,u.symm⟩;rw[u];obtain ⟨q1,q2,q3,q4⟩:=ao.out F C;have g1:=(gR F).cellG q3 q1;have g2:=(gR F).cellG q4 q2;have D:=ja1 C;go_wp2;refine wp_region_quiet_grown d (by kernel_rfl) ?_;repeat (go_big_quiet_step (fail))
     refine wpQuiet_nil ?_;rintro _ ⟨⟨nr,R⟩,rfl⟩;have c:O (Gr w (grow (F.drewN nr) R)):=(l.out.trans D.out).trans ⟨nr,R,rfl⟩;go_wp2;go_roundw;case rel =>
      refine ⟨k+1,by omega,by omega,by go_num,?_,c⟩;intro j hj a4 a8;by_cases e:j=k
      ·subst e;exact a5.out
      ·exact r.out j hj a4 (by omega)
     case measure=>simp[intOf];omega
  ·have ah:¬(k:Int)<(b.length:Int):=(by omega);have c:O (aw a b=1):=ng E (by omega) r.out;have ap:¬(a.length:Int)<(b.length:Int):=by omega
   have a2:(b.length:Int)<(a.length:Int):=(by omega);go_wp2;go_ret;exact ⟨by rw[c.out];rfl,l.out⟩
 ·have a0:¬(k:Int)<(a.length:Int):=by omega
  by_cases g:k<b.length
  ·have c:O (aw a b= -1):=qM (by omega) g r.out;have ap:(a.length:Int)<(b.length:Int):=by omega
   go_wp2;go_ret;exact ⟨by rw[c.out];rfl,l.out⟩
  ·have c:O (aw a b=0):=sO (by omega) (by omega) r.out;have ap:¬(a.length:Int)<(b.length:Int):=by omega
   have a2:¬(b.length:Int)<(a.length:Int):=(by omega);go_wp2;go_ret;exact ⟨by rw[c.out];rfl,l.out⟩
end Go.Proofs.YtbkjgjjpnfhkhaaGreatDoor

namespace Go.Proofs
open Go.Shelf
def Tryz.sortRow_ren:Go.Shelf.Ren:=⟨fun|6=>139|15=>95|14=>161|28=>126|29=>127|20=>194|21=>195|22=>196|23=>197|24=>198|25=>199|26=>200|27=>201|46=>225|47=>145|48=>146|49=>226|50=>227|57=>241|n=>n,fun|22=>186|24=>99|25=>182|3=>3|39=>149|0=>0|53=>173|55=>175|4=>4|46=>167|45=>166|50=>142|5=>5|9=>9|66=>189|70=>193|76=>211|77=>212|n=>n,fun|n=>n⟩
theorem Tryz.sortRow:Go.Proofs.SlLaysF.n6 I Tryz.sortRow_ren:={
 mixed:=by kernel_rfl
 f6:=⟨Tryz.f139.name,by decide,Tryz.func139.trans (congrArg some (by kernel_rfl))⟩
 f14:=⟨Tryz.f161.name,by decide,Tryz.func161.trans (congrArg some (by kernel_rfl))⟩
 f15:=Tryz.func95.trans (congrArg some (by kernel_rfl))
 f20:=⟨Tryz.f194.name,by decide,Tryz.func194.trans (congrArg some (by kernel_rfl))⟩
 f21:=⟨Tryz.f195.name,by decide,Tryz.func195.trans (congrArg some (by kernel_rfl))⟩
 f22:=⟨Tryz.f196.name,by decide,Tryz.func196.trans (congrArg some (by kernel_rfl))⟩
 f23:=⟨Tryz.f197.name,by decide,Tryz.func197.trans (congrArg some (by kernel_rfl))⟩
 f24:=⟨Tryz.f198.name,by decide,Tryz.func198.trans (congrArg some (by kernel_rfl))⟩
 f25:=⟨Tryz.f199.name,by decide,Tryz.func199.trans (congrArg some (by kernel_rfl))⟩
 f26:=⟨Tryz.f200.name,by decide,Tryz.func200.trans (congrArg some (by kernel_rfl))⟩
 f27:=⟨Tryz.f201.name,by decide,Tryz.func201.trans (congrArg some (by kernel_rfl))⟩
 f28:=Tryz.func126.trans (congrArg some (by kernel_rfl))
 f29:=Tryz.func127.trans (congrArg some (by kernel_rfl))
 f46:=⟨Tryz.f225.name,by decide,Tryz.func225.trans (congrArg some (by kernel_rfl))⟩
 f47:=Tryz.func145.trans (congrArg some (by kernel_rfl))
 f48:=Tryz.func146.trans (congrArg some (by kernel_rfl))
 f49:=⟨Tryz.f226.name,by decide,Tryz.func226.trans (congrArg some (by kernel_rfl))⟩
 f50:=⟨Tryz.f227.name,by decide,Tryz.func227.trans (congrArg some (by kernel_rfl))⟩
 f57:=⟨Tryz.f241.name,by decide,Tryz.func241.trans (congrArg some (by kernel_rfl))⟩
 t0:=Tryz.underlying0
 a0:=Tryz.isAgg0
 z0:=Tryz.sizeOf0
 v0:=Tryz.zeroValue0
 t3:=Tryz.underlying3
 a3:=Tryz.isAgg3
 z3:=Tryz.sizeOf3
 v3:=Tryz.zeroValue3
 t4:=Tryz.underlying4
 a4:=Tryz.isAgg4
 z4:=Tryz.sizeOf4
 v4:=Tryz.zeroValue4
 t5:=Tryz.underlying5
 a5:=Tryz.isAgg5
 z5:=Tryz.sizeOf5
 v5:=Tryz.zeroValue5
 t9:=Tryz.underlying9
 a9:=Tryz.isAgg9
 z9:=Tryz.sizeOf9
 v9:=Tryz.zeroValue9
 t22:=Tryz.underlying186
 a22:=Tryz.isAgg186
 z22:=Tryz.sizeOf186
 v22:=Tryz.zeroValue186
 a24:=Tryz.isAgg99
 z24:=Tryz.sizeOf99
 t25:=Tryz.underlying182
 a25:=Tryz.isAgg182
 z25:=Tryz.sizeOf182
 v25:=Tryz.zeroValue182
 t39:=Tryz.underlying149
 a39:=Tryz.isAgg149
 z39:=Tryz.sizeOf149
 v39:=Tryz.zeroValue149
 t45:=Tryz.underlying166
 a45:=Tryz.isAgg166
 z45:=Tryz.sizeOf166
 v45:=Tryz.zeroValue166
 t46:=Tryz.underlying167
 a46:=Tryz.isAgg167
 z46:=Tryz.sizeOf167
 v46:=Tryz.zeroValue167
 t50:=Tryz.underlying142
 a50:=Tryz.isAgg142
 z50:=Tryz.sizeOf142
 v50:=Tryz.zeroValue142
 t53:=Tryz.underlying173
 a53:=Tryz.isAgg173
 z53:=Tryz.sizeOf173
 v53:=Tryz.zeroValue173
 t55:=Tryz.underlying175
 a55:=Tryz.isAgg175
 z55:=Tryz.sizeOf175
 v55:=Tryz.zeroValue175
 t66:=Tryz.underlying189
 a66:=Tryz.isAgg189
 z66:=Tryz.sizeOf189
 v66:=Tryz.zeroValue189
 t70:=Tryz.underlying193
 a70:=Tryz.isAgg193
 z70:=Tryz.sizeOf193
 v70:=Tryz.zeroValue193
 t76:=Tryz.underlying211
 a76:=Tryz.isAgg211
 z76:=Tryz.sizeOf211
 v76:=Tryz.zeroValue211
 t77:=Tryz.underlying212
 a77:=Tryz.isAgg212
 z77:=Tryz.sizeOf212
 v77:=Tryz.zeroValue212 }
end Go.Proofs

namespace Go.Proofs.YtbkjgjjpnfhkhaaGreatDoor
open Go.RowKit Go.Sort Go.Shelf Go.Lib

def fV (x:Itm):List M:=[V x.p x.r.length x.c]
theorem pw (x:Itm):(fV x).length=1:=rfl
theorem vd (x:Itm):∀u∈fV x,u.oneCell'=true:=by intro u c;simp[fV] at c;rw[c];rfl
abbrev InR (l:List Itm):={x:Itm // x∈l}
def qU (l:List Itm) (x:InR l):M:= V x.1.p x.1.r.length x.1.c
theorem uX (l:List Itm):OneCell (qU l):=fun _=>rfl
def yd (l:List Itm) (x y:InR l):Int:=aw x.1.r y.1.r
theorem yC (l:List Itm) (x y:InR l):ltOf (yd l) x y=decide (aw x.1.r y.1.r<0):=rfl
theorem Bt (l:List Itm):SWO (ltOf (yd l)) where
 irrefl x:=by rw[yC,gg];rfl
 trans x y z h1 h2:=by
  rw[yC,decide_eq_true_eq] at *
  exact cH h1 h2
 ntrans x y z h1 h2:=by
  rw[yC,decide_eq_false_iff_not] at *
  have c:=cR x.1.r y.1.r
  have d:=cR y.1.r z.1.r
  have f:=cR x.1.r z.1.r
  have:=(eF z.1.r y.1.r x.1.r (by omega) (by omega)).1
  omega
theorem kx {α : Type} [Inhabited α] {enc: α -> M} {w:Z} {g n b:Nat} {os:Array Obj} {d:Array α} (hb:b<w.heap.size) (hne:b≠g):(sortWorld enc w g 0 n d os).heap[b]? = w.heap[b]? := by show ((putRow enc (Sort.ahead w n) g 0 d).heap++os)[b]? = _;rw[Array.getElem?_append_left (by simp;exact hb)];show ((Sort.ahead w n).heap.modify g _)[b]? = _;rw[Array.getElem?_modify,if_neg (by omega)];rfl
theorem j8 {α : Type} [Inhabited α] {enc: α -> M} {w:Z} {g n:Nat} {os:Array Obj} {d:Array α}:w.heap.size<=(sortWorld enc w g 0 n d os).heap.size:=by simp[sortWorld,grow]
theorem pI {α : Type} [Inhabited α] {enc: α -> M} {w:Z} {g n:Nat} {os:Array Obj} {d:Array α}:w.grownBy (sortWorld enc w g 0 n d os) (some g) :=
 ⟨rfl,rfl,rfl,j8,fun k f c=>kx f (fun e=>c (by rw[e]))⟩
theorem mq {α : Type} [Inhabited α] {enc: α -> M} {w:Z} {g n:Nat} {os:Array Obj} {d:Array α} {p:Option ia} {r:List Int} (h:aq w p r) (hne:∀a,p=some a->r≠[]->a.block≠g):aq (sortWorld enc w g 0 n d os) p r:=by
 rcases h with k|⟨b,off,hp,hb,hc⟩
 ·exact oL k
 by_cases c:r=[]
 ·exact oL c
 ·refine oR ⟨b,off,hp,nL hb j8,fun j f i hi=> ?_⟩;rw[World.cell?_of_block (a:=(jb5 b (off+j*1+i))) (kx hb (hne (jb5 b off) hp c))];exact hc j f i hi
theorem vG {w:Z} {g:Nat} {l:List Itm} [Inhabited (InR l)] (h:aC fV 1 w (jb4 g 0) l) (hf:∀j,w.frozen? (jb5 g j)=false):Holds (qU l) w g 0 l.attach.toArray:=by
 intro t n;have d:t<l.length:=by simpa using n
 refine ⟨?_,hf _⟩;obtain ⟨b,k,c,r,m⟩:=h.at d;obtain ⟨rfl,rfl⟩:g=b/\0=k:=by injection c with c;injection c with h1 h2;exact ⟨h1,h2⟩
 have f:t<l.attach.toArray.size:=by simpa using d
 have e:(l.attach.toArray[t]!).1=l[t]:=by rw[getElem!_pos l.attach.toArray t f];simp
 have:=m t d 0 (by omega);rw[show 0+t*1+0=0+t from by omega] at this;rw[this];unfold qU;rw[e];rfl
theorem Br {w:Z} {g:Nat} {l:List Itm} [Inhabited (InR l)] {d:Array (InR l)} (h:Holds (qU l) w g 0 d) (hg:g<w.heap.size):aC fV 1 w (jb4 g 0) (d.toList.map Subtype.val):=by
 refine oR ⟨g,0,rfl,hg,fun j k i hi=> ?_⟩;have c:j<d.size:=by simpa using k
 have f:=(h j c).1;obtain rfl:i=0:=by omega
 rw[getElem!_pos d j c] at f;rw[show 0+j*1+0=0+j from by omega,f];simp only[List.getElem_map,Array.getElem_toList];rfl

theorem xv (g cap:Nat) (l:List Itm) (w:Z) (ak:l≠[]) (u:aC fV 1 w (jb4 g 0) l) (hf:∀j,w.frozen? (jb5 g j)=false) (hg:g<w.heap.size) (E:∀x∈l,aq w x.p x.r/\x.r.length<=maxLen/\(∀a,x.p=some a->x.r≠[]->a.block≠g)) (ao:l.length<4611686018427387904) :
  X I 139 #[V (jb4 g 0) l.length cap,.func (.func 136) #[] #[]] w fun e w'=>e= Y (.tuple #[])/\(∃S:List Itm,S.Perm l/\dF (S.map Itm.z)/\aC fV 1 w' (jb4 g 0) S)/\w.grownBy w' (some g):=by
 obtain ⟨x0,ap⟩:∃x,x∈l:=List.exists_mem_of_ne_nil l ak;haveI:Inhabited (InR l):=⟨⟨x0,ap⟩⟩;have R:CmpLays1 I 136 #[] (qU l) (yd l) g 0 l.attach.toArray.size w:=fun m os dk _ x y =>j2 x.1.r y.1.r x.1.p y.1.p x.1.c y.1.c _ (E _ x.2).2.1 (mq (E _ x.2).1 (E _ x.2).2.2) (mq (E _ y.2).1 (E _ y.2).2.2)
 have f:=Any.slices_SortFunc Tryz.sortRow (qU l) (uX l) (yd l) (Bt l) 136 #[] g 0 cap l.attach.toArray w (enters_of Tryz.func136 (by kernel_rfl) rfl) R (vG u hf) hg (by simpa using ao);change X I 139 _ _ _ at f;simp only[List.size_toArray,List.length_attach] at f;refine f.mono ?_;rintro e w' ⟨ad,d,n,os,hp,hs,hw⟩;obtain ⟨k,_,h⟩:=hp;simp only[List.size_toArray,List.length_attach] at k;have e1:d.extract 0 l.length=d:=by rw[<-k];exact Array.extract_size
 have e2:(l.attach.toArray.extract 0 l.length).toList=l.attach:=by simp only[List.extract_toArray,List.drop_zero,Nat.sub_zero,List.extract_eq_take_drop];exact List.take_of_length_le (by simp)
 rw[e1,e2] at h;have an:(d.toList.map Subtype.val).Perm l:=by have:=h.map Subtype.val;rwa [show l.attach.map Subtype.val=l by simp] at this
 refine ⟨ad,⟨d.toList.map Subtype.val,an,?_,?_⟩,by rw[hw];exact pI⟩
 ·unfold dF;rw[List.map_map,List.pairwise_map,List.pairwise_iff_getElem];intro i j hi hj ah;have C:i<d.size:=by simpa using hi
  have D:j<d.size:=by simpa using hj
  have:=hs i j (nZ _) ah (by omega);rw[getElem!_pos d j D,getElem!_pos d i C,yC,decide_eq_false_iff_not] at this;have e3:=cR (d[j]'D).1.r (d[i]'C).1.r;show aw (d[i]'C).1.r (d[j]'D).1.r<=0;omega
 ·have F:Holds (qU l) w' g 0 d:=by rw[hw];refine holds_grow _ _ _ _ _ _ (by simp;exact hg) ?_;exact holds_putRow _ _ _ _ l.attach.toArray _ (holds_ahead _ _ _ _ _ _ (vG u hf)) (by simp[k])
  exact Br F (by rw[hw];exact nL hg j8)
section
open Go.Maps

structure Sums (D:DataW Unit) (l:List Zit):Prop where
 at':∀r:List Int,D.atKey (.string (nmL r)) (.lit (.int J 0))= .lit (.int J (wt l r))
 map:IsMap D
theorem Sums.nil:Sums (.map []) []:=⟨fun _=>rfl,⟨[],rfl⟩⟩
theorem Sums.more {D:DataW Unit} {l:List Zit} (h:Sums D l) (x:Zit):Sums (D.put (.string (nmL x.1)) (.lit (.int J (wt l x.1+x.2)))) (l++[x]):=by
 refine ⟨fun r=> ?_,?_⟩
 ·rw[cC];by_cases e:x.1=r
  ·subst e;rw[atKey_put_same h.map (show WideAt.IsKeyLit (.string (nmL x.1)) from trivial)];simp[wt]
  ·rw[atKey_put_other (fun k=>e (by injection k with k;first|exact oF k|exact (oF k).symm)),h.at' r];simp[wt,e]
 ·obtain ⟨d,c⟩:=h.map;rw[c];exact ⟨_,rfl⟩
theorem Ao {B:Int} (g:0<=B) {l:List Zit} (h:∀x∈l,-B<=x.2/\x.2<=B) (r:List Int): -((l.length:Int)*B)<=wt l r/\wt l r<=(l.length:Int)*B:=by
 induction l with
 | nil=>simp[wt]
 | cons x l ih =>
  have d:=ih fun y c=>h y (mC _ c)
  have f:=h x (mS ..)
  simp only[wt,List.length_cons]
  rw[show (((l.length+1:Nat):Int))*B=(l.length:Int)*B+B by rw[Int.natCast_add,Int.add_mul];simp]
  by_cases e:x.1=r
  ·rw[if_pos e];omega
  ·rw[if_neg e];omega
def kD (l:List Zit) (r:List Int):Bool:=l.any fun x=>decide (x.1=r)
theorem lO {l:List Zit} {r:List Int}:kD l r=true↔∃x∈l,x.1=r:=by
 unfold kD;rw[List.any_eq_true];constructor
 ·rintro ⟨x,c,e⟩;exact ⟨x,c,by simpa using e⟩
 ·rintro ⟨x,c,e⟩;exact ⟨x,c,by simpa using e⟩
theorem jH (l:List Zit) (x:Zit) (r:List Int):kD (l++[x]) r=(kD l r || decide (x.1=r)):=by simp[kD]
structure UpR (l S:List Zit) (i:Nat) (L:List Zit):Prop where
 rise:ew L
 noz:NoZ L
 same:∀r,wt L r=if kD (S.take i) r=true then wt l r else 0
 rows:∀y∈L,∃x∈S.take i,x.1=y.1
 len:L.length<=i
theorem UpR.zero (l S:List Zit):UpR l S 0 []:=⟨List.Pairwise.nil,fun x c=>(by cases c),fun r=>by simp[kD,wt],fun y d=>(by cases d),nR _⟩
theorem UpR.dup {l S L:List Zit} {i:Nat} (h:UpR l S i L) (hi:i<S.length) (c:kD (S.take i) S[i].1=true):UpR l S (i+1) L:=by
 refine ⟨h.rise,h.noz,fun r=> ?_,fun y f=> ?_,Nat.le_succ_of_le h.len⟩
 ·rw[h.same,List.take_succ_eq_append_getElem hi,jH];by_cases e:S[i].1=r
  ·subst e;simp[c]
  ·simp[e]
 ·obtain ⟨x,d,e⟩:=h.rows y f;exact ⟨x,by rw[List.take_succ_eq_append_getElem hi];exact List.mem_append.2 (oL d),e⟩
theorem UpR.none {l S L:List Zit} {i:Nat} (h:UpR l S i L) (hi:i<S.length) (f:wt l S[i].1=0):UpR l S (i+1) L:=by
 refine ⟨h.rise,h.noz,fun r=> ?_,fun y d=> ?_,Nat.le_succ_of_le h.len⟩
 ·rw[h.same,List.take_succ_eq_append_getElem hi,jH];by_cases e:S[i].1=r
  ·subst e;simp[f]
  ·simp[e]
 ·obtain ⟨x,c,e⟩:=h.rows y d;exact ⟨x,by rw[List.take_succ_eq_append_getElem hi];exact List.mem_append.2 (oL c),e⟩
theorem UpR.more {l S L:List Zit} {i:Nat} (h:UpR l S i L) (hi:i<S.length) (d:∀x∈S.take i,aw x.1 S[i].1<0) (k:wt l S[i].1≠0):UpR l S (i+1) (L++[(S[i].1,wt l S[i].1)]):=by
 have g:kD (S.take i) S[i].1=false:=by
  cases e:kD (S.take i) S[i].1
  ·rfl
  ·obtain ⟨x,c,f⟩:=lO.1 e;exact absurd f (dY (d x c))
 refine ⟨?_,?_,fun r=> ?_,fun y j=> ?_,by have:=h.len;simp;omega⟩
 ·unfold ew;rw[List.pairwise_append];refine ⟨h.rise,List.pairwise_singleton _ _,fun x c y j=> ?_⟩;obtain rfl:y=_:=by simpa using j
  obtain ⟨z,k,e⟩:=h.rows x c;rw[<-e];exact d z k
 ·intro x c;rcases List.mem_append.1 c with e|e
  ·exact h.noz x e
  ·obtain rfl:x=_:=(by simpa using e);exact k
 ·rw[cC,h.same,List.take_succ_eq_append_getElem hi,jH];simp only[wt];by_cases e:S[i].1=r
  ·subst e;simp[g]
  ·simp[e]
 ·rw[List.take_succ_eq_append_getElem hi];rcases List.mem_append.1 j with e|e
  ·obtain ⟨x,c,f⟩:=h.rows y e;exact ⟨x,List.mem_append.2 (oL c),f⟩
  ·obtain rfl:y=_:=(by simpa using e);exact ⟨S[i],List.mem_append.2 (oR (List.mem_singleton.2 rfl)),rfl⟩
theorem UpR.done {l S L:List Zit} {i:Nat} (h:UpR l S i L) (hi:S.length<=i) (c:S.Perm l):L=bQ l:=by
 refine IsTot.eq ⟨h.rise,h.noz,fun r=> ?_⟩;rw[h.same,List.take_of_length_le hi];by_cases e:kD S r=true
 ·rw[if_pos e]
 ·rw[if_neg e];refine (fT fun x d k=>e (lO.2 ⟨x,c.mem_iff.2 d,k⟩)).symm
theorem uD {S:List Zit} (l:dF S) {i:Nat} (hi:i<S.length) (h:i=0\/∃(_:0<i),aw (S[i-1]'(by omega)).1 S[i].1≠0):∀x∈S.take i,aw x.1 S[i].1<0:=by
 intro x m;obtain ⟨j,k,rfl⟩:=List.mem_iff_getElem.1 m;simp only[List.length_take] at k;rw[List.getElem_take];have d:=List.pairwise_iff_getElem.1 l;rcases h with rfl|⟨h0,hne⟩
 ·omega
 ·have f:aw (S[i-1]'(by omega)).1 S[i].1<=0:=d (i-1) i (by omega) hi (by omega);have c:aw (S[i-1]'(by omega)).1 S[i].1<0:=by omega
  by_cases e:j=i-1
  ·subst e;exact c
  ·have g:aw (S[j]'(by omega)).1 (S[i-1]'(by omega)).1<=0:=d j (i-1) (by omega) (by omega) (by omega);exact (eF _ _ _ g f).2 (oR c)
theorem yj {S:List Zit} {i:Nat} (hi:i<S.length) (c:0<i) (h:aw (S[i-1]'(by omega)).1 S[i].1=0):kD (S.take i) S[i].1=true:=by refine lO.2 ⟨S[i-1]'(by omega),?_,iC _ _ h⟩;rw[List.mem_iff_getElem];exact ⟨i-1,by simp;omega,by rw[List.getElem_take]⟩
end
section
open Go.Maps

theorem Tryz.infoR:(Tryz.prog.info? 99).map (fun i=>(i.zero,i.size,i.bytes))=some (some (V none 0 0),1,24):=by kernel_rfl
theorem kH (w:Z) {ops:Array Oper} {d:List Oper} {o:Oper} {a:Act} {Q:Exit->Act->Z->Prop} (k:o.guard=none) (s x:Operand)
  (F:o.op= .call { callee:= .builtin .append,args:= #[s,x],argTypes:= #[186,186] })
  (c:Nat) (v:M) (l m:List Itm) (A:Option ia) (cap:Nat) (hs:a.eval s=v) (hx:a.eval x= V A m.length cap) (g:ae fV 1 99 w c v l) (R:aC fV 1 w A m) (C:A=none->cap=0)
  (n:l.length+m.length<=maxLen) (E:(l.length+m.length)*24<=140737488355328) (f:c<=w.heap.size)
  (h:∀j w',ae fV 1 99 w' c j (l++m)->w.grownBy w' v.ownBlock->wpList I ops Q d (a.put o.dst j) w'):wpList I ops Q (o::d) a w :=
 wpList_plain k fun _ D=>dL pw vd (by omega) 186 Tryz.underlying186 (V none 0 0) 24 Tryz.infoR rfl w s x F c v l m A cap hs hx g R C n E f fun j w' r u=>D _ _ (h j w' r u)
theorem yw:Keyed I 9:=string_keyed Tryz.underlying9
structure Wd (l:List Itm):Prop where
 len:l.length<=400000
 row:∀x∈l,x.r.length<=100/\∀n∈x.r,I64 n
 wgt:∀x∈l,-2199023255552<=x.n/\x.n<=2199023255552
theorem Wd.bnd {l m:List Itm} (h:Wd l) (c:∀x∈m,x∈l) (j:m.length<=l.length) (r:List Int): -879609302220800000<=wt (m.map Itm.z) r/\wt (m.map Itm.z) r<=879609302220800000:=by
 have:=Ao (B:=2199023255552) (by omega) (l:=m.map Itm.z) (fun y f=>by obtain ⟨x,d,rfl⟩:=List.mem_map.1 f;exact h.wgt x (c x d)) r
 have g:=h.len;simp at this;omega
theorem gq {H:Type} {w w':Z} {t e:TypeId} {b n:Nat} {D:DataW H} (h:w.ownsMap I t (plainElem I e) b n D) (k:jb2 w w'):w'.ownsMap I t (plainElem I e) b n D:=h.kept (row:=none) ⟨k.os,k.tape,k.output,k.size,fun j c _=>k.block j c⟩ (by simp)
structure SInv (w wr:Z) (l:List Itm) (k:Nat) (D:DataW Unit):Prop where
 map:wr.ownsMap I 9 (plainElem I 3) w.heap.size k D
 sums:Sums D ((l.take k).map Itm.z)
 bel:jb2 w wr
 size:w.heap.size<wr.heap.size

theorem yU {W:Z} {n:Nat} (f:W.heap.size=n) (x:Itm) (T:TypeId):aC fV 1 (W.alloc (U #[V x.p x.r.length x.c] T)) (jb4 n 0) [x]:=by
 subst f;refine oR ⟨W.heap.size,0,rfl,by simp,fun j d i hi=> ?_⟩;obtain rfl:j=0:=by simp at d;omega
 obtain rfl:i=0:=by omega
 exact ab (w:=W) (gR _) (j:=0) rfl
theorem xt (c:Nat) (v:M) (l:List Itm) (w:Z) (g:ae fV 1 99 w c v l) (hb:c<=w.heap.size) (D:∀x∈l,aq w x.p x.r/\x.r.length<=maxLen/\(∀a,x.p=some a->x.r≠[]->a.block<c)) (ad:l.length<4611686018427387904) :
  X I 139 #[v,.func (.func 136) #[] #[]] w fun e w'=>e= Y (.tuple #[])/\(∃(S:List Itm) (A:Option ia) (cap:Nat),v= V A S.length cap/\S.Perm l/\dF (S.map Itm.z)/\aC fV 1 w' A S/\(A=none->cap=0))/\Below c w w':=by
 obtain ⟨A,cap,rfl,hA,f,ak,R,F⟩:=ae.full pw g;by_cases j:l=[]
 ·subst j;have d:=AnyF.slices_SortFunc_none (P:=I) { Tryz.sortRow with } A cap (.func (.func 136) #[] #[]) w;change X I 139 _ _ _ at d;refine d.mono ?_;rintro e w' ⟨E,rfl⟩;exact ⟨E,⟨[],A,cap,rfl,List.Perm.refl _,List.Pairwise.nil,oL rfl,hA⟩,bR _ _⟩
 ·have h:0<l.length:=List.length_pos_iff.2 j;obtain ⟨b,ah,u,C,_⟩:=f.at h;subst u;have m:=R _ rfl;obtain rfl:ah=0:=m.2.2.1;refine (xv b cap l w j f (F _ rfl) C (fun x hx=> ?_) ad).mono ?_
  ·have n:=D x hx;refine ⟨n.1,n.2.1,fun a ha hr=> ?_⟩;have h7:=n.2.2 a ha hr;have h8:c<=b:=m.1;omega
  ·rintro e w' ⟨D,⟨S,hp,hs,hr⟩,hg⟩;exact ⟨D,⟨S,_,cap,by rw[hp.length_eq],hp,hs,hr,hA⟩,(bR c w).grown hg hb (fun k e=>by injection e with e;have:=m.1;simp only at this;omega)⟩

theorem ev (w:Z) {ops:Array Oper} {o:Oper} {a:Act} {K:Act->Z->Prop} {Q:Exit->Act->Z->Prop} {E:Prop} (g:o.guard=none) (s x:Operand)
  (u:o.op= .call { callee:= .builtin .append,args:= #[s,x],argTypes:= #[99,99] })
  (c:Nat) (v:M) (l m:List Int) (A:Option ia) (cap:Nat) (D:a.eval s=v) (R:a.eval x= V A m.length cap) (f:ae dU 1 3 w c v l) (C:aC dU 1 w A m) (n:A=none->cap=0)
  (j:l.length+m.length<=maxLen) (r:(l.length+m.length)*8<=140737488355328) (d:c<=w.heap.size)
  (h:∀k w',ae dU 1 3 w' c k (l++m)->w.grownBy w' v.ownBlock->K (a.put o.dst k) w') :
  if Region.wanted o (yielded ops a.tmps)=true then Oper.wp I o a w K Q else E:=by
 have F:Region.wanted o (yielded ops a.tmps)=true:=by simp[Region.wanted,g]
 rw[if_pos F];exact dL bI pv (by omega) 99 Tryz.underlying99 (.int J 0) 8 Tryz.infoI rfl w s x u c v l m A cap D R f C n j r d h

theorem xl (l:List Itm) (A:Option ia) (c:Nat) (w:Z) (hl:Wd l) (hr:Items w A l) (ht:fC w) :
  X I 112 #[V A l.length c] w fun e w'=>∃(L:List Itm) (C:Option ia) (k:Nat),e= Y (V C L.length k)/\L.map Itm.z=bQ (l.map Itm.z)/\Items w' C L/\dC C L.length k/\jb2 w w'/\eR w.heap.size C L:=by
 have cr:Tryz.prog.follows .mixedOrders=true:=by kernel_rfl
 have es:=hl.len;have hH:=ja3 hr ht hl;clear hr ht hl;have e8:= @run_makeMap I;go_enter Tryz.func112,Tryz.ntmps112;go_wp2;go_loopw [4] (fun i wr=>∃(k:Nat) (D:DataW Unit),k<=l.length/\i= .int J k/\O (SInv w wr l k D)) (fun i _=>l.length-(intOf i).toNat);exact ⟨0,.map [],nZ _,rfl,show SInv _ _ _ _ _ from ⟨World.ownsMap_made _ _ _ _,Sums.nil,(bR _ _).alloc (nR _) _,by simp⟩⟩;obtain ⟨k,D,hk,rfl,hR⟩:=hrel;by_cases d:k<l.length
 ·have a5:(k:Int)<(l.length:Int):=by omega
  have hI:=ja1 (hH.out.1.below hR.out.bel);obtain ⟨bb,F,rfl,hb,a0⟩:=hI.out.at d;obtain ⟨x,hx⟩:=jb0 (l[k]);obtain ⟨e0,e1⟩:=a0 k d;rw[hx] at e0 e1;have b6:x∈l:=by rw[<-hx];exact gM d
  have cn:O ((l.take (k+1)).map Itm.z=(l.take k).map Itm.z++[x.z]):=by show _=_;rw[List.take_succ_eq_append_getElem d,hx,List.map_append];rfl
  obtain ⟨N,hN⟩:=jb0 (wt ((l.take k).map Itm.z) x.r);have cG:=hH.out.2.2.bnd (m:=l.take k) (fun y hy=>List.mem_of_mem_take hy) (by simp;omega) x.r;rw[hN] at cG;have ek:=hH.out.2.2.wgt x b6;obtain ⟨f1,hT⟩:=jb0 (N+x.n);have f0:IntKind.i64.wrap (N+x.n)=f1:=by rw[IntKind.wrap_i64];omega
  have d0:(Lit.int J f1).wf=true:=WalkArith.wf_i64 ⟨by omega,by omega⟩;obtain ⟨NM,ap⟩:∃NM:ByteArray,NM=⟨(nmL x.r).toArray⟩:=⟨_,rfl⟩;have ak:=hH.out.2.2.row x b6;have cl:(nmL x.r).length<=2200:=by have:=kO ak.2;omega
  have an:O (keyOf I 9 (.string NM)=some (.string (nmL x.r))):=by show _=_;rw[WideMaps.keyOf_string_mk Tryz.underlying9 (by rw[ap];simp[ByteArray.size,maxLen];omega),ap]
  have d3:O (∀W,Gr wr W->X I 138 #[V x.p x.r.length x.c] W fun e w'=>e= Y (.string NM)/\Gr W w'):=fun W h=>by rw[ap];exact pY x.r x.p x.c W ak.1 ak.2 ((hI.out.each x b6).1.gr h) ((hH.out.2.1.below hR.out.bel).gr h)
  have cv:O (D.atKey (.string (nmL x.r)) (.lit (.int J 0))= .lit (.int J N)/\N+x.n=f1):=⟨by rw[hR.out.sums.at',hN],hT⟩;have d5:=ja1 hN;have cj:O (∀W,Gr wr W->jb1 W bb (F+k*2) (V x.p x.r.length x.c)/\jb1 W bb (F+k*2+1) (.int J x.n)):=fun W h=>⟨(h.cell (p:=(jb5 bb (F+k*2))) hb).trans e0,(h.cell (p:=(jb5 bb (F+k*2+1))) hb).trans e1⟩;have d7:O (∀W,Gr wr W->(Instr.lookup 184 (.map (some w.heap.size)) (.string NM) false).run I W= .ok (.int J N) W/\∃W',(Instr.mapUpdate 184 (.map (some w.heap.size)) (.string NM) (.int J f1)).run I W= .ok () W'/\SInv w W' l (k+1) (D.put (.string (nmL x.r)) (.lit (.int J f1)))):=fun W h=>by
   have hm:=gq hR.out.map h.below;obtain ⟨c,h1,h2,_⟩:=hm.lookup_int yw Tryz.underlying184 Tryz.underlying3 (by kernel_rfl) an.out;rw[cv.out.1] at h2;obtain rfl:N=c:=by cases h2;rfl
   refine ⟨h1,?_⟩;obtain ⟨W',u1,u2,u3⟩:=hm.update yw Tryz.underlying184 (by unfold maxLen;omega) an.out (plainElem_int Tryz.underlying3 d0);refine ⟨W',u1,u2,?_,?_,?_⟩
   ·rw[cn.out];have:=hR.out.sums.more x.z;rw[show wt ((l.take k).map Itm.z) x.z.1=N from d5.out,show x.z.2=x.n from rfl,cv.out.2] at this;exact this
   ·exact (hR.out.bel.trans (h.below.mono hR.out.bel.size)).grown u3 (nT hR.out.bel.size h.size) (fun j e=>by injection e with e;omega)
   ·exact nL hR.out.size (nT h.size u3.size)
  have e3:(0:Int)<=(k:Int):=by omega
  clear a0 hx b6 hN cG ek hT d0 ap ak cl;go_wp2;go_region_with (go_at_call 138;refine cM (d3.out _ (gR _).drew) ?_;rintro e w2 ⟨rfl,eb⟩;have bp:Gr wr w2:=(gR wr).drew.trans eb;obtain ⟨q0,q1⟩:=cj.out w2 bp;obtain ⟨q2,W3,q3,c2⟩:=d7.out w2 bp;have c3:O _:=c2;clear c2 bp);all_goals go_wp2;go_roundw;exact ⟨k+1,_,by omega,by go_num,c3⟩;simp[intOf];omega
 ·have a5:¬(k:Int)<(l.length:Int):=by omega
  have aL:O (SInv w wr l l.length D):=by
   have h1:=hR.out;obtain rfl:k=l.length:=by omega
   exact h1
  clear hR;go_wp2;obtain ⟨w1,dy⟩:=jb0 wr;rw[dy] at aL ⊢;clear dy;go_loopw [5,6] (fun u i wr=>∃j:Nat,j<=l.length/\i= .int J j/\O (ae fV 1 99 wr w1.heap.size u (l.take j)/\jb2 w1 wr)) (fun _ i _=>l.length-(intOf i).toNat);exact ⟨0,nZ _,rfl,ae.nil _ _ _ _ _,bR _ _⟩;obtain ⟨j,hj,rfl,a8⟩:=hrel;by_cases d:j<l.length
  ·have a5:(j:Int)<(l.length:Int):=(by omega);have hI:=ja1 ((hH.out.1.below aL.out.bel).below a8.out.2);obtain ⟨bb,F,rfl,hb,a0⟩:=hI.out.at d;obtain ⟨x,hx⟩:=jb0 (l[j]);obtain ⟨e0,e1⟩:=a0 j d;rw[hx] at e0 e1;have cn:O (l.take (j+1)=l.take j++[x]):=by show _=_;rw[List.take_succ_eq_append_getElem d,hx]
   clear a0 hx e1;have f:O (ae fV 1 99 (wr.alloc (U #[V x.p x.r.length x.c] 99)) w1.heap.size u5 (l.take j)/\aC fV 1 (wr.alloc (U #[V x.p x.r.length x.c] 99)) (jb4 wr.heap.size 0) [x]/\(l.take j).length+[x].length<=maxLen/\((l.take j).length+[x].length)*24<=140737488355328/\jb2 w1 (wr.alloc (U #[V x.p x.r.length x.c] 99))):=by refine ⟨a8.out.1.gr ((gR _).alloc _),yU rfl x _,by unfold maxLen;simp;omega,by simp;omega,a8.out.2.alloc a8.out.2.size _⟩
   go_wp2_with (at_builtin;refine kH _ rfl _ _ rfl w1.heap.size u5 (l.take j) [x] (jb4 wr.heap.size 0) 1 rfl rfl f.out.1 f.out.2.1 (fun h=>by cases h) f.out.2.2.1 f.out.2.2.2.1 f.out.2.2.2.2.size ?_;intro v3 w3 bt dg);have ad:O (ae fV 1 99 w3 w1.heap.size v3 (l.take (j+1))/\jb2 w1 w3):=⟨by rw[cn.out];exact bt,f.out.2.2.2.2.trans (f.out.1.grown_below dg f.out.2.2.2.2.size)⟩;clear bt dg;go_wp2;go_roundw;exact ⟨j+1,by omega,by go_num,ad⟩;simp[intOf];omega
  ·have a5:¬(j:Int)<(l.length:Int):=(by omega);have hO:O (ae fV 1 99 wr w1.heap.size u5 l/\jb2 w1 wr):=by have h1:=a8.out;rw[List.take_of_length_le (by omega)] at h1;exact h1
   clear a8;have b8:=xt w1.heap.size u5 l wr hO.out.1 hO.out.2.size (fun x hx=>by have h:=(hH.out.1.below aL.out.bel).each x hx;exact ⟨h.1.below hO.out.2,h.2.1,fun a ha hr=>h.1.lt a ha hr⟩) (by omega)
   have c5:O _:=b8;clear b8;go_wp2_with fail;refine ja0 c5 ?_;rintro e w2 ⟨rfl,⟨S,G,cap,hv,a6,bG,ah,hG⟩,bh⟩;subst hv;have hS:O (S.Perm l/\dF (S.map Itm.z)/\aC fV 1 w2 G S/\SInv w w2 l l.length D/\Items w2 A l/\fC w2):=by have be:=hO.out.2.trans bh;have a4:=aL.out.bel.trans (be.mono aL.out.bel.size);exact ⟨a6,bG,ah,⟨gq aL.out.map be,aL.out.sums,a4,nL aL.out.size be.size⟩,hH.out.1.below a4,hH.out.2.1.below a4⟩
   have c4:S.length=l.length:=a6.length_eq;clear c5 a6 bG ah hG bh hO aL;have em:=ja1 c4;have ez:S.length<=400000:=by omega
   clear c4;go_wp2;go_loopw [7,8] (fun u i wr=>∃(j:Nat) (L:List Itm),j<=S.length/\i= .int J j/\O (UpR (l.map Itm.z) (S.map Itm.z) j (L.map Itm.z)/\OwnT wr w2.heap.size u L/\jb2 w2 wr)) (fun _ i _=>S.length-(intOf i).toNat);exact ⟨0,[],nZ _,rfl,UpR.zero _ _,OwnT.nil _ _,bR _ _⟩;obtain ⟨j,L,hj,rfl,hR⟩:=hrel;by_cases d:j<S.length
   ·have a5:(j:Int)<(S.length:Int):=(by omega);obtain ⟨g,F,rfl,hg,a0⟩:=(hS.out.2.2.1.below hR.out.2.2).at d;obtain ⟨x,hx⟩:=jb0 (S[j]);have e0:jb1 wr g (F+j) (V x.p x.r.length x.c):=by have:=a0 j d 0 (by omega);rw[hx] at this;simpa[fV] using this
    have cp:x∈l:=hS.out.1.mem_iff.1 (by rw[<-hx];exact gM d);have ak:=hH.out.2.2.row x cp;have b5:=(hS.out.2.2.2.2.1.below hR.out.2.2).each x cp;obtain ⟨N,hN⟩:=jb0 (wt (l.map Itm.z) x.r);obtain ⟨NM,ap⟩:∃NM:ByteArray,NM=⟨(nmL x.r).toArray⟩:=⟨_,rfl⟩;have cl:(nmL x.r).length<=2200:=by have:=kO ak.2;omega
    have an:keyOf I 9 (.string NM)=some (.string (nmL x.r)):=(by rw[WideMaps.keyOf_string_mk Tryz.underlying9 (by rw[ap];simp[ByteArray.size,maxLen];omega),ap]);have c0:O (∀W,jb2 wr W->X I 138 #[V x.p x.r.length x.c] W fun e w'=>e= Y (.string NM)/\Gr W w'):=fun W h=>by rw[ap];exact pY x.r x.p x.c W ak.1 ak.2 (b5.1.below h) ((hS.out.2.2.2.2.2.below hR.out.2.2).below h)
    have cz:O (∀W,jb2 wr W->(Instr.lookup 184 (.map (some w.heap.size)) (.string NM) false).run I W= .ok (.int J N) W):=fun W h=>by
     have hm:=gq (gq hS.out.2.2.2.1.map hR.out.2.2) h;obtain ⟨c,h1,h2,_⟩:=hm.lookup_int yw Tryz.underlying184 Tryz.underlying3 (by kernel_rfl) an;have h3:=hS.out.2.2.2.1.sums.at' x.r;rw[List.take_of_length_le (Nat.le_refl _),hN] at h3;rw[h3] at h2;obtain rfl:N=c:=by cases h2;rfl
     exact h1
    have a9:j<(S.map Itm.z).length:=(by simpa using d);have bc:((S.map Itm.z)[j]).1=x.r:=by rw[List.getElem_map,hx];rfl
    have bo:O (∀(_:0<j) (y:Itm),S[j-1]'(by omega)=y->aw y.r x.r=0->UpR (l.map Itm.z) (S.map Itm.z) (j+1) (L.map Itm.z)):=(fun h0 y hy hc=>by refine hR.out.1.dup a9 (yj a9 h0 ?_);rw[bc,List.getElem_map,hy];exact hc);have a2:O (N=0->UpR (l.map Itm.z) (S.map Itm.z) (j+1) (L.map Itm.z)):=fun h=>hR.out.1.none a9 (by rw[bc,hN];exact h);have a1:O ((j=0\/∃(_:0<j) (y:Itm),S[j-1]'(by omega)=y/\aw y.r x.r≠0)->N≠0->UpR (l.map Itm.z) (S.map Itm.z) (j+1) (L.map Itm.z++[(x.r,N)])):=fun h h0=>by
     have:=hR.out.1.more a9 (uD hS.out.2.1 a9 (by
      rcases h with h|⟨h1,y,hy,hc⟩
      ·exact oL h
      ·exact oR ⟨h1,by rw[bc,List.getElem_map,hy];exact hc⟩)) (by rw[bc,hN];exact h0)
     rw[bc,hN] at this;exact this
    have ba:=ja3 b5.1 b5.2.2 ak.1;have g0:=(gR wr).cellG hg e0;have ey:∀n os,(Instr.lookup 184 (.map (some w.heap.size)) (.string NM) false).run I (grow (wr.drewN n) os)= .ok (.int J N) (grow (wr.drewN n) os):=fun n os=>cz.out _ (show Gr wr _ from ⟨n,os,rfl⟩).below;have d6:O (∀n os,X I 138 #[V x.p x.r.length x.c] (grow (wr.drewN n) os) fun e w'=>e= Y (.string NM)/\∃q cs,w'=grow ((grow (wr.drewN n) os).drewN q) cs):=fun n os=>c0.out _ (show Gr wr _ from ⟨n,os,rfl⟩).below;have R:O (OwnT wr w2.heap.size u7 L/\jb2 w2 wr/\L.length<=j):=⟨hR.out.2.1,hR.out.2.2,by have:=hR.out.1.len;simpa using this⟩;have ck:=ja1 an;have d4:=ja1 hN;clear cp ak b5 hN ap cl an a9 bc;obtain ⟨m,hm⟩:∃m:Nat,j-1=m:=⟨_,rfl⟩;have bl:(j=0/\(((N==0)=true/\O (UpR (l.map Itm.z) (S.map Itm.z) (j+1) (L.map Itm.z)))\/((N==0)=false/\O (UpR (l.map Itm.z) (S.map Itm.z) (j+1) (L.map Itm.z++[(x.r,N)])))))\/(0<j/\∃(y:Itm) (cc:Int),jb1 wr g (F+m) (V y.p y.r.length y.c)/\O (∀n os,X I 136 #[V y.p y.r.length y.c,V x.p x.r.length x.c] (grow (wr.drewN n) os) fun e w'=>e= Y (.int J cc)/\∃q cs,w'=grow ((grow (wr.drewN n) os).drewN q) cs)/\(((cc==0)=true/\O (UpR (l.map Itm.z) (S.map Itm.z) (j+1) (L.map Itm.z)))\/((cc==0)=false/\(N==0)=true/\O (UpR (l.map Itm.z) (S.map Itm.z) (j+1) (L.map Itm.z)))\/((cc==0)=false/\(N==0)=false/\O (UpR (l.map Itm.z) (S.map Itm.z) (j+1) (L.map Itm.z++[(x.r,N)]))))):=by
     have hb:∀z:Int,((z==0)=true/\z=0)\/((z==0)=false/\z≠0):=(fun z=>by by_cases h:z=0<;>simp[h]);rcases Nat.eq_zero_or_pos j with h|h
     ·refine oL ⟨h,(hb N).imp (fun k=>⟨k.1,a2.out k.2⟩) fun k=>⟨k.1,a1.out (oL h) k.2⟩⟩
     ·have ds:m<S.length:=(by omega);have d2:=(hS.out.2.2.2.2.1.below hR.out.2.2).each _ (hS.out.1.mem_iff.1 (gM ds));have d1:S[j-1]'(by omega)=S[m]:=by simp only[hm]
      refine oR ⟨h,S[m],aw S[m].r x.r,by simpa[fV] using a0 m ds 0 (by omega),fun n os=>j2 S[m].r x.r S[m].p x.p S[m].c x.c _ d2.2.1 (d2.1.gr ⟨n,os,rfl⟩) (ba.out.1.gr ⟨n,os,rfl⟩),(hb _).imp (fun k=>⟨k.1,bo.out h _ d1 k.2⟩) fun k=>(hb N).imp (fun q=>⟨k.1,q.1,a2.out q.2⟩) fun q=>⟨k.1,q.1,a1.out (oR ⟨h,_,d1,k.2⟩) q.2⟩⟩
    clear bo a1 a2 a0 hx;rcases bl with ⟨h0,bl⟩|⟨h0,y,cc,e1,hOg,bl⟩;have dl:decide ((0:Int)<(j:Int))=false:=decide_eq_false (by omega);have dp:decide (0<j)=false:=decide_eq_false (by omega);clear h0 hm;rcases bl with ⟨hn,cm⟩|⟨hn,hup⟩;rotate_left 2;have e4:IntKind.i64.wrap ((j:Int)-1)=(m:Int):=by rw[IntKind.wrap_i64];omega
    have en:wrap64 ((j:Int)-1)=(m:Int):=(by unfold wrap64;omega);have dl:decide ((0:Int)<(j:Int))=true:=decide_eq_true (by omega);have dp:decide (0<j)=true:=decide_eq_true h0;have fn:(m:Int)<(S.length:Int):=by omega
    have e6:(0:Int)<=(m:Int):=(by omega);have g1:=(gR wr).cellG hg e1;clear h0 hm;rcases bl with ⟨c9,cm⟩|⟨c9,hn,cm⟩|⟨c9,hn,hup⟩;all_goals
     go_wp2;refine wp_region_quiet_grown cr (by kernel_rfl) ?_;repeat (go_big_quiet_step (first|(go_at_call 136;refine Calls.grown_of (hOg.out _ _))|(go_at_call 138;refine Calls.grown_of (d6.out _ _))))
     refine wpQuiet_nil ?_;rintro _ ⟨⟨nq,cu⟩,rfl⟩;have E:O (Gr wr (grow (wr.drewN nq) cu)):=⟨nq,cu,rfl⟩
     first
      | (
       have ad:=ja3 cm.out (R.out.1.gr E.out) (R.out.2.1.trans (E.out.below.mono R.out.2.1.size))
       go_wp2
       go_roundw
       case rel=>exact ⟨j+1,L,by omega,by go_num,ad⟩
       case measure=>simp[intOf];omega)
      | skip
    all_goals
     obtain ⟨w5,dG⟩:=jb0 (grow (wr.drewN nq) cu);rw[dG] at E ⊢;clear dG;go_wp2;have ao:O (∀W',jb2 w5 W'->(fun w'=>jb1 w' g (F+j) (V x.p x.r.length x.c)/\(Instr.lookup 184 (.map (some w.heap.size)) (.string NM) false).run I w'= .ok (.int J N) w') W'):=fun W' h=>by have h1:=E.out.below.trans (h.mono E.out.size);exact ⟨(h1.cell (p:=(jb5 g (F+j))) hg).trans e0,cz.out _ h1⟩
     have a3:=ja1 ((gR w5).drew.below);have b3:O (∀W,jb2 w5 W->aq W x.p x.r/\(x.p=none->x.c=0)/\0+x.r.length<=maxLen/\(0+x.r.length)*8<=140737488355328):=fun W h=>⟨ba.out.1.below (E.out.below.trans (h.mono E.out.size)),ba.out.2.1,by have:=ba.out.2.2;unfold maxLen;omega,by have:=ba.out.2.2;omega⟩;have c1:O (∀W,jb2 w5 W->X I 138 #[V x.p x.r.length x.c] W fun e w'=>e= Y (.string NM)/\Gr W w'):=fun W h=>c0.out W (E.out.below.trans (h.mono E.out.size));have eg:O (∀W C c,jb2 w5 W->aq W C x.r->(C=none->c=0)->(∀a,C=some a->w5.heap.size<=a.block/\a.block<W.heap.size)->OwnT (W.alloc (U #[V C x.r.length c,.int J N] 101)) w2.heap.size u7 L/\Apart (W.alloc (U #[V C x.r.length c,.int J N] 101)) w2.heap.size u7.ownBlock ⟨C,c,x.r,N⟩/\L.length+1<=maxLen/\(L.length+1)*32<=140737488355328/\jb2 w2 (W.alloc (U #[V C x.r.length c,.int J N] 101))):=fun W C c h ah hC d=>by
      have hA:=h.alloc h.size (U #[V C x.r.length c,.int J N] 101);have a7:=E.out.below.trans (hA.mono E.out.size);have e5:=R.out.2.2;refine ⟨R.out.1.below a7,⟨ah.gr ((gR _).alloc _),by have:=ba.out.2.2;show x.r.length<=_;unfold maxLen;omega,hC,fun a ha=>⟨?_,?_,?_⟩⟩,by unfold maxLen;omega,by omega,R.out.2.1.trans (a7.mono R.out.2.1.size)⟩
      ·have h1:=(d a ha).1;have h2:=E.out.size;have h3:=R.out.2.1.size;omega
      ·have h1:=(d a ha).2;simp;omega
      ·intro e;have h1:=(d a ha).1;have h2:=(World.ownsRow.lt R.out.1.own a.block e).2;have h3:=E.out.size;omega
     have b2:O (∀W C c W',jb2 w5 W->(W.alloc (U #[V C x.r.length c,.int J N] 101)).grownBy W' u7.ownBlock->jb2 w2 (W.alloc (U #[V C x.r.length c,.int J N] 101))->(fun w'=>jb1 w' g (F+j) (V x.p x.r.length x.c)/\(Instr.lookup 184 (.map (some w.heap.size)) (.string NM) false).run I w'= .ok (.int J N) w') W'):=fun W C c W' h ea _=>by
      have hA:=h.alloc h.size (U #[V C x.r.length c,.int J N] 101);have a7:=E.out.below.trans (hA.mono E.out.size);have d9:Below w2.heap.size (W.alloc (U #[V C x.r.length c,.int J N] 101)) W':=ae.grown_below (R.out.1.below a7).own ea (nT R.out.2.1.size a7.size);have bh:jb2 w2 W':=(R.out.2.1.trans (a7.mono R.out.2.1.size)).trans d9;obtain ⟨b0,o0,d8,ce,e2⟩:=hS.out.2.2.1.at d;cases d8;refine ⟨?_,?_⟩
      ·have h1:=bh.cell (p:=(jb5 g (F+j))) ce;have h2:=R.out.2.1.cell (p:=(jb5 g (F+j))) ce;exact (h1.trans h2.symm).trans e0
      ·have hm:=gq hS.out.2.2.2.1.map bh;obtain ⟨c',h1,h2,_⟩:=hm.lookup_int yw Tryz.underlying184 Tryz.underlying3 (by kernel_rfl) ck.out;have h3:=hS.out.2.2.2.1.sums.at' x.r;rw[List.take_of_length_le (Nat.le_refl _),d4.out] at h3;rw[h3] at h2;obtain rfl:N=c':=by cases h2;rfl
       exact h1
     go_region_held3 (fun w'=>jb1 w' g (F+j) (V x.p x.r.length x.c)/\(Instr.lookup 184 (.map (some w.heap.size)) (.string NM) false).run I w'= .ok (.int J N) w') (first|with_reducible exact ao.out _ a3.out|with_reducible exact ao.out _ bd.out|with_reducible exact ao.out _ bN.out|with_reducible exact ao.out _ (bd.out.alloc bd.out.size _)|exact ec.out) (first
      | (go_at_call 138;(refine cM (c1.out _ bN.out) ?_);rintro e w6 ⟨rfl,b4⟩;have bd:O (jb2 w5 w6):=bN.out.trans (b4.below.mono bN.out.size);have cf:O (aq w6 C x.r/\(C=none->c7=0)/\∀a,C=some a->w5.heap.size<=a.block/\a.block<w6.heap.size):=⟨b1.out.1.gr b4,b1.out.2.1,fun a ha=>⟨(b1.out.2.2 a ha).1,nL (b1.out.2.2 a ha).2 b4.size⟩⟩;clear b4)
      | (refine ev _ rfl (.const (V none 0 0)) (.tmp 81) rfl w5.drew.heap.size (V none 0 0) [] x.r x.p x.c rfl rfl (ae.nil _ _ _ _ _) (b3.out _ a3.out).1 (b3.out _ a3.out).2.1 (b3.out _ a3.out).2.2.1 (b3.out _ a3.out).2.2.2 (nR _) ?_;intro v7 w7 bv cd;obtain ⟨C,c7,rfl,hC,ah,bs⟩:=ae.row bI bv;have c6:Below w5.drew.heap.size w5.drew w7:=bB cd;have bN:O (jb2 w5 w7):=a3.out.trans (c6.mono a3.out.size);have b1:O (aq w7 C x.r/\(C=none->c7=0)/\∀a,C=some a->w5.heap.size<=a.block/\a.block<w7.heap.size):=⟨by simpa using ah,hC,fun a ha=>⟨nT a3.out.size (bs a ha).1,(bs a ha).2⟩⟩;clear bv cd hC ah bs c6)
      | (have f:=eg.out w6 C c7 bd.out cf.out.1 cf.out.2.1 cf.out.2.2;refine fZ _ rfl (.tmp 77) (.tmp 91) rfl w2.heap.size u7 L ⟨C,c7,x.r,N⟩ (jb5 w6.heap.size 0) 1 rfl rfl f.1 (bV rfl (⟨C,c7,x.r,N⟩:Itm) 101) f.2.1 f.2.2.1 f.2.2.2.1 f.2.2.2.2.size ?_;intro v8 w8 bC c8 b9;have ec:O ((fun w'=>jb1 w' g (F+j) (V x.p x.r.length x.c)/\(Instr.lookup 184 (.map (some w.heap.size)) (.string NM) false).run I w'= .ok (.int J N) w') w8):=b2.out w6 C c7 w8 bd.out b9 f.2.2.2.2;have ad:O (UpR (l.map Itm.z) (S.map Itm.z) (j+1) ((L++[(⟨C,c7,x.r,N⟩:Itm)]).map Itm.z)/\OwnT w8 w2.heap.size v8 (L++[(⟨C,c7,x.r,N⟩:Itm)])/\jb2 w2 w8):=⟨by rw[List.map_append];exact hup.out,bC,f.2.2.2.2.trans c8⟩;clear bC c8 b9 f))
     go_wp2;go_roundw;exact ⟨j+1,L++[(⟨C,c7,x.r,N⟩:Itm)],by omega,by go_num,ad⟩;simp[intOf];omega
   ·have a5:¬(j:Int)<(S.length:Int):=(by omega);obtain ⟨A2,b7,ej,dv,dk,dx⟩:=hR.out.2.1.items;have ad:O (L.map Itm.z=bQ (l.map Itm.z)/\Items wr A2 L/\dC A2 L.length b7/\jb2 w wr/\eR w.heap.size A2 L):=by have a4:=hS.out.2.2.2.1.bel;refine ⟨hR.out.1.done (by simp;omega) (hS.out.1.map Itm.z),dk,dv,a4.trans (hR.out.2.2.mono a4.size),⟨fun a ha=>nT a4.size (dx a ha).1,fun x hx a ha=>nT a4.size ((hR.out.2.1.each x hx).own a ha).1⟩⟩
    subst ej;clear dk dv dx;go_wp2;go_ret;exact ⟨L,A2,b7,rfl,ad.out⟩
end
end Go.Proofs.YtbkjgjjpnfhkhaaGreatDoor
