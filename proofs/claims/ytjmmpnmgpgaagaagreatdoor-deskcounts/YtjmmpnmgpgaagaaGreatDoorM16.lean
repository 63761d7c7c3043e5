import Derived.ChangeKeysEq
import Derived.Test.YtjmmpnmgpgaagaaGreatDoorM03
set_option maxRecDepth 100000
set_option maxHeartbeats 8000000
open Go renaming World → H, Value → Y, Calls → M, Addr → ic
open Go.Ending renaming returned → K
open Go.IntKind renaming i64 → I
open Go.Obj renaming cells → Z
open Go.Proofs.Tryz renaming prog → J
open Go.RowKit renaming Hid → X, Below → ib
open Go.Value renaming int → S, slice → O, agg → U, tuple → P, pointer → ia
namespace Go.Proofs.YtjmmpnmgpgaagaaGreatDoor
open Go.RowKit Go.Sort

theorem kx (x y:Int×Int):br x y=true↔x.1<y.1\/(x.1=y.1/\x.2<y.2):=by simp[br]
theorem gL {x y z:Int×Int} (h:br x y=true) (k:br y z=true):br x z=true:=by rw[kx] at *;omega
theorem rx (x:Int×Int):br x x=false:=by simp[br]
theorem jg {x y:Int×Int} (h:br x y=true):x≠y:=by rintro rfl;rw[rx] at h;cases h
theorem pT (x y:Int×Int):eA x y=0↔x=y:=by
 obtain ⟨a,b⟩:=x
 obtain ⟨c,d⟩:=y
 unfold eA aQ
 simp only[Prod.mk.injEq]
 constructor
 ·intro h
  by_cases f:a<c
  ·simp[f] at h
  ·by_cases g:c<a
   ·simp[f,g] at h
   ·by_cases j:b<d
    ·simp[f,g,j] at h
    ·by_cases k:d<b
     ·simp[f,g,j,k] at h
     ·omega
 ·rintro ⟨rfl,rfl⟩;simp
theorem CelAt.G {w:H} {B:Nat} {x:Cel} (h:CelAt w B x):(∀n f,(grow (w.drewN n) f).cell? ⟨B,0,none⟩=some (S I x.1.1))/\(∀n f,(grow (w.drewN n) f).cell? ⟨B,1,none⟩=some (S I x.1.2))/\(∀n f,(grow (w.drewN n) f).cell? ⟨B,2,none⟩=some (S I x.2.1))/\(∀n f,(grow (w.drewN n) f).cell? ⟨B,3,none⟩=some (S I x.2.2.1))/\(∀n f,(grow (w.drewN n) f).cell? ⟨B,4,none⟩=some (S I x.2.2.2)) :=
 ⟨cell_grown (a:=⟨B,0,none⟩) h.lt h.k0,cell_grown (a:=⟨B,1,none⟩) h.lt h.k1,cell_grown (a:=⟨B,2,none⟩) h.lt h.k2,cell_grown (a:=⟨B,3,none⟩) h.lt h.k3,cell_grown (a:=⟨B,4,none⟩) h.lt h.k4⟩

def Asc (l:List Cel):Prop:=l.Pairwise fun x y=>br x.1 y.1=true
def iF (l:List Cel) (d:Int×Int):Bool:=l.any fun y=>decide (y.1=d)

theorem zW {l:List Cel} {d:Int×Int} {a:Nat} (F:Asc l) (u:∀k (h:k<l.length),k<a->br l[k].1 d=true) (C:∀k (h:k<l.length),a<=k->br l[k].1 d=false) :
  iF l d=decide (∃h:a<l.length,l[a].1=d):=by
 by_cases g:∃h:a<l.length,l[a].1=d
 ·rw[decide_eq_true g]
  obtain ⟨h,e⟩:=g
  unfold iF
  rw[List.any_eq_true]
  exact ⟨l[a],gM h,by simpa using e⟩
 ·rw[decide_eq_false g]
  unfold iF
  rw[List.any_eq_false]
  intro y L E
  have f:y.1=d:=by simpa using E
  obtain ⟨k,j,rfl⟩:=List.getElem_of_mem L
  by_cases n:k<a
  ·exact jg (u k j n) f
  ·by_cases e:k=a
   ·subst e;exact g ⟨j,f⟩
   ·have r:=(List.pairwise_iff_getElem.1 F) a k (by omega) j (by omega)
    rw[f,C a (by omega) (Nat.le_refl _)] at r
    cases r

theorem lR (l:List Cel) (A:Option ic) (cap:Nat) (x:Cel) (w:H) (hl:l.length<=400) (hr:bF w A l) (hs:Asc l) :
  M J 190 #[O A l.length cap,U #[S I x.1.1,S I x.1.2,S I x.2.1,S I x.2.2.1,S I x.2.2.2],.func (.func 120) #[] #[]] w fun e w'=>∃i:Nat,e= K (P #[S I i,.bool (iF l x.1)])/\(iF l x.1=true->∃h:i<l.length,l[i].1=x.1)/\Gr w w':=by
 have g:Tryz.prog.follows .mixedOrders=true:=by kernel_rfl
 have a8:CelAt (w.alloc (Z #[S I x.1.1,S I x.1.2,S I x.2.1,S I x.2.2.1,S I x.2.2.2] 187)) w.heap.size x:=CelAt.new x 187 rfl
 have a1:Gr w (w.alloc (Z #[S I x.1.1,S I x.1.2,S I x.2.1,S I x.2.2.1,S I x.2.2.2] 187)):=(gR w).alloc _
 have a2:=ja1 hs
 clear hs
 go_enter Tryz.func190,Tryz.ntmps190
 go_wp2
 generalize w.alloc (Z #[S I x.1.1,S I x.1.2,S I x.2.1,S I x.2.2.1,S I x.2.2.2] 187)=w0 at a8 a1 ⊢
 go_loopw [9,10] (fun i j wr=>∃a b:Nat,a<=b/\b<=l.length/\i= S I a/\j= S I b/\X ((∀k (h:k<l.length),k<a->br l[k].1 x.1=true)/\(∀k (h:k<l.length),b<=k->br l[k].1 x.1=false))/\Gr w0 wr) (fun i j _=>(intOf j).toNat-(intOf i).toNat)
 case atStart=>exact ⟨0,l.length,by omega,by omega,rfl,rfl,⟨fun k _ h=>absurd h (Nat.not_lt_zero _),fun k h1 h2=>by omega⟩,gR _⟩
 case round =>
  obtain ⟨a,b,bl,a9,rfl,rfl,E,ah⟩:=hrel
  have be:=a8.gr ah
  obtain ⟨x0,x1,x2,x3,x4⟩:=be.G
  by_cases bd:a<b
  ·have a6:(a:Int)<(b:Int):=by omega
   obtain ⟨h,hh⟩:∃h,(a+b) / 2=h:=⟨_,rfl⟩
   have ba:a<=h:=by omega
   have bo:h<b:=by omega
   have ap:h<l.length:=by omega
   obtain ⟨L,n,rfl,R,ad⟩:=bF.get (hr.gr (a1.trans ah)) ap
   obtain ⟨y,hy⟩:∃y,l[h]=y:=⟨_,rfl⟩
   obtain ⟨e0,e1,e2,e3,e4⟩:=ad h ap
   rw[hy] at e0 e1 e2 e3 e4
   have q0:=cell_grown (a:=⟨L,n+h*5,none⟩) R e0
   have q1:=cell_grown (a:=⟨L,n+h*5+1,none⟩) R e1
   have q2:=cell_grown (a:=⟨L,n+h*5+2,none⟩) R e2
   have q3:=cell_grown (a:=⟨L,n+h*5+3,none⟩) R e3
   have q4:=cell_grown (a:=⟨L,n+h*5+4,none⟩) R e4
   clear e0 e1 e2 e3 e4
   have an:=ja1 hy
   clear ad hy
   have hz:((a:Int)+(b:Int)) / 2=(h:Int):=by omega
   have bs:(h:Int)<(l.length:Int):=by omega
   have bn:=ja1 hh
   clear hh
   cases C:br y.1 x.1
   ·have a5:=iU C
    have bh:(decide (eA y.1 x.1<0))=false:=decide_eq_false (by omega)
    go_wp2
    refine wp_region_quiet_grown g (by kernel_rfl) ?_
    repeat (go_big_quiet_step ((go_at_call 120;refine Calls.grown_of (gF rfl _))))
    refine wpQuiet_nil ?_
    rintro _ ⟨⟨u,f⟩,rfl⟩
    go_wp2
    go_roundw
    case rel =>
     refine ⟨a,h,ba,by omega,rfl,rfl,⟨E.out.1,fun k hk bp=> ?_⟩,ah.trans ⟨u,f,rfl⟩⟩
     by_cases e:k=h
     ·subst e;rw[an.out];exact C
     ·have:=(List.pairwise_iff_getElem.1 a2.out) h k ap hk (by omega)
      rw[an.out] at this
      cases bc:br l[k].1 x.1
      ·rfl
      ·rw[gL this bc] at C;cases C
    case measure=>simp[intOf];omega
   ·have a5:=iT C
    go_wp2
    refine wp_region_quiet_grown g (by kernel_rfl) ?_
    repeat (go_big_quiet_step ((go_at_call 120;refine Calls.grown_of (gF a5 _))))
    refine wpQuiet_nil ?_
    rintro _ ⟨⟨u,f⟩,rfl⟩
    go_wp2
    go_roundw
    case rel =>
     refine ⟨h+1,b,by omega,a9,by go_num,rfl,⟨fun k hk bt=> ?_,E.out.2⟩,ah.trans ⟨u,f,rfl⟩⟩
     by_cases e:k=h
     ·subst e;rw[an.out];exact C
     ·have:=(List.pairwise_iff_getElem.1 a2.out) k h hk ap (by omega)
      rw[an.out] at this
      exact gL this C
    case measure=>simp[intOf];omega
  ·have a6:¬(a:Int)<(b:Int):=by omega
   obtain rfl:a=b:=by omega
   have F:=zW a2.out E.out.1 E.out.2
   have a0:Gr w wr:=a1.trans ah
   clear bd
   by_cases ao:a<l.length
   ·have a3:(a:Int)<(l.length:Int):=by omega
    obtain ⟨L,n,rfl,R,ad⟩:=bF.get (hr.gr a0) ao
    obtain ⟨y,hy⟩:∃y,l[a]=y:=⟨_,rfl⟩
    obtain ⟨e0,e1,e2,e3,e4⟩:=ad a ao
    rw[hy] at e0 e1 e2 e3 e4
    have q0:=cell_grown (a:=⟨L,n+a*5,none⟩) R e0
    have q1:=cell_grown (a:=⟨L,n+a*5+1,none⟩) R e1
    have q2:=cell_grown (a:=⟨L,n+a*5+2,none⟩) R e2
    have q3:=cell_grown (a:=⟨L,n+a*5+3,none⟩) R e3
    have q4:=cell_grown (a:=⟨L,n+a*5+4,none⟩) R e4
    clear e0 e1 e2 e3 e4
    have an:=ja1 hy
    clear ad
    by_cases hq:y.1=x.1
    ·have a7:=(pT y.1 x.1).2 hq
     have r:X (iF l x.1=true/\∃h:a<l.length,l[a].1=x.1):=by
      have a4:∃h:a<l.length,l[a].1=x.1:=⟨ao,by rw[hy];exact hq⟩
      exact ⟨by rw[F];exact decide_eq_true a4,a4⟩
     clear F hq hy
     go_wp2
     refine wp_region_quiet_grown g (by kernel_rfl) ?_
     repeat (go_big_quiet_step ((go_at_call 120;refine Calls.grown_of (gF a7 _))))
     refine wpQuiet_nil ?_
     rintro _ ⟨⟨u,f⟩,rfl⟩
     go_wp2
     go_ret2
     rw[r.out.1]
     exact ⟨a,rfl,fun _=>r.out.2,a0.trans ⟨u,f,rfl⟩⟩
    ·have a7:(eA y.1 x.1==0)=false:=beq_eq_false_iff_ne.2 (fun h=>hq ((pT y.1 x.1).1 h))
     have r:X (iF l x.1=false):=by
      show iF l x.1=false
      rw[F]
      refine decide_eq_false ?_
      rintro ⟨_,h⟩
      rw[hy] at h
      exact hq h
     clear F hq hy
     go_wp2
     refine wp_region_quiet_grown g (by kernel_rfl) ?_
     repeat (go_big_quiet_step ((go_at_call 120;refine Calls.grown_of (gF rfl _))))
     refine wpQuiet_nil ?_
     rintro _ ⟨⟨u,f⟩,rfl⟩
     go_wp2
     go_ret2
     rw[r.out]
     exact ⟨a,rfl,(fun h=>by cases h),a0.trans ⟨u,f,rfl⟩⟩
   ·have a3:¬(a:Int)<(l.length:Int):=by omega
    have r:X (iF l x.1=false):=by
     show iF l x.1=false
     rw[F]
     refine decide_eq_false ?_
     rintro ⟨h,_⟩
     exact ao h
    clear F
    go_wp2
    refine wp_region_quiet_grown g (by kernel_rfl) ?_
    repeat (go_big_quiet_step (fail))
    refine wpQuiet_nil ?_
    rintro _ ⟨⟨u,f⟩,rfl⟩
    go_wp2
    go_ret2
    rw[r.out]
    exact ⟨a,rfl,(fun h=>by cases h),a0.trans ⟨u,f,rfl⟩⟩



def jF (x y:Cel):Bool:=decide (x=y)
theorem pq {x y:Cel}:jF x y=true↔x=y:=by simp[jF]

theorem Bs (a b c d:Int) (w:H):(Op.equalIn 9999 185 (U #[S I a,S I b]) (U #[S I c,S I d])).run J w= .ok (a==c && b==d) w:=by
 have u3:=Tryz.underlying3
 have k:=Tryz.isAgg3
 have n:=Tryz.sizeOf3
 have h:Tryz.prog.underlying 185=some (.struct (Tryz.prog.fieldsOf 185)):=by kernel_rfl
 have j:Tryz.prog.stoodInHeld 185=false:=by kernel_rfl
 rw[show (9999:Nat)=9998+1 from rfl,run_equalIn_agg w 9998 185 _ _ h j]
 simp only[Program.fieldsOf,Tryz.underlying185]
 go_simp
 by_cases f:a=c<;>by_cases g:b=d<;>simp[f,g]

theorem Br (x y:Cel) (w:H):(Op.equalIn 10000 187 (U #[S I x.1.1,S I x.1.2,S I x.2.1,S I x.2.2.1,S I x.2.2.2]) (U #[S I y.1.1,S I y.1.2,S I y.2.1,S I y.2.2.1,S I y.2.2.2])).run J w= .ok (jF x y) w:=by
 obtain ⟨⟨h,j⟩,k,n,r⟩:=x
 obtain ⟨⟨u,C⟩,E,F,L⟩:=y
 have u3:=Tryz.underlying3
 have g3:=Tryz.isAgg3
 have z3:=Tryz.sizeOf3
 have c2:Tryz.prog.cellsOf 185=2:=by kernel_rfl
 have c1:Tryz.prog.cellsOf 3=1:=by kernel_rfl
 have gD:=Tryz.isAgg185
 have zD:=Tryz.sizeOf185
 have hd:=Bs
 have f:Tryz.prog.underlying 187=some (.struct (Tryz.prog.fieldsOf 187)):=by kernel_rfl
 have g:Tryz.prog.stoodInHeld 187=false:=by kernel_rfl
 rw[show (10000:Nat)=9999+1 from rfl,run_equalIn_agg w 9999 187 _ _ f g]
 simp only[Program.fieldsOf,Tryz.underlying187]
 clear f g
 go_simp
 by_cases R:h=u<;>by_cases h1:j=C<;>by_cases h2:k=E<;>by_cases h3:n=F<;>by_cases h4:r=L<;>simp[jF,R,h1,h2,h3,h4]

theorem Dq (x y:Cel) (w:H):(binOp .neq 187 (U #[S I x.1.1,S I x.1.2,S I x.2.1,S I x.2.2.1,S I x.2.2.2]) (U #[S I y.1.1,S I y.1.2,S I y.2.1,S I y.2.2.1,S I y.2.2.2])).run J w= .ok (.bool (!jF x y)) w:=by
 rw[run_neq_struct,Br];rfl
theorem zB (f:BinOp) (p q:Operand) (x y:Cel) (w:H):(eqGuard f 187 p q (U #[S I x.1.1,S I x.1.2,S I x.2.1,S I x.2.2.1,S I x.2.2.2]) (U #[S I y.1.1,S I y.1.2,S I y.2.1,S I y.2.2.1,S I y.2.2.2])).run J w= .ok () w :=
 run_eqGuard_agg w f 187 p q _ _ (by kernel_rfl)


def clP (l:List Cel) (x:Cel):Bool:=l.any fun y=>decide (y.1=x.1) && !jF y x

theorem yD {l:List Cel} (g:Asc l) {i j:Nat} (hi:i<l.length) (f:j<l.length) (h:l[i].1=l[j].1):i=j:=by
 rcases Nat.lt_trichotomy i j with h1|h1|h1
 ·have:=(List.pairwise_iff_getElem.1 g) i j hi f h1
  exact absurd h (jg this)
 ·exact h1
 ·have:=(List.pairwise_iff_getElem.1 g) j i f hi h1
  exact absurd h.symm (jg this)
theorem D0 {l:List Cel} {x:Cel} (n:Asc l) {i:Nat} (hi:i<l.length) (h:l[i].1=x.1):clP l x= !jF l[i] x:=by
 cases g:jF l[i] x
 ·unfold clP
  show _=true
  rw[List.any_eq_true]
  exact ⟨l[i],gM hi,by rw[g];simpa using h⟩
 ·unfold clP
  show _=false
  rw[List.any_eq_false]
  intro y r
  obtain ⟨j,k,rfl⟩:=List.getElem_of_mem r
  by_cases f:l[j].1=x.1
  ·obtain rfl:=yD n hi k (h.trans f.symm)
   rw[g];simp
  ·simp[f]
theorem yO {l:List Cel} {x:Cel} (h:iF l x.1=false):clP l x=false:=by
 unfold iF at h
 rw[List.any_eq_false] at h
 unfold clP
 rw[List.any_eq_false]
 intro y g
 have:=h y g
 simp at this ⊢
 intro f
 exact absurd f this

theorem tz (l:List Cel) (B:Option ic) (cb:Nat) (p:Nat) (x:Cel) (w:H) (hl:l.length<=400) (hp:p<w.heap.size) (kp:w.cell? ⟨p,0,none⟩=some (O B l.length cb)) (hr:bF w B l) (hs:Asc l) :
  M J 189 #[U #[S I x.1.1,S I x.1.2,S I x.2.1,S I x.2.2.1,S I x.2.2.2],ia (some ⟨p,0,none⟩)] w fun e w'=>e= K (.bool (clP l x))/\Gr w w':=by
 have h:Tryz.prog.follows .mixedOrders=true:=by kernel_rfl
 have L:CelAt (w.alloc (Z #[S I x.1.1,S I x.1.2,S I x.2.1,S I x.2.2.1,S I x.2.2.2] 187)) w.heap.size x:=CelAt.new x 187 rfl
 have n:Gr w (w.alloc (Z #[S I x.1.1,S I x.1.2,S I x.2.1,S I x.2.2.1,S I x.2.2.2] 187)):=(gR w).alloc _
 go_enter Tryz.func189,Tryz.ntmps189
 go_wp2_with fail
 refine (lR l B cb x _ hl (hr.gr n) hs).mono ?_
 rintro e w1 ⟨i,rfl,hf,r⟩
 have g:Gr w w1:=n.trans r
 have ao:w1.cell? ⟨p,0,none⟩=some (O B l.length cb):=(g.cell (p:=⟨p,0,none⟩) hp).trans kp
 have ad:p<w1.heap.size:=nL hp g.size
 have an:=L.gr r
 have ah:=hr.gr g
 clear L n r kp hr
 cases hm:iF l x.1
 ·have f:=ja1 (yO hm)
  clear hf
  go_wp2
  refine wp_region_quiet_grown h (by kernel_rfl) ?_
  repeat (go_big_quiet_step (fail))
  refine wpQuiet_nil ?_
  rintro _ ⟨⟨u,k⟩,rfl⟩
  go_wp2
  go_ret
  rw[f.out]
  exact ⟨rfl,g.trans ⟨u,k,rfl⟩⟩
 ·obtain ⟨hi,hd⟩:=hf hm
  have f:=ja1 (D0 hs hi hd)
  have ap:(i:Int)<(l.length:Int):=by omega
  obtain ⟨C,j,rfl,E,F⟩:=bF.get ah hi
  obtain ⟨y,hy⟩:∃y,l[i]=y:=⟨_,rfl⟩
  obtain ⟨R,e1,e2,e3,e4⟩:=F i hi
  rw[hy] at R e1 e2 e3 e4 f
  have q0:=cell_grown (a:=⟨C,j+i*5,none⟩) E R
  have q1:=cell_grown (a:=⟨C,j+i*5+1,none⟩) E e1
  have q2:=cell_grown (a:=⟨C,j+i*5+2,none⟩) E e2
  have q3:=cell_grown (a:=⟨C,j+i*5+3,none⟩) E e3
  have q4:=cell_grown (a:=⟨C,j+i*5+4,none⟩) E e4
  have kG:=cell_grown (a:=⟨p,0,none⟩) ad ao
  obtain ⟨x0,x1,x2,x3,x4⟩:=an.G
  have hE:=Dq
  have hG:=zB
  clear R e1 e2 e3 e4 F hf hd hy hs
  go_wp2
  refine wp_region_quiet_grown h (by kernel_rfl) ?_
  repeat (go_big_quiet_step (fail))
  refine wpQuiet_nil ?_
  rintro _ ⟨⟨u,k⟩,rfl⟩
  go_wp2
  go_ret
  rw[f.out]
  exact ⟨rfl,g.trans ⟨u,k,rfl⟩⟩

theorem wu (a b:List Cel) (A B:Option ic) (ca cb:Nat) (w:H) (F:a.length<=400) (j:b.length<=400) (u:bF w A a) (C:bF w B b) (L:Asc b) :
  M J 162 #[O A a.length ca,O B b.length cb] w fun e w'=>e= K (.bool (a.any (clP b)))/\Gr w w':=by
 have g:Gr w (w.alloc (Z #[O B b.length cb] 54)):=(gR w).alloc _
 have R:(w.alloc (Z #[O B b.length cb] 54)).cell? ⟨w.heap.size,0,none⟩=some (O B b.length cb):=aa (gR _) rfl
 have f:w.heap.size<(w.alloc (Z #[O B b.length cb] 54)).heap.size:=by simp
 have h:uT 189 #[ia (some ⟨w.heap.size,0,none⟩)] (clP b) (w.alloc (Z #[O B b.length cb] 54)):=fun W n x =>
  tz b B cb w.heap.size x W j (nL f n.size) ((n.cell (p:=⟨w.heap.size,0,none⟩) f).trans R) (C.gr (g.trans n)) L
 have E:=fQ (clP b) 189 #[ia (some ⟨w.heap.size,0,none⟩)] (enters_of Tryz.func189 (by kernel_rfl) rfl) a A ca _ (by unfold maxLen;omega) (u.gr g) h
 have k:X _:=E
 clear E h
 go_enter Tryz.func162,Tryz.ntmps162
 go_wp2_with fail
 refine ja0 k ?_
 rintro e w1 ⟨rfl,r⟩
 go_wp2
 go_ret
 exact ⟨rfl,g.trans r⟩


abbrev dN (w:H) (base:Nat) (v:Y) (l:List Cel):Prop:=ae iE 5 187 w base v l
theorem Tryz.infoC:(Tryz.prog.info? 187).map (fun i=>(i.zero,i.size,i.bytes))=some (some (U #[S I 0,S I 0,S I 0,S I 0,S I 0]),5,40):=by kernel_rfl

theorem kN {W:H} {n:Nat} (g:W.heap.size=n) (x:Cel) (T:TypeId):bF (W.alloc (Z #[S I x.1.1,S I x.1.2,S I x.2.1,S I x.2.2.1,S I x.2.2.2] T)) (some ⟨n,0,none⟩) [x]:=by
 subst g
 refine oR ⟨W.heap.size,0,rfl,by simp,fun j f i hi=> ?_⟩
 obtain rfl:j=0:=by simp at f;omega
 match i,hi with
 | 0,_=>exact aa (w:=W) (gR _) (j:=0) rfl
 | 1,_=>exact aa (w:=W) (gR _) (j:=1) rfl
 | 2,_=>exact aa (w:=W) (gR _) (j:=2) rfl
 | 3,_=>exact aa (w:=W) (gR _) (j:=3) rfl
 | 4,_=>exact aa (w:=W) (gR _) (j:=4) rfl

theorem dS (w:H) {ops:Array Oper} {f:List Oper} {o:Oper} {a:Act} {Q:Exit->Act->H->Prop} (n:o.guard=none) (s x:Operand)
  (R:o.op= .call { callee:= .builtin .append,args:= #[s,x],argTypes:= #[54,54] })
  (base:Nat) (v:Y) (l m:List Cel) (A:Option ic) (cap:Nat) (hs:a.eval s=v) (hx:a.eval x= O A m.length cap) (j:dN w base v l) (hr:bF w A m) (E:A=none->cap=0)
  (r:l.length+m.length<=maxLen) (L:(l.length+m.length)*40<=140737488355328) (g:base<=w.heap.size)
  (h:∀k w',dN w' base k (l++m)->w.grownBy w' v.ownBlock->wpList J ops Q f (a.put o.dst k) w'):wpList J ops Q (o::f) a w :=
 wpList_plain n fun _ F=>cU dQ mV (by omega) 54 Tryz.underlying54 (U #[S I 0,S I 0,S I 0,S I 0,S I 0]) 40 Tryz.infoC rfl w s x R base v l m A cap hs hx j hr E r L g fun k w' u C=>F _ _ (h k w' u C)

theorem iN {p:Cel->Bool} {l:List Cel} {k:Nat} (h:k<l.length) {x:Cel} (g:l[k]=x):(l.take (k+1)).filter p=(l.take k).filter p++(if p x then [x] else []):=by
 rw[List.take_succ_eq_append_getElem h,List.filter_append,g]
 cases f:p x<;>simp[f]
theorem pA (p:Cel->Bool) (l:List Cel) (k:Nat):((l.take k).filter p).length<=l.length:=nT (List.length_filter_le _ _) (by rw[List.length_take];omega)

section
open Go.Shelf Go.Lib

def uU (l:List Cel):Prop:=∀x∈l,∀y∈l,x.1=y.1->x=y
def g7 (x y:Cel):Bool:=br x.1 y.1
def ip (l:List Cel):List Cel:=l.mergeSort fun x y=> !g7 y x

theorem rv (x y:Cel):g7 x y=true↔x.1.1<y.1.1\/(x.1.1=y.1.1/\x.1.2<y.1.2):=kx _ _
theorem kw (x y:Cel):g7 x y=false↔y.1.1<x.1.1\/(x.1.1=y.1.1/\y.1.2<=x.1.2):=by
 simp[g7,br];omega
theorem F2 {g:Cel->Cel->Int} (f:∀x y,ltOf g x y=g7 x y):SWO (ltOf g) where
 irrefl x:=by rw[f];simp[g7,br]
 trans x y z h1 h2:=by rw[f,rv] at *;omega
 ntrans x y z h1 h2:=by rw[f,kw] at *;omega
theorem j7 (l:List Cel):(ip l).length=l.length:=by simp[ip]
theorem jv (l:List Cel):(ip l).Perm l:=List.mergeSort_perm _ _
theorem qh (l:List Cel):(ip l).Pairwise fun x y=>(!g7 y x)=true:=by
 refine List.pairwise_mergeSort ?_ ?_ _
 ·intro a b c f g
  simp only[Bool.not_eq_true',kw] at f g ⊢
  omega
 ·intro a b
  cases h:g7 b a
  ·simp
  ·have:g7 a b=false:=by rw[kw];rw[rv] at h;omega
   simp[this]
theorem vh {x y:Cel} (f:(!g7 y x)=true) (g:(!g7 x y)=true):x.1=y.1:=by
 simp only[Bool.not_eq_true',kw] at f g
 exact Prod.ext (by omega) (by omega)
theorem Cg {l m:List Cel} (r:uU l) (f:m.Perm l) (n:m.Pairwise fun x y=>(!g7 y x)=true):m=ip l:=by
 refine List.Perm.eq_of_pairwise (le:=fun x y=>(!g7 y x)=true) ?_ n (qh l) (f.trans (jv l).symm)
 intro a b j k g h
 exact r a (f.mem_iff.1 j) b ((jv l).mem_iff.1 k) (vh g h)
theorem AC {l:List Cel} (r:(l.map (·.1)).Nodup):Asc (ip l):=by
 have f:=qh l
 have g:((ip l).map (·.1)).Nodup:=((jv l).map (·.1)).nodup_iff.2 r
 have h:(ip l).Pairwise fun x y=>x.1≠y.1:=List.pairwise_map.1 g
 unfold Asc
 refine (f.and h).imp ?_
 intro x y ⟨j,k⟩
 cases n:br x.1 y.1
 ·exfalso
  refine k (vh j ?_)
  show (!br x.1 y.1)=true
  rw[n];rfl
 ·rfl

theorem D9 {w:H} {g:Nat} {l:List Cel} (h:bF w (some ⟨g,0,none⟩) l) (C:∀j,w.frozen? ⟨g,j,none⟩=false):HoldsK iE 5 w g 0 l.toArray:=by
 intro t n
 rw[size_flatK] at n
 rw[get_flatK _ _ _ t n]
 simp only[List.size_toArray] at n
 have k:t / 5<l.length:=by omega
 refine ⟨?_,C _⟩
 obtain ⟨b,r,f,F,u⟩:=h.at k
 obtain ⟨rfl,rfl⟩:g=b/\0=r:=by injection f with f;injection f with h1 h2;exact ⟨h1,h2⟩
 have e:l.toArray[t / 5]! = l[t / 5]:=by simp[k]
 rw[e]
 have:=u (t / 5) k (t % 5) (Nat.mod_lt _ (by omega))
 rw[show 0+t / 5*5+t % 5=0+t from by omega] at this
 rw[this]
 have E:t % 5<5:=Nat.mod_lt _ (by omega)
 match t % 5,E with
 | 0,_=>rfl
 | 1,_=>rfl
 | 2,_=>rfl
 | 3,_=>rfl
 | 4,_=>rfl

theorem Em {w:H} {g:Nat} {l:List Cel} (h:HoldsK iE 5 w g 0 l.toArray) (k:g<w.heap.size):bF w (some ⟨g,0,none⟩) l:=by
 refine oR ⟨g,0,rfl,k,fun j n i hi=> ?_⟩
 have f:=(h (j*5+i) (by rw[size_flatK];simp;omega)).1
 rw[get_flatK _ _ _ _ (by simp;omega)] at f
 rw[show (j*5+i) / 5=j from by omega,show (j*5+i) % 5=i from by omega] at f
 have e:l.toArray[j]! = l[j]:=by simp[n]
 rw[e] at f
 rw[show 0+j*5+i=0+(j*5+i) from by omega,f]
 match i,hi with
 | 0,_=>rfl
 | 1,_=>rfl
 | 2,_=>rfl
 | 3,_=>rfl
 | 4,_=>rfl

theorem ry {w:H} {g n base:Nat} {os:Array Obj} {d:Array Cel} (f:base<=g) (j:base<=w.heap.size):Go.RowKit.Below base w (sortWorldK iE 5 w g 0 n d os):=by
 refine ⟨rfl,rfl,rfl,by simp[sortWorldK,grow,putRowK],fun k h=> ?_⟩
 show ((putRowK iE 5 (Sort.ahead w n) g 0 d).heap++os)[k]? = _
 rw[Array.getElem?_append_left (by simp[putRowK];omega)]
 show ((Sort.ahead w n).heap.modify g _)[k]? = _
 rw[Array.getElem?_modify,if_neg (by omega)]
 rfl

theorem DD {L:Cel->Cel->Int} (E:∀x y,ltOf L x y=g7 x y) (h:Nat) (cb:Array Y) (eg:∀u w,(callFunc h u).run J w= .ok (.enter h u) w) (g cap:Nat) (l:List Cel) (w:H) (F:CmpLays J h cb iE 5 L g 0 l.length w) (hu:uU l) (hH:HoldsK iE 5 w g 0 l.toArray) (hg:g<w.heap.size) (ap:l.length<4611686018427387904) :
  M J 194 #[O (some ⟨g,0,none⟩) l.length cap,.func (.func h) #[] cb] w fun e w'=>e= K (P #[])/\bF w' (some ⟨g,0,none⟩) (ip l)/\∀f,f<=g->f<=w.heap.size->Go.RowKit.Below f w w':=by
 have k:=AnyQ.slices_SortFunc Tryz.sortCell 5 Tryz.isAgg187 Tryz.sizeOf187 iE (fun _=>rfl) mV L (F2 E) h cb g 0 cap l.toArray w eg (by simpa using F) hH hg (by simpa using ap)
 change M J 194 _ _ _ at k
 simp only[List.size_toArray] at k
 refine k.mono ?_
 rintro e w' ⟨he,d',n,os,hp,hs,hw⟩
 obtain ⟨C,_,r⟩:=hp
 simp only[List.size_toArray] at C
 have e1:d'.extract 0 l.length=d':=by rw[<-C];exact Array.extract_size
 have e2:(l.toArray.extract 0 l.length).toList=l:=by simp
 rw[e1,e2] at r
 have ao:d'.toList.Pairwise fun x y=>(!g7 y x)=true:=by
  rw[List.pairwise_iff_getElem]
  intro i j hi hj ah
  have ad:i<d'.size:=by simpa using hi
  have an:j<d'.size:=by simpa using hj
  have:=hs i j (nZ _) ah (by omega)
  rw[getElem!_pos d' j an,getElem!_pos d' i ad,E] at this
  simpa using this
 have hd:d'=(ip l).toArray:=by
  have:=Cg hu r ao
  rw[<-this]
 subst hd
 refine ⟨he,?_,fun f h1 h2=>by rw[hw];exact ry h1 h2⟩
 have R:HoldsK iE 5 w' g 0 (ip l).toArray:=by
  rw[hw]
  refine holdsK_grow _ _ _ _ _ _ _ (by simp[putRowK];exact hg) ?_
  exact holdsK_putRowK _ _ _ _ _ l.toArray _ (holdsK_ahead _ _ _ _ _ _ _ hH) (by simp[j7])
 refine Em R ?_
 rw[hw]
 simp[sortWorldK,grow,putRowK]
 omega

theorem AA {cf:Cel->Cel->Int} (ah:∀x y,ltOf cf x y=g7 x y) (f:Nat) (cb:Array Y) (eg:∀h w,(callFunc f h).run J w= .ok (.enter f h) w) (base:Nat) (v:Y) (l:List Cel) (w:H) (u:∀g,CmpLays J f cb iE 5 cf g 0 l.length w) (hu:uU l) (E:dN w base v l) (hb:base<=w.heap.size) (ap:l.length<4611686018427387904) :
  M J 194 #[v,.func (.func f) #[] cb] w fun e w'=>e= K (P #[])/\(∃C cap,v= O C (ip l).length cap/\bF w' C (ip l)/\(C=none->cap=0)/\∀a,C=some a->base<=a.block)/\Go.RowKit.Below base w w':=by
 obtain ⟨A,cap,rfl,hA,k,a1,n,an⟩:=ae.full dQ E
 by_cases h0:l=[]
 ·subst h0
  have j:=AnyF.slices_SortFunc_none Tryz.sortCell A cap (.func (.func f) #[] cb) w
  change M J 194 _ _ _ at j
  refine j.mono ?_
  rintro e w' ⟨he,rfl⟩
  exact ⟨he,⟨A,cap,by simp[ip],oL (by simp[ip]),hA,fun a R=>(n a R).1⟩,bR _ _⟩
 ·have F:0<l.length:=List.length_pos_iff.2 h0
  obtain ⟨b,a0,L,ad,_⟩:=k.at F
  subst L
  have h5:=n _ rfl
  obtain rfl:a0=0:=h5.2.2.1
  refine (DD ah f cb eg b cap l w (u b) hu (D9 k (an _ rfl)) ad ap).mono ?_
  rintro e w' ⟨he,ao,r⟩
  refine ⟨he,⟨_,cap,by rw[j7],ao,hA,fun a R=>(n a R).1⟩,r base h5.1 hb⟩

theorem E9 (x y:Cel):ltOf (fun x y:Cel=>eA x.1 y.1) x y=g7 x y:=by
 unfold ltOf g7
 cases h:br x.1 y.1
 ·have:=iU h
  simp;omega
 ·simp[iT h]
theorem D1 (f g size:Nat) (w:H):CmpLays J 120 #[] iE 5 (fun x y:Cel=>eA x.1 y.1) f g size w :=
 fun _ _ _ _ x y=>nP x y _

end

def ff (t:Tab) (key:Int):Int:=if aw t≠0 then aw t else if inB key 0 49=false then 1 else if t.e.any (eP key)=false then 4 else bL (ar (eP key) t.e)
def cO (t:Tab) (key:Int):Ctx:=if ff t key=0 then aH (ar (eP key) t.e) else aI

structure Six (w:H) (B:Nat) (u0 u1 u2 u3 u4 u5:Y):Prop where
 k0:w.cell? ⟨B,0,none⟩=some u0
 k1:w.cell? ⟨B,1,none⟩=some u1
 k2:w.cell? ⟨B,2,none⟩=some u2
 k3:w.cell? ⟨B,3,none⟩=some u3
 k4:w.cell? ⟨B,4,none⟩=some u4
 k5:w.cell? ⟨B,5,none⟩=some u5
 fz:∀j,w.frozen? ⟨B,j,none⟩=false
 lt:B<w.heap.size
theorem Six.new (w:H) (u0 u1 u2 u3 u4 u5:Y) (T:TypeId) {B:Nat} (f:B=w.heap.size):Six (w.alloc (Z #[u0,u1,u2,u3,u4,u5] T)) B u0 u1 u2 u3 u4 u5:=by
 subst f
 exact ⟨aa (gR _) rfl,aa (gR _) rfl,aa (gR _) rfl,aa (gR _) rfl,aa (gR _) rfl,aa (gR _) rfl,fun j=>f9 (gR _) j,by simp⟩
theorem Six.belowB {w w':H} {B N:Nat} {u0 u1 u2 u3 u4 u5:Y} (h:Six w B u0 u1 u2 u3 u4 u5) (k:ib N w w') (f:B<N):Six w' B u0 u1 u2 u3 u4 u5 :=
 ⟨(k.cell (p:=⟨B,0,none⟩) f).trans h.k0,(k.cell (p:=⟨B,1,none⟩) f).trans h.k1,(k.cell (p:=⟨B,2,none⟩) f).trans h.k2,(k.cell (p:=⟨B,3,none⟩) f).trans h.k3,(k.cell (p:=⟨B,4,none⟩) f).trans h.k4,(k.cell (p:=⟨B,5,none⟩) f).trans h.k5,fun j=>(k.frozen (p:=⟨B,j,none⟩) f).trans (h.fz j),nL h.lt k.size⟩
theorem Six.below {w w':H} {B:Nat} {u0 u1 u2 u3 u4 u5:Y} (h:Six w B u0 u1 u2 u3 u4 u5) (k:ib w.heap.size w w'):Six w' B u0 u1 u2 u3 u4 u5:=h.belowB k h.lt
theorem Six.gr {w w':H} {B:Nat} {u0 u1 u2 u3 u4 u5:Y} (h:Six w B u0 u1 u2 u3 u4 u5) (k:Gr w w'):Six w' B u0 u1 u2 u3 u4 u5:=h.below k.below
theorem Six.set {w:H} {B:Nat} {u0 u1 u2 u3 u4 u5:Y} (h:Six w B u0 u1 u2 u3 u4 u5) (v0 v1 v2 v3 v4 v5:Y):Six ((((((w.setCell ⟨B,0,none⟩ v0).setCell ⟨B,1,none⟩ v1).setCell ⟨B,2,none⟩ v2).setCell ⟨B,3,none⟩ v3).setCell ⟨B,4,none⟩ v4).setCell ⟨B,5,none⟩ v5) B v0 v1 v2 v3 v4 v5:=by
 have f:=h.k0
 have g:=h.k1
 have k:=h.k2
 have n:=h.k3
 have r:=h.k4
 have u:=h.k5
 refine ⟨?_,?_,?_,?_,?_,?_,fun j=> ?_,by simpa[World.setCell] using h.lt⟩
 ·exact ab (ab (ab (ab (ab (ab f)))))
 ·exact ab (ab (ab (ab (ab (ab g)))))
 ·exact ab (ab (ab (ab (ab (ab k)))))
 ·exact ab (ab (ab (ab (ab (ab n)))))
 ·exact ab (ab (ab (ab (ab (ab r)))))
 ·exact ab (ab (ab (ab (ab (ab u)))))
 ·simp only[World.frozen?_setCell];exact h.fz j
abbrev B5 (w:H) (B:Nat):Prop:=Six w B (S I 0) (S I 0) (S I 0) (S I 0) (O none 0 0) (O none 0 0)

theorem ak {n:Nat} {w W:H} (h:ib n w W) {B:Nat} (f:n<=B) (u0 u1 u2 u3 u4 u5:Y):ib n w ((((((W.setCell ⟨B,0,none⟩ u0).setCell ⟨B,1,none⟩ u1).setCell ⟨B,2,none⟩ u2).setCell ⟨B,3,none⟩ u3).setCell ⟨B,4,none⟩ u4).setCell ⟨B,5,none⟩ u5):=(aZ h f u0 u1 u2 u3 u4).setCell f u5
theorem az.setCell {α : Type} {enc: α -> List Y} {k:Nat} {w:H} {A:Option ic} {l:List α} (h:az enc k w A l) {B m:Nat} (u:Y) (g:∀x,A=some x->x.block≠B):az enc k (w.setCell ⟨B,m,none⟩ u) A l:=by
 rcases h with h|⟨b,off,rfl,hb,hc⟩
 ·exact oL h
 ·have f:=g _ rfl
  refine oR ⟨b,off,rfl,by simpa[World.setCell] using hb,fun j n i hi=> ?_⟩
  rw[<-hc j n i hi]
  exact World.cell?_setCell_other _ _ _ _ (by intro e;injection e with e1;exact f e1.symm)

theorem Bi (t:Tab) (A:Option ic) (ca:Nat) (D:Option ic) (cd:Nat) (key:Int) (w:H) (hl:t.c.l.length<=maxLen) (bs:t.e.length<=maxLen) (hr:Row w A t.c.l) (hd:bF w D t.e) :
  M J 167 #[U (T6 t A ca D cd).toArray,S I key] w fun e w'=>∃C h,e= K (P #[U #[S I (cO t key).c0,S I (cO t key).c1,S I (cO t key).c2,S I (cO t key).c3,O C (cO t key).l.length h,O none 0 0],S I (ff t key)])/\Row w' C (cO t key).l/\(C=none->h=0)/\(∀a,C=some a->w.heap.size<=a.block)/\ib w.heap.size w w':=by
 have bC:Gr w (((w.alloc (Z #[S I t.c.c0,S I t.c.c1,S I t.c.c2,S I t.c.c3,O A t.c.l.length ca,O D t.e.length cd] 56)).alloc (Z #[S I key] 3)).alloc (Z #[S I 0,S I 0,S I 0,S I 0,O none 0 0,O none 0 0] 56)):=(((gR w).alloc _).alloc _).alloc _
 have ap:TabAt (((w.alloc (Z #[S I t.c.c0,S I t.c.c1,S I t.c.c2,S I t.c.c3,O A t.c.l.length ca,O D t.e.length cd] 56)).alloc (Z #[S I key] 3)).alloc (Z #[S I 0,S I 0,S I 0,S I 0,O none 0 0,O none 0 0] 56)) w.heap.size t A ca D cd:=(TabAt.new 56 hr hd rfl).gr (((gR _).alloc _).alloc _)
 have bG:(((w.alloc (Z #[S I t.c.c0,S I t.c.c1,S I t.c.c2,S I t.c.c3,O A t.c.l.length ca,O D t.e.length cd] 56)).alloc (Z #[S I key] 3)).alloc (Z #[S I 0,S I 0,S I 0,S I 0,O none 0 0,O none 0 0] 56)).cell? ⟨w.heap.size+1,0,none⟩=some (S I key):=l9 ((gR _).alloc _) rfl
 have be:B5 (((w.alloc (Z #[S I t.c.c0,S I t.c.c1,S I t.c.c2,S I t.c.c3,O A t.c.l.length ca,O D t.e.length cd] 56)).alloc (Z #[S I key] 3)).alloc (Z #[S I 0,S I 0,S I 0,S I 0,O none 0 0,O none 0 0] 56)) (w.heap.size+1+1):=Six.new _ _ _ _ _ _ _ 56 (by simp)
 have bo:=eM t A ca D cd (((w.alloc (Z #[S I t.c.c0,S I t.c.c1,S I t.c.c2,S I t.c.c3,O A t.c.l.length ca,O D t.e.length cd] 56)).alloc (Z #[S I key] 3)).alloc (Z #[S I 0,S I 0,S I 0,S I 0,O none 0 0,O none 0 0] 56)) hl bs ap.row ap.rowC
 have a5:X _:=bo
 clear bo
 go_enter Tryz.func167,Tryz.ntmps167
 go_wp2_with fail
 refine ja0 a5 ?_
 rintro e w1 ⟨rfl,r⟩
 clear a5
 have b7:w.heap.size+1+1<w1.heap.size:=(be.gr r).lt
 have bd:=ap.gr r
 have a0:=be.gr r
 have bN:=(r.cell (p:=⟨w.heap.size+1,0,none⟩) (by simp)).trans bG
 have R:Gr w w1:=bC.trans r
 clear bC ap bG be r
 obtain ⟨z0,z1,z2,z3,z4,z5,zf,a1⟩:=(show Six _ _ _ _ _ _ _ _ from a0)
 by_cases he:aw t=0
 ·have b3:(aw t != 0)=false:=by simpa using he
  have bb:=ja1 he
  have bt:t.e.length<=400:=(aj he).2.1
  clear he
  cases ad:inB key 0 49
  ·have f:X (ff t key=1/\cO t key=aI):=by
    have h1:ff t key=1:=by simp[ff,bb.out,ad]
    exact ⟨h1,by simp[cO,h1]⟩
   go_wp2_with (go_at_call 153;refine (vw ad _).mono ?_;rintro e w1 ⟨rfl,rfl⟩)
   rw[f.out.1,f.out.2]
   exact bodyPost_ret (v:= P #[U #[S I 0,S I 0,S I 0,S I 0,O none 0 0,O none 0 0],S I 1]) (by simp[results,Tryz.results167,go_sem,z0,z1,z2,z3,z4,z5]) rfl ⟨none,0,rfl,oL rfl,fun _=>rfl,(fun x hx=>by cases hx),ak R.below (by omega) _ _ _ _ _ _⟩
  ·have k5:=bd.k5
   have eg:∀a2 w,(callFunc 200 a2).run J w= .ok (.enter 200 a2) w:=enters_of Tryz.func200 (by kernel_rfl) rfl
   have bn:=fQ (eP key) 200 #[ia (some ⟨w.heap.size+1,0,none⟩)] eg t.e D cd w1 bs bd.rowC (Ek key (w.heap.size+1) w1 (by omega) bN)
   have a4:X _:=bn
   clear bn
   go_wp2_with (first|(go_at_call 153;refine (vw ad _).mono ?_;rintro e w1 ⟨rfl,rfl⟩)|fail)
   refine ja0 a4 ?_
   rintro e w2 ⟨rfl,u⟩
   clear a4 z0 z1 z2 z3 z4 z5 zf a1 k5
   have b2:=bd.gr u
   have k5:=b2.k5
   have b4:=(u.cell (p:=⟨w.heap.size+1,0,none⟩) (show w.heap.size+1<_ by omega)).trans bN
   have b8:w.heap.size+1+1<w2.heap.size:=(a0.gr u).lt
   obtain ⟨z0,z1,z2,z3,z4,z5,zf,a1⟩:=(show Six _ _ _ _ _ _ _ _ from a0.gr u)
   have a7:Gr w w2:=R.trans u
   cases a9:t.e.any (eP key)
   ·have f:X (ff t key=4/\cO t key=aI):=by
     have h1:ff t key=4:=by unfold ff;rw[if_neg (by simpa using bb.out),if_neg (by simp[ad]),if_pos a9]
     exact ⟨h1,by simp[cO,h1]⟩
    go_wp2
    rw[f.out.1,f.out.2]
    exact bodyPost_ret (v:= P #[U #[S I 0,S I 0,S I 0,S I 0,O none 0 0,O none 0 0],S I 4]) (by simp[results,Tryz.results167,go_sem,z0,z1,z2,z3,z4,z5]) rfl ⟨none,0,rfl,oL rfl,fun _=>rfl,(fun x hx=>by cases hx),ak a7.below (by omega) _ _ _ _ _ _⟩
   ·have bp:=jH (eP key) 200 #[ia (some ⟨w.heap.size+1,0,none⟩)] eg t.e D cd w2 bt b2.rowC (fun W hW x=>rP key (w.heap.size+1) x W (by have:=hW.size;omega) ((hW.cell (p:=⟨w.heap.size+1,0,none⟩) (show w.heap.size+1<_ by omega)).trans b4))
    have a6:X _:=bp
    clear bp
    go_wp2_with fail
    refine ja0 a6 ?_
    rintro e w3 ⟨C,h,rfl,ao,hC,bl,ba⟩
    clear a6 z0 z1 z2 z3 z4 z5 zf a1 k5
    have bh:=(a0.gr u).below ba
    obtain ⟨z0,z1,z2,z3,z4,z5,zf,a1⟩:=(show Six _ _ _ _ _ _ _ _ from bh)
    have b9:w2.heap.size<=w3.heap.size:=ba.size
    have a3:X (ib w.heap.size w w3):=a7.below.trans (ba.mono (by omega))
    have ah:X (ff t key=bL (ar (eP key) t.e)):=by
     show ff t key=_
     unfold ff
     rw[if_neg (by simpa using bb.out),if_neg (by simp[ad]),if_neg (by simp[a9])]
    have bc:X (bL (ar (eP key) t.e)=0->cO t key=aH (ar (eP key) t.e)):=fun h0=>by
     unfold cO
     rw[ah.out,if_pos h0]
    have b0:X (bL (ar (eP key) t.e)≠0->cO t key=aI):=fun h0=>by
     unfold cO
     rw[ah.out,if_neg h0]
    obtain ⟨F,hF⟩:∃F,aH (ar (eP key) t.e)=F:=⟨_,rfl⟩
    obtain ⟨E,hE⟩:∃E,bL (ar (eP key) t.e)=E:=⟨_,rfl⟩
    rw[hF] at ao bc ⊢
    rw[hE] at bc b0 ah ⊢
    clear hF hE a9
    have k:∀a,C=some a->a.block≠w.heap.size+1+1:=fun a ha=>by have:=bl a ha;omega
    by_cases n:E=0
    ·have f:=ja2 (ah.out.trans n) (bc.out n)
     subst n
     have hV:=(bh.set (S I F.c0) (S I F.c1) (S I F.c2) (S I F.c3) (O C F.l.length h) (O none 0 0)).gr ((gR _).alloc (Z (ja7 F C h) 53))
     have an:Row _ C F.l:=(((((((ao.setCell (B:=w.heap.size+1+1) (j:=0) (S I F.c0) k).setCell (j:=1) (S I F.c1) k).setCell (j:=2) (S I F.c2) k).setCell (j:=3) (S I F.c3) k).setCell (j:=4) (O C F.l.length h) k).setCell (j:=5) (O none 0 0) k)).gr ((gR _).alloc (Z (ja7 F C h) 53))
     have g:=(ak a3.out (B:=w.heap.size+1+1) (by omega) (S I F.c0) (S I F.c1) (S I F.c2) (S I F.c3) (O C F.l.length h) (O none 0 0)).alloc (by simp;omega) (Z (ja7 F C h) 53)
     have a8:X _:=hV
     have L:X _:=g
     have b1:X _:=an
     clear hV g an
     go_wp2
     obtain ⟨v0,v1,v2,v3,v4,v5,vf,b5⟩:=(show Six _ _ _ _ _ _ _ _ from a8.out)
     have g:=L.out
     have an:=b1.out
     rw[f.out.1,f.out.2]
     generalize World.alloc _ _=V at v0 v1 v2 v3 v4 v5 g an ⊢
     exact bodyPost_ret (v:= P #[U #[S I F.c0,S I F.c1,S I F.c2,S I F.c3,O C F.l.length h,O none 0 0],S I 0]) (by simp[results,Tryz.results167,go_sem,v0,v1,v2,v3,v4,v5]) rfl ⟨C,h,rfl,an,hC,fun a ha=>nT (by omega) (bl a ha),g⟩
    ·have f:=ja2 ah.out (b0.out n)
     have b6:(E != 0)=true:=by simpa using n
     clear n
     have hV:=(bh.set (S I 0) (S I 0) (S I 0) (S I 0) (O none 0 0) (O none 0 0)).gr ((gR _).alloc (Z (ja7 F C h) 53))
     have g:=(ak a3.out (B:=w.heap.size+1+1) (by omega) (S I 0) (S I 0) (S I 0) (S I 0) (O none 0 0) (O none 0 0)).alloc (by simp;omega) (Z (ja7 F C h) 53)
     have a8:X _:=hV
     have L:X _:=g
     clear hV g
     go_wp2
     obtain ⟨v0,v1,v2,v3,v4,v5,vf,b5⟩:=(show Six _ _ _ _ _ _ _ _ from a8.out)
     have g:=L.out
     rw[f.out.1,f.out.2]
     generalize World.alloc _ _=V at v0 v1 v2 v3 v4 v5 g ⊢
     exact bodyPost_ret (v:= P #[U #[S I 0,S I 0,S I 0,S I 0,O none 0 0,O none 0 0],S I E]) (by simp[results,Tryz.results167,go_sem,v0,v1,v2,v3,v4,v5]) rfl ⟨none,0,rfl,oL rfl,fun _=>rfl,(fun x hx=>by cases hx),g⟩
 ·have f:X (ff t key=aw t/\cO t key=aI):=by
   have h1:ff t key=aw t:=by simp[ff,he]
   exact ⟨h1,by simp[cO,h1,he]⟩
  have b3:(aw t != 0)=true:=by simpa using he
  clear he
  go_wp2
  rw[f.out.1,f.out.2]
  exact bodyPost_ret (v:= P #[U #[S I 0,S I 0,S I 0,S I 0,O none 0 0,O none 0 0],S I (aw t)]) (by simp[results,Tryz.results167,go_sem,z0,z1,z2,z3,z4,z5]) rfl ⟨none,0,rfl,oL rfl,fun _=>rfl,(fun x hx=>by cases hx),ak R.below (by omega) _ _ _ _ _ _⟩

end Go.Proofs.YtjmmpnmgpgaagaaGreatDoor
