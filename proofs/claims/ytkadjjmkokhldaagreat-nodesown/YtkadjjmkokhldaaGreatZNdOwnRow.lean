/-
  Proved: whatever list of acts is handed in, NodesOwn returns true (what is handed in isn't kept, and what is told shares nothing with what is kept), and the list reads afterwards as it read before. No condition.
-/
import Derived.Test.YtkadjjmkokhldaaGreatM47
import Derived.SizedLaws
namespace Go.Proofs.YtkadjjmkokhldaaGreat
open Go.ChangeShapes Go.WideShapes Go.ChangeAt Go.RowKit Go.Deep

section
variable {H:Type} {enc:TypeId×Value→H} {W:World}
theorem mem_weightsAll {P:Program} {e:TypeId} {d:DataW H} {n:Nat} (hn:n∈d.weights P e):∀ {l:List (DataW H)},d∈l→n∈DataW.weightsAll P e l
 | [],h=>by cases h
 | c::r,h=>by
  simp only[DataW.weightsAll,List.mem_append]
  rcases List.mem_cons.1 h with rfl|h
  ·exact Or.inl hn
  ·exact Or.inr (mem_weightsAll hn h)
/-- What is handed in has room in memory. -/
def Lgt (t:TypeId) (d:DataW H):Prop:=∀n∈d.weights Tryz.prog t,n≤reachBytes
theorem lgt_slice {t e:TypeId} {fuel:Nat} {A:Option Addr} {n cap:Nat} {x:DataW H×List MemPlace} (ht:Tryz.prog.underlying t=some (.slice e)) (h:DataW.trod enc Tryz.prog W 0 (fun _=>true) true fuel t [.slice A n cap]=some x) (hl:Lgt t x.1) :
  n*Tryz.prog.bytesOf e≤140737488351232∧∀j,j<n→∃a cs m y,A=some a∧W.cells? 0 (a.add (j*Tryz.prog.cellsOf e)) (Tryz.prog.cellsOf e)=some cs∧DataW.trod enc Tryz.prog W 0 (fun _=>true) true m e cs=some y∧Lgt e y.1:=by
 have hb:reachBytes≤140737488351232:=by decide
 rcases open_slice ht h with ⟨hcs,_⟩|⟨a,len,cap',m,k,D,Pl,hcs,_,hl',hm,hmm,hx,hi⟩
 ·injection hcs with h1
  injection h1 with _ h2 _
  subst h2
  exact ⟨by simp,fun j hj=>by omega⟩
 ·injection hcs with h1
  injection h1 with h0 h2 _
  subst h0 h2
  have hlm:n≤m:=by rw[hmm];simp;exact hl'
  unfold Lgt at hl
  rw[hx] at hl
  constructor
  ·have:=hl ((((List.range n).map D).length+((List.range (m-n)).map fun j=>D (n+j)).length)*Tryz.prog.bytesOf e) (by simp[DataW.weights,ht])
   simp only[List.length_map,List.length_range] at this
   have h3:n*Tryz.prog.bytesOf e≤(n+(m-n))*Tryz.prog.bytesOf e:=Nat.mul_le_mul_right _ (by omega)
   omega
  ·intro j hj
   obtain ⟨cs',h3,h4⟩:=hi j (by omega)
   refine ⟨a,cs',k,_,rfl,h3,h4,fun n' hn=>hl n' ?_⟩
   simp only[DataW.weights,ht,List.mem_cons,List.mem_append]
   exact Or.inr (Or.inl (mem_weightsAll hn (List.mem_map.2 ⟨j,by simp;omega,rfl⟩)))
theorem lgt_field {t:TypeId} {fs:Array Field} {fuel:Nat} {cs:List Value} {x:DataW H×List MemPlace} (ht:Tryz.prog.underlying t=some (.struct fs)) (h:DataW.trod enc Tryz.prog W 0 (fun _=>true) true fuel t cs=some x) (hl:Lgt t x.1) (i T o c:Nat) (hf:(fs[i]?).map (fun f=>(f.type,f.offset))=some (T,o)) (hc:Tryz.prog.cellsOf T=c) :
  ∃m y,DataW.trod enc Tryz.prog W 0 (fun _=>true) true m T ((cs.drop o).take c)=some y∧Lgt T y.1:=by
 cases hi0:fs[i]? with
 | none=>rw[hi0] at hf;cases hf
 | some f =>
  rw[hi0] at hf
  injection hf with hf
  injection hf with e1 e2
  subst e1 e2 hc
  obtain ⟨xs,n,_,hx,_,hxl,hfd⟩:=DataW.trod_struct ht h
  have hi:i<xs.length:=by rw[hxl];exact (Array.getElem?_eq_some_iff.1 hi0).1
  refine ⟨n,xs[i],(hfd i f hi0).trans (List.getElem?_eq_getElem hi),fun n' hn=>hl n' ?_⟩
  rw[hx]
  simp only[DataW.weights,ht]
  refine DataW.weights_mem_each (j:=i) (t:=f.type) (d:=xs[i].1) ?_ ?_ n' hn
  ·rw[List.getElem?_map,Array.getElem?_toList,hi0]
   rfl
  ·rw[List.getElem?_map,List.getElem?_eq_getElem hi]
   rfl
theorem lgt_array {t e:TypeId} {k:Nat} {fuel:Nat} {cs:List Value} {x:DataW H×List MemPlace} (ht:Tryz.prog.underlying t=some (.array k e)) (h:DataW.trod enc Tryz.prog W 0 (fun _=>true) true fuel t cs=some x) (hl:Lgt t x.1) (i c:Nat) (hi:i<k) (hc:Tryz.prog.cellsOf e=c) :
  ∃m y,DataW.trod enc Tryz.prog W 0 (fun _=>true) true m e ((cs.drop (i*c)).take c)=some y∧Lgt e y.1:=by
 subst hc
 obtain ⟨xs,n,_,hx,_,hxl,hfd⟩:=DataW.trod_array ht h
 have hi':i<xs.length:=by omega
 refine ⟨n,xs[i],(hfd i hi).trans (List.getElem?_eq_getElem hi'),fun n' hn=>hl n' ?_⟩
 rw[hx]
 simp only[DataW.weights,ht]
 exact mem_weightsAll hn (List.mem_map.2 ⟨xs[i],List.getElem_mem hi',rfl⟩)
/-- The cells of a row's element. -/
theorem row_cells {α : Type} {en: α → List Value} {k:Nat} (hk:∀x,(en x).length=k) {a:Addr} {l:List α} (h:RowG en k W (some a) l) {j:Nat} (hj:j<l.length) {cs:List Value} (hc:W.cells? 0 (a.add (j*k)) k=some cs):cs=en l[j]:=by
 obtain ⟨b,off,e,_,hcc⟩:=h.at hj
 injection e with e
 subst e
 obtain ⟨_,hlen,hcell⟩:=World.cells?_some hc
 apply List.ext_getElem?
 intro i
 by_cases hi:i<k
 ·have h1:=hcell i (by omega)
  rw[add_add,Addr.add_lit,←Nat.add_assoc] at h1
  rw[←hcc j hj i hi,h1,List.getElem?_eq_getElem (by omega)]
 ·rw[List.getElem?_eq_none (by omega),List.getElem?_eq_none (by rw[hk];omega)]
set_option maxRecDepth 100000 in
theorem lgt_tab {fuel:Nat} {t:Tab} {A:Option Addr} {ca:Nat} {D:Option Addr} {cd:Nat} {x:DataW H×List MemPlace} (h:DataW.trod enc Tryz.prog W 0 (fun _=>true) true fuel 37 [.int .i64 t.c.c0,.int .i64 t.c.c1,.int .i64 t.c.c2,.int .i64 t.c.c3,.slice A t.c.l.length ca,.slice D t.e.length cd]=some x) (hl:Lgt 37 x.1):t.c.l.length*16≤140737488351232∧t.e.length*40≤140737488351232:=by
 have c5:Tryz.prog.cellsOf 34=5:=by kernel_rfl
 have c1:Tryz.prog.cellsOf 35=1:=by kernel_rfl
 have c2:Tryz.prog.cellsOf 32=1:=by kernel_rfl
 have b16:Tryz.prog.bytesOf 52=16:=by kernel_rfl
 have b40:Tryz.prog.bytesOf 55=40:=by kernel_rfl
 obtain ⟨m0,y0,h0,l0⟩:=lgt_field Tryz.underlying37 h hl 0 34 0 5 rfl c5
 obtain ⟨m1,y1,h1,l1⟩:=lgt_field Tryz.underlying37 h hl 1 35 5 1 rfl c1
 obtain ⟨m2,y2,h2,l2⟩:=lgt_field Tryz.underlying34 h0 l0 1 32 4 1 rfl c2
 have hA:=(lgt_slice Tryz.underlying32 h2 l2).1
 have hB:=(lgt_slice Tryz.underlying35 h1 l1).1
 rw[b16] at hA
 rw[b40] at hB
 exact ⟨hA,hB⟩
set_option maxRecDepth 100000 in
theorem lgt_steps {fuel:Nat} {q:List Stp} {A:Option Addr} {ca:Nat} {x:DataW H×List MemPlace} (h:DataW.trod enc Tryz.prog W 0 (fun _=>true) true fuel 42 [.slice A q.length ca]=some x) (hl:Lgt 42 x.1) (hq:Stps W A q):q.length*72≤140737488351232∧∀y∈q,y.l.length*8≤140737488351232:=by
 have c7:Tryz.prog.cellsOf 48=7:=by kernel_rfl
 have c1:Tryz.prog.cellsOf 46=1:=by kernel_rfl
 have b72:Tryz.prog.bytesOf 48=72:=by kernel_rfl
 have b8:Tryz.prog.bytesOf 3=8:=by kernel_rfl
 obtain ⟨h1,h2⟩:=lgt_slice Tryz.underlying42 h hl
 rw[b72] at h1
 refine ⟨h1,fun y hy=> ?_⟩
 obtain ⟨j,hj,rfl⟩:=List.getElem_of_mem hy
 obtain ⟨a,cs,m,z,rfl,h3,h4,h5⟩:=h2 j hj
 rw[c7] at h3
 have e:=row_cells encQ_len hq.row hj h3
 subst e
 obtain ⟨m1,y1,h6,l6⟩:=lgt_field Tryz.underlying48 h4 h5 6 46 6 1 rfl c1
 have hB:=(lgt_slice Tryz.underlying46 h6 l6).1
 rw[b8] at hB
 exact hB
set_option maxRecDepth 100000 in
theorem lgt_acts {d:DataW H} {p:List MemPlace} {A:Option Addr} {cap:Nat} {l:List Actm} (h:DataW.Trod enc Tryz.prog W 0 (fun _=>true) true 22 (.slice A l.length cap) d p) (hl:Lgt 22 d) (hA:Acts W A l):∀x∈l,ActW x:=by
 intro x hx
 obtain ⟨fuel,hf⟩:=h
 have c19:Tryz.prog.cellsOf 44=19:=by kernel_rfl
 have c12:Tryz.prog.cellsOf 40=12:=by kernel_rfl
 have c12':Tryz.prog.cellsOf 38=12:=by kernel_rfl
 have c6:Tryz.prog.cellsOf 37=6:=by kernel_rfl
 have c1:Tryz.prog.cellsOf 42=1:=by kernel_rfl
 have hf':DataW.trod enc Tryz.prog W 0 (fun _=>true) true fuel 22 [.slice A l.length cap]=some (d,p):=by simpa[Value.cells] using hf
 obtain ⟨_,h2⟩:=lgt_slice Tryz.underlying22 hf' hl
 obtain ⟨j,hj,rfl⟩:=List.getElem_of_mem hx
 obtain ⟨a,cs,m,z,rfl,h3,h4,h5⟩:=h2 j hj
 rw[c19] at h3
 have e:=row_cells encA_len hA.row hj h3
 subst e
 obtain ⟨m1,y1,h6,l6⟩:=lgt_field Tryz.underlying44 h4 h5 2 40 6 12 rfl c12
 obtain ⟨m2,y2,h7,l7⟩:=lgt_field Tryz.underlying44 h4 h5 3 42 18 1 rfl c1
 obtain ⟨m3,y3,h8,l8⟩:=lgt_field Tryz.underlying40 h6 l6 0 38 0 12 rfl c12'
 obtain ⟨m4,y4,h9,l9⟩:=lgt_array Tryz.underlying38 h8 l8 0 6 (by omega) c6
 obtain ⟨m5,y5,h10,l10⟩:=lgt_array Tryz.underlying38 h8 l8 1 6 (by omega) c6
 obtain ⟨w1,w2⟩:=lgt_tab (t:=l[j].a) (A:=l[j].A) (ca:=l[j].ca) (D:=l[j].C) (cd:=l[j].cc) h9 l9
 obtain ⟨w3,w4⟩:=lgt_tab (t:=l[j].b) (A:=l[j].B) (ca:=l[j].cb) (D:=l[j].D) (cd:=l[j].cd) h10 l10
 obtain ⟨w5,w6⟩:=lgt_steps (q:=l[j].q) (A:=l[j].Q) (ca:=l[j].cq) h7 l7 (hA.each _ hx).st
 exact ⟨w1,w2,w3,w4,w5,w6⟩
end

set_option maxRecDepth 100000 in
theorem nodesOwn_lifted (os:Os) (started:os.Started) (H:Type) (enc:TypeId×Value→H) :
  ReturnsInHanded {} Tryz.checked os 3 .any (Rows.nodesOwnSpec.pre6 enc Tryz.prog Tryz.f3 Rows.nodesOwnRow.domain false) (Rows.nodesOwnSpec.post enc Tryz.prog Tryz.f3 false true false false):=by
 refine returnsInHanded_of_change_sized (C:=Tryz.checked) ownK started (by kernel_rfl) Tryz.func3
  (ChangeSpec.witness6 (enc:=enc) (C:=Tryz.checked) false ⟨#[],#[.slice none 0 0],[]⟩ 8 (by kernel_rfl) (by kernel_rfl) (by kernel_rfl) (by kernel_rfl)) ?_
 intro W base args ds gs before hval0 hW hcnd hwt0 _
 have hval:∀(j:Nat) t v,Tryz.f3.params[j]? = some t→args[j]? = some v→Value.okWide Tryz.prog W .any base t v:=hval0
 have hW':=hW
 have hwt:(DataW.weightsEach Tryz.prog (Tryz.f3.params.toList++Rows.nodesOwnSpec.plain.varTypes Tryz.prog) (ds++gs)).all (· ≤ reachBytes)=true:=hwt0
 obtain ⟨p,q,hA0,hV,rfl,hfz,hnd⟩:=hW
 have hA:DataW.TrodAll enc Tryz.prog W 0 (fun _=>true) true Tryz.f3.params.toList args.toList ds p:=hA0
 rw[Tryz.params3] at hA hval hwt
 obtain ⟨v0,vs0,d0,ds0,p0,q0,hargs,rfl,rfl,h0,r0⟩:=trodAll_cons hA
 obtain ⟨rfl,rfl,rfl⟩:=trodAll_nil r0
 obtain rfl:args= #[v0]:=by cases args;simp_all
 obtain ⟨rfl,rfl⟩:=trodVars_none hV
 have lt0:∀x∈p0,x.block<W.heap.size:=by obtain ⟨m,hm⟩:=h0;exact DataW.trod_lt m _ _ _ hm
 have k0:=h0
 obtain ⟨LA,lc,l,rfl,hAc,_⟩:=open_acts (hval 0 22 v0 rfl rfl) h0
 have hAw:=lgt_acts h0 (fun n hn=>by
  have:=List.all_eq_true.1 hwt n (DataW.weights_mem_each (j:=0) (t:=22) (d:=d0) rfl rfl n hn)
  simpa using this) hAc
 clear hA0 hval0
 refine (nodesOwn_any l LA lc W hAc hAw).mono fun e W' ⟨he,bel⟩=> ?_
 subst he
 exact ⟨_,rfl,_,_,_,[],_,[],hW',trodAll_mk1 (shut_bool Tryz.underlying4 _),
  (trodAll_cons_mk (Below.trod laidAll (by kernel_rfl) (of_decide_eq_true (by kernel_rfl)) k0 bel lt0) trodAll_mk0),rfl,bel.frame _,fun h=>by cases h⟩

theorem nodesOwn_holds:Rows.NodesOwnSaid :=
 OpenClaim.holds_of_wide 3 Tryz.f3 rfl rfl rfl rfl rfl rfl rfl ⟨rfl,rfl,rfl,rfl,rfl⟩ rfl rfl rfl rfl rfl (by kernel_rfl) Tryz.func3 (by kernel_rfl)
  (of_decide_eq_true (by kernel_rfl)) (by unfold Func.isWrapper;first|(rw[if_pos (by decide +kernel)];kernel_rfl)|(rw[if_neg (by decide +kernel)];exact ⟨rfl,rfl⟩))
  (fun os started H enc _=>nodesOwn_lifted os started H enc)

#print axioms nodesOwn_holds
end Go.Proofs.YtkadjjmkokhldaaGreat
