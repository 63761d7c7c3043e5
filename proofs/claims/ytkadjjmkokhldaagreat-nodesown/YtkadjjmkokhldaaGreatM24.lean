/-
  plain.CheckTables.
  plain.tell at a step that may stand in a query (but join, distinct, sum); lists of sets in memory.
  Steps of one's own: append, one by one.
-/
import Derived.Test.YtkadjjmkokhldaaGreatM23
import Derived.Test.YtkadjjmkokhldaaGreatM17
namespace Go.Proofs.YtkadjjmkokhldaaGreat
open Go.RowKit Go.Sort Go.Maps

theorem checkQV {q:List Stp} {A:Option Addr} {ca:Nat} {w:World} {E:Int} (hE:errQ q=E) (hl:q.length≤maxLen) (hq:Stps w A q) :
  Calls Tryz.prog 43 #[.slice A q.length ca] w fun e w'=>e= .returned (.int .i64 E)∧Below w.heap.size w w':=by rw[←hE];exact checkQ_any q A ca w hl hq
theorem idx0 (x y:Value) (w:World):(Instr.index 69 (.agg #[x,y]) (.int .i64 0)).run Tryz.prog w= .ok x w:=by kernel_rfl
theorem idx1 (x y:Value) (w:World):(Instr.index 69 (.agg #[x,y]) (.int .i64 1)).run Tryz.prog w= .ok y w:=by kernel_rfl
set_option maxRecDepth 100000 in
set_option maxHeartbeats 1000000 in
theorem tables_any (a b:List Itm) (A B:Option Addr) (ca cb:Nat) (w:World) (ha:Lv w A ca a) (hb:Lv w B cb b) :
  Calls Tryz.prog 70 #[.slice A a.length ca,.slice B b.length cb] w fun e w'=>e= .returned (.int .i64 (tblE (a.map Itm.z) (b.map Itm.z)))∧Gr w w':=by
 have hgX:Hid (Gr w (w.alloc (.cells #[.slice A a.length ca,.slice B b.length cb] 69))):=(Gr.refl _).alloc _
 obtain ⟨w1,hWX⟩:∃WX,(w.alloc (.cells #[.slice A a.length ca,.slice B b.length cb] 69))=WX:=⟨_,rfl⟩
 have s0:w1.cell? ⟨w.heap.size,0,none⟩=some (.slice A a.length ca):=by rw[←hWX];exact box1 (w:=w) (Gr.refl _) rfl
 have s1:w1.cell? ⟨w.heap.size,1,none⟩=some (.slice B b.length cb):=by rw[←hWX];exact box1 (w:=w) (Gr.refl _) rfl
 have hst1:w.heap.size<w1.heap.size:=by rw[←hWX];simp
 rw[hWX] at hgX
 obtain ⟨E2,hE2⟩:∃E,errZ (a.map Itm.z)=E:=⟨_,rfl⟩
 obtain ⟨E3,hE3⟩:∃E,errZ (b.map Itm.z)=E:=⟨_,rfl⟩
 obtain ⟨E,hE⟩:∃E,tblE (a.map Itm.z) (b.map Itm.z)=E:=⟨_,rfl⟩
 have hEs:Hid (tblE (a.map Itm.z) (b.map Itm.z)=E∧True∧errZ (a.map Itm.z)=E2∧errZ (b.map Itm.z)=E3):=⟨hE,trivial,hE2,hE3⟩
 rw[hE]
 have hbW:Hid (Gr w w1∧Lv w1 A ca a∧Lv w1 B cb b):=⟨hgX.out,ha.gr hgX.out,hb.gr hgX.out⟩
 clear ha hb hE2 hE3 hE hgX
 have i0:=idx0 (.slice A a.length ca) (.slice B b.length cb)
 have i1:=idx1 (.slice A a.length ca) (.slice B b.length cb)
 go_enter Tryz.func70,Tryz.ntmps70
 go_wp2
 clear hWX
 refine wp_loop_rounds 3 ?_
 rw[rounds_succ]
 have hZa:Hid (∀W,Gr w1 W→Calls Tryz.prog 84 #[.slice A a.length ca] W fun e w'=>e= .returned (.int .i64 E2)∧Gr W w'):=fun W h=>by rw[←hEs.out.2.2.1];exact checkV (hbW.out.2.1.gr h) rfl
 have hZb:Hid (∀W,Gr w1 W→Calls Tryz.prog 84 #[.slice B b.length cb] W fun e w'=>e= .returned (.int .i64 E3)∧Gr W w'):=fun W h=>by rw[←hEs.out.2.2.2];exact checkV (hbW.out.2.2.gr h) rfl
 cases h2:(E2 != 0)
 ·have hE20:E2=0:=by simpa using h2
  go_wp2_with (go_at_call 84;refine Calls.mono (hZa.out w1 (Gr.refl _)) ?_;rintro e w2 ⟨rfl,hg2⟩)
  rw[rounds_succ]
  cases h3:(E3 != 0)
  ·have hE30:E3=0:=by simpa using h3
   go_wp2_with (go_at_call 84;refine Calls.mono (hZb.out w2 hg2) ?_;rintro e w3 ⟨rfl,hg3⟩)
   rw[rounds_succ]
   have hg3':Hid (Gr w1 w3):=hg2.trans hg3
   have z0:w3.cell? ⟨w.heap.size,0,none⟩=some (.slice A a.length ca):=(hg3'.out.below.cell (p:=⟨w.heap.size,0,none⟩) hst1).trans s0
   have z1:w3.cell? ⟨w.heap.size,1,none⟩=some (.slice B b.length cb):=(hg3'.out.below.cell (p:=⟨w.heap.size,1,none⟩) hst1).trans s1
   clear hg2 hg3 hZa hZb
   go_wp2
   refine wp_loop_rounds 3 ?_
   rw[rounds_succ]
   go_wp2
   have hB3:Hid (Gr w w3∧Lv w3 A ca a∧Lv w3 B cb b):=⟨hbW.out.1.trans hg3'.out,hbW.out.2.1.gr hg3'.out,hbW.out.2.2.gr hg3'.out⟩
   have hla:a.length≤400:=(errZ_okW (by rw[hEs.out.2.2.1];exact hE20)).1
   have hlb:b.length≤400:=(errZ_okW (by rw[hEs.out.2.2.2];exact hE30)).1
   have hahd:Hid (E=if (a.map Itm.z++b.map Itm.z).all (fun x=>decide (x.1.length=4))=true then 0 else 5):=by
    show _=_;rw[←hEs.out.1];unfold tblE;rw[if_pos (by rw[hEs.out.2.2.1];exact hE20),if_pos (by rw[hEs.out.2.2.2];exact hE30)]
   have hbad:Hid (∀x∈a++b,¬x.r.length=4→E=5):=fun x hx hn=>by
    rw[hahd.out,if_neg]
    intro h
    rw[←List.map_append] at h
    have:=List.all_eq_true.1 h x.z (List.mem_map.2 ⟨x,hx,rfl⟩)
    exact hn (of_decide_eq_true this)
   have hgood:Hid ((∀x∈a,x.r.length=4)→(∀x∈b,x.r.length=4)→E=0):=fun ha hb=>by
    rw[hahd.out,if_pos]
    rw[←List.map_append,List.all_eq_true]
    intro y hy
    obtain ⟨x,hx,rfl⟩:=List.mem_map.1 hy
    rcases List.mem_append.1 hx with e|e
    ·exact decide_eq_true (ha x e)
    ·exact decide_eq_true (hb x e)
   clear z0 z1 s0 s1
   go_loopw [32] (fun i wr=>∃k:Nat,k≤a.length∧i= .int .i64 k∧Hid ((∀x∈a.take k,x.r.length=4)∧Gr w3 wr)) (fun i _=>a.length-(intOf i).toNat)
   case atStart=>exact ⟨0,Nat.zero_le _,rfl,fun x hx=>(by simp at hx),Gr.refl _⟩
   case round =>
    obtain ⟨k,hk,rfl,hR⟩:=hrel
    by_cases hlt:k<a.length
    ·have hltz:(k:Int)<(a.length:Int):=by omega
     obtain ⟨bb,off,rfl,hb,hcs⟩:=(hB3.out.2.1.gr hR.out.2).items.at hlt
     obtain ⟨x,hx⟩:∃x,a[k]=x:=⟨_,rfl⟩
     obtain ⟨e0,e1⟩:=hcs k hlt
     rw[hx] at e0 e1
     have hxm:Hid (x∈a):=by show _∈_;rw[←hx];exact List.getElem_mem hlt
     have htk:Hid (a.take (k+1)=a.take k++[x]):=by show _=_;rw[List.take_succ_eq_append_getElem hlt,hx]
     clear hcs hx
     cases h4:((x.r.length:Int) != 4)
     ·have h4':x.r.length=4:=by have:(x.r.length:Int)=4:=(by simpa using h4);omega
      have hfin:Hid ((∀y∈a.take (k+1),y.r.length=4)∧Gr w3 (wr.alloc (.cells #[.slice x.p x.r.length x.c,.int .i64 x.n] 90))):=⟨fun y hy=>by
       rw[htk.out] at hy
       rcases List.mem_append.1 hy with e|e
       ·exact hR.out.1 y e
       ·rw[List.mem_singleton.1 e];exact h4',hR.out.2.alloc _⟩
      clear h4'
      go_wp2
      go_roundw
      case rel=>exact ⟨k+1,by omega,by go_num,hfin⟩
      case measure=>simp[intOf];omega
     ·have h4':¬x.r.length=4:=by have:¬(x.r.length:Int)=4:=(by simpa using h4);omega
      have hfin:Hid (E=5):=hbad.out x (by simp[hxm.out]) h4'
      have hfB:Hid (Gr w (wr.alloc (.cells #[.slice x.p x.r.length x.c,.int .i64 x.n] 90))):=hB3.out.1.trans (hR.out.2.alloc _)
      clear h4'
      go_wp2
      go_ret
      exact ⟨by rw[hfin.out];rfl,hfB.out⟩
    ·have hltz:¬(k:Int)<(a.length:Int):=by omega
     have hall:Hid (∀x∈a,x.r.length=4):=by
      have:=hR.out.1
      rw[List.take_of_length_le (by omega)] at this
      exact this
     go_wp2
     rw[rounds_succ]
     have hallA:Hid (∀x∈a,x.r.length=4):=hall
     have hB4:Hid (Gr w wr∧Lv wr B cb b):=⟨hB3.out.1.trans hR.out.2,hB3.out.2.2.gr hR.out.2⟩
     clear hall hR hB3
     go_wp2
     generalize wr=w5 at hB4 ⊢
     go_loopw [32] (fun i wr=>∃k:Nat,k≤b.length∧i= .int .i64 k∧Hid ((∀x∈b.take k,x.r.length=4)∧Gr w5 wr)) (fun i _=>b.length-(intOf i).toNat)
     case atStart=>exact ⟨0,Nat.zero_le _,rfl,fun x hx=>(by simp at hx),Gr.refl _⟩
     case round =>
      obtain ⟨k,hk,rfl,hR⟩:=hrel
      by_cases hlt:k<b.length
      ·have hltz:(k:Int)<(b.length:Int):=by omega
       obtain ⟨bb,off,rfl,hb,hcs⟩:=(hB4.out.2.gr hR.out.2).items.at hlt
       obtain ⟨x,hx⟩:∃x,b[k]=x:=⟨_,rfl⟩
       obtain ⟨e0,e1⟩:=hcs k hlt
       rw[hx] at e0 e1
       have hxm:Hid (x∈b):=by show _∈_;rw[←hx];exact List.getElem_mem hlt
       have htk:Hid (b.take (k+1)=b.take k++[x]):=by show _=_;rw[List.take_succ_eq_append_getElem hlt,hx]
       clear hcs hx
       cases h4:((x.r.length:Int) != 4)
       ·have h4':x.r.length=4:=by have:(x.r.length:Int)=4:=(by simpa using h4);omega
        have hfin:Hid ((∀y∈b.take (k+1),y.r.length=4)∧Gr w5 (wr.alloc (.cells #[.slice x.p x.r.length x.c,.int .i64 x.n] 90))):=⟨fun y hy=>by
         rw[htk.out] at hy
         rcases List.mem_append.1 hy with e|e
         ·exact hR.out.1 y e
         ·rw[List.mem_singleton.1 e];exact h4',hR.out.2.alloc _⟩
        clear h4'
        go_wp2
        go_roundw
        case rel=>exact ⟨k+1,by omega,by go_num,hfin⟩
        case measure=>simp[intOf];omega
       ·have h4':¬x.r.length=4:=by have:¬(x.r.length:Int)=4:=(by simpa using h4);omega
        have hfin:Hid (E=5):=hbad.out x (by simp[hxm.out]) h4'
        have hfB:Hid (Gr w (wr.alloc (.cells #[.slice x.p x.r.length x.c,.int .i64 x.n] 90))):=hB4.out.1.trans (hR.out.2.alloc _)
        clear h4'
        go_wp2
        go_ret
        exact ⟨by rw[hfin.out];rfl,hfB.out⟩
      ·have hltz:¬(k:Int)<(b.length:Int):=by omega
       have hallB:Hid (∀x∈b,x.r.length=4):=by
        have:=hR.out.1
        rw[List.take_of_length_le (by omega)] at this
        exact this
       go_wp2
       rw[rounds_succ]
       go_wp2
       go_ret
       exact ⟨by rw[hgood.out hallA.out hallB.out];rfl,hB4.out.1.trans hR.out.2⟩
  ·have hfin:Hid (E3=E):=by
    have hn:¬errZ (b.map Itm.z)=0:=by rw[hEs.out.2.2.2];simpa using h3
    show _=_;rw[←hEs.out.1];unfold tblE;rw[if_pos (by rw[hEs.out.2.2.1];exact hE20),if_neg hn];exact hEs.out.2.2.2.symm
   go_wp2_with (go_at_call 84;refine Calls.mono (hZb.out w2 hg2) ?_;rintro e w3 ⟨rfl,hg3⟩)
   go_ret
   exact ⟨by rw[←hfin.out];rfl,hbW.out.1.trans (hg2.trans hg3)⟩
 ·have hfin:Hid (E2=E):=by
   have hn:¬errZ (a.map Itm.z)=0:=by rw[hEs.out.2.2.1];simpa using h2
   show _=_;rw[←hEs.out.1];unfold tblE;rw[if_neg hn];exact hEs.out.2.2.1.symm
  go_wp2_with (go_at_call 84;refine Calls.mono (hZa.out w1 (Gr.refl _)) ?_;rintro e w2 ⟨rfl,hg2⟩)
  go_ret
  exact ⟨by rw[←hfin.out];rfl,hbW.out.1.trans hg2⟩
end Go.Proofs.YtkadjjmkokhldaaGreat

namespace Go.Proofs.YtkadjjmkokhldaaGreat
open Go.RowKit Go.Sort Go.Maps

theorem oneOk {s:Stp} {ah:List Int} {S:List (List Zit)} (h:widW s ah≠0) (hS:Ahd S ah) (hk:s.k=2∨s.k=3∨s.k=8∨s.k=7∨s.k=9):0≤s.a∧s.a.toNat<S.length∧∀l:List Itm,l.map Itm.z=getS S s.a→OneOk s l:=by
 have hin:inB s.a 0 ((ah.length:Int)-1)=true:=by
  rcases hk with k|k|k|k|k
  ·exact (par2 h k).1
  ·exact (par3 h k).1
  ·exact (par8 h k).1
  ·exact (par7 h k).1
  ·exact (par9 h k).1
 obtain ⟨h0,h1,h2,h3⟩:=hS.at hin
 refine ⟨h0,h1,fun l hl=> ?_⟩
 have hz:=(errZ_iff (getS S s.a)).1 h2
 have hlen:l.length≤400:=by have:=congrArg List.length hl;simp at this;omega
 have hmem:∀x∈l,x.z∈getS S s.a:=fun x hx=>by rw[←hl];exact List.mem_map.2 ⟨x,hx,rfl⟩
 have hw:∀x∈l,(x.r.length:Int)=ah.getD s.a.toNat 0:=fun x hx=>h3 x.z (hmem x hx)
 refine ⟨hlen,fun x hx=> ?_,fun k=> ?_,fun k=> ?_,fun k=> ?_,fun k=> ?_⟩
 ·have:=okZ_parts (hz.2.1 x.z (hmem x hx))
  exact ⟨this.1,this.2.1⟩
 ·obtain ⟨_,p2,p3,_⟩:=par2 h k
  exact ⟨p2,fun x hx=>by rw[hw x hx];exact p3⟩
 ·obtain ⟨_,p2,p3,_⟩:=par3 h k
  exact ⟨p2,fun x hx c hc=>by rw[hw x hx];exact p3 c hc⟩
 ·obtain ⟨_,p2,_⟩:=par8 h k
  exact fun x hx=>by rw[hw x hx];exact p2
 ·obtain ⟨_,p2,p3,_⟩:=par9 h k
  exact fun x hx=>by rw[hw x hx];exact ⟨p3,p2⟩
theorem joinOk {s:Stp} {ah:List Int} {S:List (List Zit)} (h:widW s ah≠0) (hS:Ahd S ah) (hk:s.k=4) (l r:List Itm) (hl:l.map Itm.z=getS S s.a) (hr:r.map Itm.z=getS S s.b):JoinOk s.c s.v l r:=by
 obtain ⟨p1,p2,p3,p4,_⟩:=par4 h hk
 obtain ⟨_,_,a2,a3⟩:=hS.at p1
 obtain ⟨_,_,b2,b3⟩:=hS.at p2
 have za:=(errZ_iff (getS S s.a)).1 a2
 have zb:=(errZ_iff (getS S s.b)).1 b2
 have ma:∀x∈l,x.z∈getS S s.a:=fun x hx=>by rw[←hl];exact List.mem_map.2 ⟨x,hx,rfl⟩
 have mb:∀x∈r,x.z∈getS S s.b:=fun x hx=>by rw[←hr];exact List.mem_map.2 ⟨x,hx,rfl⟩
 have wa:∀x∈l,(x.r.length:Int)=ah.getD s.a.toNat 0:=fun x hx=>a3 x.z (ma x hx)
 have wb:∀x∈r,(x.r.length:Int)=ah.getD s.b.toNat 0:=fun x hx=>b3 x.z (mb x hx)
 exact ⟨by have:=congrArg List.length hl;simp at this;omega,by have:=congrArg List.length hr;simp at this;omega,fun x hx=>by rw[wa x hx];exact p4,fun x hx=>by rw[wb x hx];exact p3,fun x hx=>⟨(okZ_parts (za.2.1 x.z (ma x hx))).1,(okZ_parts (za.2.1 x.z (ma x hx))).2.1⟩,fun x hx=>⟨(okZ_parts (zb.2.1 x.z (mb x hx))).1,(okZ_parts (zb.2.1 x.z (mb x hx))).2.1⟩⟩
theorem tellV {s:Stp} {ah:List Int} {S:List (List Zit)} {a b:List Itm} {A B:Option Addr} {ca cb:Nat} {SA:Option Addr} {sc:Nat} {ss:List Sl} {w:World} (h:widW s ah≠0) (hS:Ahd S ah) (hs:Sts w SA ss S) (ha:Lv w A ca a) (hb:Lv w B cb b) (hl:RowI w s.p s.l) :
  Calls Tryz.prog 114 #[.agg #[.int .i64 s.k,.int .i64 s.a,.int .i64 s.b,.int .i64 s.c,.int .i64 s.o,.int .i64 s.v,.slice s.p s.l.length s.n],.agg #[.slice A a.length ca,.slice B b.length cb],.slice SA ss.length sc] w fun e w'=>∃(L:List Itm) (C:Option Addr) (k:Nat),e= .returned (.tuple #[.slice C L.length k,.int .i64 (tellE s (a.map Itm.z) (b.map Itm.z) S)])∧L.map Itm.z=tellF s (a.map Itm.z) (b.map Itm.z) S∧Lv w' C k L∧Below w.heap.size w w'∧NwT w' k w.heap.size C L:=by
 rcases kinds h with k|k|k|k|k|k|k|k|k
 ·exact tell1 s a b A B ca cb SA sc ss S w k (par1 h k).1 ha hb
 ·obtain ⟨h0,h1,h2⟩:=oneOk h hS (Or.inl k)
  exact tellOne s a b A B ca cb SA sc ss S w 2 k (Or.inl rfl) h0 h1 hs hl h2
 ·obtain ⟨h0,h1,h2⟩:=oneOk h hS (Or.inr (Or.inl k))
  exact tellOne s a b A B ca cb SA sc ss S w 3 k (Or.inr (Or.inl rfl)) h0 h1 hs hl h2
 ·obtain ⟨p1,p2,_,_,_⟩:=par4 h k
  exact tell4 s a b A B ca cb SA sc ss S w k (hS.at p1).1 (hS.at p1).2.1 (hS.at p2).1 (hS.at p2).2.1 hs (joinOk h hS k)
 ·obtain ⟨p1,p2,_,_⟩:=par5 h k
  exact tell5 s a b A B ca cb SA sc ss S w k (hS.at p1).1 (hS.at p1).2.1 (hS.at p2).1 (hS.at p2).2.1 hs
 ·obtain ⟨p1,p2,_,_⟩:=par6 h k
  exact tell6 s a b A B ca cb SA sc ss S w k (hS.at p1).1 (hS.at p1).2.1 (hS.at p2).1 (hS.at p2).2.1 hs (hS.at p2).2.2.1
 ·obtain ⟨h0,h1,h2⟩:=oneOk h hS (Or.inr (Or.inr (Or.inr (Or.inl k))))
  exact tellOne s a b A B ca cb SA sc ss S w 7 k (Or.inr (Or.inr (Or.inr (Or.inl rfl)))) h0 h1 hs hl h2
 ·obtain ⟨h0,h1,h2⟩:=oneOk h hS (Or.inr (Or.inr (Or.inl k)))
  exact tellOne s a b A B ca cb SA sc ss S w 8 k (Or.inr (Or.inr (Or.inl rfl))) h0 h1 hs hl h2
 ·obtain ⟨h0,h1,h2⟩:=oneOk h hS (Or.inr (Or.inr (Or.inr (Or.inr k))))
  exact tellOne s a b A B ca cb SA sc ss S w 9 k (Or.inr (Or.inr (Or.inr (Or.inr rfl)))) h0 h1 hs hl h2

/-- No cell of a list lies in the block that is written. -/
theorem RowG.grown {α : Type} {enc: α → List Value} {k:Nat} {w w':World} {A:Option Addr} {l:List α} {row:Option Nat} (h:RowG enc k w A l) (hg:w.grownBy w' row) (hne:∀a,A=some a→l≠[]→some a.block≠row):RowG enc k w' A l:=by
 rcases h with h|⟨b,off,hA,hb,hc⟩
 ·exact Or.inl h
 ·by_cases hl:l=[]
  ·exact Or.inl hl
  ·refine Or.inr ⟨b,off,hA,Nat.lt_of_lt_of_le hb hg.size,fun j hj i hi=> ?_⟩
   rw[World.cell?_of_block (a:=⟨b,off+j*k+i,none⟩) (hg.block b hb (hne _ hA hl))]
   exact hc j hj i hi
def Far (row:Option Nat) (s:Sl):Prop:=(∀a,s.A=some a→s.l≠[]→some a.block≠row)∧∀x∈s.l,∀a,x.p=some a→x.r≠[]→some a.block≠row
theorem Lv.grown {w w':World} {s:Sl} {row:Option Nat} (h:Lv w s.A s.cap s.l) (hg:w.grownBy w' row) (hf:Far row s):Lv w' s.A s.cap s.l :=
 ⟨⟨h.items.row.grown hg hf.1,fun x hx=>⟨(h.items.each x hx).1.grown hg (hf.2 x hx),(h.items.each x hx).2⟩⟩,h.nilc,h.len⟩
theorem Far.top {w:World} {s:Sl} (h:Lv w s.A s.cap s.l) {n:Nat} (hn:w.heap.size≤n):Far (some n) s :=
 ⟨fun a ha hl e=>by have:=h.items.row.lt a ha hl;simp at e;omega,fun x hx a ha hr e=>by have:=(h.items.each x hx).1.lt a ha hr;simp at e;omega⟩
theorem Far.new {s:Sl} {n:Nat} {row:Option Nat} (h:NewT n s.A s.l) (hr:∀g,row=some g→g<n):Far row s :=
 ⟨fun a ha _ e=>by have:=h.1 a ha;have:=hr _ e.symm;omega,fun x hx a ha _ e=>by have:=h.2 x hx a ha;have:=hr _ e.symm;omega⟩
theorem encS_len (s:Sl):(encS s).length=1:=rfl
theorem encS_one (s:Sl):∀u∈encS s,u.oneCell'=true:=by
 intro u hu
 simp[encS] at hu
 rw[hu];rfl
theorem Tryz.infoS:(Tryz.prog.info? 62).map (fun i=>(i.zero,i.size,i.bytes))=some (some (.slice none 0 0),1,24):=by kernel_rfl
theorem wpList_append_s (w:World) {ops:Array Oper} {rest:List Oper} {o:Oper} {a:Act} {Q:Exit→Act→World→Prop} (hgd:o.guard=none) (s z:Operand)
  (ho:o.op= .call { callee:= .builtin .append,args:= #[s,z],argTypes:= #[146,146] })
  (base:Nat) (v:Value) (l:List Sl) (x:Sl) (A:Addr) (cap:Nat) (hs:a.eval s=v) (hz:a.eval z= .slice (some A) 1 cap) (hown:OwnG encS 1 62 w base v l) (hr:RowG encS 1 w (some A) [x])
  (hml:l.length+1≤maxLen) (hb:(l.length+1)*24≤140737488355328) (hbase:base≤w.heap.size)
  (h:∀v' w',OwnG encS 1 62 w' base v' (l++[x])→w.grownBy w' v.ownBlock→(v'.ownBlock=v.ownBlock∨v'.ownBlock=some w.heap.size)→wpList Tryz.prog ops Q rest (a.put o.dst v') w'):wpList Tryz.prog ops Q (o::rest) a w :=
 wpList_plain hgd fun _ hK=>by
  obtain ⟨i0,hi,hz0,hz1,hz2⟩:=info_parts Tryz.infoS
  obtain ⟨v',w',g1,g2,g3,_,g5⟩:=run_append_own_at (P:=Tryz.prog) w base 146 o.type 62 i0 (.slice none 0 0) 1 24 Tryz.underlying146 hi hz0 hz1 hz2 rfl (by omega) v l.length (flatG encS l) hown A 1 cap (flatG encS [x]) (flatG_length encS_len [x]) (hr.cells encS_len (by omega)) (fun u hu=>flatG_one encS_one u [x] hu) hml hb hbase
  have h2:OwnG encS 1 62 w' base v' (l++[x]):=by
   show w'.ownsRow base _ 1 v' (l++[x]).length (flatG encS (l++[x]))
   rw[List.length_append,flatG_append]
   exact g2
  unfold Oper.wp execOp
  simp only[ho,resolve,invoke,builtin,Sem.run_bind,Sem.run_pure,Result.andThen_ok,List.map_toArray,List.map_cons,List.map_nil,hs,hz,g1]
  exact hK _ _ (h v' w' h2 g3 g5)
end Go.Proofs.YtkadjjmkokhldaaGreat

namespace Go.Proofs.YtkadjjmkokhldaaGreat
open Go.RowKit Go.Sort

theorem Tryz.infoQ2:(Tryz.prog.info? 48).map (fun i=>(i.zero,i.size,i.bytes))=some (some (.agg #[.int .i64 0,.int .i64 0,.int .i64 0,.int .i64 0,.int .i64 0,.int .i64 0,.slice none 0 0]),7,72):=by kernel_rfl

/-- A row that lies apart from the block ob, in memory made behind base. -/
structure ApartS (w:World) (base:Nat) (ob:Option Nat) (x:Stp):Prop where
 row:RowI w x.p x.l
 len:x.l.length≤maxLen
 nil:x.p=none→x.n=0
 own:∀a,x.p=some a→base≤a.block∧a.block<w.heap.size∧ob≠some a.block
/-- A list of items of one's own. -/
structure OwnS (w:World) (base:Nat) (v:Value) (l:List Stp):Prop where
 own:OwnG encQ 7 48 w base v l
 each:∀x∈l,ApartS w base v.ownBlock x
theorem OwnS.nil (w:World) (base:Nat):OwnS w base (.slice none 0 0) []:=⟨OwnG.nil _ _ _ _ _,fun x hx=>by cases hx⟩
theorem ApartS.below {w w':World} {base:Nat} {ob:Option Nat} {x:Stp} (h:ApartS w base ob x) (q:Below w.heap.size w w'):ApartS w' base ob x :=
 ⟨h.row.below q,h.len,h.nil,fun a ha=>⟨(h.own a ha).1,Nat.lt_of_lt_of_le (h.own a ha).2.1 q.size,(h.own a ha).2.2⟩⟩
theorem OwnS.below {w w':World} {base:Nat} {v:Value} {l:List Stp} (h:OwnS w base v l) (q:Below w.heap.size w w'):OwnS w' base v l:=⟨h.own.below q,fun x hx=>(h.each x hx).below q⟩
theorem OwnS.gr {w w':World} {base:Nat} {v:Value} {l:List Stp} (h:OwnS w base v l) (q:Gr w w'):OwnS w' base v l:=h.below q.below
theorem OwnS.stps {w:World} {base:Nat} {v:Value} {l:List Stp} (h:OwnS w base v l):∃A cap,v= .slice A l.length cap∧(A=none→cap=0)∧Stps w A l:=by
 obtain ⟨A,cap,hv,hA,hr,ha⟩:=h.own.row encQ_len
 exact ⟨A,cap,hv,hA,⟨hr,fun x hx=>⟨(h.each x hx).row,(h.each x hx).len,(h.each x hx).nil⟩⟩⟩
theorem ApartS.grown {w w':World} {base:Nat} {ob ob':Option Nat} {x:Stp} (h:ApartS w base ob x) (q:w.grownBy w' ob) (hob:ob'=ob∨ob'=some w.heap.size):ApartS w' base ob' x:=by
 refine ⟨?_,h.len,h.nil,fun a ha=>⟨(h.own a ha).1,Nat.lt_of_lt_of_le (h.own a ha).2.1 q.size,?_⟩⟩
 ·rcases h.row with k|⟨b,off,hp,hb,hc⟩
  ·exact Or.inl k
  ·refine Or.inr ⟨b,off,hp,Nat.lt_of_lt_of_le hb q.size,fun j hj i hi=> ?_⟩
   have hne:=(h.own _ hp).2.2
   rw[World.cell?_of_block (a:=⟨b,off+j*1+i,none⟩) (q.block b hb fun e=>hne e.symm)]
   exact hc j hj i hi
 ·rcases hob with e|e
  ·rw[e];exact (h.own a ha).2.2
  ·rw[e]
   intro k
   injection k with k
   have:=(h.own a ha).2.1
   omega
/-- append(v, x) -/
theorem run_append_s2 (w:World) (ty:TypeId) (base:Nat) (v:Value) (l:List Stp) (x:Stp) (A:Addr) (cap:Nat) (hown:OwnS w base v l) (hr:RowG encQ 7 w (some A) [x]) (hx:ApartS w base v.ownBlock x)
  (hml:l.length+1≤maxLen) (hb:(l.length+1)*72≤140737488355328) (hbase:base≤w.heap.size) :
  ∃v' w',(Builtin.append_ #[42,42] ty #[v,.slice (some A) 1 cap]).run Tryz.prog w= .ok v' w'∧OwnS w' base v' (l++[x])∧Below base w w'∧w.grownBy w' v.ownBlock:=by
 obtain ⟨i0,hi,hz0,hz1,hz2⟩:=info_parts Tryz.infoQ2
 obtain ⟨v',w',g1,g2,g3,_,g5⟩:=run_append_own_at (P:=Tryz.prog) w base 42 ty 48 i0 (.agg #[.int .i64 0,.int .i64 0,.int .i64 0,.int .i64 0,.int .i64 0,.int .i64 0,.slice none 0 0]) 7 72 Tryz.underlying42 hi hz0 hz1 hz2 rfl (by omega) v l.length (flatG encQ l) hown.own A 1 cap (flatG encQ [x]) (flatG_length encQ_len [x]) (hr.cells encQ_len (by omega)) (fun u hu=>flatG_one encQ_one u [x] hu) hml hb hbase
 refine ⟨v',w',g1,⟨?_,fun y hy=> ?_⟩,OwnG.grown_below hown.own g3 hbase,g3⟩
 ·show w'.ownsRow base _ 7 v' (l++[x]).length (flatG encQ (l++[x]))
  rw[List.length_append,flatG_append]
  exact g2
 ·rcases List.mem_append.1 hy with k|k
  ·exact (hown.each y k).grown g3 g5
  ·have:y=x:=by simpa using k
   subst this
   exact hx.grown g3 g5
theorem wpList_append_s2 (w:World) {ops:Array Oper} {rest:List Oper} {o:Oper} {a:Act} {Q:Exit→Act→World→Prop} (hgd:o.guard=none) (s z:Operand)
  (ho:o.op= .call { callee:= .builtin .append,args:= #[s,z],argTypes:= #[42,42] })
  (base:Nat) (v:Value) (l:List Stp) (x:Stp) (A:Addr) (cap:Nat) (hs:a.eval s=v) (hz:a.eval z= .slice (some A) 1 cap) (hown:OwnS w base v l) (hr:RowG encQ 7 w (some A) [x]) (hx:ApartS w base v.ownBlock x)
  (hml:l.length+1≤maxLen) (hb:(l.length+1)*72≤140737488355328) (hbase:base≤w.heap.size)
  (h:∀v' w',OwnS w' base v' (l++[x])→Below base w w'→wpList Tryz.prog ops Q rest (a.put o.dst v') w'):wpList Tryz.prog ops Q (o::rest) a w :=
 wpList_plain hgd fun _ hK=>by
  obtain ⟨v',w',hr,h2,h3,_⟩:=run_append_s2 w o.type base v l x A cap hown hr hx hml hb hbase
  unfold Oper.wp execOp
  simp only[ho,resolve,invoke,builtin,Sem.run_bind,Sem.run_pure,Result.andThen_ok,List.map_toArray,List.map_cons,List.map_nil,hs,hz,hr]
  exact hK _ _ (h v' w' h2 h3)

end Go.Proofs.YtkadjjmkokhldaaGreat
