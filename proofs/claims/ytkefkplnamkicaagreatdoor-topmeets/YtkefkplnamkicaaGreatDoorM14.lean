/-
  plain.CheckTables.
  plain.tell at a step that may stand in a query (but join, distinct, sum); lists of sets in memory.
  The numbers of a step that may stand in a query are small.
  The library's strconv.Itoa: where its functions and types stand in this program.
  strconv.Itoa: the text of a number.
  query.signOf, strconv.Itoa, query.printList: texts of a step's parts.
-/
import Derived.Test.YtkefkplnamkicaaGreatDoorM13
import Derived.Shelf.Strconv.Itoa3
import Derived.Shelf.Unicode.PredsPay
import Derived.Lib.ItoaLen
import Derived.Lib.Join
import Derived.Lib.JoinLaws
set_option maxRecDepth 100000
set_option maxHeartbeats 8000000
open Go.Ending renaming returned → Z
open Go.IntKind renaming i64 → O
open Go.Proofs.Tryz renaming prog → V
open Go.Value renaming slice → I, int → J, agg → H
namespace Go.Proofs.YtkefkplnamkicaaGreatDoor
open Go.RowKit Go.Sort Go.Maps

theorem pC {q:List Stp} {A:Option Addr} {ca:Nat} {w:World} {E:Int} (hE:bV q=E) (hl:q.length≤maxLen) (hq:Stps w A q) :
  Calls V 42 #[I A q.length ca] w fun e w'=>e= Z (J O E)∧Below w.heap.size w w':=by rw[←hE];exact lT q A ca w hl hq
theorem BO (x y:Value) (w:World):(Instr.index 68 (H #[x,y]) (J O 0)).run V w= .ok x w:=by kernel_rfl
theorem BP (x y:Value) (w:World):(Instr.index 68 (H #[x,y]) (J O 1)).run V w= .ok y w:=by kernel_rfl
theorem jy (a b:List Itm) (A B:Option Addr) (ca cb:Nat) (w:World) (ha:Lv w A ca a) (hb:Lv w B cb b) :
  Calls V 69 #[I A a.length ca,I B b.length cb] w fun e w'=>e= Z (J O (gQ (a.map Itm.z) (b.map Itm.z)))∧Gr w w':=by
 have hgX:Hid (Gr w (w.alloc (.cells #[I A a.length ca,I B b.length cb] 68))):=(gR _).alloc _
 obtain ⟨w1,hWX⟩:∃WX,(w.alloc (.cells #[I A a.length ca,I B b.length cb] 68))=WX:=⟨_,rfl⟩
 have s0:w1.cell? ⟨w.heap.size,0,none⟩=some (I A a.length ca):=by rw[←hWX];exact ab (w:=w) (gR _) rfl
 have s1:w1.cell? ⟨w.heap.size,1,none⟩=some (I B b.length cb):=by rw[←hWX];exact ab (w:=w) (gR _) rfl
 have hst1:w.heap.size<w1.heap.size:=by rw[←hWX];simp
 rw[hWX] at hgX
 obtain ⟨E2,hE2⟩:∃E,ax (a.map Itm.z)=E:=⟨_,rfl⟩
 obtain ⟨E3,hE3⟩:∃E,ax (b.map Itm.z)=E:=⟨_,rfl⟩
 obtain ⟨E,hE⟩:∃E,gQ (a.map Itm.z) (b.map Itm.z)=E:=⟨_,rfl⟩
 have hEs:Hid (gQ (a.map Itm.z) (b.map Itm.z)=E∧True∧ax (a.map Itm.z)=E2∧ax (b.map Itm.z)=E3):=⟨hE,trivial,hE2,hE3⟩
 rw[hE]
 have hbW:Hid (Gr w w1∧Lv w1 A ca a∧Lv w1 B cb b):=⟨hgX.out,ha.gr hgX.out,hb.gr hgX.out⟩
 clear ha hb hE2 hE3 hE hgX
 have i0:=BO (I A a.length ca) (I B b.length cb)
 have i1:=BP (I A a.length ca) (I B b.length cb)
 go_enter Tryz.func69,Tryz.ntmps69
 go_wp2
 clear hWX
 refine wp_loop_rounds 3 ?_
 rw[rounds_succ]
 have hZa:Hid (∀W,Gr w1 W→Calls V 95 #[I A a.length ca] W fun e w'=>e= Z (J O E2)∧Gr W w'):=fun W h=>by rw[←hEs.out.2.2.1];exact wl (hbW.out.2.1.gr h) rfl
 have hZb:Hid (∀W,Gr w1 W→Calls V 95 #[I B b.length cb] W fun e w'=>e= Z (J O E3)∧Gr W w'):=fun W h=>by rw[←hEs.out.2.2.2];exact wl (hbW.out.2.2.gr h) rfl
 cases h2:(E2 != 0)
 ·have hE20:E2=0:=by simpa using h2
  go_wp2_with (go_at_call 95;refine cM (hZa.out w1 (gR _)) ?_;rintro e w2 ⟨rfl,hg2⟩)
  rw[rounds_succ]
  cases h3:(E3 != 0)
  ·have hE30:E3=0:=by simpa using h3
   go_wp2_with (go_at_call 95;refine cM (hZb.out w2 hg2) ?_;rintro e w3 ⟨rfl,hg3⟩)
   rw[rounds_succ]
   have hg3':Hid (Gr w1 w3):=hg2.trans hg3
   have z0:w3.cell? ⟨w.heap.size,0,none⟩=some (I A a.length ca):=(hg3'.out.below.cell (p:=⟨w.heap.size,0,none⟩) hst1).trans s0
   have z1:w3.cell? ⟨w.heap.size,1,none⟩=some (I B b.length cb):=(hg3'.out.below.cell (p:=⟨w.heap.size,1,none⟩) hst1).trans s1
   clear hg2 hg3 hZa hZb
   go_wp2
   refine wp_loop_rounds 3 ?_
   rw[rounds_succ]
   go_wp2
   have hB3:Hid (Gr w w3∧Lv w3 A ca a∧Lv w3 B cb b):=⟨hbW.out.1.trans hg3'.out,hbW.out.2.1.gr hg3'.out,hbW.out.2.2.gr hg3'.out⟩
   have hla:a.length≤400:=(fU (by rw[hEs.out.2.2.1];exact hE20)).1
   have hlb:b.length≤400:=(fU (by rw[hEs.out.2.2.2];exact hE30)).1
   have hahd:Hid (E=if (a.map Itm.z++b.map Itm.z).all (fun x=>decide (x.1.length=4))=true then 0 else 5):=by
    show _=_;rw[←hEs.out.1];unfold gQ;rw[if_pos (by rw[hEs.out.2.2.1];exact hE20),if_pos (by rw[hEs.out.2.2.2];exact hE30)]
   have hbad:Hid (∀x∈a++b,¬x.r.length=4→E=5):=fun x hx hn=>by
    rw[hahd.out,if_neg]
    intro h
    rw[←List.map_append] at h
    have:=List.all_eq_true.1 h x.z (List.mem_map.2 ⟨x,hx,rfl⟩)
    exact hn (of_decide_eq_true this)
   have hgood:Hid ((∀x∈a,x.r.length=4)→(∀x∈b,x.r.length=4)→E=0):=fun ha hb=>by
    rw[hahd.out,if_pos]
    rw[←List.map_append,List.all_eq_true]
    intro y hy
    obtain ⟨x,hx,rfl⟩:=List.mem_map.1 hy
    rcases List.mem_append.1 hx with e|e
    ·exact decide_eq_true (ha x e)
    ·exact decide_eq_true (hb x e)
   clear z0 z1 s0 s1
   go_loopw [32] (fun i wr=>∃k:Nat,k≤a.length∧i= J O k∧Hid ((∀x∈a.take k,x.r.length=4)∧Gr w3 wr)) (fun i _=>a.length-(intOf i).toNat)
   case atStart=>exact ⟨0,nZ _,rfl,fun x hx=>(by simp at hx),gR _⟩
   case round =>
    obtain ⟨k,hk,rfl,hR⟩:=hrel
    by_cases hlt:k<a.length
    ·have hltz:(k:Int)<(a.length:Int):=by omega
     obtain ⟨bb,off,rfl,hb,hcs⟩:=(hB3.out.2.1.gr hR.out.2).items.at hlt
     obtain ⟨x,hx⟩:∃x,a[k]=x:=⟨_,rfl⟩
     obtain ⟨e0,e1⟩:=hcs k hlt
     rw[hx] at e0 e1
     have hxm:Hid (x∈a):=by show _∈_;rw[←hx];exact gM hlt
     have htk:Hid (a.take (k+1)=a.take k++[x]):=by show _=_;rw[List.take_succ_eq_append_getElem hlt,hx]
     clear hcs hx
     cases h4:((x.r.length:Int) != 4)
     ·have h4':x.r.length=4:=by have:(x.r.length:Int)=4:=(by simpa using h4);omega
      have hfin:Hid ((∀y∈a.take (k+1),y.r.length=4)∧Gr w3 (wr.alloc (.cells #[I x.p x.r.length x.c,J O x.n] 101))):=⟨fun y hy=>by
       rw[htk.out] at hy
       rcases List.mem_append.1 hy with e|e
       ·exact hR.out.1 y e
       ·rw[List.mem_singleton.1 e];exact h4',hR.out.2.alloc _⟩
      clear h4'
      go_wp2
      go_roundw
      case rel=>exact ⟨k+1,by omega,by go_num,hfin⟩
      case measure=>simp[intOf];omega
     ·have h4':¬x.r.length=4:=by have:¬(x.r.length:Int)=4:=(by simpa using h4);omega
      have hfin:Hid (E=5):=hbad.out x (by simp[hxm.out]) h4'
      have hfB:Hid (Gr w (wr.alloc (.cells #[I x.p x.r.length x.c,J O x.n] 101))):=hB3.out.1.trans (hR.out.2.alloc _)
      clear h4'
      go_wp2
      go_ret
      exact ⟨by rw[hfin.out];rfl,hfB.out⟩
    ·have hltz:¬(k:Int)<(a.length:Int):=by omega
     have hall:Hid (∀x∈a,x.r.length=4):=by
      have:=hR.out.1
      rw[List.take_of_length_le (by omega)] at this
      exact this
     go_wp2
     rw[rounds_succ]
     have hallA:Hid (∀x∈a,x.r.length=4):=hall
     have hB4:Hid (Gr w wr∧Lv wr B cb b):=⟨hB3.out.1.trans hR.out.2,hB3.out.2.2.gr hR.out.2⟩
     clear hall hR hB3
     go_wp2
     generalize wr=w5 at hB4 ⊢
     go_loopw [32] (fun i wr=>∃k:Nat,k≤b.length∧i= J O k∧Hid ((∀x∈b.take k,x.r.length=4)∧Gr w5 wr)) (fun i _=>b.length-(intOf i).toNat)
     case atStart=>exact ⟨0,nZ _,rfl,fun x hx=>(by simp at hx),gR _⟩
     case round =>
      obtain ⟨k,hk,rfl,hR⟩:=hrel
      by_cases hlt:k<b.length
      ·have hltz:(k:Int)<(b.length:Int):=by omega
       obtain ⟨bb,off,rfl,hb,hcs⟩:=(hB4.out.2.gr hR.out.2).items.at hlt
       obtain ⟨x,hx⟩:∃x,b[k]=x:=⟨_,rfl⟩
       obtain ⟨e0,e1⟩:=hcs k hlt
       rw[hx] at e0 e1
       have hxm:Hid (x∈b):=by show _∈_;rw[←hx];exact gM hlt
       have htk:Hid (b.take (k+1)=b.take k++[x]):=by show _=_;rw[List.take_succ_eq_append_getElem hlt,hx]
       clear hcs hx
       cases h4:((x.r.length:Int) != 4)
       ·have h4':x.r.length=4:=by have:(x.r.length:Int)=4:=(by simpa using h4);omega
        have hfin:Hid ((∀y∈b.take (k+1),y.r.length=4)∧Gr w5 (wr.alloc (.cells #[I x.p x.r.length x.c,J O x.n] 101))):=⟨fun y hy=>by
         rw[htk.out] at hy
         rcases List.mem_append.1 hy with e|e
         ·exact hR.out.1 y e
         ·rw[List.mem_singleton.1 e];exact h4',hR.out.2.alloc _⟩
        clear h4'
        go_wp2
        go_roundw
        case rel=>exact ⟨k+1,by omega,by go_num,hfin⟩
        case measure=>simp[intOf];omega
       ·have h4':¬x.r.length=4:=by have:¬(x.r.length:Int)=4:=(by simpa using h4);omega
        have hfin:Hid (E=5):=hbad.out x (by simp[hxm.out]) h4'
        have hfB:Hid (Gr w (wr.alloc (.cells #[I x.p x.r.length x.c,J O x.n] 101))):=hB4.out.1.trans (hR.out.2.alloc _)
        clear h4'
        go_wp2
        go_ret
        exact ⟨by rw[hfin.out];rfl,hfB.out⟩
      ·have hltz:¬(k:Int)<(b.length:Int):=by omega
       have hallB:Hid (∀x∈b,x.r.length=4):=by
        have:=hR.out.1
        rw[List.take_of_length_le (by omega)] at this
        exact this
       go_wp2
       rw[rounds_succ]
       go_wp2
       go_ret
       exact ⟨by rw[hgood.out hallA.out hallB.out];rfl,hB4.out.1.trans hR.out.2⟩
  ·have hfin:Hid (E3=E):=by
    have hn:¬ax (b.map Itm.z)=0:=by rw[hEs.out.2.2.2];simpa using h3
    show _=_;rw[←hEs.out.1];unfold gQ;rw[if_pos (by rw[hEs.out.2.2.1];exact hE20),if_neg hn];exact hEs.out.2.2.2.symm
   go_wp2_with (go_at_call 95;refine cM (hZb.out w2 hg2) ?_;rintro e w3 ⟨rfl,hg3⟩)
   go_ret
   exact ⟨by rw[←hfin.out];rfl,hbW.out.1.trans (hg2.trans hg3)⟩
 ·have hfin:Hid (E2=E):=by
   have hn:¬ax (a.map Itm.z)=0:=by rw[hEs.out.2.2.1];simpa using h2
   show _=_;rw[←hEs.out.1];unfold gQ;rw[if_neg hn];exact hEs.out.2.2.1.symm
  go_wp2_with (go_at_call 95;refine cM (hZa.out w1 (gR _)) ?_;rintro e w2 ⟨rfl,hg2⟩)
  go_ret
  exact ⟨by rw[←hfin.out];rfl,hbW.out.1.trans hg2⟩

theorem rp {s:Stp} {ah:List Int} {S:List (List Zit)} (h:aO s ah≠0) (hS:Ahd S ah) (hk:s.k=2∨s.k=3∨s.k=8∨s.k=7∨s.k=9):0≤s.a∧s.a.toNat<S.length∧∀l:List Itm,l.map Itm.z=bO S s.a→OneOk s l:=by
 have hin:inB s.a 0 ((ah.length:Int)-1)=true:=by
  rcases hk with k|k|k|k|k
  ·exact (AE h k).1
  ·exact (AF h k).1
  ·exact (AH h k).1
  ·exact (Be h k).1
  ·exact (AJ h k).1
 obtain ⟨h0,h1,h2,h3⟩:=hS.at hin
 refine ⟨h0,h1,fun l hl=> ?_⟩
 have hz:=(bI (bO S s.a)).1 h2
 have hlen:l.length≤400:=by have:=congrArg List.length hl;simp at this;omega
 have hmem:∀x∈l,x.z∈bO S s.a:=fun x hx=>by rw[←hl];exact List.mem_map.2 ⟨x,hx,rfl⟩
 have hw:∀x∈l,(x.r.length:Int)=ah.getD s.a.toNat 0:=fun x hx=>h3 x.z (hmem x hx)
 refine ⟨hlen,fun x hx=> ?_,fun k=> ?_,fun k=> ?_,fun k=> ?_,fun k=> ?_⟩
 ·have:=bT (hz.2.1 x.z (hmem x hx))
  exact ⟨this.1,this.2.1⟩
 ·obtain ⟨_,p2,p3,_⟩:=AE h k
  exact ⟨p2,fun x hx=>by rw[hw x hx];exact p3⟩
 ·obtain ⟨_,p2,p3,_⟩:=AF h k
  exact ⟨p2,fun x hx c hc=>by rw[hw x hx];exact p3 c hc⟩
 ·obtain ⟨_,p2,_⟩:=AH h k
  exact fun x hx=>by rw[hw x hx];exact p2
 ·obtain ⟨_,p2,p3,_⟩:=AJ h k
  exact fun x hx=>by rw[hw x hx];exact ⟨p3,p2⟩
theorem Ax {s:Stp} {ah:List Int} {S:List (List Zit)} (h:aO s ah≠0) (hS:Ahd S ah) (hk:s.k=4) (l r:List Itm) (hl:l.map Itm.z=bO S s.a) (hr:r.map Itm.z=bO S s.b):JoinOk s.c s.v l r:=by
 obtain ⟨p1,p2,p3,p4,_⟩:=AG h hk
 obtain ⟨_,_,a2,a3⟩:=hS.at p1
 obtain ⟨_,_,b2,b3⟩:=hS.at p2
 have za:=(bI (bO S s.a)).1 a2
 have zb:=(bI (bO S s.b)).1 b2
 have ma:∀x∈l,x.z∈bO S s.a:=fun x hx=>by rw[←hl];exact List.mem_map.2 ⟨x,hx,rfl⟩
 have mb:∀x∈r,x.z∈bO S s.b:=fun x hx=>by rw[←hr];exact List.mem_map.2 ⟨x,hx,rfl⟩
 have wa:∀x∈l,(x.r.length:Int)=ah.getD s.a.toNat 0:=fun x hx=>a3 x.z (ma x hx)
 have wb:∀x∈r,(x.r.length:Int)=ah.getD s.b.toNat 0:=fun x hx=>b3 x.z (mb x hx)
 exact ⟨by have:=congrArg List.length hl;simp at this;omega,by have:=congrArg List.length hr;simp at this;omega,fun x hx=>by rw[wa x hx];exact p4,fun x hx=>by rw[wb x hx];exact p3,fun x hx=>⟨(bT (za.2.1 x.z (ma x hx))).1,(bT (za.2.1 x.z (ma x hx))).2.1⟩,fun x hx=>⟨(bT (zb.2.1 x.z (mb x hx))).1,(bT (zb.2.1 x.z (mb x hx))).2.1⟩⟩
theorem Bx {s:Stp} {ah:List Int} {S:List (List Zit)} {a b:List Itm} {A B:Option Addr} {ca cb:Nat} {SA:Option Addr} {sc:Nat} {ss:List Sl} {w:World} (h:aO s ah≠0) (hS:Ahd S ah) (hs:Sts w SA ss S) (ha:Lv w A ca a) (hb:Lv w B cb b) (hl:ay w s.p s.l) :
  Calls V 70 #[H #[J O s.k,J O s.a,J O s.b,J O s.c,J O s.o,J O s.v,I s.p s.l.length s.n],H #[I A a.length ca,I B b.length cb],I SA ss.length sc] w fun e w'=>∃(L:List Itm) (C:Option Addr) (k:Nat),e= Z (.tuple #[I C L.length k,J O (aX s (a.map Itm.z) (b.map Itm.z) S)])∧L.map Itm.z=bf s (a.map Itm.z) (b.map Itm.z) S∧Lv w' C k L∧Below w.heap.size w w'∧NwT w' k w.heap.size C L:=by
 rcases kinds h with k|k|k|k|k|k|k|k|k
 ·exact Bt s a b A B ca cb SA sc ss S w k (Bb h k).1 ha hb
 ·obtain ⟨h0,h1,h2⟩:=rp h hS (oL k)
  exact ke s a b A B ca cb SA sc ss S w 2 k (oL rfl) h0 h1 hs hl h2
 ·obtain ⟨h0,h1,h2⟩:=rp h hS (oR (oL k))
  exact ke s a b A B ca cb SA sc ss S w 3 k (oR (oL rfl)) h0 h1 hs hl h2
 ·obtain ⟨p1,p2,_,_,_⟩:=AG h k
  exact Bu s a b A B ca cb SA sc ss S w k (hS.at p1).1 (hS.at p1).2.1 (hS.at p2).1 (hS.at p2).2.1 hs (Ax h hS k)
 ·obtain ⟨p1,p2,_,_⟩:=Bc h k
  exact Bv s a b A B ca cb SA sc ss S w k (hS.at p1).1 (hS.at p1).2.1 (hS.at p2).1 (hS.at p2).2.1 hs
 ·obtain ⟨p1,p2,_,_⟩:=Bd h k
  exact Bw s a b A B ca cb SA sc ss S w k (hS.at p1).1 (hS.at p1).2.1 (hS.at p2).1 (hS.at p2).2.1 hs (hS.at p2).2.2.1
 ·obtain ⟨h0,h1,h2⟩:=rp h hS (oR (oR (oR (oL k))))
  exact ke s a b A B ca cb SA sc ss S w 7 k (oR (oR (oR (oL rfl)))) h0 h1 hs hl h2
 ·obtain ⟨h0,h1,h2⟩:=rp h hS (oR (oR (oL k)))
  exact ke s a b A B ca cb SA sc ss S w 8 k (oR (oR (oL rfl))) h0 h1 hs hl h2
 ·obtain ⟨h0,h1,h2⟩:=rp h hS (oR (oR (oR (oR k))))
  exact ke s a b A B ca cb SA sc ss S w 9 k (oR (oR (oR (oR rfl)))) h0 h1 hs hl h2

theorem au.grown {α : Type} {enc: α → List Value} {k:Nat} {w w':World} {A:Option Addr} {l:List α} {row:Option Nat} (h:au enc k w A l) (hg:w.grownBy w' row) (hne:∀a,A=some a→l≠[]→some a.block≠row):au enc k w' A l:=by
 rcases h with h|⟨b,off,hA,hb,hc⟩
 ·exact oL h
 ·by_cases hl:l=[]
  ·exact oL hl
  ·refine oR ⟨b,off,hA,nL hb hg.size,fun j hj i hi=> ?_⟩
   rw[World.cell?_of_block (a:=⟨b,off+j*k+i,none⟩) (hg.block b hb (hne _ hA hl))]
   exact hc j hj i hi
def Far (row:Option Nat) (s:Sl):Prop:=(∀a,s.A=some a→s.l≠[]→some a.block≠row)∧∀x∈s.l,∀a,x.p=some a→x.r≠[]→some a.block≠row
theorem Lv.grown {w w':World} {s:Sl} {row:Option Nat} (h:Lv w s.A s.cap s.l) (hg:w.grownBy w' row) (hf:Far row s):Lv w' s.A s.cap s.l :=
 ⟨⟨h.items.row.grown hg hf.1,fun x hx=>⟨(h.items.each x hx).1.grown hg (hf.2 x hx),(h.items.each x hx).2⟩⟩,h.nilc,h.len⟩
theorem Far.top {w:World} {s:Sl} (h:Lv w s.A s.cap s.l) {n:Nat} (hn:w.heap.size≤n):Far (some n) s :=
 ⟨fun a ha hl e=>by have:=h.items.row.lt a ha hl;simp at e;omega,fun x hx a ha hr e=>by have:=(h.items.each x hx).1.lt a ha hr;simp at e;omega⟩
theorem Far.new {s:Sl} {n:Nat} {row:Option Nat} (h:jf n s.A s.l) (hr:∀g,row=some g→g<n):Far row s :=
 ⟨fun a ha _ e=>by have:=h.1 a ha;have:=hr _ e.symm;omega,fun x hx a ha _ e=>by have:=h.2 x hx a ha;have:=hr _ e.symm;omega⟩
theorem mg (s:Sl):(eR s).length=1:=rfl
theorem wL (s:Sl):∀u∈eR s,u.oneCell'=true:=by
 intro u hu
 simp[eR] at hu
 rw[hu];rfl
theorem Tryz.infoS:(Tryz.prog.info? 58).map (fun i=>(i.zero,i.size,i.bytes))=some (some (I none 0 0),1,24):=by kernel_rfl
theorem lG (w:World) {ops:Array Oper} {rest:List Oper} {o:Oper} {a:Act} {Q:Exit→Act→World→Prop} (hgd:o.guard=none) (s z:Operand)
  (ho:o.op= .call { callee:= .builtin .append,args:= #[s,z],argTypes:= #[112,112] })
  (base:Nat) (v:Value) (l:List Sl) (x:Sl) (A:Addr) (cap:Nat) (hs:a.eval s=v) (hz:a.eval z= I (some A) 1 cap) (hown:af eR 1 58 w base v l) (hr:au eR 1 w (some A) [x])
  (hml:l.length+1≤maxLen) (hb:(l.length+1)*24≤140737488355328) (hbase:base≤w.heap.size)
  (h:∀v' w',af eR 1 58 w' base v' (l++[x])→w.grownBy w' v.ownBlock→(v'.ownBlock=v.ownBlock∨v'.ownBlock=some w.heap.size)→wpList V ops Q rest (a.put o.dst v') w'):wpList V ops Q (o::rest) a w :=
 wpList_plain hgd fun _ hK=>by
  obtain ⟨i0,hi,hz0,hz1,hz2⟩:=info_parts Tryz.infoS
  obtain ⟨v',w',g1,g2,g3,_,g5⟩:=run_append_own_at (P:=V) w base 112 o.type 58 i0 (I none 0 0) 1 24 Tryz.underlying112 hi hz0 hz1 hz2 rfl (by omega) v l.length (aI eR l) hown A 1 cap (aI eR [x]) (bi mg [x]) (hr.cells mg (by omega)) (fun u hu=>dq wL u [x] hu) hml hb hbase
  have h2:af eR 1 58 w' base v' (l++[x]):=by
   show w'.ownsRow base _ 1 v' (l++[x]).length (aI eR (l++[x]))
   rw[List.length_append,cg]
   exact g2
  unfold Oper.wp execOp
  simp only[ho,resolve,invoke,builtin,Sem.run_bind,Sem.run_pure,Result.andThen_ok,List.map_toArray,List.map_cons,List.map_nil,hs,hz,g1]
  exact hK _ _ (h v' w' h2 g3 g5)
end Go.Proofs.YtkefkplnamkicaaGreatDoor

namespace Go.Proofs.YtkefkplnamkicaaGreatDoor

def Small (n:Int):Prop:= -1073741824≤n∧n≤1073741824
structure Fine (s:Stp):Prop where
 a:Small s.a
 b:Small s.b
 c:Small s.c
 o:Small s.o
 v:Small s.v
 l:s.l.length≤8∧∀x∈s.l,Small x
theorem bA {n lo hi:Int} (h:inB n lo hi=true) (h1: -1073741824≤lo) (h2:hi≤1073741824):Small n:=by
 simp only[inB,Bool.and_eq_true,decide_eq_true_eq] at h
 exact ⟨by omega,by omega⟩
theorem az {n:Int} (h:decide (n=0)=true):Small n:=by
 have:n=0:=by simpa using h
 exact ⟨by omega,by omega⟩
theorem eS {l:List Int} (h:l.isEmpty=true):l.length≤8∧∀x∈l,Small x:=by
 have:l=[]:=by simpa using h
 subst this
 exact ⟨by simp,fun x hx=>by cases hx⟩
theorem vP {s:Stp} {ah:List Int} (h:aO s ah≠0) (hl:ah.length≤8) (hah:∀x∈ah,0≤x∧x≤8):Fine s:=by
 have ga:=mr hah s.a.toNat
 have gb:=mr hah s.b.toNat
 by_cases h9:1≤s.k∧s.k≤9
 ·have hk:s.k=1∨s.k=2∨s.k=3∨s.k=4∨s.k=5∨s.k=6∨s.k=7∨s.k=8∨s.k=9:=by omega
  rcases hk with hk|hk|hk|hk|hk|hk|hk|hk|hk
  ·rw[Bz hk] at h
   have t:=Classical.not_not.1 (fun e=>h (if_neg e))
   simp only[Bool.and_eq_true] at t
   obtain ⟨⟨⟨⟨⟨t1,t2⟩,t3⟩,t4⟩,t5⟩,t6⟩:=t
   exact ⟨bA t1 (by omega) (by omega),az t2,az t3,az t4,az t5,eS t6⟩
  ·rw[BA hk] at h
   have t:=Classical.not_not.1 (fun e=>h (if_neg e))
   simp only[Bool.and_eq_true] at t
   obtain ⟨⟨⟨⟨⟨t1,t2⟩,t3⟩,t4⟩,t5⟩,t6⟩:=t
   exact ⟨bA t1 (by omega) (by omega),az t2,bA t6 (by omega) (by omega),bA t4 (by omega) (by omega),bA t5 (by omega) (by omega),eS t3⟩
  ·rw[BB hk] at h
   have t:=Classical.not_not.1 (fun e=>h (if_neg e))
   simp only[Bool.and_eq_true] at t
   obtain ⟨⟨⟨⟨⟨⟨t1,t2⟩,t3⟩,t4⟩,t5⟩,t6⟩,t7⟩:=t
   exact ⟨bA t1 (by omega) (by omega),az t2,az t5,az t6,az t7,⟨by simp only[inB,Bool.and_eq_true,decide_eq_true_eq] at t3;omega,fun x hx=>bA (List.all_eq_true.1 t4 x hx) (by omega) (by omega)⟩⟩
  ·rw[BC hk] at h
   have t:=Classical.not_not.1 (fun e=>h (if_neg e))
   simp only[Bool.and_eq_true] at t
   obtain ⟨⟨⟨⟨⟨⟨t1,t2⟩,t3⟩,t4⟩,t5⟩,t6⟩,t7⟩:=t
   exact ⟨bA t1 (by omega) (by omega),bA t2 (by omega) (by omega),bA t6 (by omega) (by omega),az t7,bA t5 (by omega) (by omega),eS t3⟩
  ·rw[BD hk] at h
   have t:=Classical.not_not.1 (fun e=>h (if_neg e))
   simp only[Bool.and_eq_true] at t
   obtain ⟨⟨⟨⟨⟨⟨t1,t2⟩,t3⟩,t4⟩,t5⟩,t6⟩,t7⟩:=t
   exact ⟨bA t1 (by omega) (by omega),bA t2 (by omega) (by omega),az t5,az t6,az t7,eS t3⟩
  ·rw[BE hk] at h
   have t:=Classical.not_not.1 (fun e=>h (if_neg e))
   simp only[Bool.and_eq_true] at t
   obtain ⟨⟨⟨⟨⟨⟨t1,t2⟩,t3⟩,t4⟩,t5⟩,t6⟩,t7⟩:=t
   exact ⟨bA t1 (by omega) (by omega),bA t2 (by omega) (by omega),az t5,az t6,az t7,eS t3⟩
  ·rw[BF hk] at h
   have t:=Classical.not_not.1 (fun e=>h (if_neg e))
   simp only[Bool.and_eq_true] at t
   obtain ⟨⟨⟨⟨⟨t1,t2⟩,t3⟩,t4⟩,t5⟩,t6⟩:=t
   exact ⟨bA t1 (by omega) (by omega),az t2,az t4,az t5,az t6,eS t3⟩
  ·rw[BG hk] at h
   have t:=Classical.not_not.1 (fun e=>h (if_neg e))
   simp only[Bool.and_eq_true] at t
   obtain ⟨⟨⟨⟨⟨t1,t2⟩,t3⟩,t4⟩,t5⟩,t6⟩:=t
   exact ⟨bA t1 (by omega) (by omega),az t2,bA t4 (by omega) (by omega),az t5,az t6,eS t3⟩
  ·rw[BH hk] at h
   have t:=Classical.not_not.1 (fun e=>h (if_neg e))
   simp only[Bool.and_eq_true] at t
   obtain ⟨⟨⟨⟨⟨t1,t2⟩,t3⟩,t4⟩,t5⟩,t6⟩:=t
   exact ⟨bA t1 (by omega) (by omega),az t2,bA t5 (by omega) (by omega),az t6,bA t4 (by omega) (by omega),eS t3⟩
 ·exact absurd (A7 h9) h

end Go.Proofs.YtkefkplnamkicaaGreatDoor

namespace Go.Proofs
open Go.Shelf
def Tryz.lays171_ren:Go.Shelf.Ren:=⟨fun|171=>124|243=>176|246=>207|283=>224|284=>225|285=>226|286=>227|129=>153|317=>249|318=>250|319=>251|320=>252|337=>260|338=>261|n=>n,fun|3=>3|9=>9|2=>2|4=>4|171=>294|0=>0|53=>229|37=>266|5=>5|173=>296|212=>317|51=>227|20=>20|213=>318|46=>179|232=>326|233=>327|n=>n,fun|17=>5|18=>6|19=>7|n=>n⟩
theorem Tryz.lays171:Go.Proofs.LaysM.n171 V Tryz.lays171_ren:={
 mixed:=by kernel_rfl
 f129:=Tryz.func153.trans (congrArg some (by kernel_rfl))
 f171:=Tryz.func124.trans (congrArg some (by kernel_rfl))
 f243:=Tryz.func176.trans (congrArg some (by kernel_rfl))
 f246:=Tryz.func207.trans (congrArg some (by kernel_rfl))
 f283:=Tryz.func224.trans (congrArg some (by kernel_rfl))
 f284:=Tryz.func225.trans (congrArg some (by kernel_rfl))
 f285:=Tryz.func226.trans (congrArg some (by kernel_rfl))
 f286:=Tryz.func227.trans (congrArg some (by kernel_rfl))
 f317:=Tryz.func249.trans (congrArg some (by kernel_rfl))
 f318:=Tryz.func250.trans (congrArg some (by kernel_rfl))
 f319:=Tryz.func251.trans (congrArg some (by kernel_rfl))
 f320:=Tryz.func252.trans (congrArg some (by kernel_rfl))
 f337:=Tryz.func260.trans (congrArg some (by kernel_rfl))
 f338:=Tryz.func261.trans (congrArg some (by kernel_rfl))
 t0:=Tryz.underlying0
 a0:=Tryz.isAgg0
 z0:=Tryz.sizeOf0
 v0:=Tryz.zeroValue0
 t2:=Tryz.underlying2
 a2:=Tryz.isAgg2
 z2:=Tryz.sizeOf2
 v2:=Tryz.zeroValue2
 t3:=Tryz.underlying3
 a3:=Tryz.isAgg3
 z3:=Tryz.sizeOf3
 v3:=Tryz.zeroValue3
 t4:=Tryz.underlying4
 a4:=Tryz.isAgg4
 z4:=Tryz.sizeOf4
 v4:=Tryz.zeroValue4
 t5:=Tryz.underlying5
 a5:=Tryz.isAgg5
 z5:=Tryz.sizeOf5
 v5:=Tryz.zeroValue5
 t9:=Tryz.underlying9
 a9:=Tryz.isAgg9
 z9:=Tryz.sizeOf9
 v9:=Tryz.zeroValue9
 t20:=Tryz.underlying20
 a20:=Tryz.isAgg20
 z20:=Tryz.sizeOf20
 v20:=Tryz.zeroValue20
 t37:=Tryz.underlying266
 a37:=Tryz.isAgg266
 z37:=Tryz.sizeOf266
 v37:=Tryz.zeroValue266
 t46:=Tryz.underlying179
 a46:=Tryz.isAgg179
 z46:=Tryz.sizeOf179
 v46:=Tryz.zeroValue179
 t51:=Tryz.underlying227
 a51:=Tryz.isAgg227
 z51:=Tryz.sizeOf227
 v51:=Tryz.zeroValue227
 t53:=Tryz.underlying229
 a53:=Tryz.isAgg229
 z53:=Tryz.sizeOf229
 v53:=Tryz.zeroValue229
 t171:=Tryz.underlying294
 a171:=Tryz.isAgg294
 z171:=Tryz.sizeOf294
 v171:=Tryz.zeroValue294
 t173:=Tryz.underlying296
 a173:=Tryz.isAgg296
 z173:=Tryz.sizeOf296
 v173:=Tryz.zeroValue296
 t212:=Tryz.underlying317
 a212:=Tryz.isAgg317
 z212:=Tryz.sizeOf317
 v212:=Tryz.zeroValue317
 t213:=Tryz.underlying318
 a213:=Tryz.isAgg318
 z213:=Tryz.sizeOf318
 t232:=Tryz.underlying326
 a232:=Tryz.isAgg326
 z232:=Tryz.sizeOf326
 v232:=Tryz.zeroValue326
 t233:=Tryz.underlying327
 a233:=Tryz.isAgg327
 z233:=Tryz.sizeOf327
 v233:=Tryz.zeroValue327
 g17:=by kernel_rfl
 g18:=by kernel_rfl
 g19:=by kernel_rfl
 i0:=by kernel_rfl
 i2:=by kernel_rfl
 i3:=by kernel_rfl
 i4:=by kernel_rfl
 i5:=by kernel_rfl
 i9:=by kernel_rfl
 i20:=by kernel_rfl
 i37:=by kernel_rfl
 i46:=by kernel_rfl
 i51:=by kernel_rfl
 i53:=by kernel_rfl
 i171:=by kernel_rfl
 i173:=by kernel_rfl
 i212:=by kernel_rfl
 i232:=by kernel_rfl
 i233:=by kernel_rfl
 m17:=by kernel_rfl
 m18:=by kernel_rfl
 m19:=by kernel_rfl }
end Go.Proofs

namespace Go.Proofs.YtkefkplnamkicaaGreatDoor
open Go.RowKit Go.Sort

def pz (w : World) : Prop := Lib.TabIs V w "internal/strconv.uint64pow10" .u64 Lib.pow10Tab
theorem pz.below {w w':World} (h:pz w) (k:Below w.heap.size w w'):pz w':=by
 have hs : (Tryz.prog.globalNamed "internal/strconv.uint64pow10").isSome = true := by kernel_rfl
 obtain ⟨g,hg⟩:=Option.isSome_iff_exists.1 hs
 exact TabIs_below hg h k
theorem pz.gr {w w':World} (h:pz w) (k:Gr w w'):pz w':=h.below k.below

def jZ (o:Int):List UInt8:=if o=1 then [60] else if o=2 then [61] else if o=3 then [62] else []
theorem tf (o:Int) (w:World):Calls V 121 #[J O o] w fun e w'=>e= Z (.string ⟨(jZ o).toArray⟩)∧w'=w:=by
 by_cases h1:o=1
 ·subst h1
  go_enter Tryz.func121,Tryz.ntmps121
  go_wp2
  go_ret
  exact ⟨rfl,rfl⟩
 by_cases h2:o=2
 ·subst h2
  go_enter Tryz.func121,Tryz.ntmps121
  go_wp2
  go_ret
  exact ⟨rfl,rfl⟩
 by_cases h3:o=3
 ·subst h3
  go_enter Tryz.func121,Tryz.ntmps121
  go_wp2
  go_ret
  exact ⟨rfl,rfl⟩
 have e1:jZ o=[]:=by unfold jZ;rw[if_neg h1,if_neg h2,if_neg h3]
 have q1:(o==1)=false:=beq_eq_false_iff_ne.2 h1
 have q2:(o==2)=false:=beq_eq_false_iff_ne.2 h2
 have q3:(o==3)=false:=beq_eq_false_iff_ne.2 h3
 rw[e1]
 clear h1 h2 h3 e1
 go_enter Tryz.func121,Tryz.ntmps121
 go_wp2
 go_ret
 exact ⟨rfl,rfl⟩

def yX (x:List UInt8):List Value:=[.string ⟨x.toArray⟩]
abbrev uh (w:World) (A:Option Addr) (l:List (List UInt8)):Prop:=au yX 1 w A l
end Go.Proofs.YtkefkplnamkicaaGreatDoor
