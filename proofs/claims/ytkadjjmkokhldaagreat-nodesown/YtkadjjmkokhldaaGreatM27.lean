/-
  zset.Of: the rows of a table.
  A node's views on plain lists: a table's set, the difference of two of them, and what a view has missed.
  plain.All.
-/
import Derived.Test.YtkadjjmkokhldaaGreatM26
import Derived.Test.YtkadjjmkokhldaaGreatM11
import Derived.Test.YtkadjjmkokhldaaGreatM05
import Derived.Test.YtkadjjmkokhldaaGreatM23
import Derived.Test.YtkadjjmkokhldaaGreatM24
namespace Go.Proofs.YtkadjjmkokhldaaGreat
open Go.RowKit Go.Sort

/-- What Of tells. -/
def ofR (t:Tab):List Zit:=if errT t=0 then ofL t else []
theorem ofR_no {t:Tab} (h:errT t≠0):ofR t=[]:=by unfold ofR;rw[if_neg h]
theorem ofR_ok {t:Tab} (h:errT t=0):ofR t=ofL t:=by unfold ofR;rw[if_pos h]

theorem rowOf_step (e:List Cel) (key:Int) {j:Nat} (h:j<3):(rowOf e key).take (j+1+1)=(rowOf e key).take (j+1)++[grt (onceL (valsOf key j e))]:=by
 have hj:j=0∨j=1∨j=2:=by omega
 rcases hj with rfl|rfl|rfl<;>rfl
theorem rowOf_len (e:List Cel) (key:Int):(rowOf e key).length=4:=rfl
theorem rowOf_take (e:List Cel) (key:Int) (j:Nat):((rowOf e key).take j).length≤4:=by rw[List.length_take,rowOf_len];omega

set_option maxRecDepth 100000 in
set_option maxHeartbeats 4000000 in
theorem of_new (t:Tab) (A:Option Addr) (ca:Nat) (D:Option Addr) (cd:Nat) (w:World) (hl:t.c.l.length≤maxLen) (hel:t.e.length≤maxLen) (hr:Row w A t.c.l) (hd:RowC w D t.e) :
  Calls Tryz.prog 47 #[.agg #[.int .i64 t.c.c0,.int .i64 t.c.c1,.int .i64 t.c.c2,.int .i64 t.c.c3,.slice A t.c.l.length ca,.slice D t.e.length cd]] w fun e w'=>∃(L:List Itm) (C:Option Addr) (c:Nat),e= .returned (.tuple #[.slice C L.length c,.int .i64 (errT t)])∧L.map Itm.z=ofR t∧Items w' C L∧NilC C L.length c∧Below w.heap.size w w'∧NewT w.heap.size C L:=by
 have ht0:TabAt (w.alloc (.cells #[.int .i64 t.c.c0,.int .i64 t.c.c1,.int .i64 t.c.c2,.int .i64 t.c.c3,.slice A t.c.l.length ca,.slice D t.e.length cd] 37)) w.heap.size t A ca D cd:=TabAt.new 37 hr hd rfl
 have hbw0:Below w.heap.size w (w.alloc (.cells #[.int .i64 t.c.c0,.int .i64 t.c.c1,.int .i64 t.c.c2,.int .i64 t.c.c3,.slice A t.c.l.length ca,.slice D t.e.length cd] 37)):=((Gr.refl w).alloc _).below
 have hck:=checkT_any t A ca D cd (w.alloc (.cells #[.int .i64 t.c.c0,.int .i64 t.c.c1,.int .i64 t.c.c2,.int .i64 t.c.c3,.slice A t.c.l.length ca,.slice D t.e.length cd] 37)) hl hel ht0.row ht0.rowC
 have hckH:Hid _:=hck
 clear hck hl hel hr hd
 go_enter Tryz.func47,Tryz.ntmps47
 obtain ⟨k0,k1,k2,k3,k4,k5⟩:_∧_∧_∧_∧_∧_:=⟨ht0.k0,ht0.k1,ht0.k2,ht0.k3,ht0.k4,ht0.k5⟩
 go_wp2_with fail
 refine Calls.mono (show Calls _ _ _ _ _ from hckH.out) ?_
 rintro e w1 ⟨rfl,hg1⟩
 clear hckH k0 k1 k2 k3 k4 k5
 have ht1:Hid (TabAt w1 w.heap.size t A ca D cd∧Below w.heap.size w w1):=⟨ht0.gr hg1,hbw0.trans (hg1.below.mono hbw0.size)⟩
 clear ht0 hbw0 hg1
 obtain ⟨E,hE⟩:∃E,errT t=E:=⟨_,rfl⟩
 have hEH:Hid (errT t=E):=hE
 rw[hE]
 clear hE
 cases hq:(E != 0)
 ·have hE0:E=0:=by simpa using hq
  have h0H:Hid (errT t=0):=by show _=_;rw[hEH.out,hE0]
  subst hE0
  clear hEH hq
  have hsz:Hid (t.e.length*40≤140737488355328∧t.e.length≤400):=by have:=(errT_parts h0H.out).2.1;exact ⟨by omega,this⟩
  have hky:=keys_any t A ca D cd w1 hsz.out.1 ht1.out.1.row ht1.out.1.rowC
  have hkyH:Hid _:=hky
  clear hky
  obtain ⟨k0,k1,k2,k3,k4,k5⟩:_∧_∧_∧_∧_∧_:=⟨ht1.out.1.k0,ht1.out.1.k1,ht1.out.1.k2,ht1.out.1.k3,ht1.out.1.k4,ht1.out.1.k5⟩
  go_wp2_with fail
  refine Calls.mono (show Calls _ _ _ _ _ from hkyH.out) ?_
  rintro e w2 ⟨K,kc,rfl,hrk,hb2⟩
  clear hkyH k0 k1 k2 k3 k4 k5
  have ht2:Hid (TabAt w2 w.heap.size t A ca D cd∧Below w.heap.size w w2):=⟨ht1.out.1.below hb2,ht1.out.2.trans (hb2.mono ht1.out.2.size)⟩
  obtain ⟨ks,hks⟩:∃ks,onceL (keysOf t.e)=ks:=⟨_,rfl⟩
  have hksH:Hid (onceL (keysOf t.e)=ks∧RowI w2 K ks):=⟨hks,by rw[←hks];exact hrk⟩
  have hkl:ks.length≤400:=by
   rw[←hks]
   exact Nat.le_trans (onceL_len _) (Nat.le_trans (keysOf_len _) hsz.out.2)
  rw[hks]
  clear hks hrk hb2 ht1
  go_wp2
  go_loopw [5,18] (fun v i wr=>∃(k:Nat) (L:List Itm),k≤ks.length∧i= .int .i64 k∧Hid (L.length=k)∧Hid (L.map Itm.z=(ks.take k).map (fun key=>(rowOf t.e key,1)))∧Hid (OwnT wr w2.heap.size v L∧Below w2.heap.size w2 wr)) (fun _ i _=>ks.length-(intOf i).toNat)
  case atStart=>exact ⟨0,[],by omega,rfl,rfl,by simp[Hid],OwnT.nil _ _,Below.refl _ _⟩
  case round =>
   rename World=>w3
   obtain ⟨k,L,hk,rfl,hLk,hLz,hov⟩:=hrel
   by_cases hlt:k<ks.length
   ·have hltz:(k:Int)<(ks.length:Int):=by omega
    have hrk3:RowI w3 K ks:=hksH.out.2.below hov.out.2
    obtain ⟨bb,off,rfl,hb,hcs⟩:=hrk3.at hlt
    obtain ⟨key,hkey⟩:∃x,ks[k]=x:=⟨_,rfl⟩
    have e0:=hcs k hlt 0 (by omega)
    rw[hkey] at e0
    have e1:w3.cell? ⟨bb,off+k,none⟩=some (.int .i64 key):=by simpa[encI] using e0
    have hst:Hid ((ks.take (k+1)).map (fun key=>(rowOf t.e key,(1:Int)))=(ks.take k).map (fun key=>(rowOf t.e key,1))++[(rowOf t.e key,1)]):=by show _=_;rw[List.take_succ_eq_append_getElem hlt,hkey];simp
    have ht3:Hid (TabAt w3 w.heap.size t A ca D cd):=ht2.out.1.below hov.out.2
    clear hcs e0 hkey hrk3
    go_wp2
    go_loopw [8,24] (fun v i wr=>∃j:Nat,j≤3∧i= .int .i64 j∧Hid (OwnI wr w3.heap.size v ((rowOf t.e key).take (j+1))∧Below w3.heap.size w3 wr)) (fun _ i _=>3-(intOf i).toNat)
    case atStart=>exact ⟨0,by omega,rfl,World.ownsRow_lit w3 #[.int .i64 key] 1 (Nat.le_refl _) (by unfold maxLen;omega) rfl,((Gr.refl _).alloc _).below⟩
    case round =>
     rename World=>w4
     obtain ⟨j,hj,rfl,how⟩:=hrel
     have ht4:Hid (TabAt w4 w.heap.size t A ca D cd):=ht3.out.below how.out.2
     by_cases hj3:j<3
     ·have hj3z:(j:Int)<3:=by omega
      obtain ⟨k0,k1,k2,k3,k4,k5⟩:_∧_∧_∧_∧_∧_:=⟨ht4.out.k0,ht4.out.k1,ht4.out.k2,ht4.out.k3,ht4.out.k4,ht4.out.k5⟩
      have hvl:=values_any t A ca D cd key j w4 hsz.out.1 ht4.out.row ht4.out.rowC
      have hvlH:Hid _:=hvl
      clear hvl
      go_wp2_with fail
      refine Calls.mono (show Calls _ _ _ _ _ from hvlH.out) ?_
      rintro e w5 ⟨V,vc,rfl,hrv,hb5⟩
      clear hvlH k0 k1 k2 k3 k4 k5
      have hgt:=greatest_any (onceL (valsOf key j t.e)) V vc w5 (by have h1:=onceL_len (valsOf key j t.e);have h2:=valsOf_len key j t.e;have h3:=hsz.out.2;unfold maxLen;omega) hrv
      have hgtH:Hid _:=hgt
      clear hgt hrv
      go_wp2_with fail
      refine Calls.mono (show Calls _ _ _ _ _ from hgtH.out) ?_
      rintro e w6 ⟨rfl,hg6⟩
      clear hgtH
      obtain ⟨gv,hgv⟩:∃g,grt (onceL (valsOf key j t.e))=g:=⟨_,rfl⟩
      have hst2:Hid ((rowOf t.e key).take (j+1+1)=(rowOf t.e key).take (j+1)++[gv]):=by show _=_;rw[rowOf_step _ _ hj3,hgv]
      rw[hgv]
      obtain ⟨M,hM⟩:∃M,(rowOf t.e key).take (j+1)=M:=⟨_,rfl⟩
      have hMl:M.length≤4:=by rw[←hM];exact rowOf_take _ _ _
      rw[hM] at how hst2
      have hb6:Below w4.heap.size w4 (w6.alloc (.cells #[.int .i64 gv] 3)):=hb5.trans ((hg6.trans ((Gr.refl _).alloc _)).below.mono hb5.size)
      have hoX:Hid (OwnI (w6.alloc (.cells #[.int .i64 gv] 3)) w3.heap.size u8 M∧RowI (w6.alloc (.cells #[.int .i64 gv] 3)) (some ⟨w6.heap.size,0,none⟩) [gv]∧M.length+1≤maxLen∧(M.length+1)*8≤140737488355328∧Below w3.heap.size w3 (w6.alloc (.cells #[.int .i64 gv] 3))):=⟨how.out.1.below hb6,rowNewI rfl gv 3,by unfold maxLen;omega,by omega,how.out.2.trans (hb6.mono how.out.2.size)⟩
      clear hM hMl hgv hb5 hg6 hb6 how
      go_wp2_with (at_builtin;refine wpList_append_i _ rfl (.tmp 27) (.tmp 33) rfl w3.heap.size u8 M [gv] (some ⟨w6.heap.size,0,none⟩) 1 rfl rfl hoX.out.1 hoX.out.2.1 (fun h=>by cases h) hoX.out.2.2.1 hoX.out.2.2.2.1 hoX.out.2.2.2.2.size ?_;intro v7 w7 hown7 hg7)
      have hfin7:Hid (OwnI w7 w3.heap.size v7 (M++[gv])∧Below w3.heap.size w3 w7):=⟨hown7,hoX.out.2.2.2.2.trans (OwnG.grown_below hoX.out.1 hg7 hoX.out.2.2.2.2.size)⟩
      clear hown7 hg7 hoX
      go_roundw
      case rel=>exact ⟨j+1,by omega,by go_num,by rw[hst2.out];exact hfin7⟩
      case measure=>simp[intOf];omega
     ·have hj3z:¬(j:Int)<3:=by omega
      obtain rfl:j=3:=by omega
      have hrw:OwnI w4 w3.heap.size u8 (rowOf t.e key):=how.out.1
      obtain ⟨C,c,rfl,hC,hrow,hlt4⟩:=OwnG.row encI_len hrw
      have hwX:Below w3.heap.size w3 (w4.alloc (.cells #[.slice C (rowOf t.e key).length c,.int .i64 1] 90)):=how.out.2.alloc how.out.2.size _
      have hoX:Hid (OwnT (w4.alloc (.cells #[.slice C (rowOf t.e key).length c,.int .i64 1] 90)) w2.heap.size u5 L∧Apart (w4.alloc (.cells #[.slice C (rowOf t.e key).length c,.int .i64 1] 90)) w2.heap.size u5.ownBlock ⟨C,c,rowOf t.e key,1⟩∧(L.length+1≤maxLen∧(L.length+1)*32≤140737488355328)∧w2.heap.size≤(w4.alloc (.cells #[.slice C (rowOf t.e key).length c,.int .i64 1] 90)).heap.size∧Below w2.heap.size w2 (w4.alloc (.cells #[.slice C (rowOf t.e key).length c,.int .i64 1] 90))):=by
       have hsz3:=hov.out.2.size
       have hLl:=hLk.out
       have hbX:=hov.out.2.trans (hwX.mono hsz3)
       refine ⟨hov.out.1.below hwX,⟨hrow.gr ((Gr.refl _).alloc _),by show (rowOf t.e key).length≤maxLen;rw[rowOf_len];unfold maxLen;omega,hC,fun a ha=>⟨?_,?_,?_⟩⟩,⟨?_,?_⟩,hbX.size,hbX⟩
       ·have h1:=(hlt4 a ha).1;omega
       ·have h1:=(hlt4 a ha).2;simp;omega
       ·intro e
        have h1:=(World.ownsRow.lt hov.out.1.own a.block e).2
        have h2:=(hlt4 a ha).1
        omega
       ·unfold maxLen;omega
       ·omega
      obtain ⟨R,hR⟩:∃R,rowOf t.e key=R:=⟨_,rfl⟩
      rw[hR] at hoX hst ⊢
      clear hrw hrow hC hlt4 hwX how hR
      go_wp2_with (at_builtin;refine wpList_append_t _ rfl (.tmp 36) (.tmp 39) rfl w2.heap.size u5 L ⟨C,c,R,1⟩ ⟨w4.heap.size,0,none⟩ 1 rfl rfl hoX.out.1 (rowNewT rfl ⟨C,c,R,1⟩ 90) hoX.out.2.1 hoX.out.2.2.1.1 hoX.out.2.2.1.2 hoX.out.2.2.2.1 ?_;intro v8 w8 hown8 hb8)
      have hov3:Hid (OwnT w8 w2.heap.size v8 (L++[⟨C,c,R,1⟩])∧Below w2.heap.size w2 w8):=⟨hown8,hoX.out.2.2.2.2.trans hb8⟩
      clear hown8 hb8 hoX
      go_roundw
      case rel =>
       refine ⟨k+1,L++[⟨C,c,R,1⟩],by omega,by go_num,?_,?_,hov3⟩
       ·show _=_;simp[hLk.out]
       ·show _=_;rw[hst.out,List.map_append,hLz.out];rfl
      case measure=>simp[intOf];omega
   ·have hltz:¬(k:Int)<(ks.length:Int):=by omega
    have hke:ks.take k=ks:=List.take_of_length_le (by omega)
    have hfin:Hid (L.map Itm.z=ofR t):=by
     show _=_
     rw[hLz.out,hke,ofR_ok h0H.out]
     unfold ofL
     rw[hksH.out.1]
    obtain ⟨A2,cap2,hv2,hn2,hit,hA2⟩:=hov.out.1.items
    have hfin2:Hid (Items w3 A2 L∧NilC A2 L.length cap2∧Below w.heap.size w w3∧NewT w.heap.size A2 L):=⟨hit,hn2,ht2.out.2.trans (hov.out.2.mono ht2.out.2.size),fun a ha=>Nat.le_trans ht2.out.2.size (hA2 a ha).1,fun x hx a ha=>Nat.le_trans ht2.out.2.size ((hov.out.1.each x hx).own a ha).1⟩
    subst hv2
    clear hke hit hn2 hA2 hov
    go_wp2
    go_ret2
    exact ⟨L,A2,cap2,by rw[h0H.out];rfl,hfin.out,hfin2.out.1,hfin2.out.2.1,hfin2.out.2.2⟩
 ·have hE0:E≠0:=by simpa using hq
  have hfin:Hid (ofR t=[]):=ofR_no (by rw[hEH.out];exact hE0)
  clear hE0
  go_wp2
  go_ret2
  exact ⟨[],none,0,by rw[hEH.out];rfl,by rw[hfin.out];rfl,⟨Or.inl rfl,fun x hx=>by cases hx⟩,fun _=>rfl,ht1.out.2,NewT.none _⟩
end Go.Proofs.YtkadjjmkokhldaaGreat

namespace Go.Proofs.YtkadjjmkokhldaaGreat

/-- A table's set: right, of width 4, at most 50 rows, each once. -/
structure TS (z:List Zit):Prop where
 ok:errZ z=0
 wide:Wide 4 z
 len:z.length≤50
 one:∀x∈z,x.2=1
theorem TS.nil:TS []:=⟨by decide,fun x hx=>(by cases hx),by simp,fun x hx=>(by cases hx)⟩
theorem rising_len:∀(l:List Int) (lo hi:Int),l.Pairwise (· < ·)→(∀x∈l,lo≤x∧x≤hi)→(l.length:Int)≤max 0 (hi-lo+1)
 | [],lo,hi,_,_=>by simp;omega
 | x::l,lo,hi,hp,hb=>by
  have h1:=List.pairwise_cons.1 hp
  have hx:=hb x (by simp)
  have:=rising_len l (x+1) hi h1.2 fun y hy=>⟨by have:=h1.1 y hy;omega,(hb y (by simp[hy])).2⟩
  simp only[List.length_cons]
  omega
theorem TS.of {t:Tab} (h:errT t=0):TS (ofR t):=by
 have e:ofR t=ofL t:=by unfold ofR;rw[if_pos h]
 rw[e]
 refine ⟨of_ok h,fun x hx=> ?_,?_,fun x hx=> ?_⟩
 ·unfold ofL at hx
  obtain ⟨key,_,rfl⟩:=List.mem_map.1 hx
  rfl
 ·unfold ofL
  rw[List.length_map]
  have:=rising_len (onceL (keysOf t.e)) 0 49 (once_good _).1 fun x hx=>key_ok h (((once_good _).2 _).1 hx)
  omega
 ·unfold ofL at hx
  obtain ⟨key,_,rfl⟩:=List.mem_map.1 hx
  rfl
theorem TS.wt {z:List Zit} (h:TS z) (r:List Int):0≤wt z r∧wt z r≤1:=by
 by_cases h0:Proofs.YtkadjjmkokhldaaGreat.wt z r=0
 ·omega
 ·obtain ⟨x,hx,e⟩:=wt_some h0
  have:=((errZ_iff z).1 h.ok).2.2.wt hx
  rw[e,h.one x hx] at this
  omega
theorem TS.row {z:List Zit} (h:TS z) {x:Zit} (hx:x∈z):okR x.1=true:=(okZ_parts (((errZ_iff z).1 h.ok).2.1 x hx)).1
theorem dif_wt (a b:List Zit) (r:List Int):wt (difL a b) r=wt a r-wt b r:=by
 unfold difL
 rw[(totL_is _).same,wt_dif]
theorem okW_small {n:Int} (h: -1≤n∧n≤1):okW n=true:=by
 simp only[okW,inB,Bool.and_eq_true,decide_eq_true_eq];omega
theorem TS.mem {a b:List Zit} {x:Zit} (hx:x∈difL a b):∃y∈a++b,y.1=x.1:=by
 obtain ⟨y,hy,e⟩:=(totL_is (a++negP b)).row hx
 rcases List.mem_append.1 hy with k|k
 ·exact ⟨y,List.mem_append.2 (Or.inl k),e⟩
 ·obtain ⟨z,hz,e2⟩:=mem_neg k
  exact ⟨z,List.mem_append.2 (Or.inr hz),e2.trans e⟩
theorem dif_len {a b:List Zit} (ha:TS a) (hb:TS b):(difL a b).length≤100:=by
 have:=totL_len (a++negP b)
 have h1:=ha.len
 have h2:=hb.len
 have h3:(negP b).length=b.length:=by unfold negP;exact List.length_map _
 unfold difL
 rw[List.length_append,h3] at this
 omega
/-- The difference of two tables' sets is a right set, of width 4. -/
theorem dif_ok {a b:List Zit} (ha:TS a) (hb:TS b):errZ (difL a b)=0∧Wide 4 (difL a b):=by
 have hl:=dif_len ha hb
 have ht:=totL_is (a++negP b)
 refine ⟨(errZ_iff _).2 ⟨by omega,fun x hx=> ?_,ht.rise⟩,fun x hx=> ?_⟩
 ·obtain ⟨y,hy,e⟩:=TS.mem hx
  have hr:okR x.1=true:=by
   rw[←e]
   rcases List.mem_append.1 hy with k|k
   ·exact ha.row k
   ·exact hb.row k
  have hw:okW x.2=true:=by
   have:=ht.rise.wt hx
   rw[←this,ht.same,wt_dif]
   have h1:=ha.wt x.1
   have h2:=hb.wt x.1
   exact okW_small (by omega)
  have hz:=ht.noz x hx
  unfold okZ
  rw[hr,hw]
  simpa using hz
 ·obtain ⟨y,hy,e⟩:=TS.mem hx
  rw[←e]
  rcases List.mem_append.1 hy with k|k
  ·exact ha.wide y k
  ·exact hb.wide y k
theorem add_of {a b c:List Zit} (ha:errZ a=0) (hb:errZ b=0) (hc:errZ c=0) (h:∀r,wt c r=wt a r+wt b r):addE a b=0∧addL a b=c:=by
 have hC:=(errZ_iff c).1 hc
 have e2:totL (a++b)=c:=(totL_is _).uniq (⟨hC.2.2,okZ_noz hC.2.1,fun _=>rfl⟩:IsTot c c) fun r=>by rw[wt_append,h]
 have e1:totE (a++b)=0:=by
  unfold totE
  rw[e2,if_pos]
  rw[List.all_eq_true]
  intro x hx
  exact (okZ_parts (hC.2.1 x hx)).2.1
 have e3:addE a b=0:=by
  unfold addE
  rw[if_pos ha,if_pos hb,if_pos e1,if_neg (by rw[e2];omega)]
 exact ⟨e3,by unfold addL;rw[if_pos e3,e2]⟩
/-- now less before. -/
theorem add_minus {a b:List Zit} (ha:TS a) (hb:TS b):addE a (negL b)=0∧addL a (negL b)=difL a b:=by
 have e:negL b=negP b:=by unfold negL;rw[if_pos hb.ok];rfl
 rw[e]
 refine add_of ha.ok (negL_ok hb.ok) (dif_ok ha hb).1 fun r=> ?_
 rw[dif_wt]
 unfold negP
 rw[wt_neg]
 omega
/-- What was missed, and what comes. -/
theorem add_missed {k z z':List Zit} (hk:TS k) (hz:TS z) (hz':TS z'):addE (difL z k) (difL z' z)=0∧addL (difL z k) (difL z' z)=difL z' k :=
 add_of (dif_ok hz hk).1 (dif_ok hz' hz).1 (dif_ok hz' hk).1 fun r=>by rw[dif_wt,dif_wt,dif_wt];omega
/-- What is kept, and what was missed. -/
theorem add_kept {k z:List Zit} (hk:TS k) (hz:TS z):addE k (difL z k)=0∧addL k (difL z k)=z :=
 add_of hk.ok (dif_ok hz hk).1 hz.ok fun r=>by rw[dif_wt];omega
theorem dif_self (z:List Zit):difL z z=[]:=by
 have h:=totL_is (z++negP z)
 refine h.uniq (m:=[]) (T:=[]) ⟨List.Pairwise.nil,fun x hx=>(by cases hx),fun r=>rfl⟩ fun r=> ?_
 rw[wt_dif]
 show _=0
 omega
theorem dif_none {z:List Zit} (h:errZ z=0):difL z []=z:=by
 unfold difL negP
 rw[List.map_nil,List.append_nil]
 exact tot_self h
theorem fed_missed {q:List Stp} {k l z y:List Zit} (hk:TS k) (hl:TS l) (hz:TS z) (hy:TS y):fedE q k l (difL z k) (difL y l)=plnE q z y:=by
 unfold fedE
 rw[if_pos (tblE_ok (dif_ok hz hk).1 (dif_ok hy hl).1 (dif_ok hz hk).2 (dif_ok hy hl).2),if_pos (add_kept hk hz).1,if_pos (add_kept hl hy).1,(add_kept hk hz).2,(add_kept hl hy).2]
end Go.Proofs.YtkadjjmkokhldaaGreat

namespace Go.Proofs.YtkadjjmkokhldaaGreat
open Go.RowKit Go.Sort Go.Maps

/-- All of a set lies below a block. -/
def SlLt (N:Nat) (s:Sl):Prop:=(∀a,s.A=some a→a.block<N)∧∀x∈s.l,∀a,x.p=some a→a.block<N
/-- The first set lies apart from those behind it. -/
def SepS (ss:List Sl):Prop:=∀s0 t,ss=s0::t→∃N,SlLt N s0∧∀s∈t,NewT N s.A s.l
/-- What is carried through the steps. -/
structure AInv (w wr:World) (a b:List Zit) (q:List Stp) (j:Nat) (u:Value) (ss:List Sl) (S:List (List Zit)) (ah:List Int):Prop where
 own:OwnG encS 1 62 wr w.heap.size u ss
 each:∀s∈ss,Lv wr s.A s.cap s.l∧Far u.ownBlock s
 z:ss.map (fun s=>s.l.map Itm.z)=S
 len:ss.length=j
 ahd:Ahd S ah
 wid:(widsF (q.drop j) ah).isSome=true
 e:allE a b (q.drop j) S=allE a b q []
 f:allF a b (q.drop j) S=allF a b q []
 bel:Below w.heap.size w wr
 nw:∀s∈ss,NwT wr s.cap w.heap.size s.A s.l
 sep:∀s0 t,ss=s0::t→∃N,N≤wr.heap.size∧SlLt N s0∧∀s∈t,NewT N s.A s.l

theorem NwT.grown {w w':World} {k n:Nat} {C:Option Addr} {L:List Itm} {row:Option Nat} (h:NwT w k n C L) (q:w.grownBy w' row) (h1:∀g,row=some g→∃cur T,w.heap[g]? = some (.cells cur T (0,0))∧T≠3) (h2:∀g,row=some g→∃cur T,w.heap[g]? = some (.cells cur T (0,0))∧T≠90):NwT w' k n C L:=⟨h.new,h.arr.grown q h2,h.rows.grown q h1⟩
theorem AInv.step {w wr WX w2 w3:World} {a b:List Zit} {q:List Stp} {j:Nat} {u v3:Value} {ss:List Sl} {S:List (List Zit)} {ah:List Int} {s:Stp} {L:List Itm} {C:Option Addr} {k:Nat} {o:Obj} (h:AInv w wr a b q j u ss S ah) (hs:q.drop j=s::q.drop (j+1)) (ha:Wide 4 a) (hb:Wide 4 b) (hT:tellE s a b S=0) (hgX:Gr wr WX) (hz:L.map Itm.z=tellF s a b S) (hL:Lv w2 C k L) (hB:Below WX.heap.size WX w2) (hN:NwT w2 k WX.heap.size C L)
  (hown:OwnG encS 1 62 w3 w.heap.size v3 (ss++[⟨C,k,L⟩])) (hg:(w2.alloc o).grownBy w3 u.ownBlock) (hloc:v3.ownBlock=u.ownBlock∨v3.ownBlock=some (w2.alloc o).heap.size):AInv w w3 a b q (j+1) v3 (ss++[⟨C,k,L⟩]) (S++[tellF s a b S]) (ah++[widW s ah]):=by
 have hw:=widsF_cons (by rw[←hs];exact h.wid)
 have hr:=tell_right hw.1 h.ahd ha hb hT
 have hgA:Gr w2 (w2.alloc o):=(Gr.refl _).alloc _
 have hb2:Below wr.heap.size wr (w2.alloc o):=hgX.below.trans ((hB.trans (hgA.below.mono hB.size)).mono hgX.size)
 have hlt:∀g,u.ownBlock=some g→g<wr.heap.size∧w.heap.size≤g:=fun g e=>⟨(World.ownsRow.lt h.own g e).2,(World.ownsRow.lt h.own g e).1⟩
 have hfar:∀(x:Sl),Lv (w2.alloc o) x.A x.cap x.l→Far u.ownBlock x→Far v3.ownBlock x:=fun x hx hf=>by
  rcases hloc with e|e
  ·rw[e];exact hf
  ·rw[e];exact Far.top hx (Nat.le_refl _)
 have he:allE a b (q.drop j) S=allE a b (q.drop (j+1)) (S++[tellF s a b S]):=by
  rw[hs]
  show (if tellE s a b S=0 then _ else _)=_
  rw[if_pos hT]
 have hf:allF a b (q.drop j) S=allF a b (q.drop (j+1)) (S++[tellF s a b S]):=by
  rw[hs]
  show (if tellE s a b S=0 then _ else _)=_
  rw[if_pos hT]
 refine ⟨hown,fun x hx=> ?_,by rw[List.map_append,h.z];simp[hz],by simp[h.len],h.ahd.snoc hr.1 hr.2,hw.2,by rw[←he];exact h.e,by rw[←hf];exact h.f,?_,?_,?_⟩
 ·rcases List.mem_append.1 hx with e|e
  ·have h1:=h.each x e
   have h2:=h1.1.below hb2
   exact ⟨h2.grown hg h1.2,hfar x h2 h1.2⟩
  ·rw[List.mem_singleton.1 e]
   have h2:Lv (w2.alloc o) C k L:=hL.gr hgA
   have hf2:Far u.ownBlock ⟨C,k,L⟩:=Far.new (n:=WX.heap.size) hN.new (fun g e2=>Nat.lt_of_lt_of_le (hlt g e2).1 hgX.size)
   exact ⟨Lv.grown (s:=⟨C,k,L⟩) h2 hg hf2,hfar ⟨C,k,L⟩ h2 hf2⟩
 ·exact (h.bel.trans (hb2.mono h.bel.size)).grown hg (Nat.le_trans h.bel.size hb2.size) (fun g e=>(hlt g e).2)
 ·intro x hx
  have ho:=h.own.below hb2
  rcases List.mem_append.1 hx with e|e
  ·exact ((h.nw x e).below hb2).grown hg (ho.typed (by decide)) (ho.typed (by decide))
  ·rw[List.mem_singleton.1 e]
   exact ((hN.mono (Nat.le_trans h.bel.size hgX.size)).below hgA.below).grown hg (ho.typed (by decide)) (ho.typed (by decide))
 ·intro s0 t hst
  have ho:=h.own.below hb2
  have hsz:wr.heap.size≤w3.heap.size:=Nat.le_trans hb2.size hg.size
  cases ss with
  | nil =>
   have h1:s0=⟨C,k,L⟩∧t=[]:=by simpa using hst.symm
   obtain ⟨rfl,rfl⟩:=h1
   have h2:=(hN.below hgA.below).grown hg (ho.typed (by decide)) (ho.typed (by decide))
   exact ⟨w3.heap.size,Nat.le_refl _,⟨h2.arr.lt,fun x hx=>(h2.rows x hx).1.lt⟩,fun s hs=>by cases hs⟩
  | cons y r =>
   have h1:y=s0∧r++[⟨C,k,L⟩]=t:=by simpa using hst
   obtain ⟨rfl,rfl⟩:=h1
   obtain ⟨N,hN1,hN2,hN3⟩:=h.sep y r rfl
   refine ⟨N,Nat.le_trans hN1 hsz,hN2,fun s hs=> ?_⟩
   rcases List.mem_append.1 hs with e|e
   ·exact hN3 s e
   ·rw[List.mem_singleton.1 e]
    exact hN.new.mono (Nat.le_trans hN1 hgX.size)
theorem rowNewS {W:World} {n:Nat} (hn:W.heap.size=n) (x:Sl) (T:TypeId):RowG encS 1 (W.alloc (.cells #[.slice x.A x.l.length x.cap] T)) (some ⟨n,0,none⟩) [x]:=by
 subst hn
 refine Or.inr ⟨W.heap.size,0,rfl,by simp,fun j hj i hi=> ?_⟩
 obtain rfl:j=0:=by simp at hj;omega
 obtain rfl:i=0:=by omega
 exact box1 (w:=W) (Gr.refl _) (j:=0) rfl

/-- What All hands back: memory of its own, whose room may be written; the first set apart from the others. -/
structure NewS (w:World) (n:Nat) (C:Option Addr) (k:Nat) (ss:List Sl):Prop where
 own:OwnG encS 1 62 w n (.slice C ss.length k) ss
 each:∀s∈ss,NwT w s.cap n s.A s.l
 sep:SepS ss
theorem NewS.none (w:World) (n:Nat):NewS w n none 0 []:=⟨OwnG.nil _ _ _ _ _,fun s hs=>(by cases hs),fun s0 t h=>by cases h⟩

set_option maxRecDepth 100000 in
set_option maxHeartbeats 1000000 in
theorem all_new (q:List Stp) (QA:Option Addr) (cq:Nat) (a b:List Itm) (A B:Option Addr) (ca cb:Nat) (w:World) (hl:q.length≤maxLen) (hq:Stps w QA q) (ha:Lv w A ca a) (hb:Lv w B cb b) :
  Calls Tryz.prog 88 #[.slice QA q.length cq,.slice A a.length ca,.slice B b.length cb] w fun e w'=>∃(ss:List Sl) (C:Option Addr) (k:Nat),e= .returned (.tuple #[.slice C ss.length k,.int .i64 (plnE q (a.map Itm.z) (b.map Itm.z))])∧Sts w' C ss (plnF q (a.map Itm.z) (b.map Itm.z))∧Below w.heap.size w w'∧NewS w' w.heap.size C k ss:=by
 obtain ⟨E1,hE1⟩:∃E,errQ q=E:=⟨_,rfl⟩
 obtain ⟨E2,hE2⟩:∃E,tblE (a.map Itm.z) (b.map Itm.z)=E:=⟨_,rfl⟩
 have hC0:=checkQV (A:=QA) (ca:=cq) hE1 hl hq
 have hC:Hid _:=hC0
 obtain ⟨P,hP⟩:∃P,plnE q (a.map Itm.z) (b.map Itm.z)=P:=⟨_,rfl⟩
 rw[hP]
 have hH:Hid (Stps w QA q∧Lv w A ca a∧Lv w B cb b∧errQ q=E1∧plnE q (a.map Itm.z) (b.map Itm.z)=P∧tblE (a.map Itm.z) (b.map Itm.z)=E2):=⟨hq,ha,hb,hE1,hP,hE2⟩
 clear hC0 hq ha hb hE1 hE2 hP hl
 go_enter Tryz.func88,Tryz.ntmps88
 go_wp2_with fail
 refine Calls.mono (show Calls _ _ _ _ _ from hC.out) ?_
 rintro e w0 ⟨rfl,hb0⟩
 have hbZ:Hid (Below w.heap.size w w0∧Stps w0 QA q∧Lv w0 A ca a∧Lv w0 B cb b):=⟨hb0,hH.out.1.below hb0,hH.out.2.1.below hb0,hH.out.2.2.1.below hb0⟩
 clear hb0 hC
 cases h0:(E1 != 0)
 rotate_left
 focus
  have hfin:Hid (E1=P∧plnF q (a.map Itm.z) (b.map Itm.z)=[]):=by
   have hn:¬E1=0:=by simpa using h0
   have hp:P=E1:=by rw[←hH.out.2.2.2.2.1];unfold plnE;rw[ahd_tbl,if_neg (show ¬errQ q=0 by rw[hH.out.2.2.2.1];exact hn),if_neg (show ¬errQ q=0 by rw[hH.out.2.2.2.1];exact hn)];exact hH.out.2.2.2.1
   refine ⟨hp.symm,?_⟩
   unfold plnF;rw[if_neg (by rw[hH.out.2.2.2.2.1,hp];exact hn)]
  go_wp2
  go_ret2
  exact ⟨[],none,0,by rw[←hfin.out.1];rfl,⟨Or.inl rfl,fun s hs=>(by cases hs),by rw[hfin.out.2];rfl⟩,hbZ.out.1,NewS.none _ _⟩
 have hE10:Hid (errQ q=0):=by show _=_;rw[hH.out.2.2.2.1];simpa using h0
 have hT0:=tables_any a b A B ca cb w0 hbZ.out.2.2.1 hbZ.out.2.2.2
 rw[hH.out.2.2.2.2.2] at hT0
 have hT:Hid _:=hT0
 clear hT0
 go_wp2_with fail
 refine Calls.mono (show Calls _ _ _ _ _ from hT.out) ?_
 rintro e wt0 ⟨rfl,hgt⟩
 have hbY:Hid (Below w.heap.size w wt0∧Stps wt0 QA q∧Lv wt0 A ca a∧Lv wt0 B cb b):=⟨hbZ.out.1.trans (hgt.below.mono hbZ.out.1.size),hbZ.out.2.1.gr hgt,hbZ.out.2.2.1.gr hgt,hbZ.out.2.2.2.gr hgt⟩
 clear hgt hT hbZ
 cases h1:(E2 != 0)
 ·have hE0:ahdE q (a.map Itm.z) (b.map Itm.z)=0:=by rw[ahd_tbl,if_pos hE10.out,hH.out.2.2.2.2.2];simpa using h1
  have hQ:Hid (ahdE q (a.map Itm.z) (b.map Itm.z)=0∧P=allE (a.map Itm.z) (b.map Itm.z) q []):=⟨hE0,by rw[←hH.out.2.2.2.2.1];unfold plnE;rw[if_pos hE0]⟩
  have h8:q.length≤8:=(errQ_wids (ahdE_parts hE0).1).2.1
  clear hE0
  obtain ⟨w1,hWX⟩:∃WX,(wt0.alloc (.cells #[.slice A a.length ca,.slice B b.length cb] 69))=WX:=⟨_,rfl⟩
  have hgX:Hid (Gr wt0 w1):=by show Gr _ _;rw[←hWX];exact (Gr.refl _).alloc _
  have s0:w1.cell? ⟨wt0.heap.size,0,none⟩=some (.slice A a.length ca):=by rw[←hWX];exact box1 (w:=wt0) (Gr.refl _) rfl
  have s1:w1.cell? ⟨wt0.heap.size,1,none⟩=some (.slice B b.length cb):=by rw[←hWX];exact box1 (w:=wt0) (Gr.refl _) rfl
  have hst1:wt0.heap.size<w1.heap.size:=by rw[←hWX];simp
  have hbW:Hid (Below w.heap.size w w1∧Stps w1 QA q∧Lv w1 A ca a∧Lv w1 B cb b):=⟨hbY.out.1.trans (hgX.out.below.mono hbY.out.1.size),hbY.out.2.1.gr hgX.out,hbY.out.2.2.1.gr hgX.out,hbY.out.2.2.2.gr hgX.out⟩
  clear hgX hbY
  go_wp2
  clear hWX
  go_loopw [11,32] (fun u i wr=>∃(j:Nat) (ss:List Sl) (S:List (List Zit)) (ah:List Int),j≤q.length∧i= .int .i64 j∧Hid (AInv w1 wr (a.map Itm.z) (b.map Itm.z) q j u ss S ah)) (fun _ i _=>q.length-(intOf i).toNat)
  case atStart=>exact ⟨0,[],[],[],Nat.zero_le _,rfl,show AInv _ _ _ _ _ _ _ _ _ _ from ⟨OwnG.nil _ _ _ _ _,fun s hs=>(by cases hs),rfl,rfl,Ahd.nil,by rw[List.drop_zero];exact (errQ_wids (ahdE_parts hQ.out.1).1).2.2,by rw[List.drop_zero],by rw[List.drop_zero],Below.refl _ _,fun s hs=>(by cases hs),fun s0 t h=>(by cases h)⟩⟩
  case round =>
   obtain ⟨j,ss,S,ah,hj,rfl,hR⟩:=hrel
   obtain ⟨GA,gc,hu,hgn,hrow,_⟩:=hR.out.own.row encS_len
   have hrwH:Hid (RowG encS 1 wr GA ss):=hrow
   subst hu
   clear hrow
   by_cases hlt:j<q.length
   ·have hltz:(j:Int)<(q.length:Int):=by omega
    have hI:Hid (Stps wr QA q):=hbW.out.2.1.below hR.out.bel
    obtain ⟨bb,off,rfl,hb,hcs⟩:=hI.out.at hlt
    obtain ⟨s,hs⟩:∃s,q[j]=s:=⟨_,rfl⟩
    have hsm:Hid (s∈q):=by show _∈_;rw[←hs];exact List.getElem_mem hlt
    have hdr:Hid (q.drop j=s::q.drop (j+1)):=by show _=_;rw[←hs];exact List.drop_eq_getElem_cons hlt
    rw[hs] at hcs
    have m0:wr.cell? ⟨bb,off+j*7,none⟩=some (.int .i64 s.k):=hcs 0 (by omega)
    have m1:wr.cell? ⟨bb,off+j*7+1,none⟩=some (.int .i64 s.a):=hcs 1 (by omega)
    have m2:wr.cell? ⟨bb,off+j*7+2,none⟩=some (.int .i64 s.b):=hcs 2 (by omega)
    have m3:wr.cell? ⟨bb,off+j*7+3,none⟩=some (.int .i64 s.c):=hcs 3 (by omega)
    have m4:wr.cell? ⟨bb,off+j*7+4,none⟩=some (.int .i64 s.o):=hcs 4 (by omega)
    have m5:wr.cell? ⟨bb,off+j*7+5,none⟩=some (.int .i64 s.v):=hcs 5 (by omega)
    have m6:wr.cell? ⟨bb,off+j*7+6,none⟩=some (.slice s.p s.l.length s.n):=hcs 6 (by omega)
    have hw:=widsF_cons (by rw[←hdr.out];exact hR.out.wid)
    obtain ⟨WX,hWX⟩:∃WX,(wr.alloc (.cells #[.int .i64 s.k,.int .i64 s.a,.int .i64 s.b,.int .i64 s.c,.int .i64 s.o,.int .i64 s.v,.slice s.p s.l.length s.n] 48))=WX:=⟨_,rfl⟩
    have hgX:Hid (Gr wr WX):=by show Gr _ _;rw[←hWX];exact (Gr.refl _).alloc _
    have hbX:Hid (Below w1.heap.size w1 WX):=hR.out.bel.trans (hgX.out.below.mono hR.out.bel.size)
    obtain ⟨T,hT⟩:∃T,tellE s (a.map Itm.z) (b.map Itm.z) S=T:=⟨_,rfl⟩
    have hC0:=tellV (sc:=gc) hw.1 hR.out.ahd (Sts.gr ⟨hrwH.out,fun s hs=>(hR.out.each s hs).1,hR.out.z⟩ hgX.out) (hbW.out.2.2.1.below hbX.out) (hbW.out.2.2.2.below hbX.out) ((hI.out.each s hsm.out).1.gr hgX.out)
    rw[hT] at hC0
    have hC:Hid _:=hC0
    have hTH:Hid (tellE s (a.map Itm.z) (b.map Itm.z) S=T):=hT
    have x0:WX.cell? ⟨wr.heap.size,0,none⟩=some (.int .i64 s.k):=by rw[←hWX];exact box1 (w:=wr) (Gr.refl _) rfl
    have x1:WX.cell? ⟨wr.heap.size,1,none⟩=some (.int .i64 s.a):=by rw[←hWX];exact box1 (w:=wr) (Gr.refl _) rfl
    have x2:WX.cell? ⟨wr.heap.size,2,none⟩=some (.int .i64 s.b):=by rw[←hWX];exact box1 (w:=wr) (Gr.refl _) rfl
    have x3:WX.cell? ⟨wr.heap.size,3,none⟩=some (.int .i64 s.c):=by rw[←hWX];exact box1 (w:=wr) (Gr.refl _) rfl
    have x4:WX.cell? ⟨wr.heap.size,4,none⟩=some (.int .i64 s.o):=by rw[←hWX];exact box1 (w:=wr) (Gr.refl _) rfl
    have x5:WX.cell? ⟨wr.heap.size,5,none⟩=some (.int .i64 s.v):=by rw[←hWX];exact box1 (w:=wr) (Gr.refl _) rfl
    have x6:WX.cell? ⟨wr.heap.size,6,none⟩=some (.slice s.p s.l.length s.n):=by rw[←hWX];exact box1 (w:=wr) (Gr.refl _) rfl
    have z0:WX.cell? ⟨wt0.heap.size,0,none⟩=some (.slice A a.length ca):=(hbX.out.cell (p:=⟨wt0.heap.size,0,none⟩) hst1).trans s0
    have z1:WX.cell? ⟨wt0.heap.size,1,none⟩=some (.slice B b.length cb):=(hbX.out.cell (p:=⟨wt0.heap.size,1,none⟩) hst1).trans s1
    clear hC0 hcs hs hw hT
    cases hq:(T != 0)
    ·have hT0:Hid (tellE s (a.map Itm.z) (b.map Itm.z) S=0):=by show _=_;rw[hTH.out];simpa using hq
     have hj8:Hid (ss.length=j):=hR.out.len
     go_wp2_with (first|(go_at_call 114;(refine Calls.mono (show Calls _ _ _ _ _ from hC.out) ?_);rintro e w2 ⟨L,C,k,rfl,h1,h2,h3,h4⟩;have hTl:Hid (L.map Itm.z=tellF s (a.map Itm.z) (b.map Itm.z) S∧Lv w2 C k L∧Below WX.heap.size WX w2∧NwT w2 k WX.heap.size C L):=⟨h1,h2,h3,h4⟩;have hoX:Hid (OwnG encS 1 62 (w2.alloc (.cells #[.slice C L.length k] 62)) w1.heap.size (.slice GA ss.length gc) ss∧ss.length+1≤maxLen∧(ss.length+1)*24≤140737488355328∧w1.heap.size≤(w2.alloc (.cells #[.slice C L.length k] 62)).heap.size):=⟨((hR.out.own.gr hgX.out).below h3).gr ((Gr.refl _).alloc _),by have:=hj8.out;unfold maxLen;omega,by have:=hj8.out;omega,Nat.le_trans hbX.out.size (Nat.le_trans h3.size (by simp))⟩;clear h1 h2 h3 h4)|(at_builtin;refine wpList_append_s _ rfl (.tmp 46) (.tmp 48) rfl w1.heap.size (.slice GA ss.length gc) ss ⟨C,k,L⟩ ⟨w2.heap.size,0,none⟩ 1 rfl rfl hoX.out.1 (rowNewS rfl ⟨C,k,L⟩ _) hoX.out.2.1 hoX.out.2.2.1 hoX.out.2.2.2 ?_;intro v3 w3 hown3 hg3 hloc3)|fail)
     have hfin:Hid (AInv w1 w3 (a.map Itm.z) (b.map Itm.z) q (j+1) v3 (ss++[⟨C,k,L⟩]) (S++[tellF s (a.map Itm.z) (b.map Itm.z) S]) (ah++[widW s ah])):=hR.out.step hdr.out (ahdE_parts hQ.out.1).2.2.2.1 (ahdE_parts hQ.out.1).2.2.2.2 hT0.out hgX.out hTl.out.1 hTl.out.2.1 hTl.out.2.2.1 hTl.out.2.2.2 hown3 hg3 hloc3
     clear hown3 hg3 hloc3
     go_roundw
     case rel=>exact ⟨j+1,ss++[(⟨C,k,L⟩:Sl)],S++[tellF s (a.map Itm.z) (b.map Itm.z) S],ah++[widW s ah],by omega,by go_num,hfin⟩
     case measure=>simp[intOf];omega
    ·have hT0:Hid (P=T∧plnF q (a.map Itm.z) (b.map Itm.z)=[]):=by
      have hn:¬T=0:=by simpa using hq
      have hp:P=T:=by
       rw[hQ.out.2,←hR.out.e,hdr.out]
       show (if tellE s (a.map Itm.z) (b.map Itm.z) S=0 then _ else _)=_
       rw[if_neg (by rw[hTH.out];exact hn),hTH.out]
      refine ⟨hp,?_⟩
      unfold plnF;rw[if_neg (by rw[hH.out.2.2.2.2.1,hp];exact hn)]
     go_wp2_with (go_at_call 114;(refine Calls.mono (show Calls _ _ _ _ _ from hC.out) ?_);rintro e w2 ⟨L,C,k,rfl,h1,h2,h3,h4⟩)
     go_ret2
     exact ⟨[],none,0,by rw[hT0.out.1];rfl,⟨Or.inl rfl,fun s hs=>(by cases hs),by rw[hT0.out.2];rfl⟩,hbW.out.1.trans ((hbX.out.trans (h3.mono hbX.out.size)).mono hbW.out.1.size),NewS.none _ _⟩
   ·have hltz:¬(j:Int)<(q.length:Int):=by omega
    have hNS:Hid (NewS wr w.heap.size GA gc ss):=⟨hR.out.own.mono hbW.out.1.size,fun s hs=>(hR.out.nw s hs).mono hbW.out.1.size,fun s0 t h=>by
     obtain ⟨N,_,h2,h3⟩:=hR.out.sep s0 t h
     exact ⟨N,h2,h3⟩⟩
    have hfin:Hid (P=0∧Sts wr GA ss (plnF q (a.map Itm.z) (b.map Itm.z))∧Below w.heap.size w wr):=by
     have hd:q.drop j=[]:=List.drop_eq_nil_of_le (by omega)
     have he:=hR.out.e
     have hf:=hR.out.f
     rw[hd] at he hf
     have hP0:P=0:=by rw[hQ.out.2,←he];rfl
     refine ⟨hP0,⟨hrwH.out,fun s hs=>(hR.out.each s hs).1,?_⟩,hbW.out.1.trans (hR.out.bel.mono hbW.out.1.size)⟩
     unfold plnF
     rw[if_pos (by rw[hH.out.2.2.2.2.1];exact hP0),←hf,hR.out.z]
     rfl
    go_wp2
    go_ret2
    exact ⟨ss,GA,gc,by rw[hfin.out.1];rfl,hfin.out.2.1,hfin.out.2.2,hNS.out⟩
 ·have hfin:Hid (E2=P∧plnF q (a.map Itm.z) (b.map Itm.z)=[]):=by
   have hn:¬E2=0:=by simpa using h1
   have hah:ahdE q (a.map Itm.z) (b.map Itm.z)=E2:=by rw[ahd_tbl,if_pos hE10.out];exact hH.out.2.2.2.2.2
   have hp:P=E2:=by rw[←hH.out.2.2.2.2.1];unfold plnE;rw[if_neg (by rw[hah];exact hn)];exact hah
   refine ⟨hp.symm,?_⟩
   unfold plnF;rw[if_neg (by rw[hH.out.2.2.2.2.1,hp];exact hn)]
  go_wp2
  go_ret2
  exact ⟨[],none,0,by rw[←hfin.out.1];rfl,⟨Or.inl rfl,fun s hs=>(by cases hs),by rw[hfin.out.2];rfl⟩,hbY.out.1,NewS.none _ _⟩
end Go.Proofs.YtkadjjmkokhldaaGreat
