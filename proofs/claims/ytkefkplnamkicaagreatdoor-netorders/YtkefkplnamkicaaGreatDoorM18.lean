/-
  zset.greatest: the last number of a list.
  zset.Of: the rows of a table.
  A node's views on plain lists: a table's set, the difference of two of them, and what a view has missed.
  plain.All.
  plain.Eval.
  inc.orderOfFirst: the order of the first rows of two lists.
-/
import Derived.Test.YtkefkplnamkicaaGreatDoorM17
set_option maxRecDepth 100000
set_option maxHeartbeats 8000000
open Go.Ending renaming returned → Y
open Go.IntKind renaming i64 → O
open Go.Obj renaming cells → Z
open Go.Proofs.Tryz renaming prog → H
open Go.Value renaming slice → I, int → J, tuple → X
namespace Go.Proofs.YtkefkplnamkicaaGreatDoor
open Go.RowKit Go.Sort

theorem pG (l:List Int) (A:Option Addr) (cap:Nat) (w:World) (hl:l.length≤maxLen) (hr:ay w A l) :
  Calls H 45 #[I A l.length cap] w fun e w'=>e= Y (J O (grt l))∧Gr w w':=by
 unfold maxLen at hl
 by_cases h:l=[]
 ·subst h
  go_enter Tryz.func45,Tryz.ntmps45
  go_wp2
  go_ret
  exact ⟨rfl,gR _⟩
 ·have hp:0<l.length:=List.length_pos_iff.2 h
  have hk:l.length-1<l.length:=by omega
  obtain ⟨b,off,rfl,hb,hcs⟩:=hr.at hk
  obtain ⟨x,hx⟩:∃x,l[l.length-1]=x:=⟨_,rfl⟩
  have e0:=hcs (l.length-1) hk 0 (by omega)
  rw[hx] at e0
  have e1:w.cell? ⟨b,off+(l.length-1),none⟩=some (J O x):=by simpa[fp] using e0
  have hfin:Hid (grt l=x):=by
   show _=_
   unfold grt
   rw[List.getD_eq_getElem?_getD,List.getElem?_eq_getElem hk,←hx];rfl
  obtain ⟨n,hn⟩:∃n,l.length=n+1:=⟨l.length-1,by omega⟩
  rw[hn] at e1 ⊢
  rw[Nat.add_sub_cancel] at e1
  have hne:(((n+1:Nat):Int)==0)=false:=by simp;omega
  have hw:IntKind.i64.wrap (((n+1:Nat):Int)-1)=(n:Int):=by rw[IntKind.wrap_i64];omega
  have hlt:(n:Int)<((n+1:Nat):Int):=by omega
  clear hcs e0 hx h
  go_enter Tryz.func45,Tryz.ntmps45
  go_wp2
  go_ret
  exact ⟨by rw[hfin.out];rfl,gR _⟩


def ofR (t:Tab):List Zit:=if am t=0 then ofL t else []
theorem AB {t:Tab} (h:am t≠0):ofR t=[]:=by unfold ofR;rw[if_neg h]
theorem AC {t:Tab} (h:am t=0):ofR t=ofL t:=by unfold ofR;rw[if_pos h]

theorem sZ (e:List Cel) (key:Int) {j:Nat} (h:j<3):(db e key).take (j+1+1)=(db e key).take (j+1)++[grt (cN (bP key j e))]:=by
 have hj:j=0∨j=1∨j=2:=by omega
 rcases hj with rfl|rfl|rfl<;>rfl
theorem pf (e:List Cel) (key:Int):(db e key).length=4:=rfl
theorem t8 (e:List Cel) (key:Int) (j:Nat):((db e key).take j).length≤4:=by rw[List.length_take,pf];omega

theorem sU (t:Tab) (A:Option Addr) (ca:Nat) (D:Option Addr) (cd:Nat) (w:World) (hl:t.c.l.length≤maxLen) (hel:t.e.length≤maxLen) (hr:Row w A t.c.l) (hd:bw w D t.e) :
  Calls H 22 #[.agg (T6 t A ca D cd).toArray] w fun e w'=>∃(L:List Itm) (C:Option Addr) (c:Nat),e= Y (X #[I C L.length c,J O (am t)])∧L.map Itm.z=ofR t∧Items w' C L∧dx C L.length c∧Below w.heap.size w w'∧jf w.heap.size C L:=by
 have ht0:TabAt (w.alloc (Z #[J O t.c.c0,J O t.c.c1,J O t.c.c2,J O t.c.c3,I A t.c.l.length ca,I D t.e.length cd] 41)) w.heap.size t A ca D cd:=TabAt.new 41 hr hd rfl
 have hbw0:Below w.heap.size w (w.alloc (Z #[J O t.c.c0,J O t.c.c1,J O t.c.c2,J O t.c.c3,I A t.c.l.length ca,I D t.e.length cd] 41)):=((gR w).alloc _).below
 have hck:=eE t A ca D cd (w.alloc (Z #[J O t.c.c0,J O t.c.c1,J O t.c.c2,J O t.c.c3,I A t.c.l.length ca,I D t.e.length cd] 41)) hl hel ht0.row ht0.rowC
 have hckH:Hid _:=hck
 clear hck hl hel hr hd
 go_enter Tryz.func22,Tryz.ntmps22
 obtain ⟨k0,k1,k2,k3,k4,k5⟩:_∧_∧_∧_∧_∧_:=⟨ht0.k0,ht0.k1,ht0.k2,ht0.k3,ht0.k4,ht0.k5⟩
 go_wp2_with fail
 refine cM (show Calls _ _ _ _ _ from hckH.out) ?_
 rintro e w1 ⟨rfl,hg1⟩
 clear hckH k0 k1 k2 k3 k4 k5
 have ht1:Hid (TabAt w1 w.heap.size t A ca D cd∧Below w.heap.size w w1):=⟨ht0.gr hg1,hbw0.trans (hg1.below.mono hbw0.size)⟩
 clear ht0 hbw0 hg1
 obtain ⟨E,hE⟩:∃E,am t=E:=⟨_,rfl⟩
 have hEH:Hid (am t=E):=hE
 rw[hE]
 clear hE
 cases hq:(E != 0)
 ·have hE0:E=0:=by simpa using hq
  have h0H:Hid (am t=0):=by show _=_;rw[hEH.out,hE0]
  subst hE0
  clear hEH hq
  have hsz:Hid (t.e.length*40≤140737488355328∧t.e.length≤400):=by have:=(ae h0H.out).2.1;exact ⟨by omega,this⟩
  have hky:=xl t A ca D cd w1 hsz.out.1 ht1.out.1.row ht1.out.1.rowC
  have hkyH:Hid _:=hky
  clear hky
  obtain ⟨k0,k1,k2,k3,k4,k5⟩:_∧_∧_∧_∧_∧_:=⟨ht1.out.1.k0,ht1.out.1.k1,ht1.out.1.k2,ht1.out.1.k3,ht1.out.1.k4,ht1.out.1.k5⟩
  go_wp2_with fail
  refine cM (show Calls _ _ _ _ _ from hkyH.out) ?_
  rintro e w2 ⟨K,kc,rfl,hrk,hb2⟩
  clear hkyH k0 k1 k2 k3 k4 k5
  have ht2:Hid (TabAt w2 w.heap.size t A ca D cd∧Below w.heap.size w w2):=⟨ht1.out.1.below hb2,ht1.out.2.trans (hb2.mono ht1.out.2.size)⟩
  obtain ⟨ks,hks⟩:∃ks,cN (ct t.e)=ks:=⟨_,rfl⟩
  have hksH:Hid (cN (ct t.e)=ks∧ay w2 K ks):=⟨hks,by rw[←hks];exact hrk⟩
  have hkl:ks.length≤400:=by
   rw[←hks]
   exact nT (iS _) (nT (gG _) hsz.out.2)
  rw[hks]
  clear hks hrk hb2 ht1
  go_wp2
  go_loopw [5,18] (fun v i wr=>∃(k:Nat) (L:List Itm),k≤ks.length∧i= J O k∧Hid (L.length=k)∧Hid (L.map Itm.z=(ks.take k).map (fun key=>(db t.e key,1)))∧Hid (OwnT wr w2.heap.size v L∧Below w2.heap.size w2 wr)) (fun _ i _=>ks.length-(intOf i).toNat)
  case atStart=>exact ⟨0,[],by omega,rfl,rfl,by simp[Hid],OwnT.nil _ _,bR _ _⟩
  case round =>
   rename World=>w3
   obtain ⟨k,L,hk,rfl,hLk,hLz,hov⟩:=hrel
   by_cases hlt:k<ks.length
   ·have hltz:(k:Int)<(ks.length:Int):=by omega
    have hrk3:ay w3 K ks:=hksH.out.2.below hov.out.2
    obtain ⟨bb,off,rfl,hb,hcs⟩:=hrk3.at hlt
    obtain ⟨key,hkey⟩:∃x,ks[k]=x:=⟨_,rfl⟩
    have e0:=hcs k hlt 0 (by omega)
    rw[hkey] at e0
    have e1:w3.cell? ⟨bb,off+k,none⟩=some (J O key):=by simpa[fp] using e0
    have hst:Hid ((ks.take (k+1)).map (fun key=>(db t.e key,(1:Int)))=(ks.take k).map (fun key=>(db t.e key,1))++[(db t.e key,1)]):=by show _=_;rw[List.take_succ_eq_append_getElem hlt,hkey];simp
    have ht3:Hid (TabAt w3 w.heap.size t A ca D cd):=ht2.out.1.below hov.out.2
    clear hcs e0 hkey hrk3
    go_wp2
    go_loopw [8,24] (fun v i wr=>∃j:Nat,j≤3∧i= J O j∧Hid (eB wr w3.heap.size v ((db t.e key).take (j+1))∧Below w3.heap.size w3 wr)) (fun _ i _=>3-(intOf i).toNat)
    case atStart=>exact ⟨0,by omega,rfl,World.ownsRow_lit w3 #[J O key] 1 (nR _) (by unfold maxLen;omega) rfl,((gR _).alloc _).below⟩
    case round =>
     rename World=>w4
     obtain ⟨j,hj,rfl,how⟩:=hrel
     have ht4:Hid (TabAt w4 w.heap.size t A ca D cd):=ht3.out.below how.out.2
     by_cases hj3:j<3
     ·have hj3z:(j:Int)<3:=by omega
      obtain ⟨k0,k1,k2,k3,k4,k5⟩:_∧_∧_∧_∧_∧_:=⟨ht4.out.k0,ht4.out.k1,ht4.out.k2,ht4.out.k3,ht4.out.k4,ht4.out.k5⟩
      have hvl:=nv t A ca D cd key j w4 hsz.out.1 ht4.out.row ht4.out.rowC
      have hvlH:Hid _:=hvl
      clear hvl
      go_wp2_with fail
      refine cM (show Calls _ _ _ _ _ from hvlH.out) ?_
      rintro e w5 ⟨V,vc,rfl,hrv,hb5⟩
      clear hvlH k0 k1 k2 k3 k4 k5
      have hgt:=pG (cN (bP key j t.e)) V vc w5 (by have h1:=iS (bP key j t.e);have h2:=jA key j t.e;have h3:=hsz.out.2;unfold maxLen;omega) hrv
      have hgtH:Hid _:=hgt
      clear hgt hrv
      go_wp2_with fail
      refine cM (show Calls _ _ _ _ _ from hgtH.out) ?_
      rintro e w6 ⟨rfl,hg6⟩
      clear hgtH
      obtain ⟨gv,hgv⟩:∃g,grt (cN (bP key j t.e))=g:=⟨_,rfl⟩
      have hst2:Hid ((db t.e key).take (j+1+1)=(db t.e key).take (j+1)++[gv]):=by show _=_;rw[sZ _ _ hj3,hgv]
      rw[hgv]
      obtain ⟨M,hM⟩:∃M,(db t.e key).take (j+1)=M:=⟨_,rfl⟩
      have hMl:M.length≤4:=by rw[←hM];exact t8 _ _ _
      rw[hM] at how hst2
      have hb6:Below w4.heap.size w4 (w6.alloc (Z #[J O gv] 3)):=hb5.trans ((hg6.trans ((gR _).alloc _)).below.mono hb5.size)
      have hoX:Hid (eB (w6.alloc (Z #[J O gv] 3)) w3.heap.size u8 M∧ay (w6.alloc (Z #[J O gv] 3)) (some ⟨w6.heap.size,0,none⟩) [gv]∧M.length+1≤maxLen∧(M.length+1)*8≤140737488355328∧Below w3.heap.size w3 (w6.alloc (Z #[J O gv] 3))):=⟨how.out.1.below hb6,iT rfl gv 3,by unfold maxLen;omega,by omega,how.out.2.trans (hb6.mono how.out.2.size)⟩
      clear hM hMl hgv hb5 hg6 hb6 how
      go_wp2_with (at_builtin;refine bg _ rfl (.tmp 27) (.tmp 33) rfl w3.heap.size u8 M [gv] (some ⟨w6.heap.size,0,none⟩) 1 rfl rfl hoX.out.1 hoX.out.2.1 (fun h=>by cases h) hoX.out.2.2.1 hoX.out.2.2.2.1 hoX.out.2.2.2.2.size ?_;intro v7 w7 hown7 hg7)
      have hfin7:Hid (eB w7 w3.heap.size v7 (M++[gv])∧Below w3.heap.size w3 w7):=⟨hown7,hoX.out.2.2.2.2.trans (af.grown_below hoX.out.1 hg7 hoX.out.2.2.2.2.size)⟩
      clear hown7 hg7 hoX
      go_roundw
      case rel=>exact ⟨j+1,by omega,by go_num,by rw[hst2.out];exact hfin7⟩
      case measure=>simp[intOf];omega
     ·have hj3z:¬(j:Int)<3:=by omega
      obtain rfl:j=3:=by omega
      have hrw:eB w4 w3.heap.size u8 (db t.e key):=how.out.1
      obtain ⟨C,c,rfl,hC,hrow,hlt4⟩:=af.row bZ hrw
      have hwX:Below w3.heap.size w3 (w4.alloc (Z #[I C (db t.e key).length c,J O 1] 101)):=how.out.2.alloc how.out.2.size _
      have hoX:Hid (OwnT (w4.alloc (Z #[I C (db t.e key).length c,J O 1] 101)) w2.heap.size u5 L∧Apart (w4.alloc (Z #[I C (db t.e key).length c,J O 1] 101)) w2.heap.size u5.ownBlock ⟨C,c,db t.e key,1⟩∧(L.length+1≤maxLen∧(L.length+1)*32≤140737488355328)∧w2.heap.size≤(w4.alloc (Z #[I C (db t.e key).length c,J O 1] 101)).heap.size∧Below w2.heap.size w2 (w4.alloc (Z #[I C (db t.e key).length c,J O 1] 101))):=by
       have hsz3:=hov.out.2.size
       have hLl:=hLk.out
       have hbX:=hov.out.2.trans (hwX.mono hsz3)
       refine ⟨hov.out.1.below hwX,⟨hrow.gr ((gR _).alloc _),by show (db t.e key).length≤maxLen;rw[pf];unfold maxLen;omega,hC,fun a ha=>⟨?_,?_,?_⟩⟩,⟨?_,?_⟩,hbX.size,hbX⟩
       ·have h1:=(hlt4 a ha).1;omega
       ·have h1:=(hlt4 a ha).2;simp;omega
       ·intro e
        have h1:=(World.ownsRow.lt hov.out.1.own a.block e).2
        have h2:=(hlt4 a ha).1
        omega
       ·unfold maxLen;omega
       ·omega
      obtain ⟨R,hR⟩:∃R,db t.e key=R:=⟨_,rfl⟩
      rw[hR] at hoX hst ⊢
      clear hrw hrow hC hlt4 hwX how hR
      go_wp2_with (at_builtin;refine eX _ rfl (.tmp 36) (.tmp 39) rfl w2.heap.size u5 L ⟨C,c,R,1⟩ ⟨w4.heap.size,0,none⟩ 1 rfl rfl hoX.out.1 (da rfl ⟨C,c,R,1⟩ 101) hoX.out.2.1 hoX.out.2.2.1.1 hoX.out.2.2.1.2 hoX.out.2.2.2.1 ?_;intro v8 w8 hown8 hb8)
      have hov3:Hid (OwnT w8 w2.heap.size v8 (L++[⟨C,c,R,1⟩])∧Below w2.heap.size w2 w8):=⟨hown8,hoX.out.2.2.2.2.trans hb8⟩
      clear hown8 hb8 hoX
      go_roundw
      case rel =>
       refine ⟨k+1,L++[⟨C,c,R,1⟩],by omega,by go_num,?_,?_,hov3⟩
       ·show _=_;simp[hLk.out]
       ·show _=_;rw[hst.out,List.map_append,hLz.out];rfl
      case measure=>simp[intOf];omega
   ·have hltz:¬(k:Int)<(ks.length:Int):=by omega
    have hke:ks.take k=ks:=List.take_of_length_le (by omega)
    have hfin:Hid (L.map Itm.z=ofR t):=by
     show _=_
     rw[hLz.out,hke,AC h0H.out]
     unfold ofL
     rw[hksH.out.1]
    obtain ⟨A2,cap2,hv2,hn2,hit,hA2⟩:=hov.out.1.items
    have hfin2:Hid (Items w3 A2 L∧dx A2 L.length cap2∧Below w.heap.size w w3∧jf w.heap.size A2 L):=⟨hit,hn2,ht2.out.2.trans (hov.out.2.mono ht2.out.2.size),fun a ha=>nT ht2.out.2.size (hA2 a ha).1,fun x hx a ha=>nT ht2.out.2.size ((hov.out.1.each x hx).own a ha).1⟩
    subst hv2
    clear hke hit hn2 hA2 hov
    go_wp2
    go_ret2
    exact ⟨L,A2,cap2,by rw[h0H.out];rfl,hfin.out,hfin2.out.1,hfin2.out.2.1,hfin2.out.2.2⟩
 ·have hE0:E≠0:=by simpa using hq
  have hfin:Hid (ofR t=[]):=AB (by rw[hEH.out];exact hE0)
  clear hE0
  go_wp2
  go_ret2
  exact ⟨[],none,0,by rw[hEH.out];rfl,by rw[hfin.out];rfl,⟨oL rfl,fun x hx=>by cases hx⟩,fun _=>rfl,ht1.out.2,jf.none _⟩
theorem xG (t:Tab) (A:Option Addr) (ca:Nat) (D:Option Addr) (cd:Nat) (w:World) (hl:t.c.l.length≤maxLen) (hel:t.e.length≤maxLen) (hr:Row w A t.c.l) (hd:bw w D t.e) :
  Calls H 22 #[.agg (T6 t A ca D cd).toArray] w fun e w'=>∃(L:List Itm) (C:Option Addr) (c:Nat),e= Y (X #[I C L.length c,J O (am t)])∧L.map Itm.z=ofR t∧Items w' C L∧dx C L.length c∧Below w.heap.size w w' :=
 (sU t A ca D cd w hl hel hr hd).mono fun _ _ ⟨L,C,c,h1,h2,h3,h4,h5,_⟩=>⟨L,C,c,h1,h2,h3,h4,h5⟩

end Go.Proofs.YtkefkplnamkicaaGreatDoor

namespace Go.Proofs.YtkefkplnamkicaaGreatDoor

structure TS (z:List Zit):Prop where
 ok:ax z=0
 wide:cX 4 z
 len:z.length≤50
 one:∀x∈z,x.2=1
theorem TS.nil:TS []:=⟨by decide,fun x hx=>(by cases hx),by simp,fun x hx=>(by cases hx)⟩
theorem mV:∀(l:List Int) (lo hi:Int),l.Pairwise (· < ·)→(∀x∈l,lo≤x∧x≤hi)→(l.length:Int)≤max 0 (hi-lo+1)
 | [],lo,hi,_,_=>by simp;omega
 | x::l,lo,hi,hp,hb=>by
  have h1:=List.pairwise_cons.1 hp
  have hx:=hb x (by simp)
  have:=mV l (x+1) hi h1.2 fun y hy=>⟨by have:=h1.1 y hy;omega,(hb y (by simp[hy])).2⟩
  simp only[List.length_cons]
  omega
theorem TS.of {t:Tab} (h:am t=0):TS (ofR t):=by
 have e:ofR t=ofL t:=by unfold ofR;rw[if_pos h]
 rw[e]
 refine ⟨B8 h,fun x hx=> ?_,?_,fun x hx=> ?_⟩
 ·unfold ofL at hx
  obtain ⟨key,_,rfl⟩:=List.mem_map.1 hx
  rfl
 ·unfold ofL
  rw[List.length_map]
  have:=mV (cN (ct t.e)) 0 49 (gg _).1 fun x hx=>xk h (((gg _).2 _).1 hx)
  omega
 ·unfold ofL at hx
  obtain ⟨key,_,rfl⟩:=List.mem_map.1 hx
  rfl
theorem TS.wt {z:List Zit} (h:TS z) (r:List Int):0≤wt z r∧wt z r≤1:=by
 by_cases h0:Proofs.YtkefkplnamkicaaGreatDoor.wt z r=0
 ·omega
 ·obtain ⟨x,hx,e⟩:=qj h0
  have:=((bI z).1 h.ok).2.2.wt hx
  rw[e,h.one x hx] at this
  omega
theorem TS.row {z:List Zit} (h:TS z) {x:Zit} (hx:x∈z):okR x.1=true:=(bT (((bI z).1 h.ok).2.1 x hx)).1
theorem lZ (a b:List Zit) (r:List Int):wt (bn a b) r=wt a r-wt b r:=by
 unfold bn
 rw[(bu _).same,gS]
theorem ve {n:Int} (h: -1≤n∧n≤1):okW n=true:=by
 simp only[okW,inB,Bool.and_eq_true,decide_eq_true_eq];omega
theorem TS.mem {a b:List Zit} {x:Zit} (hx:x∈bn a b):∃y∈a++b,y.1=x.1:=by
 obtain ⟨y,hy,e⟩:=(bu (a++fs b)).row hx
 rcases List.mem_append.1 hy with k|k
 ·exact ⟨y,List.mem_append.2 (oL k),e⟩
 ·obtain ⟨z,hz,e2⟩:=lI k
  exact ⟨z,List.mem_append.2 (oR hz),e2.trans e⟩
theorem yQ {a b:List Zit} (ha:TS a) (hb:TS b):(bn a b).length≤100:=by
 have:=kg (a++fs b)
 have h1:=ha.len
 have h2:=hb.len
 have h3:(fs b).length=b.length:=by unfold fs;exact List.length_map _
 unfold bn
 rw[List.length_append,h3] at this
 omega
theorem gA {a b:List Zit} (ha:TS a) (hb:TS b):ax (bn a b)=0∧cX 4 (bn a b):=by
 have hl:=yQ ha hb
 have ht:=bu (a++fs b)
 refine ⟨(bI _).2 ⟨by omega,fun x hx=> ?_,ht.rise⟩,fun x hx=> ?_⟩
 ·obtain ⟨y,hy,e⟩:=TS.mem hx
  have hr:okR x.1=true:=by
   rw[←e]
   rcases List.mem_append.1 hy with k|k
   ·exact ha.row k
   ·exact hb.row k
  have hw:okW x.2=true:=by
   have:=ht.rise.wt hx
   rw[←this,ht.same,gS]
   have h1:=ha.wt x.1
   have h2:=hb.wt x.1
   exact ve (by omega)
  have hz:=ht.noz x hx
  unfold okZ
  rw[hr,hw]
  simpa using hz
 ·obtain ⟨y,hy,e⟩:=TS.mem hx
  rw[←e]
  rcases List.mem_append.1 hy with k|k
  ·exact ha.wide y k
  ·exact hb.wide y k
theorem rR {a b c:List Zit} (ha:ax a=0) (hb:ax b=0) (hc:ax c=0) (h:∀r,wt c r=wt a r+wt b r):aW a b=0∧aU a b=c:=by
 have hC:=(bI c).1 hc
 have e2:cW (a++b)=c:=(bu _).uniq (⟨hC.2.2,tU hC.2.1,fun _=>rfl⟩:IsTot c c) fun r=>by rw[cF,h]
 have e1:df (a++b)=0:=by
  unfold df
  rw[e2,if_pos]
  rw[List.all_eq_true]
  intro x hx
  exact (bT (hC.2.1 x hx)).2.1
 have e3:aW a b=0:=by
  unfold aW
  rw[if_pos ha,if_pos hb,if_pos e1,if_neg (by rw[e2];omega)]
 exact ⟨e3,by unfold aU;rw[if_pos e3,e2]⟩
theorem o6 {a b:List Zit} (ha:TS a) (hb:TS b):aW a (i7 b)=0∧aU a (i7 b)=bn a b:=by
 have e:i7 b=fs b:=by unfold i7;rw[if_pos hb.ok];rfl
 rw[e]
 refine rR ha.ok (zu hb.ok) (gA ha hb).1 fun r=> ?_
 rw[lZ]
 unfold fs
 rw[yz]
 omega
theorem lP {k z z':List Zit} (hk:TS k) (hz:TS z) (hz':TS z'):aW (bn z k) (bn z' z)=0∧aU (bn z k) (bn z' z)=bn z' k :=
 rR (gA hz hk).1 (gA hz' hz).1 (gA hz' hk).1 fun r=>by rw[lZ,lZ,lZ];omega
theorem fN {k z:List Zit} (hk:TS k) (hz:TS z):aW k (bn z k)=0∧aU k (bn z k)=z :=
 rR hk.ok (gA hz hk).1 hz.ok fun r=>by rw[lZ];omega
theorem qD (z:List Zit):bn z z=[]:=by
 have h:=bu (z++fs z)
 refine h.uniq (m:=[]) (T:=[]) ⟨List.Pairwise.nil,fun x hx=>(by cases hx),fun r=>rfl⟩ fun r=> ?_
 rw[gS]
 show _=0
 omega
theorem qC {z:List Zit} (h:ax z=0):bn z []=z:=by
 unfold bn fs
 rw[List.map_nil,List.append_nil]
 exact yo h
theorem sq {q:List Stp} {k l z y:List Zit} (hk:TS k) (hl:TS l) (hz:TS z) (hy:TS y):j0 q k l (bn z k) (bn y l)=bY q z y:=by
 unfold j0
 rw[if_pos (zR (gA hz hk).1 (gA hy hl).1 (gA hz hk).2 (gA hy hl).2),if_pos (fN hk hz).1,if_pos (fN hl hy).1,(fN hk hz).2,(fN hl hy).2]
end Go.Proofs.YtkefkplnamkicaaGreatDoor

namespace Go.Proofs.YtkefkplnamkicaaGreatDoor
open Go.RowKit Go.Sort Go.Maps

def AO (N:Nat) (s:Sl):Prop:=(∀a,s.A=some a→a.block<N)∧∀x∈s.l,∀a,x.p=some a→a.block<N
def BJ (ss:List Sl):Prop:=∀s0 t,ss=s0::t→∃N,AO N s0∧∀s∈t,jf N s.A s.l
structure AInv (w wr:World) (a b:List Zit) (q:List Stp) (j:Nat) (u:Value) (ss:List Sl) (S:List (List Zit)) (ah:List Int):Prop where
 own:af eR 1 58 wr w.heap.size u ss
 each:∀s∈ss,Lv wr s.A s.cap s.l∧Far u.ownBlock s
 z:ss.map (fun s=>s.l.map Itm.z)=S
 len:ss.length=j
 ahd:Ahd S ah
 wid:(dw (q.drop j) ah).isSome=true
 e:jg a b (q.drop j) S=jg a b q []
 f:jh a b (q.drop j) S=jh a b q []
 bel:Below w.heap.size w wr
 nw:∀s∈ss,NwT wr s.cap w.heap.size s.A s.l
 sep:∀s0 t,ss=s0::t→∃N,N≤wr.heap.size∧AO N s0∧∀s∈t,jf N s.A s.l

theorem NwT.grown {w w':World} {k n:Nat} {C:Option Addr} {L:List Itm} {row:Option Nat} (h:NwT w k n C L) (q:w.grownBy w' row) (h1:∀g,row=some g→∃cur T,w.heap[g]? = some (Z cur T (0,0))∧T≠3) (h2:∀g,row=some g→∃cur T,w.heap[g]? = some (Z cur T (0,0))∧T≠101):NwT w' k n C L:=⟨h.new,h.arr.grown q h2,h.rows.grown q h1⟩
theorem AInv.step {w wr WX w2 w3:World} {a b:List Zit} {q:List Stp} {j:Nat} {u v3:Value} {ss:List Sl} {S:List (List Zit)} {ah:List Int} {s:Stp} {L:List Itm} {C:Option Addr} {k:Nat} {o:Obj} (h:AInv w wr a b q j u ss S ah) (hs:q.drop j=s::q.drop (j+1)) (ha:cX 4 a) (hb:cX 4 b) (hT:aX s a b S=0) (hgX:Gr wr WX) (hz:L.map Itm.z=bf s a b S) (hL:Lv w2 C k L) (hB:Below WX.heap.size WX w2) (hN:NwT w2 k WX.heap.size C L)
  (hown:af eR 1 58 w3 w.heap.size v3 (ss++[⟨C,k,L⟩])) (hg:(w2.alloc o).grownBy w3 u.ownBlock) (hloc:v3.ownBlock=u.ownBlock∨v3.ownBlock=some (w2.alloc o).heap.size):AInv w w3 a b q (j+1) v3 (ss++[⟨C,k,L⟩]) (S++[bf s a b S]) (ah++[aO s ah]):=by
 have hw:=jB (by rw[←hs];exact h.wid)
 have hr:=nj hw.1 h.ahd ha hb hT
 have hgA:Gr w2 (w2.alloc o):=(gR _).alloc _
 have hb2:Below wr.heap.size wr (w2.alloc o):=hgX.below.trans ((hB.trans (hgA.below.mono hB.size)).mono hgX.size)
 have hlt:∀g,u.ownBlock=some g→g<wr.heap.size∧w.heap.size≤g:=fun g e=>⟨(World.ownsRow.lt h.own g e).2,(World.ownsRow.lt h.own g e).1⟩
 have hfar:∀(x:Sl),Lv (w2.alloc o) x.A x.cap x.l→Far u.ownBlock x→Far v3.ownBlock x:=fun x hx hf=>by
  rcases hloc with e|e
  ·rw[e];exact hf
  ·rw[e];exact Far.top hx (nR _)
 have he:jg a b (q.drop j) S=jg a b (q.drop (j+1)) (S++[bf s a b S]):=by
  rw[hs]
  show (if aX s a b S=0 then _ else _)=_
  rw[if_pos hT]
 have hf:jh a b (q.drop j) S=jh a b (q.drop (j+1)) (S++[bf s a b S]):=by
  rw[hs]
  show (if aX s a b S=0 then _ else _)=_
  rw[if_pos hT]
 refine ⟨hown,fun x hx=> ?_,by rw[List.map_append,h.z];simp[hz],by simp[h.len],h.ahd.snoc hr.1 hr.2,hw.2,by rw[←he];exact h.e,by rw[←hf];exact h.f,?_,?_,?_⟩
 ·rcases List.mem_append.1 hx with e|e
  ·have h1:=h.each x e
   have h2:=h1.1.below hb2
   exact ⟨h2.grown hg h1.2,hfar x h2 h1.2⟩
  ·rw[List.mem_singleton.1 e]
   have h2:Lv (w2.alloc o) C k L:=hL.gr hgA
   have hf2:Far u.ownBlock ⟨C,k,L⟩:=Far.new (n:=WX.heap.size) hN.new (fun g e2=>nL (hlt g e2).1 hgX.size)
   exact ⟨Lv.grown (s:=⟨C,k,L⟩) h2 hg hf2,hfar ⟨C,k,L⟩ h2 hf2⟩
 ·exact (h.bel.trans (hb2.mono h.bel.size)).grown hg (nT h.bel.size hb2.size) (fun g e=>(hlt g e).2)
 ·intro x hx
  have ho:=h.own.below hb2
  rcases List.mem_append.1 hx with e|e
  ·exact ((h.nw x e).below hb2).grown hg (ho.typed (by decide)) (ho.typed (by decide))
  ·rw[List.mem_singleton.1 e]
   exact ((hN.mono (nT h.bel.size hgX.size)).below hgA.below).grown hg (ho.typed (by decide)) (ho.typed (by decide))
 ·intro s0 t hst
  have ho:=h.own.below hb2
  have hsz:wr.heap.size≤w3.heap.size:=nT hb2.size hg.size
  cases ss with
  | nil =>
   have h1:s0=⟨C,k,L⟩∧t=[]:=by simpa using hst.symm
   obtain ⟨rfl,rfl⟩:=h1
   have h2:=(hN.below hgA.below).grown hg (ho.typed (by decide)) (ho.typed (by decide))
   exact ⟨w3.heap.size,nR _,⟨h2.arr.lt,fun x hx=>(h2.rows x hx).1.lt⟩,fun s hs=>by cases hs⟩
  | cons y r =>
   have h1:y=s0∧r++[⟨C,k,L⟩]=t:=by simpa using hst
   obtain ⟨rfl,rfl⟩:=h1
   obtain ⟨N,hN1,hN2,hN3⟩:=h.sep y r rfl
   refine ⟨N,nT hN1 hsz,hN2,fun s hs=> ?_⟩
   rcases List.mem_append.1 hs with e|e
   ·exact hN3 s e
   ·rw[List.mem_singleton.1 e]
    exact hN.new.mono (nT hN1 hgX.size)
theorem zK {W:World} {n:Nat} (hn:W.heap.size=n) (x:Sl) (T:TypeId):au eR 1 (W.alloc (Z #[I x.A x.l.length x.cap] T)) (some ⟨n,0,none⟩) [x]:=by
 subst hn
 refine oR ⟨W.heap.size,0,rfl,by simp,fun j hj i hi=> ?_⟩
 obtain rfl:j=0:=by simp at hj;omega
 obtain rfl:i=0:=by omega
 exact ab (w:=W) (gR _) (j:=0) rfl

structure NewS (w:World) (n:Nat) (C:Option Addr) (k:Nat) (ss:List Sl):Prop where
 own:af eR 1 58 w n (I C ss.length k) ss
 each:∀s∈ss,NwT w s.cap n s.A s.l
 sep:BJ ss
theorem NewS.none (w:World) (n:Nat):NewS w n none 0 []:=⟨af.nil _ _ _ _ _,fun s hs=>(by cases hs),fun s0 t h=>by cases h⟩

theorem yE (q:List Stp) (QA:Option Addr) (cq:Nat) (a b:List Itm) (A B:Option Addr) (ca cb:Nat) (w:World) (hl:q.length≤maxLen) (hq:Stps w QA q) (ha:Lv w A ca a) (hb:Lv w B cb b) :
  Calls H 46 #[I QA q.length cq,I A a.length ca,I B b.length cb] w fun e w'=>∃(ss:List Sl) (C:Option Addr) (k:Nat),e= Y (X #[I C ss.length k,J O (bY q (a.map Itm.z) (b.map Itm.z))])∧Sts w' C ss (j6 q (a.map Itm.z) (b.map Itm.z))∧Below w.heap.size w w'∧NewS w' w.heap.size C k ss:=by
 obtain ⟨E1,hE1⟩:∃E,bV q=E:=⟨_,rfl⟩
 obtain ⟨E2,hE2⟩:∃E,gQ (a.map Itm.z) (b.map Itm.z)=E:=⟨_,rfl⟩
 have hC0:=pC (A:=QA) (ca:=cq) hE1 hl hq
 have hC:Hid _:=hC0
 obtain ⟨P,hP⟩:∃P,bY q (a.map Itm.z) (b.map Itm.z)=P:=⟨_,rfl⟩
 rw[hP]
 have hH:Hid (Stps w QA q∧Lv w A ca a∧Lv w B cb b∧bV q=E1∧bY q (a.map Itm.z) (b.map Itm.z)=P∧gQ (a.map Itm.z) (b.map Itm.z)=E2):=⟨hq,ha,hb,hE1,hP,hE2⟩
 clear hC0 hq ha hb hE1 hE2 hP hl
 go_enter Tryz.func46,Tryz.ntmps46
 go_wp2_with fail
 refine cM (show Calls _ _ _ _ _ from hC.out) ?_
 rintro e w0 ⟨rfl,hb0⟩
 have hbZ:Hid (Below w.heap.size w w0∧Stps w0 QA q∧Lv w0 A ca a∧Lv w0 B cb b):=⟨hb0,hH.out.1.below hb0,hH.out.2.1.below hb0,hH.out.2.2.1.below hb0⟩
 clear hb0 hC
 cases h0:(E1 != 0)
 rotate_left
 focus
  have hfin:Hid (E1=P∧j6 q (a.map Itm.z) (b.map Itm.z)=[]):=by
   have hn:¬E1=0:=by simpa using h0
   have hp:P=E1:=by rw[←hH.out.2.2.2.2.1];unfold bY;rw[jC,if_neg (show ¬bV q=0 by rw[hH.out.2.2.2.1];exact hn),if_neg (show ¬bV q=0 by rw[hH.out.2.2.2.1];exact hn)];exact hH.out.2.2.2.1
   refine ⟨hp.symm,?_⟩
   unfold j6;rw[if_neg (by rw[hH.out.2.2.2.2.1,hp];exact hn)]
  go_wp2
  go_ret2
  exact ⟨[],none,0,by rw[←hfin.out.1];rfl,⟨oL rfl,fun s hs=>(by cases hs),by rw[hfin.out.2];rfl⟩,hbZ.out.1,NewS.none _ _⟩
 have hE10:Hid (bV q=0):=by show _=_;rw[hH.out.2.2.2.1];simpa using h0
 have hT0:=jy a b A B ca cb w0 hbZ.out.2.2.1 hbZ.out.2.2.2
 rw[hH.out.2.2.2.2.2] at hT0
 have hT:Hid _:=hT0
 clear hT0
 go_wp2_with fail
 refine cM (show Calls _ _ _ _ _ from hT.out) ?_
 rintro e wt0 ⟨rfl,hgt⟩
 have hbY:Hid (Below w.heap.size w wt0∧Stps wt0 QA q∧Lv wt0 A ca a∧Lv wt0 B cb b):=⟨hbZ.out.1.trans (hgt.below.mono hbZ.out.1.size),hbZ.out.2.1.gr hgt,hbZ.out.2.2.1.gr hgt,hbZ.out.2.2.2.gr hgt⟩
 clear hgt hT hbZ
 cases h1:(E2 != 0)
 ·have hE0:ny q (a.map Itm.z) (b.map Itm.z)=0:=by rw[jC,if_pos hE10.out,hH.out.2.2.2.2.2];simpa using h1
  have hQ:Hid (ny q (a.map Itm.z) (b.map Itm.z)=0∧P=jg (a.map Itm.z) (b.map Itm.z) q []):=⟨hE0,by rw[←hH.out.2.2.2.2.1];unfold bY;rw[if_pos hE0]⟩
  have h8:q.length≤8:=(fc (dJ hE0).1).2.1
  clear hE0
  obtain ⟨w1,hWX⟩:∃WX,(wt0.alloc (Z #[I A a.length ca,I B b.length cb] 68))=WX:=⟨_,rfl⟩
  have hgX:Hid (Gr wt0 w1):=by show Gr _ _;rw[←hWX];exact (gR _).alloc _
  have s0:w1.cell? ⟨wt0.heap.size,0,none⟩=some (I A a.length ca):=by rw[←hWX];exact ab (w:=wt0) (gR _) rfl
  have s1:w1.cell? ⟨wt0.heap.size,1,none⟩=some (I B b.length cb):=by rw[←hWX];exact ab (w:=wt0) (gR _) rfl
  have hst1:wt0.heap.size<w1.heap.size:=by rw[←hWX];simp
  have hbW:Hid (Below w.heap.size w w1∧Stps w1 QA q∧Lv w1 A ca a∧Lv w1 B cb b):=⟨hbY.out.1.trans (hgX.out.below.mono hbY.out.1.size),hbY.out.2.1.gr hgX.out,hbY.out.2.2.1.gr hgX.out,hbY.out.2.2.2.gr hgX.out⟩
  clear hgX hbY
  go_wp2
  clear hWX
  go_loopw [11,32] (fun u i wr=>∃(j:Nat) (ss:List Sl) (S:List (List Zit)) (ah:List Int),j≤q.length∧i= J O j∧Hid (AInv w1 wr (a.map Itm.z) (b.map Itm.z) q j u ss S ah)) (fun _ i _=>q.length-(intOf i).toNat)
  case atStart=>exact ⟨0,[],[],[],nZ _,rfl,show AInv _ _ _ _ _ _ _ _ _ _ from ⟨af.nil _ _ _ _ _,fun s hs=>(by cases hs),rfl,rfl,Ahd.nil,by rw[List.drop_zero];exact (fc (dJ hQ.out.1).1).2.2,by rw[List.drop_zero],by rw[List.drop_zero],bR _ _,fun s hs=>(by cases hs),fun s0 t h=>(by cases h)⟩⟩
  case round =>
   obtain ⟨j,ss,S,ah,hj,rfl,hR⟩:=hrel
   obtain ⟨GA,gc,hu,hgn,hrow,_⟩:=hR.out.own.row mg
   have hrwH:Hid (au eR 1 wr GA ss):=hrow
   subst hu
   clear hrow
   by_cases hlt:j<q.length
   ·have hltz:(j:Int)<(q.length:Int):=by omega
    have hI:Hid (Stps wr QA q):=hbW.out.2.1.below hR.out.bel
    obtain ⟨bb,off,rfl,hb,hcs⟩:=hI.out.at hlt
    obtain ⟨s,hs⟩:∃s,q[j]=s:=⟨_,rfl⟩
    have hsm:Hid (s∈q):=by show _∈_;rw[←hs];exact gM hlt
    have hdr:Hid (q.drop j=s::q.drop (j+1)):=by show _=_;rw[←hs];exact List.drop_eq_getElem_cons hlt
    rw[hs] at hcs
    have m0:wr.cell? ⟨bb,off+j*7,none⟩=some (J O s.k):=hcs 0 (by omega)
    have m1:wr.cell? ⟨bb,off+j*7+1,none⟩=some (J O s.a):=hcs 1 (by omega)
    have m2:wr.cell? ⟨bb,off+j*7+2,none⟩=some (J O s.b):=hcs 2 (by omega)
    have m3:wr.cell? ⟨bb,off+j*7+3,none⟩=some (J O s.c):=hcs 3 (by omega)
    have m4:wr.cell? ⟨bb,off+j*7+4,none⟩=some (J O s.o):=hcs 4 (by omega)
    have m5:wr.cell? ⟨bb,off+j*7+5,none⟩=some (J O s.v):=hcs 5 (by omega)
    have m6:wr.cell? ⟨bb,off+j*7+6,none⟩=some (I s.p s.l.length s.n):=hcs 6 (by omega)
    have hw:=jB (by rw[←hdr.out];exact hR.out.wid)
    obtain ⟨WX,hWX⟩:∃WX,(wr.alloc (Z #[J O s.k,J O s.a,J O s.b,J O s.c,J O s.o,J O s.v,I s.p s.l.length s.n] 105))=WX:=⟨_,rfl⟩
    have hgX:Hid (Gr wr WX):=by show Gr _ _;rw[←hWX];exact (gR _).alloc _
    have hbX:Hid (Below w1.heap.size w1 WX):=hR.out.bel.trans (hgX.out.below.mono hR.out.bel.size)
    obtain ⟨T,hT⟩:∃T,aX s (a.map Itm.z) (b.map Itm.z) S=T:=⟨_,rfl⟩
    have hC0:=Bx (sc:=gc) hw.1 hR.out.ahd (Sts.gr ⟨hrwH.out,fun s hs=>(hR.out.each s hs).1,hR.out.z⟩ hgX.out) (hbW.out.2.2.1.below hbX.out) (hbW.out.2.2.2.below hbX.out) ((hI.out.each s hsm.out).1.gr hgX.out)
    rw[hT] at hC0
    have hC:Hid _:=hC0
    have hTH:Hid (aX s (a.map Itm.z) (b.map Itm.z) S=T):=hT
    have x0:WX.cell? ⟨wr.heap.size,0,none⟩=some (J O s.k):=by rw[←hWX];exact ab (w:=wr) (gR _) rfl
    have x1:WX.cell? ⟨wr.heap.size,1,none⟩=some (J O s.a):=by rw[←hWX];exact ab (w:=wr) (gR _) rfl
    have x2:WX.cell? ⟨wr.heap.size,2,none⟩=some (J O s.b):=by rw[←hWX];exact ab (w:=wr) (gR _) rfl
    have x3:WX.cell? ⟨wr.heap.size,3,none⟩=some (J O s.c):=by rw[←hWX];exact ab (w:=wr) (gR _) rfl
    have x4:WX.cell? ⟨wr.heap.size,4,none⟩=some (J O s.o):=by rw[←hWX];exact ab (w:=wr) (gR _) rfl
    have x5:WX.cell? ⟨wr.heap.size,5,none⟩=some (J O s.v):=by rw[←hWX];exact ab (w:=wr) (gR _) rfl
    have x6:WX.cell? ⟨wr.heap.size,6,none⟩=some (I s.p s.l.length s.n):=by rw[←hWX];exact ab (w:=wr) (gR _) rfl
    have z0:WX.cell? ⟨wt0.heap.size,0,none⟩=some (I A a.length ca):=(hbX.out.cell (p:=⟨wt0.heap.size,0,none⟩) hst1).trans s0
    have z1:WX.cell? ⟨wt0.heap.size,1,none⟩=some (I B b.length cb):=(hbX.out.cell (p:=⟨wt0.heap.size,1,none⟩) hst1).trans s1
    clear hC0 hcs hs hw hT
    cases hq:(T != 0)
    ·have hT0:Hid (aX s (a.map Itm.z) (b.map Itm.z) S=0):=by show _=_;rw[hTH.out];simpa using hq
     have hj8:Hid (ss.length=j):=hR.out.len
     go_wp2_with (first|(go_at_call 70;(refine cM (show Calls _ _ _ _ _ from hC.out) ?_);rintro e w2 ⟨L,C,k,rfl,h1,h2,h3,h4⟩;have hTl:Hid (L.map Itm.z=bf s (a.map Itm.z) (b.map Itm.z) S∧Lv w2 C k L∧Below WX.heap.size WX w2∧NwT w2 k WX.heap.size C L):=⟨h1,h2,h3,h4⟩;have hoX:Hid (af eR 1 58 (w2.alloc (Z #[I C L.length k] 58)) w1.heap.size (I GA ss.length gc) ss∧ss.length+1≤maxLen∧(ss.length+1)*24≤140737488355328∧w1.heap.size≤(w2.alloc (Z #[I C L.length k] 58)).heap.size):=⟨((hR.out.own.gr hgX.out).below h3).gr ((gR _).alloc _),by have:=hj8.out;unfold maxLen;omega,by have:=hj8.out;omega,nT hbX.out.size (nT h3.size (by simp))⟩;clear h1 h2 h3 h4)|(at_builtin;refine lG _ rfl (.tmp 46) (.tmp 48) rfl w1.heap.size (I GA ss.length gc) ss ⟨C,k,L⟩ ⟨w2.heap.size,0,none⟩ 1 rfl rfl hoX.out.1 (zK rfl ⟨C,k,L⟩ _) hoX.out.2.1 hoX.out.2.2.1 hoX.out.2.2.2 ?_;intro v3 w3 hown3 hg3 hloc3)|fail)
     have hfin:Hid (AInv w1 w3 (a.map Itm.z) (b.map Itm.z) q (j+1) v3 (ss++[⟨C,k,L⟩]) (S++[bf s (a.map Itm.z) (b.map Itm.z) S]) (ah++[aO s ah])):=hR.out.step hdr.out (dJ hQ.out.1).2.2.2.1 (dJ hQ.out.1).2.2.2.2 hT0.out hgX.out hTl.out.1 hTl.out.2.1 hTl.out.2.2.1 hTl.out.2.2.2 hown3 hg3 hloc3
     clear hown3 hg3 hloc3
     go_roundw
     case rel=>exact ⟨j+1,ss++[(⟨C,k,L⟩:Sl)],S++[bf s (a.map Itm.z) (b.map Itm.z) S],ah++[aO s ah],by omega,by go_num,hfin⟩
     case measure=>simp[intOf];omega
    ·have hT0:Hid (P=T∧j6 q (a.map Itm.z) (b.map Itm.z)=[]):=by
      have hn:¬T=0:=by simpa using hq
      have hp:P=T:=by
       rw[hQ.out.2,←hR.out.e,hdr.out]
       show (if aX s (a.map Itm.z) (b.map Itm.z) S=0 then _ else _)=_
       rw[if_neg (by rw[hTH.out];exact hn),hTH.out]
      refine ⟨hp,?_⟩
      unfold j6;rw[if_neg (by rw[hH.out.2.2.2.2.1,hp];exact hn)]
     go_wp2_with (go_at_call 70;(refine cM (show Calls _ _ _ _ _ from hC.out) ?_);rintro e w2 ⟨L,C,k,rfl,h1,h2,h3,h4⟩)
     go_ret2
     exact ⟨[],none,0,by rw[hT0.out.1];rfl,⟨oL rfl,fun s hs=>(by cases hs),by rw[hT0.out.2];rfl⟩,hbW.out.1.trans ((hbX.out.trans (h3.mono hbX.out.size)).mono hbW.out.1.size),NewS.none _ _⟩
   ·have hltz:¬(j:Int)<(q.length:Int):=by omega
    have hNS:Hid (NewS wr w.heap.size GA gc ss):=⟨hR.out.own.mono hbW.out.1.size,fun s hs=>(hR.out.nw s hs).mono hbW.out.1.size,fun s0 t h=>by
     obtain ⟨N,_,h2,h3⟩:=hR.out.sep s0 t h
     exact ⟨N,h2,h3⟩⟩
    have hfin:Hid (P=0∧Sts wr GA ss (j6 q (a.map Itm.z) (b.map Itm.z))∧Below w.heap.size w wr):=by
     have hd:q.drop j=[]:=List.drop_eq_nil_of_le (by omega)
     have he:=hR.out.e
     have hf:=hR.out.f
     rw[hd] at he hf
     have hP0:P=0:=by rw[hQ.out.2,←he];rfl
     refine ⟨hP0,⟨hrwH.out,fun s hs=>(hR.out.each s hs).1,?_⟩,hbW.out.1.trans (hR.out.bel.mono hbW.out.1.size)⟩
     unfold j6
     rw[if_pos (by rw[hH.out.2.2.2.2.1];exact hP0),←hf,hR.out.z]
     rfl
    go_wp2
    go_ret2
    exact ⟨ss,GA,gc,by rw[hfin.out.1];rfl,hfin.out.2.1,hfin.out.2.2,hNS.out⟩
 ·have hfin:Hid (E2=P∧j6 q (a.map Itm.z) (b.map Itm.z)=[]):=by
   have hn:¬E2=0:=by simpa using h1
   have hah:ny q (a.map Itm.z) (b.map Itm.z)=E2:=by rw[jC,if_pos hE10.out];exact hH.out.2.2.2.2.2
   have hp:P=E2:=by rw[←hH.out.2.2.2.2.1];unfold bY;rw[if_neg (by rw[hah];exact hn)];exact hah
   refine ⟨hp.symm,?_⟩
   unfold j6;rw[if_neg (by rw[hH.out.2.2.2.2.1,hp];exact hn)]
  go_wp2
  go_ret2
  exact ⟨[],none,0,by rw[←hfin.out.1];rfl,⟨oL rfl,fun s hs=>(by cases hs),by rw[hfin.out.2];rfl⟩,hbY.out.1,NewS.none _ _⟩

theorem xP {q:List Stp} {a b:List Zit} (h:bY q a b=0):(j6 q a b).length=q.length∧0<q.length:=by
 obtain ⟨h1,h2,h3⟩:=jt h
 obtain ⟨k1,_,_,k4,k5⟩:=dJ h1
 obtain ⟨q1,_,q3⟩:=fc k1
 obtain ⟨ah',m1,m2⟩:=kj k4 k5 q [] [] q3 Ahd.nil h2
 rw[h3,m2]
 exact ⟨by simp,List.length_pos_iff.2 q1⟩
theorem sk {q:List Stp} {a b:List Zit} (h:¬bY q a b=0):e7 q a b=[]:=by
 unfold e7 j6
 rw[if_neg h]
 rfl
theorem Sts.atm {w:World} {A:Option Addr} {ss:List Sl} {S:List (List Zit)} (h:Sts w A ss S) {i:Int} (h0:0≤i) (hi:i.toNat<S.length):∃(b off n:Nat) (x:Sl),A=some ⟨b,off,none⟩∧b<w.heap.size∧i=n∧n<ss.length∧w.cell? ⟨b,off+n,none⟩=some (I x.A x.l.length x.cap)∧Lv w x.A x.cap x.l∧x.l.map Itm.z=bO S i∧ss[n]? = some x:=by
 have hl:i.toNat<ss.length:=by
  have:=congrArg List.length h.z
  simp at this
  omega
 obtain ⟨b,off,hA,hb,hc⟩:=h.row.at hl
 refine ⟨b,off,i.toNat,ss[i.toNat],hA,hb,by omega,hl,?_,h.each _ (gM hl),?_,List.getElem?_eq_getElem hl⟩
 ·have:=hc i.toNat hl 0 (by omega)
  simpa[eR] using this
 ·unfold bO
  rw[←h.z,List.getD_eq_getElem?_getD,List.getElem?_map,List.getElem?_eq_getElem hl]
  rfl
theorem mj (q:List Stp) (QA:Option Addr) (cq:Nat) (a b:List Itm) (A B:Option Addr) (ca cb:Nat) (w:World) (hl:q.length≤maxLen) (hq:Stps w QA q) (ha:Lv w A ca a) (hb:Lv w B cb b) :
  Calls H 23 #[I QA q.length cq,I A a.length ca,I B b.length cb] w fun e w'=>∃(L:List Itm) (C:Option Addr) (k:Nat),e= Y (X #[I C L.length k,J O (bY q (a.map Itm.z) (b.map Itm.z))])∧L.map Itm.z=e7 q (a.map Itm.z) (b.map Itm.z)∧Lv w' C k L∧Below w.heap.size w w'∧NwT w' k w.heap.size C L:=by
 have hC0:=yE q QA cq a b A B ca cb w hl hq ha hb
 obtain ⟨P,hP⟩:∃P,bY q (a.map Itm.z) (b.map Itm.z)=P:=⟨_,rfl⟩
 have hPH:Hid (bY q (a.map Itm.z) (b.map Itm.z)=P):=hP
 rw[hP] at hC0 ⊢
 have hC:Hid _:=hC0
 clear hC0 hP hl hq ha hb
 go_enter Tryz.func23,Tryz.ntmps23
 go_wp2_with fail
 refine cM (show Calls _ _ _ _ _ from hC.out) ?_
 rintro e w1 ⟨ss,C,k,rfl,hS0,hb0,hn0⟩
 have hS:Hid (Sts w1 C ss (j6 q (a.map Itm.z) (b.map Itm.z))∧Below w.heap.size w w1):=⟨hS0,hb0⟩
 have hNS:Hid (NewS w1 w.heap.size C k ss):=hn0
 clear hC hS0 hb0 hn0
 cases h1:(P != 0)
 ·have hP0:P=0:=by simpa using h1
  have h0:bY q (a.map Itm.z) (b.map Itm.z)=0:=by rw[hPH.out,hP0]
  have hlen:=xP h0
  have hsl:ss.length=q.length:=by
   have:=congrArg List.length hS.out.1.z
   simp at this
   omega
  obtain ⟨bb,off,n,x,rfl,hbb,hn,hnl,hxc,hxl,hxz,hxm⟩:=hS.out.1.atm (i:=((q.length-1:Nat):Int)) (by omega) (by rw[hlen.1];omega)
  have hn':n=q.length-1:=by omega
  have hfin:Hid (x.l.map Itm.z=e7 q (a.map Itm.z) (b.map Itm.z)∧Lv w1 x.A x.cap x.l):=⟨hxz,hxl⟩
  have hNw:Hid (NwT w1 x.cap w.heap.size x.A x.l):=hNS.out.each x (List.mem_of_getElem? hxm)
  have hq8:=(fc (dJ (jt h0).1).1).2.1
  have hn8:(n:Int)≤8:=by omega
  have hwn:wrap64 (n:Int)=(n:Int):=by unfold wrap64;omega
  have hi2:(ss.length:Int)-1=(n:Int):=by omega
  have hnz:(n:Int)<(ss.length:Int):=by omega
  clear hxl hxz hxm hn hn' hsl hlen h0 hq8
  go_wp2
  go_ret2
  exact ⟨x.l,x.A,x.cap,by rw[hP0];rfl,hfin.out.1,hfin.out.2,hS.out.2,hNw.out⟩
 ·have hfin:Hid (e7 q (a.map Itm.z) (b.map Itm.z)=[]):=sk (by rw[hPH.out];simpa using h1)
  go_wp2
  go_ret2
  exact ⟨[],none,0,rfl,by rw[hfin.out];rfl,⟨⟨oL rfl,fun x hx=>(by cases hx)⟩,fun _=>rfl,nZ _⟩,hS.out.2,NwT.none _ _⟩
theorem qG (q:List Stp) (QA:Option Addr) (cq:Nat) (a b:List Itm) (A B:Option Addr) (ca cb:Nat) (w:World) (hl:q.length≤maxLen) (hq:Stps w QA q) (ha:Lv w A ca a) (hb:Lv w B cb b) :
  Calls H 23 #[I QA q.length cq,I A a.length ca,I B b.length cb] w fun e w'=>∃(L:List Itm) (C:Option Addr) (k:Nat),e= Y (X #[I C L.length k,J O (bY q (a.map Itm.z) (b.map Itm.z))])∧L.map Itm.z=e7 q (a.map Itm.z) (b.map Itm.z)∧Lv w' C k L∧Below w.heap.size w w' :=
 (mj q QA cq a b A B ca cb w hl hq ha hb).mono fun _ _ ⟨L,C,k,h1,h2,h3,h4,_⟩=>⟨L,C,k,h1,h2,h3,h4⟩

def lu:List Itm→List Itm→Int
 | _,[]=> -1
 | [],_::_=>1
 | x::_,y::_=>aF x.r y.r
theorem xL {a b:List Int} {A B:Option Addr} {ca cb:Nat} {w:World} {c:Int} (hc:aF a b=c) (hal:a.length≤maxLen) (hra:ay w A a) (hrb:ay w B b) (n:Nat) (os:Array Obj) :
  Calls H 133 #[I A a.length ca,I B b.length cb] (grow (w.drewN n) os) fun e w'=>e= Y (J O c)∧∃q os',w'=grow ((grow (w.drewN n) os).drewN q) os':=by
 subst hc
 have hg:Gr w (grow (w.drewN n) os):=⟨n,os,rfl⟩
 exact fi a b A B ca cb _ hal (hra.gr hg) (hrb.gr hg)

theorem uG (a b:List Itm) (A B:Option Addr) (ca cb:Nat) (w:World) (ha:Items w A a) (hb:Items w B b) :
  Calls H 199 #[I A a.length ca,I B b.length cb] w fun e w'=>e= Y (J O (lu a b))∧Gr w w':=by
 have mixed:Tryz.prog.follows .mixedOrders=true:=by kernel_rfl
 cases b with
 | nil =>
  have e:lu a []= -1:=by cases a<;>rfl
  rw[e]
  clear e
  go_enter Tryz.func199,Tryz.ntmps199
  go_wp2
  go_ret
  exact ⟨rfl,gR _⟩
 | cons y u =>
  have hbz:(((y::u).length:Int)==0)=false:=by rw[beq_eq_false_iff_ne];simp;omega
  cases a with
  | nil =>
   go_enter Tryz.func199,Tryz.ntmps199
   go_wp2
   go_ret
   exact ⟨rfl,gR _⟩
  | cons x t =>
   have haz:(((x::t).length:Int)==0)=false:=by rw[beq_eq_false_iff_ne];simp;omega
   obtain ⟨ba,oa,rfl,hba,hca⟩:=ha.at (k:=0) (by simp)
   obtain ⟨bb,ob,rfl,hbb,hcb⟩:=hb.at (k:=0) (by simp)
   have e0:w.cell? ⟨ba,oa,none⟩=some (I x.p x.r.length x.c):=by have:=(hca 0 (by simp)).1;simpa using this
   have f0:w.cell? ⟨bb,ob,none⟩=some (I y.p y.r.length y.c):=by have:=(hcb 0 (by simp)).1;simpa using this
   have hx:=ha.each x (by simp)
   have hy:=hb.each y (by simp)
   obtain ⟨c,hc⟩:∃c,aF x.r y.r=c:=⟨_,rfl⟩
   have e:lu (x::t) (y::u)=c:=hc
   rw[e]
   have hO:Hid (∀n os,Calls H 133 #[I x.p x.r.length x.c,I y.p y.r.length y.c] (grow (w.drewN n) os) fun e w'=>e= Y (J O c)∧∃q os',w'=grow ((grow (w.drewN n) os).drewN q) os'):=fun n os=>xL hc hx.2.1 hx.1 hy.1 n os
   have g0:∀n os,(grow (w.drewN n) os).cell? ⟨ba,oa,none⟩=some (I x.p x.r.length x.c):=(gR w).cellG hba e0
   have g1:∀n os,(grow (w.drewN n) os).cell? ⟨bb,ob,none⟩=some (I y.p y.r.length y.c):=(gR w).cellG hbb f0
   have hax:(0:Int)<((x::t).length:Int):=by simp
   have hbx:(0:Int)<((y::u).length:Int):=by simp
   clear e hc hx hy hca hcb ha hb e0 f0
   go_enter Tryz.func199,Tryz.ntmps199
   go_wp2
   refine wp_region_quiet_grown mixed (by kernel_rfl) ?_
   repeat (go_big_quiet_step ((go_at_call 133;refine Calls.grown_of (hO.out _ _))))
   refine wpQuiet_nil ?_
   rintro _ ⟨⟨nq,osq⟩,rfl⟩
   go_wp2
   go_ret
   exact ⟨rfl,⟨nq,osq,rfl⟩⟩
end Go.Proofs.YtkefkplnamkicaaGreatDoor
