import Derived.Test.YtkefkplnamkicabGreatDoorM09
set_option maxRecDepth 100000
set_option maxHeartbeats 8000000
open Go.Ending renaming returned → U
open Go.IntKind renaming i64 → J
open Go.Obj renaming cells → H
open Go.Proofs.Tryz renaming prog → Y
open Go.Value renaming slice → I, int → Z, tuple → F
namespace Go.Proofs.YtkefkplnamkicabGreatDoor
open Go.RowKit Go.Sort Go.Shelf Go.Lib

theorem nN {d:List Int} (hs:d.Pairwise (· ≤ ·)):∀m,m≤d.length→(compactUpTo d.toArray m).Pairwise (· < ·)∧(∀x,x∈compactUpTo d.toArray m↔∃j,∃h:j<d.length,j<m∧d[j]=x):=by
 intro m
 induction m with
 | zero =>
  intro _
  refine ⟨by simp[compactUpTo],fun x=> ?_⟩
  simp[compactUpTo]
 | succ m ih =>
  intro hm
  obtain ⟨h1,h2⟩:=ih (by omega)
  have hmd:m<d.length:=by omega
  have em:d.toArray[m]! = d[m]:=by simp[hmd]
  rw[compactUpTo_succ]
  have hle:∀x∈compactUpTo d.toArray m,x≤d[m]:=by
   intro x hx
   obtain ⟨j,hj,hjm,rfl⟩:=(h2 x).1 hx
   exact (List.pairwise_iff_getElem.1 hs) j m hj hmd hjm
  by_cases hk:keeps d.toArray m=true
  ·rw[if_pos hk,em]
   refine ⟨?_,fun x=> ?_⟩
   ·rw[List.pairwise_append]
    refine ⟨h1,by simp,?_⟩
    intro x hx y hy
    have hy':y=d[m]:=by simpa using hy
    subst hy'
    obtain ⟨j,hj,hjm,rfl⟩:=(h2 x).1 hx
    have hm1:m-1<d.length:=by omega
    have e1:d.toArray[m-1]! = d[m-1]:=by simp[hm1]
    have hne:d[m]≠d[m-1]:=by
     unfold keeps at hk
     have:=of_decide_eq_true hk
     rcases this with k|k
     ·omega
     ·rw[em,e1] at k;exact k
    have a1:d[j]≤d[m-1]:=by
     by_cases e:j=m-1
     ·subst e;exact Int.le_refl _
     ·exact (List.pairwise_iff_getElem.1 hs) j (m-1) hj hm1 (by omega)
    have a2:d[m-1]≤d[m]:=(List.pairwise_iff_getElem.1 hs) (m-1) m hm1 hmd (by omega)
    omega
   ·rw[List.mem_append,h2]
    constructor
    ·rintro (⟨j,hj,hjm,e⟩|k)
     ·exact ⟨j,hj,by omega,e⟩
     ·exact ⟨m,hmd,by omega,(by simpa using k:x=d[m]).symm⟩
    ·rintro ⟨j,hj,hjm,e⟩
     by_cases e2:j=m
     ·subst e2;exact oR (by simp[e])
     ·exact oL ⟨j,hj,by omega,e⟩
  ·rw[if_neg hk,List.append_nil]
   refine ⟨h1,fun x=> ?_⟩
   rw[h2]
   constructor
   ·rintro ⟨j,hj,hjm,e⟩;exact ⟨j,hj,by omega,e⟩
   ·rintro ⟨j,hj,hjm,e⟩
    by_cases e2:j=m
    ·subst e2
     unfold keeps at hk
     have hk':¬(j=0∨d.toArray[j]! ≠ d.toArray[j-1]!):=fun k=>hk (decide_eq_true k)
     have hj0:j≠0:=fun k=>hk' (oL k)
     have hm1:j-1<d.length:=by omega
     have e1:d.toArray[j-1]! = d[j-1]:=by simp[hm1]
     have he:d[j]=d[j-1]:=by
      by_cases k:d[j]=d[j-1]
      ·exact k
      ·exact absurd (oR (by rw[em,e1];exact k)) hk'
     exact ⟨j-1,hm1,by omega,by rw[←he];exact e⟩
    ·exact ⟨j,hj,by omega,e⟩
theorem bW (l:List Int):(aX l).Pairwise (· < ·)∧∀x,x∈aX l↔x∈l:=by
 have hs:(l.mergeSort fun x y=>decide (x≤y)).Pairwise (· ≤ ·):=by
  have:=List.pairwise_mergeSort (le:=fun x y:Int=>decide (x≤y)) (by intro a b c h1 h2;simp only[decide_eq_true_eq] at *;omega) (by intro a b;simp only[Bool.or_eq_true,decide_eq_true_eq];omega) l
  exact this.imp fun h=>by simpa using h
 have h:=nN hs _ (nR _)
 refine ⟨h.1,fun x=> ?_⟩
 show x∈compactUpTo _ _↔_
 rw[h.2]
 constructor
 ·rintro ⟨j,hj,_,e⟩
  rw[←e]
  exact (List.mergeSort_perm l _).mem_iff.1 (gM hj)
 ·intro hx
  obtain ⟨j,hj,e⟩:=List.getElem_of_mem ((List.mergeSort_perm l _).mem_iff.2 hx)
  exact ⟨j,hj,hj,e⟩
theorem py {l m:List Int} (hl:l.Pairwise (· < ·)) (hm:m.Pairwise (· < ·)) (h:∀x,x∈l↔x∈m):l=m:=by
 have nl:l.Nodup:=hl.imp fun h e=>by omega
 have nm:m.Nodup:=hm.imp fun h e=>by omega
 exact List.Perm.eq_of_pairwise (le:=fun x y=>x<y) (fun a b _ _ h1 h2=>by omega) hl hm ((List.perm_ext_iff_of_nodup nl nm).2 h)
theorem vw {l:List Int} {v:Int} (h:∀x,x∈l↔x=v):aX l=[v] :=
 py (bW l).1 (by simp) fun x=>by rw[(bW l).2,h];simp
theorem jn {key col:Int} {e:List Cel} {x:Int}:x∈aK key col e↔∃y∈e,cI key col y=true∧y.2.2.2=x:=by
 unfold aK
 rw[List.mem_map]
 constructor
 ·rintro ⟨y,hy,e⟩
  have:=List.mem_filter.1 hy
  exact ⟨y,this.1,this.2,e⟩
 ·rintro ⟨y,hy,hf,e⟩
  exact ⟨y,List.mem_filter.2 ⟨hy,hf⟩,e⟩
theorem dI {t:Tab} (h:am t=0) {x:Cel} (hx:x∈t.e):aU x.2.1 x.2.2.1 x.2.2.2=true:=by
 obtain ⟨j,hj,rfl⟩:=List.getElem_of_mem hx
 have hk:=(af h).2.2 j hj
 have hg:t.e.getD j ((0,0),0,0,0)=t.e[j]:=by simp[hj]
 unfold e9 at hk
 rw[hg] at hk
 simp only[Bool.and_eq_true] at hk
 exact hk.1.2

end Go.Proofs.YtkefkplnamkicabGreatDoor

namespace Go.Proofs.YtkefkplnamkicabGreatDoor

def grt (l:List Int):Int:=l.getD (l.length-1) 0
def da (e:List Cel) (key:Int):List Int:=[key,grt (aX (aK key 0 e)),grt (aX (aK key 1 e)),grt (aX (aK key 2 e))]
def ofL (t:Tab):List Zit:=(aX (aT t.e)).map fun key=>(da t.e key,1)
theorem xh (l:List Int):grt l=0∨grt l∈l:=by
 unfold grt
 by_cases h:l=[]
 ·subst h;exact oL rfl
 ·have hp:0<l.length:=List.length_pos_iff.2 h
  right
  rw[List.getD_eq_getElem?_getD,List.getElem?_eq_getElem (show l.length-1<l.length by omega)]
  exact gM _
theorem uV {t:Tab} (h:am t=0) {key:Int} (hk:key∈aT t.e):0≤key∧key≤49:=by
 unfold aT at hk
 obtain ⟨y,hy,rfl⟩:=List.mem_map.1 hk
 have:=dI h hy
 simp only[aU,inB,Bool.and_eq_true,decide_eq_true_eq] at this
 exact this.1.1
theorem qt {t:Tab} (h:am t=0) (key col:Int): -1000≤grt (aX (aK key col t.e))∧grt (aX (aK key col t.e))≤1000:=by
 rcases xh (aX (aK key col t.e)) with k|k
 ·rw[k];omega
 ·have h1:=((bW _).2 _).1 k
  obtain ⟨y,hy,_,e⟩:=jn.1 h1
  rw[←e]
  have:=dI h hy
  simp only[aU,inB,Bool.and_eq_true,decide_eq_true_eq] at this
  exact this.2
theorem nX {n:Int} (h: -1000≤n∧n≤1000):okN n=true:=by
 simp only[okN,inB,Bool.and_eq_true,decide_eq_true_eq];omega
theorem zk {t:Tab} (h:am t=0):aw (ofL t)=0:=by
 have hp:=af h
 refine (bx _).2 ⟨?_,?_,?_⟩
 ·have h1:=el (aT t.e)
  have h2:=fZ t.e
  unfold ofL
  rw[List.length_map];omega
 ·intro x hx
  unfold ofL at hx
  obtain ⟨key,hk,rfl⟩:=List.mem_map.1 hx
  have h1:=uV h (((bW _).2 _).1 hk)
  have h2:okN key=true:=nX (by omega)
  unfold okZ okR da
  simp[h2,nX (qt h key 0),nX (qt h key 1),nX (qt h key 2)]
  decide
 ·unfold eB ofL
  rw[List.pairwise_map]
  refine (bW (aT t.e)).1.imp fun {a b} hab=> ?_
  show (if bj a b=0 then _ else bj a b)<0
  have:=dd a b
  rw[if_neg (by omega)];omega

end Go.Proofs.YtkefkplnamkicabGreatDoor

namespace Go.Proofs.YtkefkplnamkicabGreatDoor
open Go.RowKit Go.Sort

theorem nP (l:List Int) (A:Option Addr) (cap:Nat) (w:World) (hl:l.length≤maxLen) (hr:ar w A l) :
  Calls Y 31 #[I A l.length cap] w fun e w'=>e= U (Z J (grt l))∧Gr w w':=by
 unfold maxLen at hl
 by_cases h:l=[]
 ·subst h
  go_enter Tryz.func31,Tryz.ntmps31
  go_wp2
  go_ret
  exact ⟨rfl,gR _⟩
 ·have hp:0<l.length:=List.length_pos_iff.2 h
  have hk:l.length-1<l.length:=by omega
  obtain ⟨b,off,rfl,hb,hcs⟩:=hr.at hk
  obtain ⟨x,hx⟩:∃x,l[l.length-1]=x:=⟨_,rfl⟩
  have e0:=hcs (l.length-1) hk 0 (by omega)
  rw[hx] at e0
  have e1:w.cell? ⟨b,off+(l.length-1),none⟩=some (Z J x):=by simpa[eM] using e0
  have hfin:Hid (grt l=x):=by
   show _=_
   unfold grt
   rw[List.getD_eq_getElem?_getD,List.getElem?_eq_getElem hk,←hx];rfl
  obtain ⟨n,hn⟩:∃n,l.length=n+1:=⟨l.length-1,by omega⟩
  rw[hn] at e1 ⊢
  rw[Nat.add_sub_cancel] at e1
  have hne:(((n+1:Nat):Int)==0)=false:=by simp;omega
  have hw:IntKind.i64.wrap (((n+1:Nat):Int)-1)=(n:Int):=by rw[IntKind.wrap_i64];omega
  have hlt:(n:Int)<((n+1:Nat):Int):=by omega
  clear hcs e0 hx h
  go_enter Tryz.func31,Tryz.ntmps31
  go_wp2
  go_ret
  exact ⟨by rw[hfin.out];rfl,gR _⟩


def ofR (t:Tab):List Zit:=if am t=0 then ofL t else []
theorem yE {t:Tab} (h:am t≠0):ofR t=[]:=by unfold ofR;rw[if_neg h]
theorem yF {t:Tab} (h:am t=0):ofR t=ofL t:=by unfold ofR;rw[if_pos h]

theorem qV (e:List Cel) (key:Int) {j:Nat} (h:j<3):(da e key).take (j+1+1)=(da e key).take (j+1)++[grt (aX (aK key j e))]:=by
 have hj:j=0∨j=1∨j=2:=by omega
 rcases hj with rfl|rfl|rfl<;>rfl
theorem np (e:List Cel) (key:Int):(da e key).length=4:=rfl
theorem qW (e:List Cel) (key:Int) (j:Nat):((da e key).take j).length≤4:=by rw[List.length_take,np];omega

theorem qP (t:Tab) (A:Option Addr) (ca:Nat) (D:Option Addr) (cd:Nat) (w:World) (hl:t.c.l.length≤maxLen) (hel:t.e.length≤maxLen) (hr:Row w A t.c.l) (hd:bA w D t.e) :
  Calls Y 18 #[.agg (T6 t A ca D cd).toArray] w fun e w'=>∃(L:List Itm) (C:Option Addr) (c:Nat),e= U (F #[I C L.length c,Z J (am t)])∧L.map Itm.z=ofR t∧Items w' C L∧du C L.length c∧Below w.heap.size w w'∧iE w.heap.size C L:=by
 have ht0:TabAt (w.alloc (H #[Z J t.c.c0,Z J t.c.c1,Z J t.c.c2,Z J t.c.c3,I A t.c.l.length ca,I D t.e.length cd] 42)) w.heap.size t A ca D cd:=TabAt.new 42 hr hd rfl
 have hbw0:Below w.heap.size w (w.alloc (H #[Z J t.c.c0,Z J t.c.c1,Z J t.c.c2,Z J t.c.c3,I A t.c.l.length ca,I D t.e.length cd] 42)):=((gR w).alloc _).below
 have hck:=ef t A ca D cd (w.alloc (H #[Z J t.c.c0,Z J t.c.c1,Z J t.c.c2,Z J t.c.c3,I A t.c.l.length ca,I D t.e.length cd] 42)) hl hel ht0.row ht0.rowC
 have hckH:Hid _:=hck
 clear hck hl hel hr hd
 go_enter Tryz.func18,Tryz.ntmps18
 obtain ⟨k0,k1,k2,k3,k4,k5⟩:_∧_∧_∧_∧_∧_:=⟨ht0.k0,ht0.k1,ht0.k2,ht0.k3,ht0.k4,ht0.k5⟩
 go_wp2_with fail
 refine cM (show Calls _ _ _ _ _ from hckH.out) ?_
 rintro e w1 ⟨rfl,hg1⟩
 clear hckH k0 k1 k2 k3 k4 k5
 have ht1:Hid (TabAt w1 w.heap.size t A ca D cd∧Below w.heap.size w w1):=⟨ht0.gr hg1,hbw0.trans (hg1.below.mono hbw0.size)⟩
 clear ht0 hbw0 hg1
 obtain ⟨E,hE⟩:∃E,am t=E:=⟨_,rfl⟩
 have hEH:Hid (am t=E):=hE
 rw[hE]
 clear hE
 cases hq:(E != 0)
 ·have hE0:E=0:=by simpa using hq
  have h0H:Hid (am t=0):=by show _=_;rw[hEH.out,hE0]
  subst hE0
  clear hEH hq
  have hsz:Hid (t.e.length*40≤140737488355328∧t.e.length≤400):=by have:=(af h0H.out).2.1;exact ⟨by omega,this⟩
  have hky:=lm t A ca D cd w1 hsz.out.1 ht1.out.1.row ht1.out.1.rowC
  have hkyH:Hid _:=hky
  clear hky
  obtain ⟨k0,k1,k2,k3,k4,k5⟩:_∧_∧_∧_∧_∧_:=⟨ht1.out.1.k0,ht1.out.1.k1,ht1.out.1.k2,ht1.out.1.k3,ht1.out.1.k4,ht1.out.1.k5⟩
  go_wp2_with fail
  refine cM (show Calls _ _ _ _ _ from hkyH.out) ?_
  rintro e w2 ⟨K,kc,rfl,hrk,hb2⟩
  clear hkyH k0 k1 k2 k3 k4 k5
  have ht2:Hid (TabAt w2 w.heap.size t A ca D cd∧Below w.heap.size w w2):=⟨ht1.out.1.below hb2,ht1.out.2.trans (hb2.mono ht1.out.2.size)⟩
  obtain ⟨ks,hks⟩:∃ks,aX (aT t.e)=ks:=⟨_,rfl⟩
  have hksH:Hid (aX (aT t.e)=ks∧ar w2 K ks):=⟨hks,by rw[←hks];exact hrk⟩
  have hkl:ks.length≤400:=by
   rw[←hks]
   exact nT (el _) (nT (fZ _) hsz.out.2)
  rw[hks]
  clear hks hrk hb2 ht1
  go_wp2
  go_loopw [5,18] (fun v i wr=>∃(k:Nat) (L:List Itm),k≤ks.length∧i= Z J k∧Hid (L.length=k)∧Hid (L.map Itm.z=(ks.take k).map (fun key=>(da t.e key,1)))∧Hid (OwnT wr w2.heap.size v L∧Below w2.heap.size w2 wr)) (fun _ i _=>ks.length-(intOf i).toNat)
  case atStart=>exact ⟨0,[],by omega,rfl,rfl,by simp[Hid],OwnT.nil _ _,bR _ _⟩
  case round =>
   rename World=>w3
   obtain ⟨k,L,hk,rfl,hLk,hLz,hov⟩:=hrel
   by_cases hlt:k<ks.length
   ·have hltz:(k:Int)<(ks.length:Int):=by omega
    have hrk3:ar w3 K ks:=hksH.out.2.below hov.out.2
    obtain ⟨bb,off,rfl,hb,hcs⟩:=hrk3.at hlt
    obtain ⟨key,hkey⟩:∃x,ks[k]=x:=⟨_,rfl⟩
    have e0:=hcs k hlt 0 (by omega)
    rw[hkey] at e0
    have e1:w3.cell? ⟨bb,off+k,none⟩=some (Z J key):=by simpa[eM] using e0
    have hst:Hid ((ks.take (k+1)).map (fun key=>(da t.e key,(1:Int)))=(ks.take k).map (fun key=>(da t.e key,1))++[(da t.e key,1)]):=by show _=_;rw[List.take_succ_eq_append_getElem hlt,hkey];simp
    have ht3:Hid (TabAt w3 w.heap.size t A ca D cd):=ht2.out.1.below hov.out.2
    clear hcs e0 hkey hrk3
    go_wp2
    go_loopw [8,24] (fun v i wr=>∃j:Nat,j≤3∧i= Z J j∧Hid (ed wr w3.heap.size v ((da t.e key).take (j+1))∧Below w3.heap.size w3 wr)) (fun _ i _=>3-(intOf i).toNat)
    case atStart=>exact ⟨0,by omega,rfl,World.ownsRow_lit w3 #[Z J key] 1 (nR _) (by unfold maxLen;omega) rfl,((gR _).alloc _).below⟩
    case round =>
     rename World=>w4
     obtain ⟨j,hj,rfl,how⟩:=hrel
     have ht4:Hid (TabAt w4 w.heap.size t A ca D cd):=ht3.out.below how.out.2
     by_cases hj3:j<3
     ·have hj3z:(j:Int)<3:=by omega
      obtain ⟨k0,k1,k2,k3,k4,k5⟩:_∧_∧_∧_∧_∧_:=⟨ht4.out.k0,ht4.out.k1,ht4.out.k2,ht4.out.k3,ht4.out.k4,ht4.out.k5⟩
      have hvl:=gj t A ca D cd key j w4 hsz.out.1 ht4.out.row ht4.out.rowC
      have hvlH:Hid _:=hvl
      clear hvl
      go_wp2_with fail
      refine cM (show Calls _ _ _ _ _ from hvlH.out) ?_
      rintro e w5 ⟨V,vc,rfl,hrv,hb5⟩
      clear hvlH k0 k1 k2 k3 k4 k5
      have hgt:=nP (aX (aK key j t.e)) V vc w5 (by have h1:=el (aK key j t.e);have h2:=j5 key j t.e;have h3:=hsz.out.2;unfold maxLen;omega) hrv
      have hgtH:Hid _:=hgt
      clear hgt hrv
      go_wp2_with fail
      refine cM (show Calls _ _ _ _ _ from hgtH.out) ?_
      rintro e w6 ⟨rfl,hg6⟩
      clear hgtH
      obtain ⟨gv,hgv⟩:∃g,grt (aX (aK key j t.e))=g:=⟨_,rfl⟩
      have hst2:Hid ((da t.e key).take (j+1+1)=(da t.e key).take (j+1)++[gv]):=by show _=_;rw[qV _ _ hj3,hgv]
      rw[hgv]
      obtain ⟨M,hM⟩:∃M,(da t.e key).take (j+1)=M:=⟨_,rfl⟩
      have hMl:M.length≤4:=by rw[←hM];exact qW _ _ _
      rw[hM] at how hst2
      have hb6:Below w4.heap.size w4 (w6.alloc (H #[Z J gv] 3)):=hb5.trans ((hg6.trans ((gR _).alloc _)).below.mono hb5.size)
      have hoX:Hid (ed (w6.alloc (H #[Z J gv] 3)) w3.heap.size u8 M∧ar (w6.alloc (H #[Z J gv] 3)) (some ⟨w6.heap.size,0,none⟩) [gv]∧M.length+1≤maxLen∧(M.length+1)*8≤140737488355328∧Below w3.heap.size w3 (w6.alloc (H #[Z J gv] 3))):=⟨how.out.1.below hb6,im rfl gv 3,by unfold maxLen;omega,by omega,how.out.2.trans (hb6.mono how.out.2.size)⟩
      clear hM hMl hgv hb5 hg6 hb6 how
      go_wp2_with (at_builtin;refine aW _ rfl (.tmp 27) (.tmp 33) rfl w3.heap.size u8 M [gv] (some ⟨w6.heap.size,0,none⟩) 1 rfl rfl hoX.out.1 hoX.out.2.1 (fun h=>by cases h) hoX.out.2.2.1 hoX.out.2.2.2.1 hoX.out.2.2.2.2.size ?_;intro v7 w7 hown7 hg7)
      have hfin7:Hid (ed w7 w3.heap.size v7 (M++[gv])∧Below w3.heap.size w3 w7):=⟨hown7,hoX.out.2.2.2.2.trans (ai.grown_below hoX.out.1 hg7 hoX.out.2.2.2.2.size)⟩
      clear hown7 hg7 hoX
      go_roundw
      case rel=>exact ⟨j+1,by omega,by go_num,by rw[hst2.out];exact hfin7⟩
      case measure=>simp[intOf];omega
     ·have hj3z:¬(j:Int)<3:=by omega
      obtain rfl:j=3:=by omega
      have hrw:ed w4 w3.heap.size u8 (da t.e key):=how.out.1
      obtain ⟨C,c,rfl,hC,hrow,hlt4⟩:=ai.row bP hrw
      have hwX:Below w3.heap.size w3 (w4.alloc (H #[I C (da t.e key).length c,Z J 1] 58)):=how.out.2.alloc how.out.2.size _
      have hoX:Hid (OwnT (w4.alloc (H #[I C (da t.e key).length c,Z J 1] 58)) w2.heap.size u5 L∧Apart (w4.alloc (H #[I C (da t.e key).length c,Z J 1] 58)) w2.heap.size u5.ownBlock ⟨C,c,da t.e key,1⟩∧(L.length+1≤maxLen∧(L.length+1)*32≤140737488355328)∧w2.heap.size≤(w4.alloc (H #[I C (da t.e key).length c,Z J 1] 58)).heap.size∧Below w2.heap.size w2 (w4.alloc (H #[I C (da t.e key).length c,Z J 1] 58))):=by
       have hsz3:=hov.out.2.size
       have hLl:=hLk.out
       have hbX:=hov.out.2.trans (hwX.mono hsz3)
       refine ⟨hov.out.1.below hwX,⟨hrow.gr ((gR _).alloc _),by show (da t.e key).length≤maxLen;rw[np];unfold maxLen;omega,hC,fun a ha=>⟨?_,?_,?_⟩⟩,⟨?_,?_⟩,hbX.size,hbX⟩
       ·have h1:=(hlt4 a ha).1;omega
       ·have h1:=(hlt4 a ha).2;simp;omega
       ·intro e
        have h1:=(World.ownsRow.lt hov.out.1.own a.block e).2
        have h2:=(hlt4 a ha).1
        omega
       ·unfold maxLen;omega
       ·omega
      obtain ⟨R,hR⟩:∃R,da t.e key=R:=⟨_,rfl⟩
      rw[hR] at hoX hst ⊢
      clear hrw hrow hC hlt4 hwX how hR
      go_wp2_with (at_builtin;refine eJ _ rfl (.tmp 36) (.tmp 39) rfl w2.heap.size u5 L ⟨C,c,R,1⟩ ⟨w4.heap.size,0,none⟩ 1 rfl rfl hoX.out.1 (d9 rfl ⟨C,c,R,1⟩ 58) hoX.out.2.1 hoX.out.2.2.1.1 hoX.out.2.2.1.2 hoX.out.2.2.2.1 ?_;intro v8 w8 hown8 hb8)
      have hov3:Hid (OwnT w8 w2.heap.size v8 (L++[⟨C,c,R,1⟩])∧Below w2.heap.size w2 w8):=⟨hown8,hoX.out.2.2.2.2.trans hb8⟩
      clear hown8 hb8 hoX
      go_roundw
      case rel =>
       refine ⟨k+1,L++[⟨C,c,R,1⟩],by omega,by go_num,?_,?_,hov3⟩
       ·show _=_;simp[hLk.out]
       ·show _=_;rw[hst.out,List.map_append,hLz.out];rfl
      case measure=>simp[intOf];omega
   ·have hltz:¬(k:Int)<(ks.length:Int):=by omega
    have hke:ks.take k=ks:=List.take_of_length_le (by omega)
    have hfin:Hid (L.map Itm.z=ofR t):=by
     show _=_
     rw[hLz.out,hke,yF h0H.out]
     unfold ofL
     rw[hksH.out.1]
    obtain ⟨A2,cap2,hv2,hn2,hit,hA2⟩:=hov.out.1.items
    have hfin2:Hid (Items w3 A2 L∧du A2 L.length cap2∧Below w.heap.size w w3∧iE w.heap.size A2 L):=⟨hit,hn2,ht2.out.2.trans (hov.out.2.mono ht2.out.2.size),fun a ha=>nT ht2.out.2.size (hA2 a ha).1,fun x hx a ha=>nT ht2.out.2.size ((hov.out.1.each x hx).own a ha).1⟩
    subst hv2
    clear hke hit hn2 hA2 hov
    go_wp2
    go_ret2
    exact ⟨L,A2,cap2,by rw[h0H.out];rfl,hfin.out,hfin2.out.1,hfin2.out.2.1,hfin2.out.2.2⟩
 ·have hE0:E≠0:=by simpa using hq
  have hfin:Hid (ofR t=[]):=yE (by rw[hEH.out];exact hE0)
  clear hE0
  go_wp2
  go_ret2
  exact ⟨[],none,0,by rw[hEH.out];rfl,by rw[hfin.out];rfl,⟨oL rfl,fun x hx=>by cases hx⟩,fun _=>rfl,ht1.out.2,iE.none _⟩
theorem yG (t:Tab) (A:Option Addr) (ca:Nat) (D:Option Addr) (cd:Nat) (w:World) (hl:t.c.l.length≤maxLen) (hel:t.e.length≤maxLen) (hr:Row w A t.c.l) (hd:bA w D t.e) :
  Calls Y 18 #[.agg (T6 t A ca D cd).toArray] w fun e w'=>∃(L:List Itm) (C:Option Addr) (c:Nat),e= U (F #[I C L.length c,Z J (am t)])∧L.map Itm.z=ofR t∧Items w' C L∧du C L.length c∧Below w.heap.size w w' :=
 (qP t A ca D cd w hl hel hr hd).mono fun _ _ ⟨L,C,c,h1,h2,h3,h4,h5,_⟩=>⟨L,C,c,h1,h2,h3,h4,h5⟩

end Go.Proofs.YtkefkplnamkicabGreatDoor

namespace Go.Proofs.YtkefkplnamkicabGreatDoor

structure TS (z:List Zit):Prop where
 ok:aw z=0
 wide:cV 4 z
 len:z.length≤50
 one:∀x∈z,x.2=1
theorem TS.nil:TS []:=⟨by decide,fun x hx=>(by cases hx),by simp,fun x hx=>(by cases hx)⟩
theorem lL:∀(l:List Int) (lo hi:Int),l.Pairwise (· < ·)→(∀x∈l,lo≤x∧x≤hi)→(l.length:Int)≤max 0 (hi-lo+1)
 | [],lo,hi,_,_=>by simp;omega
 | x::l,lo,hi,hp,hb=>by
  have h1:=List.pairwise_cons.1 hp
  have hx:=hb x (by simp)
  have:=lL l (x+1) hi h1.2 fun y hy=>⟨by have:=h1.1 y hy;omega,(hb y (by simp[hy])).2⟩
  simp only[List.length_cons]
  omega
theorem TS.of {t:Tab} (h:am t=0):TS (ofR t):=by
 have e:ofR t=ofL t:=by unfold ofR;rw[if_pos h]
 rw[e]
 refine ⟨zk h,fun x hx=> ?_,?_,fun x hx=> ?_⟩
 ·unfold ofL at hx
  obtain ⟨key,_,rfl⟩:=List.mem_map.1 hx
  rfl
 ·unfold ofL
  rw[List.length_map]
  have:=lL (aX (aT t.e)) 0 49 (bW _).1 fun x hx=>uV h (((bW _).2 _).1 hx)
  omega
 ·unfold ofL at hx
  obtain ⟨key,_,rfl⟩:=List.mem_map.1 hx
  rfl
theorem TS.wt {z:List Zit} (h:TS z) (r:List Int):0≤wt z r∧wt z r≤1:=by
 by_cases h0:Proofs.YtkefkplnamkicabGreatDoor.wt z r=0
 ·omega
 ·obtain ⟨x,hx,e⟩:=og h0
  have:=((bx z).1 h.ok).2.2.wt hx
  rw[e,h.one x hx] at this
  omega
theorem TS.row {z:List Zit} (h:TS z) {x:Zit} (hx:x∈z):okR x.1=true:=(bL (((bx z).1 h.ok).2.1 x hx)).1
theorem kS (a b:List Zit) (r:List Int):wt (bf a b) r=wt a r-wt b r:=by
 unfold bf
 rw[(bi _).same,gk]
theorem t8 {n:Int} (h: -1≤n∧n≤1):okW n=true:=by
 simp only[okW,inB,Bool.and_eq_true,decide_eq_true_eq];omega
theorem TS.mem {a b:List Zit} {x:Zit} (hx:x∈bf a b):∃y∈a++b,y.1=x.1:=by
 obtain ⟨y,hy,e⟩:=(bi (a++f9 b)).row hx
 rcases List.mem_append.1 hy with k|k
 ·exact ⟨y,List.mem_append.2 (oL k),e⟩
 ·obtain ⟨z,hz,e2⟩:=kD k
  exact ⟨z,List.mem_append.2 (oR hz),e2.trans e⟩
theorem wN {a b:List Zit} (ha:TS a) (hb:TS b):(bf a b).length≤100:=by
 have:=jA (a++f9 b)
 have h1:=ha.len
 have h2:=hb.len
 have h3:(f9 b).length=b.length:=by unfold f9;exact List.length_map _
 unfold bf
 rw[List.length_append,h3] at this
 omega
theorem fU {a b:List Zit} (ha:TS a) (hb:TS b):aw (bf a b)=0∧cV 4 (bf a b):=by
 have hl:=wN ha hb
 have ht:=bi (a++f9 b)
 refine ⟨(bx _).2 ⟨by omega,fun x hx=> ?_,ht.rise⟩,fun x hx=> ?_⟩
 ·obtain ⟨y,hy,e⟩:=TS.mem hx
  have hr:okR x.1=true:=by
   rw[←e]
   rcases List.mem_append.1 hy with k|k
   ·exact ha.row k
   ·exact hb.row k
  have hw:okW x.2=true:=by
   have:=ht.rise.wt hx
   rw[←this,ht.same,gk]
   have h1:=ha.wt x.1
   have h2:=hb.wt x.1
   exact t8 (by omega)
  have hz:=ht.noz x hx
  unfold okZ
  rw[hr,hw]
  simpa using hz
 ·obtain ⟨y,hy,e⟩:=TS.mem hx
  rw[←e]
  rcases List.mem_append.1 hy with k|k
  ·exact ha.wide y k
  ·exact hb.wide y k
theorem pV {a b c:List Zit} (ha:aw a=0) (hb:aw b=0) (hc:aw c=0) (h:∀r,wt c r=wt a r+wt b r):aR a b=0∧aP a b=c:=by
 have hC:=(bx c).1 hc
 have e2:cU (a++b)=c:=(bi _).uniq (⟨hC.2.2,rP hC.2.1,fun _=>rfl⟩:IsTot c c) fun r=>by rw[cC,h]
 have e1:dc (a++b)=0:=by
  unfold dc
  rw[e2,if_pos]
  rw[List.all_eq_true]
  intro x hx
  exact (bL (hC.2.1 x hx)).2.1
 have e3:aR a b=0:=by
  unfold aR
  rw[if_pos ha,if_pos hb,if_pos e1,if_neg (by rw[e2];omega)]
 exact ⟨e3,by unfold aP;rw[if_pos e3,e2]⟩
theorem mu {a b:List Zit} (ha:TS a) (hb:TS b):aR a (gx b)=0∧aP a (gx b)=bf a b:=by
 have e:gx b=f9 b:=by unfold gx;rw[if_pos hb.ok];rfl
 rw[e]
 refine pV ha.ok (xm hb.ok) (fU ha hb).1 fun r=> ?_
 rw[kS]
 unfold f9
 rw[ww]
 omega
theorem kJ {k z z':List Zit} (hk:TS k) (hz:TS z) (hz':TS z'):aR (bf z k) (bf z' z)=0∧aP (bf z k) (bf z' z)=bf z' k :=
 pV (fU hz hk).1 (fU hz' hz).1 (fU hz' hk).1 fun r=>by rw[kS,kS,kS];omega
theorem ft {k z:List Zit} (hk:TS k) (hz:TS z):aR k (bf z k)=0∧aP k (bf z k)=z :=
 pV hk.ok (fU hz hk).1 hz.ok fun r=>by rw[kS];omega
theorem oE (z:List Zit):bf z z=[]:=by
 have h:=bi (z++f9 z)
 refine h.uniq (m:=[]) (T:=[]) ⟨List.Pairwise.nil,fun x hx=>(by cases hx),fun r=>rfl⟩ fun r=> ?_
 rw[gk]
 show _=0
 omega
theorem oD {z:List Zit} (h:aw z=0):bf z []=z:=by
 unfold bf f9
 rw[List.map_nil,List.append_nil]
 exact vZ h
theorem qo {q:List Stp} {k l z y:List Zit} (hk:TS k) (hl:TS l) (hz:TS z) (hy:TS y):ir q k l (bf z k) (bf y l)=cL q z y:=by
 unfold ir
 rw[if_pos (xI (fU hz hk).1 (fU hy hl).1 (fU hz hk).2 (fU hy hl).2),if_pos (ft hk hz).1,if_pos (ft hl hy).1,(ft hk hz).2,(ft hl hy).2]
end Go.Proofs.YtkefkplnamkicabGreatDoor

namespace Go.Proofs.YtkefkplnamkicabGreatDoor
open Go.RowKit Go.Sort Go.Maps

def yT (N:Nat) (s:Sl):Prop:=(∀a,s.A=some a→a.block<N)∧∀x∈s.l,∀a,x.p=some a→a.block<N
def zX (ss:List Sl):Prop:=∀s0 t,ss=s0::t→∃N,yT N s0∧∀s∈t,iE N s.A s.l
structure AInv (w wr:World) (a b:List Zit) (q:List Stp) (j:Nat) (u:Value) (ss:List Sl) (S:List (List Zit)) (ah:List Int):Prop where
 own:ai eD 1 53 wr w.heap.size u ss
 each:∀s∈ss,Lv wr s.A s.cap s.l∧Far u.ownBlock s
 z:ss.map (fun s=>s.l.map Itm.z)=S
 len:ss.length=j
 ahd:Ahd S ah
 wid:(dr (q.drop j) ah).isSome=true
 e:iF a b (q.drop j) S=iF a b q []
 f:ku a b (q.drop j) S=ku a b q []
 bel:Below w.heap.size w wr
 nw:∀s∈ss,NwT wr s.cap w.heap.size s.A s.l
 sep:∀s0 t,ss=s0::t→∃N,N≤wr.heap.size∧yT N s0∧∀s∈t,iE N s.A s.l

theorem NwT.grown {w w':World} {k n:Nat} {C:Option Addr} {L:List Itm} {row:Option Nat} (h:NwT w k n C L) (q:w.grownBy w' row) (h1:∀g,row=some g→∃cur T,w.heap[g]? = some (H cur T (0,0))∧T≠3) (h2:∀g,row=some g→∃cur T,w.heap[g]? = some (H cur T (0,0))∧T≠58):NwT w' k n C L:=⟨h.new,h.arr.grown q h2,h.rows.grown q h1⟩
theorem AInv.step {w wr WX w2 w3:World} {a b:List Zit} {q:List Stp} {j:Nat} {u v3:Value} {ss:List Sl} {S:List (List Zit)} {ah:List Int} {s:Stp} {L:List Itm} {C:Option Addr} {k:Nat} {o:Obj} (h:AInv w wr a b q j u ss S ah) (hs:q.drop j=s::q.drop (j+1)) (ha:cV 4 a) (hb:cV 4 b) (hT:aV s a b S=0) (hgX:Gr wr WX) (hz:L.map Itm.z=aY s a b S) (hL:Lv w2 C k L) (hB:Below WX.heap.size WX w2) (hN:NwT w2 k WX.heap.size C L)
  (hown:ai eD 1 53 w3 w.heap.size v3 (ss++[⟨C,k,L⟩])) (hg:(w2.alloc o).grownBy w3 u.ownBlock) (hloc:v3.ownBlock=u.ownBlock∨v3.ownBlock=some (w2.alloc o).heap.size):AInv w w3 a b q (j+1) v3 (ss++[⟨C,k,L⟩]) (S++[aY s a b S]) (ah++[aJ s ah]):=by
 have hw:=j6 (by rw[←hs];exact h.wid)
 have hr:=lO hw.1 h.ahd ha hb hT
 have hgA:Gr w2 (w2.alloc o):=(gR _).alloc _
 have hb2:Below wr.heap.size wr (w2.alloc o):=hgX.below.trans ((hB.trans (hgA.below.mono hB.size)).mono hgX.size)
 have hlt:∀g,u.ownBlock=some g→g<wr.heap.size∧w.heap.size≤g:=fun g e=>⟨(World.ownsRow.lt h.own g e).2,(World.ownsRow.lt h.own g e).1⟩
 have hfar:∀(x:Sl),Lv (w2.alloc o) x.A x.cap x.l→Far u.ownBlock x→Far v3.ownBlock x:=fun x hx hf=>by
  rcases hloc with e|e
  ·rw[e];exact hf
  ·rw[e];exact Far.top hx (nR _)
 have he:iF a b (q.drop j) S=iF a b (q.drop (j+1)) (S++[aY s a b S]):=by
  rw[hs]
  show (if aV s a b S=0 then _ else _)=_
  rw[if_pos hT]
 have hf:ku a b (q.drop j) S=ku a b (q.drop (j+1)) (S++[aY s a b S]):=by
  rw[hs]
  show (if aV s a b S=0 then _ else _)=_
  rw[if_pos hT]
 refine ⟨hown,fun x hx=> ?_,by rw[List.map_append,h.z];simp[hz],by simp[h.len],h.ahd.snoc hr.1 hr.2,hw.2,by rw[←he];exact h.e,by rw[←hf];exact h.f,?_,?_,?_⟩
 ·rcases List.mem_append.1 hx with e|e
  ·have h1:=h.each x e
   have h2:=h1.1.below hb2
   exact ⟨h2.grown hg h1.2,hfar x h2 h1.2⟩
  ·rw[List.mem_singleton.1 e]
   have h2:Lv (w2.alloc o) C k L:=hL.gr hgA
   have hf2:Far u.ownBlock ⟨C,k,L⟩:=Far.new (n:=WX.heap.size) hN.new (fun g e2=>nL (hlt g e2).1 hgX.size)
   exact ⟨Lv.grown (s:=⟨C,k,L⟩) h2 hg hf2,hfar ⟨C,k,L⟩ h2 hf2⟩
 ·exact (h.bel.trans (hb2.mono h.bel.size)).grown hg (nT h.bel.size hb2.size) (fun g e=>(hlt g e).2)
 ·intro x hx
  have ho:=h.own.below hb2
  rcases List.mem_append.1 hx with e|e
  ·exact ((h.nw x e).below hb2).grown hg (ho.typed (by decide)) (ho.typed (by decide))
  ·rw[List.mem_singleton.1 e]
   exact ((hN.mono (nT h.bel.size hgX.size)).below hgA.below).grown hg (ho.typed (by decide)) (ho.typed (by decide))
 ·intro s0 t hst
  have ho:=h.own.below hb2
  have hsz:wr.heap.size≤w3.heap.size:=nT hb2.size hg.size
  cases ss with
  | nil =>
   have h1:s0=⟨C,k,L⟩∧t=[]:=by simpa using hst.symm
   obtain ⟨rfl,rfl⟩:=h1
   have h2:=(hN.below hgA.below).grown hg (ho.typed (by decide)) (ho.typed (by decide))
   exact ⟨w3.heap.size,nR _,⟨h2.arr.lt,fun x hx=>(h2.rows x hx).1.lt⟩,fun s hs=>by cases hs⟩
  | cons y r =>
   have h1:y=s0∧r++[⟨C,k,L⟩]=t:=by simpa using hst
   obtain ⟨rfl,rfl⟩:=h1
   obtain ⟨N,hN1,hN2,hN3⟩:=h.sep y r rfl
   refine ⟨N,nT hN1 hsz,hN2,fun s hs=> ?_⟩
   rcases List.mem_append.1 hs with e|e
   ·exact hN3 s e
   ·rw[List.mem_singleton.1 e]
    exact hN.new.mono (nT hN1 hgX.size)
theorem xA {W:World} {n:Nat} (hn:W.heap.size=n) (x:Sl) (T:TypeId):ay eD 1 (W.alloc (H #[I x.A x.l.length x.cap] T)) (some ⟨n,0,none⟩) [x]:=by
 subst hn
 refine oR ⟨W.heap.size,0,rfl,by simp,fun j hj i hi=> ?_⟩
 obtain rfl:j=0:=by simp at hj;omega
 obtain rfl:i=0:=by omega
 exact ab (w:=W) (gR _) (j:=0) rfl

structure NewS (w:World) (n:Nat) (C:Option Addr) (k:Nat) (ss:List Sl):Prop where
 own:ai eD 1 53 w n (I C ss.length k) ss
 each:∀s∈ss,NwT w s.cap n s.A s.l
 sep:zX ss
theorem NewS.none (w:World) (n:Nat):NewS w n none 0 []:=⟨ai.nil _ _ _ _ _,fun s hs=>(by cases hs),fun s0 t h=>by cases h⟩

theorem wC (q:List Stp) (QA:Option Addr) (cq:Nat) (a b:List Itm) (A B:Option Addr) (ca cb:Nat) (w:World) (hl:q.length≤maxLen) (hq:Stps w QA q) (ha:Lv w A ca a) (hb:Lv w B cb b) :
  Calls Y 150 #[I QA q.length cq,I A a.length ca,I B b.length cb] w fun e w'=>∃(ss:List Sl) (C:Option Addr) (k:Nat),e= U (F #[I C ss.length k,Z J (cL q (a.map Itm.z) (b.map Itm.z))])∧Sts w' C ss (iS q (a.map Itm.z) (b.map Itm.z))∧Below w.heap.size w w'∧NewS w' w.heap.size C k ss:=by
 obtain ⟨E1,hE1⟩:∃E,bX q=E:=⟨_,rfl⟩
 obtain ⟨E2,hE2⟩:∃E,gi (a.map Itm.z) (b.map Itm.z)=E:=⟨_,rfl⟩
 have hC0:=nM (A:=QA) (ca:=cq) hE1 hl hq
 have hC:Hid _:=hC0
 obtain ⟨P,hP⟩:∃P,cL q (a.map Itm.z) (b.map Itm.z)=P:=⟨_,rfl⟩
 rw[hP]
 have hH:Hid (Stps w QA q∧Lv w A ca a∧Lv w B cb b∧bX q=E1∧cL q (a.map Itm.z) (b.map Itm.z)=P∧gi (a.map Itm.z) (b.map Itm.z)=E2):=⟨hq,ha,hb,hE1,hP,hE2⟩
 clear hC0 hq ha hb hE1 hE2 hP hl
 go_enter Tryz.func150,Tryz.ntmps150
 go_wp2_with fail
 refine cM (show Calls _ _ _ _ _ from hC.out) ?_
 rintro e w0 ⟨rfl,hb0⟩
 have hbZ:Hid (Below w.heap.size w w0∧Stps w0 QA q∧Lv w0 A ca a∧Lv w0 B cb b):=⟨hb0,hH.out.1.below hb0,hH.out.2.1.below hb0,hH.out.2.2.1.below hb0⟩
 clear hb0 hC
 cases h0:(E1 != 0)
 rotate_left
 focus
  have hfin:Hid (E1=P∧iS q (a.map Itm.z) (b.map Itm.z)=[]):=by
   have hn:¬E1=0:=by simpa using h0
   have hp:P=E1:=by rw[←hH.out.2.2.2.2.1];unfold cL;rw[j7,if_neg (show ¬bX q=0 by rw[hH.out.2.2.2.1];exact hn),if_neg (show ¬bX q=0 by rw[hH.out.2.2.2.1];exact hn)];exact hH.out.2.2.2.1
   refine ⟨hp.symm,?_⟩
   unfold iS;rw[if_neg (by rw[hH.out.2.2.2.2.1,hp];exact hn)]
  go_wp2
  go_ret2
  exact ⟨[],none,0,by rw[←hfin.out.1];rfl,⟨oL rfl,fun s hs=>(by cases hs),by rw[hfin.out.2];rfl⟩,hbZ.out.1,NewS.none _ _⟩
 have hE10:Hid (bX q=0):=by show _=_;rw[hH.out.2.2.2.1];simpa using h0
 have hT0:=iZ a b A B ca cb w0 hbZ.out.2.2.1 hbZ.out.2.2.2
 rw[hH.out.2.2.2.2.2] at hT0
 have hT:Hid _:=hT0
 clear hT0
 go_wp2_with fail
 refine cM (show Calls _ _ _ _ _ from hT.out) ?_
 rintro e wt0 ⟨rfl,hgt⟩
 have hbY:Hid (Below w.heap.size w wt0∧Stps wt0 QA q∧Lv wt0 A ca a∧Lv wt0 B cb b):=⟨hbZ.out.1.trans (hgt.below.mono hbZ.out.1.size),hbZ.out.2.1.gr hgt,hbZ.out.2.2.1.gr hgt,hbZ.out.2.2.2.gr hgt⟩
 clear hgt hT hbZ
 cases h1:(E2 != 0)
 ·have hE0:lW q (a.map Itm.z) (b.map Itm.z)=0:=by rw[j7,if_pos hE10.out,hH.out.2.2.2.2.2];simpa using h1
  have hQ:Hid (lW q (a.map Itm.z) (b.map Itm.z)=0∧P=iF (a.map Itm.z) (b.map Itm.z) q []):=⟨hE0,by rw[←hH.out.2.2.2.2.1];unfold cL;rw[if_pos hE0]⟩
  have h8:q.length≤8:=(eP (dB hE0).1).2.1
  clear hE0
  obtain ⟨w1,hWX⟩:∃WX,(wt0.alloc (H #[I A a.length ca,I B b.length cb] 68))=WX:=⟨_,rfl⟩
  have hgX:Hid (Gr wt0 w1):=by show Gr _ _;rw[←hWX];exact (gR _).alloc _
  have s0:w1.cell? ⟨wt0.heap.size,0,none⟩=some (I A a.length ca):=by rw[←hWX];exact ab (w:=wt0) (gR _) rfl
  have s1:w1.cell? ⟨wt0.heap.size,1,none⟩=some (I B b.length cb):=by rw[←hWX];exact ab (w:=wt0) (gR _) rfl
  have hst1:wt0.heap.size<w1.heap.size:=by rw[←hWX];simp
  have hbW:Hid (Below w.heap.size w w1∧Stps w1 QA q∧Lv w1 A ca a∧Lv w1 B cb b):=⟨hbY.out.1.trans (hgX.out.below.mono hbY.out.1.size),hbY.out.2.1.gr hgX.out,hbY.out.2.2.1.gr hgX.out,hbY.out.2.2.2.gr hgX.out⟩
  clear hgX hbY
  go_wp2
  clear hWX
  go_loopw [11,32] (fun u i wr=>∃(j:Nat) (ss:List Sl) (S:List (List Zit)) (ah:List Int),j≤q.length∧i= Z J j∧Hid (AInv w1 wr (a.map Itm.z) (b.map Itm.z) q j u ss S ah)) (fun _ i _=>q.length-(intOf i).toNat)
  case atStart=>exact ⟨0,[],[],[],nZ _,rfl,show AInv _ _ _ _ _ _ _ _ _ _ from ⟨ai.nil _ _ _ _ _,fun s hs=>(by cases hs),rfl,rfl,Ahd.nil,by rw[List.drop_zero];exact (eP (dB hQ.out.1).1).2.2,by rw[List.drop_zero],by rw[List.drop_zero],bR _ _,fun s hs=>(by cases hs),fun s0 t h=>(by cases h)⟩⟩
  case round =>
   obtain ⟨j,ss,S,ah,hj,rfl,hR⟩:=hrel
   obtain ⟨GA,gc,hu,hgn,hrow,_⟩:=hR.out.own.row kX
   have hrwH:Hid (ay eD 1 wr GA ss):=hrow
   subst hu
   clear hrow
   by_cases hlt:j<q.length
   ·have hltz:(j:Int)<(q.length:Int):=by omega
    have hI:Hid (Stps wr QA q):=hbW.out.2.1.below hR.out.bel
    obtain ⟨bb,off,rfl,hb,hcs⟩:=hI.out.at hlt
    obtain ⟨s,hs⟩:∃s,q[j]=s:=⟨_,rfl⟩
    have hsm:Hid (s∈q):=by show _∈_;rw[←hs];exact gM hlt
    have hdr:Hid (q.drop j=s::q.drop (j+1)):=by show _=_;rw[←hs];exact List.drop_eq_getElem_cons hlt
    rw[hs] at hcs
    have m0:wr.cell? ⟨bb,off+j*7,none⟩=some (Z J s.k):=hcs 0 (by omega)
    have m1:wr.cell? ⟨bb,off+j*7+1,none⟩=some (Z J s.a):=hcs 1 (by omega)
    have m2:wr.cell? ⟨bb,off+j*7+2,none⟩=some (Z J s.b):=hcs 2 (by omega)
    have m3:wr.cell? ⟨bb,off+j*7+3,none⟩=some (Z J s.c):=hcs 3 (by omega)
    have m4:wr.cell? ⟨bb,off+j*7+4,none⟩=some (Z J s.o):=hcs 4 (by omega)
    have m5:wr.cell? ⟨bb,off+j*7+5,none⟩=some (Z J s.v):=hcs 5 (by omega)
    have m6:wr.cell? ⟨bb,off+j*7+6,none⟩=some (I s.p s.l.length s.n):=hcs 6 (by omega)
    have hw:=j6 (by rw[←hdr.out];exact hR.out.wid)
    obtain ⟨WX,hWX⟩:∃WX,(wr.alloc (H #[Z J s.k,Z J s.a,Z J s.b,Z J s.c,Z J s.o,Z J s.v,I s.p s.l.length s.n] 121))=WX:=⟨_,rfl⟩
    have hgX:Hid (Gr wr WX):=by show Gr _ _;rw[←hWX];exact (gR _).alloc _
    have hbX:Hid (Below w1.heap.size w1 WX):=hR.out.bel.trans (hgX.out.below.mono hR.out.bel.size)
    obtain ⟨T,hT⟩:∃T,aV s (a.map Itm.z) (b.map Itm.z) S=T:=⟨_,rfl⟩
    have hC0:=zL (sc:=gc) hw.1 hR.out.ahd (Sts.gr ⟨hrwH.out,fun s hs=>(hR.out.each s hs).1,hR.out.z⟩ hgX.out) (hbW.out.2.2.1.below hbX.out) (hbW.out.2.2.2.below hbX.out) ((hI.out.each s hsm.out).1.gr hgX.out)
    rw[hT] at hC0
    have hC:Hid _:=hC0
    have hTH:Hid (aV s (a.map Itm.z) (b.map Itm.z) S=T):=hT
    have x0:WX.cell? ⟨wr.heap.size,0,none⟩=some (Z J s.k):=by rw[←hWX];exact ab (w:=wr) (gR _) rfl
    have x1:WX.cell? ⟨wr.heap.size,1,none⟩=some (Z J s.a):=by rw[←hWX];exact ab (w:=wr) (gR _) rfl
    have x2:WX.cell? ⟨wr.heap.size,2,none⟩=some (Z J s.b):=by rw[←hWX];exact ab (w:=wr) (gR _) rfl
    have x3:WX.cell? ⟨wr.heap.size,3,none⟩=some (Z J s.c):=by rw[←hWX];exact ab (w:=wr) (gR _) rfl
    have x4:WX.cell? ⟨wr.heap.size,4,none⟩=some (Z J s.o):=by rw[←hWX];exact ab (w:=wr) (gR _) rfl
    have x5:WX.cell? ⟨wr.heap.size,5,none⟩=some (Z J s.v):=by rw[←hWX];exact ab (w:=wr) (gR _) rfl
    have x6:WX.cell? ⟨wr.heap.size,6,none⟩=some (I s.p s.l.length s.n):=by rw[←hWX];exact ab (w:=wr) (gR _) rfl
    have z0:WX.cell? ⟨wt0.heap.size,0,none⟩=some (I A a.length ca):=(hbX.out.cell (p:=⟨wt0.heap.size,0,none⟩) hst1).trans s0
    have z1:WX.cell? ⟨wt0.heap.size,1,none⟩=some (I B b.length cb):=(hbX.out.cell (p:=⟨wt0.heap.size,1,none⟩) hst1).trans s1
    clear hC0 hcs hs hw hT
    cases hq:(T != 0)
    ·have hT0:Hid (aV s (a.map Itm.z) (b.map Itm.z) S=0):=by show _=_;rw[hTH.out];simpa using hq
     have hj8:Hid (ss.length=j):=hR.out.len
     go_wp2_with (first|(go_at_call 182;(refine cM (show Calls _ _ _ _ _ from hC.out) ?_);rintro e w2 ⟨L,C,k,rfl,h1,h2,h3,h4⟩;have hTl:Hid (L.map Itm.z=aY s (a.map Itm.z) (b.map Itm.z) S∧Lv w2 C k L∧Below WX.heap.size WX w2∧NwT w2 k WX.heap.size C L):=⟨h1,h2,h3,h4⟩;have hoX:Hid (ai eD 1 53 (w2.alloc (H #[I C L.length k] 53)) w1.heap.size (I GA ss.length gc) ss∧ss.length+1≤maxLen∧(ss.length+1)*24≤140737488355328∧w1.heap.size≤(w2.alloc (H #[I C L.length k] 53)).heap.size):=⟨((hR.out.own.gr hgX.out).below h3).gr ((gR _).alloc _),by have:=hj8.out;unfold maxLen;omega,by have:=hj8.out;omega,nT hbX.out.size (nT h3.size (by simp))⟩;clear h1 h2 h3 h4)|(at_builtin;refine kB _ rfl (.tmp 46) (.tmp 48) rfl w1.heap.size (I GA ss.length gc) ss ⟨C,k,L⟩ ⟨w2.heap.size,0,none⟩ 1 rfl rfl hoX.out.1 (xA rfl ⟨C,k,L⟩ _) hoX.out.2.1 hoX.out.2.2.1 hoX.out.2.2.2 ?_;intro v3 w3 hown3 hg3 hloc3)|fail)
     have hfin:Hid (AInv w1 w3 (a.map Itm.z) (b.map Itm.z) q (j+1) v3 (ss++[⟨C,k,L⟩]) (S++[aY s (a.map Itm.z) (b.map Itm.z) S]) (ah++[aJ s ah])):=hR.out.step hdr.out (dB hQ.out.1).2.2.2.1 (dB hQ.out.1).2.2.2.2 hT0.out hgX.out hTl.out.1 hTl.out.2.1 hTl.out.2.2.1 hTl.out.2.2.2 hown3 hg3 hloc3
     clear hown3 hg3 hloc3
     go_roundw
     case rel=>exact ⟨j+1,ss++[(⟨C,k,L⟩:Sl)],S++[aY s (a.map Itm.z) (b.map Itm.z) S],ah++[aJ s ah],by omega,by go_num,hfin⟩
     case measure=>simp[intOf];omega
    ·have hT0:Hid (P=T∧iS q (a.map Itm.z) (b.map Itm.z)=[]):=by
      have hn:¬T=0:=by simpa using hq
      have hp:P=T:=by
       rw[hQ.out.2,←hR.out.e,hdr.out]
       show (if aV s (a.map Itm.z) (b.map Itm.z) S=0 then _ else _)=_
       rw[if_neg (by rw[hTH.out];exact hn),hTH.out]
      refine ⟨hp,?_⟩
      unfold iS;rw[if_neg (by rw[hH.out.2.2.2.2.1,hp];exact hn)]
     go_wp2_with (go_at_call 182;(refine cM (show Calls _ _ _ _ _ from hC.out) ?_);rintro e w2 ⟨L,C,k,rfl,h1,h2,h3,h4⟩)
     go_ret2
     exact ⟨[],none,0,by rw[hT0.out.1];rfl,⟨oL rfl,fun s hs=>(by cases hs),by rw[hT0.out.2];rfl⟩,hbW.out.1.trans ((hbX.out.trans (h3.mono hbX.out.size)).mono hbW.out.1.size),NewS.none _ _⟩
   ·have hltz:¬(j:Int)<(q.length:Int):=by omega
    have hNS:Hid (NewS wr w.heap.size GA gc ss):=⟨hR.out.own.mono hbW.out.1.size,fun s hs=>(hR.out.nw s hs).mono hbW.out.1.size,fun s0 t h=>by
     obtain ⟨N,_,h2,h3⟩:=hR.out.sep s0 t h
     exact ⟨N,h2,h3⟩⟩
    have hfin:Hid (P=0∧Sts wr GA ss (iS q (a.map Itm.z) (b.map Itm.z))∧Below w.heap.size w wr):=by
     have hd:q.drop j=[]:=List.drop_eq_nil_of_le (by omega)
     have he:=hR.out.e
     have hf:=hR.out.f
     rw[hd] at he hf
     have hP0:P=0:=by rw[hQ.out.2,←he];rfl
     refine ⟨hP0,⟨hrwH.out,fun s hs=>(hR.out.each s hs).1,?_⟩,hbW.out.1.trans (hR.out.bel.mono hbW.out.1.size)⟩
     unfold iS
     rw[if_pos (by rw[hH.out.2.2.2.2.1];exact hP0),←hf,hR.out.z]
     rfl
    go_wp2
    go_ret2
    exact ⟨ss,GA,gc,by rw[hfin.out.1];rfl,hfin.out.2.1,hfin.out.2.2,hNS.out⟩
 ·have hfin:Hid (E2=P∧iS q (a.map Itm.z) (b.map Itm.z)=[]):=by
   have hn:¬E2=0:=by simpa using h1
   have hah:lW q (a.map Itm.z) (b.map Itm.z)=E2:=by rw[j7,if_pos hE10.out];exact hH.out.2.2.2.2.2
   have hp:P=E2:=by rw[←hH.out.2.2.2.2.1];unfold cL;rw[if_neg (by rw[hah];exact hn)];exact hah
   refine ⟨hp.symm,?_⟩
   unfold iS;rw[if_neg (by rw[hH.out.2.2.2.2.1,hp];exact hn)]
  go_wp2
  go_ret2
  exact ⟨[],none,0,by rw[←hfin.out.1];rfl,⟨oL rfl,fun s hs=>(by cases hs),by rw[hfin.out.2];rfl⟩,hbY.out.1,NewS.none _ _⟩

theorem vE {q:List Stp} {a b:List Zit} (h:cL q a b=0):(iS q a b).length=q.length∧0<q.length:=by
 obtain ⟨h1,h2,h3⟩:=iR h
 obtain ⟨k1,_,_,k4,k5⟩:=dB h1
 obtain ⟨q1,_,q3⟩:=eP k1
 obtain ⟨ah',m1,m2⟩:=jE k4 k5 q [] [] q3 Ahd.nil h2
 rw[h3,m2]
 exact ⟨by simp,List.length_pos_iff.2 q1⟩
theorem uE {q:List Stp} {a b:List Zit} (h:¬cL q a b=0):iK q a b=[]:=by
 unfold iK iS
 rw[if_neg h]
 rfl
theorem Sts.atm {w:World} {A:Option Addr} {ss:List Sl} {S:List (List Zit)} (h:Sts w A ss S) {i:Int} (h0:0≤i) (hi:i.toNat<S.length):∃(b off n:Nat) (x:Sl),A=some ⟨b,off,none⟩∧b<w.heap.size∧i=n∧n<ss.length∧w.cell? ⟨b,off+n,none⟩=some (I x.A x.l.length x.cap)∧Lv w x.A x.cap x.l∧x.l.map Itm.z=bI S i∧ss[n]? = some x:=by
 have hl:i.toNat<ss.length:=by
  have:=congrArg List.length h.z
  simp at this
  omega
 obtain ⟨b,off,hA,hb,hc⟩:=h.row.at hl
 refine ⟨b,off,i.toNat,ss[i.toNat],hA,hb,by omega,hl,?_,h.each _ (gM hl),?_,List.getElem?_eq_getElem hl⟩
 ·have:=hc i.toNat hl 0 (by omega)
  simpa[eD] using this
 ·unfold bI
  rw[←h.z,List.getD_eq_getElem?_getD,List.getElem?_map,List.getElem?_eq_getElem hl]
  rfl
theorem l6 (q:List Stp) (QA:Option Addr) (cq:Nat) (a b:List Itm) (A B:Option Addr) (ca cb:Nat) (w:World) (hl:q.length≤maxLen) (hq:Stps w QA q) (ha:Lv w A ca a) (hb:Lv w B cb b) :
  Calls Y 119 #[I QA q.length cq,I A a.length ca,I B b.length cb] w fun e w'=>∃(L:List Itm) (C:Option Addr) (k:Nat),e= U (F #[I C L.length k,Z J (cL q (a.map Itm.z) (b.map Itm.z))])∧L.map Itm.z=iK q (a.map Itm.z) (b.map Itm.z)∧Lv w' C k L∧Below w.heap.size w w'∧NwT w' k w.heap.size C L:=by
 have hC0:=wC q QA cq a b A B ca cb w hl hq ha hb
 obtain ⟨P,hP⟩:∃P,cL q (a.map Itm.z) (b.map Itm.z)=P:=⟨_,rfl⟩
 have hPH:Hid (cL q (a.map Itm.z) (b.map Itm.z)=P):=hP
 rw[hP] at hC0 ⊢
 have hC:Hid _:=hC0
 clear hC0 hP hl hq ha hb
 go_enter Tryz.func119,Tryz.ntmps119
 go_wp2_with fail
 refine cM (show Calls _ _ _ _ _ from hC.out) ?_
 rintro e w1 ⟨ss,C,k,rfl,hS0,hb0,hn0⟩
 have hS:Hid (Sts w1 C ss (iS q (a.map Itm.z) (b.map Itm.z))∧Below w.heap.size w w1):=⟨hS0,hb0⟩
 have hNS:Hid (NewS w1 w.heap.size C k ss):=hn0
 clear hC hS0 hb0 hn0
 cases h1:(P != 0)
 ·have hP0:P=0:=by simpa using h1
  have h0:cL q (a.map Itm.z) (b.map Itm.z)=0:=by rw[hPH.out,hP0]
  have hlen:=vE h0
  have hsl:ss.length=q.length:=by
   have:=congrArg List.length hS.out.1.z
   simp at this
   omega
  obtain ⟨bb,off,n,x,rfl,hbb,hn,hnl,hxc,hxl,hxz,hxm⟩:=hS.out.1.atm (i:=((q.length-1:Nat):Int)) (by omega) (by rw[hlen.1];omega)
  have hn':n=q.length-1:=by omega
  have hfin:Hid (x.l.map Itm.z=iK q (a.map Itm.z) (b.map Itm.z)∧Lv w1 x.A x.cap x.l):=⟨hxz,hxl⟩
  have hNw:Hid (NwT w1 x.cap w.heap.size x.A x.l):=hNS.out.each x (List.mem_of_getElem? hxm)
  have hq8:=(eP (dB (iR h0).1).1).2.1
  have hn8:(n:Int)≤8:=by omega
  have hwn:wrap64 (n:Int)=(n:Int):=by unfold wrap64;omega
  have hi2:(ss.length:Int)-1=(n:Int):=by omega
  have hnz:(n:Int)<(ss.length:Int):=by omega
  clear hxl hxz hxm hn hn' hsl hlen h0 hq8
  go_wp2
  go_ret2
  exact ⟨x.l,x.A,x.cap,by rw[hP0];rfl,hfin.out.1,hfin.out.2,hS.out.2,hNw.out⟩
 ·have hfin:Hid (iK q (a.map Itm.z) (b.map Itm.z)=[]):=uE (by rw[hPH.out];simpa using h1)
  go_wp2
  go_ret2
  exact ⟨[],none,0,rfl,by rw[hfin.out];rfl,⟨⟨oL rfl,fun x hx=>(by cases hx)⟩,fun _=>rfl,nZ _⟩,hS.out.2,NwT.none _ _⟩
theorem uD (q:List Stp) (QA:Option Addr) (cq:Nat) (a b:List Itm) (A B:Option Addr) (ca cb:Nat) (w:World) (hl:q.length≤maxLen) (hq:Stps w QA q) (ha:Lv w A ca a) (hb:Lv w B cb b) :
  Calls Y 119 #[I QA q.length cq,I A a.length ca,I B b.length cb] w fun e w'=>∃(L:List Itm) (C:Option Addr) (k:Nat),e= U (F #[I C L.length k,Z J (cL q (a.map Itm.z) (b.map Itm.z))])∧L.map Itm.z=iK q (a.map Itm.z) (b.map Itm.z)∧Lv w' C k L∧Below w.heap.size w w' :=
 (l6 q QA cq a b A B ca cb w hl hq ha hb).mono fun _ _ ⟨L,C,k,h1,h2,h3,h4,_⟩=>⟨L,C,k,h1,h2,h3,h4⟩

def kv:List Itm→List Itm→Int
 | _,[]=> -1
 | [],_::_=>1
 | x::_,y::_=>aB x.r y.r
theorem vA {a b:List Int} {A B:Option Addr} {ca cb:Nat} {w:World} {c:Int} (hc:aB a b=c) (hal:a.length≤maxLen) (hra:ar w A a) (hrb:ar w B b) (n:Nat) (os:Array Obj) :
  Calls Y 164 #[I A a.length ca,I B b.length cb] (grow (w.drewN n) os) fun e w'=>e= U (Z J c)∧∃q os',w'=grow ((grow (w.drewN n) os).drewN q) os':=by
 subst hc
 have hg:Gr w (grow (w.drewN n) os):=⟨n,os,rfl⟩
 exact eV a b A B ca cb _ hal (hra.gr hg) (hrb.gr hg)

theorem sC (a b:List Itm) (A B:Option Addr) (ca cb:Nat) (w:World) (ha:Items w A a) (hb:Items w B b) :
  Calls Y 151 #[I A a.length ca,I B b.length cb] w fun e w'=>e= U (Z J (kv a b))∧Gr w w':=by
 have mixed:Tryz.prog.follows .mixedOrders=true:=by kernel_rfl
 cases b with
 | nil =>
  have e:kv a []= -1:=by cases a<;>rfl
  rw[e]
  clear e
  go_enter Tryz.func151,Tryz.ntmps151
  go_wp2
  go_ret
  exact ⟨rfl,gR _⟩
 | cons y u =>
  have hbz:(((y::u).length:Int)==0)=false:=by rw[beq_eq_false_iff_ne];simp;omega
  cases a with
  | nil =>
   go_enter Tryz.func151,Tryz.ntmps151
   go_wp2
   go_ret
   exact ⟨rfl,gR _⟩
  | cons x t =>
   have haz:(((x::t).length:Int)==0)=false:=by rw[beq_eq_false_iff_ne];simp;omega
   obtain ⟨ba,oa,rfl,hba,hca⟩:=ha.at (k:=0) (by simp)
   obtain ⟨bb,ob,rfl,hbb,hcb⟩:=hb.at (k:=0) (by simp)
   have e0:w.cell? ⟨ba,oa,none⟩=some (I x.p x.r.length x.c):=by have:=(hca 0 (by simp)).1;simpa using this
   have f0:w.cell? ⟨bb,ob,none⟩=some (I y.p y.r.length y.c):=by have:=(hcb 0 (by simp)).1;simpa using this
   have hx:=ha.each x (by simp)
   have hy:=hb.each y (by simp)
   obtain ⟨c,hc⟩:∃c,aB x.r y.r=c:=⟨_,rfl⟩
   have e:kv (x::t) (y::u)=c:=hc
   rw[e]
   have hO:Hid (∀n os,Calls Y 164 #[I x.p x.r.length x.c,I y.p y.r.length y.c] (grow (w.drewN n) os) fun e w'=>e= U (Z J c)∧∃q os',w'=grow ((grow (w.drewN n) os).drewN q) os'):=fun n os=>vA hc hx.2.1 hx.1 hy.1 n os
   have g0:∀n os,(grow (w.drewN n) os).cell? ⟨ba,oa,none⟩=some (I x.p x.r.length x.c):=(gR w).cellG hba e0
   have g1:∀n os,(grow (w.drewN n) os).cell? ⟨bb,ob,none⟩=some (I y.p y.r.length y.c):=(gR w).cellG hbb f0
   have hax:(0:Int)<((x::t).length:Int):=by simp
   have hbx:(0:Int)<((y::u).length:Int):=by simp
   clear e hc hx hy hca hcb ha hb e0 f0
   go_enter Tryz.func151,Tryz.ntmps151
   go_wp2
   refine wp_region_quiet_grown mixed (by kernel_rfl) ?_
   repeat (go_big_quiet_step ((go_at_call 164;refine Calls.grown_of (hO.out _ _))))
   refine wpQuiet_nil ?_
   rintro _ ⟨⟨nq,osq⟩,rfl⟩
   go_wp2
   go_ret
   exact ⟨rfl,⟨nq,osq,rfl⟩⟩

def sK:Value→Nat
 | I _ n _=>n
 | _=>0
theorem et (w:World) {ops:Array Oper} {rest:List Oper} {o:Oper} {a:Act} {Q:Exit→Act→World→Prop} (hgd:o.guard=none) (s x:Operand)
  (ho:o.op= .call { callee:= .builtin .append,args:= #[s,x],argTypes:= #[53,53] })
  (base:Nat) (v:Value) (l m:List Itm) (A:Option Addr) (cap:Nat) (hs:a.eval s=v) (hx:a.eval x= I A m.length cap) (hown:ai aM 2 58 w base v l) (hr:ay aM 2 w A m) (hA:A=none→cap=0)
  (hml:l.length+m.length≤maxLen) (hb:(l.length+m.length)*32≤140737488355328) (hbase:base≤w.heap.size)
  (h:∀v' w',ai aM 2 58 w' base v' (l++m)→w.grownBy w' v.ownBlock→wpList Y ops Q rest (a.put o.dst v') w'):wpList Y ops Q (o::rest) a w :=
 wpList_plain hgd fun _ hK=>eG bD fw (by omega) 53 Tryz.underlying53 (.agg #[I none 0 0,Z J 0]) 32 Tryz.infoT rfl w s x ho base v l m A cap hs hx hown hr hA hml hb hbase fun v' w' h2 h3=>hK _ _ (h v' w' h2 h3)
theorem Items.tail {w:World} {b off:Nat} {x:Itm} {t:List Itm} {c:Nat} (h:Items w (some ⟨b,off,none⟩) (x::t)) (hc:(x::t).length≤c):Items w (if c=1 then some ⟨b,off,none⟩ else some ⟨b,off+2,none⟩) t:=by
 refine ⟨?_,fun y hy=>h.each y (mC _ hy)⟩
 by_cases ht:t=[]
 ·exact oL ht
 ·have hl:0<t.length:=List.length_pos_iff.2 ht
  rw[if_neg (by simp at hc;omega)]
  obtain ⟨b',off',hA,hb,hcs⟩:=h.row.at (m:=0) (by simp)
  cases hA
  refine oR ⟨b,off+2,rfl,hb,fun j hj i hi=> ?_⟩
  have:=hcs (j+1) (by simp;omega) i hi
  rw[show off+(j+1)*2+i=off+2+j*2+i by omega] at this
  simpa using this
theorem kE {w:World} {X n:Nat} {u0 u1 v0 v1:Value} (hn:n≤X) (h0:w.cell? ⟨X,0,none⟩=some u0) (h1:w.cell? ⟨X,1,none⟩=some u1) (g0:w.frozen? ⟨X,0,none⟩=false) (g1:w.frozen? ⟨X,1,none⟩=false) :
  (((w.setCell ⟨X,0,none⟩ v0).setCell ⟨X,1,none⟩ v1).drew).cell? ⟨X,0,none⟩=some v0∧(((w.setCell ⟨X,0,none⟩ v0).setCell ⟨X,1,none⟩ v1).drew).cell? ⟨X,1,none⟩=some v1∧(((w.setCell ⟨X,0,none⟩ v0).setCell ⟨X,1,none⟩ v1).drew).frozen? ⟨X,0,none⟩=false∧(((w.setCell ⟨X,0,none⟩ v0).setCell ⟨X,1,none⟩ v1).drew).frozen? ⟨X,1,none⟩=false∧Below n w (((w.setCell ⟨X,0,none⟩ v0).setCell ⟨X,1,none⟩ v1).drew):=by
 refine ⟨?_,?_,?_,?_,?_⟩
 ·rw[World.cell?_drew,World.cell?_setCell_other _ _ _ _ (by simp)]
  exact World.cell?_setCell_same _ _ _ h0
 ·rw[World.cell?_drew]
  exact World.cell?_setCell_same _ _ _ (u:=u1) (by rw[World.cell?_setCell_other _ _ _ _ (by simp)];exact h1)
 ·simpa using g0
 ·simpa using g1
 ·have h:=((bR n w).setCell (p:=⟨X,0,none⟩) hn v0).setCell (p:=⟨X,1,none⟩) hn v1
  exact ⟨h.os,h.tape,h.output,h.size,h.block⟩
structure DInv (w wr:World) (a b a' b':List Itm) (P Q:Option Addr) (c d:Nat) (u:Value) (L:List Itm):Prop where
 ia:Items w P a'
 ib:Items w Q b'
 ca:a'.length≤c
 cb:b'.length≤d
 ra:eB (a'.map Itm.z)
 rb:eB (b'.map Itm.z)
 oa:∀x∈a',okW x.n=true∧x.n≠0
 ob:∀x∈b',okW x.n=true∧x.n≠0
 z:L.map Itm.z++bf (a'.map Itm.z) (b'.map Itm.z)=bf (a.map Itm.z) (b.map Itm.z)
 rows:∀y∈L,∃x∈a++b,y.p=x.p∧y.c=x.c∧y.r=x.r
 suba:∀x∈a',x∈a
 subb:∀x∈b',x∈b
 len:L.length+a'.length+b'.length≤a.length+b.length
 own:ai aM 2 58 wr w.heap.size u L
 bel:Below w.heap.size w wr

theorem eB.after {x:Zit} {l:List Zit} {y:Zit} {u:List Zit} (hl:l=y::u) (h:eB l) (hx:aB x.1 y.1<0):∀z∈l,aB x.1 z.1<0:=by
 subst hl
 intro z hz
 rcases List.mem_cons.1 hz with e|e
 ·rw[e];exact hx
 ·exact cG hx ((List.pairwise_cons.1 h).1 z e)
theorem eB.tail {x:Zit} {l:List Zit} (h:eB (x::l)):eB l:=(List.pairwise_cons.1 h).2
theorem DInv.stepA {w wr w5:World} {a b t b':List Itm} {x:Itm} {ba oa:Nat} {Q:Option Addr} {c d:Nat} {u v5:Value} {L:List Itm} (h:DInv w wr a b (x::t) b' (some ⟨ba,oa,none⟩) Q c d u L) (hO:kv (x::t) b'<0)
  (hown:ai aM 2 58 w5 w.heap.size v5 (L++[(⟨x.p,x.c,x.r,x.n⟩:Itm)])) (hb:Below w.heap.size w w5):DInv w w5 a b t b' (if c=1 then some ⟨ba,oa,none⟩ else some ⟨ba,oa+2,none⟩) Q (c-1) d v5 (L++[(⟨x.p,x.c,x.r,x.n⟩:Itm)]):=by
 have hca:=h.ca
 have hxa:=h.suba x (by simp)
 have hlt:∀y∈b'.map Itm.z,aB x.z.1 y.1<0:=by
  cases b' with
  | nil=>intro y hy;cases hy
  | cons y u=>exact eB.after (x:=x.z) rfl h.rb hO
 have hd:=yp (x:=x.z) (t:=t.map Itm.z) (b:=b'.map Itm.z) h.ra (h.oa x (by simp)).2 hlt
 refine ⟨h.ia.tail hca,h.ib,by simp at hca;omega,h.cb,h.ra.tail,h.rb,fun y hy=>h.oa y (by simp[hy]),h.ob,?_,fun y hy=> ?_,fun y hy=>h.suba y (by simp[hy]),h.subb,?_,hown,hb⟩
 ·rw[←h.z]
  show _=_++bf (x.z::t.map Itm.z) (b'.map Itm.z)
  rw[hd,List.map_append,List.append_assoc]
  rfl
 ·rcases List.mem_append.1 hy with e|e
  ·exact h.rows y e
  ·rw[List.mem_singleton.1 e];exact ⟨x,by simp[hxa],rfl,rfl,rfl⟩
 ·have:=h.len
  simp at this ⊢
  omega
theorem DInv.stepB {w wr w5:World} {a b a' s:List Itm} {y:Itm} {bb ob:Nat} {P:Option Addr} {c d:Nat} {u v5:Value} {L:List Itm} (h:DInv w wr a b a' (y::s) P (some ⟨bb,ob,none⟩) c d u L) (hO:0<kv a' (y::s))
  (hown:ai aM 2 58 w5 w.heap.size v5 (L++[(⟨y.p,y.c,y.r,-y.n⟩:Itm)])) (hb:Below w.heap.size w w5):DInv w w5 a b a' s P (if d=1 then some ⟨bb,ob,none⟩ else some ⟨bb,ob+2,none⟩) c (d-1) v5 (L++[(⟨y.p,y.c,y.r,-y.n⟩:Itm)]):=by
 have hcb:=h.cb
 have hyb:=h.subb y (by simp)
 have hlt:∀x∈a'.map Itm.z,aB y.z.1 x.1<0:=by
  cases a' with
  | nil=>intro x hx;cases hx
  | cons x t =>
   refine eB.after (x:=y.z) rfl h.ra ?_
   have h1:0<aB x.r y.r:=hO
   have h2:=dK x.r y.r
   show aB y.r x.r<0
   omega
 have hd:=yo (y:=y.z) (a:=a'.map Itm.z) (u:=s.map Itm.z) h.rb (h.ob y (by simp)).2 hlt
 refine ⟨h.ia,h.ib.tail hcb,h.ca,by simp at hcb;omega,h.ra,h.rb.tail,h.oa,fun z hz=>h.ob z (by simp[hz]),?_,fun z hz=> ?_,h.suba,fun z hz=>h.subb z (by simp[hz]),?_,hown,hb⟩
 ·rw[←h.z]
  show _=_++bf (a'.map Itm.z) (y.z::s.map Itm.z)
  rw[hd,List.map_append,List.append_assoc]
  rfl
 ·rcases List.mem_append.1 hz with e|e
  ·exact h.rows z e
  ·rw[List.mem_singleton.1 e];exact ⟨y,by simp[hyb],rfl,rfl,rfl⟩
 ·have:=h.len
  simp at this ⊢
  omega
theorem DInv.stepC {w wr w5:World} {a b t s:List Itm} {x y:Itm} {ba oa bb ob:Nat} {c d:Nat} {u v5:Value} {L L':List Itm} (h:DInv w wr a b (x::t) (y::s) (some ⟨ba,oa,none⟩) (some ⟨bb,ob,none⟩) c d u L) (hO:kv (x::t) (y::s)=0)
  (hL:L'=if x.n-y.n=0 then L else L++[(⟨y.p,y.c,y.r,x.n-y.n⟩:Itm)]) (hown:ai aM 2 58 w5 w.heap.size v5 L') (hb:Below w.heap.size w w5):DInv w w5 a b t s (if c=1 then some ⟨ba,oa,none⟩ else some ⟨ba,oa+2,none⟩) (if d=1 then some ⟨bb,ob,none⟩ else some ⟨bb,ob+2,none⟩) (c-1) (d-1) v5 L':=by
 have hca:=h.ca
 have hcb:=h.cb
 have hyb:=h.subb y (by simp)
 have heq:x.r=y.r:=jc _ _ hO
 have hd:=yn (x:=x.z) (y:=y.z) (t:=t.map Itm.z) (u:=s.map Itm.z) h.ra h.rb heq
 refine ⟨h.ia.tail hca,h.ib.tail hcb,by simp at hca;omega,by simp at hcb;omega,h.ra.tail,h.rb.tail,fun z hz=>h.oa z (by simp[hz]),fun z hz=>h.ob z (by simp[hz]),?_,fun z hz=> ?_,fun z hz=>h.suba z (by simp[hz]),fun z hz=>h.subb z (by simp[hz]),?_,hown,hb⟩
 ·rw[←h.z]
  show _=_++bf (x.z::t.map Itm.z) (y.z::s.map Itm.z)
  rw[hd,hL]
  by_cases e:x.n-y.n=0
  ·have e':x.z.2-y.z.2=0:=e
   rw[if_pos e,if_pos e']
  ·have e':¬x.z.2-y.z.2=0:=e
   rw[if_neg e,if_neg e',List.map_append,List.append_assoc]
   rfl
 ·rw[hL] at hz
  by_cases e:x.n-y.n=0
  ·rw[if_pos e] at hz;exact h.rows z hz
  ·rw[if_neg e] at hz
   rcases List.mem_append.1 hz with e|e
   ·exact h.rows z e
   ·rw[List.mem_singleton.1 e];exact ⟨y,by simp[hyb],rfl,rfl,rfl⟩
 ·have:=h.len
  rw[hL]
  by_cases e:x.n-y.n=0
  ·rw[if_pos e];simp at this ⊢;omega
  ·rw[if_neg e];simp at this ⊢;omega

theorem us (a b:List Itm) (A B:Option Addr) (ca cb:Nat) (w:World) (ha:Items w A a) (hb:Items w B b) (hca:a.length≤ca) (hcb:b.length≤cb) (hea:aw (a.map Itm.z)=0) (heb:aw (b.map Itm.z)=0) :
  Calls Y 121 #[I A a.length ca,I B b.length cb] w fun e w'=>∃(L:List Itm) (C:Option Addr) (k:Nat),e= U (I C L.length k)∧L.map Itm.z=bf (a.map Itm.z) (b.map Itm.z)∧Items w' C L∧du C L.length k∧L.length≤800∧Below w.heap.size w w':=by
 have h800:a.length+b.length≤800:=by
  have h1:=((bx _).1 hea).1
  have h2:=((bx _).1 heb).1
  simp at h1 h2
  omega
 have hI0:Hid (DInv w w a b a b A B ca cb (I none 0 0) []):=by
  have h1:=(bx _).1 hea
  have h2:=(bx _).1 heb
  exact ⟨ha,hb,hca,hcb,h1.2.2,h2.2.2,fun x hx=>⟨(bL (h1.2.1 x.z (List.mem_map.2 ⟨x,hx,rfl⟩))).2.1,(bL (h1.2.1 x.z (List.mem_map.2 ⟨x,hx,rfl⟩))).2.2⟩,fun x hx=>⟨(bL (h2.2.1 x.z (List.mem_map.2 ⟨x,hx,rfl⟩))).2.1,(bL (h2.2.1 x.z (List.mem_map.2 ⟨x,hx,rfl⟩))).2.2⟩,rfl,fun y hy=>(by cases hy),fun x hx=>hx,fun x hx=>hx,by simp,ai.nil _ _ _ _ _,bR _ _⟩
 clear ha hb hca hcb hea heb
 go_enter Tryz.func121,Tryz.ntmps121
 go_wp2
 go_loopw [0,1,5] (fun s t u wr=>∃(a' b':List Itm) (P Q:Option Addr) (c d:Nat) (L:List Itm),s= I P a'.length c∧t= I Q b'.length d∧Hid (DInv w wr a b a' b' P Q c d u L)) (fun s t _ _=>sK s+sK t)
 case atStart=>exact ⟨a,b,A,B,ca,cb,[],rfl,rfl,hI0⟩
 case round =>
  obtain ⟨a',b',P,Q,c,d,L,rfl,rfl,hR⟩:=hrel
  obtain ⟨WX,hWX⟩:∃WX,(wr.alloc (H #[I none 0 0,Z J 0] 58))=WX:=⟨_,rfl⟩
  have hgX:Hid (Gr wr WX):=by show Gr _ _;rw[←hWX];exact (gR _).alloc _
  have hXs:Hid (wr.heap.size<WX.heap.size):=by show _<_;rw[←hWX];simp
  have hbX:Hid (Below w.heap.size w WX):=hR.out.bel.trans (hgX.out.below.mono hR.out.bel.size)
  have x0:WX.cell? ⟨wr.heap.size,0,none⟩=some (I none 0 0):=by rw[←hWX];exact ab (w:=wr) (gR _) rfl
  have x1:WX.cell? ⟨wr.heap.size,1,none⟩=some (Z J 0):=by rw[←hWX];exact ab (w:=wr) (gR _) rfl
  have f0:∀j,WX.frozen? ⟨wr.heap.size,j,none⟩=false:=fun j=>by rw[←hWX];exact eC (w:=wr) (gR _) j
  obtain ⟨O,hO⟩:∃O,kv a' b'=O:=⟨_,rfl⟩
  have hC0:=sC a' b' P Q c d WX (hR.out.ia.below hbX.out) (hR.out.ib.below hbX.out)
  rw[hO] at hC0
  have hC:Hid _:=hC0
  have hOH:Hid (kv a' b'=O):=hO
  clear hC0 hO
  by_cases h0:a'.length=0∧b'.length=0
  ·have ha0:¬(0:Int)<(a'.length:Int):=by omega
   have hb0:¬(0:Int)<(b'.length:Int):=by omega
   have hnil:a'=[]∧b'=[]:=⟨List.eq_nil_of_length_eq_zero h0.1,List.eq_nil_of_length_eq_zero h0.2⟩
   obtain ⟨A2,cap2,hv2,hn1,hit,hcp,_,_⟩:=ai.full bD hR.out.own
   have hfin:Hid (L.map Itm.z=bf (a.map Itm.z) (b.map Itm.z)∧Items wr A2 L∧du A2 L.length cap2∧L.length≤800∧Below w.heap.size w wr):=by
    have hz:=hR.out.z
    rw[hnil.1,hnil.2] at hz
    refine ⟨by rw[←hz];show _=_++bf [] [];rw[wO,List.append_nil],⟨hit,fun y hy=> ?_⟩,du.mk hn1 hcp,by have:=hR.out.len;omega,hR.out.bel⟩
    obtain ⟨x,hx,e1,e2,e3⟩:=hR.out.rows y hy
    rw[e1,e2,e3]
    rcases List.mem_append.1 hx with k|k
    ·exact ((hI0.out.ia.below hR.out.bel).each x k)
    ·exact ((hI0.out.ib.below hR.out.bel).each x k)
   subst hv2
   clear hit hn1 hcp hnil
   go_wp2
   go_ret
   exact ⟨L,A2,cap2,rfl,hfin.out⟩
  ·by_cases hO1:O<0
   ·-- the first of now is ahead
    obtain ⟨x,t,rfl⟩:∃x t,a'=x::t:=by
     cases a' with
     | cons x t=>exact ⟨x,t,rfl⟩
     | nil =>
      cases b' with
      | nil=>exact absurd ⟨rfl,rfl⟩ h0
      | cons y u=>have:=hOH.out;simp[kv] at this;omega
    have hax:(0:Int)<((x::t).length:Int):=by simp
    obtain ⟨ba,oa,rfl,hba,hcs⟩:=hR.out.ia.at (k:=0) (by simp)
    obtain ⟨e0,e1⟩:=hcs 0 (by simp)
    have e0':w.cell? ⟨ba,oa,none⟩=some (I x.p x.r.length x.c):=by simpa using e0
    have e1':w.cell? ⟨ba,oa+1,none⟩=some (Z J x.n):=by simpa using e1
    clear hcs e0 e1
    go_wp2_with fail
    refine cM (show Calls _ _ _ _ _ from hC.out) ?_
    rintro e w2 ⟨rfl,hg2⟩
    have hle:O≤0:=by omega
    have hnge:¬ 0≤O:=by omega
    have e0:w2.cell? ⟨ba,oa,none⟩=some (I x.p x.r.length x.c):=(((hbX.out.trans (hg2.below.mono hbX.out.size))).cell (p:=⟨ba,oa,none⟩) hba).trans e0'
    have e1:w2.cell? ⟨ba,oa+1,none⟩=some (Z J x.n):=(((hbX.out.trans (hg2.below.mono hbX.out.size))).cell (p:=⟨ba,oa+1,none⟩) hba).trans e1'
    have y0:w2.cell? ⟨wr.heap.size,0,none⟩=some (I none 0 0):=(hg2.cell (p:=⟨wr.heap.size,0,none⟩) hXs.out).trans x0
    have y1:w2.cell? ⟨wr.heap.size,1,none⟩=some (Z J 0):=(hg2.cell (p:=⟨wr.heap.size,1,none⟩) hXs.out).trans x1
    have g0:w2.frozen? ⟨wr.heap.size,0,none⟩=false:=(hg2.below.frozen (p:=⟨wr.heap.size,0,none⟩) hXs.out).trans (f0 0)
    have g1:w2.frozen? ⟨wr.heap.size,1,none⟩=false:=(hg2.below.frozen (p:=⟨wr.heap.size,1,none⟩) hXs.out).trans (f0 1)
    clear hWX x0 x1 f0 hC e0' e1'
    go_wp2
    go_region
    have hS0:=kE (v0:= I x.p x.r.length x.c) (v1:= Z J x.n) (nR _) y0 y1 g0 g1
    obtain ⟨w3,hw3⟩:∃W,((w2.setCell ⟨wr.heap.size,0,none⟩ (I x.p x.r.length x.c)).setCell ⟨wr.heap.size,1,none⟩ (Z J x.n)).drew=W:=⟨_,rfl⟩
    rw[hw3] at hS0 ⊢
    obtain ⟨z0,z1,k0,k1,hb3⟩:=hS0
    have hB3:Hid (Below wr.heap.size wr w3):=hgX.out.below.trans ((hg2.below.mono hgX.out.size).trans hb3)
    have hn0:(x.n != 0)=true:=by have:=(hR.out.oa x (by simp)).2;simpa using this
    have htl:(1:Int)≤(t.length:Int)+1:=by omega
    clear hw3 hb3 e0 e1 y0 y1 g0 g1 hg2
    have hoX:Hid (ai aM 2 58 (w3.alloc (H #[I x.p x.r.length x.c,Z J x.n] 58)) w.heap.size u5 L∧ay aM 2 (w3.alloc (H #[I x.p x.r.length x.c,Z J x.n] 58)) (some ⟨w3.heap.size,0,none⟩) [(⟨x.p,x.c,x.r,x.n⟩:Itm)]∧L.length+[(⟨x.p,x.c,x.r,x.n⟩:Itm)].length≤maxLen∧(L.length+[(⟨x.p,x.c,x.r,x.n⟩:Itm)].length)*32≤140737488355328∧Below w.heap.size w (w3.alloc (H #[I x.p x.r.length x.c,Z J x.n] 58))):=by
     have hLk:=hR.out.len
     have hbb:=hR.out.bel.trans (hB3.out.mono hR.out.bel.size)
     exact ⟨(hR.out.own.below hB3.out).gr ((gR _).alloc _),d9 rfl ⟨x.p,x.c,x.r,x.n⟩ _,by unfold maxLen;simp;omega,by simp;omega,hbb.alloc hbb.size _⟩
    go_wp2_with (at_builtin;refine et _ rfl _ _ rfl w.heap.size u5 L [(⟨x.p,x.c,x.r,x.n⟩:Itm)] (some ⟨w3.heap.size,0,none⟩) 1 rfl rfl hoX.out.1 hoX.out.2.1 (fun h=>by cases h) hoX.out.2.2.1 hoX.out.2.2.2.1 hoX.out.2.2.2.2.size ?_;intro v5 w5 hown5 hg5)
    have hfin:Hid (DInv w w5 a b t b' (if c=1 then some ⟨ba,oa,none⟩ else some ⟨ba,oa+2,none⟩) Q (c-1) d v5 (L++[(⟨x.p,x.c,x.r,x.n⟩:Itm)])):=hR.out.stepA (hOH.out▸hO1) hown5 (hoX.out.2.2.2.2.trans (hoX.out.1.grown_below hg5 hoX.out.2.2.2.2.size))
    clear hown5 hg5
    go_roundw
    case rel=>exact ⟨t,b',_,_,_,_,L++[(⟨x.p,x.c,x.r,x.n⟩:Itm)],rfl,rfl,hfin⟩
    case measure=>simp[sK]
   ·by_cases hO2:0<O
    ·-- the first of before is ahead
     obtain ⟨y,s,rfl⟩:∃y s,b'=y::s:=by
      cases b' with
      | cons y s=>exact ⟨y,s,rfl⟩
      | nil=>have:=hOH.out;cases a'<;>simp[kv] at this<;>omega
     have hbx:(0:Int)<((y::s).length:Int):=by simp
     obtain ⟨bb,ob,rfl,hbb,hcs⟩:=hR.out.ib.at (k:=0) (by simp)
     obtain ⟨e0,e1⟩:=hcs 0 (by simp)
     have e0':w.cell? ⟨bb,ob,none⟩=some (I y.p y.r.length y.c):=by simpa using e0
     have e1':w.cell? ⟨bb,ob+1,none⟩=some (Z J y.n):=by simpa using e1
     clear hcs e0 e1
     have hle:¬O≤0:=by omega
     have hge:0≤O:=by omega
     have hyw:=hR.out.ob y (by simp)
     obtain ⟨N,hN⟩:∃N,-y.n=N:=⟨_,rfl⟩
     have hNH:Hid (-y.n=N):=hN
     have hwr:wrap64 (-y.n)=N:=by
      have:=hyw.1
      simp only[okW,inB,Bool.and_eq_true,decide_eq_true_eq] at this
      unfold wrap64;omega
     have hn0:(N != 0)=true:=by have:=hyw.2;simp;omega
     clear hyw hN
     have hstl:(1:Int)≤(s.length:Int)+1:=by omega
     rcases a' with _|⟨x,t⟩
     all_goals
      go_wp2_with fail
      refine cM (show Calls _ _ _ _ _ from hC.out) ?_
      rintro e w2 ⟨rfl,hg2⟩
      have e0:w2.cell? ⟨bb,ob,none⟩=some (I y.p y.r.length y.c):=(((hbX.out.trans (hg2.below.mono hbX.out.size))).cell (p:=⟨bb,ob,none⟩) hbb).trans e0'
      have e1:w2.cell? ⟨bb,ob+1,none⟩=some (Z J y.n):=(((hbX.out.trans (hg2.below.mono hbX.out.size))).cell (p:=⟨bb,ob+1,none⟩) hbb).trans e1'
      have y0:w2.cell? ⟨wr.heap.size,0,none⟩=some (I none 0 0):=(hg2.cell (p:=⟨wr.heap.size,0,none⟩) hXs.out).trans x0
      have y1:w2.cell? ⟨wr.heap.size,1,none⟩=some (Z J 0):=(hg2.cell (p:=⟨wr.heap.size,1,none⟩) hXs.out).trans x1
      have g0:w2.frozen? ⟨wr.heap.size,0,none⟩=false:=(hg2.below.frozen (p:=⟨wr.heap.size,0,none⟩) hXs.out).trans (f0 0)
      have g1:w2.frozen? ⟨wr.heap.size,1,none⟩=false:=(hg2.below.frozen (p:=⟨wr.heap.size,1,none⟩) hXs.out).trans (f0 1)
      clear hWX x0 x1 f0 hC e0' e1'
      go_wp2
      go_region
      have hS0:=kE (v0:= I y.p y.r.length y.c) (v1:= Z J N) (nR _) y0 y1 g0 g1
      obtain ⟨w3,hw3⟩:∃W,((w2.setCell ⟨wr.heap.size,0,none⟩ (I y.p y.r.length y.c)).setCell ⟨wr.heap.size,1,none⟩ (Z J N)).drew=W:=⟨_,rfl⟩
      rw[hw3] at hS0 ⊢
      obtain ⟨z0,z1,k0,k1,hb3⟩:=hS0
      have hB3:Hid (Below wr.heap.size wr w3):=hgX.out.below.trans ((hg2.below.mono hgX.out.size).trans hb3)
      clear hw3 hb3 e0 e1 y0 y1 g0 g1 hg2 hwr
      have hoX:Hid (ai aM 2 58 (w3.alloc (H #[I y.p y.r.length y.c,Z J N] 58)) w.heap.size u5 L∧ay aM 2 (w3.alloc (H #[I y.p y.r.length y.c,Z J N] 58)) (some ⟨w3.heap.size,0,none⟩) [(⟨y.p,y.c,y.r,N⟩:Itm)]∧L.length+[(⟨y.p,y.c,y.r,N⟩:Itm)].length≤maxLen∧(L.length+[(⟨y.p,y.c,y.r,N⟩:Itm)].length)*32≤140737488355328∧Below w.heap.size w (w3.alloc (H #[I y.p y.r.length y.c,Z J N] 58))):=by
       have hLk:=hR.out.len
       have hbb:=hR.out.bel.trans (hB3.out.mono hR.out.bel.size)
       exact ⟨(hR.out.own.below hB3.out).gr ((gR _).alloc _),d9 rfl (⟨y.p,y.c,y.r,N⟩:Itm) _,by unfold maxLen;simp;omega,by simp;omega,hbb.alloc hbb.size _⟩
      go_wp2_with (at_builtin;refine et _ rfl _ _ rfl w.heap.size u5 L [(⟨y.p,y.c,y.r,N⟩:Itm)] (some ⟨w3.heap.size,0,none⟩) 1 rfl rfl hoX.out.1 hoX.out.2.1 (fun h=>by cases h) hoX.out.2.2.1 hoX.out.2.2.2.1 hoX.out.2.2.2.2.size ?_;intro v5 w5 hown5 hg5)
      have h1:=hown5
      rw[←hNH.out] at h1
      have hfin0:=hR.out.stepB (hOH.out▸hO2) h1 (hoX.out.2.2.2.2.trans (hoX.out.1.grown_below hg5 hoX.out.2.2.2.2.size))
      rw[hNH.out] at hfin0
      have hfin:Hid _:=hfin0
      clear h1 hfin0
      clear hown5 hg5
      go_roundw
      case rel=>exact ⟨_,s,_,_,_,_,L++[(⟨y.p,y.c,y.r,N⟩:Itm)],rfl,rfl,hfin⟩
      case measure=>simp[sK]
    ·-- both begin with one row
     have hO3:O=0:=by omega
     obtain ⟨x,t,y,s,rfl,rfl⟩:∃x t y s,a'=x::t∧b'=y::s:=by
      have:=hOH.out
      cases b' with
      | nil=>cases a'<;>simp[kv] at this<;>omega
      | cons y s =>
       cases a' with
       | nil=>simp[kv] at this;omega
       | cons x t=>exact ⟨x,t,y,s,rfl,rfl⟩
     have hax:(0:Int)<((x::t).length:Int):=by simp
     have hbx:(0:Int)<((y::s).length:Int):=by simp
     obtain ⟨ba,oa,rfl,hba,hcs⟩:=hR.out.ia.at (k:=0) (by simp)
     obtain ⟨d0,d1⟩:=hcs 0 (by simp)
     obtain ⟨bb,ob,rfl,hbb,hcs2⟩:=hR.out.ib.at (k:=0) (by simp)
     obtain ⟨e0,e1⟩:=hcs2 0 (by simp)
     have d0':w.cell? ⟨ba,oa,none⟩=some (I x.p x.r.length x.c):=by simpa using d0
     have d1':w.cell? ⟨ba,oa+1,none⟩=some (Z J x.n):=by simpa using d1
     have e0':w.cell? ⟨bb,ob,none⟩=some (I y.p y.r.length y.c):=by simpa using e0
     have e1':w.cell? ⟨bb,ob+1,none⟩=some (Z J y.n):=by simpa using e1
     clear hcs hcs2 e0 e1 d0 d1
     have hyw:=hR.out.ob y (by simp)
     have hxw:=hR.out.oa x (by simp)
     obtain ⟨N,hN⟩:∃N,x.n-y.n=N:=⟨_,rfl⟩
     have hNH:Hid (x.n-y.n=N):=hN
     have hwr:wrap64 (x.n-y.n)=N:=by
      have h1:=hyw.1
      have h2:=hxw.1
      simp only[okW,inB,Bool.and_eq_true,decide_eq_true_eq] at h1 h2
      unfold wrap64;omega
     clear hyw hxw hN
     have hstl:(1:Int)≤(s.length:Int)+1:=by omega
     have htl:(1:Int)≤(t.length:Int)+1:=by omega
     subst hO3
     go_wp2_with fail
     refine cM (show Calls _ _ _ _ _ from hC.out) ?_
     rintro e w2 ⟨rfl,hg2⟩
     have d0:w2.cell? ⟨ba,oa,none⟩=some (I x.p x.r.length x.c):=(((hbX.out.trans (hg2.below.mono hbX.out.size))).cell (p:=⟨ba,oa,none⟩) hba).trans d0'
     have d1:w2.cell? ⟨ba,oa+1,none⟩=some (Z J x.n):=(((hbX.out.trans (hg2.below.mono hbX.out.size))).cell (p:=⟨ba,oa+1,none⟩) hba).trans d1'
     have y0:w2.cell? ⟨wr.heap.size,0,none⟩=some (I none 0 0):=(hg2.cell (p:=⟨wr.heap.size,0,none⟩) hXs.out).trans x0
     have y1:w2.cell? ⟨wr.heap.size,1,none⟩=some (Z J 0):=(hg2.cell (p:=⟨wr.heap.size,1,none⟩) hXs.out).trans x1
     have g0:w2.frozen? ⟨wr.heap.size,0,none⟩=false:=(hg2.below.frozen (p:=⟨wr.heap.size,0,none⟩) hXs.out).trans (f0 0)
     have g1:w2.frozen? ⟨wr.heap.size,1,none⟩=false:=(hg2.below.frozen (p:=⟨wr.heap.size,1,none⟩) hXs.out).trans (f0 1)
     clear hWX x0 x1 f0 hC
     go_wp2
     go_region
     have hS0:=kE (v0:= I x.p x.r.length x.c) (v1:= Z J x.n) (nR _) y0 y1 g0 g1
     obtain ⟨w4,hw4⟩:∃W,((w2.setCell ⟨wr.heap.size,0,none⟩ (I x.p x.r.length x.c)).setCell ⟨wr.heap.size,1,none⟩ (Z J x.n)).drew=W:=⟨_,rfl⟩
     rw[hw4] at hS0 ⊢
     obtain ⟨z0,z1,k0,k1,hb4⟩:=hS0
     have hB4:Hid (Below wr.heap.size wr w4):=hgX.out.below.trans ((hg2.below.mono hgX.out.size).trans hb4)
     have e0:w4.cell? ⟨bb,ob,none⟩=some (I y.p y.r.length y.c):=((hR.out.bel.trans (hB4.out.mono hR.out.bel.size)).cell (p:=⟨bb,ob,none⟩) hbb).trans e0'
     have e1:w4.cell? ⟨bb,ob+1,none⟩=some (Z J y.n):=((hR.out.bel.trans (hB4.out.mono hR.out.bel.size)).cell (p:=⟨bb,ob+1,none⟩) hbb).trans e1'
     clear hw4 hb4 d0 d1 y0 y1 g0 g1 hg2 d0' d1' e0' e1'
     obtain ⟨PP,hPP⟩:∃PP,(if c=1 then some (⟨ba,oa,none⟩:Addr) else some ⟨ba,oa+2,none⟩)=PP:=⟨_,rfl⟩
     have hPH:Hid ((if c=1 then some (⟨ba,oa,none⟩:Addr) else some ⟨ba,oa+2,none⟩)=PP):=hPP
     go_wp2
     try rw[hPP]
     clear hPP
     go_region
     have hS0:=kE (v0:= I y.p y.r.length y.c) (v1:= Z J N) (nR _) z0 z1 k0 k1
     obtain ⟨w3,hw3⟩:∃W,((w4.setCell ⟨wr.heap.size,0,none⟩ (I y.p y.r.length y.c)).setCell ⟨wr.heap.size,1,none⟩ (Z J N)).drew=W:=⟨_,rfl⟩
     rw[hw3] at hS0 ⊢
     clear z0 z1 k0 k1
     obtain ⟨z0,z1,k0,k1,hb3⟩:=hS0
     have hB3:Hid (Below wr.heap.size wr w3):=hB4.out.trans hb3
     clear hw3 hb3 e0 e1 hwr
     cases hn0:(N != 0)
     ·have hNz:x.n-y.n=0:=by rw[hNH.out];simpa using hn0
      have hfin:Hid (DInv w w3 a b t s PP (if d=1 then some ⟨bb,ob,none⟩ else some ⟨bb,ob+2,none⟩) (c-1) (d-1) u5 L):=by
       show DInv _ _ _ _ _ _ _ _ _ _ _ _
       rw[←hPH.out]
       exact hR.out.stepC hOH.out (by rw[if_pos hNz]) (hR.out.own.below hB3.out) (hR.out.bel.trans (hB3.out.mono hR.out.bel.size))
      clear hNz
      go_wp2
      go_roundw
      case rel=>exact ⟨t,s,_,_,_,_,L,rfl,rfl,hfin⟩
      case measure=>simp[sK];omega
     ·have hNz:¬x.n-y.n=0:=by rw[hNH.out];simpa using hn0
      have hoX:Hid (ai aM 2 58 (w3.alloc (H #[I y.p y.r.length y.c,Z J N] 58)) w.heap.size u5 L∧ay aM 2 (w3.alloc (H #[I y.p y.r.length y.c,Z J N] 58)) (some ⟨w3.heap.size,0,none⟩) [(⟨y.p,y.c,y.r,N⟩:Itm)]∧L.length+[(⟨y.p,y.c,y.r,N⟩:Itm)].length≤maxLen∧(L.length+[(⟨y.p,y.c,y.r,N⟩:Itm)].length)*32≤140737488355328∧Below w.heap.size w (w3.alloc (H #[I y.p y.r.length y.c,Z J N] 58))):=by
       have hLk:=hR.out.len
       have hbb:=hR.out.bel.trans (hB3.out.mono hR.out.bel.size)
       exact ⟨(hR.out.own.below hB3.out).gr ((gR _).alloc _),d9 rfl (⟨y.p,y.c,y.r,N⟩:Itm) _,by unfold maxLen;simp;omega,by simp;omega,hbb.alloc hbb.size _⟩
      go_wp2_with (at_builtin;refine et _ rfl _ _ rfl w.heap.size u5 L [(⟨y.p,y.c,y.r,N⟩:Itm)] (some ⟨w3.heap.size,0,none⟩) 1 rfl rfl hoX.out.1 hoX.out.2.1 (fun h=>by cases h) hoX.out.2.2.1 hoX.out.2.2.2.1 hoX.out.2.2.2.2.size ?_;intro v5 w5 hown5 hg5)
      have hfin:Hid (DInv w w5 a b t s PP (if d=1 then some ⟨bb,ob,none⟩ else some ⟨bb,ob+2,none⟩) (c-1) (d-1) v5 (L++[(⟨y.p,y.c,y.r,N⟩:Itm)])):=by
       show DInv _ _ _ _ _ _ _ _ _ _ _ _
       rw[←hPH.out]
       exact hR.out.stepC hOH.out (by rw[if_neg hNz,hNH.out]) hown5 (hoX.out.2.2.2.2.trans (hoX.out.1.grown_below hg5 hoX.out.2.2.2.2.size))
      clear hown5 hg5
      go_roundw
      case rel=>exact ⟨t,s,_,_,_,_,L++[(⟨y.p,y.c,y.r,N⟩:Itm)],rfl,rfl,hfin⟩
      case measure=>simp[sK];omega
end Go.Proofs.YtkefkplnamkicabGreatDoor
