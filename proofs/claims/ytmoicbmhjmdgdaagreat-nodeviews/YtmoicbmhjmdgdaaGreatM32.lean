/-
  The rows of a table: what zset.Of tells, and that it is a right set.
  zset.greatest: the last number of a list.
  zset.Of: the rows of a table.
-/
import Derived.Test.YtmoicbmhjmdgdaaGreatM14
import Derived.Test.YtmoicbmhjmdgdaaGreatM31
import Derived.Test.YtmoicbmhjmdgdaaGreatM17
import Derived.Test.YtmoicbmhjmdgdaaGreatM05
namespace Go.Proofs.YtmoicbmhjmdgdaaGreat

/-- The greatest number of a rising list, 0 if it has none. -/
def grt (l : List Int) : Int := l.getD (l.length - 1) 0
/-- The row of a key. -/
def rowOf (e : List Cel) (key : Int) : List Int := [key, grt (onceL (valsOf key 0 e)), grt (onceL (valsOf key 1 e)), grt (onceL (valsOf key 2 e))]
/-- The rows of a table. -/
def ofL (t : Tab) : List Zit := (onceL (keysOf t.e)).map fun key => (rowOf t.e key, 1)
theorem grt_mem (l : List Int) : grt l = 0 ∨ grt l ∈ l := by
 unfold grt
 by_cases h : l = []
 ·subst h; exact Or.inl rfl
 ·have hp : 0 < l.length := List.length_pos_iff.2 h
  right
  rw [List.getD_eq_getElem?_getD, List.getElem?_eq_getElem (show l.length - 1 < l.length by omega)]
  exact List.getElem_mem _
theorem key_ok {t : Tab} (h : errT t = 0) {key : Int} (hk : key ∈ keysOf t.e) : 0 ≤ key ∧ key ≤ 49 := by
 unfold keysOf at hk
 obtain ⟨y, hy, rfl⟩ := List.mem_map.1 hk
 have := errT_place h hy
 simp only [okPlace, inB, Bool.and_eq_true, decide_eq_true_eq] at this
 exact this.1.1
theorem grt_ok {t : Tab} (h : errT t = 0) (key col : Int) : -1000 ≤ grt (onceL (valsOf key col t.e)) ∧ grt (onceL (valsOf key col t.e)) ≤ 1000 := by
 rcases grt_mem (onceL (valsOf key col t.e)) with k | k
 ·rw [k]; omega
 ·have h1 := ((once_good _).2 _).1 k
  obtain ⟨y, hy, _, e⟩ := mem_vals.1 h1
  rw [← e]
  have := errT_place h hy
  simp only [okPlace, inB, Bool.and_eq_true, decide_eq_true_eq] at this
  exact this.2
theorem okN_of {n : Int} (h : -1000 ≤ n ∧ n ≤ 1000) : okN n = true := by
 simp only [okN, inB, Bool.and_eq_true, decide_eq_true_eq]; omega
/-- What Of tells of a right table is a right set. -/
theorem of_ok {t : Tab} (h : errT t = 0) : errZ (ofL t) = 0 := by
 have hp := errT_parts h
 refine (errZ_iff _).2 ⟨?_, ?_, ?_⟩
 ·have h1 := onceL_len (keysOf t.e)
  have h2 := keysOf_len t.e
  unfold ofL
  rw [List.length_map]; omega
 ·intro x hx
  unfold ofL at hx
  obtain ⟨key, hk, rfl⟩ := List.mem_map.1 hx
  have h1 := key_ok h (((once_good _).2 _).1 hk)
  have h2 : okN key = true := okN_of (by omega)
  unfold okZ okR rowOf
  simp [h2, okN_of (grt_ok h key 0), okN_of (grt_ok h key 1), okN_of (grt_ok h key 2)]
  decide
 ·unfold Rise ofL
  rw [List.pairwise_map]
  refine (once_good (keysOf t.e)).1.imp fun {a b} hab => ?_
  show (if cmpI a b = 0 then _ else cmpI a b) < 0
  have := cmpI_cases a b
  rw [if_neg (by omega)]; omega

end Go.Proofs.YtmoicbmhjmdgdaaGreat

namespace Go.Proofs.YtmoicbmhjmdgdaaGreat
open Go.RowKit Go.Sort

set_option maxHeartbeats 1000000 in
theorem greatest_any (l : List Int) (A : Option Addr) (cap : Nat) (w : World) (hl : l.length ≤ maxLen) (hr : RowI w A l) :
  Calls Tryz.prog 28 #[.slice A l.length cap] w fun e w' => e = .returned (.int .i64 (grt l)) ∧ Gr w w' := by
 unfold maxLen at hl
 by_cases h : l = []
 ·subst h
  go_enter Tryz.func28, Tryz.ntmps28
  go_wp2
  go_ret
  exact ⟨rfl, Gr.refl _⟩
 ·have hp : 0 < l.length := List.length_pos_iff.2 h
  have hk : l.length - 1 < l.length := by omega
  obtain ⟨b, off, rfl, hb, hcs⟩ := hr.at hk
  obtain ⟨x, hx⟩ : ∃ x, l[l.length - 1] = x := ⟨_, rfl⟩
  have e0 := hcs (l.length - 1) hk 0 (by omega)
  rw [hx] at e0
  have e1 : w.cell? ⟨b, off + (l.length - 1), none⟩ = some (.int .i64 x) := by simpa [encI] using e0
  have hfin : Hid (grt l = x) := by
   show _ = _
   unfold grt
   rw [List.getD_eq_getElem?_getD, List.getElem?_eq_getElem hk, ← hx]; rfl
  obtain ⟨n, hn⟩ : ∃ n, l.length = n + 1 := ⟨l.length - 1, by omega⟩
  rw [hn] at e1 ⊢
  rw [Nat.add_sub_cancel] at e1
  have hne : (((n + 1 : Nat) : Int) == 0) = false := by simp; omega
  have hw : IntKind.i64.wrap (((n + 1 : Nat) : Int) - 1) = (n : Int) := by rw [IntKind.wrap_i64]; omega
  have hlt : (n : Int) < ((n + 1 : Nat) : Int) := by omega
  clear hcs e0 hx h
  go_enter Tryz.func28, Tryz.ntmps28
  go_wp2
  go_ret
  exact ⟨by rw [hfin.out]; rfl, Gr.refl _⟩

end Go.Proofs.YtmoicbmhjmdgdaaGreat

namespace Go.Proofs.YtmoicbmhjmdgdaaGreat
open Go.RowKit Go.Sort

/-- What Of tells. -/
def ofR (t : Tab) : List Zit := if errT t = 0 then ofL t else []
theorem ofR_no {t : Tab} (h : errT t ≠ 0) : ofR t = [] := by unfold ofR; rw [if_neg h]
theorem ofR_ok {t : Tab} (h : errT t = 0) : ofR t = ofL t := by unfold ofR; rw [if_pos h]

theorem rowOf_step (e : List Cel) (key : Int) {j : Nat} (h : j < 3) : (rowOf e key).take (j + 1 + 1) = (rowOf e key).take (j + 1) ++ [grt (onceL (valsOf key j e))] := by
 have hj : j = 0 ∨ j = 1 ∨ j = 2 := by omega
 rcases hj with rfl | rfl | rfl <;> rfl
theorem rowOf_len (e : List Cel) (key : Int) : (rowOf e key).length = 4 := rfl
theorem rowOf_take (e : List Cel) (key : Int) (j : Nat) : ((rowOf e key).take j).length ≤ 4 := by rw [List.length_take, rowOf_len]; omega

set_option maxRecDepth 100000 in
set_option maxHeartbeats 4000000 in
theorem of_new (t : Tab) (A : Option Addr) (ca : Nat) (D : Option Addr) (cd : Nat) (w : World) (hl : t.c.l.length ≤ maxLen) (hel : t.e.length ≤ maxLen) (hr : Row w A t.c.l) (hd : RowC w D t.e) :
  Calls Tryz.prog 11 #[.agg #[.int .i64 t.c.c0, .int .i64 t.c.c1, .int .i64 t.c.c2, .int .i64 t.c.c3, .slice A t.c.l.length ca, .slice D t.e.length cd]] w fun e w' => ∃ (L : List Itm) (C : Option Addr) (c : Nat), e = .returned (.tuple #[.slice C L.length c, .int .i64 (errT t)]) ∧ L.map Itm.z = ofR t ∧ Items w' C L ∧ NilC C L.length c ∧ Below w.heap.size w w' ∧ NewT w.heap.size C L := by
 have ht0 : TabAt (w.alloc (.cells #[.int .i64 t.c.c0, .int .i64 t.c.c1, .int .i64 t.c.c2, .int .i64 t.c.c3, .slice A t.c.l.length ca, .slice D t.e.length cd] 48)) w.heap.size t A ca D cd := TabAt.new 48 hr hd rfl
 have hbw0 : Below w.heap.size w (w.alloc (.cells #[.int .i64 t.c.c0, .int .i64 t.c.c1, .int .i64 t.c.c2, .int .i64 t.c.c3, .slice A t.c.l.length ca, .slice D t.e.length cd] 48)) := ((Gr.refl w).alloc _).below
 have hck := checkT_any t A ca D cd (w.alloc (.cells #[.int .i64 t.c.c0, .int .i64 t.c.c1, .int .i64 t.c.c2, .int .i64 t.c.c3, .slice A t.c.l.length ca, .slice D t.e.length cd] 48)) hl hel ht0.row ht0.rowC
 have hckH : Hid _ := hck
 clear hck hl hel hr hd
 go_enter Tryz.func11, Tryz.ntmps11
 obtain ⟨k0, k1, k2, k3, k4, k5⟩ : _ ∧ _ ∧ _ ∧ _ ∧ _ ∧ _ := ⟨ht0.k0, ht0.k1, ht0.k2, ht0.k3, ht0.k4, ht0.k5⟩
 go_wp2_with fail
 refine Calls.mono (show Calls _ _ _ _ _ from hckH.out) ?_
 rintro e w1 ⟨rfl, hg1⟩
 clear hckH k0 k1 k2 k3 k4 k5
 have ht1 : Hid (TabAt w1 w.heap.size t A ca D cd ∧ Below w.heap.size w w1) := ⟨ht0.gr hg1, hbw0.trans (hg1.below.mono hbw0.size)⟩
 clear ht0 hbw0 hg1
 obtain ⟨E, hE⟩ : ∃ E, errT t = E := ⟨_, rfl⟩
 have hEH : Hid (errT t = E) := hE
 rw [hE]
 clear hE
 cases hq : (E != 0)
 ·have hE0 : E = 0 := by simpa using hq
  have h0H : Hid (errT t = 0) := by show _ = _; rw [hEH.out, hE0]
  subst hE0
  clear hEH hq
  have hsz : Hid (t.e.length * 40 ≤ 140737488355328 ∧ t.e.length ≤ 400) := by have := (errT_parts h0H.out).2.1; exact ⟨by omega, this⟩
  have hky := keys_any t A ca D cd w1 hsz.out.1 ht1.out.1.row ht1.out.1.rowC
  have hkyH : Hid _ := hky
  clear hky
  obtain ⟨k0, k1, k2, k3, k4, k5⟩ : _ ∧ _ ∧ _ ∧ _ ∧ _ ∧ _ := ⟨ht1.out.1.k0, ht1.out.1.k1, ht1.out.1.k2, ht1.out.1.k3, ht1.out.1.k4, ht1.out.1.k5⟩
  go_wp2_with fail
  refine Calls.mono (show Calls _ _ _ _ _ from hkyH.out) ?_
  rintro e w2 ⟨K, kc, rfl, hrk, hb2⟩
  clear hkyH k0 k1 k2 k3 k4 k5
  have ht2 : Hid (TabAt w2 w.heap.size t A ca D cd ∧ Below w.heap.size w w2) := ⟨ht1.out.1.below hb2, ht1.out.2.trans (hb2.mono ht1.out.2.size)⟩
  obtain ⟨ks, hks⟩ : ∃ ks, onceL (keysOf t.e) = ks := ⟨_, rfl⟩
  have hksH : Hid (onceL (keysOf t.e) = ks ∧ RowI w2 K ks) := ⟨hks, by rw [← hks]; exact hrk⟩
  have hkl : ks.length ≤ 400 := by
   rw [← hks]
   exact Nat.le_trans (onceL_len _) (Nat.le_trans (keysOf_len _) hsz.out.2)
  rw [hks]
  clear hks hrk hb2 ht1
  go_wp2
  go_loopw [5, 18] (fun v i wr => ∃ (k : Nat) (L : List Itm), k ≤ ks.length ∧ i = .int .i64 k ∧ Hid (L.length = k) ∧ Hid (L.map Itm.z = (ks.take k).map (fun key => (rowOf t.e key, 1))) ∧ Hid (OwnT wr w2.heap.size v L ∧ Below w2.heap.size w2 wr)) (fun _ i _ => ks.length - (intOf i).toNat)
  case atStart => exact ⟨0, [], by omega, rfl, rfl, by simp [Hid], OwnT.nil _ _, Below.refl _ _⟩
  case round =>
   rename World => w3
   obtain ⟨k, L, hk, rfl, hLk, hLz, hov⟩ := hrel
   by_cases hlt : k < ks.length
   ·have hltz : (k : Int) < (ks.length : Int) := by omega
    have hrk3 : RowI w3 K ks := hksH.out.2.below hov.out.2
    obtain ⟨bb, off, rfl, hb, hcs⟩ := hrk3.at hlt
    obtain ⟨key, hkey⟩ : ∃ x, ks[k] = x := ⟨_, rfl⟩
    have e0 := hcs k hlt 0 (by omega)
    rw [hkey] at e0
    have e1 : w3.cell? ⟨bb, off + k, none⟩ = some (.int .i64 key) := by simpa [encI] using e0
    have hst : Hid ((ks.take (k + 1)).map (fun key => (rowOf t.e key, (1 : Int))) = (ks.take k).map (fun key => (rowOf t.e key, 1)) ++ [(rowOf t.e key, 1)]) := by show _ = _; rw [List.take_succ_eq_append_getElem hlt, hkey]; simp
    have ht3 : Hid (TabAt w3 w.heap.size t A ca D cd) := ht2.out.1.below hov.out.2
    clear hcs e0 hkey hrk3
    go_wp2
    go_loopw [8, 24] (fun v i wr => ∃ j : Nat, j ≤ 3 ∧ i = .int .i64 j ∧ Hid (OwnI wr w3.heap.size v ((rowOf t.e key).take (j + 1)) ∧ Below w3.heap.size w3 wr)) (fun _ i _ => 3 - (intOf i).toNat)
    case atStart => exact ⟨0, by omega, rfl, World.ownsRow_lit w3 #[.int .i64 key] 1 (Nat.le_refl _) (by unfold maxLen; omega) rfl, ((Gr.refl _).alloc _).below⟩
    case round =>
     rename World => w4
     obtain ⟨j, hj, rfl, how⟩ := hrel
     have ht4 : Hid (TabAt w4 w.heap.size t A ca D cd) := ht3.out.below how.out.2
     by_cases hj3 : j < 3
     ·have hj3z : (j : Int) < 3 := by omega
      obtain ⟨k0, k1, k2, k3, k4, k5⟩ : _ ∧ _ ∧ _ ∧ _ ∧ _ ∧ _ := ⟨ht4.out.k0, ht4.out.k1, ht4.out.k2, ht4.out.k3, ht4.out.k4, ht4.out.k5⟩
      have hvl := values_any t A ca D cd key j w4 hsz.out.1 ht4.out.row ht4.out.rowC
      have hvlH : Hid _ := hvl
      clear hvl
      go_wp2_with fail
      refine Calls.mono (show Calls _ _ _ _ _ from hvlH.out) ?_
      rintro e w5 ⟨V, vc, rfl, hrv, hb5⟩
      clear hvlH k0 k1 k2 k3 k4 k5
      have hgt := greatest_any (onceL (valsOf key j t.e)) V vc w5 (by have h1 := onceL_len (valsOf key j t.e); have h2 := valsOf_len key j t.e; have h3 := hsz.out.2; unfold maxLen; omega) hrv
      have hgtH : Hid _ := hgt
      clear hgt hrv
      go_wp2_with fail
      refine Calls.mono (show Calls _ _ _ _ _ from hgtH.out) ?_
      rintro e w6 ⟨rfl, hg6⟩
      clear hgtH
      obtain ⟨gv, hgv⟩ : ∃ g, grt (onceL (valsOf key j t.e)) = g := ⟨_, rfl⟩
      have hst2 : Hid ((rowOf t.e key).take (j + 1 + 1) = (rowOf t.e key).take (j + 1) ++ [gv]) := by show _ = _; rw [rowOf_step _ _ hj3, hgv]
      rw [hgv]
      obtain ⟨M, hM⟩ : ∃ M, (rowOf t.e key).take (j + 1) = M := ⟨_, rfl⟩
      have hMl : M.length ≤ 4 := by rw [← hM]; exact rowOf_take _ _ _
      rw [hM] at how hst2
      have hb6 : Below w4.heap.size w4 (w6.alloc (.cells #[.int .i64 gv] 3)) := hb5.trans ((hg6.trans ((Gr.refl _).alloc _)).below.mono hb5.size)
      have hoX : Hid (OwnI (w6.alloc (.cells #[.int .i64 gv] 3)) w3.heap.size u8 M ∧ RowI (w6.alloc (.cells #[.int .i64 gv] 3)) (some ⟨w6.heap.size, 0, none⟩) [gv] ∧ M.length + 1 ≤ maxLen ∧ (M.length + 1) * 8 ≤ 140737488355328 ∧ Below w3.heap.size w3 (w6.alloc (.cells #[.int .i64 gv] 3))) := ⟨how.out.1.below hb6, rowNewI rfl gv 3, by unfold maxLen; omega, by omega, how.out.2.trans (hb6.mono how.out.2.size)⟩
      clear hM hMl hgv hb5 hg6 hb6 how
      go_wp2_with (at_builtin; refine wpList_append_i _ rfl (.tmp 27) (.tmp 33) rfl w3.heap.size u8 M [gv] (some ⟨w6.heap.size, 0, none⟩) 1 rfl rfl hoX.out.1 hoX.out.2.1 (fun h => by cases h) hoX.out.2.2.1 hoX.out.2.2.2.1 hoX.out.2.2.2.2.size ?_; intro v7 w7 hown7 hg7)
      have hfin7 : Hid (OwnI w7 w3.heap.size v7 (M ++ [gv]) ∧ Below w3.heap.size w3 w7) := ⟨hown7, hoX.out.2.2.2.2.trans (OwnG.grown_below hoX.out.1 hg7 hoX.out.2.2.2.2.size)⟩
      clear hown7 hg7 hoX
      go_roundw
      case rel => exact ⟨j + 1, by omega, by go_num, by rw [hst2.out]; exact hfin7⟩
      case measure => simp [intOf]; omega
     ·have hj3z : ¬ (j : Int) < 3 := by omega
      obtain rfl : j = 3 := by omega
      have hrw : OwnI w4 w3.heap.size u8 (rowOf t.e key) := how.out.1
      obtain ⟨C, c, rfl, hC, hrow, hlt4⟩ := OwnG.row encI_len hrw
      have hwX : Below w3.heap.size w3 (w4.alloc (.cells #[.slice C (rowOf t.e key).length c, .int .i64 1] 40)) := how.out.2.alloc how.out.2.size _
      have hoX : Hid (OwnT (w4.alloc (.cells #[.slice C (rowOf t.e key).length c, .int .i64 1] 40)) w2.heap.size u5 L ∧ Apart (w4.alloc (.cells #[.slice C (rowOf t.e key).length c, .int .i64 1] 40)) w2.heap.size u5.ownBlock ⟨C, c, rowOf t.e key, 1⟩ ∧ (L.length + 1 ≤ maxLen ∧ (L.length + 1) * 32 ≤ 140737488355328) ∧ w2.heap.size ≤ (w4.alloc (.cells #[.slice C (rowOf t.e key).length c, .int .i64 1] 40)).heap.size ∧ Below w2.heap.size w2 (w4.alloc (.cells #[.slice C (rowOf t.e key).length c, .int .i64 1] 40))) := by
       have hsz3 := hov.out.2.size
       have hLl := hLk.out
       have hbX := hov.out.2.trans (hwX.mono hsz3)
       refine ⟨hov.out.1.below hwX, ⟨hrow.gr ((Gr.refl _).alloc _), by show (rowOf t.e key).length ≤ maxLen; rw [rowOf_len]; unfold maxLen; omega, hC, fun a ha => ⟨?_, ?_, ?_⟩⟩, ⟨?_, ?_⟩, hbX.size, hbX⟩
       ·have h1 := (hlt4 a ha).1; omega
       ·have h1 := (hlt4 a ha).2; simp; omega
       ·intro e
        have h1 := (World.ownsRow.lt hov.out.1.own a.block e).2
        have h2 := (hlt4 a ha).1
        omega
       ·unfold maxLen; omega
       ·omega
      obtain ⟨R, hR⟩ : ∃ R, rowOf t.e key = R := ⟨_, rfl⟩
      rw [hR] at hoX hst ⊢
      clear hrw hrow hC hlt4 hwX how hR
      go_wp2_with (at_builtin; refine wpList_append_t _ rfl (.tmp 36) (.tmp 39) rfl w2.heap.size u5 L ⟨C, c, R, 1⟩ ⟨w4.heap.size, 0, none⟩ 1 rfl rfl hoX.out.1 (rowNewT rfl ⟨C, c, R, 1⟩ 40) hoX.out.2.1 hoX.out.2.2.1.1 hoX.out.2.2.1.2 hoX.out.2.2.2.1 ?_; intro v8 w8 hown8 hb8)
      have hov3 : Hid (OwnT w8 w2.heap.size v8 (L ++ [⟨C, c, R, 1⟩]) ∧ Below w2.heap.size w2 w8) := ⟨hown8, hoX.out.2.2.2.2.trans hb8⟩
      clear hown8 hb8 hoX
      go_roundw
      case rel =>
       refine ⟨k + 1, L ++ [⟨C, c, R, 1⟩], by omega, by go_num, ?_, ?_, hov3⟩
       ·show _ = _; simp [hLk.out]
       ·show _ = _; rw [hst.out, List.map_append, hLz.out]; rfl
      case measure => simp [intOf]; omega
   ·have hltz : ¬ (k : Int) < (ks.length : Int) := by omega
    have hke : ks.take k = ks := List.take_of_length_le (by omega)
    have hfin : Hid (L.map Itm.z = ofR t) := by
     show _ = _
     rw [hLz.out, hke, ofR_ok h0H.out]
     unfold ofL
     rw [hksH.out.1]
    obtain ⟨A2, cap2, hv2, hn2, hit, hA2⟩ := hov.out.1.items
    have hfin2 : Hid (Items w3 A2 L ∧ NilC A2 L.length cap2 ∧ Below w.heap.size w w3 ∧ NewT w.heap.size A2 L) := ⟨hit, hn2, ht2.out.2.trans (hov.out.2.mono ht2.out.2.size), fun a ha => Nat.le_trans ht2.out.2.size (hA2 a ha).1, fun x hx a ha => Nat.le_trans ht2.out.2.size ((hov.out.1.each x hx).own a ha).1⟩
    subst hv2
    clear hke hit hn2 hA2 hov
    go_wp2
    go_ret2
    exact ⟨L, A2, cap2, by rw [h0H.out]; rfl, hfin.out, hfin2.out.1, hfin2.out.2.1, hfin2.out.2.2⟩
 ·have hE0 : E ≠ 0 := by simpa using hq
  have hfin : Hid (ofR t = []) := ofR_no (by rw [hEH.out]; exact hE0)
  clear hE0
  go_wp2
  go_ret2
  exact ⟨[], none, 0, by rw [hEH.out]; rfl, by rw [hfin.out]; rfl, ⟨Or.inl rfl, fun x hx => by cases hx⟩, fun _ => rfl, ht1.out.2, NewT.none _⟩
theorem of_any (t : Tab) (A : Option Addr) (ca : Nat) (D : Option Addr) (cd : Nat) (w : World) (hl : t.c.l.length ≤ maxLen) (hel : t.e.length ≤ maxLen) (hr : Row w A t.c.l) (hd : RowC w D t.e) :
  Calls Tryz.prog 11 #[.agg #[.int .i64 t.c.c0, .int .i64 t.c.c1, .int .i64 t.c.c2, .int .i64 t.c.c3, .slice A t.c.l.length ca, .slice D t.e.length cd]] w fun e w' => ∃ (L : List Itm) (C : Option Addr) (c : Nat), e = .returned (.tuple #[.slice C L.length c, .int .i64 (errT t)]) ∧ L.map Itm.z = ofR t ∧ Items w' C L ∧ NilC C L.length c ∧ Below w.heap.size w w' :=
 (of_new t A ca D cd w hl hel hr hd).mono fun _ _ ⟨L, C, c, h1, h2, h3, h4, h5, _⟩ => ⟨L, C, c, h1, h2, h3, h4, h5⟩

end Go.Proofs.YtmoicbmhjmdgdaaGreat
