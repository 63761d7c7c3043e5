/-
  zset.Of: the rows of a table.
  viewlaw.ZsetSays.
-/
import Derived.Test.YtnkpfhipgcmplaaGreatDoorM36
import Derived.Test.YtnkpfhipgcmplaaGreatDoorM22
import Derived.Test.YtnkpfhipgcmplaaGreatDoorM07
import Derived.Test.YtnkpfhipgcmplaaGreatDoorM33
import Derived.Test.YtnkpfhipgcmplaaGreatDoorM38
namespace Go.Proofs.YtnkpfhipgcmplaaGreatDoor
open Go.RowKit Go.Sort

/-- What Of tells. -/
def ofR (t : Tab) : List Zit := if errT t = 0 then ofL t else []
theorem ofR_no {t : Tab} (h : errT t ≠ 0) : ofR t = [] := by unfold ofR; rw [if_neg h]
theorem ofR_ok {t : Tab} (h : errT t = 0) : ofR t = ofL t := by unfold ofR; rw [if_pos h]

theorem rowOf_step (e : List Cel) (key : Int) {j : Nat} (h : j < 3) : (rowOf e key).take (j + 1 + 1) = (rowOf e key).take (j + 1) ++ [grt (onceL (valsOf key j e))] := by
  have hj : j = 0 ∨ j = 1 ∨ j = 2 := by omega
  rcases hj with rfl | rfl | rfl <;> rfl
theorem rowOf_len (e : List Cel) (key : Int) : (rowOf e key).length = 4 := rfl
theorem rowOf_take (e : List Cel) (key : Int) (j : Nat) : ((rowOf e key).take j).length ≤ 4 := by rw [List.length_take, rowOf_len]; omega

set_option maxRecDepth 100000 in
set_option maxHeartbeats 4000000 in
theorem of_any (t : Tab) (A : Option Addr) (ca : Nat) (D : Option Addr) (cd : Nat) (w : World) (hl : t.c.l.length ≤ maxLen) (hel : t.e.length ≤ maxLen) (hr : Row w A t.c.l) (hd : RowC w D t.e) :
    Calls Tryz.prog 13 #[.agg #[.int .i64 t.c.c0, .int .i64 t.c.c1, .int .i64 t.c.c2, .int .i64 t.c.c3, .slice A t.c.l.length ca, .slice D t.e.length cd]] w fun e w' => ∃ (L : List Itm) (C : Option Addr) (c : Nat), e = .returned (.tuple #[.slice C L.length c, .int .i64 (errT t)]) ∧ L.map Itm.z = ofR t ∧ Items w' C L ∧ NilC C L.length c ∧ Below w.heap.size w w' := by
  have ht0 : TabAt (w.alloc (.cells #[.int .i64 t.c.c0, .int .i64 t.c.c1, .int .i64 t.c.c2, .int .i64 t.c.c3, .slice A t.c.l.length ca, .slice D t.e.length cd] 29)) w.heap.size t A ca D cd := TabAt.new 29 hr hd rfl
  have hbw0 : Below w.heap.size w (w.alloc (.cells #[.int .i64 t.c.c0, .int .i64 t.c.c1, .int .i64 t.c.c2, .int .i64 t.c.c3, .slice A t.c.l.length ca, .slice D t.e.length cd] 29)) := ((Gr.refl w).alloc _).below
  have hck := checkT_any t A ca D cd (w.alloc (.cells #[.int .i64 t.c.c0, .int .i64 t.c.c1, .int .i64 t.c.c2, .int .i64 t.c.c3, .slice A t.c.l.length ca, .slice D t.e.length cd] 29)) hl hel ht0.row ht0.rowC
  have hckH : Hid _ := hck
  clear hck hl hel hr hd
  go_enter Tryz.func13, Tryz.ntmps13
  obtain ⟨k0, k1, k2, k3, k4, k5⟩ : _ ∧ _ ∧ _ ∧ _ ∧ _ ∧ _ := ⟨ht0.k0, ht0.k1, ht0.k2, ht0.k3, ht0.k4, ht0.k5⟩
  go_wp2_with fail
  refine Calls.mono (show Calls _ _ _ _ _ from hckH.out) ?_
  rintro e w1 ⟨rfl, hg1⟩
  clear hckH k0 k1 k2 k3 k4 k5
  have ht1 : Hid (TabAt w1 w.heap.size t A ca D cd ∧ Below w.heap.size w w1) := ⟨ht0.gr hg1, hbw0.trans (hg1.below.mono hbw0.size)⟩
  clear ht0 hbw0 hg1
  obtain ⟨E, hE⟩ : ∃ E, errT t = E := ⟨_, rfl⟩
  have hEH : Hid (errT t = E) := hE
  rw [hE]
  clear hE
  cases hq : (E != 0)
  · have hE0 : E = 0 := by simpa using hq
    have h0H : Hid (errT t = 0) := by show _ = _; rw [hEH.out, hE0]
    subst hE0
    clear hEH hq
    have hsz : Hid (t.e.length * 40 ≤ 140737488355328 ∧ t.e.length ≤ 400) := by have := (errT_parts h0H.out).2.1; exact ⟨by omega, this⟩
    have hky := keys_any t A ca D cd w1 hsz.out.1 ht1.out.1.row ht1.out.1.rowC
    have hkyH : Hid _ := hky
    clear hky
    obtain ⟨k0, k1, k2, k3, k4, k5⟩ : _ ∧ _ ∧ _ ∧ _ ∧ _ ∧ _ := ⟨ht1.out.1.k0, ht1.out.1.k1, ht1.out.1.k2, ht1.out.1.k3, ht1.out.1.k4, ht1.out.1.k5⟩
    go_wp2_with fail
    refine Calls.mono (show Calls _ _ _ _ _ from hkyH.out) ?_
    rintro e w2 ⟨K, kc, rfl, hrk, hb2⟩
    clear hkyH k0 k1 k2 k3 k4 k5
    have ht2 : Hid (TabAt w2 w.heap.size t A ca D cd ∧ Below w.heap.size w w2) := ⟨ht1.out.1.below hb2, ht1.out.2.trans (hb2.mono ht1.out.2.size)⟩
    obtain ⟨ks, hks⟩ : ∃ ks, onceL (keysOf t.e) = ks := ⟨_, rfl⟩
    have hksH : Hid (onceL (keysOf t.e) = ks ∧ RowI w2 K ks) := ⟨hks, by rw [← hks]; exact hrk⟩
    have hkl : ks.length ≤ 400 := by
      rw [← hks]
      exact Nat.le_trans (onceL_len _) (Nat.le_trans (keysOf_len _) hsz.out.2)
    rw [hks]
    clear hks hrk hb2 ht1
    go_wp2
    go_loopw [5, 18] (fun v i wr => ∃ (k : Nat) (L : List Itm), k ≤ ks.length ∧ i = .int .i64 k ∧ Hid (L.length = k) ∧ Hid (L.map Itm.z = (ks.take k).map (fun key => (rowOf t.e key, 1))) ∧ Hid (OwnT wr w2.heap.size v L ∧ Below w2.heap.size w2 wr)) (fun _ i _ => ks.length - (intOf i).toNat)
    case atStart => exact ⟨0, [], by omega, rfl, rfl, by simp [Hid], OwnT.nil _ _, Below.refl _ _⟩
    case round =>
      rename World => w3
      obtain ⟨k, L, hk, rfl, hLk, hLz, hov⟩ := hrel
      by_cases hlt : k < ks.length
      · have hltz : (k : Int) < (ks.length : Int) := by omega
        have hrk3 : RowI w3 K ks := hksH.out.2.below hov.out.2
        obtain ⟨bb, off, rfl, hb, hcs⟩ := hrk3.at hlt
        obtain ⟨key, hkey⟩ : ∃ x, ks[k] = x := ⟨_, rfl⟩
        have e0 := hcs k hlt 0 (by omega)
        rw [hkey] at e0
        have e1 : w3.cell? ⟨bb, off + k, none⟩ = some (.int .i64 key) := by simpa [encI] using e0
        have hst : Hid ((ks.take (k + 1)).map (fun key => (rowOf t.e key, (1 : Int))) = (ks.take k).map (fun key => (rowOf t.e key, 1)) ++ [(rowOf t.e key, 1)]) := by show _ = _; rw [List.take_succ_eq_append_getElem hlt, hkey]; simp
        have ht3 : Hid (TabAt w3 w.heap.size t A ca D cd) := ht2.out.1.below hov.out.2
        clear hcs e0 hkey hrk3
        go_wp2
        go_loopw [8, 24] (fun v i wr => ∃ j : Nat, j ≤ 3 ∧ i = .int .i64 j ∧ Hid (OwnI wr w3.heap.size v ((rowOf t.e key).take (j + 1)) ∧ Below w3.heap.size w3 wr)) (fun _ i _ => 3 - (intOf i).toNat)
        case atStart => exact ⟨0, by omega, rfl, World.ownsRow_lit w3 #[.int .i64 key] 1 (Nat.le_refl _) (by unfold maxLen; omega) rfl, ((Gr.refl _).alloc _).below⟩
        case round =>
          rename World => w4
          obtain ⟨j, hj, rfl, how⟩ := hrel
          have ht4 : Hid (TabAt w4 w.heap.size t A ca D cd) := ht3.out.below how.out.2
          by_cases hj3 : j < 3
          · have hj3z : (j : Int) < 3 := by omega
            obtain ⟨k0, k1, k2, k3, k4, k5⟩ : _ ∧ _ ∧ _ ∧ _ ∧ _ ∧ _ := ⟨ht4.out.k0, ht4.out.k1, ht4.out.k2, ht4.out.k3, ht4.out.k4, ht4.out.k5⟩
            have hvl := values_any t A ca D cd key j w4 hsz.out.1 ht4.out.row ht4.out.rowC
            have hvlH : Hid _ := hvl
            clear hvl
            go_wp2_with fail
            refine Calls.mono (show Calls _ _ _ _ _ from hvlH.out) ?_
            rintro e w5 ⟨V, vc, rfl, hrv, hb5⟩
            clear hvlH k0 k1 k2 k3 k4 k5
            have hgt := greatest_any (onceL (valsOf key j t.e)) V vc w5 (by have h1 := onceL_len (valsOf key j t.e); have h2 := valsOf_len key j t.e; have h3 := hsz.out.2; unfold maxLen; omega) hrv
            have hgtH : Hid _ := hgt
            clear hgt hrv
            go_wp2_with fail
            refine Calls.mono (show Calls _ _ _ _ _ from hgtH.out) ?_
            rintro e w6 ⟨rfl, hg6⟩
            clear hgtH
            obtain ⟨gv, hgv⟩ : ∃ g, grt (onceL (valsOf key j t.e)) = g := ⟨_, rfl⟩
            have hst2 : Hid ((rowOf t.e key).take (j + 1 + 1) = (rowOf t.e key).take (j + 1) ++ [gv]) := by show _ = _; rw [rowOf_step _ _ hj3, hgv]
            rw [hgv]
            obtain ⟨M, hM⟩ : ∃ M, (rowOf t.e key).take (j + 1) = M := ⟨_, rfl⟩
            have hMl : M.length ≤ 4 := by rw [← hM]; exact rowOf_take _ _ _
            rw [hM] at how hst2
            have hb6 : Below w4.heap.size w4 (w6.alloc (.cells #[.int .i64 gv] 3)) := hb5.trans ((hg6.trans ((Gr.refl _).alloc _)).below.mono hb5.size)
            have hoX : Hid (OwnI (w6.alloc (.cells #[.int .i64 gv] 3)) w3.heap.size u8 M ∧ RowI (w6.alloc (.cells #[.int .i64 gv] 3)) (some ⟨w6.heap.size, 0, none⟩) [gv] ∧ M.length + 1 ≤ maxLen ∧ (M.length + 1) * 8 ≤ 140737488355328 ∧ Below w3.heap.size w3 (w6.alloc (.cells #[.int .i64 gv] 3))) := ⟨how.out.1.below hb6, rowNewI rfl gv 3, by unfold maxLen; omega, by omega, how.out.2.trans (hb6.mono how.out.2.size)⟩
            clear hM hMl hgv hb5 hg6 hb6 how
            go_wp2_with (at_builtin; refine wpList_append_i _ rfl (.tmp 27) (.tmp 33) rfl w3.heap.size u8 M [gv] (some ⟨w6.heap.size, 0, none⟩) 1 rfl rfl hoX.out.1 hoX.out.2.1 (fun h => by cases h) hoX.out.2.2.1 hoX.out.2.2.2.1 hoX.out.2.2.2.2.size ?_; intro v7 w7 hown7 hg7)
            have hfin7 : Hid (OwnI w7 w3.heap.size v7 (M ++ [gv]) ∧ Below w3.heap.size w3 w7) := ⟨hown7, hoX.out.2.2.2.2.trans (OwnG.grown_below hoX.out.1 hg7 hoX.out.2.2.2.2.size)⟩
            clear hown7 hg7 hoX
            go_roundw
            case rel => exact ⟨j + 1, by omega, by go_num, by rw [hst2.out]; exact hfin7⟩
            case measure => simp [intOf]; omega
          · have hj3z : ¬ (j : Int) < 3 := by omega
            obtain rfl : j = 3 := by omega
            have hrw : OwnI w4 w3.heap.size u8 (rowOf t.e key) := how.out.1
            obtain ⟨C, c, rfl, hC, hrow, hlt4⟩ := OwnG.row encI_len hrw
            have hwX : Below w3.heap.size w3 (w4.alloc (.cells #[.slice C (rowOf t.e key).length c, .int .i64 1] 66)) := how.out.2.alloc how.out.2.size _
            have hoX : Hid (OwnT (w4.alloc (.cells #[.slice C (rowOf t.e key).length c, .int .i64 1] 66)) w2.heap.size u5 L ∧ Apart (w4.alloc (.cells #[.slice C (rowOf t.e key).length c, .int .i64 1] 66)) w2.heap.size u5.ownBlock ⟨C, c, rowOf t.e key, 1⟩ ∧ (L.length + 1 ≤ maxLen ∧ (L.length + 1) * 32 ≤ 140737488355328) ∧ w2.heap.size ≤ (w4.alloc (.cells #[.slice C (rowOf t.e key).length c, .int .i64 1] 66)).heap.size ∧ Below w2.heap.size w2 (w4.alloc (.cells #[.slice C (rowOf t.e key).length c, .int .i64 1] 66))) := by
              have hsz3 := hov.out.2.size
              have hLl := hLk.out
              have hbX := hov.out.2.trans (hwX.mono hsz3)
              refine ⟨hov.out.1.below hwX, ⟨hrow.gr ((Gr.refl _).alloc _), by show (rowOf t.e key).length ≤ maxLen; rw [rowOf_len]; unfold maxLen; omega, hC, fun a ha => ⟨?_, ?_, ?_⟩⟩, ⟨?_, ?_⟩, hbX.size, hbX⟩
              · have h1 := (hlt4 a ha).1; omega
              · have h1 := (hlt4 a ha).2; simp; omega
              · intro e
                have h1 := (World.ownsRow.lt hov.out.1.own a.block e).2
                have h2 := (hlt4 a ha).1
                omega
              · unfold maxLen; omega
              · omega
            obtain ⟨R, hR⟩ : ∃ R, rowOf t.e key = R := ⟨_, rfl⟩
            rw [hR] at hoX hst ⊢
            clear hrw hrow hC hlt4 hwX how hR
            go_wp2_with (at_builtin; refine wpList_append_t _ rfl (.tmp 36) (.tmp 39) rfl w2.heap.size u5 L ⟨C, c, R, 1⟩ ⟨w4.heap.size, 0, none⟩ 1 rfl rfl hoX.out.1 (rowNewT rfl ⟨C, c, R, 1⟩ 66) hoX.out.2.1 hoX.out.2.2.1.1 hoX.out.2.2.1.2 hoX.out.2.2.2.1 ?_; intro v8 w8 hown8 hb8)
            have hov3 : Hid (OwnT w8 w2.heap.size v8 (L ++ [⟨C, c, R, 1⟩]) ∧ Below w2.heap.size w2 w8) := ⟨hown8, hoX.out.2.2.2.2.trans hb8⟩
            clear hown8 hb8 hoX
            go_roundw
            case rel =>
              refine ⟨k + 1, L ++ [⟨C, c, R, 1⟩], by omega, by go_num, ?_, ?_, hov3⟩
              · show _ = _; simp [hLk.out]
              · show _ = _; rw [hst.out, List.map_append, hLz.out]; rfl
            case measure => simp [intOf]; omega
      · have hltz : ¬ (k : Int) < (ks.length : Int) := by omega
        have hke : ks.take k = ks := List.take_of_length_le (by omega)
        have hfin : Hid (L.map Itm.z = ofR t) := by
          show _ = _
          rw [hLz.out, hke, ofR_ok h0H.out]
          unfold ofL
          rw [hksH.out.1]
        obtain ⟨A2, cap2, hv2, hn2, hit, _⟩ := hov.out.1.items
        have hfin2 : Hid (Items w3 A2 L ∧ NilC A2 L.length cap2 ∧ Below w.heap.size w w3) := ⟨hit, hn2, ht2.out.2.trans (hov.out.2.mono ht2.out.2.size)⟩
        subst hv2
        clear hke hit hn2 hov
        go_wp2
        go_ret2
        exact ⟨L, A2, cap2, by rw [h0H.out]; rfl, hfin.out, hfin2.out.1, hfin2.out.2.1, hfin2.out.2.2⟩
  · have hE0 : E ≠ 0 := by simpa using hq
    have hfin : Hid (ofR t = []) := ofR_no (by rw [hEH.out]; exact hE0)
    clear hE0
    go_wp2
    go_ret2
    exact ⟨[], none, 0, by rw [hEH.out]; rfl, by rw [hfin.out]; rfl, ⟨Or.inl rfl, fun x hx => by cases hx⟩, fun _ => rfl, ht1.out.2⟩

end Go.Proofs.YtnkpfhipgcmplaaGreatDoor

namespace Go.Proofs.YtnkpfhipgcmplaaGreatDoor
open Go.RowKit Go.Sort Go.Maps

theorem neg_same {a : List Zit} (h : errZ a = 0) : negL a = negP a := by unfold negL negP; rw [if_pos h]
theorem neg_none {a : List Zit} (h : ¬ errZ a = 0) : negL a = [] := by unfold negL; rw [if_neg h]
theorem ofR_len (t : Tab) : (ofR t).length ≤ 400 := by
  by_cases h : errT t = 0
  · rw [ofR_ok h]; exact ((errZ_iff _).1 (of_ok h)).1
  · rw [ofR_no h]; simp

set_option maxRecDepth 100000 in
set_option maxHeartbeats 8000000 in
theorem zsays_any (l a b : List Itm) (LA AA BA : Option Addr) (lc ac bc : Nat) (t : Tab) (A : Option Addr) (ca : Nat) (D : Option Addr) (cd : Nat) (x y : List Int) (XA YA : Option Addr) (xc yc : Nat) (w : World)
    (hl : Lv w LA lc l) (ha : Lv w AA ac a) (hb : Lv w BA bc b) (htl : t.c.l.length ≤ maxLen) (hte : t.e.length ≤ maxLen) (hr : Row w A t.c.l) (hd : RowC w D t.e) (hxl : x.length ≤ maxLen) (hx : RowI w XA x) (hy : RowI w YA y) (ht : Tens w) :
    Calls Tryz.prog 3 #[.slice LA l.length lc, .slice AA a.length ac, .slice BA b.length bc, .agg #[.int .i64 t.c.c0, .int .i64 t.c.c1, .int .i64 t.c.c2, .int .i64 t.c.c3, .slice A t.c.l.length ca, .slice D t.e.length cd], .slice XA x.length xc, .slice YA y.length yc] w fun e w' => e = .returned (.bool true) ∧ Below w.heap.size w w' := by
  have ht0 : TabAt (w.alloc (.cells #[.int .i64 t.c.c0, .int .i64 t.c.c1, .int .i64 t.c.c2, .int .i64 t.c.c3, .slice A t.c.l.length ca, .slice D t.e.length cd] 29)) w.heap.size t A ca D cd := TabAt.new 29 hr hd rfl
  have hg0 : Gr w (w.alloc (.cells #[.int .i64 t.c.c0, .int .i64 t.c.c1, .int .i64 t.c.c2, .int .i64 t.c.c3, .slice A t.c.l.length ca, .slice D t.e.length cd] 29)) := (Gr.refl w).alloc _
  obtain ⟨w0, hw0⟩ : ∃ W, w.alloc (.cells #[.int .i64 t.c.c0, .int .i64 t.c.c1, .int .i64 t.c.c2, .int .i64 t.c.c3, .slice A t.c.l.length ca, .slice D t.e.length cd] 29) = W := ⟨_, rfl⟩
  rw [hw0] at ht0 hg0
  have hH : Hid (∀ W, Below w0.heap.size w0 W → Lv W LA lc l ∧ Lv W AA ac a ∧ Lv W BA bc b ∧ TabAt W w.heap.size t A ca D cd ∧ RowI W XA x ∧ RowI W YA y ∧ Tens W ∧ Below w.heap.size w W) := fun W h => ⟨(hl.gr hg0).below h, (ha.gr hg0).below h, (hb.gr hg0).below h, ht0.below h, (hx.gr hg0).below h, (hy.gr hg0).below h, (ht.gr hg0).below h, hg0.below.trans (h.mono hg0.size)⟩
  have hL : Hid (t.c.l.length ≤ maxLen ∧ t.e.length ≤ maxLen ∧ x.length ≤ maxLen) := ⟨htl, hte, hxl⟩
  have hB0 : Hid (Below w0.heap.size w0 w0) := Below.refl _ _
  clear hl ha hb hr hd hx hy ht ht0 hg0 htl hte hxl
  obtain ⟨E1, hE1⟩ : ∃ E, normE (l.map Itm.z) = E := ⟨_, rfl⟩
  obtain ⟨E2, hE2⟩ : ∃ E, addE (a.map Itm.z) (b.map Itm.z) = E := ⟨_, rfl⟩
  obtain ⟨E3, hE3⟩ : ∃ E, errZ (a.map Itm.z) = E := ⟨_, rfl⟩
  obtain ⟨E4, hE4⟩ : ∃ E, errT t = E := ⟨_, rfl⟩
  have hE : Hid (normE (l.map Itm.z) = E1 ∧ addE (a.map Itm.z) (b.map Itm.z) = E2 ∧ errZ (a.map Itm.z) = E3 ∧ errT t = E4) := ⟨hE1, hE2, hE3, hE4⟩
  clear hE1 hE2 hE3 hE4
  have hC0 := normV (hH.out w0 hB0.out).1 rfl
  rw [hE.out.1] at hC0
  have hC : Hid _ := hC0
  clear hC0
  go_enter Tryz.func3, Tryz.ntmps3
  go_wp2_with fail
  clear hw0
  refine Calls.mono (show Calls _ _ _ _ _ from hC.out) ?_
  rintro e w1 ⟨N, NA, nc, rfl, p1, p2, p3⟩
  have h1 : Hid (N.map Itm.z = normL (l.map Itm.z) ∧ Lv w1 NA nc N ∧ Below w0.heap.size w0 w1) := ⟨p1, p2, hB0.out.trans p3⟩
  clear hC p1 p2 p3
  have hC0 := rnorm_any l LA lc w1 (hH.out w1 h1.out.2.2).1 (hH.out w1 h1.out.2.2).2.2.2.2.2.2.1
  rw [hE.out.1] at hC0
  have hC : Hid _ := hC0
  clear hC0
  go_wp2_with fail
  refine Calls.mono (show Calls _ _ _ _ _ from hC.out) ?_
  rintro e w2 ⟨M, MA, mc, rfl, p1, p2, p3⟩
  have h2 : Hid (N.map Itm.z = M.map Itm.z ∧ Lv w2 NA nc N ∧ Lv w2 MA mc M ∧ Below w0.heap.size w0 w2) := ⟨h1.out.1.trans p1.symm, h1.out.2.1.below p3, p2, h1.out.2.2.trans (p3.mono h1.out.2.2.size)⟩
  clear hC p1 p2 p3 h1
  have hC0 := addV (hH.out w2 h2.out.2.2.2).2.1 (hH.out w2 h2.out.2.2.2).2.2.1 rfl rfl
  rw [hE.out.2.1] at hC0
  have hC : Hid _ := hC0
  clear hC0
  go_wp2_with fail
  refine Calls.mono (show Calls _ _ _ _ _ from hC.out) ?_
  rintro e w3 ⟨P, PA, pc, rfl, p1, p2, p3⟩
  have h3 : Hid (N.map Itm.z = M.map Itm.z ∧ Lv w3 NA nc N ∧ Lv w3 MA mc M ∧ Below w0.heap.size w0 w3 ∧ P.map Itm.z = addL (a.map Itm.z) (b.map Itm.z) ∧ Lv w3 PA pc P) := ⟨h2.out.1, h2.out.2.1.below p3, h2.out.2.2.1.below p3, h2.out.2.2.2.trans (p3.mono h2.out.2.2.2.size), p1, p2⟩
  clear hC p1 p2 p3 h2
  have hC0 := radd_any a b AA BA ac bc w3 (hH.out w3 h3.out.2.2.2.1).2.1 (hH.out w3 h3.out.2.2.2.1).2.2.1 (hH.out w3 h3.out.2.2.2.1).2.2.2.2.2.2.1
  rw [hE.out.2.1] at hC0
  have hC : Hid _ := hC0
  clear hC0
  go_wp2_with fail
  refine Calls.mono (show Calls _ _ _ _ _ from hC.out) ?_
  rintro e w4 ⟨Q, QA, qc, rfl, p1, p2, p3⟩
  have h4 : Hid (N.map Itm.z = M.map Itm.z ∧ Lv w4 NA nc N ∧ Lv w4 MA mc M ∧ Below w0.heap.size w0 w4 ∧ P.map Itm.z = Q.map Itm.z ∧ Lv w4 PA pc P ∧ Lv w4 QA qc Q) := ⟨h3.out.1, h3.out.2.1.below p3, h3.out.2.2.1.below p3, h3.out.2.2.2.1.trans (p3.mono h3.out.2.2.2.1.size), h3.out.2.2.2.2.1.trans p1.symm, h3.out.2.2.2.2.2.below p3, p2⟩
  clear hC p1 p2 p3 h3
  have hC0 := negV (hH.out w4 h4.out.2.2.2.1).2.1 rfl
  rw [hE.out.2.2.1] at hC0
  have hC : Hid _ := hC0
  clear hC0
  go_wp2_with fail
  refine Calls.mono (show Calls _ _ _ _ _ from hC.out) ?_
  rintro e w5 ⟨U, UA, uc, rfl, p1, p2, p3⟩
  have h5 : Hid (N.map Itm.z = M.map Itm.z ∧ Lv w5 NA nc N ∧ Lv w5 MA mc M ∧ Below w0.heap.size w0 w5 ∧ P.map Itm.z = Q.map Itm.z ∧ Lv w5 PA pc P ∧ Lv w5 QA qc Q ∧ U.map Itm.z = negL (a.map Itm.z) ∧ Lv w5 UA uc U) := ⟨h4.out.1, h4.out.2.1.below p3, h4.out.2.2.1.below p3, h4.out.2.2.2.1.trans (p3.mono h4.out.2.2.2.1.size), h4.out.2.2.2.2.1, h4.out.2.2.2.2.2.1.below p3, h4.out.2.2.2.2.2.2.below p3, p1, p2⟩
  clear hC p1 p2 p3 h4
  have hC0 := rset_any a AA ac w5 (hH.out w5 h5.out.2.2.2.1).2.1.len (hH.out w5 h5.out.2.2.2.1).2.1.items
  rw [hE.out.2.2.1] at hC0
  have hC : Hid _ := hC0
  clear hC0
  go_wp2_with fail
  refine Calls.mono (show Calls _ _ _ _ _ from hC.out) ?_
  rintro e w6 ⟨rfl, hg6⟩
  have h6 : Hid (N.map Itm.z = M.map Itm.z ∧ Lv w6 NA nc N ∧ Lv w6 MA mc M ∧ Below w0.heap.size w0 w6 ∧ P.map Itm.z = Q.map Itm.z ∧ Lv w6 PA pc P ∧ Lv w6 QA qc Q ∧ U.map Itm.z = negL (a.map Itm.z) ∧ Lv w6 UA uc U) := ⟨h5.out.1, h5.out.2.1.gr hg6, h5.out.2.2.1.gr hg6, h5.out.2.2.2.1.trans (hg6.below.mono h5.out.2.2.2.1.size), h5.out.2.2.2.2.1, h5.out.2.2.2.2.2.1.gr hg6, h5.out.2.2.2.2.2.2.1.gr hg6, h5.out.2.2.2.2.2.2.2.1, h5.out.2.2.2.2.2.2.2.2.gr hg6⟩
  clear hC hg6 h5
  cases hq3 : (E3 == 0)
  · have hn3 : Hid (U.map Itm.z = ([] : List Itm).map Itm.z) := by show _ = _; rw [h6.out.2.2.2.2.2.2.2.1, neg_none (by rw [hE.out.2.2.1]; simpa using hq3)]; rfl
    have h7 : Hid (N.map Itm.z = M.map Itm.z ∧ Lv w6 NA nc N ∧ Lv w6 MA mc M ∧ Below w0.heap.size w0 w6 ∧ P.map Itm.z = Q.map Itm.z ∧ Lv w6 PA pc P ∧ Lv w6 QA qc Q ∧ U.map Itm.z = ([] : List Itm).map Itm.z ∧ Lv w6 UA uc U ∧ Lv w6 none 0 []) := ⟨h6.out.1, h6.out.2.1, h6.out.2.2.1, h6.out.2.2.2.1, h6.out.2.2.2.2.1, h6.out.2.2.2.2.2.1, h6.out.2.2.2.2.2.2.1, hn3.out, h6.out.2.2.2.2.2.2.2.2, ⟨⟨Or.inl rfl, fun x hx => (by cases hx)⟩, fun _ => rfl, Nat.zero_le _⟩⟩
    clear h6 hn3
    obtain ⟨k0, k1, k2, k3, k4, k5⟩ : _ ∧ _ ∧ _ ∧ _ ∧ _ ∧ _ := ⟨(hH.out w6 h7.out.2.2.2.1).2.2.2.1.k0, (hH.out w6 h7.out.2.2.2.1).2.2.2.1.k1, (hH.out w6 h7.out.2.2.2.1).2.2.2.1.k2, (hH.out w6 h7.out.2.2.2.1).2.2.2.1.k3, (hH.out w6 h7.out.2.2.2.1).2.2.2.1.k4, (hH.out w6 h7.out.2.2.2.1).2.2.2.1.k5⟩
    have hC0 := of_any t A ca D cd w6 hL.out.1 hL.out.2.1 (hH.out w6 h7.out.2.2.2.1).2.2.2.1.row (hH.out w6 h7.out.2.2.2.1).2.2.2.1.rowC
    rw [hE.out.2.2.2] at hC0
    have hC : Hid _ := hC0
    clear hC0
    go_wp2_with fail
    clear k0 k1 k2 k3 k4 k5
    refine Calls.mono (show Calls _ _ _ _ _ from hC.out) ?_
    rintro e w8 ⟨R, RA, rc, rfl, p1, p2, p2c, p3⟩
    have h8 : Hid (N.map Itm.z = M.map Itm.z ∧ Lv w8 NA nc N ∧ Lv w8 MA mc M ∧ Below w0.heap.size w0 w8 ∧ P.map Itm.z = Q.map Itm.z ∧ Lv w8 PA pc P ∧ Lv w8 QA qc Q ∧ U.map Itm.z = ([] : List Itm).map Itm.z ∧ Lv w8 UA uc U ∧ Lv w8 none 0 ([] : List Itm) ∧ R.map Itm.z = ofR t ∧ Lv w8 RA rc R) := ⟨h7.out.1, h7.out.2.1.below p3, h7.out.2.2.1.below p3, h7.out.2.2.2.1.trans (p3.mono h7.out.2.2.2.1.size), h7.out.2.2.2.2.1, h7.out.2.2.2.2.2.1.below p3, h7.out.2.2.2.2.2.2.1.below p3, h7.out.2.2.2.2.2.2.2.1, h7.out.2.2.2.2.2.2.2.2.1.below p3, h7.out.2.2.2.2.2.2.2.2.2.below p3, p1, ⟨p2, p2c, by have h1 := congrArg List.length p1; have h2 := ofR_len t; simp at h1; unfold maxLen; omega⟩⟩
    clear hC p1 p2 p2c p3 h7
    obtain ⟨k0, k1, k2, k3, k4, k5⟩ : _ ∧ _ ∧ _ ∧ _ ∧ _ ∧ _ := ⟨(hH.out w8 h8.out.2.2.2.1).2.2.2.1.k0, (hH.out w8 h8.out.2.2.2.1).2.2.2.1.k1, (hH.out w8 h8.out.2.2.2.1).2.2.2.1.k2, (hH.out w8 h8.out.2.2.2.1).2.2.2.1.k3, (hH.out w8 h8.out.2.2.2.1).2.2.2.1.k4, (hH.out w8 h8.out.2.2.2.1).2.2.2.1.k5⟩
    have hC0 := rtable_any t A ca D cd w8 hL.out.1 hL.out.2.1 (hH.out w8 h8.out.2.2.2.1).2.2.2.1.row (hH.out w8 h8.out.2.2.2.1).2.2.2.1.rowC
    rw [hE.out.2.2.2] at hC0
    have hC : Hid _ := hC0
    clear hC0
    go_wp2_with fail
    clear k0 k1 k2 k3 k4 k5
    refine Calls.mono (show Calls _ _ _ _ _ from hC.out) ?_
    rintro e w9 ⟨rfl, hg9⟩
    have h9 : Hid (N.map Itm.z = M.map Itm.z ∧ Lv w9 NA nc N ∧ Lv w9 MA mc M ∧ Below w0.heap.size w0 w9 ∧ P.map Itm.z = Q.map Itm.z ∧ Lv w9 PA pc P ∧ Lv w9 QA qc Q ∧ U.map Itm.z = ([] : List Itm).map Itm.z ∧ Lv w9 UA uc U ∧ Lv w9 none 0 ([] : List Itm) ∧ R.map Itm.z = ofR t ∧ Lv w9 RA rc R) := ⟨h8.out.1, h8.out.2.1.gr hg9, h8.out.2.2.1.gr hg9, h8.out.2.2.2.1.trans (hg9.below.mono h8.out.2.2.2.1.size), h8.out.2.2.2.2.1, h8.out.2.2.2.2.2.1.gr hg9, h8.out.2.2.2.2.2.2.1.gr hg9, h8.out.2.2.2.2.2.2.2.1, h8.out.2.2.2.2.2.2.2.2.1.gr hg9, h8.out.2.2.2.2.2.2.2.2.2.1.gr hg9, h8.out.2.2.2.2.2.2.2.2.2.2.1, h8.out.2.2.2.2.2.2.2.2.2.2.2.gr hg9⟩
    clear hC hg9 h8
    cases hq4 : (E4 == 0)
    · have hn4 : Hid (R.map Itm.z = ([] : List Itm).map Itm.z) := by show _ = _; rw [h9.out.2.2.2.2.2.2.2.2.2.2.1, ofR_no (by rw [hE.out.2.2.2]; simpa using hq4)]; rfl
      have h10 : Hid (N.map Itm.z = M.map Itm.z ∧ Lv w9 NA nc N ∧ Lv w9 MA mc M ∧ Below w0.heap.size w0 w9 ∧ P.map Itm.z = Q.map Itm.z ∧ Lv w9 PA pc P ∧ Lv w9 QA qc Q ∧ U.map Itm.z = ([] : List Itm).map Itm.z ∧ Lv w9 UA uc U ∧ Lv w9 none 0 ([] : List Itm) ∧ R.map Itm.z = ([] : List Itm).map Itm.z ∧ Lv w9 RA rc R ∧ Lv w9 none 0 []) := ⟨h9.out.1, h9.out.2.1, h9.out.2.2.1, h9.out.2.2.2.1, h9.out.2.2.2.2.1, h9.out.2.2.2.2.2.1, h9.out.2.2.2.2.2.2.1, h9.out.2.2.2.2.2.2.2.1, h9.out.2.2.2.2.2.2.2.2.1, h9.out.2.2.2.2.2.2.2.2.2.1, hn4.out, h9.out.2.2.2.2.2.2.2.2.2.2.2, ⟨⟨Or.inl rfl, fun x hx => (by cases hx)⟩, fun _ => rfl, Nat.zero_le _⟩⟩
      clear h9 hn4
      obtain ⟨cc, hcc⟩ : ∃ cc, cmpL x y = cc := ⟨_, rfl⟩
      have hO1 : Hid (∀ W, Gr w9 W → Calls Tryz.prog 16 #[.slice XA x.length xc, .slice YA y.length yc] W fun e w' => e = .returned (.int .i64 cc) ∧ Gr W w') := fun W h => by
        have hh := hH.out W (h10.out.2.2.2.1.trans (h.below.mono h10.out.2.2.2.1.size))
        rw [← hcc]; exact orderR_any x y XA YA xc yc W hL.out.2.2 hh.2.2.2.2.1 hh.2.2.2.2.2.1
      have hO2 : Hid (∀ W, Gr w9 W → Calls Tryz.prog 17 #[.slice XA x.length xc, .slice YA y.length yc] W fun e w' => e = .returned (.int .i64 cc) ∧ Gr W w') := fun W h => by
        have hh := hH.out W (h10.out.2.2.2.1.trans (h.below.mono h10.out.2.2.2.1.size))
        rw [← hcc]; exact orderD_any x y XA YA xc yc W hL.out.2.2 hh.2.2.2.2.1 hh.2.2.2.2.2.1
      have hK1 : Hid (∀ W, Gr w9 W → Calls Tryz.prog 18 #[.slice AA a.length ac] W fun e w' => e = .returned (.int .i64 E3) ∧ Gr W w') := fun W h => by
        have hh := hH.out W (h10.out.2.2.2.1.trans (h.below.mono h10.out.2.2.2.1.size))
        rw [← hE.out.2.2.1]; exact checkV hh.2.1 rfl
      have hK2 : Hid (∀ W, Gr w9 W → Calls Tryz.prog 11 #[.slice AA a.length ac] W fun e w' => e = .returned (.int .i64 E3) ∧ Gr W w') := fun W h => by
        have hh := hH.out W (h10.out.2.2.2.1.trans (h.below.mono h10.out.2.2.2.1.size))
        rw [← hE.out.2.2.1]; exact rset_any a AA ac W hh.2.1.len hh.2.1.items
      have hS1 : Hid (∀ W, Gr w9 W → Calls Tryz.prog 19 #[.slice NA N.length nc, .slice MA M.length mc] W fun e w' => e = .returned (.bool true) ∧ Gr W w') := fun W h => sameV (h10.out.2.1.gr h) (h10.out.2.2.1.gr h) h10.out.1
      have hS2 : Hid (∀ W, Gr w9 W → Calls Tryz.prog 19 #[.slice PA P.length pc, .slice QA Q.length qc] W fun e w' => e = .returned (.bool true) ∧ Gr W w') := fun W h => sameV (h10.out.2.2.2.2.2.1.gr h) (h10.out.2.2.2.2.2.2.1.gr h) h10.out.2.2.2.2.1
      have hS3 : Hid (∀ W, Gr w9 W → Calls Tryz.prog 19 #[.slice UA U.length uc, .slice none ([] : List Itm).length 0] W fun e w' => e = .returned (.bool true) ∧ Gr W w') := fun W h => sameV (h10.out.2.2.2.2.2.2.2.2.1.gr h) (h10.out.2.2.2.2.2.2.2.2.2.1.gr h) h10.out.2.2.2.2.2.2.2.1
      have hS4 : Hid (∀ W, Gr w9 W → Calls Tryz.prog 19 #[.slice RA R.length rc, .slice none ([] : List Itm).length 0] W fun e w' => e = .returned (.bool true) ∧ Gr W w') := fun W h => sameV (h10.out.2.2.2.2.2.2.2.2.2.2.2.1.gr h) (h10.out.2.2.2.2.2.2.2.2.2.2.2.2.gr h) h10.out.2.2.2.2.2.2.2.2.2.2.1
      have hT1 : Hid (∀ W, Gr w9 W → Calls Tryz.prog 14 #[.agg #[.int .i64 t.c.c0, .int .i64 t.c.c1, .int .i64 t.c.c2, .int .i64 t.c.c3, .slice A t.c.l.length ca, .slice D t.e.length cd]] W fun e w' => e = .returned (.int .i64 E4) ∧ Gr W w') := fun W h => by
        have hh := hH.out W (h10.out.2.2.2.1.trans (h.below.mono h10.out.2.2.2.1.size))
        rw [← hE.out.2.2.2]; exact rtable_any t A ca D cd W hL.out.1 hL.out.2.1 hh.2.2.2.1.row hh.2.2.2.1.rowC
      clear hcc
      have hgr : Hid (Gr w9 w9) := Gr.refl _
      go_wp2_with fail
      refine Calls.mono (hO1.out _ hgr.out) ?_
      rintro e v1 ⟨rfl, q1⟩
      have g1 : Hid (Gr w9 v1) := hgr.out.trans q1
      clear q1 hgr
      go_wp2_with fail
      refine Calls.mono (hO2.out _ g1.out) ?_
      rintro e v2 ⟨rfl, q1⟩
      have g2 : Hid (Gr w9 v2) := g1.out.trans q1
      clear q1 g1
      go_wp2_with fail
      refine Calls.mono (hK1.out _ g2.out) ?_
      rintro e v3 ⟨rfl, q1⟩
      have g3 : Hid (Gr w9 v3) := g2.out.trans q1
      clear q1 g2
      go_wp2_with fail
      refine Calls.mono (hK2.out _ g3.out) ?_
      rintro e v4 ⟨rfl, q1⟩
      have g4 : Hid (Gr w9 v4) := g3.out.trans q1
      clear q1 g3
      go_wp2_with fail
      refine Calls.mono (hS1.out _ g4.out) ?_
      rintro e v5 ⟨rfl, q1⟩
      have g5 : Hid (Gr w9 v5) := g4.out.trans q1
      clear q1 g4
      go_wp2_with fail
      refine Calls.mono (hS2.out _ g5.out) ?_
      rintro e v6 ⟨rfl, q1⟩
      have g6 : Hid (Gr w9 v6) := g5.out.trans q1
      clear q1 g5
      go_wp2_with fail
      refine Calls.mono (hS3.out _ g6.out) ?_
      rintro e v7 ⟨rfl, q1⟩
      have g7 : Hid (Gr w9 v7) := g6.out.trans q1
      clear q1 g6
      go_wp2_with fail
      refine Calls.mono (hK2.out _ g7.out) ?_
      rintro e v8 ⟨rfl, q1⟩
      have g8 : Hid (Gr w9 v8) := g7.out.trans q1
      clear q1 g7
      go_wp2_with fail
      refine Calls.mono (hS4.out _ g8.out) ?_
      rintro e v9 ⟨rfl, q1⟩
      have g9 : Hid (Gr w9 v9) := g8.out.trans q1
      clear q1 g8
      have hb9 : Hid (Below w0.heap.size w0 v9) := h10.out.2.2.2.1.trans (g9.out.below.mono h10.out.2.2.2.1.size)
      obtain ⟨k0, k1, k2, k3, k4, k5⟩ : _ ∧ _ ∧ _ ∧ _ ∧ _ ∧ _ := ⟨(hH.out v9 hb9.out).2.2.2.1.k0, (hH.out v9 hb9.out).2.2.2.1.k1, (hH.out v9 hb9.out).2.2.2.1.k2, (hH.out v9 hb9.out).2.2.2.1.k3, (hH.out v9 hb9.out).2.2.2.1.k4, (hH.out v9 hb9.out).2.2.2.1.k5⟩
      go_wp2_with fail
      refine Calls.mono (hT1.out _ g9.out) ?_
      rintro e v10 ⟨rfl, q1⟩
      have hfin : Hid (Below w.heap.size w v10) := (hH.out v10 (hb9.out.trans (q1.below.mono hb9.out.size))).2.2.2.2.2.2.2
      clear q1 k0 k1 k2 k3 k4 k5
      go_wp2
      go_ret
      exact ⟨by simp, hfin.out⟩
    · have hz4 : Hid (errT t = 0) := by show _ = _; rw [hE.out.2.2.2]; simpa using hq4
      obtain ⟨k0, k1, k2, k3, k4, k5⟩ : _ ∧ _ ∧ _ ∧ _ ∧ _ ∧ _ := ⟨(hH.out w9 h9.out.2.2.2.1).2.2.2.1.k0, (hH.out w9 h9.out.2.2.2.1).2.2.2.1.k1, (hH.out w9 h9.out.2.2.2.1).2.2.2.1.k2, (hH.out w9 h9.out.2.2.2.1).2.2.2.1.k3, (hH.out w9 h9.out.2.2.2.1).2.2.2.1.k4, (hH.out w9 h9.out.2.2.2.1).2.2.2.1.k5⟩
      have hC0 := rrows_any t A ca D cd w9 hz4.out (hH.out w9 h9.out.2.2.2.1).2.2.2.1.row (hH.out w9 h9.out.2.2.2.1).2.2.2.1.rowC
      have hC : Hid _ := hC0
      clear hC0
      go_wp2_with fail
      clear k0 k1 k2 k3 k4 k5
      refine Calls.mono (show Calls _ _ _ _ _ from hC.out) ?_
      rintro e w10 ⟨S, SA, sc, rfl, p1, p2, p3⟩
      have h10 : Hid (N.map Itm.z = M.map Itm.z ∧ Lv w10 NA nc N ∧ Lv w10 MA mc M ∧ Below w0.heap.size w0 w10 ∧ P.map Itm.z = Q.map Itm.z ∧ Lv w10 PA pc P ∧ Lv w10 QA qc Q ∧ U.map Itm.z = ([] : List Itm).map Itm.z ∧ Lv w10 UA uc U ∧ Lv w10 none 0 ([] : List Itm) ∧ R.map Itm.z = S.map Itm.z ∧ Lv w10 RA rc R ∧ Lv w10 SA sc S) := ⟨h9.out.1, h9.out.2.1.below p3, h9.out.2.2.1.below p3, h9.out.2.2.2.1.trans (p3.mono h9.out.2.2.2.1.size), h9.out.2.2.2.2.1, h9.out.2.2.2.2.2.1.below p3, h9.out.2.2.2.2.2.2.1.below p3, h9.out.2.2.2.2.2.2.2.1, h9.out.2.2.2.2.2.2.2.2.1.below p3, h9.out.2.2.2.2.2.2.2.2.2.1.below p3, by rw [h9.out.2.2.2.2.2.2.2.2.2.2.1, ofR_ok hz4.out, p1], h9.out.2.2.2.2.2.2.2.2.2.2.2.below p3, p2⟩
      clear hC p1 p2 p3 h9
      obtain ⟨cc, hcc⟩ : ∃ cc, cmpL x y = cc := ⟨_, rfl⟩
      have hO1 : Hid (∀ W, Gr w10 W → Calls Tryz.prog 16 #[.slice XA x.length xc, .slice YA y.length yc] W fun e w' => e = .returned (.int .i64 cc) ∧ Gr W w') := fun W h => by
        have hh := hH.out W (h10.out.2.2.2.1.trans (h.below.mono h10.out.2.2.2.1.size))
        rw [← hcc]; exact orderR_any x y XA YA xc yc W hL.out.2.2 hh.2.2.2.2.1 hh.2.2.2.2.2.1
      have hO2 : Hid (∀ W, Gr w10 W → Calls Tryz.prog 17 #[.slice XA x.length xc, .slice YA y.length yc] W fun e w' => e = .returned (.int .i64 cc) ∧ Gr W w') := fun W h => by
        have hh := hH.out W (h10.out.2.2.2.1.trans (h.below.mono h10.out.2.2.2.1.size))
        rw [← hcc]; exact orderD_any x y XA YA xc yc W hL.out.2.2 hh.2.2.2.2.1 hh.2.2.2.2.2.1
      have hK1 : Hid (∀ W, Gr w10 W → Calls Tryz.prog 18 #[.slice AA a.length ac] W fun e w' => e = .returned (.int .i64 E3) ∧ Gr W w') := fun W h => by
        have hh := hH.out W (h10.out.2.2.2.1.trans (h.below.mono h10.out.2.2.2.1.size))
        rw [← hE.out.2.2.1]; exact checkV hh.2.1 rfl
      have hK2 : Hid (∀ W, Gr w10 W → Calls Tryz.prog 11 #[.slice AA a.length ac] W fun e w' => e = .returned (.int .i64 E3) ∧ Gr W w') := fun W h => by
        have hh := hH.out W (h10.out.2.2.2.1.trans (h.below.mono h10.out.2.2.2.1.size))
        rw [← hE.out.2.2.1]; exact rset_any a AA ac W hh.2.1.len hh.2.1.items
      have hS1 : Hid (∀ W, Gr w10 W → Calls Tryz.prog 19 #[.slice NA N.length nc, .slice MA M.length mc] W fun e w' => e = .returned (.bool true) ∧ Gr W w') := fun W h => sameV (h10.out.2.1.gr h) (h10.out.2.2.1.gr h) h10.out.1
      have hS2 : Hid (∀ W, Gr w10 W → Calls Tryz.prog 19 #[.slice PA P.length pc, .slice QA Q.length qc] W fun e w' => e = .returned (.bool true) ∧ Gr W w') := fun W h => sameV (h10.out.2.2.2.2.2.1.gr h) (h10.out.2.2.2.2.2.2.1.gr h) h10.out.2.2.2.2.1
      have hS3 : Hid (∀ W, Gr w10 W → Calls Tryz.prog 19 #[.slice UA U.length uc, .slice none ([] : List Itm).length 0] W fun e w' => e = .returned (.bool true) ∧ Gr W w') := fun W h => sameV (h10.out.2.2.2.2.2.2.2.2.1.gr h) (h10.out.2.2.2.2.2.2.2.2.2.1.gr h) h10.out.2.2.2.2.2.2.2.1
      have hS4 : Hid (∀ W, Gr w10 W → Calls Tryz.prog 19 #[.slice RA R.length rc, .slice SA S.length sc] W fun e w' => e = .returned (.bool true) ∧ Gr W w') := fun W h => sameV (h10.out.2.2.2.2.2.2.2.2.2.2.2.1.gr h) (h10.out.2.2.2.2.2.2.2.2.2.2.2.2.gr h) h10.out.2.2.2.2.2.2.2.2.2.2.1
      have hT1 : Hid (∀ W, Gr w10 W → Calls Tryz.prog 14 #[.agg #[.int .i64 t.c.c0, .int .i64 t.c.c1, .int .i64 t.c.c2, .int .i64 t.c.c3, .slice A t.c.l.length ca, .slice D t.e.length cd]] W fun e w' => e = .returned (.int .i64 E4) ∧ Gr W w') := fun W h => by
        have hh := hH.out W (h10.out.2.2.2.1.trans (h.below.mono h10.out.2.2.2.1.size))
        rw [← hE.out.2.2.2]; exact rtable_any t A ca D cd W hL.out.1 hL.out.2.1 hh.2.2.2.1.row hh.2.2.2.1.rowC
      clear hcc
      have hgr : Hid (Gr w10 w10) := Gr.refl _
      go_wp2_with fail
      refine Calls.mono (hO1.out _ hgr.out) ?_
      rintro e v1 ⟨rfl, q1⟩
      have g1 : Hid (Gr w10 v1) := hgr.out.trans q1
      clear q1 hgr
      go_wp2_with fail
      refine Calls.mono (hO2.out _ g1.out) ?_
      rintro e v2 ⟨rfl, q1⟩
      have g2 : Hid (Gr w10 v2) := g1.out.trans q1
      clear q1 g1
      go_wp2_with fail
      refine Calls.mono (hK1.out _ g2.out) ?_
      rintro e v3 ⟨rfl, q1⟩
      have g3 : Hid (Gr w10 v3) := g2.out.trans q1
      clear q1 g2
      go_wp2_with fail
      refine Calls.mono (hK2.out _ g3.out) ?_
      rintro e v4 ⟨rfl, q1⟩
      have g4 : Hid (Gr w10 v4) := g3.out.trans q1
      clear q1 g3
      go_wp2_with fail
      refine Calls.mono (hS1.out _ g4.out) ?_
      rintro e v5 ⟨rfl, q1⟩
      have g5 : Hid (Gr w10 v5) := g4.out.trans q1
      clear q1 g4
      go_wp2_with fail
      refine Calls.mono (hS2.out _ g5.out) ?_
      rintro e v6 ⟨rfl, q1⟩
      have g6 : Hid (Gr w10 v6) := g5.out.trans q1
      clear q1 g5
      go_wp2_with fail
      refine Calls.mono (hS3.out _ g6.out) ?_
      rintro e v7 ⟨rfl, q1⟩
      have g7 : Hid (Gr w10 v7) := g6.out.trans q1
      clear q1 g6
      go_wp2_with fail
      refine Calls.mono (hK2.out _ g7.out) ?_
      rintro e v8 ⟨rfl, q1⟩
      have g8 : Hid (Gr w10 v8) := g7.out.trans q1
      clear q1 g7
      go_wp2_with fail
      refine Calls.mono (hS4.out _ g8.out) ?_
      rintro e v9 ⟨rfl, q1⟩
      have g9 : Hid (Gr w10 v9) := g8.out.trans q1
      clear q1 g8
      have hb9 : Hid (Below w0.heap.size w0 v9) := h10.out.2.2.2.1.trans (g9.out.below.mono h10.out.2.2.2.1.size)
      obtain ⟨k0, k1, k2, k3, k4, k5⟩ : _ ∧ _ ∧ _ ∧ _ ∧ _ ∧ _ := ⟨(hH.out v9 hb9.out).2.2.2.1.k0, (hH.out v9 hb9.out).2.2.2.1.k1, (hH.out v9 hb9.out).2.2.2.1.k2, (hH.out v9 hb9.out).2.2.2.1.k3, (hH.out v9 hb9.out).2.2.2.1.k4, (hH.out v9 hb9.out).2.2.2.1.k5⟩
      go_wp2_with fail
      refine Calls.mono (hT1.out _ g9.out) ?_
      rintro e v10 ⟨rfl, q1⟩
      have hfin : Hid (Below w.heap.size w v10) := (hH.out v10 (hb9.out.trans (q1.below.mono hb9.out.size))).2.2.2.2.2.2.2
      clear q1 k0 k1 k2 k3 k4 k5
      go_wp2
      go_ret
      exact ⟨by simp, hfin.out⟩
  · have hz3 : Hid (errZ (a.map Itm.z) = 0) := by show _ = _; rw [hE.out.2.2.1]; simpa using hq3
    have hC0 := rminus_any a AA ac w6 (errZ_okW hz3.out).1 (fun x hx => ((errZ_okW hz3.out).2 x hx).1) (hH.out w6 h6.out.2.2.2.1).2.1.items
    have hC : Hid _ := hC0
    clear hC0
    go_wp2_with fail
    refine Calls.mono (show Calls _ _ _ _ _ from hC.out) ?_
    rintro e w7 ⟨V, VA, vc, rfl, p1, p2, p3⟩
    have h7 : Hid (N.map Itm.z = M.map Itm.z ∧ Lv w7 NA nc N ∧ Lv w7 MA mc M ∧ Below w0.heap.size w0 w7 ∧ P.map Itm.z = Q.map Itm.z ∧ Lv w7 PA pc P ∧ Lv w7 QA qc Q ∧ U.map Itm.z = V.map Itm.z ∧ Lv w7 UA uc U ∧ Lv w7 VA vc V) := ⟨h6.out.1, h6.out.2.1.below p3, h6.out.2.2.1.below p3, h6.out.2.2.2.1.trans (p3.mono h6.out.2.2.2.1.size), h6.out.2.2.2.2.1, h6.out.2.2.2.2.2.1.below p3, h6.out.2.2.2.2.2.2.1.below p3, by rw [h6.out.2.2.2.2.2.2.2.1, neg_same hz3.out, p1], h6.out.2.2.2.2.2.2.2.2.below p3, p2⟩
    clear hC p1 p2 p3 h6
    obtain ⟨k0, k1, k2, k3, k4, k5⟩ : _ ∧ _ ∧ _ ∧ _ ∧ _ ∧ _ := ⟨(hH.out w7 h7.out.2.2.2.1).2.2.2.1.k0, (hH.out w7 h7.out.2.2.2.1).2.2.2.1.k1, (hH.out w7 h7.out.2.2.2.1).2.2.2.1.k2, (hH.out w7 h7.out.2.2.2.1).2.2.2.1.k3, (hH.out w7 h7.out.2.2.2.1).2.2.2.1.k4, (hH.out w7 h7.out.2.2.2.1).2.2.2.1.k5⟩
    have hC0 := of_any t A ca D cd w7 hL.out.1 hL.out.2.1 (hH.out w7 h7.out.2.2.2.1).2.2.2.1.row (hH.out w7 h7.out.2.2.2.1).2.2.2.1.rowC
    rw [hE.out.2.2.2] at hC0
    have hC : Hid _ := hC0
    clear hC0
    go_wp2_with fail
    clear k0 k1 k2 k3 k4 k5
    refine Calls.mono (show Calls _ _ _ _ _ from hC.out) ?_
    rintro e w8 ⟨R, RA, rc, rfl, p1, p2, p2c, p3⟩
    have h8 : Hid (N.map Itm.z = M.map Itm.z ∧ Lv w8 NA nc N ∧ Lv w8 MA mc M ∧ Below w0.heap.size w0 w8 ∧ P.map Itm.z = Q.map Itm.z ∧ Lv w8 PA pc P ∧ Lv w8 QA qc Q ∧ U.map Itm.z = V.map Itm.z ∧ Lv w8 UA uc U ∧ Lv w8 VA vc V ∧ R.map Itm.z = ofR t ∧ Lv w8 RA rc R) := ⟨h7.out.1, h7.out.2.1.below p3, h7.out.2.2.1.below p3, h7.out.2.2.2.1.trans (p3.mono h7.out.2.2.2.1.size), h7.out.2.2.2.2.1, h7.out.2.2.2.2.2.1.below p3, h7.out.2.2.2.2.2.2.1.below p3, h7.out.2.2.2.2.2.2.2.1, h7.out.2.2.2.2.2.2.2.2.1.below p3, h7.out.2.2.2.2.2.2.2.2.2.below p3, p1, ⟨p2, p2c, by have h1 := congrArg List.length p1; have h2 := ofR_len t; simp at h1; unfold maxLen; omega⟩⟩
    clear hC p1 p2 p2c p3 h7
    obtain ⟨k0, k1, k2, k3, k4, k5⟩ : _ ∧ _ ∧ _ ∧ _ ∧ _ ∧ _ := ⟨(hH.out w8 h8.out.2.2.2.1).2.2.2.1.k0, (hH.out w8 h8.out.2.2.2.1).2.2.2.1.k1, (hH.out w8 h8.out.2.2.2.1).2.2.2.1.k2, (hH.out w8 h8.out.2.2.2.1).2.2.2.1.k3, (hH.out w8 h8.out.2.2.2.1).2.2.2.1.k4, (hH.out w8 h8.out.2.2.2.1).2.2.2.1.k5⟩
    have hC0 := rtable_any t A ca D cd w8 hL.out.1 hL.out.2.1 (hH.out w8 h8.out.2.2.2.1).2.2.2.1.row (hH.out w8 h8.out.2.2.2.1).2.2.2.1.rowC
    rw [hE.out.2.2.2] at hC0
    have hC : Hid _ := hC0
    clear hC0
    go_wp2_with fail
    clear k0 k1 k2 k3 k4 k5
    refine Calls.mono (show Calls _ _ _ _ _ from hC.out) ?_
    rintro e w9 ⟨rfl, hg9⟩
    have h9 : Hid (N.map Itm.z = M.map Itm.z ∧ Lv w9 NA nc N ∧ Lv w9 MA mc M ∧ Below w0.heap.size w0 w9 ∧ P.map Itm.z = Q.map Itm.z ∧ Lv w9 PA pc P ∧ Lv w9 QA qc Q ∧ U.map Itm.z = V.map Itm.z ∧ Lv w9 UA uc U ∧ Lv w9 VA vc V ∧ R.map Itm.z = ofR t ∧ Lv w9 RA rc R) := ⟨h8.out.1, h8.out.2.1.gr hg9, h8.out.2.2.1.gr hg9, h8.out.2.2.2.1.trans (hg9.below.mono h8.out.2.2.2.1.size), h8.out.2.2.2.2.1, h8.out.2.2.2.2.2.1.gr hg9, h8.out.2.2.2.2.2.2.1.gr hg9, h8.out.2.2.2.2.2.2.2.1, h8.out.2.2.2.2.2.2.2.2.1.gr hg9, h8.out.2.2.2.2.2.2.2.2.2.1.gr hg9, h8.out.2.2.2.2.2.2.2.2.2.2.1, h8.out.2.2.2.2.2.2.2.2.2.2.2.gr hg9⟩
    clear hC hg9 h8
    cases hq4 : (E4 == 0)
    · have hn4 : Hid (R.map Itm.z = ([] : List Itm).map Itm.z) := by show _ = _; rw [h9.out.2.2.2.2.2.2.2.2.2.2.1, ofR_no (by rw [hE.out.2.2.2]; simpa using hq4)]; rfl
      have h10 : Hid (N.map Itm.z = M.map Itm.z ∧ Lv w9 NA nc N ∧ Lv w9 MA mc M ∧ Below w0.heap.size w0 w9 ∧ P.map Itm.z = Q.map Itm.z ∧ Lv w9 PA pc P ∧ Lv w9 QA qc Q ∧ U.map Itm.z = V.map Itm.z ∧ Lv w9 UA uc U ∧ Lv w9 VA vc V ∧ R.map Itm.z = ([] : List Itm).map Itm.z ∧ Lv w9 RA rc R ∧ Lv w9 none 0 []) := ⟨h9.out.1, h9.out.2.1, h9.out.2.2.1, h9.out.2.2.2.1, h9.out.2.2.2.2.1, h9.out.2.2.2.2.2.1, h9.out.2.2.2.2.2.2.1, h9.out.2.2.2.2.2.2.2.1, h9.out.2.2.2.2.2.2.2.2.1, h9.out.2.2.2.2.2.2.2.2.2.1, hn4.out, h9.out.2.2.2.2.2.2.2.2.2.2.2, ⟨⟨Or.inl rfl, fun x hx => (by cases hx)⟩, fun _ => rfl, Nat.zero_le _⟩⟩
      clear h9 hn4
      obtain ⟨cc, hcc⟩ : ∃ cc, cmpL x y = cc := ⟨_, rfl⟩
      have hO1 : Hid (∀ W, Gr w9 W → Calls Tryz.prog 16 #[.slice XA x.length xc, .slice YA y.length yc] W fun e w' => e = .returned (.int .i64 cc) ∧ Gr W w') := fun W h => by
        have hh := hH.out W (h10.out.2.2.2.1.trans (h.below.mono h10.out.2.2.2.1.size))
        rw [← hcc]; exact orderR_any x y XA YA xc yc W hL.out.2.2 hh.2.2.2.2.1 hh.2.2.2.2.2.1
      have hO2 : Hid (∀ W, Gr w9 W → Calls Tryz.prog 17 #[.slice XA x.length xc, .slice YA y.length yc] W fun e w' => e = .returned (.int .i64 cc) ∧ Gr W w') := fun W h => by
        have hh := hH.out W (h10.out.2.2.2.1.trans (h.below.mono h10.out.2.2.2.1.size))
        rw [← hcc]; exact orderD_any x y XA YA xc yc W hL.out.2.2 hh.2.2.2.2.1 hh.2.2.2.2.2.1
      have hK1 : Hid (∀ W, Gr w9 W → Calls Tryz.prog 18 #[.slice AA a.length ac] W fun e w' => e = .returned (.int .i64 E3) ∧ Gr W w') := fun W h => by
        have hh := hH.out W (h10.out.2.2.2.1.trans (h.below.mono h10.out.2.2.2.1.size))
        rw [← hE.out.2.2.1]; exact checkV hh.2.1 rfl
      have hK2 : Hid (∀ W, Gr w9 W → Calls Tryz.prog 11 #[.slice AA a.length ac] W fun e w' => e = .returned (.int .i64 E3) ∧ Gr W w') := fun W h => by
        have hh := hH.out W (h10.out.2.2.2.1.trans (h.below.mono h10.out.2.2.2.1.size))
        rw [← hE.out.2.2.1]; exact rset_any a AA ac W hh.2.1.len hh.2.1.items
      have hS1 : Hid (∀ W, Gr w9 W → Calls Tryz.prog 19 #[.slice NA N.length nc, .slice MA M.length mc] W fun e w' => e = .returned (.bool true) ∧ Gr W w') := fun W h => sameV (h10.out.2.1.gr h) (h10.out.2.2.1.gr h) h10.out.1
      have hS2 : Hid (∀ W, Gr w9 W → Calls Tryz.prog 19 #[.slice PA P.length pc, .slice QA Q.length qc] W fun e w' => e = .returned (.bool true) ∧ Gr W w') := fun W h => sameV (h10.out.2.2.2.2.2.1.gr h) (h10.out.2.2.2.2.2.2.1.gr h) h10.out.2.2.2.2.1
      have hS3 : Hid (∀ W, Gr w9 W → Calls Tryz.prog 19 #[.slice UA U.length uc, .slice VA V.length vc] W fun e w' => e = .returned (.bool true) ∧ Gr W w') := fun W h => sameV (h10.out.2.2.2.2.2.2.2.2.1.gr h) (h10.out.2.2.2.2.2.2.2.2.2.1.gr h) h10.out.2.2.2.2.2.2.2.1
      have hS4 : Hid (∀ W, Gr w9 W → Calls Tryz.prog 19 #[.slice RA R.length rc, .slice none ([] : List Itm).length 0] W fun e w' => e = .returned (.bool true) ∧ Gr W w') := fun W h => sameV (h10.out.2.2.2.2.2.2.2.2.2.2.2.1.gr h) (h10.out.2.2.2.2.2.2.2.2.2.2.2.2.gr h) h10.out.2.2.2.2.2.2.2.2.2.2.1
      have hT1 : Hid (∀ W, Gr w9 W → Calls Tryz.prog 14 #[.agg #[.int .i64 t.c.c0, .int .i64 t.c.c1, .int .i64 t.c.c2, .int .i64 t.c.c3, .slice A t.c.l.length ca, .slice D t.e.length cd]] W fun e w' => e = .returned (.int .i64 E4) ∧ Gr W w') := fun W h => by
        have hh := hH.out W (h10.out.2.2.2.1.trans (h.below.mono h10.out.2.2.2.1.size))
        rw [← hE.out.2.2.2]; exact rtable_any t A ca D cd W hL.out.1 hL.out.2.1 hh.2.2.2.1.row hh.2.2.2.1.rowC
      clear hcc
      have hgr : Hid (Gr w9 w9) := Gr.refl _
      go_wp2_with fail
      refine Calls.mono (hO1.out _ hgr.out) ?_
      rintro e v1 ⟨rfl, q1⟩
      have g1 : Hid (Gr w9 v1) := hgr.out.trans q1
      clear q1 hgr
      go_wp2_with fail
      refine Calls.mono (hO2.out _ g1.out) ?_
      rintro e v2 ⟨rfl, q1⟩
      have g2 : Hid (Gr w9 v2) := g1.out.trans q1
      clear q1 g1
      go_wp2_with fail
      refine Calls.mono (hK1.out _ g2.out) ?_
      rintro e v3 ⟨rfl, q1⟩
      have g3 : Hid (Gr w9 v3) := g2.out.trans q1
      clear q1 g2
      go_wp2_with fail
      refine Calls.mono (hK2.out _ g3.out) ?_
      rintro e v4 ⟨rfl, q1⟩
      have g4 : Hid (Gr w9 v4) := g3.out.trans q1
      clear q1 g3
      go_wp2_with fail
      refine Calls.mono (hS1.out _ g4.out) ?_
      rintro e v5 ⟨rfl, q1⟩
      have g5 : Hid (Gr w9 v5) := g4.out.trans q1
      clear q1 g4
      go_wp2_with fail
      refine Calls.mono (hS2.out _ g5.out) ?_
      rintro e v6 ⟨rfl, q1⟩
      have g6 : Hid (Gr w9 v6) := g5.out.trans q1
      clear q1 g5
      go_wp2_with fail
      refine Calls.mono (hS3.out _ g6.out) ?_
      rintro e v7 ⟨rfl, q1⟩
      have g7 : Hid (Gr w9 v7) := g6.out.trans q1
      clear q1 g6
      go_wp2_with fail
      refine Calls.mono (hK2.out _ g7.out) ?_
      rintro e v8 ⟨rfl, q1⟩
      have g8 : Hid (Gr w9 v8) := g7.out.trans q1
      clear q1 g7
      go_wp2_with fail
      refine Calls.mono (hS4.out _ g8.out) ?_
      rintro e v9 ⟨rfl, q1⟩
      have g9 : Hid (Gr w9 v9) := g8.out.trans q1
      clear q1 g8
      have hb9 : Hid (Below w0.heap.size w0 v9) := h10.out.2.2.2.1.trans (g9.out.below.mono h10.out.2.2.2.1.size)
      obtain ⟨k0, k1, k2, k3, k4, k5⟩ : _ ∧ _ ∧ _ ∧ _ ∧ _ ∧ _ := ⟨(hH.out v9 hb9.out).2.2.2.1.k0, (hH.out v9 hb9.out).2.2.2.1.k1, (hH.out v9 hb9.out).2.2.2.1.k2, (hH.out v9 hb9.out).2.2.2.1.k3, (hH.out v9 hb9.out).2.2.2.1.k4, (hH.out v9 hb9.out).2.2.2.1.k5⟩
      go_wp2_with fail
      refine Calls.mono (hT1.out _ g9.out) ?_
      rintro e v10 ⟨rfl, q1⟩
      have hfin : Hid (Below w.heap.size w v10) := (hH.out v10 (hb9.out.trans (q1.below.mono hb9.out.size))).2.2.2.2.2.2.2
      clear q1 k0 k1 k2 k3 k4 k5
      go_wp2
      go_ret
      exact ⟨by simp, hfin.out⟩
    · have hz4 : Hid (errT t = 0) := by show _ = _; rw [hE.out.2.2.2]; simpa using hq4
      obtain ⟨k0, k1, k2, k3, k4, k5⟩ : _ ∧ _ ∧ _ ∧ _ ∧ _ ∧ _ := ⟨(hH.out w9 h9.out.2.2.2.1).2.2.2.1.k0, (hH.out w9 h9.out.2.2.2.1).2.2.2.1.k1, (hH.out w9 h9.out.2.2.2.1).2.2.2.1.k2, (hH.out w9 h9.out.2.2.2.1).2.2.2.1.k3, (hH.out w9 h9.out.2.2.2.1).2.2.2.1.k4, (hH.out w9 h9.out.2.2.2.1).2.2.2.1.k5⟩
      have hC0 := rrows_any t A ca D cd w9 hz4.out (hH.out w9 h9.out.2.2.2.1).2.2.2.1.row (hH.out w9 h9.out.2.2.2.1).2.2.2.1.rowC
      have hC : Hid _ := hC0
      clear hC0
      go_wp2_with fail
      clear k0 k1 k2 k3 k4 k5
      refine Calls.mono (show Calls _ _ _ _ _ from hC.out) ?_
      rintro e w10 ⟨S, SA, sc, rfl, p1, p2, p3⟩
      have h10 : Hid (N.map Itm.z = M.map Itm.z ∧ Lv w10 NA nc N ∧ Lv w10 MA mc M ∧ Below w0.heap.size w0 w10 ∧ P.map Itm.z = Q.map Itm.z ∧ Lv w10 PA pc P ∧ Lv w10 QA qc Q ∧ U.map Itm.z = V.map Itm.z ∧ Lv w10 UA uc U ∧ Lv w10 VA vc V ∧ R.map Itm.z = S.map Itm.z ∧ Lv w10 RA rc R ∧ Lv w10 SA sc S) := ⟨h9.out.1, h9.out.2.1.below p3, h9.out.2.2.1.below p3, h9.out.2.2.2.1.trans (p3.mono h9.out.2.2.2.1.size), h9.out.2.2.2.2.1, h9.out.2.2.2.2.2.1.below p3, h9.out.2.2.2.2.2.2.1.below p3, h9.out.2.2.2.2.2.2.2.1, h9.out.2.2.2.2.2.2.2.2.1.below p3, h9.out.2.2.2.2.2.2.2.2.2.1.below p3, by rw [h9.out.2.2.2.2.2.2.2.2.2.2.1, ofR_ok hz4.out, p1], h9.out.2.2.2.2.2.2.2.2.2.2.2.below p3, p2⟩
      clear hC p1 p2 p3 h9
      obtain ⟨cc, hcc⟩ : ∃ cc, cmpL x y = cc := ⟨_, rfl⟩
      have hO1 : Hid (∀ W, Gr w10 W → Calls Tryz.prog 16 #[.slice XA x.length xc, .slice YA y.length yc] W fun e w' => e = .returned (.int .i64 cc) ∧ Gr W w') := fun W h => by
        have hh := hH.out W (h10.out.2.2.2.1.trans (h.below.mono h10.out.2.2.2.1.size))
        rw [← hcc]; exact orderR_any x y XA YA xc yc W hL.out.2.2 hh.2.2.2.2.1 hh.2.2.2.2.2.1
      have hO2 : Hid (∀ W, Gr w10 W → Calls Tryz.prog 17 #[.slice XA x.length xc, .slice YA y.length yc] W fun e w' => e = .returned (.int .i64 cc) ∧ Gr W w') := fun W h => by
        have hh := hH.out W (h10.out.2.2.2.1.trans (h.below.mono h10.out.2.2.2.1.size))
        rw [← hcc]; exact orderD_any x y XA YA xc yc W hL.out.2.2 hh.2.2.2.2.1 hh.2.2.2.2.2.1
      have hK1 : Hid (∀ W, Gr w10 W → Calls Tryz.prog 18 #[.slice AA a.length ac] W fun e w' => e = .returned (.int .i64 E3) ∧ Gr W w') := fun W h => by
        have hh := hH.out W (h10.out.2.2.2.1.trans (h.below.mono h10.out.2.2.2.1.size))
        rw [← hE.out.2.2.1]; exact checkV hh.2.1 rfl
      have hK2 : Hid (∀ W, Gr w10 W → Calls Tryz.prog 11 #[.slice AA a.length ac] W fun e w' => e = .returned (.int .i64 E3) ∧ Gr W w') := fun W h => by
        have hh := hH.out W (h10.out.2.2.2.1.trans (h.below.mono h10.out.2.2.2.1.size))
        rw [← hE.out.2.2.1]; exact rset_any a AA ac W hh.2.1.len hh.2.1.items
      have hS1 : Hid (∀ W, Gr w10 W → Calls Tryz.prog 19 #[.slice NA N.length nc, .slice MA M.length mc] W fun e w' => e = .returned (.bool true) ∧ Gr W w') := fun W h => sameV (h10.out.2.1.gr h) (h10.out.2.2.1.gr h) h10.out.1
      have hS2 : Hid (∀ W, Gr w10 W → Calls Tryz.prog 19 #[.slice PA P.length pc, .slice QA Q.length qc] W fun e w' => e = .returned (.bool true) ∧ Gr W w') := fun W h => sameV (h10.out.2.2.2.2.2.1.gr h) (h10.out.2.2.2.2.2.2.1.gr h) h10.out.2.2.2.2.1
      have hS3 : Hid (∀ W, Gr w10 W → Calls Tryz.prog 19 #[.slice UA U.length uc, .slice VA V.length vc] W fun e w' => e = .returned (.bool true) ∧ Gr W w') := fun W h => sameV (h10.out.2.2.2.2.2.2.2.2.1.gr h) (h10.out.2.2.2.2.2.2.2.2.2.1.gr h) h10.out.2.2.2.2.2.2.2.1
      have hS4 : Hid (∀ W, Gr w10 W → Calls Tryz.prog 19 #[.slice RA R.length rc, .slice SA S.length sc] W fun e w' => e = .returned (.bool true) ∧ Gr W w') := fun W h => sameV (h10.out.2.2.2.2.2.2.2.2.2.2.2.1.gr h) (h10.out.2.2.2.2.2.2.2.2.2.2.2.2.gr h) h10.out.2.2.2.2.2.2.2.2.2.2.1
      have hT1 : Hid (∀ W, Gr w10 W → Calls Tryz.prog 14 #[.agg #[.int .i64 t.c.c0, .int .i64 t.c.c1, .int .i64 t.c.c2, .int .i64 t.c.c3, .slice A t.c.l.length ca, .slice D t.e.length cd]] W fun e w' => e = .returned (.int .i64 E4) ∧ Gr W w') := fun W h => by
        have hh := hH.out W (h10.out.2.2.2.1.trans (h.below.mono h10.out.2.2.2.1.size))
        rw [← hE.out.2.2.2]; exact rtable_any t A ca D cd W hL.out.1 hL.out.2.1 hh.2.2.2.1.row hh.2.2.2.1.rowC
      clear hcc
      have hgr : Hid (Gr w10 w10) := Gr.refl _
      go_wp2_with fail
      refine Calls.mono (hO1.out _ hgr.out) ?_
      rintro e v1 ⟨rfl, q1⟩
      have g1 : Hid (Gr w10 v1) := hgr.out.trans q1
      clear q1 hgr
      go_wp2_with fail
      refine Calls.mono (hO2.out _ g1.out) ?_
      rintro e v2 ⟨rfl, q1⟩
      have g2 : Hid (Gr w10 v2) := g1.out.trans q1
      clear q1 g1
      go_wp2_with fail
      refine Calls.mono (hK1.out _ g2.out) ?_
      rintro e v3 ⟨rfl, q1⟩
      have g3 : Hid (Gr w10 v3) := g2.out.trans q1
      clear q1 g2
      go_wp2_with fail
      refine Calls.mono (hK2.out _ g3.out) ?_
      rintro e v4 ⟨rfl, q1⟩
      have g4 : Hid (Gr w10 v4) := g3.out.trans q1
      clear q1 g3
      go_wp2_with fail
      refine Calls.mono (hS1.out _ g4.out) ?_
      rintro e v5 ⟨rfl, q1⟩
      have g5 : Hid (Gr w10 v5) := g4.out.trans q1
      clear q1 g4
      go_wp2_with fail
      refine Calls.mono (hS2.out _ g5.out) ?_
      rintro e v6 ⟨rfl, q1⟩
      have g6 : Hid (Gr w10 v6) := g5.out.trans q1
      clear q1 g5
      go_wp2_with fail
      refine Calls.mono (hS3.out _ g6.out) ?_
      rintro e v7 ⟨rfl, q1⟩
      have g7 : Hid (Gr w10 v7) := g6.out.trans q1
      clear q1 g6
      go_wp2_with fail
      refine Calls.mono (hK2.out _ g7.out) ?_
      rintro e v8 ⟨rfl, q1⟩
      have g8 : Hid (Gr w10 v8) := g7.out.trans q1
      clear q1 g7
      go_wp2_with fail
      refine Calls.mono (hS4.out _ g8.out) ?_
      rintro e v9 ⟨rfl, q1⟩
      have g9 : Hid (Gr w10 v9) := g8.out.trans q1
      clear q1 g8
      have hb9 : Hid (Below w0.heap.size w0 v9) := h10.out.2.2.2.1.trans (g9.out.below.mono h10.out.2.2.2.1.size)
      obtain ⟨k0, k1, k2, k3, k4, k5⟩ : _ ∧ _ ∧ _ ∧ _ ∧ _ ∧ _ := ⟨(hH.out v9 hb9.out).2.2.2.1.k0, (hH.out v9 hb9.out).2.2.2.1.k1, (hH.out v9 hb9.out).2.2.2.1.k2, (hH.out v9 hb9.out).2.2.2.1.k3, (hH.out v9 hb9.out).2.2.2.1.k4, (hH.out v9 hb9.out).2.2.2.1.k5⟩
      go_wp2_with fail
      refine Calls.mono (hT1.out _ g9.out) ?_
      rintro e v10 ⟨rfl, q1⟩
      have hfin : Hid (Below w.heap.size w v10) := (hH.out v10 (hb9.out.trans (q1.below.mono hb9.out.size))).2.2.2.2.2.2.2
      clear q1 k0 k1 k2 k3 k4 k5
      go_wp2
      go_ret
      exact ⟨by simp, hfin.out⟩
end Go.Proofs.YtnkpfhipgcmplaaGreatDoor
