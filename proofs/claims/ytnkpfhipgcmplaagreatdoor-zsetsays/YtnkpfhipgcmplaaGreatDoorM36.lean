/-
  zset.greatest: the last number of a list.
  viewref.Rows: the rows of a table.
-/
import Derived.Test.YtnkpfhipgcmplaaGreatDoorM35
import Derived.Test.YtnkpfhipgcmplaaGreatDoorM34
import Derived.Test.YtnkpfhipgcmplaaGreatDoorM27
namespace Go.Proofs.YtnkpfhipgcmplaaGreatDoor
open Go.RowKit Go.Sort

set_option maxHeartbeats 1000000 in
theorem greatest_any (l : List Int) (A : Option Addr) (cap : Nat) (w : World) (hl : l.length ≤ maxLen) (hr : RowI w A l) :
    Calls Tryz.prog 40 #[.slice A l.length cap] w fun e w' => e = .returned (.int .i64 (grt l)) ∧ Gr w w' := by
  unfold maxLen at hl
  by_cases h : l = []
  · subst h
    go_enter Tryz.func40, Tryz.ntmps40
    go_wp2
    go_ret
    exact ⟨rfl, Gr.refl _⟩
  · have hp : 0 < l.length := List.length_pos_iff.2 h
    have hk : l.length - 1 < l.length := by omega
    obtain ⟨b, off, rfl, hb, hcs⟩ := hr.at hk
    obtain ⟨x, hx⟩ : ∃ x, l[l.length - 1] = x := ⟨_, rfl⟩
    have e0 := hcs (l.length - 1) hk 0 (by omega)
    rw [hx] at e0
    have e1 : w.cell? ⟨b, off + (l.length - 1), none⟩ = some (.int .i64 x) := by simpa [encI] using e0
    have hfin : Hid (grt l = x) := by
      show _ = _
      unfold grt
      rw [List.getD_eq_getElem?_getD, List.getElem?_eq_getElem hk, ← hx]; rfl
    obtain ⟨n, hn⟩ : ∃ n, l.length = n + 1 := ⟨l.length - 1, by omega⟩
    rw [hn] at e1 ⊢
    rw [Nat.add_sub_cancel] at e1
    have hne : (((n + 1 : Nat) : Int) == 0) = false := by simp; omega
    have hw : IntKind.i64.wrap (((n + 1 : Nat) : Int) - 1) = (n : Int) := by rw [IntKind.wrap_i64]; omega
    have hlt : (n : Int) < ((n + 1 : Nat) : Int) := by omega
    clear hcs e0 hx h
    go_enter Tryz.func40, Tryz.ntmps40
    go_wp2
    go_ret
    exact ⟨by rw [hfin.out]; rfl, Gr.refl _⟩

end Go.Proofs.YtnkpfhipgcmplaaGreatDoor

namespace Go.Proofs.YtnkpfhipgcmplaaGreatDoor
open Go.RowKit Go.Sort

/-- A row under way: the first c of its values are there. -/
def rowC (e : List Cel) (key : Int) (c : Nat) : List Int := [key, if 0 < c then grt (onceL (valsOf key 0 e)) else 0, if 1 < c then grt (onceL (valsOf key 1 e)) else 0, if 2 < c then grt (onceL (valsOf key 2 e)) else 0]
theorem rowC_end (e : List Cel) (key : Int) : rowC e key 3 = rowOf e key := rfl
theorem rowC_len (e : List Cel) (key : Int) (c : Nat) : (rowC e key c).length = 4 := rfl
theorem rowC_zero (e : List Cel) (key : Int) : rowC e key 0 = [key, 0, 0, 0] := rfl
theorem rowC_succ (e : List Cel) (key : Int) {c : Nat} (h : c < 3) : rowC e key (c + 1) = (rowC e key c).set (c + 1) (grt (onceL (valsOf key (c : Int) e))) := by
  match c, h with
  | 0, _ => rfl
  | 1, _ => rfl
  | 2, _ => rfl
theorem rowC_same (e : List Cel) (key : Int) {c : Nat} (h : c < 3) (hn : onceL (valsOf key (c : Int) e) = []) : rowC e key (c + 1) = rowC e key c := by
  rw [rowC_succ e key h, hn]
  match c, h with
  | 0, _ => rfl
  | 1, _ => rfl
  | 2, _ => rfl
theorem grt_last {l : List Int} (h : 0 < l.length) : l[l.length - 1]'(by omega) = grt l := by
  unfold grt
  rw [List.getD_eq_getElem?_getD, List.getElem?_eq_getElem (show l.length - 1 < l.length by omega)]
  rfl
/-- Four numbers in a block of their own, under way. -/
structure Four (w : World) (X : Nat) (r : List Int) : Prop where
  lt : X < w.heap.size
  len : r.length = 4
  cell : ∀ j (h : j < r.length), w.cell? ⟨X, j, none⟩ = some (.int .i64 r[j])
  fz : ∀ j, w.frozen? ⟨X, j, none⟩ = false
theorem Four.row {w : World} {X : Nat} {r : List Int} (h : Four w X r) : RowI w (some ⟨X, 0, none⟩) r := Or.inr ⟨X, 0, rfl, h.lt, fun j hj i hi => by
  obtain rfl : i = 0 := by omega
  rw [show 0 + j * 1 + 0 = j by omega]
  exact h.cell j hj⟩
theorem Four.below {w w' : World} {X : Nat} {r : List Int} (h : Four w X r) (k : Below w.heap.size w w') : Four w' X r := ⟨Nat.lt_of_lt_of_le h.lt k.size, h.len, fun j hj => (k.cell (p := ⟨X, j, none⟩) h.lt).trans (h.cell j hj), fun j => (k.frozen (p := ⟨X, j, none⟩) h.lt).trans (h.fz j)⟩
theorem Four.set {w : World} {X : Nat} {r : List Int} (h : Four w X r) {c : Nat} (hc : c < 4) (n : Int) : Four (w.setCell ⟨X, c, none⟩ (.int .i64 n)) X (r.set c n) := by
  have hl := h.len
  have hc' : c < r.length := by omega
  refine ⟨by simpa using h.lt, by simpa using h.len, fun j hj => ?_, fun j => by simpa using h.fz j⟩
  have hj' : j < r.length := by simpa using hj
  by_cases e : c = j
  · subst e
    rw [List.getElem_set_self]
    exact World.cell?_setCell_same _ _ _ (h.cell c hc')
  · rw [List.getElem_set_ne e, World.cell?_setCell_other _ _ _ _ (by intro k; injection k with _ k; exact e k)]
    exact h.cell j hj'
theorem Four.old {w : World} {X : Nat} {r : List Int} (h : Four w X r) {c : Nat} (hc : c < 3) : ∃ o, w.cell? ⟨X, c + 1, none⟩ = some (.int .i64 o) := by
  have hl := h.len
  exact ⟨_, h.cell (c + 1) (by omega)⟩
theorem Four.fin {w w0 : World} {X : Nat} {e : List Cel} {key n : Int} {c : Nat} (hc : c < 3) (hn : grt (onceL (valsOf key (c : Int) e)) = n) (h : Four w X (rowC e key c)) (k : Below w0.heap.size w0 w) (hx : w0.heap.size ≤ X) : Hid (Four (w.setCell ⟨X, c + 1, none⟩ (.int .i64 n)) X (rowC e key (c + 1)) ∧ Below w0.heap.size w0 (w.setCell ⟨X, c + 1, none⟩ (.int .i64 n))) := by
  have h1 := h.set (c := c + 1) (by omega) n
  rw [← hn, ← rowC_succ e key hc, hn] at h1
  exact ⟨h1, k.setCell hx _⟩

set_option maxRecDepth 100000 in
set_option maxHeartbeats 4000000 in
theorem rrows_any (t : Tab) (A : Option Addr) (ca : Nat) (D : Option Addr) (cd : Nat) (w : World) (ht : errT t = 0) (hr : Row w A t.c.l) (hd : RowC w D t.e) :
    Calls Tryz.prog 15 #[.agg #[.int .i64 t.c.c0, .int .i64 t.c.c1, .int .i64 t.c.c2, .int .i64 t.c.c3, .slice A t.c.l.length ca, .slice D t.e.length cd]] w fun e w' => ∃ (L : List Itm) (C : Option Addr) (c : Nat), e = .returned (.slice C L.length c) ∧ L.map Itm.z = ofL t ∧ Lv w' C c L ∧ Below w.heap.size w w' := by
  have ht0 : TabAt (w.alloc (.cells #[.int .i64 t.c.c0, .int .i64 t.c.c1, .int .i64 t.c.c2, .int .i64 t.c.c3, .slice A t.c.l.length ca, .slice D t.e.length cd] 29)) w.heap.size t A ca D cd := TabAt.new 29 hr hd rfl
  have hbw0 : Below w.heap.size w (w.alloc (.cells #[.int .i64 t.c.c0, .int .i64 t.c.c1, .int .i64 t.c.c2, .int .i64 t.c.c3, .slice A t.c.l.length ca, .slice D t.e.length cd] 29)) := ((Gr.refl w).alloc _).below
  have hsz : Hid (t.e.length * 40 ≤ 140737488355328 ∧ t.e.length ≤ 400) := by have := (errT_parts ht).2.1; exact ⟨by omega, this⟩
  have hky := rkeys_any t A ca D cd (w.alloc (.cells #[.int .i64 t.c.c0, .int .i64 t.c.c1, .int .i64 t.c.c2, .int .i64 t.c.c3, .slice A t.c.l.length ca, .slice D t.e.length cd] 29)) hsz.out.1 ht0.row ht0.rowC
  have hkyH : Hid _ := hky
  clear hky hr hd ht
  go_enter Tryz.func15, Tryz.ntmps15
  obtain ⟨k0, k1, k2, k3, k4, k5⟩ : _ ∧ _ ∧ _ ∧ _ ∧ _ ∧ _ := ⟨ht0.k0, ht0.k1, ht0.k2, ht0.k3, ht0.k4, ht0.k5⟩
  go_wp2_with fail
  refine Calls.mono (show Calls _ _ _ _ _ from hkyH.out) ?_
  rintro e w2 ⟨K, kc, rfl, hrk, hb2⟩
  clear hkyH k0 k1 k2 k3 k4 k5
  have ht2 : Hid (TabAt w2 w.heap.size t A ca D cd ∧ Below w.heap.size w w2) := ⟨ht0.below hb2, hbw0.trans (hb2.mono hbw0.size)⟩
  obtain ⟨ks, hks⟩ : ∃ ks, onceL (keysOf t.e) = ks := ⟨_, rfl⟩
  have hksH : Hid (onceL (keysOf t.e) = ks ∧ RowI w2 K ks) := ⟨hks, by rw [← hks]; exact hrk⟩
  have hkl : ks.length ≤ 400 := by
    rw [← hks]
    have h1 := onceL_len (keysOf t.e)
    have h2 := keysOf_len t.e
    have := hsz.out.2
    omega
  rw [hks]
  clear hks hrk hb2 ht0 hbw0
  go_wp2
  go_loopw [3, 12] (fun u i wr => ∃ (k : Nat) (L : List Itm), k ≤ ks.length ∧ i = .int .i64 k ∧ Hid (L.length = k ∧ L.map Itm.z = (ks.take k).map (fun key => (rowOf t.e key, 1)) ∧ OwnT wr w2.heap.size u L ∧ Below w2.heap.size w2 wr)) (fun _ i _ => ks.length - (intOf i).toNat)
  case atStart => exact ⟨0, [], Nat.zero_le _, rfl, rfl, rfl, OwnT.nil _ _, Below.refl _ _⟩
  case round =>
    obtain ⟨k, L, hk, rfl, hR⟩ := hrel
    by_cases hlt : k < ks.length
    · have hltz : (k : Int) < (ks.length : Int) := by omega
      obtain ⟨bb, off, rfl, hb, hcs⟩ := (hksH.out.2.below hR.out.2.2.2).at hlt
      obtain ⟨key, hkey⟩ : ∃ key, ks[k] = key := ⟨_, rfl⟩
      have e0 : wr.cell? ⟨bb, off + k, none⟩ = some (.int .i64 key) := by
        have := hcs k hlt 0 (by omega)
        rw [hkey] at this
        simpa [encI] using this
      have htk : Hid ((ks.take (k + 1)).map (fun key => (rowOf t.e key, (1 : Int))) = (ks.take k).map (fun key => (rowOf t.e key, 1)) ++ [(rowOf t.e key, 1)]) := by show _ = _; rw [List.take_succ_eq_append_getElem hlt, hkey, List.map_append]; rfl
      clear hcs hkey
      obtain ⟨WX, hWX⟩ : ∃ WX, (wr.alloc (.cells #[.int .i64 key, .int .i64 0, .int .i64 0, .int .i64 0] 3)) = WX := ⟨_, rfl⟩
      have hF0 : Hid (Four WX wr.heap.size (rowC t.e key 0) ∧ Gr wr WX) := by
        rw [← hWX]
        refine ⟨⟨by simp, rfl, fun j hj => ?_, fun j => box1f (w := wr) (Gr.refl _) j⟩, (Gr.refl _).alloc _⟩
        have hj' : j < 4 := hj
        match j, hj' with
        | 0, _ => exact box1 (w := wr) (Gr.refl _) rfl
        | 1, _ => exact box1 (w := wr) (Gr.refl _) rfl
        | 2, _ => exact box1 (w := wr) (Gr.refl _) rfl
        | 3, _ => exact box1 (w := wr) (Gr.refl _) rfl
      go_wp2
      clear hWX
      obtain ⟨X, hX⟩ : ∃ X, wr.heap.size = X := ⟨_, rfl⟩
      have hXH : Hid (wr.heap.size = X) := hX
      rw [hX] at hF0 ⊢
      clear hX e0
      go_loopw [7] (fun i wq => ∃ c : Nat, c ≤ 3 ∧ i = .int .i64 c ∧ Hid (Four wq X (rowC t.e key c) ∧ Below wr.heap.size wr wq)) (fun i _ => 3 - (intOf i).toNat)
      case atStart => exact ⟨0, by omega, rfl, hF0.out.1, hF0.out.2.below⟩
      case round =>
        rename World => wq
        obtain ⟨c, hc, rfl, hQ⟩ := hrel
        have hQb : Hid (Below w2.heap.size w2 wq) := hR.out.2.2.2.trans (hQ.out.2.mono hR.out.2.2.2.size)
        by_cases hc3 : c < 3
        · have hc3z : (c : Int) < 3 := by omega
          have htq : Hid (TabAt wq w.heap.size t A ca D cd) := ht2.out.1.below hQb.out
          have hv0 := rvalues_any t A ca D cd key (c : Int) wq hsz.out.1 htq.out.row htq.out.rowC
          have hv : Hid _ := hv0
          clear hv0
          obtain ⟨k0, k1, k2, k3, k4, k5⟩ : _ ∧ _ ∧ _ ∧ _ ∧ _ ∧ _ := ⟨htq.out.k0, htq.out.k1, htq.out.k2, htq.out.k3, htq.out.k4, htq.out.k5⟩
          go_wp2_with fail
          refine Calls.mono (show Calls _ _ _ _ _ from hv.out) ?_
          rintro e w5 ⟨VA, vc, rfl, hrv, hb5⟩
          clear hv k0 k1 k2 k3 k4 k5
          obtain ⟨vs, hvs⟩ : ∃ vs, onceL (valsOf key (c : Int) t.e) = vs := ⟨_, rfl⟩
          have hvH : Hid (onceL (valsOf key (c : Int) t.e) = vs ∧ RowI w5 VA vs) := ⟨hvs, by rw [← hvs]; exact hrv⟩
          have hvl : vs.length ≤ 400 := by
            rw [← hvs]
            have h1 := onceL_len (valsOf key (c : Int) t.e)
            have h2 := valsOf_len key (c : Int) t.e
            have := hsz.out.2
            omega
          have hF5 : Hid (Four w5 X (rowC t.e key c) ∧ Below wr.heap.size wr w5) := ⟨hQ.out.1.below hb5, hQ.out.2.trans (hb5.mono hQ.out.2.size)⟩
          rw [hvs]
          clear hvs hrv hb5
          by_cases hv0 : 0 < vs.length
          · have hv0z : (0 : Int) < (vs.length : Int) := by omega
            obtain ⟨m, hm⟩ : ∃ m : Nat, vs.length = m + 1 := ⟨vs.length - 1, by omega⟩
            obtain ⟨bv, ov, rfl, hbv, hcv⟩ := hvH.out.2.at (m := m) (by omega)
            obtain ⟨n, hn⟩ : ∃ n, vs[m]'(by omega) = n := ⟨_, rfl⟩
            have f0 : w5.cell? ⟨bv, ov + m, none⟩ = some (.int .i64 n) := by
              have := hcv m (by omega) 0 (by omega)
              rw [hn] at this
              simpa [encI] using this
            have hng : Hid (grt (onceL (valsOf key (c : Int) t.e)) = n) := by
              show _ = _
              rw [hvH.out.1, ← grt_last hv0, ← hn]
              simp only [hm]
              rfl
            have hmz : (m : Int) < (vs.length : Int) := by omega
            have hm0 : (0 : Int) ≤ (m : Int) := by omega
            have hc4 : (((c + 1 : Nat) : Int)) < 4 := by omega
            obtain ⟨old, z0⟩ := hF5.out.1.old hc3
            have z1 := hF5.out.1.fz (c + 1)
            have hfin : Hid (Four (w5.setCell ⟨X, c + 1, none⟩ (.int .i64 n)) X (rowC t.e key (c + 1)) ∧ Below wr.heap.size wr (w5.setCell ⟨X, c + 1, none⟩ (.int .i64 n))) := Four.fin hc3 hng.out hF5.out.1 hF5.out.2 (Nat.le_of_eq hXH.out)
            have hvm : vs.length - 1 = m := by omega
            rw [← hvm] at f0
            clear hcv hn hm hvm
            go_wp2
            go_roundw
            case rel => exact ⟨c + 1, by omega, by go_num, hfin⟩
            case measure => simp [intOf]; omega
          · have hv0z : ¬ (0 : Int) < (vs.length : Int) := by omega
            have hfin : Hid (Four w5 X (rowC t.e key (c + 1)) ∧ Below wr.heap.size wr w5) := ⟨by rw [rowC_same t.e key hc3 (by rw [hvH.out.1]; exact List.eq_nil_of_length_eq_zero (by omega))]; exact hF5.out.1, hF5.out.2⟩
            go_wp2
            go_roundw
            case rel => exact ⟨c + 1, by omega, by go_num, hfin⟩
            case measure => simp [intOf]; omega
        · have hc3z : ¬ (c : Int) < 3 := by omega
          have hF3 : Hid (Four wq X (rowOf t.e key) ∧ Below wr.heap.size wr wq) := by
            obtain rfl : c = 3 := by omega
            exact hQ.out
          have hrl : (rowOf t.e key).length = 4 := rfl
          have hoX : Hid (OwnT (wq.alloc (.cells #[.slice (some ⟨X, 0, none⟩) 4 4, .int .i64 1] 66)) w2.heap.size u3 L ∧ RowG encT 2 (wq.alloc (.cells #[.slice (some ⟨X, 0, none⟩) 4 4, .int .i64 1] 66)) (some ⟨wq.heap.size, 0, none⟩) [(⟨some ⟨X, 0, none⟩, 4, rowOf t.e key, 1⟩ : Itm)] ∧ Apart (wq.alloc (.cells #[.slice (some ⟨X, 0, none⟩) 4 4, .int .i64 1] 66)) w2.heap.size u3.ownBlock (⟨some ⟨X, 0, none⟩, 4, rowOf t.e key, 1⟩ : Itm) ∧ (L.length + 1 ≤ maxLen ∧ (L.length + 1) * 32 ≤ 140737488355328) ∧ Below w2.heap.size w2 (wq.alloc (.cells #[.slice (some ⟨X, 0, none⟩) 4 4, .int .i64 1] 66))) := by
            have hA := hF3.out.2.alloc hF3.out.2.size (.cells #[.slice (some ⟨X, 0, none⟩) 4 4, .int .i64 1] 66)
            have hLk := hR.out.1
            have hxx := hXH.out
            have hb2 := hR.out.2.2.2.size
            refine ⟨hR.out.2.2.1.below hA, rowNewT rfl (⟨some ⟨X, 0, none⟩, 4, rowOf t.e key, 1⟩ : Itm) _, ⟨hF3.out.1.row.gr ((Gr.refl _).alloc _), by show 4 ≤ maxLen; decide, (fun h => by cases h), fun a ha => ⟨?_, ?_, ?_⟩⟩, ⟨by unfold maxLen; omega, by omega⟩, hR.out.2.2.2.trans (hA.mono hR.out.2.2.2.size)⟩
            · cases ha; show w2.heap.size ≤ X; omega
            · cases ha; have := hF3.out.1.lt; simp; omega
            · cases ha
              intro e
              have h3 := (World.ownsRow.lt hR.out.2.2.1.own X e).2
              omega
          go_wp2_with (at_builtin; refine wpList_append_t _ rfl (.tmp 39) (.tmp 42) rfl w2.heap.size u3 L (⟨some ⟨X, 0, none⟩, 4, rowOf t.e key, 1⟩ : Itm) ⟨wq.heap.size, 0, none⟩ 1 rfl rfl hoX.out.1 hoX.out.2.1 hoX.out.2.2.1 hoX.out.2.2.2.1.1 hoX.out.2.2.2.1.2 hoX.out.2.2.2.2.size ?_; intro v8 w8 hown8 hb8)
          have hfin : Hid ((L ++ [(⟨some ⟨X, 0, none⟩, 4, rowOf t.e key, 1⟩ : Itm)]).length = k + 1 ∧ (L ++ [(⟨some ⟨X, 0, none⟩, 4, rowOf t.e key, 1⟩ : Itm)]).map Itm.z = (ks.take (k + 1)).map (fun key => (rowOf t.e key, 1)) ∧ OwnT w8 w2.heap.size v8 (L ++ [(⟨some ⟨X, 0, none⟩, 4, rowOf t.e key, 1⟩ : Itm)]) ∧ Below w2.heap.size w2 w8) := ⟨by have := hR.out.1; simp; omega, by rw [htk.out, List.map_append, hR.out.2.1]; rfl, hown8, hoX.out.2.2.2.2.trans hb8⟩
          clear hown8 hb8
          go_wp2
          go_roundw
          case rel => exact ⟨k + 1, L ++ [(⟨some ⟨X, 0, none⟩, 4, rowOf t.e key, 1⟩ : Itm)], by omega, by go_num, hfin⟩
          case measure => simp [intOf]; omega
    · have hltz : ¬ (k : Int) < (ks.length : Int) := by omega
      have hke : ks.take k = ks := List.take_of_length_le (by omega)
      obtain ⟨A2, cap2, hv2, hn2, hit, _⟩ := hR.out.2.2.1.items
      have hfin : Hid (L.map Itm.z = ofL t ∧ Lv wr A2 cap2 L ∧ Below w.heap.size w wr) := by
        have h1 := hR.out.2.1
        rw [hke] at h1
        exact ⟨by rw [h1]; unfold ofL; rw [hksH.out.1], ⟨hit, hn2, by have := hR.out.1; unfold maxLen; omega⟩, ht2.out.2.trans (hR.out.2.2.2.mono ht2.out.2.size)⟩
      subst hv2
      clear hke hit hn2
      go_wp2
      go_ret
      exact ⟨L, A2, cap2, rfl, hfin.out⟩
end Go.Proofs.YtnkpfhipgcmplaaGreatDoor
