/-
  Of a table's rows there is one a key, each once (viewkeep.ZsetRows): whatever is handed in, the law says true.
-/
import Derived.Test.YtjgefnipkaecgacZOf
import Derived.Test.YtjgefnipkaecgacZSame
import Derived.Test.YtjgefnipkaecgacZCheck
import Derived.Test.YtjgefnipkaecgacKPuts
import Derived.Test.YtjgefnipkaecgacTOpen
namespace Go.Proofs.Ytjgefnipkaecgac
open Go.RowKit Go.Sort

theorem once_nil : onceL [] = [] := by unfold onceL; rw [List.mergeSort_nil]; rfl
/-- The table of the first test. -/
def firstT : Tab := ⟨⟨1, 0, 0, 0, []⟩, [((0, 1), 3, 1, 7)]⟩
theorem first_e : errT firstT = 0 := by decide
theorem first_z : ofL firstT = [([3, 0, 7, 0], 1)] := by
  unfold ofL rowOf
  rw [show keysOf firstT.e = [3] from rfl, onceL_one]
  show [([3, grt (onceL (valsOf 3 0 firstT.e)), grt (onceL (valsOf 3 1 firstT.e)), grt (onceL (valsOf 3 2 firstT.e))], (1 : Int))] = _
  rw [show valsOf 3 0 firstT.e = [] from rfl, show valsOf 3 1 firstT.e = [7] from rfl, show valsOf 3 2 firstT.e = [] from rfl, onceL_one, once_nil]
  rfl
theorem first_ed : editedTo [((1, 0), 3, 1, 7)] 1 = firstT := by
  show editT ⟨zeroC, []⟩ 0 ((1, 0), 3, 1, 7) = _
  rw [edited_one]; rfl
theorem lit1 (w : World) : Items ((w.alloc (.cells #[.int .i64 3, .int .i64 0, .int .i64 7, .int .i64 0] 3)).alloc (.cells #[.slice (some ⟨w.heap.size, 0, none⟩) 4 4, .int .i64 1] 41)) (some ⟨w.heap.size + 1, 0, none⟩) [⟨some ⟨w.heap.size, 0, none⟩, 4, [3, 0, 7, 0], 1⟩] := by
  refine ⟨rowNewT (by simp) ⟨some ⟨w.heap.size, 0, none⟩, 4, [3, 0, 7, 0], 1⟩ 41, fun x hx => ?_⟩
  obtain rfl : x = _ := List.mem_singleton.1 hx
  refine ⟨RowG.gr (w := w.alloc (.cells #[.int .i64 3, .int .i64 0, .int .i64 7, .int .i64 0] 3)) (Or.inr ⟨w.heap.size, 0, rfl, by simp, fun j hj i hi => ?_⟩) ((Gr.refl _).alloc _), by simp [maxLen], fun h => by cases h⟩
  obtain rfl : i = 0 := by omega
  have hb : ∀ k v, (#[.int .i64 3, .int .i64 0, .int .i64 7, .int .i64 0] : Array Value)[k]? = some v → (w.alloc (.cells #[.int .i64 3, .int .i64 0, .int .i64 7, .int .i64 0] 3)).cell? ⟨w.heap.size, k, none⟩ = some v := fun k v hv => box1 (T1 := 3) (Gr.refl _) (j := k) hv
  have hj' : j < 4 := hj
  match j, hj' with
  | 0, _ => exact hb 0 _ rfl
  | 1, _ => exact hb 1 _ rfl
  | 2, _ => exact hb 2 _ rfl
  | 3, _ => exact hb 3 _ rfl

set_option maxRecDepth 100000 in
set_option maxHeartbeats 4000000 in
theorem zsetRows_any (t : Tab) (A : Option Addr) (ca : Nat) (D : Option Addr) (cd : Nat) (w : World) (hl : t.c.l.length ≤ maxLen) (hel : t.e.length ≤ maxLen) (hr : Row w A t.c.l) (hd : RowC w D t.e) :
    Calls Try.prog 5 #[.agg #[.int .i64 t.c.c0, .int .i64 t.c.c1, .int .i64 t.c.c2, .int .i64 t.c.c3, .slice A t.c.l.length ca, .slice D t.e.length cd]] w fun e w' => e = .returned (.bool true) ∧ Below w.heap.size w w' := by
  have ht0 : TabAt (w.alloc (.cells #[.int .i64 t.c.c0, .int .i64 t.c.c1, .int .i64 t.c.c2, .int .i64 t.c.c3, .slice A t.c.l.length ca, .slice D t.e.length cd] 28)) w.heap.size t A ca D cd := TabAt.new 28 hr hd rfl
  have hbw0 : Below w.heap.size w (w.alloc (.cells #[.int .i64 t.c.c0, .int .i64 t.c.c1, .int .i64 t.c.c2, .int .i64 t.c.c3, .slice A t.c.l.length ca, .slice D t.e.length cd] 28)) := ((Gr.refl w).alloc _).below
  have hlH : Hid (t.c.l.length ≤ maxLen ∧ t.e.length ≤ maxLen) := ⟨hl, hel⟩
  clear hr hd hl hel
  have hgE : Gr (w.alloc (.cells #[.int .i64 t.c.c0, .int .i64 t.c.c1, .int .i64 t.c.c2, .int .i64 t.c.c3, .slice A t.c.l.length ca, .slice D t.e.length cd] 28)) ((w.alloc (.cells #[.int .i64 t.c.c0, .int .i64 t.c.c1, .int .i64 t.c.c2, .int .i64 t.c.c3, .slice A t.c.l.length ca, .slice D t.e.length cd] 28)).alloc (.cells #[.int .i64 1, .int .i64 0, .int .i64 3, .int .i64 1, .int .i64 7] 50)) := (Gr.refl _).alloc _
  have hrE : RowC ((w.alloc (.cells #[.int .i64 t.c.c0, .int .i64 t.c.c1, .int .i64 t.c.c2, .int .i64 t.c.c3, .slice A t.c.l.length ca, .slice D t.e.length cd] 28)).alloc (.cells #[.int .i64 1, .int .i64 0, .int .i64 3, .int .i64 1, .int .i64 7] 50)) (some ⟨w.heap.size + 1, 0, none⟩) [((1, 0), 3, 1, 7)] := by
    have hs : (w.alloc (.cells #[.int .i64 t.c.c0, .int .i64 t.c.c1, .int .i64 t.c.c2, .int .i64 t.c.c3, .slice A t.c.l.length ca, .slice D t.e.length cd] 28)).heap.size = w.heap.size + 1 := by simp
    refine Or.inr ⟨w.heap.size + 1, 0, rfl, by simp, fun j hj i hi => ?_⟩
    have hb := fun (i : Nat) (v : Value) (h : (#[.int .i64 1, .int .i64 0, .int .i64 3, .int .i64 1, .int .i64 7] : Array Value)[i]? = some v) => box1 (w := w.alloc (.cells #[.int .i64 t.c.c0, .int .i64 t.c.c1, .int .i64 t.c.c2, .int .i64 t.c.c3, .slice A t.c.l.length ca, .slice D t.e.length cd] 28)) (T1 := 50) (Gr.refl _) (j := i) h
    rw [hs] at hb
    obtain rfl : j = 0 := by simp at hj; omega
    match i, hi with
    | 0, _ => exact hb 0 _ rfl
    | 1, _ => exact hb 1 _ rfl
    | 2, _ => exact hb 2 _ rfl
    | 3, _ => exact hb 3 _ rfl
    | 4, _ => exact hb 4 _ rfl
  have hed := edited_any [((1, 0), 3, 1, 7)] (some ⟨w.heap.size + 1, 0, none⟩) 1 _ (by decide) (by decide) hrE
  rw [show min 60 ([((1, 0), 3, 1, 7)] : List Cel).length = 1 from rfl, first_ed] at hed
  have hedH : Hid (Calls Try.prog 18 #[.slice (some ⟨w.heap.size + 1, 0, none⟩) 1 1] _ _) := hed
  have hT : Hid (firstT.c.l.length ≤ maxLen ∧ firstT.e.length ≤ maxLen ∧ errT firstT = 0 ∧ ofR firstT = [([3, 0, 7, 0], 1)]) := ⟨by decide, by decide, first_e, by rw [ofR_ok first_e, first_z]⟩
  generalize firstT = T at hedH hT
  clear hed hrE
  go_enter Try.func5, Try.ntmps5
  go_wp2_with fail
  refine Calls.mono (show Calls _ _ _ _ _ from hedH.out) ?_
  rintro e w1 ⟨A1, ca1, D1, cd1, rfl, hr1, hd1, -, -, hb1⟩
  clear hedH
  have hb1' : Below (w.alloc (.cells #[.int .i64 t.c.c0, .int .i64 t.c.c1, .int .i64 t.c.c2, .int .i64 t.c.c3, .slice A t.c.l.length ca, .slice D t.e.length cd] 28)).heap.size (w.alloc (.cells #[.int .i64 t.c.c0, .int .i64 t.c.c1, .int .i64 t.c.c2, .int .i64 t.c.c3, .slice A t.c.l.length ca, .slice D t.e.length cd] 28)) w1 := hgE.below.trans (hb1.mono hgE.size)
  have ht1 : Hid (TabAt w1 w.heap.size t A ca D cd ∧ Below w.heap.size w w1) := ⟨ht0.below hb1', hbw0.trans (hb1'.mono hbw0.size)⟩
  have hof := of_any T A1 ca1 D1 cd1 w1 hT.out.1 hT.out.2.1 hr1 hd1
  rw [hT.out.2.2.1, hT.out.2.2.2] at hof
  have hofH : Hid _ := hof
  clear hof hr1 hd1 hb1 hb1' hgE ht0 hbw0
  go_wp2_with fail
  refine Calls.mono (show Calls _ _ _ _ _ from hofH.out) ?_
  rintro e w2 ⟨L1, C1, c1, rfl, hz1, hi1, -, hb2⟩
  clear hofH hT
  have ht2 : Hid (TabAt w2 w.heap.size t A ca D cd ∧ Below w.heap.size w w2) := ⟨ht1.out.1.below hb2, ht1.out.2.trans (hb2.mono ht1.out.2.size)⟩
  have hgL : Gr w2 ((w2.alloc (.cells #[.int .i64 3, .int .i64 0, .int .i64 7, .int .i64 0] 3)).alloc (.cells #[.slice (some ⟨w2.heap.size, 0, none⟩) 4 4, .int .i64 1] 41)) := ((Gr.refl _).alloc _).alloc _
  have hsm := sameS_any L1 [⟨some ⟨w2.heap.size, 0, none⟩, 4, [3, 0, 7, 0], 1⟩] C1 (some ⟨w2.heap.size + 1, 0, none⟩) c1 1 _ (by have h := congrArg List.length hz1; rw [List.length_map] at h; rw [h]; decide) (hi1.gr hgL) (lit1 w2)
  rw [decide_eq_true (show L1.map Itm.z = List.map Itm.z [⟨some ⟨w2.heap.size, 0, none⟩, 4, [3, 0, 7, 0], 1⟩] from hz1)] at hsm
  have hsmH : Hid _ := hsm
  clear hsm hz1 hi1 hb2 ht1
  go_wp2_with fail
  refine Calls.mono (show Calls _ _ _ _ _ from hsmH.out) ?_
  rintro e w3 ⟨rfl, hg3⟩
  clear hsmH
  have ht3 : Hid (TabAt w3 w.heap.size t A ca D cd ∧ Below w.heap.size w w3) := ⟨ht2.out.1.gr (hgL.trans hg3), ht2.out.2.trans ((hgL.trans hg3).below.mono ht2.out.2.size)⟩
  clear hgL hg3 ht2
  have hof := of_any t A ca D cd w3 hlH.out.1 hlH.out.2 ht3.out.1.row ht3.out.1.rowC
  have hofH : Hid _ := hof
  clear hof
  obtain ⟨k0, k1, k2, k3, k4, k5⟩ : _ ∧ _ ∧ _ ∧ _ ∧ _ ∧ _ := ⟨ht3.out.1.k0, ht3.out.1.k1, ht3.out.1.k2, ht3.out.1.k3, ht3.out.1.k4, ht3.out.1.k5⟩
  go_wp2_with fail
  refine Calls.mono (show Calls _ _ _ _ _ from hofH.out) ?_
  rintro e w4 ⟨L, C, c, rfl, hz, hit, hnl, hb4⟩
  clear hofH k0 k1 k2 k3 k4 k5
  have ht4 : Hid (TabAt w4 w.heap.size t A ca D cd ∧ Below w.heap.size w w4) := ⟨ht3.out.1.below hb4, ht3.out.2.trans (hb4.mono ht3.out.2.size)⟩
  clear ht3 hb4
  obtain ⟨E, hE⟩ : ∃ E, errT t = E := ⟨_, rfl⟩
  have hEH : Hid (errT t = E) := hE
  rw [hE]
  clear hE
  cases hq : (E != 0)
  · have hE0 : E = 0 := by simpa using hq
    have h0H : Hid (errT t = 0) := by show _ = _; rw [hEH.out, hE0]
    subst hE0
    clear hEH hq
    have hsz : Hid (t.e.length * 40 ≤ 140737488355328 ∧ t.e.length ≤ 400) := by have := (errT_parts h0H.out).2.1; exact ⟨by omega, this⟩
    rw [ofR_ok h0H.out] at hz
    obtain ⟨ks, hks⟩ : ∃ ks, onceL (keysOf t.e) = ks := ⟨_, rfl⟩
    have hLz : Hid (L.map Itm.z = ofL t ∧ L.map Itm.z = ks.map (fun key => (rowOf t.e key, 1)) ∧ onceL (keysOf t.e) = ks) := ⟨hz, by rw [hz]; unfold ofL; rw [hks], hks⟩
    have hLl : Hid (L.length = ks.length) := by have := congrArg List.length hLz.out.2.1; simpa [Hid] using this
    have hL4 : L.length ≤ 400 := by
      rw [hLl.out, ← hks]
      exact Nat.le_trans (onceL_len _) (Nat.le_trans (keysOf_len _) hsz.out.2)
    have hkl : ks.length ≤ 400 := by
      rw [← hks]
      exact Nat.le_trans (onceL_len _) (Nat.le_trans (keysOf_len _) hsz.out.2)
    have hitH : Hid (Items w4 C L) := hit
    clear hz hks hit hnl
    go_wp2
    go_loopw [7, 39] (fun v i wr => ∃ k : Nat, k ≤ L.length ∧ i = .int .i64 k ∧ Hid (OwnI wr w4.heap.size v (ks.take k) ∧ Below w4.heap.size w4 wr)) (fun _ i _ => L.length - (intOf i).toNat)
    case atStart => exact ⟨0, by omega, rfl, OwnG.nil _ _ _ _ _, Below.refl _ _⟩
    case round =>
      rename World => w5
      obtain ⟨k, hk, rfl, hov⟩ := hrel
      by_cases hlt : k < L.length
      · have hltz : (k : Int) < (L.length : Int) := by omega
        have hI : Hid (Items w5 C L) := hitH.out.below hov.out.2
        obtain ⟨bb, off, rfl, hb, hcs⟩ := hI.out.at hlt
        obtain ⟨e0, e1⟩ := hcs k hlt
        have hkk : k < ks.length := by have := hLl.out; omega
        obtain ⟨key, hkey⟩ : ∃ x, ks[k] = x := ⟨_, rfl⟩
        have hst : Hid (ks.take (k + 1) = ks.take k ++ [key]) := by show _ = _; rw [List.take_succ_eq_append_getElem hkk, hkey]
        have hzk : L[k].z = (rowOf t.e key, 1) := by
          have h1 : (L.map Itm.z)[k]'(by simpa using hlt) = (ks.map (fun key => (rowOf t.e key, (1 : Int))))[k]'(by simpa using hkk) := by simp only [hLz.out.2.1]
          simpa [hkey] using h1
        have hmem : L[k] ∈ L := List.getElem_mem hlt
        obtain ⟨x, hx⟩ : ∃ x, L[k] = x := ⟨_, rfl⟩
        rw [hx] at e0 e1 hzk hmem
        have hxr := (hI.out.each x hmem).1
        obtain ⟨xp, xc, xr, xn⟩ := x
        obtain rfl : xr = rowOf t.e key := congrArg Prod.fst hzk
        obtain rfl : xn = 1 := congrArg Prod.snd hzk
        obtain ⟨b2, o2, h2, hb2, hc2⟩ := hxr.at (show 0 < (rowOf t.e key).length by rw [rowOf_len]; omega)
        have h2' : xp = some ⟨b2, o2, none⟩ := h2
        subst h2'
        have e2 : w5.cell? ⟨b2, o2, none⟩ = some (.int .i64 key) := hc2 0 (by rw [rowOf_len]; omega) 0 (by omega)
        have e3 : w5.cell? ⟨bb, off + k * 2, none⟩ = some (.slice (some ⟨b2, o2, none⟩) 4 xc) := e0
        have e4 : w5.cell? ⟨bb, off + k * 2 + 1, none⟩ = some (.int .i64 1) := e1
        have hgX : Gr w5 (w5.alloc (.cells #[.slice (some ⟨b2, o2, none⟩) 4 xc, .int .i64 1] 41)) := (Gr.refl _).alloc _
        have x0 : (w5.alloc (.cells #[.slice (some ⟨b2, o2, none⟩) 4 xc, .int .i64 1] 41)).cell? ⟨w5.heap.size, 0, none⟩ = some (.slice (some ⟨b2, o2, none⟩) 4 xc) := box1 (Gr.refl _) rfl
        have x1 : (w5.alloc (.cells #[.slice (some ⟨b2, o2, none⟩) 4 xc, .int .i64 1] 41)).cell? ⟨w5.heap.size, 1, none⟩ = some (.int .i64 1) := box1 (Gr.refl _) rfl
        have x2 : (w5.alloc (.cells #[.slice (some ⟨b2, o2, none⟩) 4 xc, .int .i64 1] 41)).cell? ⟨b2, o2, none⟩ = some (.int .i64 key) := (hgX.below.cell (p := ⟨b2, o2, none⟩) hb2).trans e2
        clear hcs e0 e1 hzk hmem hx hxr h2 hc2 e2 hkey
        obtain ⟨M, hM⟩ : ∃ M, ks.take k = M := ⟨_, rfl⟩
        have hMl : M.length ≤ 400 := by rw [← hM, List.length_take]; have := hLl.out; omega
        rw [hM] at hov hst
        have hgY : Gr w5 ((w5.alloc (.cells #[.slice (some ⟨b2, o2, none⟩) 4 xc, .int .i64 1] 41)).alloc (.cells #[.int .i64 key] 3)) := hgX.alloc _
        have hoX : Hid (OwnI ((w5.alloc (.cells #[.slice (some ⟨b2, o2, none⟩) 4 xc, .int .i64 1] 41)).alloc (.cells #[.int .i64 key] 3)) w4.heap.size u7 M ∧ RowI ((w5.alloc (.cells #[.slice (some ⟨b2, o2, none⟩) 4 xc, .int .i64 1] 41)).alloc (.cells #[.int .i64 key] 3)) (some ⟨w5.heap.size + 1, 0, none⟩) [key] ∧ M.length + 1 ≤ maxLen ∧ (M.length + 1) * 8 ≤ 140737488355328 ∧ Below w4.heap.size w4 ((w5.alloc (.cells #[.slice (some ⟨b2, o2, none⟩) 4 xc, .int .i64 1] 41)).alloc (.cells #[.int .i64 key] 3))) := ⟨hov.out.1.gr hgY, rowNewI (by simp) key 3, by unfold maxLen; omega, by omega, hov.out.2.trans (hgY.below.mono hov.out.2.size)⟩
        clear hM hMl hgX hgY hov
        go_wp2_with (at_builtin; refine wpList_append_i _ rfl (.tmp 52) (.tmp 57) rfl w4.heap.size u7 M [key] (some ⟨w5.heap.size + 1, 0, none⟩) 1 rfl rfl hoX.out.1 hoX.out.2.1 (fun h => by cases h) hoX.out.2.2.1 hoX.out.2.2.2.1 hoX.out.2.2.2.2.size ?_; intro v7 w7 hown7 hg7)
        have hfin7 : Hid (OwnI w7 w4.heap.size v7 (M ++ [key]) ∧ Below w4.heap.size w4 w7) := ⟨hown7, hoX.out.2.2.2.2.trans (OwnG.grown_below hoX.out.1 hg7 hoX.out.2.2.2.2.size)⟩
        clear hown7 hg7 hoX
        go_roundw
        case rel => exact ⟨k + 1, by omega, by go_num, by rw [hst.out]; exact hfin7⟩
        case measure => simp [intOf]; omega
      · have hltz : ¬ (k : Int) < (L.length : Int) := by omega
        have hke : ks.take k = ks := List.take_of_length_le (by have := hLl.out; omega)
        rw [hke] at hov
        obtain ⟨G, gc, rfl, hG, hrow, hlt4⟩ := OwnG.row encI_len hov.out.1
        have ht5 : Hid (TabAt w5 w.heap.size t A ca D cd ∧ Below w.heap.size w w5 ∧ RowI w5 G ks) := ⟨ht4.out.1.below hov.out.2, ht4.out.2.trans (hov.out.2.mono ht4.out.2.size), hrow⟩
        have hck := checkZ_any L C c w5 (by unfold maxLen; omega) (hitH.out.below hov.out.2)
        rw [hLz.out.1, of_ok h0H.out] at hck
        have hckH : Hid _ := hck
        clear hck hke hG hrow hlt4 hov
        go_wp2_with fail
        refine Calls.mono (show Calls _ _ _ _ _ from hckH.out) ?_
        rintro e w6 ⟨rfl, hg6⟩
        clear hckH
        have ht6 : Hid (TabAt w6 w.heap.size t A ca D cd ∧ Below w.heap.size w w6 ∧ RowI w6 G ks) := ⟨ht5.out.1.gr hg6, ht5.out.2.1.trans (hg6.below.mono ht5.out.2.1.size), ht5.out.2.2.gr hg6⟩
        have hky := keys_any t A ca D cd w6 hsz.out.1 ht6.out.1.row ht6.out.1.rowC
        rw [hLz.out.2.2] at hky
        have hkyH : Hid _ := hky
        clear hky ht5 hg6
        obtain ⟨k0, k1, k2, k3, k4, k5⟩ : _ ∧ _ ∧ _ ∧ _ ∧ _ ∧ _ := ⟨ht6.out.1.k0, ht6.out.1.k1, ht6.out.1.k2, ht6.out.1.k3, ht6.out.1.k4, ht6.out.1.k5⟩
        go_wp2_with fail
        refine Calls.mono (show Calls _ _ _ _ _ from hkyH.out) ?_
        rintro e w7 ⟨K, kc, rfl, hrk, hb7⟩
        clear hkyH k0 k1 k2 k3 k4 k5
        have heq := equalI_anyK ks ks G K gc kc w7 (by omega) (by omega) (ht6.out.2.2.below hb7) hrk
        rw [decide_eq_true rfl] at heq
        have heqH : Hid _ := heq
        have hbF : Hid (Below w.heap.size w w7) := ht6.out.2.1.trans (hb7.mono ht6.out.2.1.size)
        clear heq hrk hb7 ht6
        go_wp2_with fail
        refine Calls.mono (show Calls _ _ _ _ _ from heqH.out) ?_
        rintro e w8 ⟨rfl, hg8⟩
        have hbG : Hid (Below w.heap.size w w8) := hbF.out.trans (hg8.below.mono hbF.out.size)
        clear heqH hbF hg8
        go_wp2
        go_ret
        exact ⟨rfl, hbG.out⟩
  · have hE0 : E ≠ 0 := by simpa using hq
    have hL0 : L = [] := List.map_eq_nil_iff.1 (hz.trans (ofR_no (by rw [hEH.out]; exact hE0)))
    subst hL0
    clear hE0 hz hit hnl
    go_wp2
    go_ret
    exact ⟨rfl, ht4.out.2⟩


open Go.ChangeShapes Go.WideShapes Go.ChangeAt Go.RowKit

set_option maxRecDepth 100000 in
theorem zsetRows_lifted (os : Os) (started : os.Started) (H : Type) (enc : TypeId × Value → H) :
    ReturnsInHanded {} Try.checked os 5 .any (Rows.zsetRowsSpec.pre6 enc Try.prog Try.f5 Rows.zsetRowsRow.domain false) (Rows.zsetRowsSpec.post enc Try.prog Try.f5 false true false false) := by
  refine returnsInHanded_of_change (C := Try.checked) ownK started (by kernel_rfl) Try.func5
    (ChangeSpec.witness6 (enc := enc) (C := Try.checked) false ⟨#[], #[.agg #[.int .i64 0, .int .i64 0, .int .i64 0, .int .i64 0, .slice none 0 0, .slice none 0 0]], []⟩ 8 (by kernel_rfl) (by kernel_rfl) (by kernel_rfl) (by kernel_rfl)) ?_
  intro W base args ds gs before hval0 hW hcnd _
  have hval : ∀ (j : Nat) t v, Try.f5.params[j]? = some t → args[j]? = some v → Value.okWide Try.prog W .any base t v := hval0
  have hW' := hW
  obtain ⟨p, q, hA0, hV, rfl, hfz, hnd⟩ := hW
  have hA : DataW.TrodAll enc Try.prog W 0 (fun _ => true) true Try.f5.params.toList args.toList ds p := hA0
  rw [Try.params5] at hA hval
  obtain ⟨v0, vs0, d0, ds0, p0, q0, hargs, rfl, rfl, h0, r0⟩ := trodAll_cons hA
  obtain ⟨rfl, rfl, rfl⟩ := trodAll_nil r0
  obtain rfl : args = #[v0] := by cases args; simp_all
  obtain ⟨rfl, rfl⟩ := trodVars_none hV
  have lt0 : ∀ x ∈ p0, x.block < W.heap.size := by obtain ⟨m, hm⟩ := h0; exact DataW.trod_lt m _ _ _ hm
  have k0 := h0
  obtain ⟨t, A, ca, D, cd, rfl, hA0, hD0, hr0, hs0, hl0, he0, hw0⟩ := open_table (hval 0 28 v0 rfl rfl) h0
  clear hA0 hval0
  refine (zsetRows_any t A ca D cd W hl0 he0 hr0 hs0).mono fun e W' ⟨he, bel⟩ => ?_
  subst he
  exact ⟨_, rfl, _, _, _, [], _, [], hW', trodAll_mk1 (shut_bool Try.underlying4 _),
    (trodAll_cons_mk (Below.trod laidAll (by kernel_rfl) (of_decide_eq_true (by kernel_rfl)) k0 bel lt0) trodAll_mk0), rfl, bel.frame _, fun h => by cases h⟩

theorem zsetRows_holds : Rows.ZsetRowsSaid :=
  OpenClaim.holds_of_wide 5 Try.f5 rfl rfl rfl rfl rfl rfl rfl ⟨rfl, rfl, rfl, rfl, rfl⟩ rfl rfl rfl rfl rfl (by kernel_rfl) Try.func5 (by kernel_rfl)
    (of_decide_eq_true (by kernel_rfl)) (by unfold Func.isWrapper; first | (rw [if_pos (by decide +kernel)]; kernel_rfl) | (rw [if_neg (by decide +kernel)]; exact ⟨rfl, rfl⟩))
    (fun os started H enc _ => zsetRows_lifted os started H enc)

#print axioms zsetRows_holds
end Go.Proofs.Ytjgefnipkaecgac
