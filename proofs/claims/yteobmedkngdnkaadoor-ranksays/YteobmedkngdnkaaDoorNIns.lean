/-
  slices.Insert of one row into a list of rows of the call's own.
-/
import Derived.Test.YteobmedkngdnkaaDoorNFirst
import Derived.Shelf.Spec.SlicesInsert
namespace Go.Proofs.YteobmedkngdnkaaDoor
open Go.RowKit Go.Sort Go.Lib

theorem setCell_block {w : World} {g o : Nat} {v : Value} {cur : Array Value} {e : TypeId} {m : Nat × Nat} (hg : w.heap[g]? = some (.cells cur e m)) : (w.setCell ⟨g, o, none⟩ v).heap[g]? = some (.cells (cur.setIfInBounds o v) e m) := by
  have hlt : g < w.heap.size := (Array.getElem?_eq_some_iff.1 hg).1
  have h' : w.heap[g] = .cells cur e m := by simpa [Array.getElem?_eq_getElem hlt] using hg
  show (w.heap.modify g _)[g]? = _
  rw [Array.getElem?_eq_getElem (by simpa using hlt), Array.getElem_modify_self, h']
  rfl
theorem setCells_block {g : Nat} {e : TypeId} {m : Nat × Nat} : ∀ (vs : List Value) (o : Nat) (w : World) (cur : Array Value), w.heap[g]? = some (.cells cur e m) → ∃ cur', (w.setCells g o vs).heap[g]? = some (.cells cur' e m) ∧ cur'.size = cur.size
  | [], _, _, cur, h => ⟨cur, h, rfl⟩
  | v :: r, o, w, cur, h => by
    obtain ⟨c, h1, h2⟩ := setCells_block r (o + 1) (w.setCell ⟨g, o, none⟩ v) _ (setCell_block h)
    exact ⟨c, h1, by rw [h2]; simp⟩
theorem grown_setCells {g : Nat} : ∀ (vs : List Value) (o : Nat) (w : World), w.grownBy (w.setCells g o vs) (some g)
  | [], _, w => ⟨rfl, rfl, rfl, Nat.le_refl _, fun _ _ _ => rfl⟩
  | v :: r, o, w => by
    have h := grown_setCells (g := g) r (o + 1) (w.setCell ⟨g, o, none⟩ v)
    refine ⟨h.os, h.tape, h.output, Nat.le_trans (by simp) h.size, fun k hk hne => ?_⟩
    rw [World.setCells, h.block k (by simpa using hk) hne]
    exact Below.heap_setCell _ _ _ _ (fun e => hne (by rw [e]))
/-- A row is put in. -/
def insL (L : List Itm) (i : Nat) (x : Itm) : List Itm := L.take i ++ x :: L.drop i
theorem insL_len {L : List Itm} {i : Nat} {x : Itm} (hi : i ≤ L.length) : (insL L i x).length = L.length + 1 := by
  unfold insL
  rw [List.length_append, List.length_cons, List.length_take, List.length_drop]
  omega
theorem insL_lt {L : List Itm} {i j : Nat} {x : Itm} (hj : j < i) (hl : j < L.length) (h : j < (insL L i x).length) : (insL L i x)[j] = L[j] := by
  have h' : j < (L.take i ++ x :: L.drop i).length := h
  show (L.take i ++ x :: L.drop i)[j]'h' = _
  rw [List.getElem_append_left (by rw [List.length_take]; omega), List.getElem_take]
theorem insL_at {L : List Itm} {i : Nat} {x : Itm} (hl : i ≤ L.length) (h : i < (insL L i x).length) : (insL L i x)[i] = x := by
  have h' : i < (L.take i ++ x :: L.drop i).length := h
  show (L.take i ++ x :: L.drop i)[i]'h' = _
  rw [List.getElem_append_right (by rw [List.length_take]; omega)]
  simp [List.length_take, Nat.min_eq_left hl]
theorem insL_gt {L : List Itm} {i j : Nat} {x : Itm} (hj : i < j) (hl : j - 1 < L.length) (h : j < (insL L i x).length) : (insL L i x)[j] = L[j - 1] := by
  have h' : j < (L.take i ++ x :: L.drop i).length := h
  show (L.take i ++ x :: L.drop i)[j]'h' = _
  rw [List.getElem_append_right (by rw [List.length_take]; omega)]
  have e : j - (L.take i).length = (j - i - 1) + 1 := by rw [List.length_take]; omega
  simp only [e, List.getElem_cons_succ, List.getElem_drop]
  congr 1
  omega
theorem flatW (L : List Itm) : flatG encW L = L.map Itm.v := by
  induction L with
  | nil => rfl
  | cons x t ih =>
    show encW x ++ flatG encW t = _
    rw [ih]
    rfl
theorem ownW_of {w : World} {base g cap : Nat} {cur : Array Value} {L : List Itm} (hg : w.heap[g]? = some (.cells cur 23 (0, 0))) (hb : base ≤ g) (hs : cur.size = cap) (hl : L.length ≤ cap) (hm : cap ≤ maxLen) (hc : ∀ j (h : j < L.length), w.cell? ⟨g, j, none⟩ = some L[j].v) : OwnG encW 1 23 w base (.slice (some ⟨g, 0, none⟩) L.length cap) L := by
  refine ⟨flatG_length encW_len _, .inr ⟨g, cap, cur, rfl, hb, hg, hl, hm, by omega, ?_⟩⟩
  rw [flatW]
  apply List.ext_getElem?
  intro j
  rw [List.getElem?_take, List.getElem?_map]
  by_cases hj : j < L.length
  · rw [if_pos (by omega), List.getElem?_eq_getElem hj]
    have := hc j hj
    rw [Lib.cell_of_heap hg] at this
    rw [Array.getElem?_toList, this]
    rfl
  · rw [if_neg (by omega), List.getElem?_eq_none (by omega)]
    rfl
theorem ownW_cells {w : World} {base g cap : Nat} {L : List Itm} (h : OwnG encW 1 23 w base (.slice (some ⟨g, 0, none⟩) L.length cap) L) : ∃ cur, w.heap[g]? = some (.cells cur 23 (0, 0)) ∧ base ≤ g ∧ cur.size = cap ∧ L.length ≤ cap ∧ cap ≤ maxLen ∧ ∀ j v, (L.map Itm.v)[j]? = some v → w.cell? ⟨g, j, none⟩ = some v := by
  have hc := h.cells (g := g) rfl
  rcases h.2 with ⟨hv, _⟩ | ⟨g', cap', cur, hv, hb, hg, hl, hm, hs, _⟩
  · cases hv
  · injection hv with h1 h2 h3
    injection h1 with h1
    injection h1 with h1
    subst h1 h3
    refine ⟨cur, hg, hb, by omega, hl, hm, fun j v hj => ?_⟩
    rw [← flatW] at hj
    have := hc j v hj
    rw [Addr.add_lit] at this
    simpa using this

set_option maxRecDepth 100000 in
set_option maxHeartbeats 4000000 in
/-- There is room: in place. -/
theorem ins_shift (L : List Itm) (x : Itm) (g cap i vb : Nat) (base : Nat) (w : World) (hown : OwnG encW 1 23 w base (.slice (some ⟨g, 0, none⟩) L.length cap) L) (hi : i < L.length) (hroom : L.length + 1 ≤ cap) (hvb : vb ≠ g) (hv : w.heap[vb]? = some (.cells #[x.v] 23 (0, 0))) :
    Calls Tryd.prog 20 #[.slice (some ⟨g, 0, none⟩) L.length cap, .int .i64 i, .slice (some ⟨vb, 0, none⟩) 1 1] w fun e w' => e = .returned (.slice (some ⟨g, 0, none⟩) (L.length + 1) cap) ∧ OwnG encW 1 23 w' base (.slice (some ⟨g, 0, none⟩) (insL L i x).length cap) (insL L i x) ∧ w.grownBy w' (some g) := by
  have mixed : Tryd.prog.follows .mixedOrders = true := by kernel_rfl
  obtain ⟨cur, hg, hb, hs, hle, hcm, hcs0⟩ := ownW_cells hown
  obtain ⟨cs, hcse⟩ : ∃ cs, L.map Itm.v = cs := ⟨_, rfl⟩
  rw [hcse] at hcs0
  have hcsj : ∀ j (h : j < L.length), cs[j]? = some L[j].v := fun j h => by rw [← hcse, List.getElem?_map, List.getElem?_eq_getElem h]; rfl
  obtain ⟨n, hn⟩ : ∃ n, L.length = n := ⟨_, rfl⟩
  have hcl : cs.length = n := by rw [← hcse, List.length_map, hn]
  have hsz : (Tryd.prog.info? 23).map (·.size) = some 1 := by kernel_rfl
  have hsp : ∀ j, j < cap → (w.cell? ⟨g, j, none⟩).isSome = true := fun j hj => by rw [Lib.cell_of_heap hg, Array.getElem?_eq_getElem (by omega)]; rfl
  have hfz : ∀ j, w.frozen? ⟨g, j, none⟩ = false := fun j => by
    have := World.ownsRow.frozenAt (w := w) hown (g := g) (cap := cap) j
    exact this
  have h1c : ∀ v ∈ cs, v.oneCell' = true := fun v hv => by
    rw [← hcse] at hv
    obtain ⟨y, _, rfl⟩ := List.mem_map.1 hv
    rfl
  have hvs : w.cell? ⟨vb, 0, none⟩ = some x.v := by rw [Lib.cell_of_heap hv]; rfl
  have hc63 : cap ≤ 9223372036854775807 := by unfold maxLen at hcm; omega
  rw [hn] at hi hroom ⊢
  have hdl : (cs.drop i).length = n - i := by rw [List.length_drop, hcl]
  have hov : ∀ lb cb, (callFunc 32 #[.slice (some ⟨vb, 0, none⟩) 1 1, .slice (some ⟨g, i + 1, none⟩) lb cb]).run Tryd.prog w = .ok (.value (.bool false)) w := fun lb cb => by
    rw [run_callFunc_extern Tryd.func32 (by kernel_rfl) (by kernel_rfl) (by kernel_rfl) (e := Extern.SlicesOverlaps.overlaps #[24, 24] #[4]) (by kernel_rfl),
      Lib.run_overlaps_apart w 24 4 23 Tryd.underlying24 1 Tryd.sizeOf23 ⟨vb, 0, none⟩ ⟨g, i + 1, none⟩ 1 1 lb cb hvb 23 23 1 cap (by unfold World.shape?; rw [hv]; rfl) (by unfold World.shape?; rw [hg]; simp [hs]) (by omega) (by unfold World.frozen?; rw [hv]; rfl) (by unfold World.frozen?; rw [hv]; rfl)]
    rfl
  have hw1 : IntKind.i64.wrap ((i : Int) + 1) = (i : Int) + 1 := by rw [IntKind.wrap_i64]; omega
  have hw2 : IntKind.i64.wrap ((n : Int) + 1) = (n : Int) + 1 := by rw [IntKind.wrap_i64]; omega
  have hz2 : ¬ ((i : Int) = (n : Int)) := by omega
  have hz3 : ¬ (cap : Int) < (n : Int) + 1 := by omega
  have hin : i ≤ n := by omega
  have htn : ((i : Int) + 1).toNat = i + 1 := by omega
  have htn2 : ((n : Int) + 1).toNat = n + 1 := by omega
  have hb1 : (0 : Int) ≤ (i : Int) + 1 := by omega
  have hb2 : ¬ (cap = i + 1) := by omega
  have hb3 : (i : Int) ≤ (n : Int) + 1 := by omega
  have hb4 : ¬ (cap = i) := by omega
  have hcp1 : ∀ ty dc sc, (Builtin.copy_ #[24, 24] ty #[.slice (some ⟨g, i + 1, none⟩) (n - i) dc, .slice (some ⟨g, i, none⟩) (n + 1 - i) sc]).run Tryd.prog w.drew = .ok (goInt (cs.drop i).length) (w.drew.setCells g (i + 1) (cs.drop i)) := fun ty dc sc =>
    run_copy_cells w.drew _ _ ty 23 g (i + 1) (n - i) dc ⟨g, i, none⟩ (n + 1 - i) sc (cs.drop i) Tryd.underlying24 hsz (by rw [hdl]; simp only [Nat.min_def]; split <;> omega)
      (fun j v hj => by rw [Addr.add_lit]; exact hcs0 (i + j) v (by rwa [List.getElem?_drop] at hj))
      (fun j hj => hsp _ (by omega)) (fun j hj => hfz _) (fun v hv => h1c v (List.mem_of_mem_drop hv))
  obtain ⟨W1, hW1⟩ : ∃ W1, W1 = w.drew.setCells g (i + 1) (cs.drop i) := ⟨_, rfl⟩
  have hsp1 : ∀ k, k < cap → (W1.cell? ⟨g, k, none⟩).isSome = true := fun k hk => by
    rw [hW1]
    exact isSome_setCells g (cs.drop i) (i + 1) w.drew (fun j hj => hsp _ (by rw [hdl] at hj; omega)) _ (hsp k hk)
  have hcp2 : ∀ ty dc, (Builtin.copy_ #[24, 24] ty #[.slice (some ⟨g, i, none⟩) (n + 1 - i) dc, .slice (some ⟨vb, 0, none⟩) 1 1]).run Tryd.prog W1 = .ok (goInt [x.v].length) (W1.setCells g i [x.v]) := fun ty dc =>
    run_copy_cells W1 _ _ ty 23 g i (n + 1 - i) dc ⟨vb, 0, none⟩ 1 1 [x.v] Tryd.underlying24 hsz (by simp only [List.length_cons, List.length_nil, Nat.min_def]; split <;> omega)
      (fun j v hj => by
        rw [Addr.add_lit, hW1, World.cell?_setCells_out g _ _ _ _ (fun h _ => absurd h hvb)]
        match j, hj with
        | 0, hj => rw [← hj]; exact hvs
        | j + 1, hj => simp at hj)
      (fun j hj => hsp1 _ (by simp at hj; omega)) (fun j hj => by rw [hW1, World.frozen?_setCells]; exact hfz _) (fun v hv => by rw [List.mem_singleton.1 hv]; rfl)
  have hfin : Hid (OwnG encW 1 23 (W1.setCells g i [x.v]) base (.slice (some ⟨g, 0, none⟩) (insL L i x).length cap) (insL L i x) ∧ w.grownBy (W1.setCells g i [x.v]) (some g)) := by
    have hgd : w.drew.heap[g]? = some (.cells cur 23 (0, 0)) := hg
    obtain ⟨c1, k1, k2⟩ := setCells_block (cs.drop i) (i + 1) w.drew cur hgd
    rw [← hW1] at k1
    obtain ⟨c2, k3, k4⟩ := setCells_block [x.v] i W1 c1 k1
    have hlen := insL_len (x := x) (show i ≤ L.length by omega)
    refine ⟨ownW_of k3 hb (by omega) (by omega) hcm (fun j hj => ?_), ?_⟩
    · by_cases e1 : j = i
      · subst e1
        rw [insL_at (by omega)]
        have := World.cell?_setCells_in g [x.v] j W1 (fun t ht => by simp at ht; subst ht; exact hsp1 _ (by omega)) 0 (by simp)
        simpa using this
      · rw [World.cell?_setCells_out g [x.v] i W1 ⟨g, j, none⟩ (fun _ _ => by simp; omega), hW1]
        by_cases e2 : j < i
        · rw [insL_lt e2 (by omega), World.cell?_setCells_out g _ _ _ ⟨g, j, none⟩ (fun _ _ => Or.inl (by show j < i + 1; omega))]
          exact hcs0 j _ (hcsj j (by omega))
        · rw [insL_gt (by omega) (by omega)]
          have h2 := World.cell?_setCells_in g (cs.drop i) (i + 1) w.drew (fun t ht => hsp _ (by omega)) (j - (i + 1)) (by omega)
          rw [show i + 1 + (j - (i + 1)) = j by omega] at h2
          rw [h2]
          congr 1
          rw [List.getElem_drop]
          have h3 : cs[i + (j - (i + 1))]? = some (L[j - 1]'(by omega)).v := by rw [show i + (j - (i + 1)) = j - 1 by omega]; exact hcsj (j - 1) (by omega)
          rw [List.getElem?_eq_getElem (by omega)] at h3
          exact Option.some.inj h3
    · have h1 := grown_setCells (g := g) (cs.drop i) (i + 1) w.drew
      rw [← hW1] at h1
      have h2 := grown_setCells (g := g) [x.v] i W1
      exact ⟨h2.os.trans h1.os, h2.tape.trans h1.tape, h2.output.trans h1.output, Nat.le_trans h1.size h2.size, fun k hk hne => (h2.block k (Nat.lt_of_lt_of_le hk h1.size) hne).trans (h1.block k hk hne)⟩
  rw [← hW1] at hcp1
  clear hown hg hv hcse hcs0 hcsj hsp hfz h1c hvs hsp1 hcl hdl hW1
  go_enter Tryd.func20, Tryd.ntmps20
  go_wp2_with (simp only [hov])
  go_region_law_o (refine step_copy_runI rfl _ _ 24 24 rfl _ _ (by simp [Act.eval, Act.put]) (by simp [Act.eval, Act.put]) (hcp1 _ _ _) ?_)
  go_wp2_with (at_builtin; refine wpList_copy_runI _ rfl _ _ 24 24 rfl _ _ rfl rfl (hcp2 _ _) ?_)
  go_ret
  exact ⟨rfl, hfin.out⟩
end Go.Proofs.YteobmedkngdnkaaDoor
