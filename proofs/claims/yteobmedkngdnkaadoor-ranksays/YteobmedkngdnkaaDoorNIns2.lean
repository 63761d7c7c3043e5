/-
  slices.Insert where there is no room, and at the end.
-/
import Derived.Test.YteobmedkngdnkaaDoorNIns
import Derived.Lib.AppendZerosOnto
namespace Go.Proofs.YteobmedkngdnkaaDoor
open Go.RowKit Go.Sort Go.Lib

set_option maxRecDepth 100000 in
set_option maxHeartbeats 4000000 in
/-- There is no room: a new list. -/
theorem ins_grow (L : List Itm) (x : Itm) (g cap i vb : Nat) (base : Nat) (w : World) (hown : OwnG encW 1 23 w base (.slice (some ⟨g, 0, none⟩) L.length cap) L) (hi : i < L.length) (hroom : cap < L.length + 1) (hbig : (L.length + 1) * 24 ≤ 140737488355328) (hv : w.heap[vb]? = some (.cells #[x.v] 23 (0, 0))) (hbase : base ≤ w.heap.size) :
    Calls Tryd.prog 20 #[.slice (some ⟨g, 0, none⟩) L.length cap, .int .i64 i, .slice (some ⟨vb, 0, none⟩) 1 1] w fun e w' => ∃ G, e = .returned (.slice (some ⟨w.heap.size, 0, none⟩) (L.length + 1) G) ∧ OwnG encW 1 23 w' base (.slice (some ⟨w.heap.size, 0, none⟩) (insL L i x).length G) (insL L i x) ∧ Below w.heap.size w w' := by
  have mixed : Tryd.prog.follows .mixedOrders = true := by kernel_rfl
  obtain ⟨cur, hg, hb, hs, hle, hcm, hcs0⟩ := ownW_cells hown
  obtain ⟨cs, hcse⟩ : ∃ cs, L.map Itm.v = cs := ⟨_, rfl⟩
  rw [hcse] at hcs0
  have hcsj : ∀ j (h : j < L.length), cs[j]? = some L[j].v := fun j h => by rw [← hcse, List.getElem?_map, List.getElem?_eq_getElem h]; rfl
  obtain ⟨n, hn⟩ : ∃ n, L.length = n := ⟨_, rfl⟩
  have hcl : cs.length = n := by rw [← hcse, List.length_map, hn]
  obtain ⟨i0, hi0, hz0, hzs, hzb⟩ := info_parts Tryd.infoW
  have hsz : (Tryd.prog.info? 23).map (·.size) = some 1 := by kernel_rfl
  have h1c : ∀ v ∈ cs, v.oneCell' = true := fun v hv => by
    rw [← hcse] at hv
    obtain ⟨y, _, rfl⟩ := List.mem_map.1 hv
    rfl
  have hvs : w.cell? ⟨vb, 0, none⟩ = some x.v := by rw [Lib.cell_of_heap hv]; rfl
  have hbw : g < w.heap.size := (Array.getElem?_eq_some_iff.1 hg).1
  have hvw : vb < w.heap.size := (Array.getElem?_eq_some_iff.1 hv).1
  rw [hn] at hi hroom hbig hle ⊢
  have hkk : (n : Int) + 1 - (i : Int) = ((n + 1 - i : Nat) : Int) := by omega
  have hik : i + (n + 1 - i) = n + 1 := by omega
  have hold : (Builtin.firstCells i0.size i (.slice (some ⟨g, 0, none⟩) i cap)).run Tryd.prog w.drew = .ok (cs.take i).toArray w.drew := by
    rw [hzs]
    exact run_firstCells_some w.drew 1 i ⟨g, 0, none⟩ i cap (cs.take i) (by rw [List.length_take]; omega) (fun j v hj => by
      rw [Addr.add_lit, Nat.zero_add]
      rw [List.getElem?_take] at hj
      split at hj
      · exact hcs0 j v hj
      · cases hj)
  have hrz : ∀ ty, (Builtin.append_ #[24, 3] ty #[.slice (some ⟨g, 0, none⟩) i cap, .int .i64 ((n : Int) + 1 - (i : Int))]).run Tryd.prog w =
      .ok (.slice (some ⟨w.heap.size, 0, none⟩) (n + 1) (grownCap w (n + 1) cap 23)) (w.drew.alloc (.cells ((cs.take i).toArray ++ Builtin.zeroCells (Value.slice none 0 0).cells (n + 1 - i) ++ Builtin.zeroCells (Value.slice none 0 0).cells (grownCap w (n + 1) cap 23 - (n + 1))) 23)) := fun ty => by
    have h := Lib.run_append_grow_zeros w 24 3 ty 23 i0 _ .i64 .i64 Tryd.underlying24 Tryd.underlying3 hi0 hz0 (some ⟨g, 0, none⟩) i cap (cs.take i) hold (n + 1 - i) (by omega) (by omega) (by omega) (by omega) (by rw [hzb]; omega) (by rw [hzb, hik]; exact growslice_fits hroom hbig)
    rw [hik] at h
    rw [hkk]
    exact h
  obtain ⟨G, hG⟩ : ∃ G, G = grownCap w (n + 1) cap 23 := ⟨_, rfl⟩
  obtain ⟨ROW, hROW⟩ : ∃ ROW : Array Value, ROW = (cs.take i).toArray ++ Builtin.zeroCells (Value.slice none 0 0).cells (n + 1 - i) ++ Builtin.zeroCells (Value.slice none 0 0).cells (G - (n + 1)) := ⟨_, rfl⟩
  rw [← hG] at hrz
  rw [← hROW] at hrz
  have hGn : n + 1 ≤ G := by rw [hG]; exact grownCap_ge w _ _ _
  have hGm : G ≤ maxLen := by rw [hG]; exact grownCap_le_maxLen w (n + 1) cap 23 (by unfold maxLen; omega)
  have hG63 : G ≤ 9223372036854775807 := by unfold maxLen at hGm; omega
  have hRs : ROW.size = G := by
    rw [hROW]
    simp [Builtin.zeroCells, Value.cells]
    omega
  obtain ⟨W1, hW1⟩ : ∃ W1, W1 = w.drew.alloc (.cells ROW 23) := ⟨_, rfl⟩
  rw [← hW1] at hrz
  have hN : ∀ j, j < n + 1 → (W1.cell? ⟨w.heap.size, j, none⟩).isSome = true := fun j hj => by
    rw [hW1, World.cell?_alloc_at (w := w.drew) ROW _ w.heap.size j rfl, Array.getElem?_eq_getElem (by omega)]; rfl
  have hNf : ∀ j, W1.frozen? ⟨w.heap.size, j, none⟩ = false := fun j => by rw [hW1]; exact World.frozen?_alloc_at (w := w.drew) ROW _ w.heap.size j rfl
  have hOb : ∀ j v, w.cell? ⟨g, j, none⟩ = some v → W1.cell? ⟨g, j, none⟩ = some v := fun j v h => by rw [hW1, World.cell?_alloc_past (w := w.drew) _ g j hbw]; exact h
  have hOv : ∀ j v, w.cell? ⟨vb, j, none⟩ = some v → W1.cell? ⟨vb, j, none⟩ = some v := fun j v h => by rw [hW1, World.cell?_alloc_past (w := w.drew) _ vb j hvw]; exact h
  have hcpA : ∀ ty dc, (Builtin.copy_ #[24, 24] ty #[.slice (some ⟨w.heap.size, i, none⟩) (n + 1 - i) dc, .slice (some ⟨vb, 0, none⟩) 1 1]).run Tryd.prog W1 = .ok (goInt [x.v].length) (W1.setCells w.heap.size i [x.v]) := fun ty dc =>
    run_copy_cells W1 _ _ ty 23 w.heap.size i (n + 1 - i) dc ⟨vb, 0, none⟩ 1 1 [x.v] Tryd.underlying24 hsz (by simp only [List.length_cons, List.length_nil, Nat.min_def]; split <;> omega)
      (fun j v hj => by
        rw [Addr.add_lit]
        match j, hj with
        | 0, hj => rw [← hj]; exact hOv _ _ hvs
        | j + 1, hj => simp at hj)
      (fun j hj => hN _ (by simp at hj; omega)) (fun j hj => hNf _) (fun v hv => by rw [List.mem_singleton.1 hv]; rfl)
  obtain ⟨W2, hW2⟩ : ∃ W2, W2 = W1.setCells w.heap.size i [x.v] := ⟨_, rfl⟩
  rw [← hW2] at hcpA
  have hgN : g ≠ w.heap.size := by omega
  have hdl : (cs.drop i).length = n - i := by rw [List.length_drop, hcl]
  have hN2 : ∀ j, j < n + 1 → (W2.cell? ⟨w.heap.size, j, none⟩).isSome = true := fun j hj => by
    rw [hW2]
    exact isSome_setCells w.heap.size [x.v] i W1 (fun t ht => hN _ (by simp at ht; omega)) _ (hN j hj)
  have hcpB : ∀ ty dc sc, (Builtin.copy_ #[24, 24] ty #[.slice (some ⟨w.heap.size, i + 1, none⟩) (n - i) dc, .slice (some ⟨g, i, none⟩) (n - i) sc]).run Tryd.prog W2.drew = .ok (goInt (cs.drop i).length) (W2.drew.setCells w.heap.size (i + 1) (cs.drop i)) := fun ty dc sc =>
    run_copy_cells W2.drew _ _ ty 23 w.heap.size (i + 1) (n - i) dc ⟨g, i, none⟩ (n - i) sc (cs.drop i) Tryd.underlying24 hsz (by rw [hdl]; simp only [Nat.min_def]; split <;> omega)
      (fun j v hj => by
        rw [Addr.add_lit]
        show W2.cell? _ = _
        rw [hW2, World.cell?_setCells_out _ _ _ _ _ (fun h _ => absurd h hgN)]
        exact hOb _ v (hcs0 (i + j) v (by rwa [List.getElem?_drop] at hj)))
      (fun j hj => hN2 _ (by rw [hdl] at hj; omega))
      (fun j hj => by show W2.frozen? _ = _; rw [hW2, World.frozen?_setCells]; exact hNf _) (fun v hv => h1c v (List.mem_of_mem_drop hv))
  obtain ⟨W3, hW3⟩ : ∃ W3, W3 = W2.drew.setCells w.heap.size (i + 1) (cs.drop i) := ⟨_, rfl⟩
  rw [← hW3] at hcpB
  have hfin : Hid (OwnG encW 1 23 W3 base (.slice (some ⟨w.heap.size, 0, none⟩) (insL L i x).length G) (insL L i x) ∧ Below w.heap.size w W3) := by
    have hg1 : W1.heap[w.heap.size]? = some (.cells ROW 23 (0, 0)) := by rw [hW1]; exact heap_alloc_new w.drew _
    obtain ⟨c2, k1, k2⟩ := setCells_block [x.v] i W1 ROW hg1
    rw [← hW2] at k1
    have k1' : W2.drew.heap[w.heap.size]? = some (.cells c2 23 (0, 0)) := k1
    obtain ⟨c3, k3, k4⟩ := setCells_block (cs.drop i) (i + 1) W2.drew c2 k1'
    rw [← hW3] at k3
    have hlen := insL_len (x := x) (show i ≤ L.length by omega)
    refine ⟨ownW_of k3 hbase (by omega) (by omega) hGm (fun j hj => ?_), ?_⟩
    · by_cases e1 : i < j
      · rw [insL_gt (by omega) (by omega), hW3]
        have h2 := World.cell?_setCells_in w.heap.size (cs.drop i) (i + 1) W2.drew (fun t ht => hN2 _ (by omega)) (j - (i + 1)) (by omega)
        rw [show i + 1 + (j - (i + 1)) = j by omega] at h2
        rw [h2]
        congr 1
        rw [List.getElem_drop]
        have h3 : cs[i + (j - (i + 1))]? = some (L[j - 1]'(by omega)).v := by rw [show i + (j - (i + 1)) = j - 1 by omega]; exact hcsj (j - 1) (by omega)
        rw [List.getElem?_eq_getElem (by omega)] at h3
        exact Option.some.inj h3
      · rw [hW3, World.cell?_setCells_out w.heap.size _ _ _ ⟨w.heap.size, j, none⟩ (fun _ _ => Or.inl (by show j < i + 1; omega))]
        show W2.cell? _ = _
        by_cases e2 : j = i
        · subst e2
          rw [insL_at (by omega), hW2]
          have := World.cell?_setCells_in w.heap.size [x.v] j W1 (fun t ht => by simp at ht; subst ht; exact hN _ (by omega)) 0 (by simp)
          simpa using this
        · rw [insL_lt (by omega) (by omega), hW2, World.cell?_setCells_out w.heap.size [x.v] i W1 ⟨w.heap.size, j, none⟩ (fun _ _ => Or.inl (by show j < i; omega)), hW1, World.cell?_alloc_at (w := w.drew) ROW _ w.heap.size j rfl, hROW]
          have h3 := hcsj j (by omega)
          rw [Array.append_assoc, Array.getElem?_append_left (by simp; omega), List.getElem?_toArray, List.getElem?_take, if_pos (by omega)]
          exact h3
    · have hb1 : Below w.heap.size w W1 := by rw [hW1]; exact ((Gr.refl w).drew.alloc _).below
      have h2 := grown_setCells (g := w.heap.size) [x.v] i W1
      rw [← hW2] at h2
      have h3 := grown_setCells (g := w.heap.size) (cs.drop i) (i + 1) W2.drew
      rw [← hW3] at h3
      have hne : ∀ {k : Nat}, k < w.heap.size → some k ≠ some w.heap.size := fun hk e => by injection e with e; omega
      refine ⟨h3.os.trans (h2.os.trans hb1.os), h3.tape.trans (h2.tape.trans hb1.tape), h3.output.trans (h2.output.trans hb1.output), Nat.le_trans hb1.size (Nat.le_trans h2.size h3.size), fun k hk => ?_⟩
      have q1 := h3.block k (Nat.lt_of_lt_of_le hk (Nat.le_trans hb1.size h2.size)) (hne hk)
      have q2 := h2.block k (Nat.lt_of_lt_of_le hk hb1.size) (hne hk)
      exact q1.trans (q2.trans (hb1.block k hk))
  have hz2 : ¬ ((i : Int) = (n : Int)) := by omega
  have hz3 : (cap : Int) < (n : Int) + 1 := by omega
  have hw1 : IntKind.i64.wrap ((i : Int) + 1) = (i : Int) + 1 := by rw [IntKind.wrap_i64]; omega
  have hw2 : IntKind.i64.wrap ((n : Int) + 1) = (n : Int) + 1 := by rw [IntKind.wrap_i64]; omega
  have hb1 : (0 : Int) ≤ (i : Int) + 1 := by omega
  have hin : i ≤ n := by omega
  have hicap : i ≤ cap := by omega
  have htn : ((i : Int) + 1).toNat = i + 1 := by omega
  have hb3 : (i : Int) ≤ (n : Int) := by omega
  have hb4 : (i : Int) ≤ (cap : Int) := by omega
  have hGi : ¬ (G = i) := by omega
  have hGim : ¬ (G = i + 1) := by omega
  have hci : ¬ (cap = i) := by omega
  have hb5 : (i : Int) ≤ (n : Int) + 1 := by omega
  have hb6 : (i : Int) + 1 ≤ (n : Int) + 1 := by omega
  clear hown hg hv hcse hcs0 hcsj h1c hvs hcl hdl hW1 hW2 hW3 hkk hik hold hROW hG hN hNf hOb hOv hN2 hRs
  go_enter Tryd.func20, Tryd.ntmps20
  go_wp2_with (first
    | (at_builtin; refine Lib.wpList_append_run _ rfl _ _ _ _ rfl _ _ rfl rfl _ _ (hrz _) ?_)
    | (at_builtin; refine wpList_copy_runI _ rfl _ _ 24 24 rfl _ _ rfl rfl (hcpA _ _) ?_))
  go_region_law_o (refine step_copy_runI rfl _ _ 24 24 rfl _ _ (by simp [Act.eval, Act.put]) (by simp [Act.eval, Act.put]) (hcpB _ _ _) ?_)
  go_wp2
  go_ret
  exact ⟨G, rfl, hfin.out⟩
end Go.Proofs.YteobmedkngdnkaaDoor
