/-
  What a Put and a Del do to a table that they are merged with: which cells it has then; which values and keys.
-/
import Derived.Test.YtjgefnipkaecgabKLatMath
import Derived.Test.YtjgefnipkaecgabTInts
namespace Go.Proofs.Ytjgefnipkaecgab
open Go.RowKit Go.Sort Go.Shelf Go.Lib

/-- Rising, each once: what onceL makes. -/
theorem compact_good {d : List Int} (hs : d.Pairwise (· ≤ ·)) : ∀ m, m ≤ d.length → (compactUpTo d.toArray m).Pairwise (· < ·) ∧ (∀ x, x ∈ compactUpTo d.toArray m ↔ ∃ j, ∃ h : j < d.length, j < m ∧ d[j] = x) := by
  intro m
  induction m with
  | zero =>
    intro _
    refine ⟨by simp [compactUpTo], fun x => ?_⟩
    simp [compactUpTo]
  | succ m ih =>
    intro hm
    obtain ⟨h1, h2⟩ := ih (by omega)
    have hmd : m < d.length := by omega
    have em : d.toArray[m]! = d[m] := by simp [hmd]
    rw [compactUpTo_succ]
    have hle : ∀ x ∈ compactUpTo d.toArray m, x ≤ d[m] := by
      intro x hx
      obtain ⟨j, hj, hjm, rfl⟩ := (h2 x).1 hx
      exact (List.pairwise_iff_getElem.1 hs) j m hj hmd hjm
    by_cases hk : keeps d.toArray m = true
    · rw [if_pos hk, em]
      refine ⟨?_, fun x => ?_⟩
      · rw [List.pairwise_append]
        refine ⟨h1, by simp, ?_⟩
        intro x hx y hy
        have hy' : y = d[m] := by simpa using hy
        subst hy'
        obtain ⟨j, hj, hjm, rfl⟩ := (h2 x).1 hx
        have hm1 : m - 1 < d.length := by omega
        have e1 : d.toArray[m - 1]! = d[m - 1] := by simp [hm1]
        have hne : d[m] ≠ d[m - 1] := by
          unfold keeps at hk
          have := of_decide_eq_true hk
          rcases this with k | k
          · omega
          · rw [em, e1] at k; exact k
        have a1 : d[j] ≤ d[m - 1] := by
          by_cases e : j = m - 1
          · subst e; exact Int.le_refl _
          · exact (List.pairwise_iff_getElem.1 hs) j (m - 1) hj hm1 (by omega)
        have a2 : d[m - 1] ≤ d[m] := (List.pairwise_iff_getElem.1 hs) (m - 1) m hm1 hmd (by omega)
        omega
      · rw [List.mem_append, h2]
        constructor
        · rintro (⟨j, hj, hjm, e⟩ | k)
          · exact ⟨j, hj, by omega, e⟩
          · exact ⟨m, hmd, by omega, (by simpa using k : x = d[m]).symm⟩
        · rintro ⟨j, hj, hjm, e⟩
          by_cases e2 : j = m
          · subst e2; exact Or.inr (by simp [e])
          · exact Or.inl ⟨j, hj, by omega, e⟩
    · rw [if_neg hk, List.append_nil]
      refine ⟨h1, fun x => ?_⟩
      rw [h2]
      constructor
      · rintro ⟨j, hj, hjm, e⟩; exact ⟨j, hj, by omega, e⟩
      · rintro ⟨j, hj, hjm, e⟩
        by_cases e2 : j = m
        · subst e2
          unfold keeps at hk
          have hk' : ¬ (j = 0 ∨ d.toArray[j]! ≠ d.toArray[j - 1]!) := fun k => hk (decide_eq_true k)
          have hj0 : j ≠ 0 := fun k => hk' (Or.inl k)
          have hm1 : j - 1 < d.length := by omega
          have e1 : d.toArray[j - 1]! = d[j - 1] := by simp [hm1]
          have he : d[j] = d[j - 1] := by
            by_cases k : d[j] = d[j - 1]
            · exact k
            · exact absurd (Or.inr (by rw [em, e1]; exact k)) hk'
          exact ⟨j - 1, hm1, by omega, by rw [← he]; exact e⟩
        · exact ⟨j, hj, by omega, e⟩
theorem once_good (l : List Int) : (onceL l).Pairwise (· < ·) ∧ ∀ x, x ∈ onceL l ↔ x ∈ l := by
  have hs : (l.mergeSort fun x y => decide (x ≤ y)).Pairwise (· ≤ ·) := by
    have := List.pairwise_mergeSort (le := fun x y : Int => decide (x ≤ y)) (by intro a b c h1 h2; simp only [decide_eq_true_eq] at *; omega) (by intro a b; simp only [Bool.or_eq_true, decide_eq_true_eq]; omega) l
    exact this.imp fun h => by simpa using h
  have h := compact_good hs _ (Nat.le_refl _)
  refine ⟨h.1, fun x => ?_⟩
  show x ∈ compactUpTo _ _ ↔ _
  rw [h.2]
  constructor
  · rintro ⟨j, hj, _, e⟩
    rw [← e]
    exact (List.mergeSort_perm l _).mem_iff.1 (List.getElem_mem hj)
  · intro hx
    obtain ⟨j, hj, e⟩ := List.getElem_of_mem ((List.mergeSort_perm l _).mem_iff.2 hx)
    exact ⟨j, hj, hj, e⟩
theorem rise_ext {l m : List Int} (hl : l.Pairwise (· < ·)) (hm : m.Pairwise (· < ·)) (h : ∀ x, x ∈ l ↔ x ∈ m) : l = m := by
  have nl : l.Nodup := hl.imp fun h e => by omega
  have nm : m.Nodup := hm.imp fun h e => by omega
  exact List.Perm.eq_of_pairwise (le := fun x y => x < y) (fun a b _ _ h1 h2 => by omega) hl hm ((List.perm_ext_iff_of_nodup nl nm).2 h)
theorem once_one {l : List Int} {v : Int} (h : ∀ x, x ∈ l ↔ x = v) : onceL l = [v] :=
  rise_ext (once_good l).1 (by simp) fun x => by rw [(once_good l).2, h]; simp
/-- One key less. -/
theorem once_less {l m : List Int} {k : Int} (hk : k ∈ l) (h : ∀ x, x ∈ m ↔ x ∈ l ∧ x ≠ k) : (onceL m).length + 1 = (onceL l).length := by
  have hl := once_good l
  have hm := once_good m
  have nl : (onceL l).Nodup := hl.1.imp fun h e => by omega
  have he : onceL m = (onceL l).erase k := by
    rw [nl.erase_eq_filter]
    refine rise_ext hm.1 (List.Pairwise.filter _ hl.1) fun x => ?_
    rw [hm.2, h, List.mem_filter, hl.2]
    simp
  have hkl : k ∈ onceL l := (hl.2 k).2 hk
  rw [he, List.length_erase_of_mem hkl]
  have := List.length_pos_of_mem hkl
  omega

theorem errT_edited (l : List Cel) : ∀ k, errT (editedTo l k) = 0 := by
  intro k
  induction k with
  | zero => show errT ⟨zeroC, []⟩ = 0; decide
  | succ k ih =>
    show errT (editT (editedTo l k) k _) = 0
    unfold editT
    by_cases h : editE (editedTo l k) k (l.getD k ((0, 0), 0, 0, 0)) = 0 ∧ mergeE (editedTo l k) (editD (editedTo l k) k (l.getD k ((0, 0), 0, 0, 0))) = 0
    · rw [if_pos h]; exact errT_merge h.2
    · rw [if_neg h]; exact ih

theorem makeE_rightK {l : List (Int × Int)} (hl : l.length ≤ 400) (h : ∀ x ∈ l, rightB x = true) : makeE l = 0 := by
  unfold makeE
  rw [if_neg (by omega), if_neg]
  rw [badL_not fun j hj => h _ (List.getElem_mem hj)]
  simp
theorem dotsOf_rightK {t : Tab} (h : errT t = 0) (p : Cel → Bool) : (dotsOf p t.e).length ≤ 400 ∧ ∀ x ∈ dotsOf p t.e, rightB x = true := by
  refine ⟨Nat.le_trans (dotsOf_len _ _) (errT_parts h).2.1, ?_⟩
  intro x hx
  obtain ⟨y, hy, rfl⟩ := List.mem_map.1 hx
  exact has_right (can_of_err (errT_parts h).1) (errT_has h (List.mem_filter.1 hy).1)
theorem make_has {l : List (Int × Int)} (hl : l.length ≤ 400) (h : ∀ x ∈ l, rightB x = true) : errC (makeC l) = 0 ∧ ∀ x, hasB (makeC l) x = true ↔ x ∈ l := by
  have hm : makeC l = foldS zeroC l := by unfold makeC; rw [if_pos (makeE_rightK hl h)]
  have hc : Can (foldS zeroC l) := foldS_can rfl (by decide) h
  refine ⟨?_, fun x => ?_⟩
  · rw [hm]
    refine err_of_can hc ?_
    unfold foldS
    have := foldTo_len zeroC (srt l) (srt l).length
    rw [srt_length] at this ⊢
    have hz : zeroC.l.length = 0 := rfl
    omega
  · rw [hm, foldS_has rfl h]
    constructor
    · rintro (k | k)
      · exfalso
        rcases (hasB_iff zeroC x).1 k with m | m
        · cases m
        · have h0 : clk zeroC x.1 = 0 := by unfold clk zeroC; simp
          have := m.2.2.1
          have := m.2.2.2
          omega
      · exact k
    · exact Or.inr
theorem mem_dots {t : Tab} (h : errT t = 0) {p : Cel → Bool} {y : Cel} (hy : y ∈ t.e) : y.1 ∈ dotsOf p t.e ↔ p y = true := by
  unfold dotsOf
  rw [List.mem_map]
  constructor
  · rintro ⟨z, hz, e⟩
    have := List.mem_filter.1 hz
    rw [← uniqT h y hy z this.1 e]; exact this.2
  · intro k; exact ⟨y, List.mem_filter.2 ⟨hy, k⟩, rfl⟩

/-- What is known of a Put that goes well. -/
theorem put_ok {t : Tab} {n key col v : Int} (h : putE t n key col v = 0) : ∃ N : Int × Int, putT t n key col v = ⟨(putT t n key col v).c, [(N, key, col, v)]⟩ ∧ N.1 = n ∧ hasB t.c N = false ∧ errT t = 0 ∧ errT (putT t n key col v) = 0 ∧ okPlace key col v = true ∧ ∀ x, hasB (putT t n key col v).c x = true ↔ x ∈ dotsOf (fitP key col) t.e ∨ x = N := by
  have hT : putT t n key col v = ⟨joinC (makeC (dotsOf (fitP key col) t.e)) (makeC [(nextA t.c n).1]), [((nextA t.c n).1, key, col, v)]⟩ := by unfold putT; rw [if_pos h]
  have hp : errT t = 0 ∧ okPlace key col v = true ∧ (nextA t.c n).2 = 0 ∧ makeE [(nextA t.c n).1] = 0 ∧ joinE (makeC (dotsOf (fitP key col) t.e)) (makeC [(nextA t.c n).1]) = 0 := by
    unfold putE at h
    by_cases h1 : errT t = 0
    · rw [if_neg (by simpa using h1)] at h
      cases h2 : okPlace key col v
      · rw [if_pos h2] at h; cases h
      · rw [if_neg (by simp [h2])] at h
        by_cases h3 : (nextA t.c n).2 = 0
        · rw [if_neg (by simpa using h3)] at h
          by_cases h4 : makeE (dotsOf (fitP key col) t.e) = 0
          · rw [if_neg (by simpa using h4)] at h
            by_cases h5 : makeE [(nextA t.c n).1] = 0
            · rw [if_neg (by simpa using h5)] at h
              exact ⟨h1, rfl, h3, h5, h⟩
            · rw [if_pos h5] at h; exact absurd h h5
          · rw [if_pos h4] at h; exact absurd h h4
        · rw [if_pos h3] at h; exact absurd h h3
    · rw [if_pos h1] at h; exact absurd h h1
  obtain ⟨h1, h2, h3, h4, h5⟩ := hp
  have hnn := next_new h3
  have hNr : rightB (nextA t.c n).1 = true := by
    unfold makeE at h4
    by_cases hb : badL [(nextA t.c n).1] = true
    · simp [hb] at h4
    · cases hr : rightB (nextA t.c n).1
      · exact absurd (by unfold badL; simp [hr]) hb
      · rfl
  have hd := dotsOf_rightK h1 (fitP key col)
  have m1 := make_has hd.1 hd.2
  have m2 := make_has (l := [(nextA t.c n).1]) (by simp) (by simpa using hNr)
  have hhas : ∀ x, hasB (joinC (makeC (dotsOf (fitP key col) t.e)) (makeC [(nextA t.c n).1])) x = true ↔ x ∈ dotsOf (fitP key col) t.e ∨ x = (nextA t.c n).1 := by
    intro x
    rw [(join_can h5).2.2.2, m1.2, m2.2]
    simp
  refine ⟨(nextA t.c n).1, by rw [hT], hnn.1, hnn.2, h1, ?_, h2, by rw [hT]; exact hhas⟩
  rw [hT]
  refine errT_of (join_can h5).2.1 (by simp) (by simp [Asc]) fun x hx => ?_
  have hx' : x = ((nextA t.c n).1, key, col, v) := by simpa using hx
  subst hx'
  exact ⟨(hhas _).2 (Or.inr rfl), h2⟩
/-- A Put, merged: there is room, or too little. -/
theorem put_room {t : Tab} {n key col v : Int} (h : putE t n key col v = 0) (h0 : mergeE t (putT t n key col v) ≠ 0) : mergeE t (putT t n key col v) = 2 := by
  obtain ⟨N, hT, hN, hNt, ht, hp, _, _⟩ := put_ok h
  have hcl : clashB t (putT t n key col v) = false := noclash.2 fun x hx y hy e => by
    rw [hT] at hy
    have hy' : y = (N, key, col, v) := by simpa using hy
    have := errT_has ht hx
    rw [← e, hy'] at this
    rw [hNt] at this; cases this
  have hj : joinE t.c (putT t n key col v).c = 0 ∨ joinE t.c (putT t n key col v).c = 2 := by
    unfold joinE errB
    rw [(errT_parts ht).1, (errT_parts hp).1]
    simp only [if_true]
    by_cases k : 400 < (joinF t.c (putT t n key col v).c).l.length
    · rw [if_pos k]; exact Or.inr rfl
    · rw [if_neg k]; exact Or.inl rfl
  unfold mergeE at h0 ⊢
  rw [ht, hp, hcl] at h0 ⊢
  rcases hj with hj | hj
  · rw [hj] at h0 ⊢
    by_cases k : 400 < (mrg t (putT t n key col v)).length
    · simp [k]
    · simp [k] at h0
  · rw [hj]; simp
/-- The cells behind a Put. -/
theorem put_cells {t : Tab} {n key col v : Int} (h : putE t n key col v = 0) (h0 : mergeE t (putT t n key col v) = 0) : ∃ N : Int × Int, hasB t.c N = false ∧ N.1 = n ∧ ∀ y, y ∈ (mergeT t (putT t n key col v)).e ↔ (y ∈ t.e ∧ fitP key col y = false) ∨ y = (N, key, col, v) := by
  obtain ⟨N, hT, hN, hNt, ht, hp, _, hhas⟩ := put_ok h
  obtain ⟨_, _, hcl, _, _⟩ := mergeE_parts h0
  refine ⟨N, hNt, hN, fun y => ?_⟩
  rw [mergeT_ok h0]
  show y ∈ mrg t _ ↔ _
  rw [mem_mrg hcl]
  have hpe : y ∈ (putT t n key col v).e ↔ y = (N, key, col, v) := by rw [hT]; simp
  rw [hpe]
  constructor
  · rintro (⟨k1, k2⟩ | ⟨k1, k2⟩ | ⟨k1, k2⟩)
    · exact Or.inr k2
    · refine Or.inl ⟨k1, ?_⟩
      cases hf : fitP key col y
      · rfl
      · have := (hhas y.1).2 (Or.inl ((mem_dots ht k1).2 hf))
        rw [k2] at this; cases this
    · exact Or.inr k1
  · rintro (⟨k1, k2⟩ | k1)
    · refine Or.inr (Or.inl ⟨k1, ?_⟩)
      cases hb : hasB (putT t n key col v).c y.1
      · rfl
      · rcases (hhas y.1).1 hb with m | m
        · rw [(mem_dots ht k1).1 m] at k2; cases k2
        · have := errT_has ht k1
          rw [m, hNt] at this; cases this
    · refine Or.inr (Or.inr ⟨k1, ?_⟩)
      rw [k1]; exact hNt
theorem mem_vals {key col : Int} {e : List Cel} {x : Int} : x ∈ valsOf key col e ↔ ∃ y ∈ e, fitP key col y = true ∧ y.2.2.2 = x := by
  unfold valsOf
  rw [List.mem_map]
  constructor
  · rintro ⟨y, hy, e⟩
    have := List.mem_filter.1 hy
    exact ⟨y, this.1, this.2, e⟩
  · rintro ⟨y, hy, hf, e⟩
    exact ⟨y, List.mem_filter.2 ⟨hy, hf⟩, e⟩
theorem put_vals {t : Tab} {n key col v : Int} (h : putE t n key col v = 0) (h0 : mergeE t (putT t n key col v) = 0) : onceL (valsOf key col (mergeT t (putT t n key col v)).e) = [v] := by
  obtain ⟨N, _, _, hc⟩ := put_cells h h0
  refine once_one fun x => ?_
  rw [mem_vals]
  constructor
  · rintro ⟨y, hy, hf, e⟩
    rcases (hc y).1 hy with k | k
    · rw [hf] at k; cases k.2
    · rw [← e, k]
  · intro e
    exact ⟨(N, key, col, v), (hc _).2 (Or.inr rfl), by simp [fitP], e.symm⟩
theorem put_other {t : Tab} {n key col v other : Int} (h : putE t n key col v = 0) (h0 : mergeE t (putT t n key col v) = 0) (ho : other ≠ col) : onceL (valsOf key other (mergeT t (putT t n key col v)).e) = onceL (valsOf key other t.e) := by
  obtain ⟨N, _, _, hc⟩ := put_cells h h0
  refine rise_ext (once_good _).1 (once_good _).1 fun x => ?_
  rw [(once_good _).2, (once_good _).2, mem_vals, mem_vals]
  constructor
  · rintro ⟨y, hy, hf, e⟩
    rcases (hc y).1 hy with k | k
    · exact ⟨y, k.1, hf, e⟩
    · rw [k] at hf
      simp [fitP] at hf
      exact absurd hf.symm ho
  · rintro ⟨y, hy, hf, e⟩
    refine ⟨y, (hc y).2 (Or.inl ⟨hy, ?_⟩), hf, e⟩
    cases hf2 : fitP key col y
    · rfl
    · simp [fitP] at hf hf2
      exact absurd (hf.2.symm.trans hf2.2) ho
/-- A Del that can't be done: no cell has the key. -/
theorem del_no {t : Tab} {key : Int} (ht : errT t = 0) (h : delE t key ≠ 0) : key ∉ keysOf t.e := by
  intro hk
  obtain ⟨y, hy, e⟩ := List.mem_map.1 hk
  refine h ?_
  have hpl := errT_place ht hy
  have hin : inB key 0 49 = true := by
    unfold okPlace at hpl
    simp only [Bool.and_eq_true] at hpl
    rw [← e]; exact hpl.1.1
  have hany : t.e.any (fitD key) = true := List.any_eq_true.2 ⟨y, hy, by simp [fitD, e]⟩
  have hd := dotsOf_rightK ht (fitD key)
  unfold delE
  rw [ht, hin, hany, makeE_rightK hd.1 hd.2]
  simp
/-- The cells behind a Del. -/
theorem del_cells {t : Tab} {key : Int} (h : delE t key = 0) : errT t = 0 ∧ key ∈ keysOf t.e ∧ mergeE t ⟨delC t key, []⟩ = 0 ∧ ∀ y, y ∈ (mergeT t ⟨delC t key, []⟩).e ↔ y ∈ t.e ∧ y.2.1 ≠ key := by
  have hp : errT t = 0 ∧ t.e.any (fitD key) = true := by
    unfold delE at h
    by_cases h1 : errT t = 0
    · rw [if_neg (by simpa using h1)] at h
      cases h2 : inB key 0 49
      · rw [if_pos h2] at h; cases h
      · rw [if_neg (by simp [h2])] at h
        cases h3 : t.e.any (fitD key)
        · rw [if_pos h3] at h; cases h
        · exact ⟨h1, rfl⟩
    · rw [if_pos h1] at h; exact absurd h h1
  obtain ⟨ht, hany⟩ := hp
  have hC : delC t key = makeC (dotsOf (fitD key) t.e) := by unfold delC; rw [if_pos h]
  have hd := dotsOf_rightK ht (fitD key)
  have hm := make_has hd.1 hd.2
  have hkey : key ∈ keysOf t.e := by
    obtain ⟨y, hy, hf⟩ := List.any_eq_true.1 hany
    exact List.mem_map.2 ⟨y, hy, by simpa [fitD] using hf⟩
  have hdt : errT ⟨delC t key, []⟩ = 0 := by rw [hC]; exact errT_of hm.1 (by simp) (by simp [Asc]) (fun x hx => by cases hx)
  have hcl : clashB t ⟨delC t key, []⟩ = false := noclash.2 fun x hx y hy => by cases hy
  have hsub : ∀ x, hasB (delC t key) x = true → hasB t.c x = true := by
    intro x hx
    rw [hC, hm.2] at hx
    obtain ⟨y, hy, rfl⟩ := List.mem_map.1 hx
    exact errT_has ht (List.mem_filter.1 hy).1
  have hj := join_in (errT_parts ht).1 (errT_parts hdt).1 hsub
  have hmem : ∀ y, y ∈ mrg t ⟨delC t key, []⟩ ↔ y ∈ t.e ∧ y.2.1 ≠ key := by
    intro y
    rw [mem_mrg hcl]
    constructor
    · rintro (⟨_, k⟩ | ⟨k1, k2⟩ | ⟨k, _⟩)
      · cases k
      · refine ⟨k1, fun e => ?_⟩
        have : hasB (delC t key) y.1 = true := by rw [hC, hm.2]; exact (mem_dots ht k1).2 (by simp [fitD, e])
        rw [k2] at this; cases this
      · cases k
    · rintro ⟨k1, k2⟩
      refine Or.inr (Or.inl ⟨k1, ?_⟩)
      show hasB (delC t key) y.1 = false
      cases hb : hasB (delC t key) y.1
      · rfl
      · rw [hC, hm.2, mem_dots ht k1] at hb
        simp [fitD] at hb
        exact absurd hb k2
  have hlen : (mrg t ⟨delC t key, []⟩).length ≤ 400 := by
    have hsubl : (mrg t ⟨delC t key, []⟩) = t.e.filter (fun y => decide (y.2.1 ≠ key)) := by
      refine asc_extK (mrg_asc ht hdt) (List.Pairwise.filter _ (errT_asc ht)) fun y => ?_
      rw [hmem, List.mem_filter]
      simp
    rw [hsubl]
    exact Nat.le_trans (List.length_filter_le _ _) (errT_parts ht).2.1
  have h0 : mergeE t ⟨delC t key, []⟩ = 0 := mergeE_of ht hdt hcl hj.1 hlen
  exact ⟨ht, hkey, h0, by rw [mergeT_ok h0]; exact hmem⟩
theorem del_keys {t : Tab} {key : Int} (h : delE t key = 0) : (onceL (keysOf (mergeT t ⟨delC t key, []⟩).e)).length + 1 = (onceL (keysOf t.e)).length ∧ key ∉ onceL (keysOf (mergeT t ⟨delC t key, []⟩).e) := by
  obtain ⟨_, hk, _, hc⟩ := del_cells h
  have hm : ∀ x, x ∈ keysOf (mergeT t ⟨delC t key, []⟩).e ↔ x ∈ keysOf t.e ∧ x ≠ key := by
    intro x
    unfold keysOf
    rw [List.mem_map, List.mem_map]
    constructor
    · rintro ⟨y, hy, e⟩
      have := (hc y).1 hy
      exact ⟨⟨y, this.1, e⟩, by rw [← e]; exact this.2⟩
    · rintro ⟨⟨y, hy, e⟩, hne⟩
      exact ⟨y, (hc y).2 ⟨hy, by rw [e]; exact hne⟩, e⟩
  exact ⟨once_less hk hm, fun k => ((hm key).1 (((once_good _).2 key).1 k)).2 rfl⟩

end Go.Proofs.Ytjgefnipkaecgab
