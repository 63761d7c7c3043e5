/-
  plain.sumAt.
  The pairs of a join, in the order in which they are told; plain.rowOfBoth.
  Numbers in order, each once; the cells of a right table are in range.
-/
import Derived.Test.YtnkpfhipgcmplaaGreatDoorM14
import Derived.Test.YtnkpfhipgcmplaaGreatDoorTInts
namespace Go.Proofs.YtnkpfhipgcmplaaGreatDoor
open Go.RowKit Go.Sort

theorem gr_drewN (w : World) (n : Nat) : Gr w (w.drewN n) := ⟨n, #[], by rw [grow_empty]⟩
theorem sumAtL_append (v : Int) (a b : List Zit) : sumAtL v (a ++ b) = sumAtL v a + sumAtL v b := by
  induction a with
  | nil => simp [sumAtL]
  | cons x a ih => simp only [List.cons_append, sumAtL, ih]; omega
theorem mul_bound {x y : Int} (hx : -1073741824 ≤ x ∧ x ≤ 1073741824) (hy : -1048576 ≤ y ∧ y ≤ 1048576) : -1125899906842624 ≤ x * y ∧ x * y ≤ 1125899906842624 := by
  have h1 : x.natAbs ≤ 1073741824 := by omega
  have h2 : y.natAbs ≤ 1048576 := by omega
  have h3 : (x * y).natAbs ≤ 1073741824 * 1048576 := by rw [Int.natAbs_mul]; exact Nat.mul_le_mul h1 h2
  omega
theorem at_mul {x : Itm} {v : Int} (h : okR x.r = true ∧ okW x.n = true) : -1125899906842624 ≤ atI x.r v * x.n ∧ atI x.r v * x.n ≤ 1125899906842624 := by
  have h1 := okN_at h.1 (c := v)
  have h2 := h.2
  simp only [okN, okW, inB, Bool.and_eq_true, decide_eq_true_eq] at h1 h2
  exact mul_bound h1 h2
theorem sumAtL_bound {l : List Itm} {v : Int} (h : ∀ x ∈ l, okR x.r = true ∧ okW x.n = true) : -((l.length : Int) * 1125899906842624) ≤ sumAtL v (l.map Itm.z) ∧ sumAtL v (l.map Itm.z) ≤ (l.length : Int) * 1125899906842624 := by
  induction l with
  | nil => simp [sumAtL]
  | cons x l ih =>
    have h1 := ih fun y hy => h y (List.mem_cons_of_mem _ hy)
    have h2 := at_mul (v := v) (h x (List.mem_cons_self ..))
    have e : sumAtL v ((x :: l).map Itm.z) = atI x.r v * x.n + sumAtL v (l.map Itm.z) := rfl
    rw [e]
    generalize atI x.r v * x.n = t at h2 ⊢
    simp only [List.length_cons]
    omega
theorem sumAtL_take {l : List Itm} {k : Nat} (h : k < l.length) (v : Int) : sumAtL v ((l.take (k + 1)).map Itm.z) = sumAtL v ((l.take k).map Itm.z) + atI l[k].r v * l[k].n := by
  rw [List.take_succ_eq_append_getElem h, List.map_append, sumAtL_append]
  simp [sumAtL, Itm.z]

set_option maxRecDepth 100000 in
set_option maxHeartbeats 1000000 in
theorem sumAt_any (l : List Itm) (A : Option Addr) (cap : Nat) (v : Int) (w : World) (hl : l.length ≤ 400) (hw : ∀ x ∈ l, okR x.r = true ∧ okW x.n = true) (hc : ∀ x ∈ l, inB v 0 ((x.r.length : Int) - 1) = true) (hr : Items w A l) :
    Calls Tryz.prog 119 #[.slice A l.length cap, .int .i64 v] w fun e w' => e = .returned (.int .i64 (sumAtL v (l.map Itm.z))) ∧ Gr w w' := by
  have hrH : Hid (Items w A l) := hr
  have hwH : Hid ((∀ x ∈ l, okR x.r = true ∧ okW x.n = true) ∧ ∀ x ∈ l, inB v 0 ((x.r.length : Int) - 1) = true) := ⟨hw, hc⟩
  clear hr hw hc
  go_enter Tryz.func119, Tryz.ntmps119
  go_wp2
  go_loopw [5, 10] (fun u i wr => ∃ k : Nat, k ≤ l.length ∧ i = .int .i64 k ∧ u = .int .i64 (sumAtL v ((l.take k).map Itm.z)) ∧ Hid (Gr w wr)) (fun _ i _ => l.length - (intOf i).toNat)
  case atStart => exact ⟨0, Nat.zero_le _, rfl, rfl, Gr.refl _⟩
  case round =>
    obtain ⟨k, hk, rfl, rfl, hg⟩ := hrel
    by_cases hlt : k < l.length
    · have hltz : (k : Int) < (l.length : Int) := by omega
      have hI : Hid (Items wr A l) := hrH.out.gr hg.out
      obtain ⟨bb, off, rfl, hb, hcs⟩ := hI.out.at hlt
      obtain ⟨x, hx⟩ : ∃ x, l[k] = x := ⟨_, rfl⟩
      obtain ⟨e0, e1⟩ := hcs k hlt
      rw [hx] at e0 e1
      have hxm : x ∈ l := by rw [← hx]; exact List.getElem_mem hlt
      obtain ⟨rb, ro, cn, hp, hrb, hcn, hcl, hcell⟩ := rowI_atI (hI.out.each x hxm).1 (hwH.out.2 x hxm)
      have hst : Hid (sumAtL v ((l.take (k + 1)).map Itm.z) = sumAtL v ((l.take k).map Itm.z) + atI x.r v * x.n) := by show _ = _; rw [sumAtL_take hlt, hx]
      have hbd := sumAtL_bound (l := l.take k) (v := v) (fun y hy => hwH.out.1 y (List.mem_of_mem_take hy))
      have hml := at_mul (v := v) (hwH.out.1 x hxm)
      have hlen : (l.take k).length ≤ 400 := by simp; omega
      obtain ⟨T, hT⟩ : ∃ T, sumAtL v ((l.take k).map Itm.z) = T := ⟨_, rfl⟩
      obtain ⟨nn, hnn⟩ : ∃ nn, atI x.r v = nn := ⟨_, rfl⟩
      rw [hT] at hst hbd ⊢
      rw [hnn] at hcell hst hml
      rw [hp] at e0
      have hw1 : IntKind.i64.wrap (nn * x.n) = nn * x.n := by rw [IntKind.wrap_i64]; omega
      have hw2 : IntKind.i64.wrap (T + nn * x.n) = T + nn * x.n := by rw [IntKind.wrap_i64]; omega
      have hgX : Hid (Gr w (wr.alloc (.cells #[.slice (some ⟨rb, ro, none⟩) x.r.length x.c, .int .i64 x.n] 66))) := hg.out.alloc _
      have y0 : (wr.alloc (.cells #[.slice (some ⟨rb, ro, none⟩) x.r.length x.c, .int .i64 x.n] 66)).cell? ⟨rb, ro + cn, none⟩ = some (.int .i64 nn) := (((Gr.refl _).alloc _).cell (p := ⟨rb, ro + cn, none⟩) hrb).trans hcell
      have hcz : (cn : Int) < (x.r.length : Int) := by omega
      obtain rfl := hcn
      clear hcs hx hxm hnn hp hcell hcl hbd hml hlen hT
      obtain ⟨M, hM⟩ : ∃ M, nn * x.n = M := ⟨_, rfl⟩
      rw [hM] at hw1 hw2 hst
      have hMH : Hid (nn * x.n = M) := hM
      obtain ⟨WX, hWX⟩ : ∃ WX, (wr.alloc (.cells #[.slice (some ⟨rb, ro, none⟩) x.r.length x.c, .int .i64 x.n] 66)) = WX := ⟨_, rfl⟩
      have x0 : WX.cell? ⟨wr.heap.size, 0, none⟩ = some (.slice (some ⟨rb, ro, none⟩) x.r.length x.c) := by rw [← hWX]; exact box1 (Gr.refl _) rfl
      have x1 : WX.cell? ⟨wr.heap.size, 1, none⟩ = some (.int .i64 x.n) := by rw [← hWX]; exact box1 (Gr.refl _) rfl
      rw [hWX] at y0 hgX
      go_wp2
      clear hWX
      go_quiet (fail)
      go_wp2
      go_roundw
      case rel => exact ⟨k + 1, by omega, by go_num, by rw [hst.out], hgX.out.trans (gr_drewN _ _)⟩
      case measure => simp [intOf]; omega
    · have hltz : ¬ (k : Int) < (l.length : Int) := by omega
      have hke : l.take k = l := List.take_of_length_le (by omega)
      rw [hke]
      clear hke
      go_wp2
      go_ret
      exact ⟨rfl, hg.out⟩
end Go.Proofs.YtnkpfhipgcmplaaGreatDoor

namespace Go.Proofs.YtnkpfhipgcmplaaGreatDoor
open Go.RowKit Go.Sort Go.Maps

/-- Groups are what their numbers pick, in order. -/
structure GInvL (c : Int) (G : List (Int × List Zit)) (l : List Zit) : Prop where
  uniq : G.Pairwise fun a b => a.1 ≠ b.1
  pick : ∀ g ∈ G, g.2 = l.filter fun y => decide (atI y.1 c = g.1)
  all : ∀ y ∈ l, ∃ g ∈ G, g.1 = atI y.1 c
theorem putG_keys : ∀ (G : List (Int × List Zit)) (n : Int) (x : Zit), (putG G n x).map (·.1) = if n ∈ G.map (·.1) then G.map (·.1) else G.map (·.1) ++ [n]
  | [], n, x => by simp [putG]
  | g :: t, n, x => by
    have ih := putG_keys t n x
    by_cases e : g.1 = n
    · simp [putG, e]
    · have e' : ¬ n = g.1 := fun h => e h.symm
      simp only [putG, if_neg e, List.map_cons, ih, List.mem_cons, e', false_or]
      split <;> simp
theorem putG_pick : ∀ (G : List (Int × List Zit)) (n : Int) (x : Zit), G.Pairwise (fun a b => a.1 ≠ b.1) → ∀ g ∈ putG G n x, (g.1 ≠ n ∧ g ∈ G) ∨ (g.1 = n ∧ ((∃ h ∈ G, h.1 = n ∧ g.2 = h.2 ++ [x]) ∨ ((∀ h ∈ G, h.1 ≠ n) ∧ g.2 = [x])))
  | [], n, x, _, g, hg => by
    simp only [putG, List.mem_singleton] at hg
    subst hg
    exact Or.inr ⟨rfl, Or.inr ⟨fun h hh => (by cases hh), rfl⟩⟩
  | h :: t, n, x, hp, g, hg => by
    have hp' := List.pairwise_cons.1 hp
    by_cases e : h.1 = n
    · simp only [putG, if_pos e] at hg
      rcases List.mem_cons.1 hg with k | k
      · subst k; exact Or.inr ⟨e, Or.inl ⟨h, List.mem_cons_self .., e, rfl⟩⟩
      · refine Or.inl ⟨fun k2 => hp'.1 g k (by rw [e, k2]), List.mem_cons_of_mem _ k⟩
    · simp only [putG, if_neg e] at hg
      rcases List.mem_cons.1 hg with k | k
      · subst k; exact Or.inl ⟨e, List.mem_cons_self ..⟩
      · rcases putG_pick t n x hp'.2 g k with ⟨a1, a2⟩ | ⟨a1, ⟨h2, b1, b2, b3⟩ | ⟨b1, b2⟩⟩
        · exact Or.inl ⟨a1, List.mem_cons_of_mem _ a2⟩
        · exact Or.inr ⟨a1, Or.inl ⟨h2, List.mem_cons_of_mem _ b1, b2, b3⟩⟩
        · refine Or.inr ⟨a1, Or.inr ⟨fun h3 h4 => ?_, b2⟩⟩
          rcases List.mem_cons.1 h4 with k3 | k3
          · rw [k3]; exact e
          · exact b1 h3 k3
theorem GInvL.step {c : Int} {G : List (Int × List Zit)} {l : List Zit} (h : GInvL c G l) (x : Zit) : GInvL c (putG G (atI x.1 c) x) (l ++ [x]) := by
  have hk := putG_keys G (atI x.1 c) x
  refine ⟨?_, fun g hg => ?_, fun y hy => ?_⟩
  · have : ((putG G (atI x.1 c) x).map (·.1)).Pairwise (· ≠ ·) := by
      rw [hk]
      split
      · exact List.pairwise_map.2 h.uniq
      · rename_i hn
        exact List.pairwise_append.2 ⟨List.pairwise_map.2 h.uniq, List.pairwise_singleton _ _, fun a ha b hb e => by rw [List.mem_singleton.1 hb] at e; exact hn (e ▸ ha)⟩
    exact List.pairwise_map.1 this
  · rw [List.filter_append]
    rcases putG_pick G _ x h.uniq g hg with ⟨a1, a2⟩ | ⟨a1, ⟨h2, b1, b2, b3⟩ | ⟨b1, b2⟩⟩
    · have : decide (atI x.1 c = g.1) = false := by simpa using fun k => a1 k.symm
      simp [this, h.pick g a2]
    · rw [b3, h.pick h2 b1, b2, a1]
      simp
    · have hn : l.filter (fun y => decide (atI y.1 c = g.1)) = [] := by
        rw [List.filter_eq_nil_iff]
        intro y hy e
        obtain ⟨g2, hg2, e2⟩ := h.all y hy
        exact b1 g2 hg2 (by rw [e2, ← a1]; simpa using e)
      rw [hn, b2, a1]
      simp
  · have hmem : ∀ n, n ∈ (putG G (atI x.1 c) x).map (·.1) ↔ n ∈ G.map (·.1) ∨ n = atI x.1 c := fun n => by
      rw [hk]
      split
      · rename_i hin
        exact ⟨Or.inl, fun k => k.elim id (fun e => e ▸ hin)⟩
      · simp
    have : atI y.1 c ∈ (putG G (atI x.1 c) x).map (·.1) := by
      rw [hmem]
      rcases List.mem_append.1 hy with e | e
      · obtain ⟨g, hg, e2⟩ := h.all y e
        exact Or.inl (List.mem_map.2 ⟨g, hg, e2⟩)
      · rw [List.mem_singleton.1 e]; exact Or.inr rfl
    obtain ⟨g, hg, e⟩ := List.mem_map.1 this
    exact ⟨g, hg, e⟩
theorem ginvL_fold {c : Int} : ∀ (m : List Zit) {G : List (Int × List Zit)} {l : List Zit}, GInvL c G l → GInvL c (m.foldl (fun g x => putG g (atI x.1 c) x) G) (l ++ m)
  | [], _, _, h => by simpa using h
  | x :: m, _, l, h => by
    have := ginvL_fold m (h.step x)
    simpa using this
theorem grpL_inv (l : List Zit) (c : Int) : GInvL c (grpL l c) l := by
  have := ginvL_fold (c := c) l (G := []) (l := []) ⟨List.Pairwise.nil, fun g hg => (by cases hg), fun y hy => (by cases hy)⟩
  rw [List.nil_append] at this
  exact this
def prs (x : Zit) (l : List Zit) : List Zit := l.map fun y => (x.1 ++ y.1, x.2 * y.2)
theorem pair_take {a : List Itm} {k : Nat} (h : k < a.length) (b : List Zit) (c v : Int) : pairL ((a.take (k + 1)).map Itm.z) b c v = pairL ((a.take k).map Itm.z) b c v ++ prs a[k].z (b.filter fun y => decide (atI y.1 v = atI a[k].r c)) := by
  rw [List.take_succ_eq_append_getElem h, List.map_append]
  unfold pairL prs
  rw [List.flatMap_append]
  simp [Itm.z]
theorem prs_take {x : Zit} {l : List Itm} {m : Nat} (h : m < l.length) : prs x ((l.take (m + 1)).map Itm.z) = prs x ((l.take m).map Itm.z) ++ [(x.1 ++ l[m].r, x.2 * l[m].n)] := by
  rw [List.take_succ_eq_append_getElem h, List.map_append]
  unfold prs
  rw [List.map_append]
  rfl
theorem pair_sub {a : List Itm} {k : Nat} (b : List Zit) (c v : Int) {p : Zit} (h : p ∈ pairL ((a.take k).map Itm.z) b c v) : p ∈ pairL (a.map Itm.z) b c v := by
  unfold pairL at h ⊢
  obtain ⟨x, hx, hp⟩ := List.mem_flatMap.1 h
  obtain ⟨y, hy, e⟩ := List.mem_map.1 hx
  exact List.mem_flatMap.2 ⟨x, List.mem_map.2 ⟨y, List.mem_of_mem_take hy, e⟩, hp⟩

set_option maxHeartbeats 1000000 in
theorem both_any (l m : List Int) (A B : Option Addr) (ca cb : Nat) (w : World) (hl : l.length ≤ 8) (hm : m.length ≤ 8) (hA : A = none → ca = 0) (hB : B = none → cb = 0) (hr : RowI w A l) (hs : RowI w B m) :
    Calls Tryz.prog 93 #[.slice A l.length ca, .slice B m.length cb] w fun e w' => ∃ C c, e = .returned (.slice C (l ++ m).length c) ∧ RowI w' C (l ++ m) ∧ (C = none → c = 0) ∧ (∀ a, C = some a → w.heap.size ≤ a.block ∧ a.block < w'.heap.size) ∧ Below w.heap.size w w' := by
  have hlm : Hid (0 + l.length ≤ maxLen ∧ (0 + l.length) * 8 ≤ 140737488355328 ∧ ([] ++ l).length + m.length ≤ maxLen ∧ (([] ++ l).length + m.length) * 8 ≤ 140737488355328) := by show _ ∧ _; unfold maxLen; simp; omega
  have hrH : Hid (RowI w A l ∧ (A = none → ca = 0) ∧ RowI w B m ∧ (B = none → cb = 0)) := ⟨hr, hA, hs, hB⟩
  clear hr hA hs hB
  go_enter Tryz.func93, Tryz.ntmps93
  go_wp2_with (first | (at_builtin; refine wpList_append_i _ rfl _ _ rfl w.heap.size (.slice none 0 0) [] l A ca rfl rfl (OwnG.nil _ _ _ _ _) hrH.out.1 hrH.out.2.1 hlm.out.1 hlm.out.2.1 (Nat.le_refl _) ?_; intro v1 w1 hown1 hgr1) | (at_builtin; refine wpList_append_i _ rfl _ _ rfl w.heap.size v1 ([] ++ l) m B cb rfl rfl hown1 (hrH.out.2.2.1.below (below_none hgr1)) hrH.out.2.2.2 hlm.out.2.2.1 hlm.out.2.2.2 (below_none hgr1).size ?_; intro v2 w2 hown2 hgr2))
  have hb3 : Hid (Below w.heap.size w w2) := (below_none hgr1).trans (OwnG.grown_below hown1 hgr2 (below_none hgr1).size)
  obtain ⟨C, c, rfl, hC, hrow, hlt⟩ := OwnG.row encI_len hown2
  have hfin : Hid (RowI w2 C (l ++ m) ∧ (C = none → c = 0) ∧ (∀ a, C = some a → w.heap.size ≤ a.block ∧ a.block < w2.heap.size)) := ⟨by simpa using hrow, hC, hlt⟩
  clear hown1 hgr1 hown2 hgr2 hC hrow hlt
  go_wp2
  go_ret
  exact ⟨C, c, by simp, hfin.out.1, hfin.out.2.1, hfin.out.2.2, hb3.out⟩
end Go.Proofs.YtnkpfhipgcmplaaGreatDoor

namespace Go.Proofs.YtnkpfhipgcmplaaGreatDoor
open Go.RowKit Go.Sort Go.Shelf Go.Lib

/-- Rising, each once: what onceL makes. -/
theorem compact_good {d : List Int} (hs : d.Pairwise (· ≤ ·)) : ∀ m, m ≤ d.length → (compactUpTo d.toArray m).Pairwise (· < ·) ∧ (∀ x, x ∈ compactUpTo d.toArray m ↔ ∃ j, ∃ h : j < d.length, j < m ∧ d[j] = x) := by
  intro m
  induction m with
  | zero =>
    intro _
    refine ⟨by simp [compactUpTo], fun x => ?_⟩
    simp [compactUpTo]
  | succ m ih =>
    intro hm
    obtain ⟨h1, h2⟩ := ih (by omega)
    have hmd : m < d.length := by omega
    have em : d.toArray[m]! = d[m] := by simp [hmd]
    rw [compactUpTo_succ]
    have hle : ∀ x ∈ compactUpTo d.toArray m, x ≤ d[m] := by
      intro x hx
      obtain ⟨j, hj, hjm, rfl⟩ := (h2 x).1 hx
      exact (List.pairwise_iff_getElem.1 hs) j m hj hmd hjm
    by_cases hk : keeps d.toArray m = true
    · rw [if_pos hk, em]
      refine ⟨?_, fun x => ?_⟩
      · rw [List.pairwise_append]
        refine ⟨h1, by simp, ?_⟩
        intro x hx y hy
        have hy' : y = d[m] := by simpa using hy
        subst hy'
        obtain ⟨j, hj, hjm, rfl⟩ := (h2 x).1 hx
        have hm1 : m - 1 < d.length := by omega
        have e1 : d.toArray[m - 1]! = d[m - 1] := by simp [hm1]
        have hne : d[m] ≠ d[m - 1] := by
          unfold keeps at hk
          have := of_decide_eq_true hk
          rcases this with k | k
          · omega
          · rw [em, e1] at k; exact k
        have a1 : d[j] ≤ d[m - 1] := by
          by_cases e : j = m - 1
          · subst e; exact Int.le_refl _
          · exact (List.pairwise_iff_getElem.1 hs) j (m - 1) hj hm1 (by omega)
        have a2 : d[m - 1] ≤ d[m] := (List.pairwise_iff_getElem.1 hs) (m - 1) m hm1 hmd (by omega)
        omega
      · rw [List.mem_append, h2]
        constructor
        · rintro (⟨j, hj, hjm, e⟩ | k)
          · exact ⟨j, hj, by omega, e⟩
          · exact ⟨m, hmd, by omega, (by simpa using k : x = d[m]).symm⟩
        · rintro ⟨j, hj, hjm, e⟩
          by_cases e2 : j = m
          · subst e2; exact Or.inr (by simp [e])
          · exact Or.inl ⟨j, hj, by omega, e⟩
    · rw [if_neg hk, List.append_nil]
      refine ⟨h1, fun x => ?_⟩
      rw [h2]
      constructor
      · rintro ⟨j, hj, hjm, e⟩; exact ⟨j, hj, by omega, e⟩
      · rintro ⟨j, hj, hjm, e⟩
        by_cases e2 : j = m
        · subst e2
          unfold keeps at hk
          have hk' : ¬ (j = 0 ∨ d.toArray[j]! ≠ d.toArray[j - 1]!) := fun k => hk (decide_eq_true k)
          have hj0 : j ≠ 0 := fun k => hk' (Or.inl k)
          have hm1 : j - 1 < d.length := by omega
          have e1 : d.toArray[j - 1]! = d[j - 1] := by simp [hm1]
          have he : d[j] = d[j - 1] := by
            by_cases k : d[j] = d[j - 1]
            · exact k
            · exact absurd (Or.inr (by rw [em, e1]; exact k)) hk'
          exact ⟨j - 1, hm1, by omega, by rw [← he]; exact e⟩
        · exact ⟨j, hj, by omega, e⟩
theorem once_good (l : List Int) : (onceL l).Pairwise (· < ·) ∧ ∀ x, x ∈ onceL l ↔ x ∈ l := by
  have hs : (l.mergeSort fun x y => decide (x ≤ y)).Pairwise (· ≤ ·) := by
    have := List.pairwise_mergeSort (le := fun x y : Int => decide (x ≤ y)) (by intro a b c h1 h2; simp only [decide_eq_true_eq] at *; omega) (by intro a b; simp only [Bool.or_eq_true, decide_eq_true_eq]; omega) l
    exact this.imp fun h => by simpa using h
  have h := compact_good hs _ (Nat.le_refl _)
  refine ⟨h.1, fun x => ?_⟩
  show x ∈ compactUpTo _ _ ↔ _
  rw [h.2]
  constructor
  · rintro ⟨j, hj, _, e⟩
    rw [← e]
    exact (List.mergeSort_perm l _).mem_iff.1 (List.getElem_mem hj)
  · intro hx
    obtain ⟨j, hj, e⟩ := List.getElem_of_mem ((List.mergeSort_perm l _).mem_iff.2 hx)
    exact ⟨j, hj, hj, e⟩
theorem rise_ext {l m : List Int} (hl : l.Pairwise (· < ·)) (hm : m.Pairwise (· < ·)) (h : ∀ x, x ∈ l ↔ x ∈ m) : l = m := by
  have nl : l.Nodup := hl.imp fun h e => by omega
  have nm : m.Nodup := hm.imp fun h e => by omega
  exact List.Perm.eq_of_pairwise (le := fun x y => x < y) (fun a b _ _ h1 h2 => by omega) hl hm ((List.perm_ext_iff_of_nodup nl nm).2 h)
theorem once_one {l : List Int} {v : Int} (h : ∀ x, x ∈ l ↔ x = v) : onceL l = [v] :=
  rise_ext (once_good l).1 (by simp) fun x => by rw [(once_good l).2, h]; simp
/-- One key less. -/
theorem once_less {l m : List Int} {k : Int} (hk : k ∈ l) (h : ∀ x, x ∈ m ↔ x ∈ l ∧ x ≠ k) : (onceL m).length + 1 = (onceL l).length := by
  have hl := once_good l
  have hm := once_good m
  have nl : (onceL l).Nodup := hl.1.imp fun h e => by omega
  have he : onceL m = (onceL l).erase k := by
    rw [nl.erase_eq_filter]
    refine rise_ext hm.1 (List.Pairwise.filter _ hl.1) fun x => ?_
    rw [hm.2, h, List.mem_filter, hl.2]
    simp
  have hkl : k ∈ onceL l := (hl.2 k).2 hk
  rw [he, List.length_erase_of_mem hkl]
  have := List.length_pos_of_mem hkl
  omega
theorem mem_vals {key col : Int} {e : List Cel} {x : Int} : x ∈ valsOf key col e ↔ ∃ y ∈ e, fitP key col y = true ∧ y.2.2.2 = x := by
  unfold valsOf
  rw [List.mem_map]
  constructor
  · rintro ⟨y, hy, e⟩
    have := List.mem_filter.1 hy
    exact ⟨y, this.1, this.2, e⟩
  · rintro ⟨y, hy, hf, e⟩
    exact ⟨y, List.mem_filter.2 ⟨hy, hf⟩, e⟩
theorem errT_place {t : Tab} (h : errT t = 0) {x : Cel} (hx : x ∈ t.e) : okPlace x.2.1 x.2.2.1 x.2.2.2 = true := by
  obtain ⟨j, hj, rfl⟩ := List.getElem_of_mem hx
  have hk := (errT_parts h).2.2 j hj
  have hg : t.e.getD j ((0, 0), 0, 0, 0) = t.e[j] := by simp [hj]
  unfold okCel at hk
  rw [hg] at hk
  simp only [Bool.and_eq_true] at hk
  exact hk.1.2

end Go.Proofs.YtnkpfhipgcmplaaGreatDoor
