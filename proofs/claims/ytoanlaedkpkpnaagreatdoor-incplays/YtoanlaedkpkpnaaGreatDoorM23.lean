/-
  Numbers in order, each once; the cells of a right table are in range.
  What viewref.made makes of a step, on plain lists; viewref.Made of that is what plain tells.
  viewref.once: numbers rising, each once.
-/
import Derived.Test.YtoanlaedkpkpnaaGreatDoorTInts
import Derived.Test.YtoanlaedkpkpnaaGreatDoorM22
import Derived.Test.YtoanlaedkpkpnaaGreatDoorM13
namespace Go.Proofs.YtoanlaedkpkpnaaGreatDoor
open Go.RowKit Go.Sort Go.Shelf Go.Lib

/-- Rising, each once: what onceL makes. -/
theorem compact_good {d : List Int} (hs : d.Pairwise (· ≤ ·)) : ∀ m, m ≤ d.length → (compactUpTo d.toArray m).Pairwise (· < ·) ∧ (∀ x, x ∈ compactUpTo d.toArray m ↔ ∃ j, ∃ h : j < d.length, j < m ∧ d[j] = x) := by
  intro m
  induction m with
  | zero =>
    intro _
    refine ⟨by simp [compactUpTo], fun x => ?_⟩
    simp [compactUpTo]
  | succ m ih =>
    intro hm
    obtain ⟨h1, h2⟩ := ih (by omega)
    have hmd : m < d.length := by omega
    have em : d.toArray[m]! = d[m] := by simp [hmd]
    rw [compactUpTo_succ]
    have hle : ∀ x ∈ compactUpTo d.toArray m, x ≤ d[m] := by
      intro x hx
      obtain ⟨j, hj, hjm, rfl⟩ := (h2 x).1 hx
      exact (List.pairwise_iff_getElem.1 hs) j m hj hmd hjm
    by_cases hk : keeps d.toArray m = true
    · rw [if_pos hk, em]
      refine ⟨?_, fun x => ?_⟩
      · rw [List.pairwise_append]
        refine ⟨h1, by simp, ?_⟩
        intro x hx y hy
        have hy' : y = d[m] := by simpa using hy
        subst hy'
        obtain ⟨j, hj, hjm, rfl⟩ := (h2 x).1 hx
        have hm1 : m - 1 < d.length := by omega
        have e1 : d.toArray[m - 1]! = d[m - 1] := by simp [hm1]
        have hne : d[m] ≠ d[m - 1] := by
          unfold keeps at hk
          have := of_decide_eq_true hk
          rcases this with k | k
          · omega
          · rw [em, e1] at k; exact k
        have a1 : d[j] ≤ d[m - 1] := by
          by_cases e : j = m - 1
          · subst e; exact Int.le_refl _
          · exact (List.pairwise_iff_getElem.1 hs) j (m - 1) hj hm1 (by omega)
        have a2 : d[m - 1] ≤ d[m] := (List.pairwise_iff_getElem.1 hs) (m - 1) m hm1 hmd (by omega)
        omega
      · rw [List.mem_append, h2]
        constructor
        · rintro (⟨j, hj, hjm, e⟩ | k)
          · exact ⟨j, hj, by omega, e⟩
          · exact ⟨m, hmd, by omega, (by simpa using k : x = d[m]).symm⟩
        · rintro ⟨j, hj, hjm, e⟩
          by_cases e2 : j = m
          · subst e2; exact Or.inr (by simp [e])
          · exact Or.inl ⟨j, hj, by omega, e⟩
    · rw [if_neg hk, List.append_nil]
      refine ⟨h1, fun x => ?_⟩
      rw [h2]
      constructor
      · rintro ⟨j, hj, hjm, e⟩; exact ⟨j, hj, by omega, e⟩
      · rintro ⟨j, hj, hjm, e⟩
        by_cases e2 : j = m
        · subst e2
          unfold keeps at hk
          have hk' : ¬ (j = 0 ∨ d.toArray[j]! ≠ d.toArray[j - 1]!) := fun k => hk (decide_eq_true k)
          have hj0 : j ≠ 0 := fun k => hk' (Or.inl k)
          have hm1 : j - 1 < d.length := by omega
          have e1 : d.toArray[j - 1]! = d[j - 1] := by simp [hm1]
          have he : d[j] = d[j - 1] := by
            by_cases k : d[j] = d[j - 1]
            · exact k
            · exact absurd (Or.inr (by rw [em, e1]; exact k)) hk'
          exact ⟨j - 1, hm1, by omega, by rw [← he]; exact e⟩
        · exact ⟨j, hj, by omega, e⟩
theorem once_good (l : List Int) : (onceL l).Pairwise (· < ·) ∧ ∀ x, x ∈ onceL l ↔ x ∈ l := by
  have hs : (l.mergeSort fun x y => decide (x ≤ y)).Pairwise (· ≤ ·) := by
    have := List.pairwise_mergeSort (le := fun x y : Int => decide (x ≤ y)) (by intro a b c h1 h2; simp only [decide_eq_true_eq] at *; omega) (by intro a b; simp only [Bool.or_eq_true, decide_eq_true_eq]; omega) l
    exact this.imp fun h => by simpa using h
  have h := compact_good hs _ (Nat.le_refl _)
  refine ⟨h.1, fun x => ?_⟩
  show x ∈ compactUpTo _ _ ↔ _
  rw [h.2]
  constructor
  · rintro ⟨j, hj, _, e⟩
    rw [← e]
    exact (List.mergeSort_perm l _).mem_iff.1 (List.getElem_mem hj)
  · intro hx
    obtain ⟨j, hj, e⟩ := List.getElem_of_mem ((List.mergeSort_perm l _).mem_iff.2 hx)
    exact ⟨j, hj, hj, e⟩
theorem rise_ext {l m : List Int} (hl : l.Pairwise (· < ·)) (hm : m.Pairwise (· < ·)) (h : ∀ x, x ∈ l ↔ x ∈ m) : l = m := by
  have nl : l.Nodup := hl.imp fun h e => by omega
  have nm : m.Nodup := hm.imp fun h e => by omega
  exact List.Perm.eq_of_pairwise (le := fun x y => x < y) (fun a b _ _ h1 h2 => by omega) hl hm ((List.perm_ext_iff_of_nodup nl nm).2 h)
theorem once_one {l : List Int} {v : Int} (h : ∀ x, x ∈ l ↔ x = v) : onceL l = [v] :=
  rise_ext (once_good l).1 (by simp) fun x => by rw [(once_good l).2, h]; simp
/-- One key less. -/
theorem once_less {l m : List Int} {k : Int} (hk : k ∈ l) (h : ∀ x, x ∈ m ↔ x ∈ l ∧ x ≠ k) : (onceL m).length + 1 = (onceL l).length := by
  have hl := once_good l
  have hm := once_good m
  have nl : (onceL l).Nodup := hl.1.imp fun h e => by omega
  have he : onceL m = (onceL l).erase k := by
    rw [nl.erase_eq_filter]
    refine rise_ext hm.1 (List.Pairwise.filter _ hl.1) fun x => ?_
    rw [hm.2, h, List.mem_filter, hl.2]
    simp
  have hkl : k ∈ onceL l := (hl.2 k).2 hk
  rw [he, List.length_erase_of_mem hkl]
  have := List.length_pos_of_mem hkl
  omega
end Go.Proofs.YtoanlaedkpkpnaaGreatDoor

namespace Go.Proofs.YtoanlaedkpkpnaaGreatDoor
open Go.RowKit Go.Sort

/-- Each row stands there once. -/
def Dis (l : List Zit) : Prop := l.Pairwise fun x y => x.1 ≠ y.1
theorem Dis.wt : ∀ {l : List Zit}, Dis l → ∀ {x : Zit}, x ∈ l → wt l x.1 = x.2
  | [], _, _, hx => by cases hx
  | y :: l, h, x, hx => by
    have h' := List.pairwise_cons.1 h
    rcases List.mem_cons.1 hx with k | k
    · subst k
      have := wt_none (l := l) (r := x.1) fun z hz e => h'.1 z hz e.symm
      simp only [Go.Proofs.YtoanlaedkpkpnaaGreatDoor.wt, this]
      simp
    · have := Dis.wt (l := l) h'.2 k
      simp only [Go.Proofs.YtoanlaedkpkpnaaGreatDoor.wt, this, if_neg (h'.1 x k)]
      simp
theorem Dis.mem {l : List Zit} (h : Dis l) (hz : NoZ l) (x : Zit) : x ∈ totL l ↔ x ∈ l := by
  have T := totL_is l
  constructor
  · intro hx
    obtain ⟨y, hy, e⟩ := T.row hx
    have h1 := h.wt hy
    have h2 := T.rise.wt hx
    rw [T.same, ← e, h1] at h2
    rw [show x = y from Prod.ext e.symm h2.symm]; exact hy
  · intro hx
    have h1 := h.wt hx
    obtain ⟨y, hy, e⟩ := wt_some (l := totL l) (r := x.1) (by rw [T.same, h1]; exact hz x hx)
    have h2 := T.rise.wt hy
    rw [T.same, e, h1] at h2
    rw [show x = y from Prod.ext e.symm h2]; exact hy
theorem Dis.perm {l : List Zit} (h : Dis l) (hz : NoZ l) : (totL l).Perm l := by
  have n1 : (totL l).Nodup := List.Pairwise.imp (R := fun x y : Zit => cmpL x.1 y.1 < 0) (S := fun x y => x ≠ y) (fun hxy e => cmpL_ne hxy (by rw [e])) (totL_is l).rise
  have n2 : l.Nodup := List.Pairwise.imp (R := fun x y : Zit => x.1 ≠ y.1) (S := fun x y => x ≠ y) (fun hxy e => hxy (by rw [e])) h
  exact (List.perm_ext_iff_of_nodup n1 n2).2 (h.mem hz)
theorem Dis.all {l : List Zit} (h : Dis l) (hz : NoZ l) (p : Zit → Bool) : (totL l).all p = l.all p := by
  rw [Bool.eq_iff_iff, List.all_eq_true, List.all_eq_true]
  exact ⟨fun k x hx => k x ((h.mem hz x).2 hx), fun k x hx => k x ((h.mem hz x).1 hx)⟩
theorem norm_dis {l : List Zit} (h : Dis l) (hz : NoZ l) (h4 : ¬ 400 < l.length) : normE l = madE l ∧ normL l = madL l := by
  have e : normE l = madE l := by
    unfold normE madE
    rw [if_neg h4, h.all hz, (h.perm hz).length_eq, if_neg h4]
    by_cases k : l.all (fun x => okR x.1 && okW x.2) = true
    · rw [if_pos k, if_pos k]
      unfold totE
      rw [h.all hz, if_pos]
      rw [List.all_eq_true] at k ⊢
      intro x hx
      have := k x hx
      simp only [Bool.and_eq_true] at this
      exact this.2
    · rw [if_neg k, if_neg k]
  exact ⟨e, by unfold normL madL; rw [e]⟩
theorem madE_same {l m : List Zit} (h : l.Perm m) : madE l = madE m ∧ madL l = madL m := by
  have e : totL l = totL m := totL_same fun r => wt_perm h r
  have e2 : madE l = madE m := by unfold madE; rw [e]
  exact ⟨e2, by unfold madL; rw [e2, e]⟩

/-- A join's pairs: each row once. -/
theorem pair_dis {a b : List Zit} {n : Int} (ha : errZ a = 0) (hb : errZ b = 0) (hw : Wide n a) (c v : Int) : Dis (pairL a b c v) ∧ NoZ (pairL a b c v) := by
  obtain ⟨_, a2, a3⟩ := (errZ_iff a).1 ha
  obtain ⟨_, b2, b3⟩ := (errZ_iff b).1 hb
  refine ⟨?_, fun x hx => ?_⟩
  · unfold Dis pairL
    refine List.pairwise_flatMap.2 ⟨fun x hx => ?_, ?_⟩
    · refine List.pairwise_map.2 (List.Pairwise.imp (R := fun x y : Zit => cmpL x.1 y.1 < 0) (fun hyz e => ?_) (List.Pairwise.filter _ b3))
      exact cmpL_ne hyz (List.append_cancel_left e)
    · refine List.Pairwise.imp_of_mem (fun {x y} hx hy (hxy : cmpL x.1 y.1 < 0) p hp q hq e => ?_) a3
      obtain ⟨p1, _, rfl⟩ := List.mem_map.1 hp
      obtain ⟨q1, _, rfl⟩ := List.mem_map.1 hq
      have hl : x.1.length = y.1.length := by have h1 := hw x hx; have h2 := hw y hy; omega
      exact cmpL_ne hxy (List.append_inj_left e hl)
  · unfold pairL at hx
    obtain ⟨y, hy, h2⟩ := List.mem_flatMap.1 hx
    obtain ⟨z, hz, rfl⟩ := List.mem_map.1 h2
    exact Int.mul_ne_zero (okZ_noz a2 y hy) (okZ_noz b2 z (List.mem_filter.1 hz).1)
theorem join_made {a b : List Zit} {n : Int} (ha : errZ a = 0) (hb : errZ b = 0) (hw : Wide n a) (c v : Int) (hr : ∀ x ∈ pairL a b c v, okR x.1 = true) : joinE a b c v = madE (pairL a b c v) ∧ joinF a b c v = madL (pairL a b c v) := by
  obtain ⟨hd, hz⟩ := pair_dis ha hb hw c v
  by_cases k : (pairL a b c v).all (fun x => okW x.2) = true
  · have k2 : (pairL a b c v).all (fun x => okR x.1 && okW x.2) = true := by
      rw [List.all_eq_true] at k ⊢
      intro x hx
      rw [hr x hx, k x hx]; rfl
    by_cases h4 : 400 < (pairL a b c v).length
    · have e1 : joinE a b c v = 2 := by
        unfold joinE normE
        rw [if_pos k, if_pos]
        rw [List.length_take]; omega
      have e2 : madE (pairL a b c v) = 2 := by
        unfold madE
        rw [hd.all hz, if_pos k2, (hd.perm hz).length_eq, if_pos h4]
      refine ⟨by rw [e1, e2], ?_⟩
      unfold joinF madL
      rw [e1, e2]
      rfl
    · have e0 : (pairL a b c v).take 401 = pairL a b c v := List.take_of_length_le (by omega)
      have e1 : joinE a b c v = normE (pairL a b c v) := by unfold joinE; rw [if_pos k, e0]
      have e2 := norm_dis hd hz h4
      refine ⟨by rw [e1, e2.1], ?_⟩
      unfold joinF
      rw [e1, e0]
      unfold madL normL
      rw [e2.1]
      by_cases e : madE (pairL a b c v) = 0
      · simp only [if_pos e]
      · simp only [if_neg e]
  · have e1 : joinE a b c v = 5 := by unfold joinE; rw [if_neg k]
    have e2 : madE (pairL a b c v) = 5 := by
      unfold madE
      rw [hd.all hz, if_neg]
      intro k2
      apply k
      rw [List.all_eq_true] at k2 ⊢
      intro x hx
      have := k2 x hx
      simp only [Bool.and_eq_true] at this
      exact this.2
    refine ⟨by rw [e1, e2], ?_⟩
    unfold joinF madL
    rw [e1, e2]
    rfl

/-- The numbers of a column, each once. -/
def keyL (a : List Zit) (c : Int) : List Int := onceL (a.map fun x => atI x.1 c)
def ofK (a : List Zit) (c key : Int) : List Zit := a.filter fun y => decide (atI y.1 c = key)
theorem grp_keys (c : Int) : ∀ (m : List Zit) (G : List (Int × List Zit)), ∀ g ∈ m.foldl (fun g x => putG g (atI x.1 c) x) G, (∃ z ∈ G, z.1 = g.1) ∨ ∃ x ∈ m, atI x.1 c = g.1
  | [], G, g, hg => Or.inl ⟨g, hg, rfl⟩
  | y :: m, G, g, hg => by
    rcases grp_keys c m (putG G (atI y.1 c) y) g hg with ⟨z, hz, e⟩ | ⟨x, hx, e⟩
    · rcases putG_mem _ _ _ _ hz with k | ⟨z2, h2, k⟩
      · exact Or.inr ⟨y, List.mem_cons_self .., by rw [← e, k]⟩
      · exact Or.inl ⟨z2, h2, by rw [k, e]⟩
    · exact Or.inr ⟨x, List.mem_cons_of_mem _ hx, e⟩
theorem grp_perm (a : List Zit) (c : Int) : (grpL a c).Perm ((keyL a c).map fun key => (key, ofK a c key)) := by
  have I := grpL_inv a c
  have e : grpL a c = ((grpL a c).map (·.1)).map fun key => (key, ofK a c key) := by
    rw [List.map_map]
    conv => lhs; rw [← List.map_id (grpL a c)]
    refine List.map_congr_left fun g hg => ?_
    exact Prod.ext rfl (I.pick g hg)
  rw [e]
  refine List.Perm.map _ ?_
  obtain ⟨h1, h2⟩ := once_good (a.map fun x => atI x.1 c)
  refine (List.perm_ext_iff_of_nodup (List.pairwise_map.2 I.uniq) (List.Pairwise.imp (fun {x y} (h : x < y) (e : x = y) => by omega) h1)).2 fun k => ?_
  rw [h2]
  constructor
  · intro hk
    obtain ⟨g, hg, rfl⟩ := List.mem_map.1 hk
    rcases grp_keys c a [] g hg with ⟨z, hz, _⟩ | ⟨x, hx, e⟩
    · cases hz
    · exact List.mem_map.2 ⟨x, hx, e⟩
  · intro hk
    obtain ⟨x, hx, rfl⟩ := List.mem_map.1 hk
    obtain ⟨g, hg, e⟩ := I.all x hx
    exact List.mem_map.2 ⟨g, hg, e⟩
theorem grp_made {f : Int × List Zit → Option Zit} (hf : ∀ g z, f g = some z → z.2 = 1 ∧ ∃ n, z.1 = [g.1, n]) {a : List Zit} (h4 : a.length ≤ 400) (c : Int) :
    normE ((grpL a c).filterMap f) = madE ((keyL a c).filterMap fun key => f (key, ofK a c key)) ∧ normL ((grpL a c).filterMap f) = madL ((keyL a c).filterMap fun key => f (key, ofK a c key)) := by
  have hp : ((grpL a c).filterMap f).Perm ((keyL a c).filterMap fun key => f (key, ofK a c key)) := by
    have := (grp_perm a c).filterMap f
    rwa [List.filterMap_map] at this
  have hd : Dis ((grpL a c).filterMap f) := by
    refine List.pairwise_filterMap.2 (List.Pairwise.imp (fun {g h} (hgh : g.1 ≠ h.1) x hx y hy e => hgh ?_) (grpL_inv a c).uniq)
    obtain ⟨_, n, e1⟩ := hf g x hx
    obtain ⟨_, m, e2⟩ := hf h y hy
    rw [e1, e2] at e
    injection e
  have hz : NoZ ((grpL a c).filterMap f) := fun x hx => by
    obtain ⟨g, _, e⟩ := List.mem_filterMap.1 hx
    rw [(hf g x e).1]; decide
  have hl : ¬ 400 < ((grpL a c).filterMap f).length := by
    have h1 := List.length_filterMap_le f (grpL a c)
    have h2 := (grp_perm a c).length_eq
    rw [List.length_map] at h2
    have h3 : (keyL a c).length ≤ a.length := by
      unfold keyL
      have := onceL_len (a.map fun x => atI x.1 c)
      rwa [List.length_map] at this
    omega
  obtain ⟨e1, e2⟩ := norm_dis hd hz hl
  obtain ⟨e3, e4⟩ := madE_same hp
  exact ⟨e1.trans e3, e2.trans e4⟩
theorem cntG_one : ∀ g z, cntG g = some z → z.2 = 1 ∧ ∃ n, z.1 = [g.1, n] := fun g z h => by
  unfold cntG at h
  split at h
  · cases h
  · injection h with h; subst h; exact ⟨rfl, _, rfl⟩
theorem sumG_one (v : Int) : ∀ g z, sumG v g = some z → z.2 = 1 ∧ ∃ n, z.1 = [g.1, n] := fun g z h => by
  unfold sumG at h
  split at h
  · cases h
  · injection h with h; subst h; exact ⟨rfl, _, rfl⟩

/-- What viewref.made makes of one or two sets. -/
def madeS (s : Stp) (a b : List Zit) : List Zit := if s.k = 2 then whereL a s.c s.o s.v else if s.k = 3 then pickL a s.l else if s.k = 4 then pairL a b s.c s.v else if s.k = 5 then a ++ b else if s.k = 6 then a ++ negP b else if s.k = 7 then distL a else if s.k = 8 then (keyL a s.c).filterMap (fun key => cntG (key, ofK a s.c key)) else (keyL a s.c).filterMap fun key => sumG s.v (key, ofK a s.c key)
def refS (s : Stp) (a b : List Zit) (S : List (List Zit)) : List Zit := if s.k = 1 then tabF s a b else madeS s (getS S s.a) (getS S s.b)
theorem par4w {s : Stp} {ah : List Int} (h : widW s ah ≠ 0) (k : s.k = 4) : ah.getD s.a.toNat 0 + ah.getD s.b.toNat 0 ≤ 8 := by
  rw [wid4 k] at h
  obtain ⟨h1, _⟩ := ite_parts h
  simp only [Bool.and_eq_true, decide_eq_true_eq] at h1
  omega
theorem okR_pick {cols r : List Int} (h : cols.length ≤ 8) (hr : okR r = true) : okR (pickR cols r) = true := by
  unfold okR pickR
  simp only [Bool.and_eq_true, decide_eq_true_eq, List.all_eq_true, List.length_map]
  refine ⟨h, fun x hx => ?_⟩
  obtain ⟨c, _, rfl⟩ := List.mem_map.1 hx
  exact okN_at hr
theorem okR_both {x y : List Int} (hl : x.length + y.length ≤ 8) (hx : okR x = true) (hy : okR y = true) : okR (x ++ y) = true := by
  unfold okR at hx hy ⊢
  simp only [Bool.and_eq_true, decide_eq_true_eq] at hx hy ⊢
  exact ⟨by rw [List.length_append]; exact hl, by rw [List.all_append, hx.2, hy.2]; rfl⟩
theorem tell_made {s : Stp} {ah : List Int} {S : List (List Zit)} {a b : List Zit} (h : widW s ah ≠ 0) (hS : Ahd S ah) (ha : errZ a = 0) (hb : errZ b = 0) : tellE s a b S = madE (refS s a b S) ∧ tellF s a b S = madL (refS s a b S) := by
  have key : ∀ {l : List Zit}, errZ l = 0 → ¬ 400 < l.length ∧ ∀ x ∈ l, okR x.1 = true ∧ okW x.2 = true := fun {l} e => by
    obtain ⟨h1, h2, _⟩ := (errZ_iff l).1 e
    exact ⟨by omega, fun x hx => ⟨(okZ_parts (h2 x hx)).1, (okZ_parts (h2 x hx)).2.1⟩⟩
  rcases kinds h with k | k | k | k | k | k | k | k | k
  · have e : errZ (tabF s a b) = 0 := by unfold tabF; split <;> assumption
    have := norm_made (key e).1 (key e).2
    simpa [tellE, tellF, refS, k] using this
  · obtain ⟨_, _, e, _⟩ := hS.at (par2 h k).1
    have hl := List.length_filter_le (fun x => toB (atI x.1 s.c) s.o s.v) (getS S s.a)
    have := norm_made (m := whereL (getS S s.a) s.c s.o s.v) (by have := (key e).1; unfold whereL; omega) fun x hx => (key e).2 x (List.mem_filter.1 hx).1
    simpa [tellE, tellF, refS, madeS, oneF, k] using this
  · obtain ⟨p1, p2, _⟩ := par3 h k
    obtain ⟨_, _, e, _⟩ := hS.at p1
    have := norm_made (m := pickL (getS S s.a) s.l) (by have := (key e).1; unfold pickL; rw [List.length_map]; exact this) fun x hx => by
      obtain ⟨y, hy, rfl⟩ := List.mem_map.1 hx
      exact ⟨okR_pick p2 ((key e).2 y hy).1, ((key e).2 y hy).2⟩
    simpa [tellE, tellF, refS, madeS, oneF, k] using this
  · obtain ⟨p1, p2, _, _, p5⟩ := par4 h k
    obtain ⟨_, _, e, w1⟩ := hS.at p1
    obtain ⟨_, _, f, w2⟩ := hS.at p2
    have hw := par4w h k
    have := join_made e f w1 s.c s.v fun x hx => by
      unfold pairL at hx
      obtain ⟨y, hy, h2⟩ := List.mem_flatMap.1 hx
      obtain ⟨z, hz, rfl⟩ := List.mem_map.1 h2
      have hz' := (List.mem_filter.1 hz).1
      exact okR_both (by have h3 := w1 y hy; have h4 := w2 z hz'; omega) ((key e).2 y hy).1 ((key f).2 z hz').1
    simpa [tellE, tellF, refS, madeS, k] using this
  · obtain ⟨p1, p2, _⟩ := par5 h k
    obtain ⟨_, _, e, _⟩ := hS.at p1
    obtain ⟨_, _, f, _⟩ := hS.at p2
    have := add_made e f
    simpa [tellE, tellF, refS, madeS, k] using this
  · obtain ⟨p1, p2, _⟩ := par6 h k
    obtain ⟨_, _, e, _⟩ := hS.at p1
    obtain ⟨_, _, f, _⟩ := hS.at p2
    have f2 : errZ (negP (getS S s.b)) = 0 := negL_ok f
    have := add_made e f2
    have e1 : minE (getS S s.a) (getS S s.b) = madE (getS S s.a ++ negP (getS S s.b)) := by unfold minE; rw [if_pos f]; exact this.1
    have e2 : minF (getS S s.a) (getS S s.b) = madL (getS S s.a ++ negP (getS S s.b)) := by
      unfold minF
      rw [e1, this.2]
      unfold madL
      by_cases z : madE (getS S s.a ++ negP (getS S s.b)) = 0
      · simp only [if_pos z]
      · simp only [if_neg z]
    simpa [tellE, tellF, refS, madeS, k] using And.intro e1 e2
  · obtain ⟨_, _, e, _⟩ := hS.at (par7 h k).1
    have hl := List.length_filter_le (fun x : Zit => decide (0 < x.2)) (getS S s.a)
    have := norm_made (m := distL (getS S s.a)) (by have := (key e).1; unfold distL; rw [List.length_map]; omega) fun x hx => by
      obtain ⟨y, hy, rfl⟩ := List.mem_map.1 hx
      exact ⟨((key e).2 y (List.mem_filter.1 hy).1).1, rfl⟩
    simpa [tellE, tellF, refS, madeS, oneF, k] using this
  · obtain ⟨_, _, e, _⟩ := hS.at (par8 h k).1
    have := grp_made cntG_one (a := getS S s.a) (by have := (key e).1; omega) s.c
    simpa [tellE, tellF, refS, madeS, oneF, countL, k] using this
  · obtain ⟨_, _, e, _⟩ := hS.at (par9 h k).1
    have := grp_made (sumG_one s.v) (a := getS S s.a) (by have := (key e).1; omega) s.c
    simpa [tellE, tellF, refS, madeS, oneF, sumL, k] using this
end Go.Proofs.YtoanlaedkpkpnaaGreatDoor

namespace Go.Proofs.YtoanlaedkpkpnaaGreatDoor
open Go.RowKit Go.Sort Go.Shelf Go.Lib

theorem cell_set {w : World} {B j j' : Nat} {u x : Value} (hx : w.cell? ⟨B, j', none⟩ = some x) : (w.setCell ⟨B, j, none⟩ u).cell? ⟨B, j', none⟩ = some (if j' = j then u else x) := by
  by_cases h : j' = j
  · subst h; rw [if_pos rfl]; exact World.cell?_setCell_same _ _ _ hx
  · rw [if_neg h, World.cell?_setCell_other _ _ _ _ (by intro e; injection e with e1 e2; exact h e2.symm)]; exact hx
theorem compact_last (d : Array Int) : ∀ m, (compactUpTo d (m + 1)).getLast? = some d[m]!
  | 0 => by simp [compactUpTo, keeps]
  | m + 1 => by
    have ih := compact_last d m
    rw [compactUpTo_succ]
    by_cases hk : keeps d (m + 1)
    · simp [hk]
    · rw [if_neg hk, List.append_nil, ih]
      have : d[m + 1]! = d[m]! := by
        simp [keeps] at hk
        exact hk
      rw [this]
theorem compact_pos (d : Array Int) (m : Nat) : 0 < (compactUpTo d (m + 1)).length := by
  have := compact_last d m
  cases h : compactUpTo d (m + 1) with
  | nil => rw [h] at this; cases this
  | cons x l => simp
theorem compact_lastAt (d : Array Int) (m : Nat) {k : Nat} (hk : (compactUpTo d (m + 1)).length = k + 1) : ∃ h : k < (compactUpTo d (m + 1)).length, (compactUpTo d (m + 1))[k] = d[m]! := by
  refine ⟨by omega, ?_⟩
  have := compact_last d m
  rw [List.getLast?_eq_getElem?, hk, Nat.add_sub_cancel, List.getElem?_eq_getElem (by omega)] at this
  exact Option.some.inj this

/-- The loop of once, m places on: the first cells hold what was kept, the cells from m on what they held. -/
structure OnceAt (W : World) (g : Nat) (d : List Int) (m : Nat) : Prop where
  head : ∀ j (h : j < (compactUpTo d.toArray m).length), W.cell? ⟨g, j, none⟩ = some (.int .i64 (compactUpTo d.toArray m)[j])
  rest : ∀ j (h : j < d.length), m ≤ j → W.cell? ⟨g, j, none⟩ = some (.int .i64 d[j])
  mid : ∀ j (_ : j < d.length), ∃ x : Int, W.cell? ⟨g, j, none⟩ = some (.int .i64 x)
  fz : ∀ j, j < d.length → W.frozen? ⟨g, j, none⟩ = false
  lt : g < W.heap.size
theorem OnceAt.gr {W W' : World} {g : Nat} {d : List Int} {m : Nat} (h : OnceAt W g d m) (k : Gr W W') : OnceAt W' g d m :=
  ⟨fun j hj => (k.cell (p := ⟨g, j, none⟩) h.lt).trans (h.head j hj), fun j hj hm => (k.cell (p := ⟨g, j, none⟩) h.lt).trans (h.rest j hj hm), fun j hj => by obtain ⟨x, hx⟩ := h.mid j hj; exact ⟨x, (k.cell (p := ⟨g, j, none⟩) h.lt).trans hx⟩, fun j hj => (k.below.frozen (p := ⟨g, j, none⟩) h.lt).trans (h.fz j hj), Nat.lt_of_lt_of_le h.lt k.size⟩
theorem OnceAt.start {W : World} {g : Nat} {d : List Int} (h : Holds (Value.int .i64) W g 0 d.toArray) (hg : g < W.heap.size) : OnceAt W g d 0 := by
  have hc : ∀ j (hj : j < d.length), W.cell? ⟨g, j, none⟩ = some (.int .i64 d[j]) := fun j hj => by
    have h0 := (h j (by simpa using hj)).1
    rw [Nat.zero_add] at h0
    have e : d.toArray[j]! = d[j] := by simp [hj]
    rw [e] at h0
    exact h0
  refine ⟨fun j hj => ?_, fun j hj _ => hc j hj, fun j hj => ⟨_, hc j hj⟩, fun j hj => ?_, hg⟩
  · simp [compactUpTo] at hj
  · have h0 := (h j (by simpa using hj)).2
    rw [Nat.zero_add] at h0
    exact h0
theorem OnceAt.skip {W : World} {g : Nat} {d : List Int} {m : Nat} (h : OnceAt W g d m) (hk : keeps d.toArray m = false) : OnceAt W g d (m + 1) := by
  have e : compactUpTo d.toArray (m + 1) = compactUpTo d.toArray m := by rw [compactUpTo_succ, hk]; simp
  refine ⟨fun j hj => ?_, fun j hj hm => h.rest j hj (by omega), h.mid, h.fz, h.lt⟩
  have hj' : j < (compactUpTo d.toArray m).length := by rw [← e]; exact hj
  have e2 : (compactUpTo d.toArray (m + 1))[j] = (compactUpTo d.toArray m)[j] := by simp only [e]
  rw [e2]
  exact h.head j hj'
theorem OnceAt.keep {W : World} {g : Nat} {d : List Int} {m : Nat} (h : OnceAt W g d m) (hm : m < d.length) (hk : keeps d.toArray m = true) {k : Nat} (hkl : (compactUpTo d.toArray m).length = k) : OnceAt (W.setCell ⟨g, k, none⟩ (.int .i64 d[m])) g d (m + 1) := by
  have e : compactUpTo d.toArray (m + 1) = compactUpTo d.toArray m ++ [d[m]] := by
    rw [compactUpTo_succ, hk]
    simp [hm]
  have hle := compactUpTo_le d.toArray m
  refine ⟨fun j hj => ?_, fun j hj hmj => ?_, fun j hj => ?_, fun j hj => ?_, by simpa [World.setCell] using h.lt⟩
  · have hjl : j < (compactUpTo d.toArray m ++ [d[m]]).length := by rw [← e]; exact hj
    have e2 : (compactUpTo d.toArray (m + 1))[j]'hj = (compactUpTo d.toArray m ++ [d[m]])[j]'hjl := by simp only [e]
    rw [e2]
    rw [List.length_append, List.length_singleton] at hjl
    by_cases hjk : j = k
    · subst hjk
      obtain ⟨x, hx⟩ := h.mid j (by omega)
      rw [cell_set hx, if_pos rfl]
      simp [hkl]
    · have hj' : j < (compactUpTo d.toArray m).length := by omega
      rw [cell_set (h.head j hj'), if_neg hjk, List.getElem_append_left hj']
  · rw [cell_set (h.rest j hj (by omega)), if_neg (by omega)]
  · obtain ⟨x, hx⟩ := h.mid j hj
    rw [cell_set hx]
    by_cases hjk : j = k
    · exact ⟨d[m], by rw [if_pos hjk]⟩
    · exact ⟨x, by rw [if_neg hjk]⟩
  · simp only [World.frozen?_setCell]; exact h.fz j hj

set_option maxRecDepth 100000 in
set_option maxHeartbeats 1000000 in
theorem once_any (l : List Int) (A : Option Addr) (cap : Nat) (w : World) (hr : RowI w A l) (hA : A = none → cap = 0) (hsz : l.length * 8 ≤ 140737488355328) :
    Calls Tryz.prog 51 #[.slice A l.length cap] w fun e w' => ∃ C cp, e = .returned (.slice C (onceL l).length cp) ∧ RowI w' C (onceL l) ∧ Below w.heap.size w w' := by
  have mixed : Tryz.prog.follows .mixedOrders = true := by kernel_rfl
  have hbd : Hid (([] : List Int).length + l.length ≤ maxLen ∧ (([] : List Int).length + l.length) * 8 ≤ 140737488355328) := by show _ ∧ _; unfold maxLen; simp only [List.length_nil]; omega
  go_enter Tryz.func51, Tryz.ntmps51
  go_wp2_with (at_builtin; refine wpList_append_i _ rfl _ _ rfl w.heap.size (.slice none 0 0) [] l A cap rfl rfl (OwnG.nil _ _ _ _ _) hr hA hbd.out.1 hbd.out.2 (Nat.le_refl _) ?_; intro v1 w1 hown1 hgr1)
  have hb1 : Below w.heap.size w w1 := below_none hgr1
  have hown : OwnI w1 w.heap.size v1 l := hown1
  obtain ⟨B, cb, rfl, hB, hrow, hcap, hlt, hfz⟩ := OwnG.full encI_len hown
  clear hown1 hgr1 hown
  by_cases h0 : l = []
  · subst h0
    have hz : onceL [] = [] := List.eq_nil_of_length_eq_zero (Nat.le_zero.1 (onceL_len []))
    have hfin : Hid (onceL [] = []) := hz
    clear hz
    refine Calls.mono (show Calls _ _ _ _ _ from sort_none _ _ _) ?_
    rintro e w2 ⟨rfl, rfl⟩
    go_wp2
    go_loopw [4, 5] (fun kv iv wr => kv = .int .i64 0 ∧ iv = .int .i64 0 ∧ wr = w2) (fun _ _ _ => 0)
    case atStart => exact ⟨rfl, rfl, rfl⟩
    case round =>
      obtain ⟨rfl, rfl, rfl⟩ := hrel
      go_wp2
      go_ret
      rw [hfin.out]
      exact ⟨B, cb, rfl, Or.inl rfl, hb1⟩
  · have hpos : 0 < l.length := List.length_pos_iff.2 h0
    obtain ⟨b, off, hAe, hb, _⟩ := hrow.at hpos
    subst hAe
    have h5 := hlt _ rfl
    obtain rfl : off = 0 := h5.2.2.1
    have hH := holdsI hrow (hfz _ rfl)
    have hs := sortI b cb l w1 hH hb (by omega)
    refine Calls.mono (show Calls _ _ _ _ _ from hs) ?_
    rintro e w2 ⟨rfl, hH2, hg2, hb2⟩
    have hbw2 : Below w.heap.size w w2 := hb1.trans (hb2 _ h5.1)
    have hon := OnceAt.start hH2 hg2
    have hlen : (l.mergeSort fun x y => decide (x ≤ y)).length = l.length := by simp
    have hone : Hid (onceL l = compactUpTo (l.mergeSort fun x y => decide (x ≤ y)).toArray l.length) := by show onceL l = _; unfold onceL compact; rw [hlen]
    obtain ⟨d, hd⟩ : ∃ d, (l.mergeSort fun x y => decide (x ≤ y)) = d := ⟨_, rfl⟩
    rw [hd] at hon hlen hone
    have hbg : w.heap.size ≤ b := h5.1
    clear hs hH hH2 hb2 hb1 hd h5 hrow hlt hfz hB h0
    have hlenH : Hid (d.length = l.length) := hlen
    have hcapz : (l.length : Int) ≤ (cb : Int) := by omega
    go_wp2
    go_loopw [4, 5] (fun kv iv wr => ∃ m : Nat, m ≤ l.length ∧ kv = .int .i64 ((compactUpTo d.toArray m).length : Nat) ∧ iv = .int .i64 m ∧ OnceAt wr b d m ∧ Below w.heap.size w wr) (fun _ iv _ => l.length - (intOf iv).toNat)
    case atStart => exact ⟨0, by omega, by simp [compactUpTo], rfl, hon, hbw2⟩
    case round =>
      obtain ⟨m, hm, rfl, rfl, hat, hbel⟩ := hrel
      have hKle := compactUpTo_le d.toArray m
      have hbs := hbel.size
      by_cases hlt : m < l.length
      · have hltz : (m : Int) < (l.length : Int) := by omega
        have hmd : m < d.length := by omega
        cases m with
        | zero =>
          have hK0 : (compactUpTo d.toArray 0).length = 0 := by simp [compactUpTo]
          have hkeep := hat.keep hmd (by simp [keeps]) hK0
          rw [hK0]
          obtain ⟨x, hx⟩ : ∃ x, d[0] = x := ⟨_, rfl⟩
          have hx1 : Hid ((compactUpTo d.toArray 1).length = 1) := by show _ = _; simp [compactUpTo, keeps]
          have c0 := hat.rest 0 hmd (Nat.le_refl _)
          rw [hx] at c0
          have cG := cell_grown (a := ⟨b, 0, none⟩) hat.lt c0
          have hatH : Hid (OnceAt wr b d 0) := hat
          have hxH : Hid (d[0] = x) := hx
          clear hkeep hat hon hx
          go_wp2
          refine wp_region_quiet_grown mixed (by kernel_rfl) ?_
          repeat (go_big_quiet_step (fail))
          refine wpQuiet_nil ?_
          rintro _ ⟨⟨nq, osq⟩, rfl⟩
          have hat3 := hatH.out.gr ⟨nq, osq, rfl⟩
          have hb3 : Below w.heap.size w (grow (wr.drewN nq) osq) := hbel.trans ((Gr.below ⟨nq, osq, rfl⟩).mono hbs)
          clear hatH cG c0
          generalize grow (wr.drewN nq) osq = w3 at hat3 hb3 ⊢
          have hk3 := hat3.keep hmd (by simp [keeps]) hK0
          rw [hxH.out] at hk3
          have c3 := hat3.rest 0 hmd (Nat.le_refl _)
          rw [hxH.out] at c3
          have f3 := hat3.fz 0 hmd
          have hk3H : Hid _ := hk3
          have hb4 : Hid (Below w.heap.size w (w3.setCell ⟨b, 0, none⟩ (.int .i64 x))) := hb3.setCell hbg _
          clear hk3 hat3
          go_wp2
          go_roundw
          case rel => exact ⟨1, by omega, by rw [hx1.out]; go_num, by go_num, hk3H.out, hb4.out⟩
          case measure => simp [intOf]; omega
        | succ m' =>
          have hpos := compact_pos d.toArray m'
          obtain ⟨k, hk⟩ : ∃ k, (compactUpTo d.toArray (m' + 1)).length = k + 1 := ⟨(compactUpTo d.toArray (m' + 1)).length - 1, by omega⟩
          obtain ⟨hkl, hlast⟩ := compact_lastAt d.toArray m' hk
          have hmd' : m' < d.length := by omega
          have e0 : d.toArray[m']! = d[m'] := by simp [hmd']
          have e1 : d.toArray[m' + 1]! = d[m' + 1] := by simp [hmd]
          rw [e0] at hlast
          obtain ⟨x, hx⟩ : ∃ x, d[m' + 1] = x := ⟨_, rfl⟩
          obtain ⟨y, hy⟩ : ∃ y, d[m'] = y := ⟨_, rfl⟩
          have hkp : keeps d.toArray (m' + 1) = !(x == y) := by
            unfold keeps
            rw [Nat.add_sub_cancel, e0, e1, hx, hy]
            by_cases h : x = y <;> simp [h]
          have cm := hat.rest (m' + 1) hmd (Nat.le_refl _)
          rw [hx] at cm
          have ck := hat.head k hkl
          rw [hlast, hy] at ck
          have cmG := cell_grown (a := ⟨b, m' + 1, none⟩) hat.lt cm
          have ckG := cell_grown (a := ⟨b, k, none⟩) hat.lt ck
          have hatH : Hid (OnceAt wr b d (m' + 1)) := hat
          have hxH : Hid (d[m' + 1] = x) := hx
          rw [hk] at hKle ⊢
          have hkH : Hid ((compactUpTo d.toArray (m' + 1)).length = k + 1) := hk
          have hkz : ((k + 1 : Nat) : Int) - 1 = (k : Int) := by omega
          have hkz2 : ((k + 1 : Nat) : Int) = (k : Int) + 1 := by omega
          have hmz2 : ((m' + 1 : Nat) : Int) = (m' : Int) + 1 := by omega
          have hklz : (k : Int) < (l.length : Int) := by omega
          have hk1z : (k : Int) + 1 < (l.length : Int) := by omega
          have hmlz : (m' : Int) + 1 < (l.length : Int) := by omega
          have hm0 : ((m' : Int) + 1 == 0) = false := beq_eq_false_iff_ne.2 (by omega)
          have hd1 : k + 1 < d.length := by omega
          clear hat hon hx hy e0 e1 hlast hk hpos hltz hkl
          cases hq : (x == y)
          · have hkp1 : Hid (keeps d.toArray (m' + 1) = true) := by show _ = true; rw [hkp, hq]; rfl
            clear hkp
            go_wp2
            refine wp_region_quiet_grown mixed (by kernel_rfl) ?_
            repeat (go_big_quiet_step (fail))
            refine wpQuiet_nil ?_
            rintro _ ⟨⟨nq, osq⟩, rfl⟩
            have hat3 := hatH.out.gr ⟨nq, osq, rfl⟩
            have hb3 : Below w.heap.size w (grow (wr.drewN nq) osq) := hbel.trans ((Gr.below ⟨nq, osq, rfl⟩).mono hbs)
            clear hatH cm ck cmG ckG
            generalize grow (wr.drewN nq) osq = w3 at hat3 hb3 ⊢
            have hk3 := hat3.keep hmd hkp1.out hkH.out
            rw [hxH.out] at hk3
            have c3 := hat3.rest (m' + 1) hmd (Nat.le_refl _)
            rw [hxH.out] at c3
            obtain ⟨z, cz⟩ := hat3.mid (k + 1) hd1
            have f3 := hat3.fz (k + 1) hd1
            have hk3H : Hid _ := hk3
            have hlen3 : Hid ((compactUpTo d.toArray (m' + 1 + 1)).length = k + 1 + 1) := by show _ = _; rw [compactUpTo_succ, hkp1.out, List.length_append, hkH.out]; rfl
            have hb4 : Hid (Below w.heap.size w (w3.setCell ⟨b, k + 1, none⟩ (.int .i64 x))) := hb3.setCell hbg _
            clear hk3 hat3
            go_wp2
            go_roundw
            case rel => exact ⟨m' + 1 + 1, by omega, by rw [hlen3.out]; go_num, by go_num, hk3H.out, hb4.out⟩
            case measure => simp [intOf]; omega
          · have hkp1 : Hid (keeps d.toArray (m' + 1) = false) := by show _ = false; rw [hkp, hq]; rfl
            clear hkp
            go_wp2
            refine wp_region_quiet_grown mixed (by kernel_rfl) ?_
            repeat (go_big_quiet_step (fail))
            refine wpQuiet_nil ?_
            rintro _ ⟨⟨nq, osq⟩, rfl⟩
            have hat3 := hatH.out.gr ⟨nq, osq, rfl⟩
            have hb3 : Hid (Below w.heap.size w (grow (wr.drewN nq) osq)) := hbel.trans ((Gr.below ⟨nq, osq, rfl⟩).mono hbs)
            have hk3H : Hid _ := hat3.skip hkp1.out
            have hlen3 : Hid ((compactUpTo d.toArray (m' + 1 + 1)).length = k + 1) := by show _ = _; rw [compactUpTo_succ, hkp1.out, List.length_append, hkH.out]; rfl
            clear hatH cm ck cmG ckG hat3
            go_wp2
            go_roundw
            case rel => exact ⟨m' + 1 + 1, by omega, by rw [hlen3.out], by go_num, hk3H.out, hb3.out⟩
            case measure => simp [intOf]; omega
      · have hltz : ¬ (m : Int) < (l.length : Int) := by omega
        obtain rfl : m = l.length := by omega
        obtain ⟨K, hK⟩ : ∃ K, (compactUpTo d.toArray l.length).length = K := ⟨_, rfl⟩
        have hKH : Hid (onceL l = compactUpTo d.toArray l.length ∧ (compactUpTo d.toArray l.length).length = K) := ⟨hone.out, hK⟩
        rw [hK] at hKle ⊢
        have hKz : (K : Int) ≤ (cb : Int) := by omega
        have hrow : RowI wr (some ⟨b, 0, none⟩) (onceL l) := by
          refine Or.inr ⟨b, 0, rfl, hat.lt, fun j hj i hi => ?_⟩
          obtain rfl : i = 0 := by omega
          have hj' : j < (compactUpTo d.toArray l.length).length := by rw [← hone.out]; exact hj
          have e : (onceL l)[j] = (compactUpTo d.toArray l.length)[j] := by simp only [hone.out]
          rw [e]
          have := hat.head j hj'
          simpa [encI] using this
        have hrowH : Hid _ := hrow
        clear hrow hat hon hK
        go_wp2
        go_ret
        refine ⟨some ⟨b, 0, none⟩, ⟨cb, ?_⟩, hrowH.out, hbel⟩
        rw [hKH.out.1, hKH.out.2]
        rfl

end Go.Proofs.YtoanlaedkpkpnaaGreatDoor
