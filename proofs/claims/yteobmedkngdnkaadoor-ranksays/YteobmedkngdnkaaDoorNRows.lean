/-
  rank.Rows.
-/
import Derived.Test.YteobmedkngdnkaaDoorNSort
import Derived.Test.YteobmedkngdnkaaDoorNFirst
namespace Go.Proofs.YteobmedkngdnkaaDoor
open Go.RowKit Go.Sort

theorem errZ_wide {l : List Zit} (h : errZ l = 0) : ∀ x ∈ l, x.1.length ≤ 8 := fun x hx => by
  have h1 := (okZ_parts (((errZ_iff l).1 h).2.1 x hx)).1
  unfold okR at h1
  simp only [Bool.and_eq_true, decide_eq_true_eq] at h1
  omega
theorem widB_small {l : List Zit} (h : errZ l = 0) : 0 ≤ widB l ∧ widB l ≤ 8 := by
  unfold widB
  split
  · omega
  · cases l with
    | nil => simp
    | cons x t =>
      have := errZ_wide h x (List.mem_cons_self ..)
      simp
      omega
theorem chk_parts {l : List Zit} (h : chkN l = 0) : errZ l = 0 ∧ fitB l = true := by
  unfold chkN at h
  by_cases h1 : errZ l = 0
  · rw [if_pos h1] at h
    by_cases h2 : fitB l = true
    · exact ⟨h1, h2⟩
    · rw [if_neg h2] at h; cases h
  · rw [if_neg h1] at h; exact absurd h h1
theorem rnk_chk (l : List Zit) (cs : List Int) (most : Int) : rnkE l cs most = if chkN l = 0 then (if (colsB cs (widB l) && inB most 0 400) = true then 0 else 1) else chkN l := by
  unfold rnkE chkN
  by_cases h1 : errZ l = 0
  · rw [if_pos h1, if_pos h1]
    by_cases h2 : fitB l = true
    · rw [if_pos h2, if_pos h2, if_pos rfl]
    · rw [if_neg h2, if_neg h2]; rfl
  · rw [if_neg h1, if_neg h1, if_neg h1]
/-- Some rows in memory. -/
structure Rws (w : World) (base : Nat) (v : Value) (R : List (List Int)) : Prop where
  has : ∃ L : List Itm, OwnR w base v L ∧ L.map Itm.r = R
theorem Rws.below {w w' : World} {base : Nat} {v : Value} {R : List (List Int)} (h : Rws w base v R) (q : Below w.heap.size w w') : Rws w' base v R := by
  obtain ⟨L, h1, h2⟩ := h.has
  exact ⟨L, h1.below q, h2⟩

set_option maxRecDepth 100000 in
set_option maxHeartbeats 2000000 in
theorem rows_any (l : List Itm) (A : Option Addr) (cap : Nat) (cs : List Int) (CA : Option Addr) (cc : Nat) (most : Int) (w : World) (h : Lv w A cap l) (hc : RowI w CA cs) (hcl : cs.length ≤ maxLen) :
    Calls Tryd.prog 4 #[.slice A l.length cap, .slice CA cs.length cc, .int .i64 most] w fun e w' => ∃ v, e = .returned (.tuple #[v, .int .i64 (rnkE (l.map Itm.z) cs most)]) ∧ Rws w' w.heap.size v (rnkL (l.map Itm.z) cs most) ∧ Below w.heap.size w w' := by
  obtain ⟨E, hE⟩ : ∃ E, rnkE (l.map Itm.z) cs most = E := ⟨_, rfl⟩
  obtain ⟨R, hR⟩ : ∃ R, rnkL (l.map Itm.z) cs most = R := ⟨_, rfl⟩
  obtain ⟨D, hD⟩ : ∃ D, chkN (l.map Itm.z) = D := ⟨_, rfl⟩
  have hC0 := checkItems_any l A cap w h
  rw [hD] at hC0
  rw [hE, hR]
  have hC : Hid _ := hC0
  have hEQ : Hid (E = if D = 0 then (if (colsB cs (widB (l.map Itm.z)) && inB most 0 400) = true then 0 else 1) else D) := by show _ = _; rw [← hE, rnk_chk, hD]
  have hRQ : Hid (R = if E = 0 then (rowsB cs (l.map Itm.z)).take most.toNat else []) := by show _ = _; rw [← hR, ← hE]; rfl
  have hH : Hid (Lv w A cap l ∧ RowI w CA cs ∧ cs.length ≤ maxLen ∧ chkN (l.map Itm.z) = D) := ⟨h, hc, hcl, hD⟩
  have hnil : Hid (∀ W, ¬ E = 0 → Rws W w.heap.size (.slice none 0 0) R) := fun W h0 => by
    rw [hRQ.out, if_neg h0]
    exact ⟨[], OwnR.nil _ _, rfl⟩
  clear hC0 h hc hcl hE hR hD
  go_enter Tryd.func4, Tryd.ntmps4
  go_wp2_with fail
  refine Calls.mono (show Calls _ _ _ _ _ from hC.out) ?_
  rintro e w1 ⟨rfl, hg1⟩
  have hg1H : Hid (Gr w w1) := hg1
  clear hC hg1
  by_cases hD0 : D = 0
  rotate_left
  focus
    have hDb : (D != 0) = true := by simpa using hD0
    have hfin : Hid (D = E ∧ ¬ E = 0) := by
      have : E = D := by rw [hEQ.out, if_neg hD0]
      exact ⟨this.symm, by rw [this]; exact hD0⟩
    clear hD0
    go_wp2
    go_ret2
    exact ⟨.slice none 0 0, by rw [hfin.out.1]; rfl, hnil.out _ hfin.out.2, hg1H.out.below⟩
  obtain ⟨ez, fz⟩ := chk_parts (hH.out.2.2.2.trans hD0)
  have hDb : (D != 0) = false := by simpa using hD0
  have hF : Hid (errZ (l.map Itm.z) = 0 ∧ fitB (l.map Itm.z) = true) := ⟨ez, fz⟩
  have hl4 : l.length ≤ 400 := by have := ((errZ_iff _).1 ez).1; simpa using this
  have hE2 : Hid (E = if (colsB cs (widB (l.map Itm.z)) && inB most 0 400) = true then 0 else 1) := by show _ = _; rw [hEQ.out, if_pos hD0]
  have hws := widB_small ez
  have hw0 := widthOf_any l A cap w1 hH.out.1.len (hH.out.1.gr hg1H.out).items
  unfold widN at hw0
  have hk0 := areColumns_any cs CA cc (widB (l.map Itm.z)) w1 hH.out.2.2.1 ⟨hws.1, by omega⟩ (hH.out.2.1.gr hg1H.out)
  obtain ⟨wd, hwd⟩ : ∃ wd, widB (l.map Itm.z) = wd := ⟨_, rfl⟩
  have hwdH : Hid (widB (l.map Itm.z) = wd) := hwd
  rw [hwd] at hw0 hk0
  obtain ⟨cb, hcb⟩ : ∃ cb, colsB cs wd = cb := ⟨_, rfl⟩
  rw [hcb] at hk0
  have hcbH : Hid (colsB cs (widB (l.map Itm.z)) = cb) := by show _ = _; rw [hwd, hcb]
  have hw : Hid _ := hw0
  have hk : Hid _ := hk0
  clear hw0 hk0 hwd hcb ez fz hD0 hws
  by_cases hgood : cb = true ∧ 0 ≤ most ∧ most ≤ 400
  rotate_left
  focus
    have hfin : Hid (E = 1 ∧ ¬ E = 0) := by
      have : E = 1 := by
        rw [hE2.out, if_neg]
        rw [hcbH.out]
        intro h
        simp only [inB, Bool.and_eq_true, decide_eq_true_eq] at h
        exact hgood h
      exact ⟨this, by rw [this]; decide⟩
    cases cb
    · clear hgood
      go_wp2_with (first | (go_at_call 13; refine Calls.mono (show Calls _ _ _ _ _ from hw.out) ?_; rintro e w2 ⟨rfl, hw2⟩; subst w2) | (go_at_call 12; refine Calls.mono (show Calls _ _ _ _ _ from hk.out) ?_; rintro e w2 ⟨rfl, hw2⟩; subst w2))
      go_ret2
      exact ⟨.slice none 0 0, by rw [hfin.out.1]; rfl, hnil.out _ hfin.out.2, hg1H.out.below⟩
    · have hmm : most < 0 ∨ 400 < most := by
        rcases Int.lt_or_le most 0 with k | k
        · exact Or.inl k
        · exact Or.inr (by
            have : ¬ most ≤ 400 := fun h => hgood ⟨rfl, k, h⟩
            omega)
      clear hgood
      rcases hmm with k1 | k1
      · go_wp2_with (first | (go_at_call 13; refine Calls.mono (show Calls _ _ _ _ _ from hw.out) ?_; rintro e w2 ⟨rfl, hw2⟩; subst w2) | (go_at_call 12; refine Calls.mono (show Calls _ _ _ _ _ from hk.out) ?_; rintro e w2 ⟨rfl, hw2⟩; subst w2))
        go_ret2
        exact ⟨.slice none 0 0, by rw [hfin.out.1]; rfl, hnil.out _ hfin.out.2, hg1H.out.below⟩
      · have k2 : ¬ most < 0 := by omega
        have k3 : decide (most < 0) = false := decide_eq_false k2
        go_wp2_with (first | (go_at_call 13; refine Calls.mono (show Calls _ _ _ _ _ from hw.out) ?_; rintro e w2 ⟨rfl, hw2⟩; subst w2) | (go_at_call 12; refine Calls.mono (show Calls _ _ _ _ _ from hk.out) ?_; rintro e w2 ⟨rfl, hw2⟩; subst w2))
        go_ret2
        exact ⟨.slice none 0 0, by rw [hfin.out.1]; rfl, hnil.out _ hfin.out.2, hg1H.out.below⟩
  obtain ⟨rfl, m0, m1⟩ := hgood
  have hE0 : Hid (E = 0) := by
    show _ = _
    rw [hE2.out, if_pos]
    rw [hcbH.out]
    simp only [inB, Bool.and_eq_true, decide_eq_true_eq]
    exact ⟨trivial, m0, m1⟩
  have hcols := cols_in hF.out.2 hcbH.out
  have hcs8 : cs.length ≤ 8 := by
    have := hcbH.out
    unfold colsB at this
    simp only [Bool.and_eq_true, decide_eq_true_eq] at this
    exact this.1
  have hcsB : ∀ n ∈ cs, -1000 ≤ n ∧ n ≤ 1000 := fun n hn => by
    have := hcbH.out
    unfold colsB at this
    rw [Bool.and_eq_true] at this
    have h1 := List.all_eq_true.1 this.2 n hn
    simp only [Bool.and_eq_true, decide_eq_true_eq] at h1
    have := widB_small hF.out.1
    omega
  have hO0 := orderBy_any cs CA cc w1 hcs8 hcsB (hH.out.2.1.gr hg1H.out)
  have hO : Hid _ := hO0
  have hcolsH : Hid (∀ x ∈ l, Cols cs x.r) := fun x hx n hn => by
    have := hcols n hn x.z (List.mem_map.2 ⟨x, hx, rfl⟩)
    exact ⟨this.1, this.2.2.2⟩
  obtain ⟨mn, hmn⟩ : ∃ mn : Nat, most = (mn : Int) := ⟨most.toNat, by omega⟩
  subst hmn
  clear hO0 hcols hcs8 hcsB
  have k2 : ¬ (mn : Int) < 0 := by omega
  have k3 : decide ((mn : Int) < 0) = false := decide_eq_false k2
  have k4 : ¬ (400 : Int) < (mn : Int) := by omega
  have k5 : decide ((400 : Int) < (mn : Int)) = false := decide_eq_false k4
  go_wp2_with (first | (go_at_call 13; refine Calls.mono (show Calls _ _ _ _ _ from hw.out) ?_; rintro e w2 ⟨rfl, hw2⟩; subst w2) | (go_at_call 12; refine Calls.mono (show Calls _ _ _ _ _ from hk.out) ?_; rintro e w2 ⟨rfl, hw2⟩; subst w2) | fail)
  refine Calls.mono (show Calls _ _ _ _ _ from hO.out) ?_
  rintro e w3 ⟨u, rfl, o1, o2⟩
  have hg3 : Hid (Gr w w3) := hg1H.out.trans o2
  have hS0 := inOrder_any cs u l A cap w3 hl4 (hH.out.1.gr hg3.out) o1 hcolsH.out
  have hS : Hid _ := hS0
  clear hS0 hO o1 o2 hw hk
  go_wp2_with fail
  refine Calls.mono (show Calls _ _ _ _ _ from hS.out) ?_
  rintro e w4 ⟨S, SA, sc, rfl, s1, s2, s3, s4⟩
  have hbw4 : Hid (Below w.heap.size w w4) := hg3.out.below.trans (s4.mono hg3.out.size)
  have hT0 := firstRows_any S SA sc mn w4 (by rw [s1.length_eq]; exact hl4) s3 (fun x hx => errZ_wide hF.out.1 x.z (List.mem_map.2 ⟨x, s1.mem_iff.1 hx, rfl⟩)) (fun x hx => by
    have := fitB_parts hF.out.2 x.z (List.mem_map.2 ⟨x, s1.mem_iff.1 hx, rfl⟩)
    exact ⟨this.1, this.2.1⟩) (by omega)
  have hT : Hid _ := hT0
  have hrows : Hid (expL (S.map Itm.z) = rowsB cs (l.map Itm.z)) := rowsB_of (s1.map _) s2
  clear hT0 hS s1 s2 s3 s4
  go_wp2_with fail
  refine Calls.mono (show Calls _ _ _ _ _ from hT.out) ?_
  rintro e w5 ⟨v, L, rfl, t1, t2, t3⟩
  have hfin : Hid (Rws w5 w.heap.size v R ∧ Below w.heap.size w w5) := by
    refine ⟨⟨L, ⟨t1.own.mono hbw4.out.size, fun x hx => (t1.each x hx).mono hbw4.out.size⟩, ?_⟩, hbw4.out.trans (t3.mono hbw4.out.size)⟩
    rw [t2, hrows.out, hRQ.out, if_pos hE0.out]
    rfl
  clear hT t1 t2 t3
  go_wp2
  go_ret2
  exact ⟨v, by rw [hE0.out]; rfl, hfin.out⟩
end Go.Proofs.YteobmedkngdnkaaDoor
