/-
  rank.Rows.
  What is carried through the spoiling of viewkeep.SetsOwn.
-/
import Derived.Test.YtgmdjioobidadaaM32
import Derived.Test.YtgmdjioobidadaaM05
import Derived.Test.YtgmdjioobidadaaM30
namespace Go.Proofs.Ytgmdjioobidadaa
open Go.RowKit Go.Sort

theorem errZ_wide {l : List Zit} (h : errZ l = 0) : ∀ x ∈ l, x.1.length ≤ 8 := fun x hx => by
  have h1 := (okZ_parts (((errZ_iff l).1 h).2.1 x hx)).1
  unfold okR at h1
  simp only [Bool.and_eq_true, decide_eq_true_eq] at h1
  omega
theorem widB_small {l : List Zit} (h : errZ l = 0) : 0 ≤ widB l ∧ widB l ≤ 8 := by
  unfold widB
  split
  · omega
  · cases l with
    | nil => simp
    | cons x t =>
      have := errZ_wide h x (List.mem_cons_self ..)
      simp
      omega
theorem chk_parts {l : List Zit} (h : chkN l = 0) : errZ l = 0 ∧ fitB l = true := by
  unfold chkN at h
  by_cases h1 : errZ l = 0
  · rw [if_pos h1] at h
    by_cases h2 : fitB l = true
    · exact ⟨h1, h2⟩
    · rw [if_neg h2] at h; cases h
  · rw [if_neg h1] at h; exact absurd h h1
theorem rnk_chk (l : List Zit) (cs : List Int) (most : Int) : rnkE l cs most = if chkN l = 0 then (if (colsB cs (widB l) && inB most 0 400) = true then 0 else 1) else chkN l := by
  unfold rnkE chkN
  by_cases h1 : errZ l = 0
  · rw [if_pos h1, if_pos h1]
    by_cases h2 : fitB l = true
    · rw [if_pos h2, if_pos h2, if_pos rfl]
    · rw [if_neg h2, if_neg h2]; rfl
  · rw [if_neg h1, if_neg h1, if_neg h1]
/-- Some rows in memory. -/
structure Rws (w : World) (base : Nat) (v : Value) (R : List (List Int)) : Prop where
  has : ∃ L : List Itm, OwnR w base v L ∧ L.map Itm.r = R
theorem Rws.below {w w' : World} {base : Nat} {v : Value} {R : List (List Int)} (h : Rws w base v R) (q : Below w.heap.size w w') : Rws w' base v R := by
  obtain ⟨L, h1, h2⟩ := h.has
  exact ⟨L, h1.below q, h2⟩

set_option maxRecDepth 100000 in
set_option maxHeartbeats 2000000 in
theorem rows_any (l : List Itm) (A : Option Addr) (cap : Nat) (cs : List Int) (CA : Option Addr) (cc : Nat) (most : Int) (w : World) (h : Lv w A cap l) (hc : RowI w CA cs) (hcl : cs.length ≤ maxLen) :
    Calls Try.prog 11 #[.slice A l.length cap, .slice CA cs.length cc, .int .i64 most] w fun e w' => ∃ v, e = .returned (.tuple #[v, .int .i64 (rnkE (l.map Itm.z) cs most)]) ∧ Rws w' w.heap.size v (rnkL (l.map Itm.z) cs most) ∧ Below w.heap.size w w' := by
  obtain ⟨E, hE⟩ : ∃ E, rnkE (l.map Itm.z) cs most = E := ⟨_, rfl⟩
  obtain ⟨R, hR⟩ : ∃ R, rnkL (l.map Itm.z) cs most = R := ⟨_, rfl⟩
  obtain ⟨D, hD⟩ : ∃ D, chkN (l.map Itm.z) = D := ⟨_, rfl⟩
  have hC0 := checkItems_any l A cap w h
  rw [hD] at hC0
  rw [hE, hR]
  have hC : Hid _ := hC0
  have hEQ : Hid (E = if D = 0 then (if (colsB cs (widB (l.map Itm.z)) && inB most 0 400) = true then 0 else 1) else D) := by show _ = _; rw [← hE, rnk_chk, hD]
  have hRQ : Hid (R = if E = 0 then (rowsB cs (l.map Itm.z)).take most.toNat else []) := by show _ = _; rw [← hR, ← hE]; rfl
  have hH : Hid (Lv w A cap l ∧ RowI w CA cs ∧ cs.length ≤ maxLen ∧ chkN (l.map Itm.z) = D) := ⟨h, hc, hcl, hD⟩
  have hnil : Hid (∀ W, ¬ E = 0 → Rws W w.heap.size (.slice none 0 0) R) := fun W h0 => by
    rw [hRQ.out, if_neg h0]
    exact ⟨[], OwnR.nil _ _, rfl⟩
  clear hC0 h hc hcl hE hR hD
  go_enter Try.func11, Try.ntmps11
  go_wp2_with fail
  refine Calls.mono (show Calls _ _ _ _ _ from hC.out) ?_
  rintro e w1 ⟨rfl, hg1⟩
  have hg1H : Hid (Gr w w1) := hg1
  clear hC hg1
  by_cases hD0 : D = 0
  rotate_left
  focus
    have hDb : (D != 0) = true := by simpa using hD0
    have hfin : Hid (D = E ∧ ¬ E = 0) := by
      have : E = D := by rw [hEQ.out, if_neg hD0]
      exact ⟨this.symm, by rw [this]; exact hD0⟩
    clear hD0
    go_wp2
    go_ret2
    exact ⟨.slice none 0 0, by rw [hfin.out.1]; rfl, hnil.out _ hfin.out.2, hg1H.out.below⟩
  obtain ⟨ez, fz⟩ := chk_parts (hH.out.2.2.2.trans hD0)
  have hDb : (D != 0) = false := by simpa using hD0
  have hF : Hid (errZ (l.map Itm.z) = 0 ∧ fitB (l.map Itm.z) = true) := ⟨ez, fz⟩
  have hl4 : l.length ≤ 400 := by have := ((errZ_iff _).1 ez).1; simpa using this
  have hE2 : Hid (E = if (colsB cs (widB (l.map Itm.z)) && inB most 0 400) = true then 0 else 1) := by show _ = _; rw [hEQ.out, if_pos hD0]
  have hws := widB_small ez
  have hw0 := widthOf_any l A cap w1 hH.out.1.len (hH.out.1.gr hg1H.out).items
  unfold widN at hw0
  have hk0 := areColumns_any cs CA cc (widB (l.map Itm.z)) w1 hH.out.2.2.1 ⟨hws.1, by omega⟩ (hH.out.2.1.gr hg1H.out)
  obtain ⟨wd, hwd⟩ : ∃ wd, widB (l.map Itm.z) = wd := ⟨_, rfl⟩
  have hwdH : Hid (widB (l.map Itm.z) = wd) := hwd
  rw [hwd] at hw0 hk0
  obtain ⟨cb, hcb⟩ : ∃ cb, colsB cs wd = cb := ⟨_, rfl⟩
  rw [hcb] at hk0
  have hcbH : Hid (colsB cs (widB (l.map Itm.z)) = cb) := by show _ = _; rw [hwd, hcb]
  have hw : Hid _ := hw0
  have hk : Hid _ := hk0
  clear hw0 hk0 hwd hcb ez fz hD0 hws
  by_cases hgood : cb = true ∧ 0 ≤ most ∧ most ≤ 400
  rotate_left
  focus
    have hfin : Hid (E = 1 ∧ ¬ E = 0) := by
      have : E = 1 := by
        rw [hE2.out, if_neg]
        rw [hcbH.out]
        intro h
        simp only [inB, Bool.and_eq_true, decide_eq_true_eq] at h
        exact hgood h
      exact ⟨this, by rw [this]; decide⟩
    cases cb
    · clear hgood
      go_wp2_with (first | (go_at_call 26; refine Calls.mono (show Calls _ _ _ _ _ from hw.out) ?_; rintro e w2 ⟨rfl, hw2⟩; subst w2) | (go_at_call 25; refine Calls.mono (show Calls _ _ _ _ _ from hk.out) ?_; rintro e w2 ⟨rfl, hw2⟩; subst w2))
      go_ret2
      exact ⟨.slice none 0 0, by rw [hfin.out.1]; rfl, hnil.out _ hfin.out.2, hg1H.out.below⟩
    · have hmm : most < 0 ∨ 400 < most := by
        rcases Int.lt_or_le most 0 with k | k
        · exact Or.inl k
        · exact Or.inr (by
            have : ¬ most ≤ 400 := fun h => hgood ⟨rfl, k, h⟩
            omega)
      clear hgood
      rcases hmm with k1 | k1
      · go_wp2_with (first | (go_at_call 26; refine Calls.mono (show Calls _ _ _ _ _ from hw.out) ?_; rintro e w2 ⟨rfl, hw2⟩; subst w2) | (go_at_call 25; refine Calls.mono (show Calls _ _ _ _ _ from hk.out) ?_; rintro e w2 ⟨rfl, hw2⟩; subst w2))
        go_ret2
        exact ⟨.slice none 0 0, by rw [hfin.out.1]; rfl, hnil.out _ hfin.out.2, hg1H.out.below⟩
      · have k2 : ¬ most < 0 := by omega
        have k3 : decide (most < 0) = false := decide_eq_false k2
        go_wp2_with (first | (go_at_call 26; refine Calls.mono (show Calls _ _ _ _ _ from hw.out) ?_; rintro e w2 ⟨rfl, hw2⟩; subst w2) | (go_at_call 25; refine Calls.mono (show Calls _ _ _ _ _ from hk.out) ?_; rintro e w2 ⟨rfl, hw2⟩; subst w2))
        go_ret2
        exact ⟨.slice none 0 0, by rw [hfin.out.1]; rfl, hnil.out _ hfin.out.2, hg1H.out.below⟩
  obtain ⟨rfl, m0, m1⟩ := hgood
  have hE0 : Hid (E = 0) := by
    show _ = _
    rw [hE2.out, if_pos]
    rw [hcbH.out]
    simp only [inB, Bool.and_eq_true, decide_eq_true_eq]
    exact ⟨trivial, m0, m1⟩
  have hcols := cols_in hF.out.2 hcbH.out
  have hcs8 : cs.length ≤ 8 := by
    have := hcbH.out
    unfold colsB at this
    simp only [Bool.and_eq_true, decide_eq_true_eq] at this
    exact this.1
  have hcsB : ∀ n ∈ cs, -1000 ≤ n ∧ n ≤ 1000 := fun n hn => by
    have := hcbH.out
    unfold colsB at this
    rw [Bool.and_eq_true] at this
    have h1 := List.all_eq_true.1 this.2 n hn
    simp only [Bool.and_eq_true, decide_eq_true_eq] at h1
    have := widB_small hF.out.1
    omega
  have hO0 := orderBy_any cs CA cc w1 hcs8 hcsB (hH.out.2.1.gr hg1H.out)
  have hO : Hid _ := hO0
  have hcolsH : Hid (∀ x ∈ l, Cols cs x.r) := fun x hx n hn => by
    have := hcols n hn x.z (List.mem_map.2 ⟨x, hx, rfl⟩)
    exact ⟨this.1, this.2.2.2⟩
  obtain ⟨mn, hmn⟩ : ∃ mn : Nat, most = (mn : Int) := ⟨most.toNat, by omega⟩
  subst hmn
  clear hO0 hcols hcs8 hcsB
  have k2 : ¬ (mn : Int) < 0 := by omega
  have k3 : decide ((mn : Int) < 0) = false := decide_eq_false k2
  have k4 : ¬ (400 : Int) < (mn : Int) := by omega
  have k5 : decide ((400 : Int) < (mn : Int)) = false := decide_eq_false k4
  go_wp2_with (first | (go_at_call 26; refine Calls.mono (show Calls _ _ _ _ _ from hw.out) ?_; rintro e w2 ⟨rfl, hw2⟩; subst w2) | (go_at_call 25; refine Calls.mono (show Calls _ _ _ _ _ from hk.out) ?_; rintro e w2 ⟨rfl, hw2⟩; subst w2) | fail)
  refine Calls.mono (show Calls _ _ _ _ _ from hO.out) ?_
  rintro e w3 ⟨u, rfl, o1, o2⟩
  have hg3 : Hid (Gr w w3) := hg1H.out.trans o2
  have hS0 := inOrder_any cs u l A cap w3 hl4 (hH.out.1.gr hg3.out) o1 hcolsH.out
  have hS : Hid _ := hS0
  clear hS0 hO o1 o2 hw hk
  go_wp2_with fail
  refine Calls.mono (show Calls _ _ _ _ _ from hS.out) ?_
  rintro e w4 ⟨S, SA, sc, rfl, s1, s2, s3, s4⟩
  have hbw4 : Hid (Below w.heap.size w w4) := hg3.out.below.trans (s4.mono hg3.out.size)
  have hT0 := firstRows_any S SA sc mn w4 (by rw [s1.length_eq]; exact hl4) s3 (fun x hx => errZ_wide hF.out.1 x.z (List.mem_map.2 ⟨x, s1.mem_iff.1 hx, rfl⟩)) (fun x hx => by
    have := fitB_parts hF.out.2 x.z (List.mem_map.2 ⟨x, s1.mem_iff.1 hx, rfl⟩)
    exact ⟨this.1, this.2.1⟩) (by omega)
  have hT : Hid _ := hT0
  have hrows : Hid (expL (S.map Itm.z) = rowsB cs (l.map Itm.z)) := rowsB_of (s1.map _) s2
  clear hT0 hS s1 s2 s3 s4
  go_wp2_with fail
  refine Calls.mono (show Calls _ _ _ _ _ from hT.out) ?_
  rintro e w5 ⟨v, L, rfl, t1, t2, t3⟩
  have hfin : Hid (Rws w5 w.heap.size v R ∧ Below w.heap.size w w5) := by
    refine ⟨⟨L, ⟨t1.own.mono hbw4.out.size, fun x hx => (t1.each x hx).mono hbw4.out.size⟩, ?_⟩, hbw4.out.trans (t3.mono hbw4.out.size)⟩
    rw [t2, hrows.out, hRQ.out, if_pos hE0.out]
    rfl
  clear hT t1 t2 t3
  go_wp2
  go_ret2
  exact ⟨v, by rw [hE0.out]; rfl, hfin.out⟩
end Go.Proofs.Ytgmdjioobidadaa

namespace Go.Proofs.Ytgmdjioobidadaa
open Go.RowKit Go.Sort

theorem OwnG.oth {α : Type} {enc : α → List Value} {k : Nat} {e : TypeId} {w w' : World} {base lo hi : Nat} {v : Value} {l : List α} (h : OwnG enc k e w base v l) (q : Spl lo hi w w') (h1 : e ≠ 3) (h2 : e ≠ 45) : OwnG enc k e w' base v l := by
  refine ⟨h.1, ?_⟩
  rcases h.2 with hn | ⟨g, cap, cur, hv, hb, hg, rest⟩
  · exact Or.inl hn
  · exact Or.inr ⟨g, cap, cur, hv, hb, (q.oth g cur e hg h1 h2).trans hg, rest⟩
theorem RowG.outside {α : Type} {enc : α → List Value} {k : Nat} {w w' : World} {A : Option Addr} {l : List α} {lo hi : Nat} (h : RowG enc k w A l) (q : Spl lo hi w w') (hn : ∀ a, A = some a → hi ≤ a.block) : RowG enc k w' A l := by
  rcases h with h | ⟨b, off, hA, hb, hc⟩
  · exact Or.inl h
  · refine Or.inr ⟨b, off, hA, Nat.lt_of_lt_of_le hb q.size, fun j hj i hi => ?_⟩
    rw [World.cell?_of_block (a := ⟨b, off + j * k + i, none⟩) (q.out b hb (Or.inr (hn _ hA)))]
    exact hc j hj i hi
theorem Lv.outside {w w' : World} {A : Option Addr} {c : Nat} {l : List Itm} {lo hi : Nat} (h : Lv w A c l) (q : Spl lo hi w w') (hn : NewT hi A l) : Lv w' A c l :=
  ⟨⟨h.items.row.outside q hn.1, fun x hx => ⟨(h.items.each x hx).1.outside q (hn.2 x hx), (h.items.each x hx).2⟩⟩, h.nilc, h.len⟩
theorem RowW.grown {w w' : World} {lo hi : Nat} {p : Option Addr} {m c : Nat} {row : Option Nat} (h : RowW w lo hi p m c) (q : w.grownBy w' row) (hne : ∀ g, row = some g → ∃ cur T, w.heap[g]? = some (.cells cur T (0, 0)) ∧ T ≠ 3) : RowW w' lo hi p m c := by
  refine ⟨h.1, h.2.1, fun a ha => ?_⟩
  obtain ⟨h1, h2, h3, h4, h5, cur, h6, h7⟩ := h.2.2 a ha
  refine ⟨h1, h2, h3, h4, h5, cur, (q.block a.block (Array.getElem?_eq_some_iff.1 h6).1 fun e => ?_).trans h6, h7⟩
  obtain ⟨cur', T, hc', hT⟩ := hne _ e.symm
  rw [h6] at hc'
  injection hc' with hc'
  injection hc' with _ h8
  exact hT h8.symm
theorem SetW.grown {w w' : World} {lo hi : Nat} {A : Option Addr} {n k : Nat} {row : Option Nat} (h : SetW w lo hi A n k) (q : w.grownBy w' row) (hne : ∀ g, row = some g → ∃ cur T, w.heap[g]? = some (.cells cur T (0, 0)) ∧ T ≠ 3) (hne2 : ∀ g, row = some g → ∃ cur T, w.heap[g]? = some (.cells cur T (0, 0)) ∧ T ≠ 45) : SetW w' lo hi A n k := by
  refine ⟨h.1, h.2.1, fun a ha => ?_⟩
  obtain ⟨h1, h2, h3, h4, h5, cur, h6, h7, h8⟩ := h.2.2 a ha
  refine ⟨h1, h2, h3, h4, h5, cur, (q.block a.block (Array.getElem?_eq_some_iff.1 h6).1 fun e => ?_).trans h6, h7, fun j hj => ?_⟩
  · obtain ⟨cur', T, hc', hT⟩ := hne2 _ e.symm
    rw [h6] at hc'
    injection hc' with hc'
    injection hc' with _ h9
    exact hT h9.symm
  · obtain ⟨p, m, c, z, k1, k2, k3⟩ := h8 j hj
    exact ⟨p, m, c, z, k1, k2.grown q hne, k3⟩
theorem RowW.top {w : World} {lo hi hi' : Nat} {p : Option Addr} {m c : Nat} (h : RowW w lo hi p m c) (hh : hi ≤ hi') : RowW w lo hi' p m c := ⟨h.1, h.2.1, fun a ha => by
  obtain ⟨h1, h2, h3⟩ := h.2.2 a ha
  exact ⟨h1, Nat.lt_of_lt_of_le h2 hh, h3⟩⟩
/-- A list of slices: what one finds at an index. -/
theorem OwnG.slotS {w : World} {base : Nat} {v : Value} {l : List Sl} (h : OwnG encS 1 23 w base v l) {j : Nat} (hj : j < l.length) : ∃ b cap, v = .slice (some ⟨b, 0, none⟩) l.length cap ∧ w.cell? ⟨b, j, none⟩ = some (.slice l[j].A l[j].l.length l[j].cap) := by
  obtain ⟨A, cap, hv, _, hr, _, ha, _⟩ := OwnG.full encS_len h
  obtain ⟨b, off, hA, _, hc⟩ := hr.at hj
  have h0 := (ha _ hA).2.2.1
  simp only at h0
  subst h0
  refine ⟨b, cap, by rw [hv, hA], ?_⟩
  have := hc j hj 0 (by omega)
  simpa [encS] using this
theorem OwnG.slotW {w : World} {base : Nat} {v : Value} {l : List Itm} (h : OwnG encW 1 24 w base v l) {j : Nat} (hj : j < l.length) : ∃ b cap, v = .slice (some ⟨b, 0, none⟩) l.length cap ∧ w.cell? ⟨b, j, none⟩ = some (.slice l[j].p l[j].r.length l[j].c) := by
  obtain ⟨A, cap, hv, _, hr, _, ha, _⟩ := OwnG.full encW_len h
  obtain ⟨b, off, hA, _, hc⟩ := hr.at hj
  have h0 := (ha _ hA).2.2.1
  simp only at h0
  subst h0
  refine ⟨b, cap, by rw [hv, hA], ?_⟩
  have := hc j hj 0 (by omega)
  simpa [encW] using this
theorem OwnG.small {α : Type} {enc : α → List Value} {k : Nat} {e : TypeId} {w : World} {base : Nat} {v : Value} {l : List α} (h : OwnG enc k e w base v l) : l.length ≤ maxLen := by
  rcases h.2 with ⟨_, hn⟩ | ⟨_, cap, _, _, _, _, h1, h2, _⟩
  · omega
  · omega
/-- What is carried. -/
structure SOw (w2 wt : World) (H : Nat) (u : Value) (ss T : List Sl) (vr : Value) (RL : List Itm) : Prop where
  bel : Below w2.heap.size w2 wt
  top : H ≤ wt.heap.size
  own : OwnG encS 1 23 wt w2.heap.size u ss
  sets : ∀ s ∈ ss ++ T, SetW wt w2.heap.size H s.A s.l.length s.cap
  rowo : OwnG encW 1 24 wt w2.heap.size vr RL
  rows : ∀ x ∈ RL, RowW wt w2.heap.size H x.p x.r.length x.c
theorem SOw.spl {w2 wt wt' : World} {H hi : Nat} {u : Value} {ss T : List Sl} {vr : Value} {RL : List Itm} (h : SOw w2 wt H u ss T vr RL) (q : Spl w2.heap.size hi wt wt') : SOw w2 wt' H u ss T vr RL :=
  ⟨h.bel.trans (q.below h.bel.size), Nat.le_trans h.top q.size, h.own.oth q (by decide) (by decide), fun s hs => (h.sets s hs).spl q, h.rowo.oth q (by decide) (by decide), fun x hx => (h.rows x hx).spl q⟩
theorem SOw.gr {w2 wt wt' : World} {H : Nat} {u : Value} {ss T : List Sl} {vr : Value} {RL : List Itm} (h : SOw w2 wt H u ss T vr RL) (q : Gr wt wt') : SOw w2 wt' H u ss T vr RL := h.spl (hi := 0) (Spl.gr q)
theorem SOw.more {w2 wt wt' : World} {H : Nat} {u u' : Value} {ss T : List Sl} {vr : Value} {RL : List Itm} (h : SOw w2 wt H u ss T vr RL) (hg : wt.grownBy wt' u.ownBlock) (ho : OwnG encS 1 23 wt' w2.heap.size u' (ss ++ T)) : SOw w2 wt' H u' (ss ++ T) [] vr RL := by
  refine ⟨h.bel.trans (OwnG.grown_below h.own hg h.bel.size), Nat.le_trans h.top hg.size, ho, fun s hs => ?_, ?_, fun x hx => (h.rows x hx).grown hg (h.own.typed (by decide))⟩
  · rw [List.append_nil] at hs
    exact (h.sets s hs).grown hg (h.own.typed (by decide)) (h.own.typed (by decide))
  · exact h.rowo.keepN hg (ownN_ne h.rowo h.own (by decide))
/-- What calls handed back, as sets that may be spoilt. -/
theorem NwT.setH {w : World} {k n : Nat} {C : Option Addr} {L : List Itm} (h : NwT w k n C L) (hL : Lv w C k L) : SetW w n w.heap.size C L.length k := h.set hL.nilc hL.items ⟨h.arr.lt, fun x hx => (h.rows x hx).1.lt⟩
theorem OwnR.rowW {w : World} {base : Nat} {v : Value} {L : List Itm} (h : OwnR w base v L) : ∀ x ∈ L, RowW w base w.heap.size x.p x.r.length x.c := by
  intro x hx
  have ho := h.each x hx
  have hr : RoomI w x.p x.c := OwnG.roomI ho
  obtain ⟨A, cap, hv, hA, _, hcap, ha, _⟩ := OwnG.full encI_len ho
  have hv' : x.p = A ∧ x.c = cap := by
    unfold Itm.v at hv
    injection hv with h1 _ h3
    exact ⟨h1, h3⟩
  obtain ⟨rfl, rfl⟩ := hv'
  refine ⟨hcap, hA, fun a e => ?_⟩
  obtain ⟨h1, h2, cur, h3, h4, h5⟩ := hr a e
  exact ⟨(ha a e).1, hr.lt a e, h1, h2, h5, cur, h3, h4⟩
theorem wpList_append_sT (w : World) {ops : Array Oper} {rest : List Oper} {o : Oper} {a : Act} {Q : Exit → Act → World → Prop} (hgd : o.guard = none) (s x : Operand)
    (ho : o.op = .call { callee := .builtin .append, args := #[s, x], argTypes := #[27, 27] })
    (base : Nat) (v : Value) (l m : List Sl) (A : Option Addr) (cap : Nat) (hs : a.eval s = v) (hx : a.eval x = .slice A m.length cap) (hown : OwnG encS 1 23 w base v l) (hr : RowG encS 1 w A m) (hA : A = none → cap = 0)
    (hml : l.length + m.length ≤ maxLen) (hb : (l.length + m.length) * 24 ≤ 140737488355328) (hbase : base ≤ w.heap.size)
    (h : ∀ v' w', OwnG encS 1 23 w' base v' (l ++ m) → w.grownBy w' v.ownBlock → wpList Try.prog ops Q rest (a.put o.dst v') w') : wpList Try.prog ops Q (o :: rest) a w :=
  wpList_plain hgd fun _ hK => wp_append_g encS_len encS_one (by omega) 27 Try.underlying27 (.slice none 0 0) 24 Try.infoS rfl w s x ho base v l m A cap hs hx hown hr hA hml hb hbase fun v' w' h2 h3 => hK _ _ (h v' w' h2 h3)
theorem rowS4 {W : World} {n : Nat} (hn : W.heap.size = n) (a b c d : Sl) (T : TypeId) : RowG encS 1 (W.alloc (.cells #[.slice a.A a.l.length a.cap, .slice b.A b.l.length b.cap, .slice c.A c.l.length c.cap, .slice d.A d.l.length d.cap] T)) (some ⟨n, 0, none⟩) [a, b, c, d] := by
  subst hn
  refine Or.inr ⟨W.heap.size, 0, rfl, by simp, fun j hj i hi => ?_⟩
  obtain rfl : i = 0 := by omega
  match j, hj with
  | 0, _ => exact box1 (w := W) (Gr.refl _) (j := 0) rfl
  | 1, _ => exact box1 (w := W) (Gr.refl _) (j := 1) rfl
  | 2, _ => exact box1 (w := W) (Gr.refl _) (j := 2) rfl
  | 3, _ => exact box1 (w := W) (Gr.refl _) (j := 3) rfl
/-- The first set, as one that may be spoilt below a block that the others lie behind. -/
theorem first_set {w : World} {n : Nat} {C : Option Addr} {k : Nat} {s0 : Sl} {t : List Sl} (h : NewS w n C k (s0 :: t)) (hL : Lv w s0.A s0.cap s0.l) : ∃ N, N ≤ w.heap.size ∧ SetW w n N s0.A s0.l.length s0.cap ∧ ∀ s ∈ t, NewT N s.A s.l := by
  obtain ⟨N, h1, h2⟩ := h.sep s0 t rfl
  have h0 := h.each s0 (List.mem_cons_self ..)
  refine ⟨min N w.heap.size, Nat.min_le_right _ _, h0.set hL.nilc hL.items ⟨fun a ha => ?_, fun x hx a ha => ?_⟩, fun s hs => (h2 s hs).mono (Nat.min_le_left _ _)⟩
  · have := h1.1 a ha
    have := h0.arr.lt a ha
    omega
  · have := h1.2 x hx a ha
    have := (h0.rows x hx).1.lt a ha
    omega

end Go.Proofs.Ytgmdjioobidadaa
