/-
  zset.Add: two sets together.
-/
import Derived.Test.YteobmedkngdnkaaZTotal
import Derived.Test.YteobmedkngdnkaaZGroup
namespace Go.Proofs.Yteobmedkngdnkaa
open Go.RowKit Go.Sort

theorem addE_a {a b : List Zit} (h : errZ a ≠ 0) : addE a b = errZ a ∧ addL a b = [] := by
  have e : addE a b = errZ a := by unfold addE; rw [if_neg h]
  exact ⟨e, by unfold addL; rw [e, if_neg h]⟩
theorem addE_b {a b : List Zit} (ha : errZ a = 0) (h : errZ b ≠ 0) : addE a b = errZ b ∧ addL a b = [] := by
  have e : addE a b = errZ b := by unfold addE; rw [if_pos ha, if_neg h]
  exact ⟨e, by unfold addL; rw [e, if_neg h]⟩
theorem addE_t {a b : List Zit} (ha : errZ a = 0) (hb : errZ b = 0) (h : totE (a ++ b) ≠ 0) : addE a b = totE (a ++ b) ∧ addL a b = [] := by
  have e : addE a b = totE (a ++ b) := by unfold addE; rw [if_pos ha, if_pos hb, if_neg h]
  exact ⟨e, by unfold addL; rw [e, if_neg h]⟩
theorem addE_l {a b : List Zit} (ha : errZ a = 0) (hb : errZ b = 0) (h : totE (a ++ b) = 0) (hl : 400 < (totL (a ++ b)).length) : addE a b = 2 ∧ addL a b = [] := by
  have e : addE a b = 2 := by unfold addE; rw [if_pos ha, if_pos hb, if_pos h, if_pos hl]
  exact ⟨e, by unfold addL; rw [e, if_neg (by decide)]⟩
theorem addE_o {a b : List Zit} (ha : errZ a = 0) (hb : errZ b = 0) (h : totE (a ++ b) = 0) (hl : ¬ 400 < (totL (a ++ b)).length) : addE a b = 0 ∧ addL a b = totL (a ++ b) := by
  have e : addE a b = 0 := by unfold addE; rw [if_pos ha, if_pos hb, if_pos h, if_neg hl]
  exact ⟨e, by unfold addL; rw [if_pos e]⟩
theorem errZ_okW {l : List Itm} (h : errZ (l.map Itm.z) = 0) : l.length ≤ 400 ∧ ∀ x ∈ l, okW x.n = true ∧ x.r.length ≤ 8 := by
  have h1 := (errZ_iff _).1 h
  refine ⟨by simpa using h1.1, fun x hx => ?_⟩
  have h2 := okZ_parts (h1.2.1 x.z (List.mem_map.2 ⟨x, hx, rfl⟩))
  have h8 := h2.1
  simp only [okR, Bool.and_eq_true, decide_eq_true_eq] at h8
  exact ⟨h2.2.1, h8.1⟩

set_option maxRecDepth 100000 in
set_option maxHeartbeats 2000000 in
theorem add_new (a b : List Itm) (A B : Option Addr) (ca cb : Nat) (w : World) (hal : a.length ≤ maxLen) (hbl : b.length ≤ maxLen) (hA : A = none → ca = 0) (hB : B = none → cb = 0) (hra : Items w A a) (hrb : Items w B b) :
    Calls Try.prog 13 #[.slice A a.length ca, .slice B b.length cb] w fun e w' => ∃ (L : List Itm) (C : Option Addr) (c : Nat), e = .returned (.tuple #[.slice C L.length c, .int .i64 (addE (a.map Itm.z) (b.map Itm.z))]) ∧ L.map Itm.z = addL (a.map Itm.z) (b.map Itm.z) ∧ Items w' C L ∧ NilC C L.length c ∧ Below w.heap.size w w' ∧ NewT w.heap.size C L := by
  have hck := checkZ_any a A ca w hal hra
  have hckH : Hid _ := hck
  have hrH : Hid (Items w A a ∧ Items w B b ∧ (A = none → ca = 0) ∧ (B = none → cb = 0) ∧ b.length ≤ maxLen) := ⟨hra, hrb, hA, hB, hbl⟩
  clear hck hra hrb hA hB hal hbl
  go_enter Try.func13, Try.ntmps13
  go_wp2_with fail
  refine Calls.mono (show Calls _ _ _ _ _ from hckH.out) ?_
  rintro e w1 ⟨rfl, hg1⟩
  clear hckH
  obtain ⟨E, hE⟩ : ∃ E, errZ (a.map Itm.z) = E := ⟨_, rfl⟩
  have hEH : Hid (errZ (a.map Itm.z) = E) := hE
  rw [hE]
  clear hE
  cases hq : (E != 0)
  · have hE0 : E = 0 := by simpa using hq
    have h0H : Hid (errZ (a.map Itm.z) = 0) := by show _ = _; rw [hEH.out, hE0]
    subst hE0
    clear hEH
    have hck := checkZ_any b B cb w1 hrH.out.2.2.2.2 (hrH.out.2.1.gr hg1)
    have hckH : Hid _ := hck
    clear hck
    go_wp2_with fail
    refine Calls.mono (show Calls _ _ _ _ _ from hckH.out) ?_
    rintro e w2 ⟨rfl, hg2⟩
    clear hckH
    obtain ⟨F, hF⟩ : ∃ E, errZ (b.map Itm.z) = E := ⟨_, rfl⟩
    have hFH : Hid (errZ (b.map Itm.z) = F) := hF
    rw [hF]
    clear hF
    cases hq2 : (F != 0)
    · have hF0 : F = 0 := by simpa using hq2
      have k0H : Hid (errZ (b.map Itm.z) = 0) := by show _ = _; rw [hFH.out, hF0]
      subst hF0
      clear hFH
      have hgw : Gr w w2 := hg1.trans hg2
      have htt := total_two_new a b A B ca cb w2 hrH.out.2.2.1 hrH.out.2.2.2.1 (hrH.out.1.gr hgw) (hrH.out.2.1.gr hgw) (errZ_okW h0H.out).1 (errZ_okW k0H.out).1 (errZ_okW h0H.out).2 (errZ_okW k0H.out).2
      have httH : Hid _ := htt
      clear htt
      go_wp2_with fail
      refine Calls.mono (show Calls _ _ _ _ _ from httH.out) ?_
      rintro e w3 ⟨L, C, c, rfl, h1, h2, h3, h4, h5⟩
      have hNw : Hid (NewT w.heap.size C L) := h5.mono hgw.size
      have hfin2 : Hid (L.map Itm.z = totR (a.map Itm.z ++ b.map Itm.z) ∧ Items w3 C L ∧ NilC C L.length c ∧ Below w.heap.size w w3) := ⟨h1, h2, h3, hgw.below.trans (h4.mono hgw.size)⟩
      clear h1 h2 h3 h4 h5 httH
      obtain ⟨G, hG⟩ : ∃ G, totE (a.map Itm.z ++ b.map Itm.z) = G := ⟨_, rfl⟩
      have hGH : Hid (totE (a.map Itm.z ++ b.map Itm.z) = G) := hG
      rw [hG]
      clear hG
      cases hq3 : (G != 0)
      · have hG0 : G = 0 := by simpa using hq3
        have g0H : Hid (totE (a.map Itm.z ++ b.map Itm.z) = 0) := by show _ = _; rw [hGH.out, hG0]
        subst hG0
        clear hGH
        have hLt : Hid (L.map Itm.z = totL (a.map Itm.z ++ b.map Itm.z)) := by show _ = _; rw [hfin2.out.1, totR_ok g0H.out]
        have hLl : Hid ((totL (a.map Itm.z ++ b.map Itm.z)).length = L.length) := by show _ = _; rw [← hLt.out, List.length_map]
        by_cases h4 : 400 < L.length
        · have h4z : (400 : Int) < (L.length : Int) := by omega
          have hfin := addE_l h0H.out k0H.out g0H.out (by rw [hLl.out]; exact h4)
          have hfinH : Hid (addE (a.map Itm.z) (b.map Itm.z) = 2 ∧ addL (a.map Itm.z) (b.map Itm.z) = []) := hfin
          clear hfin
          go_wp2
          go_ret2
          exact ⟨[], none, 0, by rw [hfinH.out.1]; rfl, by rw [hfinH.out.2]; rfl, ⟨Or.inl rfl, fun x hx => by cases hx⟩, fun _ => rfl, hfin2.out.2.2.2, NewT.none _⟩
        · have h4z : ¬ (400 : Int) < (L.length : Int) := by omega
          have hfin := addE_o h0H.out k0H.out g0H.out (by rw [hLl.out]; exact h4)
          have hfinH : Hid (addE (a.map Itm.z) (b.map Itm.z) = 0 ∧ addL (a.map Itm.z) (b.map Itm.z) = totL (a.map Itm.z ++ b.map Itm.z)) := hfin
          clear hfin
          go_wp2
          go_ret2
          exact ⟨L, C, c, by rw [hfinH.out.1]; rfl, by rw [hfinH.out.2]; exact hLt.out, hfin2.out.2.1, hfin2.out.2.2.1, hfin2.out.2.2.2, hNw.out⟩
      · have hG0 : G ≠ 0 := by simpa using hq3
        have hfinH : Hid (addE (a.map Itm.z) (b.map Itm.z) = G ∧ addL (a.map Itm.z) (b.map Itm.z) = []) := by
          have := addE_t h0H.out k0H.out (by rw [hGH.out]; exact hG0)
          rw [hGH.out] at this
          exact this
        clear hG0
        go_wp2
        go_ret2
        exact ⟨[], none, 0, by rw [hfinH.out.1]; rfl, by rw [hfinH.out.2]; rfl, ⟨Or.inl rfl, fun x hx => by cases hx⟩, fun _ => rfl, hfin2.out.2.2.2, NewT.none _⟩
    · have hF0 : F ≠ 0 := by simpa using hq2
      have hfin : Hid (addE (a.map Itm.z) (b.map Itm.z) = F ∧ addL (a.map Itm.z) (b.map Itm.z) = []) := by
        have := addE_b (b := b.map Itm.z) h0H.out (by rw [hFH.out]; exact hF0)
        rw [hFH.out] at this
        exact this
      have hbw : Hid (Below w.heap.size w w2) := (hg1.trans hg2).below
      clear hF0
      go_wp2
      go_ret2
      exact ⟨[], none, 0, by rw [hfin.out.1]; rfl, by rw [hfin.out.2]; rfl, ⟨Or.inl rfl, fun x hx => by cases hx⟩, fun _ => rfl, hbw.out, NewT.none _⟩
  · have hE0 : E ≠ 0 := by simpa using hq
    have hfin : Hid (addE (a.map Itm.z) (b.map Itm.z) = E ∧ addL (a.map Itm.z) (b.map Itm.z) = []) := by
      have := addE_a (b := b.map Itm.z) (show errZ (a.map Itm.z) ≠ 0 by rw [hEH.out]; exact hE0)
      rw [hEH.out] at this
      exact this
    have hbw : Hid (Below w.heap.size w w1) := hg1.below
    clear hE0
    go_wp2
    go_ret2
    exact ⟨[], none, 0, by rw [hfin.out.1]; rfl, by rw [hfin.out.2]; rfl, ⟨Or.inl rfl, fun x hx => by cases hx⟩, fun _ => rfl, hbw.out, NewT.none _⟩
theorem add_any (a b : List Itm) (A B : Option Addr) (ca cb : Nat) (w : World) (hal : a.length ≤ maxLen) (hbl : b.length ≤ maxLen) (hA : A = none → ca = 0) (hB : B = none → cb = 0) (hra : Items w A a) (hrb : Items w B b) :
    Calls Try.prog 13 #[.slice A a.length ca, .slice B b.length cb] w fun e w' => ∃ (L : List Itm) (C : Option Addr) (c : Nat), e = .returned (.tuple #[.slice C L.length c, .int .i64 (addE (a.map Itm.z) (b.map Itm.z))]) ∧ L.map Itm.z = addL (a.map Itm.z) (b.map Itm.z) ∧ Items w' C L ∧ NilC C L.length c ∧ Below w.heap.size w w' := by
  refine (add_new a b A B ca cb w hal hbl hA hB hra hrb).mono ?_
  rintro e w' ⟨L, C, c, h1, h2, h3, h4, h5, _⟩
  exact ⟨L, C, c, h1, h2, h3, h4, h5⟩

end Go.Proofs.Yteobmedkngdnkaa
