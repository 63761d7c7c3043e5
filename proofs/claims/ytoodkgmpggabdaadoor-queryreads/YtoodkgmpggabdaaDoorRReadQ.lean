/-
  viewref.ReadQuery.
-/
import Derived.Test.YtoodkgmpggabdaaDoorRStepF
import Derived.Test.YtoodkgmpggabdaaDoorQRQuery
import Derived.Test.YtoodkgmpggabdaaDoorQParse
namespace Go.Proofs.YtoodkgmpggabdaaDoor
open Go.RowKit Go.Sort

theorem linesP_cons {a : List UInt8} {t : List (List UInt8)} {s : Stp} (h : t ≠ []) (hs : lineP a = some s) : linesP (a :: t) = (linesP t).map (s :: ·) := by
  obtain ⟨y, r, rfl⟩ := List.exists_cons_of_ne_nil h
  rw [linesP, hs]
  cases linesP (y :: r) <;> rfl
/-- The lines ahead of the k-th are read. -/
def PreL (L : List (List UInt8)) (k : Nat) (q0 : List Stp) : Prop := linesP L = (linesP (L.drop k)).map (q0 ++ ·) ∧ scnL L 1 = scnL (L.drop k) (k + 1)
theorem PreL.next {L : List (List UInt8)} {k : Nat} {q0 : List Stp} {s : Stp} (h : PreL L k q0) (hk : k + 1 < L.length) (hs : lineP (L[k]) = some s) : PreL L (k + 1) (q0 ++ [s]) := by
  have hd : L.drop k = L[k] :: L.drop (k + 1) := (List.drop_eq_getElem_cons (by omega))
  have hne : L.drop (k + 1) ≠ [] := by intro e; have := congrArg List.length e; simp at this; omega
  refine ⟨?_, ?_⟩
  · rw [h.1, hd, linesP_cons hne hs]
    cases linesP (L.drop (k + 1)) <;> simp
  · rw [h.2, hd, scnL_cons hne, hs]
theorem PreL.bad {L : List (List UInt8)} {k : Nat} {q0 : List Stp} (h : PreL L k q0) (hk : k + 1 < L.length) (hs : lineP (L[k]) = none) : scnL L 1 = k + 1 := by
  have hd : L.drop k = L[k] :: L.drop (k + 1) := (List.drop_eq_getElem_cons (by omega))
  have hne : L.drop (k + 1) ≠ [] := by intro e; have := congrArg List.length e; simp at this; omega
  rw [h.2, hd, scnL_cons hne, hs]
theorem PreL.last {L : List (List UInt8)} {k : Nat} {q0 : List Stp} (h : PreL L k q0) (hk : k + 1 = L.length) (hs : L[k] ≠ []) : scnL L 1 = k + 1 := by
  have hd : L.drop k = [L[k]] := by rw [List.drop_eq_getElem_cons (by omega), List.drop_eq_nil_of_le (by omega)]
  rw [h.2, hd]
  exact if_neg hs
theorem PreL.done {L : List (List UInt8)} {k : Nat} {q0 : List Stp} (h : PreL L k q0) (hk : k + 1 = L.length) (hs : L[k] = []) : linesP L = some q0 ∧ scnL L 1 = 0 := by
  have hd : L.drop k = [L[k]] := by rw [List.drop_eq_getElem_cons (by omega), List.drop_eq_nil_of_le (by omega)]
  rw [h.1, h.2, hd, hs]
  exact ⟨by simp [linesP], rfl⟩

set_option maxRecDepth 100000 in
set_option maxHeartbeats 4000000 in
theorem readQ_any (x : List UInt8) (w : World) (hv : Verbs w) (hx0 : x.length ≤ maxLen) : Calls Tryd.prog 5 #[.string ⟨x.toArray⟩] w fun e w' => (∃ A cap q k er, e = .returned (.tuple #[.slice A q.length cap, .int .i64 k, .int .i64 er]) ∧ 0 ≤ k ∧ Stps w' A q ∧ q.length ≤ 1100 ∧ ReadX x q k er) ∧ Below w.heap.size w w' := by
  have hx : x.length ≤ 9223372036854775807 := by unfold maxLen at hx0; exact hx0
  go_enter Tryd.func5, Tryd.ntmps5
  by_cases hL : 1024 < x.length
  · have hLz : (1024 : Int) < (x.length : Int) := by omega
    go_wp2
    go_ret3
    exact ⟨⟨none, 0, [], 0, 2, rfl, by decide, ⟨Or.inl rfl, fun s hs => by cases hs⟩, by simp, Or.inl ⟨hL, rfl, rfl, rfl⟩⟩, Below.refl _ _⟩
  have hLz : ¬ (1024 : Int) < (x.length : Int) := by omega
  have hP0 := pieces_any x 10 w (by omega)
  have hP : Hid _ := hP0
  clear hP0
  go_wp2_with fail
  refine Calls.mono (show Calls _ _ _ _ _ from hP.out) ?_
  rintro e w2 ⟨v, rfl, o2, b2⟩
  obtain ⟨A, cp, rfl, _, hrow, hcp, _, _⟩ := OwnG.full encX_len o2
  obtain ⟨L, hLs⟩ : ∃ L, splitC 10 x = L := ⟨_, rfl⟩
  have hlen := splitC_lenP 10 x
  have hne := splitC_ne 10 x
  rw [hLs] at hrow hcp hlen hne ⊢
  obtain ⟨m, hm⟩ : ∃ m, L.length = m + 1 := ⟨L.length - 1, by have := List.length_pos_iff.2 hne; omega⟩
  obtain ⟨b, off, rfl, hb, hcs⟩ := hrow.at (m := m) (by omega)
  have e0 : w2.cell? ⟨b, off + m, none⟩ = some (.string ⟨(L[m]).toArray⟩) := by have := hcs m (by omega) 0 (by omega); simpa [encX] using this
  rw [hm] at hcp hlen ⊢
  obtain ⟨z, hz⟩ : ∃ z, L[m] = z := ⟨_, rfl⟩
  rw [hz] at e0
  have hz9 : Hid (Below w.heap.size w w2 ∧ RowX w2 (some ⟨b, off, none⟩) L ∧ Verbs w2 ∧ L.length = m + 1 ∧ splitC 10 x = L ∧ (∀ y ∈ L, y.length ≤ 1024)) := ⟨b2, hrow, hv.below b2, hm, hLs, fun y hy => by rw [← hLs] at hy; exact Nat.le_trans (splitC_leP hy) (by omega)⟩
  have hzH : Hid (∀ (h : m < L.length), L[m] = z) := fun _ => hz
  have hm1 : m ≤ 1024 := by omega
  have hm2 : ¬ cp = 0 := by omega
  clear hcs hP hrow hv b2 hLs hne o2
  by_cases hze : z = []
  · have hzb : z.isEmpty = true := by simp [hze]
    go_wp2_with fail
    clear e0
    go_loopw [7, 8] (fun v i wr => ∃ (q q0 : List Stp), i = .int .i64 q.length ∧ q.length ≤ m ∧ Hid (OwnS wr w2.heap.size v q ∧ Below w2.heap.size w2 wr ∧ q.map clr = q0.map clr ∧ PreL L q.length q0)) (fun _ i _ => m - (intOf i).toNat)
    case atStart => exact ⟨[], [], rfl, by simp, OwnS.nil _ _, Below.refl _ _, rfl, by simp, rfl⟩
    case round =>
      obtain ⟨q, q0, rfl, hqm, hov⟩ := hrel
      by_cases hq : q.length < m
      · have hqz : (q.length : Int) < (m : Int) := by omega
        have hqL : q.length < L.length := by have := hz9.out.2.2.2.1; omega
        obtain ⟨a, ha⟩ : ∃ a, L[q.length] = a := ⟨_, rfl⟩
        have hbb : Below w.heap.size w wr := hz9.out.1.trans (hov.out.2.1.mono hz9.out.1.size)
        have ek : wr.cell? ⟨b, off + q.length, none⟩ = some (.string ⟨a.toArray⟩) := by
          obtain ⟨b', off', hA', hb', hcs'⟩ := (hz9.out.2.1.below hov.out.2.1).at (m := 0) (by omega)
          injection hA' with hA'
          injection hA' with h91 h92
          subst h91 h92
          have := hcs' q.length hqL 0 (by omega)
          rw [ha] at this
          simpa [encX] using this
        have hal : a.length ≤ 1024 := hz9.out.2.2.2.2.2 a (by rw [← ha]; exact List.getElem_mem _)
        have hP0 := pieces_any a 32 wr (by omega)
        have hP : Hid _ := hP0
        have haH : Hid (∀ h : q.length < L.length, L[q.length] = a) := fun _ => ha
        clear hP0 ha
        go_wp2_with fail
        clear ek
        refine Calls.mono (show Calls _ _ _ _ _ from hP.out) ?_
        rintro e w3 ⟨v3, rfl, o3, b3⟩
        obtain ⟨A3, c3, rfl, _, hrow3, hcp3, _, _⟩ := OwnG.full encX_len o3
        have hb3 : Hid (Below w2.heap.size w2 w3 ∧ Below wr.heap.size wr w3) := ⟨hov.out.2.1.trans (b3.mono hov.out.2.1.size), b3⟩
        obtain ⟨B, hB⟩ : ∃ B, stpB (splitC 32 a) = B := ⟨_, rfl⟩
        have hS0 := rstep_any (splitC 32 a) A3 c3 w3 hrow3 (splitC_ne _ _) (by have := splitC_lenP 32 a; omega) hcp3 (fun y hy => Nat.le_trans (splitC_leP hy) (by omega)) (hz9.out.2.2.1.below hb3.out.1) hB
        have hS : Hid _ := hS0
        have hBH : Hid (stpB (splitC 32 a) = B) := hB
        clear hS0 hB hP o3 b3 hrow3 hbb
        go_wp2_with fail
        refine Calls.mono (show Calls _ _ _ _ _ from hS.out) ?_
        rintro e w4 ⟨t', rfl, b4, hO⟩
        have hb4 : Hid (Below w2.heap.size w2 w4 ∧ Below wr.heap.size wr w4) := ⟨hb3.out.1.trans (b4.mono hb3.out.1.size), hb3.out.2.trans (b4.mono hb3.out.2.size)⟩
        cases B
        · have hfin : Hid (scnL L 1 = q.length + 1) := hov.out.2.2.2.bad (by have := hz9.out.2.2.2.1; omega) (by
            rw [haH.out hqL, lineP_step]
            have := hBH.out
            unfold stpB at this
            cases e : stepP (splitC 32 a) with
            | none => rfl
            | some t => rw [e] at this; cases this)
          have hw4 : Hid (Below w.heap.size w w4) := hz9.out.1.trans (hb4.out.1.mono hz9.out.1.size)
          clear hS hO hov b4
          go_wp2
          go_ret3
          exact ⟨⟨none, 0, [], _, _, rfl, by omega, ⟨Or.inl rfl, fun s hs => by cases hs⟩, by simp, Or.inr (Or.inl ⟨by omega, by rw [hz9.out.2.2.2.2.1, hfin.out]; omega, rfl, by rw [hz9.out.2.2.2.2.1, hfin.out]; push_cast; rfl, rfl⟩)⟩, hw4.out.alloc hw4.out.size _⟩
        · obtain ⟨s0, hs0⟩ : ∃ s0, stepP (splitC 32 a) = some s0 := by
            have := hBH.out
            unfold stpB at this
            cases e : stepP (splitC 32 a) with
            | none => rw [e] at this; cases this
            | some t => exact ⟨t, rfl⟩
          obtain ⟨hct, hht, hft⟩ := hO s0 hs0
          have hpr : Hid (PreL L (q ++ [t']).length (q0 ++ [s0]) ∧ (q ++ [t']).map clr = (q0 ++ [s0]).map clr) := ⟨by
            rw [List.length_append]
            exact hov.out.2.2.2.next (by have := hz9.out.2.2.2.1; omega) (by rw [haH.out hqL, lineP_step, hs0]), by rw [List.map_append, List.map_append, hov.out.2.2.1]; simp [hct]⟩
          have how : Hid (OwnS w4 w2.heap.size u7 q ∧ ApartS w4 w2.heap.size u7.ownBlock t') := ⟨hov.out.1.below hb4.out.2, ⟨hht.1, hht.2.1, hht.2.2, fun a ha => ⟨Nat.le_trans hb3.out.1.size (hft a ha).1, (hft a ha).2, fun e => by
            have h1 := (hov.out.1.own.lt _ e).2
            have h2 := (hft a ha).1
            have h3 := hb3.out.2.size
            omega⟩⟩⟩
          clear hS hO hov b4 hct hht hft hs0
          have hg5 : Gr w4 ((w4.alloc (.cells #[.int .i64 t'.k, .int .i64 t'.a, .int .i64 t'.b, .int .i64 t'.c, .int .i64 t'.o, .int .i64 t'.v, .slice t'.p t'.l.length t'.n] 32)).alloc (.cells #[.int .i64 t'.k, .int .i64 t'.a, .int .i64 t'.b, .int .i64 t'.c, .int .i64 t'.o, .int .i64 t'.v, .slice t'.p t'.l.length t'.n] 32)) := ((Gr.refl w4).alloc _).alloc _
          have hoX : Hid (OwnS ((w4.alloc (.cells #[.int .i64 t'.k, .int .i64 t'.a, .int .i64 t'.b, .int .i64 t'.c, .int .i64 t'.o, .int .i64 t'.v, .slice t'.p t'.l.length t'.n] 32)).alloc (.cells #[.int .i64 t'.k, .int .i64 t'.a, .int .i64 t'.b, .int .i64 t'.c, .int .i64 t'.o, .int .i64 t'.v, .slice t'.p t'.l.length t'.n] 32)) w2.heap.size u7 q ∧ RowG encQ 7 ((w4.alloc (.cells #[.int .i64 t'.k, .int .i64 t'.a, .int .i64 t'.b, .int .i64 t'.c, .int .i64 t'.o, .int .i64 t'.v, .slice t'.p t'.l.length t'.n] 32)).alloc (.cells #[.int .i64 t'.k, .int .i64 t'.a, .int .i64 t'.b, .int .i64 t'.c, .int .i64 t'.o, .int .i64 t'.v, .slice t'.p t'.l.length t'.n] 32)) (some ⟨w4.heap.size + 1, 0, none⟩) [t'] ∧ ApartS ((w4.alloc (.cells #[.int .i64 t'.k, .int .i64 t'.a, .int .i64 t'.b, .int .i64 t'.c, .int .i64 t'.o, .int .i64 t'.v, .slice t'.p t'.l.length t'.n] 32)).alloc (.cells #[.int .i64 t'.k, .int .i64 t'.a, .int .i64 t'.b, .int .i64 t'.c, .int .i64 t'.o, .int .i64 t'.v, .slice t'.p t'.l.length t'.n] 32)) w2.heap.size u7.ownBlock t' ∧ q.length + 1 ≤ maxLen ∧ (q.length + 1) * 72 ≤ 140737488355328 ∧ Below w2.heap.size w2 ((w4.alloc (.cells #[.int .i64 t'.k, .int .i64 t'.a, .int .i64 t'.b, .int .i64 t'.c, .int .i64 t'.o, .int .i64 t'.v, .slice t'.p t'.l.length t'.n] 32)).alloc (.cells #[.int .i64 t'.k, .int .i64 t'.a, .int .i64 t'.b, .int .i64 t'.c, .int .i64 t'.o, .int .i64 t'.v, .slice t'.p t'.l.length t'.n] 32))) := ⟨how.out.1.gr hg5, rowNewQ (by simp) t' 32, how.out.2.below hg5.below, by unfold maxLen; omega, by omega, hb4.out.1.trans (hg5.below.mono hb4.out.1.size)⟩
          clear how hg5
          go_wp2_with (at_builtin; refine wpList_append_s2 _ rfl _ _ rfl w2.heap.size u7 q t' ⟨w4.heap.size + 1, 0, none⟩ 1 rfl rfl hoX.out.1 hoX.out.2.1 hoX.out.2.2.1 hoX.out.2.2.2.1 hoX.out.2.2.2.2.1 hoX.out.2.2.2.2.2.size ?_; intro v7 w7 hown7 hb7)
          have hfin7 : Hid (OwnS w7 w2.heap.size v7 (q ++ [t']) ∧ Below w2.heap.size w2 w7) := ⟨hown7, hoX.out.2.2.2.2.2.trans hb7⟩
          clear hown7 hb7 hoX
          go_roundw
          case rel => exact ⟨q ++ [t'], q0 ++ [s0], by simp only [List.length_append, List.length_cons, List.length_nil]; go_num, by simp; omega, hfin7.out.1, hfin7.out.2, hpr.out.2, hpr.out.1⟩
          case measure => show m - (((q.length : Int) + 1).toNat) < m - ((q.length : Int).toNat); omega
      · have hqe : q.length = m := by omega
        have hqz : ¬ (q.length : Int) < (m : Int) := by omega
        obtain ⟨QA, cap, hvA, hA, hst⟩ := OwnS.stps hov.out.1
        subst hvA
        have hck := refQuery_any q QA cap wr (by unfold maxLen; omega) hst
        have hckH : Hid _ := hck
        have hdn : Hid (textP x = some q0 ∧ scnL (splitC 10 x) 1 = 0) := by
          have h1 := hov.out.2.2.2.done (by rw [hqe]; exact hz9.out.2.2.2.1.symm) (by have h2 := hzH.out (by have := hz9.out.2.2.2.1; omega); simp only [hqe]; rw [h2]; exact hze)
          show _ ∧ _
          unfold textP
          rw [hz9.out.2.2.2.2.1]
          exact h1
        have hwr : Below w.heap.size w wr := hz9.out.1.trans (hov.out.2.1.mono hz9.out.1.size)
        have hmH : Hid (q.map clr = q0.map clr ∧ Stps wr QA q ∧ Below w.heap.size w wr ∧ q.length ≤ 1100) := ⟨hov.out.2.2.1, hst, hwr, by omega⟩
        clear hck hov hst hA hwr hqe
        obtain ⟨E, hE⟩ : ∃ E, errQ q = E := ⟨_, rfl⟩
        rw [hE] at hckH
        go_wp2_with fail
        refine Calls.mono (show Calls _ _ _ _ _ from hckH.out) ?_
        rintro e w5 ⟨rfl, hb5⟩
        have hfin : Hid (Stps w5 QA q ∧ Below w.heap.size w w5) := ⟨hmH.out.2.1.below hb5, hmH.out.2.2.1.trans (hb5.mono hmH.out.2.2.1.size)⟩
        clear hckH hb5
        by_cases hE0 : E = 0
        · subst hE0
          have hEH : Hid (errQ q = 0) := hE
          clear hE
          go_wp2
          go_ret3
          exact ⟨⟨QA, cap, q, 0, 0, rfl, by decide, hfin.out.1, hmH.out.2.2.2, Or.inr (Or.inr ⟨by omega, hdn.out.2, q0, q, hdn.out.1, hmH.out.1, rfl, hEH.out.symm, fun _ => rfl, fun h => absurd rfl h⟩)⟩, hfin.out.2⟩
        · have hEb : (E == 0) = false := by simpa using hE0
          have hEH : Hid (errQ q = E ∧ E ≠ 0) := ⟨hE, hE0⟩
          clear hE hE0
          go_wp2
          go_ret3
          exact ⟨⟨none, 0, [], 0, E, rfl, by decide, ⟨Or.inl rfl, fun s hs => by cases hs⟩, by simp, Or.inr (Or.inr ⟨by omega, hdn.out.2, q0, q, hdn.out.1, hmH.out.1, rfl, hEH.out.1.symm, fun h => absurd h hEH.out.2, fun _ => rfl⟩)⟩, hfin.out.2⟩
  · have hzb : z.isEmpty = false := by simpa using hze
    go_wp2_with fail
    clear e0
    go_loopw [7, 8] (fun v i wr => ∃ (q q0 : List Stp), i = .int .i64 q.length ∧ q.length ≤ m ∧ Hid (OwnS wr w2.heap.size v q ∧ Below w2.heap.size w2 wr ∧ q.map clr = q0.map clr ∧ PreL L q.length q0)) (fun _ i _ => m - (intOf i).toNat)
    case atStart => exact ⟨[], [], rfl, by simp, OwnS.nil _ _, Below.refl _ _, rfl, by simp, rfl⟩
    case round =>
      obtain ⟨q, q0, rfl, hqm, hov⟩ := hrel
      have hqz : (q.length : Int) < (m : Int) + 1 := by omega
      by_cases hq : q.length < m
      · have hqn : ((q.length : Int) == (m : Int)) = false := by simp; omega
        have hqn2 : ¬ (q.length : Int) = (m : Int) := by omega
        have hqL : q.length < L.length := by have := hz9.out.2.2.2.1; omega
        obtain ⟨a, ha⟩ : ∃ a, L[q.length] = a := ⟨_, rfl⟩
        have hbb : Below w.heap.size w wr := hz9.out.1.trans (hov.out.2.1.mono hz9.out.1.size)
        have ek : wr.cell? ⟨b, off + q.length, none⟩ = some (.string ⟨a.toArray⟩) := by
          obtain ⟨b', off', hA', hb', hcs'⟩ := (hz9.out.2.1.below hov.out.2.1).at (m := 0) (by omega)
          injection hA' with hA'
          injection hA' with h91 h92
          subst h91 h92
          have := hcs' q.length hqL 0 (by omega)
          rw [ha] at this
          simpa [encX] using this
        have hal : a.length ≤ 1024 := hz9.out.2.2.2.2.2 a (by rw [← ha]; exact List.getElem_mem _)
        have hP0 := pieces_any a 32 wr (by omega)
        have hP : Hid _ := hP0
        have haH : Hid (∀ h : q.length < L.length, L[q.length] = a) := fun _ => ha
        clear hP0 ha
        go_wp2_with fail
        clear ek
        refine Calls.mono (show Calls _ _ _ _ _ from hP.out) ?_
        rintro e w3 ⟨v3, rfl, o3, b3⟩
        obtain ⟨A3, c3, rfl, _, hrow3, hcp3, _, _⟩ := OwnG.full encX_len o3
        have hb3 : Hid (Below w2.heap.size w2 w3 ∧ Below wr.heap.size wr w3) := ⟨hov.out.2.1.trans (b3.mono hov.out.2.1.size), b3⟩
        obtain ⟨B, hB⟩ : ∃ B, stpB (splitC 32 a) = B := ⟨_, rfl⟩
        have hS0 := rstep_any (splitC 32 a) A3 c3 w3 hrow3 (splitC_ne _ _) (by have := splitC_lenP 32 a; omega) hcp3 (fun y hy => Nat.le_trans (splitC_leP hy) (by omega)) (hz9.out.2.2.1.below hb3.out.1) hB
        have hS : Hid _ := hS0
        have hBH : Hid (stpB (splitC 32 a) = B) := hB
        clear hS0 hB hP o3 b3 hrow3 hbb
        go_wp2_with fail
        refine Calls.mono (show Calls _ _ _ _ _ from hS.out) ?_
        rintro e w4 ⟨t', rfl, b4, hO⟩
        have hb4 : Hid (Below w2.heap.size w2 w4 ∧ Below wr.heap.size wr w4) := ⟨hb3.out.1.trans (b4.mono hb3.out.1.size), hb3.out.2.trans (b4.mono hb3.out.2.size)⟩
        cases B
        · have hfin : Hid (scnL L 1 = q.length + 1) := hov.out.2.2.2.bad (by have := hz9.out.2.2.2.1; omega) (by
            rw [haH.out hqL, lineP_step]
            have := hBH.out
            unfold stpB at this
            cases e : stepP (splitC 32 a) with
            | none => rfl
            | some t => rw [e] at this; cases this)
          have hw4 : Hid (Below w.heap.size w w4) := hz9.out.1.trans (hb4.out.1.mono hz9.out.1.size)
          clear hS hO hov b4
          go_wp2
          go_ret3
          exact ⟨⟨none, 0, [], _, _, rfl, by omega, ⟨Or.inl rfl, fun s hs => by cases hs⟩, by simp, Or.inr (Or.inl ⟨by omega, by rw [hz9.out.2.2.2.2.1, hfin.out]; omega, rfl, by rw [hz9.out.2.2.2.2.1, hfin.out]; push_cast; rfl, rfl⟩)⟩, hw4.out.alloc hw4.out.size _⟩
        · obtain ⟨s0, hs0⟩ : ∃ s0, stepP (splitC 32 a) = some s0 := by
            have := hBH.out
            unfold stpB at this
            cases e : stepP (splitC 32 a) with
            | none => rw [e] at this; cases this
            | some t => exact ⟨t, rfl⟩
          obtain ⟨hct, hht, hft⟩ := hO s0 hs0
          have hpr : Hid (PreL L (q ++ [t']).length (q0 ++ [s0]) ∧ (q ++ [t']).map clr = (q0 ++ [s0]).map clr) := ⟨by
            rw [List.length_append]
            exact hov.out.2.2.2.next (by have := hz9.out.2.2.2.1; omega) (by rw [haH.out hqL, lineP_step, hs0]), by rw [List.map_append, List.map_append, hov.out.2.2.1]; simp [hct]⟩
          have how : Hid (OwnS w4 w2.heap.size u7 q ∧ ApartS w4 w2.heap.size u7.ownBlock t') := ⟨hov.out.1.below hb4.out.2, ⟨hht.1, hht.2.1, hht.2.2, fun a ha => ⟨Nat.le_trans hb3.out.1.size (hft a ha).1, (hft a ha).2, fun e => by
            have h1 := (hov.out.1.own.lt _ e).2
            have h2 := (hft a ha).1
            have h3 := hb3.out.2.size
            omega⟩⟩⟩
          clear hS hO hov b4 hct hht hft hs0
          have hg5 : Gr w4 ((w4.alloc (.cells #[.int .i64 t'.k, .int .i64 t'.a, .int .i64 t'.b, .int .i64 t'.c, .int .i64 t'.o, .int .i64 t'.v, .slice t'.p t'.l.length t'.n] 32)).alloc (.cells #[.int .i64 t'.k, .int .i64 t'.a, .int .i64 t'.b, .int .i64 t'.c, .int .i64 t'.o, .int .i64 t'.v, .slice t'.p t'.l.length t'.n] 32)) := ((Gr.refl w4).alloc _).alloc _
          have hoX : Hid (OwnS ((w4.alloc (.cells #[.int .i64 t'.k, .int .i64 t'.a, .int .i64 t'.b, .int .i64 t'.c, .int .i64 t'.o, .int .i64 t'.v, .slice t'.p t'.l.length t'.n] 32)).alloc (.cells #[.int .i64 t'.k, .int .i64 t'.a, .int .i64 t'.b, .int .i64 t'.c, .int .i64 t'.o, .int .i64 t'.v, .slice t'.p t'.l.length t'.n] 32)) w2.heap.size u7 q ∧ RowG encQ 7 ((w4.alloc (.cells #[.int .i64 t'.k, .int .i64 t'.a, .int .i64 t'.b, .int .i64 t'.c, .int .i64 t'.o, .int .i64 t'.v, .slice t'.p t'.l.length t'.n] 32)).alloc (.cells #[.int .i64 t'.k, .int .i64 t'.a, .int .i64 t'.b, .int .i64 t'.c, .int .i64 t'.o, .int .i64 t'.v, .slice t'.p t'.l.length t'.n] 32)) (some ⟨w4.heap.size + 1, 0, none⟩) [t'] ∧ ApartS ((w4.alloc (.cells #[.int .i64 t'.k, .int .i64 t'.a, .int .i64 t'.b, .int .i64 t'.c, .int .i64 t'.o, .int .i64 t'.v, .slice t'.p t'.l.length t'.n] 32)).alloc (.cells #[.int .i64 t'.k, .int .i64 t'.a, .int .i64 t'.b, .int .i64 t'.c, .int .i64 t'.o, .int .i64 t'.v, .slice t'.p t'.l.length t'.n] 32)) w2.heap.size u7.ownBlock t' ∧ q.length + 1 ≤ maxLen ∧ (q.length + 1) * 72 ≤ 140737488355328 ∧ Below w2.heap.size w2 ((w4.alloc (.cells #[.int .i64 t'.k, .int .i64 t'.a, .int .i64 t'.b, .int .i64 t'.c, .int .i64 t'.o, .int .i64 t'.v, .slice t'.p t'.l.length t'.n] 32)).alloc (.cells #[.int .i64 t'.k, .int .i64 t'.a, .int .i64 t'.b, .int .i64 t'.c, .int .i64 t'.o, .int .i64 t'.v, .slice t'.p t'.l.length t'.n] 32))) := ⟨how.out.1.gr hg5, rowNewQ (by simp) t' 32, how.out.2.below hg5.below, by unfold maxLen; omega, by omega, hb4.out.1.trans (hg5.below.mono hb4.out.1.size)⟩
          clear how hg5
          go_wp2_with (at_builtin; refine wpList_append_s2 _ rfl _ _ rfl w2.heap.size u7 q t' ⟨w4.heap.size + 1, 0, none⟩ 1 rfl rfl hoX.out.1 hoX.out.2.1 hoX.out.2.2.1 hoX.out.2.2.2.1 hoX.out.2.2.2.2.1 hoX.out.2.2.2.2.2.size ?_; intro v7 w7 hown7 hb7)
          have hfin7 : Hid (OwnS w7 w2.heap.size v7 (q ++ [t']) ∧ Below w2.heap.size w2 w7) := ⟨hown7, hoX.out.2.2.2.2.2.trans hb7⟩
          clear hown7 hb7 hoX
          go_roundw
          case rel => exact ⟨q ++ [t'], q0 ++ [s0], by simp only [List.length_append, List.length_cons, List.length_nil]; go_num, by simp; omega, hfin7.out.1, hfin7.out.2, hpr.out.2, hpr.out.1⟩
          case measure => show m - (((q.length : Int) + 1).toNat) < m - ((q.length : Int).toNat); omega
      · have hlast : Hid (scnL L 1 = q.length + 1) := hov.out.2.2.2.last (by have := hz9.out.2.2.2.1; omega) (by
          have hqe : q.length = m := by omega
          have h2 := hzH.out (by have := hz9.out.2.2.2.1; omega)
          simp only [hqe]
          rw [h2]
          exact hze)
        have hqn : ((q.length : Int) == (m : Int)) = true := by simp; omega
        have hqL : q.length < L.length := by have := hz9.out.2.2.2.1; omega
        obtain ⟨a, ha⟩ : ∃ a, L[q.length] = a := ⟨_, rfl⟩
        have hbb : Below w.heap.size w wr := hz9.out.1.trans (hov.out.2.1.mono hz9.out.1.size)
        have ek : wr.cell? ⟨b, off + q.length, none⟩ = some (.string ⟨a.toArray⟩) := by
          obtain ⟨b', off', hA', hb', hcs'⟩ := (hz9.out.2.1.below hov.out.2.1).at (m := 0) (by omega)
          injection hA' with hA'
          injection hA' with h91 h92
          subst h91 h92
          have := hcs' q.length hqL 0 (by omega)
          rw [ha] at this
          simpa [encX] using this
        have hal : a.length ≤ 1024 := hz9.out.2.2.2.2.2 a (by rw [← ha]; exact List.getElem_mem _)
        have hP0 := pieces_any a 32 wr (by omega)
        have hP : Hid _ := hP0
        have haH : Hid (∀ h : q.length < L.length, L[q.length] = a) := fun _ => ha
        clear hP0 ha
        go_wp2_with fail
        clear ek
        refine Calls.mono (show Calls _ _ _ _ _ from hP.out) ?_
        rintro e w3 ⟨v3, rfl, o3, b3⟩
        obtain ⟨A3, c3, rfl, _, hrow3, hcp3, _, _⟩ := OwnG.full encX_len o3
        have hb3 : Hid (Below w2.heap.size w2 w3 ∧ Below wr.heap.size wr w3) := ⟨hov.out.2.1.trans (b3.mono hov.out.2.1.size), b3⟩
        obtain ⟨B, hB⟩ : ∃ B, stpB (splitC 32 a) = B := ⟨_, rfl⟩
        have hS0 := rstep_any (splitC 32 a) A3 c3 w3 hrow3 (splitC_ne _ _) (by have := splitC_lenP 32 a; omega) hcp3 (fun y hy => Nat.le_trans (splitC_leP hy) (by omega)) (hz9.out.2.2.1.below hb3.out.1) hB
        have hS : Hid _ := hS0
        have hBH : Hid (stpB (splitC 32 a) = B) := hB
        clear hS0 hB hP o3 b3 hrow3 hbb
        go_wp2_with fail
        refine Calls.mono (show Calls _ _ _ _ _ from hS.out) ?_
        rintro e w4 ⟨t', rfl, b4, hO⟩
        have hb4 : Hid (Below w2.heap.size w2 w4 ∧ Below wr.heap.size wr w4) := ⟨hb3.out.1.trans (b4.mono hb3.out.1.size), hb3.out.2.trans (b4.mono hb3.out.2.size)⟩
        cases B
        · have hfin : Hid (scnL L 1 = q.length + 1) := hlast
          have hw4 : Hid (Below w.heap.size w w4) := hz9.out.1.trans (hb4.out.1.mono hz9.out.1.size)
          clear hS hO hov b4
          go_wp2
          go_ret3
          exact ⟨⟨none, 0, [], _, _, rfl, by omega, ⟨Or.inl rfl, fun s hs => by cases hs⟩, by simp, Or.inr (Or.inl ⟨by omega, by rw [hz9.out.2.2.2.2.1, hfin.out]; omega, rfl, by rw [hz9.out.2.2.2.2.1, hfin.out]; push_cast; rfl, rfl⟩)⟩, hw4.out.alloc hw4.out.size _⟩
        · have hfin : Hid (scnL L 1 = q.length + 1) := hlast
          have hw4 : Hid (Below w.heap.size w w4) := hz9.out.1.trans (hb4.out.1.mono hz9.out.1.size)
          clear hS hO hov b4
          go_wp2
          go_ret3
          exact ⟨⟨none, 0, [], _, _, rfl, by omega, ⟨Or.inl rfl, fun s hs => by cases hs⟩, by simp, Or.inr (Or.inl ⟨by omega, by rw [hz9.out.2.2.2.2.1, hfin.out]; omega, rfl, by rw [hz9.out.2.2.2.2.1, hfin.out]; push_cast; rfl, rfl⟩)⟩, hw4.out.alloc hw4.out.size _⟩
end Go.Proofs.YtoodkgmpggabdaaDoor
