/-
  K.QueryBack: what is printed is read as it was; what is read is printed as it stood.
-/
import Derived.Test.YtahpkmdifkaldaaDoorQSame
namespace Go.Proofs.YtahpkmdifkaldaaDoor
open Go.RowKit Go.Sort

/-- The query that the law asks first. -/
def firstQ : List Stp := [⟨1, 0, 0, 0, 0, 0, none, 0, []⟩, ⟨2, 0, 0, 1, 3, -3, none, 0, []⟩]
theorem firstQ_err : errQ firstQ = 0 := by decide
theorem decDigits_small {u : Nat} (h : u < 10) : Lib.decDigits u = [UInt8.ofNat (48 + u)] := by rw [Lib.decDigits, dif_pos h]
theorem firstQ_text : printT firstQ = [116, 97, 98, 108, 101, 32, 48, 10, 119, 104, 101, 114, 101, 32, 48, 32, 49, 32, 62, 32, 45, 51, 10] := by
  have h0 : Lib.itoa 0 = [48] := by show Lib.decDigits 0 = _; rw [decDigits_small (by decide)]; rfl
  have h1 : Lib.itoa 1 = [49] := by show Lib.decDigits 1 = _; rw [decDigits_small (by decide)]; rfl
  have h3 : Lib.itoa (-3) = [45, 51] := by show 45 :: Lib.decDigits 3 = _; rw [decDigits_small (by decide)]; rfl
  unfold printT
  rw [if_pos firstQ_err]
  show (Lib.join [[116, 97, 98, 108, 101], Lib.itoa 0] [32] ++ [10]) ++ ((Lib.join [[119, 104, 101, 114, 101], Lib.itoa 0, Lib.itoa 1, [62], Lib.itoa (-3)] [32] ++ [10]) ++ []) = _
  rw [h0, h1, h3]
  rfl
theorem stps_first (w : World) : Stps (w.alloc (.cells #[.int .i64 1, .int .i64 0, .int .i64 0, .int .i64 0, .int .i64 0, .int .i64 0, .slice none 0 0, .int .i64 2, .int .i64 0, .int .i64 0, .int .i64 1, .int .i64 3, .int .i64 (-3), .slice none 0 0] 28)) (some ⟨w.heap.size, 0, none⟩) firstQ := by
  refine ⟨Or.inr ⟨w.heap.size, 0, rfl, by simp, fun j hj i hi => ?_⟩, fun s hs => ?_⟩
  · have hj2 : j = 0 ∨ j = 1 := by simp [firstQ] at hj; omega
    have hh : i = 0 ∨ i = 1 ∨ i = 2 ∨ i = 3 ∨ i = 4 ∨ i = 5 ∨ i = 6 := by omega
    rcases hj2 with rfl | rfl <;> rcases hh with rfl | rfl | rfl | rfl | rfl | rfl | rfl <;> exact box1 (w := w) (Gr.refl _) rfl
  · simp only [firstQ, List.mem_cons, List.not_mem_nil, or_false] at hs
    rcases hs with rfl | rfl
    · exact ⟨Or.inl rfl, Nat.zero_le _, fun _ => rfl⟩
    · exact ⟨Or.inl rfl, Nat.zero_le _, fun _ => rfl⟩
set_option maxRecDepth 100000 in
set_option maxHeartbeats 4000000 in
theorem queryBack_any (q : List Stp) (A : Option Addr) (ca : Nat) (x : List UInt8) (w : World) (hl : q.length ≤ maxLen) (hq : Stps w A q) (hr : Reads w) (hx : x.length ≤ maxLen) :
    Calls Tryd.prog 3 #[.slice A q.length ca, .string ⟨x.toArray⟩] w fun e w' => e = .returned (.bool true) ∧ Below w.heap.size w w' := by
  obtain ⟨w1, hw1⟩ : ∃ w1, w.alloc (.cells #[.int .i64 1, .int .i64 0, .int .i64 0, .int .i64 0, .int .i64 0, .int .i64 0, .slice none 0 0, .int .i64 2, .int .i64 0, .int .i64 0, .int .i64 1, .int .i64 3, .int .i64 (-3), .slice none 0 0] 28) = w1 := ⟨_, rfl⟩
  have hb1 : Below w.heap.size w w1 := hw1 ▸ ((Gr.refl w).alloc _).below
  have hp1 := print_any firstQ (some ⟨w.heap.size, 0, none⟩) 2 w1 (by decide) (hw1 ▸ stps_first w) (hr.below hb1).tens
  rw [firstQ_text, firstQ_err] at hp1
  have hp1H : Hid _ := hp1
  clear hp1
  go_enter Tryd.func3, Tryd.ntmps3
  go_wp2_with fail
  refine Calls.mono (show Calls _ _ _ _ _ from hp1H.out) ?_
  rintro e w2 ⟨rfl, hb2⟩
  have hbw2 : Hid (Below w.heap.size w w2) := hb1.trans (hb2.mono hb1.size)
  clear hp1H hb1 hb2 hw1
  have hp2 := print_any q A ca w2 hl (hq.below hbw2.out) (hr.below hbw2.out).tens
  obtain ⟨E, hE⟩ : ∃ E, errQ q = E := ⟨_, rfl⟩
  obtain ⟨T, hT⟩ : ∃ T, printT q = T := ⟨_, rfl⟩
  rw [hE, hT] at hp2
  have hp2H : Hid _ := hp2
  clear hp2
  go_wp2_with fail
  refine Calls.mono (show Calls _ _ _ _ _ from hp2H.out) ?_
  rintro e w3 ⟨rfl, hb3⟩
  have hbw3 : Hid (Below w.heap.size w w3) := hbw2.out.trans (hb3.mono hbw2.out.size)
  clear hp2H hb3
  by_cases hE0 : E = 0
  · subst hE0
    have hTt : textT q = T := by rw [← hT]; unfold printT; rw [if_pos hE]
    have hTl : T.length ≤ 1024 := by rw [← hTt]; exact text_1024 hE
    have hpa := parse_any T w3 (hr.below hbw3.out) (by unfold maxLen; omega)
    have hpaH : Hid _ := hpa
    clear hpa
    go_wp2_with fail
    refine Calls.mono (show Calls _ _ _ _ _ from hpaH.out) ?_
    rintro e w4 ⟨⟨B0, cb0, r, k, er, rfl, hk, hs, hlr, hpd⟩, hb4⟩
    have hbw4 : Hid (Below w.heap.size w w4) := hbw3.out.trans (hb4.mono hbw3.out.size)
    rw [← hTt] at hpd
    obtain ⟨rfl, hmap⟩ := parsed_print hE hpd
    have hsq := sameQ_any r q B0 A cb0 ca w4 (by unfold maxLen; omega) hs (hq.below hbw4.out) hmap
    have hsqH : Hid _ := hsq
    clear hsq hpd hmap hs hb4 hpaH hTt hT hE
    go_wp2_with fail
    refine Calls.mono (show Calls _ _ _ _ _ from hsqH.out) ?_
    rintro e w5 ⟨rfl, hg5⟩
    have hbw5 : Hid (Below w.heap.size w w5) := hbw4.out.trans (hg5.below.mono hbw4.out.size)
    clear hsqH hg5
    have hps := parse_any x w5 (hr.below hbw5.out) hx
    have hpsH : Hid _ := hps
    clear hps
    go_wp2_with fail
    refine Calls.mono (show Calls _ _ _ _ _ from hpsH.out) ?_
    rintro e v1 ⟨⟨B, cb, r2, k2, er2, rfl, hk2, hs2, hl2, hpd2⟩, hbv⟩
    have hbV : Hid (Below w.heap.size w v1) := hbw5.out.trans (hbv.mono hbw5.out.size)
    clear hpsH hbv
    by_cases her : er2 = 0
    · subst her
      have hpt := parsed_text hpd2
      have hpr := print_any r2 B cb v1 (by unfold maxLen; omega) hs2 (hr.below hbV.out).tens
      rw [hpt.1, hpt.2] at hpr
      have hprH : Hid _ := hpr
      clear hpr hpt hpd2
      go_wp2_with fail
      refine Calls.mono (show Calls _ _ _ _ _ from hprH.out) ?_
      rintro e v2 ⟨rfl, hbv2⟩
      have hbF : Hid (Below w.heap.size w v2) := hbV.out.trans (hbv2.mono hbV.out.size)
      clear hprH hbv2
      go_wp2
      go_ret
      exact ⟨by simp, hbF.out⟩
    · have herb : (er2 == 0) = false := by simpa using her
      have hr2 : r2 = [] := by
        rcases hpd2 with ⟨h, _⟩ | ⟨_, h, _⟩
        · exact absurd h her
        · exact h
      subst hr2
      have hkz : decide (k2 ≥ 0) = true := decide_eq_true hk2
      have hkz2 : decide (0 ≤ k2) = true := decide_eq_true hk2
      clear hpd2 hs2
      go_wp2
      go_ret
      exact ⟨by simp, hbV.out⟩
  · have hEb : (E == 0) = false := by simpa using hE0
    clear hT hE
    have hps := parse_any x w3 (hr.below hbw3.out) hx
    have hpsH : Hid _ := hps
    clear hps
    go_wp2_with fail
    refine Calls.mono (show Calls _ _ _ _ _ from hpsH.out) ?_
    rintro e v1 ⟨⟨B, cb, r2, k2, er2, rfl, hk2, hs2, hl2, hpd2⟩, hbv⟩
    have hbV : Hid (Below w.heap.size w v1) := hbw3.out.trans (hbv.mono hbw3.out.size)
    clear hpsH hbv
    by_cases her : er2 = 0
    · subst her
      have hpt := parsed_text hpd2
      have hpr := print_any r2 B cb v1 (by unfold maxLen; omega) hs2 (hr.below hbV.out).tens
      rw [hpt.1, hpt.2] at hpr
      have hprH : Hid _ := hpr
      clear hpr hpt hpd2
      go_wp2_with fail
      refine Calls.mono (show Calls _ _ _ _ _ from hprH.out) ?_
      rintro e v2 ⟨rfl, hbv2⟩
      have hbF : Hid (Below w.heap.size w v2) := hbV.out.trans (hbv2.mono hbV.out.size)
      clear hprH hbv2
      go_wp2
      go_ret
      exact ⟨by simp, hbF.out⟩
    · have herb : (er2 == 0) = false := by simpa using her
      have hr2 : r2 = [] := by
        rcases hpd2 with ⟨h, _⟩ | ⟨_, h, _⟩
        · exact absurd h her
        · exact h
      subst hr2
      have hkz : decide (k2 ≥ 0) = true := decide_eq_true hk2
      have hkz2 : decide (0 ≤ k2) = true := decide_eq_true hk2
      clear hpd2 hs2
      go_wp2
      go_ret
      exact ⟨by simp, hbV.out⟩
end Go.Proofs.YtahpkmdifkaldaaDoor
