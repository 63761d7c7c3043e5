/-
  viewlaw.QuerySays.
-/
import Derived.Test.YtjjpmkekcffceaaDoorQRText
import Derived.Test.YtjjpmkekcffceaaDoorQRQuery
namespace Go.Proofs.YtjjpmkekcffceaaDoor
open Go.RowKit Go.Sort

theorem printS {q : List Stp} {A : Option Addr} {ca : Nat} {w : World} {T : ByteArray} {E : Int} (hT : T = ⟨(printT q).toArray⟩) (hE : errQ q = E) (hl : q.length ≤ maxLen) (hq : Stps w A q) (ht : Tens w) :
    Calls Tryd.prog 8 #[.slice A q.length ca] w fun e w' => e = .returned (.tuple #[.string T, .int .i64 E]) ∧ Below w.heap.size w w' := by rw [hT, ← hE]; exact print_any q A ca w hl hq ht
theorem widthS {q : List Stp} {i : Int} {A : Option Addr} {ca : Nat} {w : World} {n f : Int} (hn : widI q i = n) (hf : widE q i = f) (hl : q.length ≤ maxLen) (hq : Stps w A q) :
    Calls Tryd.prog 9 #[.slice A q.length ca, .int .i64 i] w fun e w' => e = .returned (.tuple #[.int .i64 n, .int .i64 f]) ∧ Below w.heap.size w w' := by rw [← hn, ← hf]; exact widthQ_any q i A ca w hl hq
theorem checkS {q : List Stp} {A : Option Addr} {ca : Nat} {w : World} {E : Int} (hE : errQ q = E) (hl : q.length ≤ maxLen) (hq : Stps w A q) :
    Calls Tryd.prog 10 #[.slice A q.length ca] w fun e w' => e = .returned (.int .i64 E) ∧ Below w.heap.size w w' := by rw [← hE]; exact checkQ_any q A ca w hl hq
theorem textS {q : List Stp} {A : Option Addr} {ca : Nat} {w : World} {T : ByteArray} (hT : T = ⟨(printT q).toArray⟩) (h0 : errQ q = 0) (hq : Stps w A q) (ht : Tens w) (hv : Verbs w) :
    Calls Tryd.prog 5 #[.slice A q.length ca] w fun e w' => e = .returned (.string T) ∧ Below w.heap.size w w' := by
  have : printT q = textT q := by unfold printT; rw [if_pos h0]
  rw [hT, this]; exact refText_any q A ca w h0 hq ht hv
theorem widsS {q : List Stp} {A : Option Addr} {ca : Nat} {w : World} {L : List Int} (hL : widsL q = L) (h0 : errQ q = 0) (hl : q.length ≤ 8) (hq : Stps w A q) :
    Calls Tryd.prog 6 #[.slice A q.length ca] w fun e w' => ∃ (C : Option Addr) (c : Nat), e = .returned (.tuple #[.slice C L.length c, .bool (widsF q []).isSome]) ∧ RowI w' C L ∧ Below w.heap.size w w' := by
  have : (widsF q []).getD [] = L := by rw [← hL]; unfold widsL; rw [if_pos h0]
  rw [← this]
  refine (refWidths_any q A ca w hl hq).mono ?_
  rintro e w' ⟨C, c, h1, h2, _, h4⟩
  exact ⟨C, c, h1, h2, h4⟩

set_option maxRecDepth 100000 in
set_option maxHeartbeats 2000000 in
theorem querySays_any (q : List Stp) (A : Option Addr) (ca : Nat) (i : Int) (w : World) (hl : q.length ≤ maxLen) (hq : Stps w A q) (ht : Tens w) (hv : Verbs w) :
    Calls Tryd.prog 3 #[.slice A q.length ca, .int .i64 i] w fun e w' => e = .returned (.bool true) ∧ Below w.heap.size w w' := by
  have hH : Hid (Stps w A q ∧ Tens w ∧ Verbs w ∧ q.length ≤ maxLen) := ⟨hq, ht, hv, hl⟩
  have hC : Hid _ := refQuery_any q A ca w hl hq
  unfold maxLen at hl
  obtain ⟨T, hT⟩ : ∃ T : ByteArray, T = ⟨(printT q).toArray⟩ := ⟨_, rfl⟩
  obtain ⟨n, hn⟩ : ∃ n, widI q i = n := ⟨_, rfl⟩
  obtain ⟨f, hf⟩ : ∃ f, widE q i = f := ⟨_, rfl⟩
  have hE3 : Hid (T = ⟨(printT q).toArray⟩ ∧ widI q i = n ∧ widE q i = f) := ⟨hT, hn, hf⟩
  clear hq ht hv hT hn hf
  go_enter Tryd.func3, Tryd.ntmps3
  go_wp2_with fail
  refine Calls.mono (show Calls _ _ _ _ _ from hC.out) ?_
  rintro e w1 ⟨rfl, hb1⟩
  clear hC
  obtain ⟨E, hE⟩ : ∃ E, errQ q = E := ⟨_, rfl⟩
  have hEH : Hid (errQ q = E) := hE
  rw [hE]
  clear hE
  have hS1 : Hid (Stps w1 A q ∧ Tens w1 ∧ Verbs w1 ∧ Below w.heap.size w w1) := ⟨hH.out.1.below hb1, hH.out.2.1.below hb1, hH.out.2.2.1.below hb1, hb1⟩
  clear hb1
  cases hq0 : (E == 0)
  · have hEn : ¬ errQ q = 0 := fun h => by rw [hEH.out] at h; simp [h] at hq0
    have hT0 : T = ⟨#[]⟩ := by rw [hE3.out.1]; unfold printT; rw [if_neg hEn]
    have hn0 : n = 0 := by rw [← hE3.out.2.1]; unfold widI; rw [if_neg hEn]
    have hf0 : f = E := by rw [← hE3.out.2.2, ← hEH.out]; unfold widE; rw [if_neg hEn]
    subst hT0 hn0 hf0
    have hEs : (f == f) = true := by simp
    go_wp2_with fail
    refine Calls.mono (printS hE3.out.1 hEH.out hH.out.2.2.2 hS1.out.1 hS1.out.2.1) ?_
    rintro e wP ⟨rfl, hbP⟩
    have hSP : Hid (Stps wP A q ∧ Below w.heap.size w wP) := ⟨hS1.out.1.below hbP, hS1.out.2.2.2.trans (hbP.mono hS1.out.2.2.2.size)⟩
    clear hbP
    go_wp2_with fail
    refine Calls.mono (widthS hE3.out.2.1 hE3.out.2.2 hH.out.2.2.2 hSP.out.1) ?_
    rintro e wW ⟨rfl, hbW⟩
    have hSW : Hid (Stps wW A q ∧ Below w.heap.size w wW) := ⟨hSP.out.1.below hbW, hSP.out.2.trans (hbW.mono hSP.out.2.size)⟩
    clear hbW
    go_wp2_with fail
    refine Calls.mono (checkS hEH.out hH.out.2.2.2 hSW.out.1) ?_
    rintro e wC ⟨rfl, hbC⟩
    have hSC : Hid (Below w.heap.size w wC) := hSW.out.2.trans (hbC.mono hSW.out.2.size)
    clear hbC
    go_wp2
    go_ret
    exact ⟨rfl, hSC.out⟩
  · have hE0 : E = 0 := by simpa using hq0
    subst hE0
    have h8 : Hid (q.length ≤ 8 ∧ (widsL q).length = q.length) := ⟨(widsL_len hEH.out).2, (widsL_len hEH.out).1⟩
    obtain ⟨L, hL⟩ : ∃ L, widsL q = L := ⟨_, rfl⟩
    have hLH : Hid (widsL q = L ∧ L.length = q.length) := ⟨hL, by rw [← hL]; exact h8.out.2⟩
    clear hL
    go_wp2_with fail
    refine Calls.mono (textS hE3.out.1 hEH.out hS1.out.1 hS1.out.2.1 hS1.out.2.2.1) ?_
    rintro e w2 ⟨rfl, hb2⟩
    have hS2 : Hid (Stps w2 A q ∧ Tens w2 ∧ Below w.heap.size w w2) := ⟨hS1.out.1.below hb2, hS1.out.2.1.below hb2, hS1.out.2.2.2.trans (hb2.mono hS1.out.2.2.2.size)⟩
    clear hb2
    go_wp2_with fail
    refine Calls.mono (widsS hLH.out.1 hEH.out h8.out.1 hS2.out.1) ?_
    rintro e w3 ⟨C, c, rfl, hrC, hb3⟩
    have hS3 : Hid (Stps w3 A q ∧ Tens w3 ∧ Below w.heap.size w w3 ∧ RowI w3 C L) := ⟨hS2.out.1.below hb3, hS2.out.2.1.below hb3, hS2.out.2.2.trans (hb3.mono hS2.out.2.2.size), hrC⟩
    clear hb3 hrC
    have hbel : Hid (belowB i (widsL q).length = inB i 0 ((q.length : Int) - 1)) := by show _ = _; rw [h8.out.2]; exact below_in i q.length
    go_wp2_with fail
    refine Calls.mono (in_any i 0 ((q.length : Int) - 1) w3) ?_
    rintro e w4 ⟨rfl, hw4⟩
    subst w4
    cases hin : inB i 0 ((q.length : Int) - 1)
    · have hn0 : n = 0 := by
        rw [← hE3.out.2.1]; unfold widI; rw [if_pos hEH.out, if_neg (by rw [hbel.out, hin]; simp)]
      have hf0 : f = 4 := by
        rw [← hE3.out.2.2]; unfold widE; rw [if_pos hEH.out, if_neg (by rw [hbel.out, hin]; simp)]
      subst hn0 hf0
      go_wp2_with fail
      refine Calls.mono (printS hE3.out.1 hEH.out hH.out.2.2.2 hS3.out.1 hS3.out.2.1) ?_
      rintro e wP ⟨rfl, hbP⟩
      have hSP : Hid (Stps wP A q ∧ Below w.heap.size w wP) := ⟨hS3.out.1.below hbP, hS3.out.2.2.1.trans (hbP.mono hS3.out.2.2.1.size)⟩
      clear hbP
      go_wp2_with fail
      refine Calls.mono (widthS hE3.out.2.1 hE3.out.2.2 hH.out.2.2.2 hSP.out.1) ?_
      rintro e wW ⟨rfl, hbW⟩
      have hSW : Hid (Stps wW A q ∧ Below w.heap.size w wW) := ⟨hSP.out.1.below hbW, hSP.out.2.trans (hbW.mono hSP.out.2.size)⟩
      clear hbW
      go_wp2_with fail
      refine Calls.mono (checkS hEH.out hH.out.2.2.2 hSW.out.1) ?_
      rintro e wC ⟨rfl, hbC⟩
      have hSC : Hid (Below w.heap.size w wC) := hSW.out.2.trans (hbC.mono hSW.out.2.size)
      clear hbC
      go_wp2
      go_ret
      exact ⟨rfl, hSC.out⟩
    · have hi' : 0 ≤ i ∧ i ≤ (q.length : Int) - 1 := by simpa [inB] using hin
      obtain ⟨j, rfl⟩ : ∃ j : Nat, i = j := ⟨i.toNat, by omega⟩
      have hj : j < L.length := by rw [hLH.out.2]; omega
      have hjz : (j : Int) < (L.length : Int) := by omega
      obtain ⟨cb, co, rfl, hcb, hcc⟩ := hS3.out.2.2.2.at hj
      have e0 : w3.cell? ⟨cb, co + j, none⟩ = some (.int .i64 n) := by
        have := hcc j hj 0 (by omega)
        have hn1 : n = L[j] := by
          rw [← hE3.out.2.1]; unfold widI; rw [if_pos hEH.out, if_pos (by rw [hbel.out, hin]), hLH.out.1, Int.toNat_natCast, List.getD_eq_getElem?_getD, List.getElem?_eq_getElem hj]; rfl
        rw [hn1]
        simpa [encI] using this
      have hf0 : f = 0 := by
        rw [← hE3.out.2.2]; unfold widE; rw [if_pos hEH.out, if_pos (by rw [hbel.out, hin])]
      subst hf0
      clear hcc
      go_wp2_with fail
      refine Calls.mono (printS hE3.out.1 hEH.out hH.out.2.2.2 hS3.out.1 hS3.out.2.1) ?_
      rintro e wP ⟨rfl, hbP⟩
      have hSP : Hid (Stps wP A q ∧ Below w.heap.size w wP) := ⟨hS3.out.1.below hbP, hS3.out.2.2.1.trans (hbP.mono hS3.out.2.2.1.size)⟩
      clear hbP
      go_wp2_with fail
      refine Calls.mono (widthS hE3.out.2.1 hE3.out.2.2 hH.out.2.2.2 hSP.out.1) ?_
      rintro e wW ⟨rfl, hbW⟩
      have hSW : Hid (Stps wW A q ∧ Below w.heap.size w wW) := ⟨hSP.out.1.below hbW, hSP.out.2.trans (hbW.mono hSP.out.2.size)⟩
      clear hbW
      go_wp2_with fail
      refine Calls.mono (checkS hEH.out hH.out.2.2.2 hSW.out.1) ?_
      rintro e wC ⟨rfl, hbC⟩
      have hSC : Hid (Below w.heap.size w wC) := hSW.out.2.trans (hbC.mono hSW.out.2.size)
      clear hbC
      go_wp2
      go_ret
      exact ⟨rfl, hSC.out⟩

end Go.Proofs.YtjjpmkekcffceaaDoor
