/-
  plain.check.
-/
import Derived.Test.YtehcciefbjiknaaPTell
namespace Go.Proofs.Ytehcciefbjiknaa
open Go.RowKit Go.Sort Go.Maps

theorem checkQV {q : List Stp} {A : Option Addr} {ca : Nat} {w : World} {E : Int} (hE : errQ q = E) (hl : q.length ≤ maxLen) (hq : Stps w A q) :
    Calls Try.prog 26 #[.slice A q.length ca] w fun e w' => e = .returned (.int .i64 E) ∧ Below w.heap.size w w' := by rw [← hE]; exact checkQ_any q A ca w hl hq
theorem idx0 (x y : Value) (w : World) : (Instr.index 47 (.agg #[x, y]) (.int .i64 0)).run Try.prog w = .ok x w := by kernel_rfl
theorem idx1 (x y : Value) (w : World) : (Instr.index 47 (.agg #[x, y]) (.int .i64 1)).run Try.prog w = .ok y w := by kernel_rfl
set_option maxRecDepth 100000 in
set_option maxHeartbeats 1000000 in
theorem check_any (q : List Stp) (QA : Option Addr) (cq : Nat) (a b : List Itm) (A B : Option Addr) (ca cb : Nat) (w : World) (hl : q.length ≤ maxLen) (hq : Stps w QA q) (ha : Lv w A ca a) (hb : Lv w B cb b) :
    Calls Try.prog 17 #[.slice QA q.length cq, .agg #[.slice A a.length ca, .slice B b.length cb]] w fun e w' => e = .returned (.int .i64 (ahdE q (a.map Itm.z) (b.map Itm.z))) ∧ Below w.heap.size w w' := by
  have hgX : Hid (Gr w (w.alloc (.cells #[.slice A a.length ca, .slice B b.length cb] 47))) := (Gr.refl _).alloc _
  obtain ⟨WX, hWX⟩ : ∃ WX, (w.alloc (.cells #[.slice A a.length ca, .slice B b.length cb] 47)) = WX := ⟨_, rfl⟩
  have t0 : WX.cell? ⟨w.heap.size, 0, none⟩ = some (.slice A a.length ca) := by rw [← hWX]; exact box1 (w := w) (Gr.refl _) rfl
  have t1 : WX.cell? ⟨w.heap.size, 1, none⟩ = some (.slice B b.length cb) := by rw [← hWX]; exact box1 (w := w) (Gr.refl _) rfl
  have hst : w.heap.size < WX.heap.size := by rw [← hWX]; simp
  rw [hWX] at hgX
  obtain ⟨E1, hE1⟩ : ∃ E, errQ q = E := ⟨_, rfl⟩
  obtain ⟨E2, hE2⟩ : ∃ E, errZ (a.map Itm.z) = E := ⟨_, rfl⟩
  obtain ⟨E3, hE3⟩ : ∃ E, errZ (b.map Itm.z) = E := ⟨_, rfl⟩
  obtain ⟨E, hE⟩ : ∃ E, ahdE q (a.map Itm.z) (b.map Itm.z) = E := ⟨_, rfl⟩
  have hEs : Hid (ahdE q (a.map Itm.z) (b.map Itm.z) = E ∧ errQ q = E1 ∧ errZ (a.map Itm.z) = E2 ∧ errZ (b.map Itm.z) = E3) := ⟨hE, hE1, hE2, hE3⟩
  rw [hE]
  have hC0 := checkQV (A := QA) (ca := cq) hE1 hl (hq.gr hgX.out)
  have hC : Hid _ := hC0
  have hH : Hid (Lv w A ca a ∧ Lv w B cb b ∧ errQ q = E1) := ⟨ha, hb, hE1⟩
  clear hC0 ha hb hE1 hE2 hE3 hE hq hl
  have i0 := idx0 (.slice A a.length ca) (.slice B b.length cb)
  have i1 := idx1 (.slice A a.length ca) (.slice B b.length cb)
  go_enter Try.func17, Try.ntmps17
  go_wp2_with fail
  refine Calls.mono (show Calls _ _ _ _ _ from hC.out) ?_
  rintro e w1 ⟨rfl, hb1⟩
  have s0 : w1.cell? ⟨w.heap.size, 0, none⟩ = some (.slice A a.length ca) := (hb1.cell (p := ⟨w.heap.size, 0, none⟩) hst).trans t0
  have s1 : w1.cell? ⟨w.heap.size, 1, none⟩ = some (.slice B b.length cb) := (hb1.cell (p := ⟨w.heap.size, 1, none⟩) hst).trans t1
  have hbW : Hid (Below w.heap.size w w1 ∧ Lv w1 A ca a ∧ Lv w1 B cb b) := ⟨hgX.out.below.trans (hb1.mono hgX.out.size), (hH.out.1.gr hgX.out).below hb1, (hH.out.2.1.gr hgX.out).below hb1⟩
  have hst1 : w.heap.size < w1.heap.size := Nat.lt_of_lt_of_le hst hb1.size
  clear hb1 hC t0 t1 hWX hst
  cases h1 : (E1 != 0)
  · have hE0 : E1 = 0 := by simpa using h1
    go_wp2
    refine wp_loop_rounds 3 ?_
    rw [rounds_succ]
    have hZa : Hid (∀ W, Gr w1 W → Calls Try.prog 12 #[.slice A a.length ca] W fun e w' => e = .returned (.int .i64 E2) ∧ Gr W w') := fun W h => by rw [← hEs.out.2.2.1]; exact checkV (hbW.out.2.1.gr h) rfl
    have hZb : Hid (∀ W, Gr w1 W → Calls Try.prog 12 #[.slice B b.length cb] W fun e w' => e = .returned (.int .i64 E3) ∧ Gr W w') := fun W h => by rw [← hEs.out.2.2.2]; exact checkV (hbW.out.2.2.gr h) rfl
    cases h2 : (E2 != 0)
    · have hE20 : E2 = 0 := by simpa using h2
      go_wp2_with (go_at_call 12; refine Calls.mono (hZa.out w1 (Gr.refl _)) ?_; rintro e w2 ⟨rfl, hg2⟩)
      rw [rounds_succ]
      cases h3 : (E3 != 0)
      · have hE30 : E3 = 0 := by simpa using h3
        go_wp2_with (go_at_call 12; refine Calls.mono (hZb.out w2 hg2) ?_; rintro e w3 ⟨rfl, hg3⟩)
        rw [rounds_succ]
        have hg3' : Hid (Gr w1 w3) := hg2.trans hg3
        have z0 : w3.cell? ⟨w.heap.size, 0, none⟩ = some (.slice A a.length ca) := (hg3'.out.below.cell (p := ⟨w.heap.size, 0, none⟩) hst1).trans s0
        have z1 : w3.cell? ⟨w.heap.size, 1, none⟩ = some (.slice B b.length cb) := (hg3'.out.below.cell (p := ⟨w.heap.size, 1, none⟩) hst1).trans s1
        clear hg2 hg3 hZa hZb
        go_wp2
        refine wp_loop_rounds 3 ?_
        rw [rounds_succ]
        go_wp2
        have hB3 : Hid (Below w.heap.size w w3 ∧ Lv w3 A ca a ∧ Lv w3 B cb b) := ⟨hbW.out.1.trans (hg3'.out.below.mono hbW.out.1.size), hbW.out.2.1.gr hg3'.out, hbW.out.2.2.gr hg3'.out⟩
        have hla : a.length ≤ 400 := (errZ_okW (by rw [hEs.out.2.2.1]; exact hE20)).1
        have hlb : b.length ≤ 400 := (errZ_okW (by rw [hEs.out.2.2.2]; exact hE30)).1
        have hahd : Hid (E = if (a.map Itm.z ++ b.map Itm.z).all (fun x => decide (x.1.length = 4)) = true then 0 else 5) := by
          show _ = _; rw [← hEs.out.1]; unfold ahdE; rw [if_pos (by rw [hEs.out.2.1]; exact hE0), if_pos (by rw [hEs.out.2.2.1]; exact hE20), if_pos (by rw [hEs.out.2.2.2]; exact hE30)]
        have hbad : Hid (∀ x ∈ a ++ b, ¬ x.r.length = 4 → E = 5) := fun x hx hn => by
          rw [hahd.out, if_neg]
          intro h
          rw [← List.map_append] at h
          have := List.all_eq_true.1 h x.z (List.mem_map.2 ⟨x, hx, rfl⟩)
          exact hn (of_decide_eq_true this)
        have hgood : Hid ((∀ x ∈ a, x.r.length = 4) → (∀ x ∈ b, x.r.length = 4) → E = 0) := fun ha hb => by
          rw [hahd.out, if_pos]
          rw [← List.map_append, List.all_eq_true]
          intro y hy
          obtain ⟨x, hx, rfl⟩ := List.mem_map.1 hy
          rcases List.mem_append.1 hx with e | e
          · exact decide_eq_true (ha x e)
          · exact decide_eq_true (hb x e)
        clear z0 z1 s0 s1
        go_loopw [34] (fun i wr => ∃ k : Nat, k ≤ a.length ∧ i = .int .i64 k ∧ Hid ((∀ x ∈ a.take k, x.r.length = 4) ∧ Gr w3 wr)) (fun i _ => a.length - (intOf i).toNat)
        case atStart => exact ⟨0, Nat.zero_le _, rfl, fun x hx => (by simp at hx), Gr.refl _⟩
        case round =>
          obtain ⟨k, hk, rfl, hR⟩ := hrel
          by_cases hlt : k < a.length
          · have hltz : (k : Int) < (a.length : Int) := by omega
            obtain ⟨bb, off, rfl, hb, hcs⟩ := (hB3.out.2.1.gr hR.out.2).items.at hlt
            obtain ⟨x, hx⟩ : ∃ x, a[k] = x := ⟨_, rfl⟩
            obtain ⟨e0, e1⟩ := hcs k hlt
            rw [hx] at e0 e1
            have hxm : Hid (x ∈ a) := by show _ ∈ _; rw [← hx]; exact List.getElem_mem hlt
            have htk : Hid (a.take (k + 1) = a.take k ++ [x]) := by show _ = _; rw [List.take_succ_eq_append_getElem hlt, hx]
            clear hcs hx
            cases h4 : ((x.r.length : Int) != 4)
            · have h4' : x.r.length = 4 := by have : (x.r.length : Int) = 4 := by simpa using h4
                                              omega
              have hfin : Hid ((∀ y ∈ a.take (k + 1), y.r.length = 4) ∧ Gr w3 (wr.alloc (.cells #[.slice x.p x.r.length x.c, .int .i64 x.n] 41))) := ⟨fun y hy => by
                rw [htk.out] at hy
                rcases List.mem_append.1 hy with e | e
                · exact hR.out.1 y e
                · rw [List.mem_singleton.1 e]; exact h4', hR.out.2.alloc _⟩
              clear h4'
              go_wp2
              go_roundw
              case rel => exact ⟨k + 1, by omega, by go_num, hfin⟩
              case measure => simp [intOf]; omega
            · have h4' : ¬ x.r.length = 4 := by have : ¬ (x.r.length : Int) = 4 := by simpa using h4
                                                omega
              have hfin : Hid (E = 5) := hbad.out x (by simp [hxm.out]) h4'
              have hfB : Hid (Below w.heap.size w (wr.alloc (.cells #[.slice x.p x.r.length x.c, .int .i64 x.n] 41))) := hB3.out.1.trans ((hR.out.2.alloc _).below.mono hB3.out.1.size)
              clear h4'
              go_wp2
              go_ret
              exact ⟨by rw [hfin.out]; rfl, hfB.out⟩
          · have hltz : ¬ (k : Int) < (a.length : Int) := by omega
            have hall : Hid (∀ x ∈ a, x.r.length = 4) := by
              have := hR.out.1
              rw [List.take_of_length_le (by omega)] at this
              exact this
            go_wp2
            rw [rounds_succ]
            have hallA : Hid (∀ x ∈ a, x.r.length = 4) := hall
            have hB4 : Hid (Below w.heap.size w wr ∧ Lv wr B cb b) := ⟨hB3.out.1.trans (hR.out.2.below.mono hB3.out.1.size), hB3.out.2.2.gr hR.out.2⟩
            clear hall hR hB3
            go_wp2
            generalize wr = w5 at hB4 ⊢
            go_loopw [34] (fun i wr => ∃ k : Nat, k ≤ b.length ∧ i = .int .i64 k ∧ Hid ((∀ x ∈ b.take k, x.r.length = 4) ∧ Gr w5 wr)) (fun i _ => b.length - (intOf i).toNat)
            case atStart => exact ⟨0, Nat.zero_le _, rfl, fun x hx => (by simp at hx), Gr.refl _⟩
            case round =>
              obtain ⟨k, hk, rfl, hR⟩ := hrel
              by_cases hlt : k < b.length
              · have hltz : (k : Int) < (b.length : Int) := by omega
                obtain ⟨bb, off, rfl, hb, hcs⟩ := (hB4.out.2.gr hR.out.2).items.at hlt
                obtain ⟨x, hx⟩ : ∃ x, b[k] = x := ⟨_, rfl⟩
                obtain ⟨e0, e1⟩ := hcs k hlt
                rw [hx] at e0 e1
                have hxm : Hid (x ∈ b) := by show _ ∈ _; rw [← hx]; exact List.getElem_mem hlt
                have htk : Hid (b.take (k + 1) = b.take k ++ [x]) := by show _ = _; rw [List.take_succ_eq_append_getElem hlt, hx]
                clear hcs hx
                cases h4 : ((x.r.length : Int) != 4)
                · have h4' : x.r.length = 4 := by have : (x.r.length : Int) = 4 := by simpa using h4
                                                  omega
                  have hfin : Hid ((∀ y ∈ b.take (k + 1), y.r.length = 4) ∧ Gr w5 (wr.alloc (.cells #[.slice x.p x.r.length x.c, .int .i64 x.n] 41))) := ⟨fun y hy => by
                    rw [htk.out] at hy
                    rcases List.mem_append.1 hy with e | e
                    · exact hR.out.1 y e
                    · rw [List.mem_singleton.1 e]; exact h4', hR.out.2.alloc _⟩
                  clear h4'
                  go_wp2
                  go_roundw
                  case rel => exact ⟨k + 1, by omega, by go_num, hfin⟩
                  case measure => simp [intOf]; omega
                · have h4' : ¬ x.r.length = 4 := by have : ¬ (x.r.length : Int) = 4 := by simpa using h4
                                                    omega
                  have hfin : Hid (E = 5) := hbad.out x (by simp [hxm.out]) h4'
                  have hfB : Hid (Below w.heap.size w (wr.alloc (.cells #[.slice x.p x.r.length x.c, .int .i64 x.n] 41))) := hB4.out.1.trans ((hR.out.2.alloc _).below.mono hB4.out.1.size)
                  clear h4'
                  go_wp2
                  go_ret
                  exact ⟨by rw [hfin.out]; rfl, hfB.out⟩
              · have hltz : ¬ (k : Int) < (b.length : Int) := by omega
                have hallB : Hid (∀ x ∈ b, x.r.length = 4) := by
                  have := hR.out.1
                  rw [List.take_of_length_le (by omega)] at this
                  exact this
                go_wp2
                rw [rounds_succ]
                go_wp2
                go_ret
                exact ⟨by rw [hgood.out hallA.out hallB.out]; rfl, hB4.out.1.trans (hR.out.2.below.mono hB4.out.1.size)⟩
      · have hfin : Hid (E3 = E) := by
          have hn : ¬ errZ (b.map Itm.z) = 0 := by rw [hEs.out.2.2.2]; simpa using h3
          show _ = _; rw [← hEs.out.1]; unfold ahdE; rw [if_pos (by rw [hEs.out.2.1]; exact hE0), if_pos (by rw [hEs.out.2.2.1]; exact hE20), if_neg hn]; exact hEs.out.2.2.2.symm
        go_wp2_with (go_at_call 12; refine Calls.mono (hZb.out w2 hg2) ?_; rintro e w3 ⟨rfl, hg3⟩)
        go_ret
        exact ⟨by rw [← hfin.out]; rfl, hbW.out.1.trans ((hg2.trans hg3).below.mono hbW.out.1.size)⟩
    · have hfin : Hid (E2 = E) := by
        have hn : ¬ errZ (a.map Itm.z) = 0 := by rw [hEs.out.2.2.1]; simpa using h2
        show _ = _; rw [← hEs.out.1]; unfold ahdE; rw [if_pos (by rw [hEs.out.2.1]; exact hE0), if_neg hn]; exact hEs.out.2.2.1.symm
      go_wp2_with (go_at_call 12; refine Calls.mono (hZa.out w1 (Gr.refl _)) ?_; rintro e w2 ⟨rfl, hg2⟩)
      go_ret
      exact ⟨by rw [← hfin.out]; rfl, hbW.out.1.trans (hg2.below.mono hbW.out.1.size)⟩
  · have hfin : Hid (E1 = E) := by
      have hn : ¬ errQ q = 0 := by rw [hEs.out.2.1]; simpa using h1
      show _ = _; rw [← hEs.out.1]; unfold ahdE; rw [if_neg hn]; exact hEs.out.2.1.symm
    go_wp2
    go_ret
    exact ⟨by rw [← hfin.out]; rfl, hbW.out.1⟩
end Go.Proofs.Ytehcciefbjiknaa
