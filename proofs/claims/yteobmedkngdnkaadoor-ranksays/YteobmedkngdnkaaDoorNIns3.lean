/-
  slices.Insert of a row, wherever.
-/
import Derived.Test.YteobmedkngdnkaaDoorNIns2
namespace Go.Proofs.YteobmedkngdnkaaDoor
open Go.RowKit Go.Sort Go.Lib

theorem insL_end (L : List Itm) (x : Itm) : insL L L.length x = L ++ [x] := by
  unfold insL
  rw [List.take_length, List.drop_length]
set_option maxRecDepth 100000 in
set_option maxHeartbeats 2000000 in
theorem ins_end (L : List Itm) (x : Itm) (v : Value) (vb : Nat) (base : Nat) (w : World) (hown : OwnG encW 1 23 w base v L) (hl : L.length ≤ 1000000) (hv : w.heap[vb]? = some (.cells #[x.v] 23 (0, 0))) (hbase : base ≤ w.heap.size) :
    Calls Tryd.prog 20 #[v, .int .i64 L.length, .slice (some ⟨vb, 0, none⟩) 1 1] w fun e w' => ∃ v', e = .returned v' ∧ OwnG encW 1 23 w' base v' (L ++ [x]) ∧ w.grownBy w' v.ownBlock := by
  obtain ⟨A, cap, rfl, hA, _, hcap, _⟩ := OwnG.full encW_len hown
  have hrow : Hid (RowG encW 1 w (some ⟨vb, 0, none⟩) [x] ∧ OwnG encW 1 23 w base (.slice A L.length cap) L ∧ L.length + 1 ≤ maxLen ∧ (L.length + 1) * 24 ≤ 140737488355328 ∧ base ≤ w.heap.size) := by
    refine ⟨Or.inr ⟨vb, 0, rfl, (Array.getElem?_eq_some_iff.1 hv).1, fun j hj i hi => ?_⟩, hown, by unfold maxLen; omega, by omega, hbase⟩
    obtain rfl : j = 0 := by simp at hj; omega
    obtain rfl : i = 0 := by omega
    rw [Lib.cell_of_heap hv]
    rfl
  have hc0 : (L.length : Int) ≤ (cap : Int) := by omega
  clear hown hv hbase
  go_enter Tryd.func20, Tryd.ntmps20
  cases A with
  | none =>
    obtain rfl := hA rfl
    have h0 : L.length = 0 := by omega
    obtain rfl : L = [] := List.eq_nil_of_length_eq_zero h0
    go_wp2_with (at_builtin; refine wpList_append_w _ rfl (.tmp 23) (.tmp 24) rfl base (.slice none 0 0) [] [x] (some ⟨vb, 0, none⟩) 1 rfl rfl hrow.out.2.1 hrow.out.1 (fun h => by cases h) hrow.out.2.2.1 hrow.out.2.2.2.1 hrow.out.2.2.2.2 ?_)
    intro v3 w3 hown3 hg3
    have hfin : Hid (OwnG encW 1 23 w3 base v3 ([] ++ [x]) ∧ w.grownBy w3 (Value.slice none 0 0).ownBlock) := ⟨hown3, hg3⟩
    clear hown3 hg3
    go_wp2
    go_ret
    exact ⟨v3, rfl, hfin.out⟩
  | some a =>
    by_cases hce : cap = L.length
    · subst hce
      go_wp2_with (at_builtin; refine wpList_append_w _ rfl (.tmp 23) (.tmp 24) rfl base (.slice (some a) L.length L.length) L [x] (some ⟨vb, 0, none⟩) 1 rfl rfl hrow.out.2.1 hrow.out.1 (fun h => by cases h) hrow.out.2.2.1 hrow.out.2.2.2.1 hrow.out.2.2.2.2 ?_)
      intro v3 w3 hown3 hg3
      have hfin : Hid (OwnG encW 1 23 w3 base v3 (L ++ [x]) ∧ w.grownBy w3 (Value.slice (some a) L.length L.length).ownBlock) := ⟨hown3, hg3⟩
      clear hown3 hg3
      go_wp2
      go_ret
      exact ⟨v3, rfl, hfin.out⟩
    · have hce2 : ¬ L.length = cap := fun e => hce e.symm
      go_wp2_with (at_builtin; refine wpList_append_w _ rfl (.tmp 23) (.tmp 24) rfl base (.slice (some a) L.length cap) L [x] (some ⟨vb, 0, none⟩) 1 rfl rfl hrow.out.2.1 hrow.out.1 (fun h => by cases h) hrow.out.2.2.1 hrow.out.2.2.2.1 hrow.out.2.2.2.2 ?_)
      intro v3 w3 hown3 hg3
      have hfin : Hid (OwnG encW 1 23 w3 base v3 (L ++ [x]) ∧ w.grownBy w3 (Value.slice (some a) L.length cap).ownBlock) := ⟨hown3, hg3⟩
      clear hown3 hg3
      go_wp2
      go_ret
      exact ⟨v3, rfl, hfin.out⟩

theorem ins_any (L : List Itm) (x : Itm) (v : Value) (i vb : Nat) (base : Nat) (w : World) (hown : OwnG encW 1 23 w base v L) (hi : i ≤ L.length) (hl : L.length ≤ 1000000) (hv : w.heap[vb]? = some (.cells #[x.v] 23 (0, 0))) (hvb : v.ownBlock ≠ some vb) (hbase : base ≤ w.heap.size) :
    Calls Tryd.prog 20 #[v, .int .i64 i, .slice (some ⟨vb, 0, none⟩) 1 1] w fun e w' => ∃ v', e = .returned v' ∧ OwnG encW 1 23 w' base v' (insL L i x) ∧ w.grownBy w' v.ownBlock := by
  by_cases he : i = L.length
  · subst he
    rw [insL_end]
    exact ins_end L x v vb base w hown hl hv hbase
  · have hlt : i < L.length := by omega
    obtain ⟨A, cap, rfl, hA, hrow, hcap, hfl, _⟩ := OwnG.full encW_len hown
    obtain ⟨b, off, rfl, hbb, _⟩ := hrow.at hlt
    obtain rfl : off = 0 := (hfl _ rfl).2.2.1
    have hlen := insL_len (x := x) hi
    by_cases hroom : L.length + 1 ≤ cap
    · refine (ins_shift L x b cap i vb base w hown hlt hroom (fun e => hvb (by rw [e]; rfl)) hv).mono ?_
      rintro e w' ⟨h1, h2, h3⟩
      exact ⟨_, h1, by rw [← hlen]; exact h2, h3⟩
    · refine (ins_grow L x b cap i vb base w hown hlt (by omega) (by omega) hv hbase).mono ?_
      rintro e w' ⟨G, h1, h2, h3⟩
      exact ⟨_, h1, by rw [← hlen]; exact h2, ⟨h3.os, h3.tape, h3.output, h3.size, fun k hk _ => h3.block k hk⟩⟩
end Go.Proofs.YteobmedkngdnkaaDoor
