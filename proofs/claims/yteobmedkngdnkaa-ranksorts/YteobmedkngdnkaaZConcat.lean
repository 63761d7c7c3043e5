/-
  slices.Grow of nothing, and slices.Concat, at items.
-/
import Derived.Test.YteobmedkngdnkaaZOwn
import Derived.Lib.AppendZeros
namespace Go.Proofs.Yteobmedkngdnkaa
open Go.RowKit Go.Sort

theorem wpList_append_ts (w : World) {ops : Array Oper} {rest : List Oper} {o : Oper} {a : Act} {Q : Exit → Act → World → Prop} (hgd : o.guard = none) (s x : Operand)
    (ho : o.op = .call { callee := .builtin .append, args := #[s, x], argTypes := #[22, 22] })
    (base : Nat) (v : Value) (l m : List Itm) (A : Option Addr) (cap : Nat) (hs : a.eval s = v) (hx : a.eval x = .slice A m.length cap) (hown : OwnG encT 2 29 w base v l) (hr : RowG encT 2 w A m) (hA : A = none → cap = 0)
    (hml : l.length + m.length ≤ maxLen) (hb : (l.length + m.length) * 32 ≤ 140737488355328) (hbase : base ≤ w.heap.size)
    (h : ∀ v' w', OwnG encT 2 29 w' base v' (l ++ m) → w.grownBy w' v.ownBlock → wpList Try.prog ops Q rest (a.put o.dst v') w') : wpList Try.prog ops Q (o :: rest) a w :=
  wpList_plain hgd fun _ hK => wp_append_g encT_len encT_one (by omega) 22 Try.underlying22 (.agg #[.slice none 0 0, .int .i64 0]) 32 Try.infoT rfl w s x ho base v l m A cap hs hx hown hr hA hml hb hbase fun v' w' h2 h3 => hK _ _ (h v' w' h2 h3)
set_option maxRecDepth 100000 in
set_option maxHeartbeats 1000000 in
theorem grow_any (n : Nat) (w : World) (hn : n ≤ 100000) :
    Calls Try.prog 60 #[.slice none 0 0, .int .i64 n] w fun e w' => ∃ v, e = .returned v ∧ OwnG encT 2 29 w' w.heap.size v [] ∧ Below w.heap.size w w' := by
  obtain ⟨i0, hi, hz0, hz1, hz2⟩ := info_parts Try.infoT
  by_cases h0 : n = 0
  · subst h0
    go_enter Try.func60, Try.ntmps60
    go_wp2
    go_ret
    exact ⟨_, rfl, OwnG.nil _ _ _ _ _, Below.refl _ _⟩
  · have hpos : (0 : Int) < (n : Int) := by omega
    go_enter Try.func60, Try.ntmps60
    have hrun := fun ty => Lib.run_append_nil_zeros (P := Try.prog) w 22 3 ty 29 i0 _ .i64 .i64 Try.underlying22 Try.underlying3 hi hz0 n (by omega) (by omega) (by omega) (by rw [hz2]; omega)
    have hfin : Hid (OwnG encT 2 29 (w.drew.alloc (.cells (Builtin.zeroCells (Value.agg #[.slice none 0 0, .int .i64 0]).cells n ++ Builtin.zeroCells (Value.agg #[.slice none 0 0, .int .i64 0]).cells (grownCap w n 0 29 - n)) 29)) w.heap.size (.slice (some ⟨w.heap.size, 0, none⟩) 0 (grownCap w n 0 29)) [] ∧ Below w.heap.size w (w.drew.alloc (.cells (Builtin.zeroCells (Value.agg #[.slice none 0 0, .int .i64 0]).cells n ++ Builtin.zeroCells (Value.agg #[.slice none 0 0, .int .i64 0]).cells (grownCap w n 0 29 - n)) 29))) := by
      refine ⟨⟨by simp [flatG], .inr ⟨w.heap.size, _, _, rfl, Nat.le_refl _, heap_alloc_new w.drew _, Nat.zero_le _, grownCap_le_maxLen _ _ _ _ (by unfold maxLen; omega), ?_, by simp [flatG]⟩⟩, ((Gr.refl w).drew.alloc _).below⟩
      have h1 := grownCap_ge w n 0 29
      have e1 : (Value.agg #[.slice none 0 0, .int .i64 0]).cells.size = 2 := rfl
      rw [Array.size_append, size_zeroCells, size_zeroCells, e1]; omega
    have hle : Hid (n ≤ grownCap w n 0 29 ∧ grownCap w n 0 29 ≤ 9223372036854775807) := ⟨grownCap_ge _ _ _ _, grownCap_le_maxLen _ _ _ _ (by unfold maxLen; omega)⟩
    go_wp2_with (at_builtin; refine Lib.wpList_append_run _ rfl _ _ _ _ rfl _ _ rfl rfl _ _ (hrun _) ?_)
    go_ret
    exact ⟨_, rfl, hfin.out.1, hfin.out.2⟩

/-- A list of items as a value. -/
structure Sl where
  A : Option Addr
  cap : Nat
  l : List Itm
def encS (x : Sl) : List Value := [.slice x.A x.l.length x.cap]
theorem flat_len {ss : List Sl} (h : ss.length ≤ 2) (hl : ∀ s ∈ ss, s.l.length ≤ 400) : (ss.flatMap (·.l)).length ≤ 800 := by
  match ss, h with
  | [], _ => simp
  | [a], _ => have := hl a (by simp); simp; omega
  | [a, b], _ => have h1 := hl a (by simp); have h2 := hl b (by simp); simp; omega
theorem flat_take {ss : List Sl} {k : Nat} (hk : k < ss.length) : (ss.take (k + 1)).flatMap (·.l) = (ss.take k).flatMap (·.l) ++ ss[k].l := by
  rw [List.take_succ_eq_append_getElem hk, List.flatMap_append, List.flatMap_cons, List.flatMap_nil, List.append_nil]
theorem flat_le {ss : List Sl} (k : Nat) : ((ss.take k).flatMap (·.l)).length ≤ (ss.flatMap (·.l)).length := by
  conv => rhs; rw [← List.take_append_drop k ss, List.flatMap_append, List.length_append]
  omega

set_option maxRecDepth 100000 in
set_option maxHeartbeats 1000000 in
theorem concat_any (ss : List Sl) (B : Option Addr) (cb : Nat) (w : World) (hrow : RowG encS 1 w B ss) (hlen : ss.length ≤ 2) (hss : ∀ s ∈ ss, RowG encT 2 w s.A s.l ∧ (s.A = none → s.cap = 0) ∧ s.l.length ≤ 400) :
    Calls Try.prog 45 #[.slice B ss.length cb] w fun e w' => ∃ v, e = .returned v ∧ OwnG encT 2 29 w' w.heap.size v (ss.flatMap (·.l)) ∧ Below w.heap.size w w' := by
  have hall : Hid ((ss.flatMap (·.l)).length ≤ 800) := flat_len hlen fun s hs => (hss s hs).2.2
  have hrH : Hid (RowG encS 1 w B ss ∧ ∀ s ∈ ss, RowG encT 2 w s.A s.l ∧ (s.A = none → s.cap = 0) ∧ s.l.length ≤ 400) := ⟨hrow, hss⟩
  clear hrow hss
  go_enter Try.func45, Try.ntmps45
  go_wp2
  go_loopw [3, 11] (fun n i wr => ∃ k : Nat, k ≤ ss.length ∧ i = .int .i64 k ∧ n = .int .i64 (((ss.take k).flatMap (·.l)).length : Nat) ∧ wr = w) (fun _ i _ => ss.length - (intOf i).toNat)
  case atStart => exact ⟨0, Nat.zero_le _, rfl, by simp, rfl⟩
  case round =>
    obtain ⟨k, hk, rfl, rfl, rfl⟩ := hrel
    by_cases hlt : k < ss.length
    · have hltz : (k : Int) < (ss.length : Int) := by omega
      obtain ⟨b, off, rfl, hb, hcs⟩ := hrH.out.1.at hlt
      have e0 := hcs k hlt 0 (by omega)
      obtain ⟨s, hs⟩ : ∃ s, ss[k] = s := ⟨_, rfl⟩
      rw [hs] at e0
      have e1 : wr.cell? ⟨b, off + k, none⟩ = some (.slice s.A s.l.length s.cap) := by simpa [encS] using e0
      have hst : Hid (((ss.take (k + 1)).flatMap (·.l)).length = ((ss.take k).flatMap (·.l)).length + s.l.length) := by show _ = _; rw [flat_take hlt, hs, List.length_append]
      have hle : ((ss.take (k + 1)).flatMap (·.l)).length ≤ 800 := Nat.le_trans (flat_le _) hall.out
      rw [hst.out] at hle
      obtain ⟨m, hm⟩ : ∃ m, ((ss.take k).flatMap (·.l)).length = m := ⟨_, rfl⟩
      rw [hm] at hle ⊢
      have hmH : Hid (((ss.take k).flatMap (·.l)).length = m) := hm
      clear hcs e0 hs hm
      have hw1 : IntKind.i64.wrap ((m : Int) + (s.l.length : Int)) = (m : Int) + (s.l.length : Int) := by rw [IntKind.wrap_i64]; omega
      have hge : ¬ ((m : Int) + (s.l.length : Int)) < 0 := by omega
      go_wp2
      go_roundw
      case rel =>
        refine ⟨k + 1, by omega, by go_num, ?_, by trivial⟩
        rw [hst.out, hmH.out]; go_num
      case measure => simp [intOf]; omega
    · have hltz : ¬ (k : Int) < (ss.length : Int) := by omega
      have hke : ss.take k = ss := List.take_of_length_le (by omega)
      rw [hke]
      have hgw := grow_any (ss.flatMap (·.l)).length wr (by have := hall.out; omega)
      have hgwH : Hid _ := hgw
      clear hgw hke hlt hk
      obtain ⟨N, hN⟩ : ∃ N, (ss.flatMap (·.l)).length = N := ⟨_, rfl⟩
      rw [hN] at hgwH ⊢
      clear hN
      go_wp2_with fail
      refine Calls.mono (show Calls _ _ _ _ _ from hgwH.out) ?_
      rintro e w1 ⟨v0, rfl, hown0, hb0⟩
      clear hgwH
      go_wp2
      go_loopw [6, 27] (fun v i w2 => ∃ k : Nat, k ≤ ss.length ∧ i = .int .i64 k ∧ OwnG encT 2 29 w2 wr.heap.size v ((ss.take k).flatMap (·.l)) ∧ Below wr.heap.size wr w2) (fun _ i _ => ss.length - (intOf i).toNat)
      case atStart => exact ⟨0, Nat.zero_le _, rfl, by simpa using hown0, hb0⟩
      case round =>
        rename World => w2
        obtain ⟨k, hk, rfl, hown, hbel⟩ := hrel
        by_cases hlt : k < ss.length
        · have hltz : (k : Int) < (ss.length : Int) := by omega
          obtain ⟨b, off, rfl, hb, hcs⟩ := hrH.out.1.at hlt
          have e0 := hcs k hlt 0 (by omega)
          obtain ⟨s, hs⟩ : ∃ s, ss[k] = s := ⟨_, rfl⟩
          rw [hs] at e0
          have e1 : w2.cell? ⟨b, off + k, none⟩ = some (.slice s.A s.l.length s.cap) := (hbel.cell (p := ⟨b, off + k, none⟩) hb).trans (by simpa [encS] using e0)
          have hst : Hid ((ss.take (k + 1)).flatMap (·.l) = (ss.take k).flatMap (·.l) ++ s.l) := by show _ = _; rw [flat_take hlt, hs]
          have hle : ((ss.take (k + 1)).flatMap (·.l)).length ≤ 800 := Nat.le_trans (flat_le _) hall.out
          rw [hst.out, List.length_append] at hle
          have hsf := hrH.out.2 s (by rw [← hs]; exact List.getElem_mem hlt)
          obtain ⟨M, hM⟩ : ∃ M, (ss.take k).flatMap (·.l) = M := ⟨_, rfl⟩
          rw [hM] at hown hst hle
          have hsH : Hid (RowG encT 2 w2 s.A s.l ∧ (s.A = none → s.cap = 0) ∧ OwnG encT 2 29 w2 wr.heap.size u6 M ∧ M.length + s.l.length ≤ maxLen ∧ (M.length + s.l.length) * 32 ≤ 140737488355328 ∧ wr.heap.size ≤ w2.heap.size) := ⟨hsf.1.below hbel, hsf.2.1, hown, by unfold maxLen; omega, by omega, hbel.size⟩
          have hbelH : Hid (Below wr.heap.size wr w2) := hbel
          clear hcs e0 hs hle hsf hM hown hbel
          go_wp2_with (at_builtin; refine wpList_append_ts _ rfl (.tmp 31) (.tmp 32) rfl wr.heap.size u6 M s.l s.A s.cap rfl rfl hsH.out.2.2.1 hsH.out.1 hsH.out.2.1 hsH.out.2.2.2.1 hsH.out.2.2.2.2.1 hsH.out.2.2.2.2.2 ?_; intro v3 w3 hown3 hg3)
          have hfin : Hid (Go.RowKit.Below wr.heap.size wr w3) := hbelH.out.trans (OwnG.grown_below hsH.out.2.2.1 hg3 hsH.out.2.2.2.2.2)
          go_roundw
          case rel => exact ⟨k + 1, by omega, by go_num, by rw [hst.out]; exact hown3, hfin.out⟩
          case measure => simp [intOf]; omega
        · have hltz : ¬ (k : Int) < (ss.length : Int) := by omega
          have hke : ss.take k = ss := List.take_of_length_le (by omega)
          rw [hke] at hown
          have hfin : Hid (OwnG encT 2 29 w2 wr.heap.size u6 (ss.flatMap (·.l)) ∧ Below wr.heap.size wr w2) := ⟨hown, hbel⟩
          clear hown hbel hke
          go_wp2
          go_ret
          exact ⟨u6, rfl, hfin.out.1, hfin.out.2⟩

end Go.Proofs.Yteobmedkngdnkaa
