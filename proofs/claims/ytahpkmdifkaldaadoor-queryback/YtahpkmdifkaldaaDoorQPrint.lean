/-
  query.signOf, strconv.Itoa, query.printList: texts of a step's parts.
-/
import Derived.Test.YtahpkmdifkaldaaDoorQTens
import Derived.Shelf.Unicode.PredsPay
import Derived.Lib.ItoaLen
import Derived.Lib.Join
import Derived.Lib.JoinLaws
namespace Go.Proofs.YtahpkmdifkaldaaDoor
open Go.RowKit Go.Sort

/-- The sign of an op. -/
def signL (o : Int) : List UInt8 := if o = 1 then [60] else if o = 2 then [61] else if o = 3 then [62] else []
set_option maxHeartbeats 400000 in
theorem signOf_any (o : Int) (w : World) : Calls Tryd.prog 28 #[.int .i64 o] w fun e w' => e = .returned (.string ⟨(signL o).toArray⟩) ∧ w' = w := by
  by_cases h1 : o = 1
  · subst h1
    go_enter Tryd.func28, Tryd.ntmps28
    go_wp2
    go_ret
    exact ⟨rfl, rfl⟩
  by_cases h2 : o = 2
  · subst h2
    go_enter Tryd.func28, Tryd.ntmps28
    go_wp2
    go_ret
    exact ⟨rfl, rfl⟩
  by_cases h3 : o = 3
  · subst h3
    go_enter Tryd.func28, Tryd.ntmps28
    go_wp2
    go_ret
    exact ⟨rfl, rfl⟩
  have e1 : signL o = [] := by unfold signL; rw [if_neg h1, if_neg h2, if_neg h3]
  have q1 : (o == 1) = false := beq_eq_false_iff_ne.2 h1
  have q2 : (o == 2) = false := beq_eq_false_iff_ne.2 h2
  have q3 : (o == 3) = false := beq_eq_false_iff_ne.2 h3
  rw [e1]
  clear h1 h2 h3 e1
  go_enter Tryd.func28, Tryd.ntmps28
  go_wp2
  go_ret
  exact ⟨rfl, rfl⟩

/-- A text's cell. -/
def encX (x : List UInt8) : List Value := [.string ⟨x.toArray⟩]
theorem encX_len (x : List UInt8) : (encX x).length = 1 := rfl
theorem encX_one (x : List UInt8) : ∀ u ∈ encX x, u.oneCell' = true := by
  intro u hu
  simp [encX] at hu
  subst hu; rfl
abbrev RowX (w : World) (A : Option Addr) (l : List (List UInt8)) : Prop := RowG encX 1 w A l
abbrev OwnX (w : World) (base : Nat) (v : Value) (l : List (List UInt8)) : Prop := OwnG encX 1 9 w base v l
theorem Tryd.infoX : (Tryd.prog.info? 9).map (fun i => (i.zero, i.size, i.bytes)) = some (some (.string ⟨#[]⟩), 1, 16) := by kernel_rfl
theorem rowNewX {W : World} {n : Nat} (hn : W.heap.size = n) (x : List UInt8) (T : TypeId) : RowX (W.alloc (.cells #[.string ⟨x.toArray⟩] T)) (some ⟨n, 0, none⟩) [x] := by
  subst hn
  refine Or.inr ⟨W.heap.size, 0, rfl, by simp, fun j hj i hi => ?_⟩
  obtain rfl : j = 0 := by simp at hj; omega
  obtain rfl : i = 0 := by omega
  exact box1 (w := W) (Gr.refl _) (j := 0) rfl
theorem wpList_append_x (w : World) {ops : Array Oper} {rest : List Oper} {o : Oper} {a : Act} {Q : Exit → Act → World → Prop} (hgd : o.guard = none) (s x : Operand)
    (ho : o.op = .call { callee := .builtin .append, args := #[s, x], argTypes := #[56, 56] })
    (base : Nat) (v : Value) (l m : List (List UInt8)) (A : Option Addr) (cap : Nat) (hs : a.eval s = v) (hx : a.eval x = .slice A m.length cap) (hown : OwnX w base v l) (hr : RowX w A m) (hA : A = none → cap = 0)
    (hml : l.length + m.length ≤ maxLen) (hb : (l.length + m.length) * 16 ≤ 140737488355328) (hbase : base ≤ w.heap.size)
    (h : ∀ v' w', OwnX w' base v' (l ++ m) → w.grownBy w' v.ownBlock → wpList Tryd.prog ops Q rest (a.put o.dst v') w') : wpList Tryd.prog ops Q (o :: rest) a w :=
  wpList_plain hgd fun _ hK => wp_append_g encX_len encX_one (by omega) 56 Tryd.underlying56 (.string ⟨#[]⟩) 16 Tryd.infoX rfl w s x ho base v l m A cap hs hx hown hr hA hml hb hbase fun v' w' h2 h3 => hK _ _ (h v' w' h2 h3)
theorem bytes_map (l : List (List UInt8)) : (l.map fun x => (⟨x.toArray⟩ : ByteArray)).map (·.data.toList) = l := by
  induction l with
  | nil => rfl
  | cons x t ih => rw [List.map_cons, List.map_cons, ih]
theorem sjoin_any (l : List (List UInt8)) (sep : List UInt8) (A : Option Addr) (c : Nat) (w : World) (h0 : l ≠ []) (hr : RowX w A l) (hc : l.length ≤ c) (hl : l.length ≤ 100000) (hlen : (Lib.join l sep).length ≤ 140737488355328) :
    Calls Tryd.prog 21 #[.slice A l.length c, .string ⟨sep.toArray⟩] w fun e w' => e = .returned (.string ⟨(Lib.join l sep).toArray⟩) ∧ Below w.heap.size w w' := by
  have hp : 0 < l.length := List.length_pos_iff.2 h0
  obtain ⟨b, off, rfl, hb, hcs⟩ := hr.at hp
  have e1 := bytes_map l
  have e2 : (l.map fun x => (⟨x.toArray⟩ : ByteArray)).length = l.length := by simp
  have h := Any.strings_Join Tryd.lays156 Tryd.extra156 b off c (l.map fun x => (⟨x.toArray⟩ : ByteArray)) ⟨sep.toArray⟩ w (fun j x hx => by
    rw [List.getElem?_map] at hx
    obtain ⟨y, hy, rfl⟩ := Option.map_eq_some_iff.1 hx
    obtain ⟨hj, rfl⟩ := List.getElem?_eq_some_iff.1 hy
    have := hcs j hj 0 (by omega)
    simpa [encX] using this) hb (by rw [e2]; omega) (by rw [e2]; exact hc) (by rw [e1]; exact hlen)
  rw [e1, e2] at h
  exact h

theorem join_le (sep : List UInt8) (m : Nat) : ∀ l : List (List UInt8), (∀ x ∈ l, x.length ≤ m) → (Lib.join l sep).length ≤ l.length * (m + sep.length)
  | [], _ => by simp [Lib.join, List.intercalate]
  | [x], h => by
    have := h x (by simp)
    rw [Lib.join_one]; simp; omega
  | x :: y :: t, h => by
    have h1 := h x (by simp)
    have h2 := join_le sep m (y :: t) fun z hz => h z (List.mem_cons_of_mem _ hz)
    have e : Lib.join (x :: y :: t) sep = x ++ sep ++ Lib.join (y :: t) sep := by simp [Lib.join, List.intercalate, List.intersperse]
    rw [e, List.length_append, List.length_append]
    simp only [List.length_cons, Nat.succ_mul] at h2 ⊢
    omega
/-- A list's text. -/
def listL (l : List Int) : List UInt8 := Lib.join (l.map Lib.itoa) [44]

set_option maxRecDepth 100000 in
set_option maxHeartbeats 1000000 in
theorem printList_any (l : List Int) (A : Option Addr) (ca : Nat) (w : World) (h0 : l ≠ []) (hl : l.length ≤ 8) (hs : ∀ x ∈ l, Small x) (hr : RowI w A l) (ht : Tens w) :
    Calls Tryd.prog 29 #[.slice A l.length ca] w fun e w' => e = .returned (.string ⟨(listL l).toArray⟩) ∧ Below w.heap.size w w' := by
  have hH : Hid (RowI w A l ∧ Tens w ∧ (∀ x ∈ l, Small x) ∧ l ≠ []) := ⟨hr, ht, hs, h0⟩
  clear hr ht hs h0
  go_enter Tryd.func29, Tryd.ntmps29
  go_wp2
  go_loopw [3, 8] (fun v i wr => ∃ j : Nat, j ≤ l.length ∧ i = .int .i64 j ∧ Hid (OwnX wr w.heap.size v ((l.take j).map Lib.itoa) ∧ Below w.heap.size w wr)) (fun _ i _ => l.length - (intOf i).toNat)
  case atStart => exact ⟨0, Nat.zero_le _, rfl, OwnG.nil _ _ _ _ _, Below.refl _ _⟩
  case round =>
    obtain ⟨j, hj, rfl, hov⟩ := hrel
    by_cases hlt : j < l.length
    · have hltz : (j : Int) < (l.length : Int) := by omega
      have hr : RowI wr A l := hH.out.1.below hov.out.2
      obtain ⟨b, off, rfl, hb, hcs⟩ := hr.at hlt
      obtain ⟨x, hx⟩ : ∃ x, l[j] = x := ⟨_, rfl⟩
      have e0 := hcs j hlt 0 (by omega)
      rw [hx] at e0
      have e1 : wr.cell? ⟨b, off + j, none⟩ = some (.int .i64 x) := by simpa [encI] using e0
      have hit := itoa_any (hH.out.2.2.1 x (by rw [← hx]; exact List.getElem_mem hlt)) (hH.out.2.1.below hov.out.2)
      have hitH : Hid _ := hit
      have hst : Hid ((l.take (j + 1)).map Lib.itoa = (l.take j).map Lib.itoa ++ [Lib.itoa x]) := by show _ = _; rw [List.take_succ_eq_append_getElem hlt, hx]; simp
      clear hcs e0 hit hr hx
      go_wp2_with fail
      refine Calls.mono (show Calls _ _ _ _ _ from hitH.out) ?_
      rintro e w1 ⟨rfl, hg1⟩
      clear hitH
      obtain ⟨M, hM⟩ : ∃ M, (l.take j).map Lib.itoa = M := ⟨_, rfl⟩
      have hMl : M.length ≤ 8 := by rw [← hM]; simp; omega
      rw [hM] at hov hst
      obtain ⟨t, ht⟩ : ∃ t, Lib.itoa x = t := ⟨_, rfl⟩
      rw [ht] at hst ⊢
      have hg2 : Gr wr (w1.alloc (.cells #[.string ⟨t.toArray⟩] 9)) := hg1.alloc _
      have hoX : Hid (OwnX (w1.alloc (.cells #[.string ⟨t.toArray⟩] 9)) w.heap.size u3 M ∧ RowX (w1.alloc (.cells #[.string ⟨t.toArray⟩] 9)) (some ⟨w1.heap.size, 0, none⟩) [t] ∧ M.length + 1 ≤ maxLen ∧ (M.length + 1) * 16 ≤ 140737488355328 ∧ Below w.heap.size w (w1.alloc (.cells #[.string ⟨t.toArray⟩] 9))) := ⟨hov.out.1.gr hg2, rowNewX rfl t 9, by unfold maxLen; omega, by omega, hov.out.2.trans (hg2.below.mono hov.out.2.size)⟩
      clear hM hMl ht hg1 hg2 hov
      go_wp2_with (at_builtin; refine wpList_append_x _ rfl _ _ rfl w.heap.size u3 M [t] (some ⟨w1.heap.size, 0, none⟩) 1 rfl rfl hoX.out.1 hoX.out.2.1 (fun h => by cases h) hoX.out.2.2.1 hoX.out.2.2.2.1 hoX.out.2.2.2.2.size ?_; intro v7 w7 hown7 hg7)
      have hfin7 : Hid (OwnX w7 w.heap.size v7 (M ++ [t]) ∧ Below w.heap.size w w7) := ⟨hown7, hoX.out.2.2.2.2.trans (OwnG.grown_below hoX.out.1 hg7 hoX.out.2.2.2.2.size)⟩
      clear hown7 hg7 hoX
      go_roundw
      case rel => exact ⟨j + 1, by omega, by go_num, by rw [hst.out]; exact hfin7⟩
      case measure => simp [intOf]; omega
    · have hltz : ¬ (j : Int) < (l.length : Int) := by omega
      have hke : l.take j = l := List.take_of_length_le (by omega)
      rw [hke] at hov
      obtain ⟨C, c, rfl, hC, hrow, hcap, -, -⟩ := OwnG.full encX_len hov.out.1
      have hjo := sjoin_any (l.map Lib.itoa) [44] C c wr (by simpa using hH.out.2.2.2) hrow hcap (by simp; omega) (by
        have h1 := join_le [44] 21 (l.map Lib.itoa) (fun x hx => by
          obtain ⟨n, hn, rfl⟩ := List.mem_map.1 hx
          exact itoa_len (hH.out.2.2.1 n hn))
        simp at h1; omega)
      rw [List.length_map] at hjo
      have hjoH : Hid _ := hjo
      have hbF : Hid (Below w.heap.size w wr) := hov.out.2
      clear hjo hrow hC hcap hov hke
      go_wp2_with fail
      refine Calls.mono (show Calls _ _ _ _ _ from hjoH.out) ?_
      rintro e w1 ⟨rfl, hb1⟩
      have hbG : Hid (Below w.heap.size w w1) := hbF.out.trans (hb1.mono hbF.out.size)
      clear hjoH hb1 hbF
      go_wp2
      go_ret
      exact ⟨rfl, hbG.out⟩

end Go.Proofs.YtahpkmdifkaldaaDoor
