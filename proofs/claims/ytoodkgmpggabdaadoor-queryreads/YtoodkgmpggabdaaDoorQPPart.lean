/-
  query.parsePart: one part is put into a step.
-/
import Derived.Test.YtoodkgmpggabdaaDoorQPList
namespace Go.Proofs.YtoodkgmpggabdaaDoor
open Go.RowKit Go.Sort

/-- Block b holds a step, that may be written. -/
structure Box (w : World) (b : Nat) (s : Stp) : Prop where
  c0 : w.cell? ⟨b, 0, none⟩ = some (.int .i64 s.k)
  c1 : w.cell? ⟨b, 1, none⟩ = some (.int .i64 s.a)
  c2 : w.cell? ⟨b, 2, none⟩ = some (.int .i64 s.b)
  c3 : w.cell? ⟨b, 3, none⟩ = some (.int .i64 s.c)
  c4 : w.cell? ⟨b, 4, none⟩ = some (.int .i64 s.o)
  c5 : w.cell? ⟨b, 5, none⟩ = some (.int .i64 s.v)
  c6 : w.cell? ⟨b, 6, none⟩ = some (.slice s.p s.l.length s.n)
  fz : ∀ j, w.frozen? ⟨b, j, none⟩ = false
  lt : b < w.heap.size
theorem Box.below {w w' : World} {b : Nat} {s : Stp} (h : Box w b s) (k : Below w.heap.size w w') : Box w' b s :=
  ⟨(k.cell (p := ⟨b, 0, none⟩) h.lt).trans h.c0, (k.cell (p := ⟨b, 1, none⟩) h.lt).trans h.c1, (k.cell (p := ⟨b, 2, none⟩) h.lt).trans h.c2, (k.cell (p := ⟨b, 3, none⟩) h.lt).trans h.c3, (k.cell (p := ⟨b, 4, none⟩) h.lt).trans h.c4, (k.cell (p := ⟨b, 5, none⟩) h.lt).trans h.c5, (k.cell (p := ⟨b, 6, none⟩) h.lt).trans h.c6, fun j => (k.frozen (p := ⟨b, j, none⟩) h.lt).trans (h.fz j), Nat.lt_of_lt_of_le h.lt k.size⟩
theorem cell_setB {w : World} {B j j' : Nat} {u x : Value} (hx : w.cell? ⟨B, j', none⟩ = some x) : (w.setCell ⟨B, j, none⟩ u).cell? ⟨B, j', none⟩ = some (if j' = j then u else x) := by
  by_cases h : j' = j
  · subst h; rw [if_pos rfl]; exact World.cell?_setCell_same _ _ _ hx
  · rw [if_neg h, World.cell?_setCell_other _ _ _ _ (by intro e; injection e with e1 e2; exact h e2.symm)]; exact hx
theorem Box.set {w : World} {b : Nat} {s t : Stp} (h : Box w b s) (j : Nat) (u : Value)
    (h0 : some (if 0 = j then u else .int .i64 s.k) = some (.int .i64 t.k)) (h1 : some (if 1 = j then u else .int .i64 s.a) = some (.int .i64 t.a)) (h2 : some (if 2 = j then u else .int .i64 s.b) = some (.int .i64 t.b)) (h3 : some (if 3 = j then u else .int .i64 s.c) = some (.int .i64 t.c)) (h4 : some (if 4 = j then u else .int .i64 s.o) = some (.int .i64 t.o)) (h5 : some (if 5 = j then u else .int .i64 s.v) = some (.int .i64 t.v)) (h6 : some (if 6 = j then u else .slice s.p s.l.length s.n) = some (.slice t.p t.l.length t.n)) : Box (w.setCell ⟨b, j, none⟩ u) b t :=
  ⟨(cell_setB h.c0).trans h0, (cell_setB h.c1).trans h1, (cell_setB h.c2).trans h2, (cell_setB h.c3).trans h3, (cell_setB h.c4).trans h4, (cell_setB h.c5).trans h5, (cell_setB h.c6).trans h6, fun i => by simp only [World.frozen?_setCell]; exact h.fz i, by simpa [World.setCell] using h.lt⟩
/-- All but block b is as it was. -/
structure Kept (b : Nat) (w w' : World) : Prop where
  os : w'.os = w.os
  tape : w'.tape = w.tape
  output : w'.output = w.output
  size : w.heap.size ≤ w'.heap.size
  block : ∀ k, k < w.heap.size → k ≠ b → w'.heap[k]? = w.heap[k]?
theorem Kept.of {b : Nat} {w w' : World} (h : Below w.heap.size w w') : Kept b w w' := ⟨h.os, h.tape, h.output, h.size, fun k hk _ => h.block k hk⟩
theorem Kept.set {b : Nat} {w w' : World} (h : Kept b w w') (j : Nat) (u : Value) : Kept b w (w'.setCell ⟨b, j, none⟩ u) :=
  ⟨h.os, h.tape, h.output, by simpa [World.setCell] using h.size, fun k hk hn => (Below.heap_setCell w' ⟨b, j, none⟩ u k hn).trans (h.block k hk hn)⟩
theorem Kept.trans {b : Nat} {w w' w'' : World} (h : Kept b w w') (k : Kept b w' w'') : Kept b w w'' :=
  ⟨k.os.trans h.os, k.tape.trans h.tape, k.output.trans h.output, Nat.le_trans h.size k.size, fun i hi hn => (k.block i (Nat.lt_of_lt_of_le hi h.size) hn).trans (h.block i hi hn)⟩
theorem Kept.below {b B : Nat} {w w' : World} (h : Kept b w w') (hB : B ≤ b) (hs : B ≤ w.heap.size) : Below B w w' :=
  ⟨h.os, h.tape, h.output, h.size, fun k hk => h.block k (by omega) (by omega)⟩
/-- A step's list lies somewhere, from block lo on. -/
structure Good (lo : Nat) (w : World) (s : Stp) : Prop where
  row : RowI w s.p s.l
  len : s.l.length ≤ maxLen
  nil : s.p = none → s.n = 0
  far : ∀ a, s.p = some a → lo ≤ a.block ∧ a.block < w.heap.size
theorem rowKept {b : Nat} {w w' : World} {A : Option Addr} {l : List Int} (h : RowI w A l) (k : Kept b w w') (hf : ∀ a, A = some a → a.block ≠ b) : RowI w' A l := by
  rcases h with h | ⟨c, off, rfl, hc, hcs⟩
  · exact Or.inl h
  · have hn : c ≠ b := hf _ rfl
    exact Or.inr ⟨c, off, rfl, Nat.lt_of_lt_of_le hc k.size, fun j hj i hi => (World.cell?_of_block (w := w) (k.block c hc hn)).trans (hcs j hj i hi)⟩
theorem Good.kept {b lo : Nat} {w w' : World} {s : Stp} (h : Good lo w s) (hlo : b < lo) (k : Kept b w w') : Good lo w' s := ⟨rowKept h.row k (fun a ha => by have := h.far a ha; omega), h.len, h.nil, fun a ha => ⟨(h.far a ha).1, Nat.lt_of_lt_of_le (h.far a ha).2 k.size⟩⟩
theorem Good.as {b : Nat} {w : World} {s t : Stp} (h : Good b w s) (hl : t.l = s.l) (hp : t.p = s.p) (hn : t.n = s.n) : Good b w t := ⟨by rw [hl, hp]; exact h.row, by rw [hl]; exact h.len, by rw [hp, hn]; exact h.nil, by rw [hp]; exact h.far⟩

set_option maxHeartbeats 1000000 in
theorem parsePart_op (s : Stp) (x : List UInt8) (b : Nat) (w : World) (hB : Box w b s) : Calls Tryd.prog 20 #[.pointer (some ⟨b, 0, none⟩), .int .u8 79, .string ⟨x.toArray⟩] w fun e w' => e = .returned (.bool (signP x != 0)) ∧ w' = w.setCell ⟨b, 4, none⟩ (.int .i64 (signP x)) := by
  have ho := opOf_any x w
  have hoH : Hid _ := ho
  have hc := hB.c4
  have hz := hB.fz 4
  clear ho hB
  obtain ⟨n, hn⟩ : ∃ n, signP x = n := ⟨_, rfl⟩
  rw [hn] at hoH ⊢
  clear hn
  go_enter Tryd.func20, Tryd.ntmps20
  go_wp2_with fail
  refine Calls.mono (show Calls _ _ _ _ _ from hoH.out) ?_
  rintro e w1 ⟨rfl, rfl⟩
  go_wp2
  go_ret
  exact ⟨rfl, rfl⟩

set_option maxHeartbeats 1000000 in
theorem parsePart_list (s : Stp) (x : List UInt8) (b : Nat) (w : World) (hB : Box w b s) (hr : Reads w) (hx : x.length ≤ 100000) : Calls Tryd.prog 20 #[.pointer (some ⟨b, 0, none⟩), .int .u8 76, .string ⟨x.toArray⟩] w fun e w' => e = .returned (.bool (listP x).isSome) ∧ ∃ v w1, OwnI w1 w.heap.size v ((listP x).getD []) ∧ Below w.heap.size w w1 ∧ w' = w1.setCell ⟨b, 6, none⟩ v := by
  have ho := parseList_any x w hr hx
  have hoH : Hid _ := ho
  have hBH : Hid (Box w b s) := hB
  clear ho hB hr
  go_enter Tryd.func20, Tryd.ntmps20
  go_wp2_with fail
  refine Calls.mono (show Calls _ _ _ _ _ from hoH.out) ?_
  rintro e w1 ⟨⟨v, rfl, hv⟩, hb⟩
  have hc := (hBH.out.below hb).c6
  have hz := (hBH.out.below hb).fz 6
  have hvH : Hid (OwnI w1 w.heap.size v ((listP x).getD []) ∧ Below w.heap.size w w1) := ⟨hv, hb⟩
  obtain ⟨A, cap, hvA, -, -, -⟩ := OwnG.row encI_len hv
  subst hvA
  clear hv hb hoH hBH
  go_wp2
  go_ret
  exact ⟨rfl, _, w1, hvH.out.1, hvH.out.2, rfl⟩

set_option maxHeartbeats 1000000 in
theorem parsePart_num (x : List UInt8) (b : Nat) (p : Int) (f : Nat) (w : World) (hr : Reads w) (hf : fldI p = f) (h1 : (p == 79) = false) (h2 : (p == 76) = false) (u : Value) (hc : w.cell? ⟨b, f, none⟩ = some u) (hz : w.frozen? ⟨b, f, none⟩ = false) : Calls Tryd.prog 20 #[.pointer (some ⟨b, 0, none⟩), .int .u8 p, .string ⟨x.toArray⟩] w fun e w' => e = .returned (.bool (numP x).isSome) ∧ ∃ w1, Below w.heap.size w w1 ∧ w' = w1.setCell ⟨b, f, none⟩ (.int .i64 ((numP x).getD 0)) := by
  have hfl := field_any b p w
  rw [hf] at hfl
  have hflH : Hid _ := hfl
  have hnm := parseNumber_any x w hr
  have hnmH : Hid _ := hnm
  clear hfl hnm hf hr
  go_enter Tryd.func20, Tryd.ntmps20
  go_wp2_with fail
  refine Calls.mono (show Calls _ _ _ _ _ from hflH.out) ?_
  rintro e w1 ⟨rfl, rfl⟩
  clear hflH
  go_wp2_with fail
  refine Calls.mono (show Calls _ _ _ _ _ from hnmH.out) ?_
  rintro e w2 ⟨rfl, hb⟩
  have hlt := World.block_lt_of_cell? w1 _ hc
  have hc2 : w2.cell? ⟨b, f, none⟩ = some u := (hb.cell (p := ⟨b, f, none⟩) hlt).trans hc
  have hz2 : w2.frozen? ⟨b, f, none⟩ = false := (hb.frozen (p := ⟨b, f, none⟩) hlt).trans hz
  have hbH : Hid _ := hb
  clear hb hnmH hc hz hlt
  go_wp2
  go_ret
  exact ⟨rfl, w2, hbH.out, rfl⟩
theorem parsePart_any (s : Stp) (p : UInt8) (hp : p ∈ ([65, 66, 67, 79, 86, 76] : List UInt8)) (x : List UInt8) (b : Nat) (w : World) (hB : Box w b s) {lo : Nat} (hlo : b < lo) (hlw : lo ≤ w.heap.size) (hG : Good lo w s) (hr : Reads w) (hx : x.length ≤ 100000) :
    Calls Tryd.prog 20 #[.pointer (some ⟨b, 0, none⟩), .int .u8 (p.toNat : Int), .string ⟨x.toArray⟩] w fun e w' => e = .returned (.bool (partP s p x).isSome) ∧ Kept b w w' ∧ ∀ t, partP s p x = some t → ∃ t', clr t' = clr t ∧ Box w' b t' ∧ Good lo w' t' := by
  simp only [List.mem_cons, List.not_mem_nil, or_false] at hp
  rcases hp with rfl | rfl | rfl | rfl | rfl | rfl
  · refine Calls.mono (parsePart_num x b 65 1 w hr rfl rfl rfl _ hB.c1 (hB.fz 1)) ?_
    rintro e w' ⟨rfl, w1, hb, rfl⟩
    have hpt : partP s 65 x = match numP x with
      | none => none
      | some n => some { s with a := n } := by unfold partP; rw [if_neg (by decide), if_neg (by decide)]; rfl
    rw [hpt]
    have hk : Kept b w (w1.setCell ⟨b, 1, none⟩ (.int .i64 ((numP x).getD 0))) := (Kept.of hb).set 1 _
    cases hq : numP x with
    | none => exact ⟨rfl, by rw [hq] at hk; exact hk, fun t ht => by cases ht⟩
    | some n =>
      rw [hq] at hk
      refine ⟨rfl, hk, fun t ht => ?_⟩
      obtain rfl := Option.some.inj ht
      exact ⟨_, rfl, (hB.below hb).set 1 _ rfl rfl rfl rfl rfl rfl rfl, (hG.kept hlo hk).as rfl rfl rfl⟩
  · refine Calls.mono (parsePart_num x b 66 2 w hr rfl rfl rfl _ hB.c2 (hB.fz 2)) ?_
    rintro e w' ⟨rfl, w1, hb, rfl⟩
    have hpt : partP s 66 x = match numP x with
      | none => none
      | some n => some { s with b := n } := by unfold partP; rw [if_neg (by decide), if_neg (by decide)]; rfl
    rw [hpt]
    have hk : Kept b w (w1.setCell ⟨b, 2, none⟩ (.int .i64 ((numP x).getD 0))) := (Kept.of hb).set 2 _
    cases hq : numP x with
    | none => exact ⟨rfl, by rw [hq] at hk; exact hk, fun t ht => by cases ht⟩
    | some n =>
      rw [hq] at hk
      refine ⟨rfl, hk, fun t ht => ?_⟩
      obtain rfl := Option.some.inj ht
      exact ⟨_, rfl, (hB.below hb).set 2 _ rfl rfl rfl rfl rfl rfl rfl, (hG.kept hlo hk).as rfl rfl rfl⟩
  · refine Calls.mono (parsePart_num x b 67 3 w hr rfl rfl rfl _ hB.c3 (hB.fz 3)) ?_
    rintro e w' ⟨rfl, w1, hb, rfl⟩
    have hpt : partP s 67 x = match numP x with
      | none => none
      | some n => some { s with c := n } := by unfold partP; rw [if_neg (by decide), if_neg (by decide)]; rfl
    rw [hpt]
    have hk : Kept b w (w1.setCell ⟨b, 3, none⟩ (.int .i64 ((numP x).getD 0))) := (Kept.of hb).set 3 _
    cases hq : numP x with
    | none => exact ⟨rfl, by rw [hq] at hk; exact hk, fun t ht => by cases ht⟩
    | some n =>
      rw [hq] at hk
      refine ⟨rfl, hk, fun t ht => ?_⟩
      obtain rfl := Option.some.inj ht
      exact ⟨_, rfl, (hB.below hb).set 3 _ rfl rfl rfl rfl rfl rfl rfl, (hG.kept hlo hk).as rfl rfl rfl⟩
  · refine Calls.mono (parsePart_op s x b w hB) ?_
    rintro e w' ⟨rfl, rfl⟩
    have hk : Kept b w (w.setCell ⟨b, 4, none⟩ (.int .i64 (signP x))) := (Kept.of (Below.refl _ _)).set 4 _
    have hpt : partP s 79 x = if signP x = 0 then none else some { s with o := signP x } := by unfold partP; rw [if_pos rfl]
    rw [hpt]
    by_cases h0 : signP x = 0
    · rw [if_pos h0]
      exact ⟨by rw [h0]; rfl, hk, fun t ht => by cases ht⟩
    · rw [if_neg h0]
      refine ⟨by rw [show (signP x != 0) = true by simpa using h0]; rfl, hk, fun t ht => ?_⟩
      obtain rfl := Option.some.inj ht
      exact ⟨_, rfl, hB.set 4 _ rfl rfl rfl rfl rfl rfl rfl, (hG.kept hlo hk).as rfl rfl rfl⟩
  · refine Calls.mono (parsePart_num x b 86 5 w hr rfl rfl rfl _ hB.c5 (hB.fz 5)) ?_
    rintro e w' ⟨rfl, w1, hb, rfl⟩
    have hpt : partP s 86 x = match numP x with
      | none => none
      | some n => some { s with v := n } := by unfold partP; rw [if_neg (by decide), if_neg (by decide)]; rfl
    rw [hpt]
    have hk : Kept b w (w1.setCell ⟨b, 5, none⟩ (.int .i64 ((numP x).getD 0))) := (Kept.of hb).set 5 _
    cases hq : numP x with
    | none => exact ⟨rfl, by rw [hq] at hk; exact hk, fun t ht => by cases ht⟩
    | some n =>
      rw [hq] at hk
      refine ⟨rfl, hk, fun t ht => ?_⟩
      obtain rfl := Option.some.inj ht
      exact ⟨_, rfl, (hB.below hb).set 5 _ rfl rfl rfl rfl rfl rfl rfl, (hG.kept hlo hk).as rfl rfl rfl⟩
  · refine Calls.mono (parsePart_list s x b w hB hr hx) ?_
    rintro e w' ⟨rfl, v, w1, hv, hb, rfl⟩
    have hk : Kept b w (w1.setCell ⟨b, 6, none⟩ v) := (Kept.of hb).set 6 _
    have hpt : partP s 76 x = match listP x with
      | none => none
      | some l => some { s with l := l } := by unfold partP; rw [if_neg (by decide), if_pos rfl]; rfl
    rw [hpt]
    cases hq : listP x with
    | none => exact ⟨rfl, hk, fun t ht => by cases ht⟩
    | some l =>
      refine ⟨rfl, hk, fun t ht => ?_⟩
      obtain rfl := Option.some.inj ht
      rw [hq] at hv
      obtain ⟨A, cap, rfl, hnil, hrow, hfar⟩ := OwnG.row encI_len hv
      have hf : ∀ a, A = some a → a.block ≠ b := fun a ha => by have := (hfar a ha).1; have := hB.lt; omega
      refine ⟨{ s with l := l, p := A, n := cap }, rfl, (hB.below hb).set 6 _ rfl rfl rfl rfl rfl rfl rfl, ⟨?_, ?_, hnil, fun a ha => ⟨Nat.le_trans hlw (hfar a ha).1, by have := (hfar a ha).2; simpa [World.setCell] using this⟩⟩⟩
      · exact rowKept hrow ((Kept.of (Below.refl _ _)).set 6 _) hf
      · have h1 := congrArg List.length (numsP_map hq)
        have h2 := splitC_le 44 x
        rw [List.length_map] at h1
        show l.length ≤ maxLen
        unfold maxLen
        omega
end Go.Proofs.YtoodkgmpggabdaaDoor
