/-
  What viewkeep.spoil and spoilSet leave: blocks of the same kinds and sizes, and all outside of a range as it was.
  Sets with weights: rows in order, how often each is there; two sets in which each row is as often are one.
-/
import Derived.Test.YtgmdjioobidadaaM04
namespace Go.Proofs.Ytgmdjioobidadaa
open Go.RowKit Go.Sort

/-- Blocks outside of [lo, hi) are as they were; those inside have their kinds and sizes; an item's row is as it was, or none. -/
structure Spl (lo hi : Nat) (w w' : World) : Prop where
  os : w'.os = w.os
  tape : w'.tape = w.tape
  output : w'.output = w.output
  size : w.heap.size ≤ w'.heap.size
  out : ∀ g : Nat, g < w.heap.size → (g < lo ∨ hi ≤ g) → w'.heap[g]? = w.heap[g]?
  int : ∀ (g : Nat) (cur : Array Value), w.heap[g]? = some (.cells cur 3 (0, 0)) → ∃ cur' : Array Value, w'.heap[g]? = some (.cells cur' 3 (0, 0)) ∧ cur'.size = cur.size
  itm : ∀ (g : Nat) (cur : Array Value), w.heap[g]? = some (.cells cur 45 (0, 0)) → ∃ cur' : Array Value, w'.heap[g]? = some (.cells cur' 45 (0, 0)) ∧ cur'.size = cur.size ∧ ∀ j : Nat, (cur'[j * 2]? = cur[j * 2]? ∨ cur'[j * 2]? = some (.slice none 0 0)) ∧ (cur'[j * 2 + 1]? = cur[j * 2 + 1]? ∨ cur'[j * 2 + 1]? = some (.int .i64 9))
  oth : ∀ (g : Nat) (cur : Array Value) (T : TypeId), w.heap[g]? = some (.cells cur T (0, 0)) → T ≠ 3 → T ≠ 45 → w'.heap[g]? = w.heap[g]?
theorem Spl.refl (lo hi : Nat) (w : World) : Spl lo hi w w := ⟨rfl, rfl, rfl, Nat.le_refl _, fun _ _ _ => rfl, fun _ cur h => ⟨cur, h, rfl⟩, fun _ cur h => ⟨cur, h, rfl, fun _ => ⟨Or.inl rfl, Or.inl rfl⟩⟩, fun _ _ _ _ _ _ => rfl⟩
theorem Spl.trans {lo hi : Nat} {a b c : World} (h : Spl lo hi a b) (k : Spl lo hi b c) : Spl lo hi a c := by
  refine ⟨k.os.trans h.os, k.tape.trans h.tape, k.output.trans h.output, Nat.le_trans h.size k.size, fun g hg ho => (k.out g (Nat.lt_of_lt_of_le hg h.size) ho).trans (h.out g hg ho), fun g cur hc => ?_, fun g cur hc => ?_, fun g cur T hc h1 h2 => ?_⟩
  · obtain ⟨c1, h1, h2⟩ := h.int g cur hc
    obtain ⟨c2, h3, h4⟩ := k.int g c1 h1
    exact ⟨c2, h3, h4.trans h2⟩
  · obtain ⟨c1, h1, h2, h5⟩ := h.itm g cur hc
    obtain ⟨c2, h3, h4, h6⟩ := k.itm g c1 h1
    refine ⟨c2, h3, h4.trans h2, fun j => ⟨?_, ?_⟩⟩
    · rcases (h6 j).1 with e | e
      · rw [e]; exact (h5 j).1
      · exact Or.inr e
    · rcases (h6 j).2 with e | e
      · rw [e]; exact (h5 j).2
      · exact Or.inr e
  · have e := h.oth g cur T hc h1 h2
    exact (k.oth g cur T (e.trans hc) h1 h2).trans e
theorem Spl.of {lo hi : Nat} {w w' : World} (h : Below w.heap.size w w') : Spl lo hi w w' := by
  refine ⟨h.os, h.tape, h.output, h.size, fun g hg _ => h.block g hg, fun g cur hc => ?_, fun g cur hc => ?_, fun g cur T hc _ _ => h.block g (Array.getElem?_eq_some_iff.1 hc).1⟩
  · exact ⟨cur, (h.block g (Array.getElem?_eq_some_iff.1 hc).1).trans hc, rfl⟩
  · exact ⟨cur, (h.block g (Array.getElem?_eq_some_iff.1 hc).1).trans hc, rfl, fun _ => ⟨Or.inl rfl, Or.inl rfl⟩⟩
theorem Spl.gr {lo hi : Nat} {w w' : World} (h : Gr w w') : Spl lo hi w w' := Spl.of h.below
theorem Spl.below {lo hi : Nat} {w w' : World} (h : Spl lo hi w w') (hlo : lo ≤ w.heap.size) : Below lo w w' := ⟨h.os, h.tape, h.output, h.size, fun g hg => h.out g (Nat.lt_of_lt_of_le hg hlo) (Or.inl hg)⟩
theorem Spl.mono {lo hi lo' hi' : Nat} {w w' : World} (h : Spl lo hi w w') (h1 : lo' ≤ lo) (h2 : hi ≤ hi') : Spl lo' hi' w w' := ⟨h.os, h.tape, h.output, h.size, fun g hg ho => h.out g hg (by omega), h.int, h.itm, h.oth⟩
theorem heap_set {w : World} {g j : Nat} {cur : Array Value} {T : TypeId} {f : Nat × Nat} (v : Value) (h : w.heap[g]? = some (.cells cur T f)) : (w.setCell ⟨g, j, none⟩ v).heap[g]? = some (.cells (cur.setIfInBounds j v) T f) := by
  show (w.heap.modify g _)[g]? = _
  rw [Array.getElem?_modify, if_pos rfl, h]
  rfl
theorem heap_set_other {w : World} {g j k : Nat} (v : Value) (h : k ≠ g) : (w.setCell ⟨g, j, none⟩ v).heap[k]? = w.heap[k]? := by
  show (w.heap.modify g _)[k]? = _
  rw [Array.getElem?_modify, if_neg (fun e => h e.symm)]
theorem heap_set_size (w : World) (a : Addr) (v : Value) : (w.setCell a v).heap.size = w.heap.size := by simp [World.setCell]
/-- A number is written into a row. -/
theorem Spl.setInt {lo hi : Nat} {w : World} {g j : Nat} {cur : Array Value} (h : w.heap[g]? = some (.cells cur 3 (0, 0))) (h1 : lo ≤ g) (h2 : g < hi) (v : Value) : Spl lo hi w (w.setCell ⟨g, j, none⟩ v) := by
  refine ⟨rfl, rfl, rfl, by rw [heap_set_size]; exact Nat.le_refl _, fun k _ ho => heap_set_other v (by omega), fun k c hc => ?_, fun k c hc => ?_, fun k c T hc hT _ => heap_set_other v fun e => by
    subst e
    rw [h] at hc
    injection hc with hc
    injection hc with _ hc
    exact hT hc.symm⟩
  · by_cases e : k = g
    · subst e
      rw [h] at hc
      injection hc with hc
      injection hc with hc _
      subst hc
      exact ⟨_, heap_set v h, by simp⟩
    · exact ⟨c, (heap_set_other v e).trans hc, rfl⟩
  · have e : k ≠ g := fun e => by
      subst e
      rw [h] at hc
      injection hc with hc
      injection hc with _ hc
      exact absurd hc (by decide)
    exact ⟨c, (heap_set_other v e).trans hc, rfl, fun _ => ⟨Or.inl rfl, Or.inl rfl⟩⟩
/-- An item is written into a list. -/
theorem Spl.setItm {lo hi : Nat} {w : World} {g i : Nat} {cur : Array Value} (h : w.heap[g]? = some (.cells cur 45 (0, 0))) (h1 : lo ≤ g) (h2 : g < hi) : Spl lo hi w ((w.setCell ⟨g, i * 2, none⟩ (.slice none 0 0)).setCell ⟨g, i * 2 + 1, none⟩ (.int .i64 9)) := by
  have hA := heap_set (j := i * 2) (.slice none 0 0) h
  have hB := heap_set (j := i * 2 + 1) (.int .i64 9) hA
  refine ⟨rfl, rfl, rfl, by rw [heap_set_size, heap_set_size]; exact Nat.le_refl _, fun k _ ho => (heap_set_other _ (by omega)).trans (heap_set_other _ (by omega)), fun k c hc => ?_, fun k c hc => ?_, fun k c T hc _ hT => ?_⟩
  · have e : k ≠ g := fun e => by
      subst e
      rw [h] at hc
      injection hc with hc
      injection hc with _ hc
      exact absurd hc (by decide)
    exact ⟨c, ((heap_set_other _ e).trans (heap_set_other _ e)).trans hc, rfl⟩
  · by_cases e : k = g
    · subst e
      rw [h] at hc
      injection hc with hc
      injection hc with hc _
      subst hc
      refine ⟨_, hB, by simp, fun j => ⟨?_, ?_⟩⟩
      · rw [Array.getElem?_setIfInBounds, if_neg (by omega), Array.getElem?_setIfInBounds]
        by_cases e : i * 2 = j * 2
        · rw [if_pos e]
          by_cases hl : j * 2 < cur.size
          · rw [if_pos (by omega)]; exact Or.inr rfl
          · rw [if_neg (by omega)]; exact Or.inl (by rw [Array.getElem?_eq_none (by omega)])
        · rw [if_neg e]; exact Or.inl rfl
      · rw [Array.getElem?_setIfInBounds]
        by_cases e : i * 2 + 1 = j * 2 + 1
        · rw [if_pos e]
          by_cases hl : j * 2 + 1 < cur.size
          · rw [if_pos (by simp; omega)]; exact Or.inr rfl
          · rw [if_neg (by simp; omega)]; exact Or.inl (by rw [Array.getElem?_eq_none (by omega)])
        · rw [if_neg e, Array.getElem?_setIfInBounds, if_neg (by omega)]; exact Or.inl rfl
    · exact ⟨c, ((heap_set_other _ e).trans (heap_set_other _ e)).trans hc, rfl, fun _ => ⟨Or.inl rfl, Or.inl rfl⟩⟩
  · have e : k ≠ g := fun e => by
      subst e
      rw [h] at hc
      injection hc with hc
      injection hc with _ hc
      exact hT hc.symm
    exact (heap_set_other _ e).trans (heap_set_other _ e)

/-- A row that may be spoilt. -/
def RowW (w : World) (lo hi : Nat) (p : Option Addr) (m c : Nat) : Prop := m ≤ c ∧ (p = none → c = 0) ∧ ∀ a, p = some a → lo ≤ a.block ∧ a.block < hi ∧ a.off = 0 ∧ a.spot = none ∧ c ≤ maxLen ∧ ∃ cur, w.heap[a.block]? = some (.cells cur 3 (0, 0)) ∧ c ≤ cur.size
theorem RowW.spl {w w' : World} {lo hi lo' hi' : Nat} {p : Option Addr} {m c : Nat} (h : RowW w lo hi p m c) (k : Spl lo' hi' w w') : RowW w' lo hi p m c := by
  refine ⟨h.1, h.2.1, fun a ha => ?_⟩
  obtain ⟨h1, h2, h3, h4, h5, cur, h6, h7⟩ := h.2.2 a ha
  obtain ⟨cur', h8, h9⟩ := k.int _ cur h6
  exact ⟨h1, h2, h3, h4, h5, cur', h8, by omega⟩
theorem RowW.none (w : World) (lo hi : Nat) : RowW w lo hi none 0 0 := ⟨Nat.le_refl _, fun _ => rfl, fun a h => by cases h⟩
/-- A set that may be spoilt. -/
def SetW (w : World) (lo hi : Nat) (A : Option Addr) (n k : Nat) : Prop := n ≤ k ∧ (A = none → k = 0) ∧ ∀ a, A = some a → lo ≤ a.block ∧ a.block < hi ∧ a.off = 0 ∧ a.spot = none ∧ k ≤ maxLen ∧ ∃ cur, w.heap[a.block]? = some (.cells cur 45 (0, 0)) ∧ k * 2 ≤ cur.size ∧ ∀ j, j < n → ∃ p m c z, cur[j * 2]? = some (.slice p m c) ∧ RowW w lo hi p m c ∧ cur[j * 2 + 1]? = some (.int .i64 z)
theorem SetW.spl {w w' : World} {lo hi lo' hi' : Nat} {A : Option Addr} {n k : Nat} (h : SetW w lo hi A n k) (q : Spl lo' hi' w w') : SetW w' lo hi A n k := by
  refine ⟨h.1, h.2.1, fun a ha => ?_⟩
  obtain ⟨h1, h2, h3, h4, h5, cur, h6, h7, h8⟩ := h.2.2 a ha
  obtain ⟨cur', g1, g2, g3⟩ := q.itm _ cur h6
  refine ⟨h1, h2, h3, h4, h5, cur', g1, by omega, fun j hj => ?_⟩
  obtain ⟨p, m, c, z, k1, k2, k3⟩ := h8 j hj
  obtain ⟨e1, e2⟩ := g3 j
  have hz : ∃ z', cur'[j * 2 + 1]? = some (.int .i64 z') := by
    rcases e2 with e | e
    · exact ⟨z, e.trans k3⟩
    · exact ⟨9, e⟩
  obtain ⟨z', hz⟩ := hz
  rcases e1 with e | e
  · exact ⟨p, m, c, z', e.trans k1, k2.spl q, hz⟩
  · exact ⟨none, 0, 0, z', e, RowW.none _ _ _, hz⟩
/-- What a call handed back. -/
theorem NwT.set {w : World} {k n hi : Nat} {C : Option Addr} {L : List Itm} (h : NwT w k n C L) (hn : NilC C L.length k) (hI : Items w C L) (hhi : (∀ a, C = some a → a.block < hi) ∧ ∀ x ∈ L, ∀ a, x.p = some a → a.block < hi) : SetW w n hi C L.length k := by
  refine ⟨hn.cap, hn.z, fun a ha => ?_⟩
  obtain ⟨h1, h2, cur, h3, h4, h5⟩ := h.arr a ha
  refine ⟨h.new.1 a ha, hhi.1 a ha, h1, h2, h5, cur, h3, h4, fun j hj => ?_⟩
  obtain ⟨b, off, hA, _, hc⟩ := hI.at hj
  have hcc := hc j hj
  rw [ha] at hA
  injection hA with hA
  subst hA
  simp only at h1
  subst h1
  have h3' : w.heap[b]? = some (.cells cur 45 (0, 0)) := h3
  have e0 : cur[j * 2]? = some (.slice L[j].p L[j].r.length L[j].c) := by
    have := hcc.1
    unfold World.cell? at this
    rw [h3'] at this
    simpa using this
  have e1 : cur[j * 2 + 1]? = some (.int .i64 L[j].n) := by
    have := hcc.2
    unfold World.cell? at this
    rw [h3'] at this
    simpa using this
  have hm := List.getElem_mem hj
  refine ⟨_, _, _, _, e0, ⟨(h.rows _ hm).2, (hI.each _ hm).2.2, fun b hb => ?_⟩, e1⟩
  obtain ⟨g1, g2, c2, g3, g4, g5⟩ := (h.rows _ hm).1 b hb
  exact ⟨h.new.2 _ hm b hb, hhi.2 _ hm b hb, g1, g2, g5, c2, g3, g4⟩

theorem blk_cell {w : World} {b k : Nat} {cur : Array Value} {T : TypeId} (h : w.heap[b]? = some (.cells cur T (0, 0))) (hk : k < cur.size) : w.cell? ⟨b, k, none⟩ = some cur[k] ∧ ∀ j, w.frozen? ⟨b, j, none⟩ = false := by
  refine ⟨?_, fun j => ?_⟩
  · unfold World.cell?
    simp only [h]
    simp [hk]
  · unfold World.frozen?
    simp only [h]
    simp

theorem blk_any {w : World} {b k : Nat} {cur : Array Value} {T : TypeId} (h : w.heap[b]? = some (.cells cur T (0, 0))) (hk : k < cur.size) : ∃ u, w.cell? ⟨b, k, none⟩ = some u := ⟨_, (blk_cell h hk).1⟩

set_option maxHeartbeats 2000000 in
theorem spoilI_any (p : Option Addr) (m c : Nat) (v : Int) (lo hi : Nat) (w : World) (h : RowW w lo hi p m c) :
    Calls Try.prog 14 #[.slice p m c, .int .i64 v] w fun e w' => e = .returned (.tuple #[]) ∧ Spl lo hi w w' := by
  have hH : Hid (RowW w lo hi p m c) := h
  have hmc : m ≤ c := h.1
  cases p with
  | none =>
    obtain rfl : c = 0 := h.2.1 rfl
    obtain rfl : m = 0 := by omega
    clear h hmc
    go_enter Try.func14, Try.ntmps14
    go_wp2
    go_loopw [11] (fun i wr => i = .int .i64 0 ∧ wr = w) (fun _ _ => 0)
    case atStart => exact ⟨rfl, rfl⟩
    case round =>
      obtain ⟨rfl, rfl⟩ := hrel
      go_wp2
      go_end0
      exact ⟨rfl, Spl.refl _ _ _⟩
  | some a =>
    obtain ⟨h1, h2, h3, h4, h5, _⟩ := h.2.2 a rfl
    obtain ⟨b, off, spot⟩ := a
    simp only at h1 h2 h3 h4
    subst h3 h4
    have hcz : (c : Int) ≤ 9223372036854775807 := by unfold maxLen at h5; omega
    have hmz : (m : Int) ≤ (c : Int) := by omega
    have hc0 : (0 : Int) ≤ (c : Int) := by omega
    have hb : Hid (lo ≤ b ∧ b < hi) := ⟨h1, h2⟩
    clear h h1 h2 h5
    go_enter Try.func14, Try.ntmps14
    go_wp2
    go_loopw [11] (fun i wr => ∃ k : Nat, k ≤ c ∧ i = .int .i64 k ∧ Spl lo hi w wr) (fun i _ => c - (intOf i).toNat)
    case atStart => exact ⟨0, Nat.zero_le _, rfl, Spl.refl _ _ _⟩
    case round =>
      obtain ⟨k, hk, rfl, hsp⟩ := hrel
      by_cases hlt : k < c
      · have hltz : (k : Int) < (c : Int) := by omega
        obtain ⟨_, _, _, _, _, cur, hcur0, hsz⟩ := (hH.out.spl hsp).2.2 _ rfl
        have hcur : wr.heap[b]? = some (.cells cur 3 (0, 0)) := hcur0
        obtain ⟨u0, e0⟩ := blk_any (k := k) hcur (by omega)
        have ef := (blk_cell (k := k) hcur (by omega)).2
        have hst : Hid (Spl lo hi wr (wr.setCell ⟨b, k, none⟩ (.int .i64 v))) := Spl.setInt hcur hb.out.1 hb.out.2 _
        clear hcur hsz hcur0
        go_wp2
        go_roundw
        case rel => exact ⟨k + 1, by omega, by go_num, hsp.trans hst.out⟩
        case measure => simp [intOf]; omega
      · have hltz : ¬ (k : Int) < (c : Int) := by omega
        go_wp2
        go_end0
        exact ⟨rfl, hsp⟩

set_option maxHeartbeats 2000000 in
theorem spoilT_any (p : Option Addr) (m c : Nat) (lo hi : Nat) (w : World) (h : SetW w lo hi p m c) (hlo : hi ≤ w.heap.size) :
    Calls Try.prog 30 #[.slice p m c, .agg #[.slice none 0 0, .int .i64 9]] w fun e w' => e = .returned (.tuple #[]) ∧ Spl lo hi w w' := by
  have hH : Hid (SetW w lo hi p m c) := h
  have hmc : m ≤ c := h.1
  have hgX : Gr w (w.alloc (.cells #[.slice none 0 0, .int .i64 9] 45)) := (Gr.refl _).alloc _
  cases p with
  | none =>
    obtain rfl : c = 0 := h.2.1 rfl
    obtain rfl : m = 0 := by omega
    clear h hmc
    go_enter Try.func30, Try.ntmps30
    go_wp2
    go_loopw [11] (fun i wr => i = .int .i64 0 ∧ Gr w wr) (fun _ _ => 0)
    case atStart => exact ⟨rfl, hgX⟩
    case round =>
      obtain ⟨rfl, hgr⟩ := hrel
      go_wp2
      go_end0
      exact ⟨rfl, Spl.gr hgr⟩
  | some a =>
    obtain ⟨h1, h2, h3, h4, h5, _⟩ := h.2.2 a rfl
    obtain ⟨b, off, spot⟩ := a
    simp only at h1 h2 h3 h4
    subst h3 h4
    have hcz : (c : Int) ≤ 9223372036854775807 := by unfold maxLen at h5; omega
    have hmz : (m : Int) ≤ (c : Int) := by omega
    have hc0 : (0 : Int) ≤ (c : Int) := by omega
    have hb : Hid (lo ≤ b ∧ b < hi) := ⟨h1, h2⟩
    have x0 := box1 (Gr.refl (w.alloc (.cells #[.slice none 0 0, .int .i64 9] 45))) (j := 0) rfl
    have x1 := box1 (Gr.refl (w.alloc (.cells #[.slice none 0 0, .int .i64 9] 45))) (j := 1) rfl
    clear h h1 h2 h5
    go_enter Try.func30, Try.ntmps30
    go_wp2
    go_loopw [11] (fun i wr => ∃ k : Nat, k ≤ c ∧ i = .int .i64 k ∧ Spl lo hi (w.alloc (.cells #[.slice none 0 0, .int .i64 9] 45)) wr) (fun i _ => c - (intOf i).toNat)
    case atStart => exact ⟨0, Nat.zero_le _, rfl, Spl.refl _ _ _⟩
    case round =>
      obtain ⟨k, hk, rfl, hsp⟩ := hrel
      by_cases hlt : k < c
      · have hltz : (k : Int) < (c : Int) := by omega
        obtain ⟨_, _, _, _, _, cur, hcur0, hsz, _⟩ := ((hH.out.spl (Spl.gr (lo := lo) (hi := hi) hgX)).spl hsp).2.2 _ rfl
        have hcur : wr.heap[b]? = some (.cells cur 45 (0, 0)) := hcur0
        obtain ⟨u0, e0⟩ := blk_any (k := k * 2) hcur (by omega)
        obtain ⟨u1, e1⟩ := blk_any (k := k * 2 + 1) hcur (by omega)
        have ef := (blk_cell (k := k * 2) hcur (by omega)).2
        have hst : Hid (Spl lo hi wr ((wr.setCell ⟨b, k * 2, none⟩ (.slice none 0 0)).setCell ⟨b, k * 2 + 1, none⟩ (.int .i64 9))) := Spl.setItm hcur hb.out.1 hb.out.2
        have hblk : wr.heap[w.heap.size]? = (w.alloc (.cells #[.slice none 0 0, .int .i64 9] 45)).heap[w.heap.size]? := hsp.out w.heap.size (by simp) (Or.inr hlo)
        have y0 : wr.cell? ⟨w.heap.size, 0, none⟩ = some (.slice none 0 0) := (World.cell?_of_block (a := ⟨w.heap.size, 0, none⟩) hblk).trans x0
        have y1 : wr.cell? ⟨w.heap.size, 1, none⟩ = some (.int .i64 9) := (World.cell?_of_block (a := ⟨w.heap.size, 1, none⟩) hblk).trans x1
        clear hcur hsz hblk hcur0
        go_wp2
        go_roundw
        case rel => exact ⟨k + 1, by omega, by go_num, hsp.trans hst.out⟩
        case measure => simp [intOf]; omega
      · have hltz : ¬ (k : Int) < (c : Int) := by omega
        go_wp2
        go_end0
        exact ⟨rfl, (Spl.gr hgX).trans hsp⟩

set_option maxHeartbeats 2000000 in
theorem spoilSet_any (A : Option Addr) (n k lo hi : Nat) (w : World) (h : SetW w lo hi A n k) (hlo : hi ≤ w.heap.size) :
    Calls Try.prog 12 #[.slice A n k] w fun e w' => e = .returned (.tuple #[]) ∧ Spl lo hi w w' := by
  have hH : Hid (SetW w lo hi A n k ∧ hi ≤ w.heap.size) := ⟨h, hlo⟩
  have hnm : n ≤ 9223372036854775807 := by
    have h1 := h.1
    cases A with
    | none => have := h.2.1 rfl; omega
    | some a => have h2 := (h.2.2 a rfl).2.2.2.2.1; unfold maxLen at h2; omega
  clear h hlo
  go_enter Try.func12, Try.ntmps12
  go_wp2
  go_loopw [6] (fun i wr => ∃ j : Nat, j ≤ n ∧ i = .int .i64 j ∧ Spl lo hi w wr) (fun i _ => n - (intOf i).toNat)
  case atStart => exact ⟨0, Nat.zero_le _, rfl, Spl.refl _ _ _⟩
  case round =>
    obtain ⟨j, hj, rfl, hsp⟩ := hrel
    have hS := hH.out.1.spl hsp
    by_cases hlt : j < n
    · have hltz : (j : Int) < (n : Int) := by omega
      cases A with
      | none => have := hS.2.1 rfl; have := hS.1; omega
      | some a =>
        obtain ⟨h1, h2, h3, h4, _, cur, hcur, hsz, hj8⟩ := hS.2.2 a rfl
        obtain ⟨b, off, spot⟩ := a
        simp only at h1 h2 h3 h4 hcur
        subst h3 h4
        obtain ⟨p, m, c, z, e0, hrw, e1⟩ := hj8 j hlt
        have hnk := hS.1
        have f0 : wr.cell? ⟨b, j * 2, none⟩ = some (.slice p m c) := by
          have := (blk_cell (k := j * 2) hcur (by omega)).1
          rw [this, ← e0, Array.getElem?_eq_getElem (by omega)]
        have f1 : wr.cell? ⟨b, j * 2 + 1, none⟩ = some (.int .i64 z) := by
          have := (blk_cell (k := j * 2 + 1) hcur (by omega)).1
          rw [this, ← e1, Array.getElem?_eq_getElem (by omega)]
        have hgX : Gr wr (wr.alloc (.cells #[.slice p m c, .int .i64 z] 45)) := (Gr.refl _).alloc _
        have hsi := spoilI_any p m c 9 lo hi (wr.alloc (.cells #[.slice p m c, .int .i64 z] 45)) (hrw.spl (Spl.gr (lo := lo) (hi := hi) hgX))
        have hsiH : Hid _ := hsi
        clear hsi hcur hsz hj8 e0 e1 hrw hS h1 h2
        go_wp2_with fail
        refine Calls.mono (show Calls _ _ _ _ _ from hsiH.out) ?_
        rintro e w1 ⟨rfl, hs1⟩
        clear hsiH f0 f1
        go_wp2
        go_roundw
        case rel => exact ⟨j + 1, by omega, by go_num, hsp.trans ((Spl.gr hgX).trans hs1)⟩
        case measure => simp [intOf]; omega
    · have hltz : ¬ (j : Int) < (n : Int) := by omega
      have hst := spoilT_any A n k lo hi wr hS (Nat.le_trans hH.out.2 hsp.size)
      have hstH : Hid _ := hst
      clear hst hS
      go_wp2_with fail
      refine Calls.mono (show Calls _ _ _ _ _ from hstH.out) ?_
      rintro e w1 ⟨rfl, hs1⟩
      clear hstH
      go_wp2
      go_end0
      exact ⟨rfl, hsp.trans hs1⟩
end Go.Proofs.Ytgmdjioobidadaa

namespace Go.Proofs.Ytgmdjioobidadaa

theorem cmpI_cases (x y : Int) : (cmpI x y = -1 ∧ x < y) ∨ (cmpI x y = 0 ∧ x = y) ∨ (cmpI x y = 1 ∧ y < x) := by
  unfold cmpI
  by_cases h : x < y
  · rw [if_pos h]; exact Or.inl ⟨rfl, h⟩
  · rw [if_neg h]
    by_cases k : y < x
    · rw [if_pos k]; exact Or.inr (Or.inr ⟨rfl, k⟩)
    · rw [if_neg k]; exact Or.inr (Or.inl ⟨rfl, by omega⟩)
theorem cmpL_flip : ∀ a b : List Int, cmpL b a = -cmpL a b
  | [], [] => rfl
  | [], _ :: _ => rfl
  | _ :: _, [] => rfl
  | x :: a, y :: b => by
    have h1 := cmpI_cases x y
    have h2 := cmpI_cases y x
    show (if cmpI y x = 0 then cmpL b a else cmpI y x) = -(if cmpI x y = 0 then cmpL a b else cmpI x y)
    by_cases e : x = y
    · subst e
      have : cmpI x x = 0 := by omega
      rw [if_pos this, if_pos this]; exact cmpL_flip a b
    · rw [if_neg (by omega), if_neg (by omega)]; omega
theorem cmpL_self : ∀ a : List Int, cmpL a a = 0
  | [] => rfl
  | x :: a => by
    have h1 := cmpI_cases x x
    show (if cmpI x x = 0 then cmpL a a else cmpI x x) = 0
    rw [if_pos (by omega)]; exact cmpL_self a
theorem cmpL_eq : ∀ a b : List Int, cmpL a b = 0 → a = b
  | [], [], _ => rfl
  | [], _ :: _, h => by cases h
  | _ :: _, [], h => by cases h
  | x :: a, y :: b, h => by
    have h1 := cmpI_cases x y
    have h' : (if cmpI x y = 0 then cmpL a b else cmpI x y) = 0 := h
    by_cases e : cmpI x y = 0
    · rw [if_pos e] at h'
      obtain rfl : x = y := by omega
      rw [cmpL_eq a b h']
    · rw [if_neg e] at h'; exact absurd h' e
theorem cmpL_trans : ∀ a b c : List Int, cmpL a b ≤ 0 → cmpL b c ≤ 0 → cmpL a c ≤ 0 ∧ (cmpL a b < 0 ∨ cmpL b c < 0 → cmpL a c < 0)
  | [], b, [], h1, h2 => by
    cases b with
    | nil => exact ⟨by decide, fun h => by rcases h with h | h <;> cases h⟩
    | cons => exact absurd h2 (by show ¬ ((1 : Int) ≤ 0); decide)
  | [], _, _ :: _, _, _ => ⟨by show (-1 : Int) ≤ 0; decide, fun _ => by show (-1 : Int) < 0; decide⟩
  | _ :: _, [], _, h, _ => absurd h (by show ¬ ((1 : Int) ≤ 0); decide)
  | _ :: _, _ :: _, [], _, h => absurd h (by show ¬ ((1 : Int) ≤ 0); decide)
  | x :: a, y :: b, z :: c, h1, h2 => by
    have k1 := cmpI_cases x y
    have k2 := cmpI_cases y z
    have k3 := cmpI_cases x z
    have h1' : (if cmpI x y = 0 then cmpL a b else cmpI x y) ≤ 0 := h1
    have h2' : (if cmpI y z = 0 then cmpL b c else cmpI y z) ≤ 0 := h2
    show (if cmpI x z = 0 then cmpL a c else cmpI x z) ≤ 0 ∧ ((if cmpI x y = 0 then cmpL a b else cmpI x y) < 0 ∨ (if cmpI y z = 0 then cmpL b c else cmpI y z) < 0 → (if cmpI x z = 0 then cmpL a c else cmpI x z) < 0)
    by_cases e1 : cmpI x y = 0
    · rw [if_pos e1] at h1' ⊢
      by_cases e2 : cmpI y z = 0
      · rw [if_pos e2] at h2' ⊢
        rw [if_pos (by omega)]
        exact cmpL_trans a b c h1' h2'
      · rw [if_neg e2] at h2' ⊢
        rw [if_neg (by omega)]
        exact ⟨by omega, fun _ => by omega⟩
    · rw [if_neg e1] at h1' ⊢
      have e3 : cmpI y z = 0 ∨ cmpI y z = -1 := by
        by_cases e2 : cmpI y z = 0
        · exact Or.inl e2
        · rw [if_neg e2] at h2'; omega
      rw [if_neg (by omega)]
      exact ⟨by omega, fun _ => by omega⟩
theorem cmpL_lt_trans {a b c : List Int} (h1 : cmpL a b < 0) (h2 : cmpL b c < 0) : cmpL a c < 0 := (cmpL_trans a b c (by omega) (by omega)).2 (Or.inl h1)
theorem cmpL_ne {a b : List Int} (h : cmpL a b < 0) : a ≠ b := fun e => by rw [e, cmpL_self] at h; omega

/-- How often a row is there in all. -/
def wt : List Zit → List Int → Int
  | [], _ => 0
  | x :: t, r => (if x.1 = r then x.2 else 0) + wt t r
theorem wt_append (a b : List Zit) (r : List Int) : wt (a ++ b) r = wt a r + wt b r := by
  induction a with
  | nil => simp [wt]
  | cons x a ih => simp only [List.cons_append, wt, ih]; omega
theorem wt_perm {a b : List Zit} (h : a.Perm b) (r : List Int) : wt a r = wt b r := by
  induction h with
  | nil => rfl
  | cons x _ ih => simp only [wt, ih]
  | swap x y l => simp only [wt]; omega
  | trans _ _ h1 h2 => rw [h1, h2]
theorem wt_none {l : List Zit} {r : List Int} (h : ∀ x ∈ l, x.1 ≠ r) : wt l r = 0 := by
  induction l with
  | nil => rfl
  | cons x l ih =>
    simp only [wt]
    rw [if_neg (h x (by simp)), ih fun y hy => h y (by simp [hy])]; rfl
theorem wt_some {l : List Zit} {r : List Int} (h : wt l r ≠ 0) : ∃ x ∈ l, x.1 = r := by
  induction l with
  | nil => exact absurd rfl h
  | cons x l ih =>
    by_cases e : x.1 = r
    · exact ⟨x, by simp, e⟩
    · simp only [wt] at h
      rw [if_neg e] at h
      obtain ⟨y, hy, hr⟩ := ih (by omega)
      exact ⟨y, by simp [hy], hr⟩
theorem wt_neg (l : List Zit) (r : List Int) : wt (l.map fun x => (x.1, -x.2)) r = -wt l r := by
  induction l with
  | nil => rfl
  | cons x l ih =>
    simp only [List.map_cons, wt, ih]
    by_cases e : x.1 = r
    · rw [if_pos e, if_pos e]; omega
    · rw [if_neg e, if_neg e]; omega

/-- The rows are in order, each once. -/
def Rise (l : List Zit) : Prop := l.Pairwise fun x y => cmpL x.1 y.1 < 0
/-- No row is there not at all. -/
def NoZ (l : List Zit) : Prop := ∀ x ∈ l, x.2 ≠ 0
theorem Rise.wt {l : List Zit} (h : Rise l) {x : Zit} (hx : x ∈ l) : wt l x.1 = x.2 := by
  induction l with
  | nil => cases hx
  | cons y l ih =>
    have h' := List.pairwise_cons.1 h
    simp only [Go.Proofs.Ytgmdjioobidadaa.wt]
    rcases List.mem_cons.1 hx with e | e
    · subst e
      rw [if_pos rfl, wt_none fun z hz k => cmpL_ne (h'.1 z hz) k.symm]; omega
    · rw [if_neg (cmpL_ne (h'.1 x e)), ih h'.2 e]; omega
theorem riseZ_ext : ∀ {a b : List Zit}, Rise a → Rise b → NoZ a → NoZ b → (∀ r, wt a r = wt b r) → a = b
  | [], [], _, _, _, _, _ => rfl
  | [], y :: b, _, hb, _, nb, h => by
    have h1 := h y.1
    rw [hb.wt (List.mem_cons_self ..)] at h1
    exact absurd h1.symm (nb y (List.mem_cons_self ..))
  | x :: a, [], ha, _, na, _, h => by
    have h1 := h x.1
    rw [ha.wt (List.mem_cons_self ..)] at h1
    exact absurd h1 (na x (List.mem_cons_self ..))
  | x :: a, y :: b, ha, hb, na, nb, h => by
    have ha' := List.pairwise_cons.1 ha
    have hb' := List.pairwise_cons.1 hb
    have hx := h x.1
    have hy := h y.1
    rw [ha.wt (List.mem_cons_self ..)] at hx
    rw [hb.wt (List.mem_cons_self ..)] at hy
    have e : cmpL x.1 y.1 = 0 := by
      by_cases l1 : cmpL x.1 y.1 < 0
      · exfalso
        refine na x (List.mem_cons_self ..) (hx.trans (wt_none fun z hz k => ?_))
        rcases List.mem_cons.1 hz with e | e
        · subst e; exact cmpL_ne l1 k.symm
        · exact cmpL_ne (cmpL_lt_trans l1 (hb'.1 z e)) k.symm
      · by_cases l2 : cmpL y.1 x.1 < 0
        · exfalso
          refine nb y (List.mem_cons_self ..) (hy.symm.trans (wt_none fun z hz k => ?_))
          rcases List.mem_cons.1 hz with e | e
          · subst e; exact cmpL_ne l2 k.symm
          · exact cmpL_ne (cmpL_lt_trans l2 (ha'.1 z e)) k.symm
        · have := cmpL_flip x.1 y.1; omega
    have e1 := cmpL_eq _ _ e
    have e2 : x.2 = y.2 := by rw [hx, e1, hb.wt (List.mem_cons_self ..)]
    obtain rfl : x = y := Prod.ext e1 e2
    rw [riseZ_ext ha'.2 hb'.2 (fun z hz => na z (List.mem_cons_of_mem _ hz)) (fun z hz => nb z (List.mem_cons_of_mem _ hz)) fun r => by
      have := h r
      simp only [Go.Proofs.Ytgmdjioobidadaa.wt] at this
      omega]

theorem getZ_lt {l : List Zit} {k : Nat} (h : k < l.length) : l.getD k ([], 0) = l[k] := by
  rw [List.getD_eq_getElem?_getD, List.getElem?_eq_getElem h]; rfl
/-- What Check takes. -/
theorem errZ_iff (l : List Zit) : errZ l = 0 ↔ l.length ≤ 400 ∧ (∀ x ∈ l, okZ x = true) ∧ Rise l := by
  unfold errZ
  by_cases h4 : 400 < l.length
  · rw [if_pos h4]
    exact ⟨fun h => absurd h (by decide), fun h => absurd h.1 (by omega)⟩
  · rw [if_neg h4]
    constructor
    · intro h
      have hall : ∀ k, k < l.length → okZ (l.getD k ([], 0)) = true ∧ incZ l k = true := by
        intro k hk
        have : (okZ (l.getD k ([], 0)) && incZ l k) = true := by
          cases e : (okZ (l.getD k ([], 0)) && incZ l k)
          · rw [if_pos ⟨k, hk, e⟩] at h; cases h
          · rfl
        simpa using this
      have hstep : ∀ k (h : k + 1 < l.length), cmpL l[k].1 l[k + 1].1 < 0 := by
        intro k hk
        have := (hall (k + 1) hk).2
        unfold incZ at this
        rw [Nat.add_sub_cancel, getZ_lt hk, getZ_lt (show k < l.length by omega)] at this
        simpa using this
      refine ⟨by omega, ?_, ?_⟩
      · intro x hx
        obtain ⟨k, hk, rfl⟩ := List.mem_iff_getElem.1 hx
        have := (hall k hk).1
        rwa [getZ_lt hk] at this
      · have : ∀ d i (hi : i + d + 1 < l.length), cmpL (l[i]'(by omega)).1 (l[i + d + 1]'hi).1 < 0 := by
          intro d
          induction d with
          | zero => intro i hi; exact hstep i hi
          | succ d ih => intro i hi; exact cmpL_lt_trans (ih i (by omega)) (hstep (i + d + 1) hi)
        unfold Rise
        rw [List.pairwise_iff_getElem]
        intro i j hi hj hij
        have h' := this (j - i - 1) i (by omega)
        have e : i + (j - i - 1) + 1 = j := by omega
        simpa only [e] using h'
    · rintro ⟨_, h1, h2⟩
      rw [if_neg]
      rintro ⟨k, hk, hf⟩
      have h3 : okZ (l.getD k ([], 0)) = true := by rw [getZ_lt hk]; exact h1 _ (List.getElem_mem hk)
      have h5 : incZ l k = true := by
        unfold incZ
        by_cases e : k = 0
        · simp [e]
        · rw [getZ_lt hk, getZ_lt (show k - 1 < l.length by omega)]
          have := (List.pairwise_iff_getElem.1 h2) (k - 1) k (by omega) hk (by omega)
          simp [this]
      rw [h3, h5] at hf; cases hf

/-- Is a row there too often? -/
def BadT (l : List Zit) : Prop := ∃ r, okW (wt l r) = false
/-- S is the set in which each row is as often as in l. -/
structure IsTot (l S : List Zit) : Prop where
  rise : Rise S
  noz : NoZ S
  same : ∀ r, wt S r = wt l r
theorem IsTot.uniq {l m S T : List Zit} (h : IsTot l S) (k : IsTot m T) (e : ∀ r, wt l r = wt m r) : S = T := riseZ_ext h.rise k.rise h.noz k.noz fun r => by rw [h.same, k.same, e]
theorem okZ_noz {l : List Zit} (h : ∀ x ∈ l, okZ x = true) : NoZ l := fun x hx => by
  have := h x hx
  unfold okZ at this
  simp at this
  exact this.2
theorem IsTot.row {l S : List Zit} (h : IsTot l S) {x : Zit} (hx : x ∈ S) : ∃ y ∈ l, y.1 = x.1 := wt_some (by rw [← h.same, h.rise.wt hx]; exact h.noz x hx)
/-- Such a set is right, if it has room. -/
theorem IsTot.okZ {l S : List Zit} (h : IsTot l S) (hb : ¬ BadT l) (hr : ∀ x ∈ l, okR x.1 = true) : ∀ x ∈ S, okZ x = true := by
  intro x hx
  obtain ⟨y, hy, e⟩ := h.row hx
  have h1 := hr y hy
  have h2 : okW x.2 = true := by
    cases e2 : okW x.2
    · exact absurd ⟨x.1, by rw [← h.same, h.rise.wt hx]; exact e2⟩ hb
    · rfl
  unfold Go.Proofs.Ytgmdjioobidadaa.okZ
  rw [← e, h1, h2]
  simp [h.noz x hx]
theorem okZ_parts {x : Zit} (h : okZ x = true) : okR x.1 = true ∧ okW x.2 = true ∧ x.2 ≠ 0 := by
  unfold okZ at h
  simp only [Bool.and_eq_true, decide_eq_true_eq] at h
  exact ⟨h.1.1, h.1.2, h.2⟩
theorem okW_neg (n : Int) : okW (-n) = okW n := by
  unfold okW inB
  rw [Bool.eq_iff_iff]
  simp only [Bool.and_eq_true, decide_eq_true_eq]
  omega
theorem negL_ok {l : List Zit} (h : errZ l = 0) : errZ (l.map fun x => (x.1, -x.2)) = 0 := by
  rw [errZ_iff] at h ⊢
  refine ⟨by simpa using h.1, ?_, ?_⟩
  · intro x hx
    obtain ⟨y, hy, rfl⟩ := List.mem_map.1 hx
    have := okZ_parts (h.2.1 y hy)
    unfold okZ
    simp only [Bool.and_eq_true, decide_eq_true_eq]
    exact ⟨⟨this.1, by rw [okW_neg]; exact this.2.1⟩, by omega⟩
  · unfold Rise
    rw [List.pairwise_map]
    exact h.2.2

end Go.Proofs.Ytgmdjioobidadaa
