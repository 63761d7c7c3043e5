/-
  Lists in memory, of elements of k cells each: read, or of the call's own.
-/

import Derived.Test.YtoodkgmpggabdaaDoorBase
import Derived.Deep.AppendLies
import Derived.Deep.RegionLaw
import Derived.Laws.AppendOwnNone
import Derived.Maps.AppendAt
namespace Go.Proofs.YtoodkgmpggabdaaDoor
open Go.RowKit Go.Sort

/-- The cells of a list. -/
def flatG {α : Type} (enc : α → List Value) (l : List α) : List Value := l.flatMap enc

theorem flatG_length {α : Type} {enc : α → List Value} {k : Nat} (hk : ∀ x, (enc x).length = k) (l : List α) : (flatG enc l).length = l.length * k := by
  induction l with
  | nil => simp [flatG]
  | cons x l ih =>
    simp only [flatG, List.flatMap_cons, List.length_append, List.length_cons] at ih ⊢
    rw [ih, hk, Nat.add_mul, Nat.one_mul, Nat.add_comm]
theorem flatG_append {α : Type} (enc : α → List Value) (l m : List α) : flatG enc (l ++ m) = flatG enc l ++ flatG enc m := by simp [flatG, List.flatMap_append]
theorem flatG_one {α : Type} {enc : α → List Value} (h1 : ∀ x, ∀ u ∈ enc x, u.oneCell' = true) (u : Value) (l : List α) (h : u ∈ flatG enc l) : u.oneCell' = true := by
  simp only [flatG, List.mem_flatMap] at h
  obtain ⟨x, _, hx⟩ := h
  exact h1 x u hx
theorem flatG_get {α : Type} {enc : α → List Value} {k : Nat} (hk : ∀ x, (enc x).length = k) (l : List α) : ∀ j (h : j < l.length) i, i < k → (flatG enc l)[j * k + i]? = (enc l[j])[i]? := by
  induction l with
  | nil => intro j h; exact absurd h (Nat.not_lt_zero _)
  | cons x l ih =>
    intro j h i hi
    have e : flatG enc (x :: l) = enc x ++ flatG enc l := rfl
    rw [e]
    cases j with
    | zero => rw [Nat.zero_mul, Nat.zero_add, List.getElem?_append_left (by rw [hk]; exact hi)]; rfl
    | succ j =>
      rw [List.getElem?_append_right (by rw [hk, Nat.add_mul]; omega), hk, show (j + 1) * k + i - k = j * k + i from by rw [Nat.add_mul]; omega]
      simpa using ih j (by simpa using h) i hi
theorem flatG_got {α : Type} {enc : α → List Value} {k : Nat} (hk : ∀ x, (enc x).length = k) (h0 : 0 < k) (l : List α) {j : Nat} {u : Value} (h : (flatG enc l)[j]? = some u) : ∃ m, ∃ hm : m < l.length, ∃ i, i < k ∧ j = m * k + i ∧ (enc l[m])[i]? = some u := by
  have hj : j < (flatG enc l).length := (List.getElem?_eq_some_iff.1 h).1
  rw [flatG_length hk] at hj
  have hm : j / k < l.length := Nat.div_lt_of_lt_mul (by rw [Nat.mul_comm]; exact hj)
  have e : j = j / k * k + j % k := by rw [Nat.mul_comm]; exact (Nat.div_add_mod j k).symm
  refine ⟨j / k, hm, j % k, Nat.mod_lt _ h0, e, ?_⟩
  rw [← flatG_get hk l (j / k) hm (j % k) (Nat.mod_lt _ h0), ← e]
  exact h

/-- The slice at A reads as the list l. -/
def RowG {α : Type} (enc : α → List Value) (k : Nat) (w : World) (A : Option Addr) (l : List α) : Prop :=
  l = [] ∨ ∃ b off, A = some ⟨b, off, none⟩ ∧ b < w.heap.size ∧ ∀ j (h : j < l.length) i, i < k → w.cell? ⟨b, off + j * k + i, none⟩ = (enc l[j])[i]?

theorem RowG.belowB {α : Type} {enc : α → List Value} {k : Nat} {w w' : World} {A : Option Addr} {l : List α} {B : Nat} (h : RowG enc k w A l) (hA : ∀ a, A = some a → l ≠ [] → a.block < B) (q : Below B w w') : RowG enc k w' A l := by
  rcases h with h | ⟨b, off, rfl, hb, hc⟩
  · exact Or.inl h
  · by_cases h0 : l = []
    · exact Or.inl h0
    have hbB := hA _ rfl h0
    exact Or.inr ⟨b, off, rfl, Nat.lt_of_lt_of_le hb q.size, fun j hj i hi => (q.cell (p := ⟨b, off + j * k + i, none⟩) hbB).trans (hc j hj i hi)⟩
theorem RowG.lt {α : Type} {enc : α → List Value} {k : Nat} {w : World} {A : Option Addr} {l : List α} (h : RowG enc k w A l) : ∀ a, A = some a → l ≠ [] → a.block < w.heap.size := by
  rcases h with h | ⟨b, off, rfl, hb, _⟩
  · intro a _ h0; exact absurd h h0
  · intro a ha _; cases ha; exact hb
theorem RowG.below {α : Type} {enc : α → List Value} {k : Nat} {w w' : World} {A : Option Addr} {l : List α} (h : RowG enc k w A l) (q : Below w.heap.size w w') : RowG enc k w' A l := h.belowB h.lt q
theorem RowG.gr {α : Type} {enc : α → List Value} {k : Nat} {w w' : World} {A : Option Addr} {l : List α} (h : RowG enc k w A l) (q : Gr w w') : RowG enc k w' A l := h.below q.below
theorem RowG.at {α : Type} {enc : α → List Value} {k : Nat} {w : World} {A : Option Addr} {l : List α} (h : RowG enc k w A l) {m : Nat} (hm : m < l.length) : ∃ b off, A = some ⟨b, off, none⟩ ∧ b < w.heap.size ∧ ∀ j (h : j < l.length) i, i < k → w.cell? ⟨b, off + j * k + i, none⟩ = (enc l[j])[i]? := by
  rcases h with h0 | h
  · exact absurd hm (by simp [h0])
  · exact h
theorem RowG.cells {α : Type} {enc : α → List Value} {k : Nat} (hk : ∀ x, (enc x).length = k) (h0 : 0 < k) {w : World} {ad : Addr} {l : List α} (h : RowG enc k w (some ad) l) : ∀ j u, (flatG enc l)[j]? = some u → w.cell? (ad.add j) = some u := by
  intro j u hu
  obtain ⟨m, hm, i, hi, rfl, hc⟩ := flatG_got hk h0 l hu
  rcases h with h1 | ⟨b, off, hA, _, hcs⟩
  · subst h1; exact absurd hm (Nat.not_lt_zero _)
  · obtain rfl := Option.some.inj hA
    rw [Addr.add_lit]
    have := hcs m hm i hi
    rw [hc, show off + m * k + i = off + (m * k + i) from by omega] at this
    exact this

/-- The value v owns the list l, from block 'base' on. -/
def OwnG {α : Type} (enc : α → List Value) (k : Nat) (e : TypeId) (w : World) (base : Nat) (v : Value) (l : List α) : Prop := w.ownsRow base e k v l.length (flatG enc l)

theorem OwnG.nil {α : Type} (enc : α → List Value) (k : Nat) (e : TypeId) (w : World) (base : Nat) : OwnG enc k e w base (.slice none 0 0) [] := World.ownsRow_nil w base _ _

theorem OwnG.full {α : Type} {enc : α → List Value} {k : Nat} {e : TypeId} (hk : ∀ x, (enc x).length = k) {w : World} {base : Nat} {v : Value} {l : List α} (h : OwnG enc k e w base v l) : ∃ A cap, v = .slice A l.length cap ∧ (A = none → cap = 0) ∧ RowG enc k w A l ∧ l.length ≤ cap ∧ (∀ a, A = some a → base ≤ a.block ∧ a.block < w.heap.size ∧ a.off = 0 ∧ a.spot = none) ∧ (∀ a, A = some a → ∀ j, w.frozen? ⟨a.block, j, none⟩ = false) := by
  rcases h.2 with ⟨hv, hn⟩ | ⟨g, cap, cur, hv, hb, hg, hle, _, _, _⟩
  · refine ⟨none, 0, ?_, fun _ => rfl, Or.inl (List.eq_nil_of_length_eq_zero hn), by omega, fun a ha => (by cases ha), fun a ha => (by cases ha)⟩
    rw [hv, hn]
  · have hlt : g < w.heap.size := (Array.getElem?_eq_some_iff.1 hg).1
    refine ⟨some ⟨g, 0, none⟩, cap, hv, fun h => (by cases h), Or.inr ⟨g, 0, rfl, hlt, fun j hj i hi => ?_⟩, hle, fun a ha => (by cases ha; exact ⟨hb, hlt, rfl, rfl⟩), fun a ha j => ?_⟩
    · have hc := h.cells (g := g) (by rw [hv]; rfl)
      have e1 := flatG_get hk l j hj i hi
      have hin : i < (enc l[j]).length := by rw [hk]; exact hi
      rw [List.getElem?_eq_getElem hin] at e1 ⊢
      have c0 := hc _ _ e1
      rw [Addr.add_lit] at c0
      rw [show 0 + j * k + i = 0 + (j * k + i) from by omega]
      exact c0
    · cases ha
      exact World.ownsRow.frozenAt (by rw [← hv]; exact h) (g := g) (cap := cap) j
theorem OwnG.row {α : Type} {enc : α → List Value} {k : Nat} {e : TypeId} (hk : ∀ x, (enc x).length = k) {w : World} {base : Nat} {v : Value} {l : List α} (h : OwnG enc k e w base v l) : ∃ A cap, v = .slice A l.length cap ∧ (A = none → cap = 0) ∧ RowG enc k w A l ∧ (∀ a, A = some a → base ≤ a.block ∧ a.block < w.heap.size) := by
  obtain ⟨A, cap, h1, h2, h3, _, h5, _⟩ := OwnG.full hk h
  exact ⟨A, cap, h1, h2, h3, fun a ha => ⟨(h5 a ha).1, (h5 a ha).2.1⟩⟩

theorem OwnG.below {α : Type} {enc : α → List Value} {k : Nat} {e : TypeId} {w w' : World} {base : Nat} {v : Value} {l : List α} (h : OwnG enc k e w base v l) (q : Below w.heap.size w w') : OwnG enc k e w' base v l :=
  World.ownsRow.kept h (row := none) ⟨q.os, q.tape, q.output, q.size, fun j hj _ => q.block j hj⟩ (by cases v.ownBlock <;> simp)
theorem OwnG.gr {α : Type} {enc : α → List Value} {k : Nat} {e : TypeId} {w w' : World} {base : Nat} {v : Value} {l : List α} (h : OwnG enc k e w base v l) (q : Gr w w') : OwnG enc k e w' base v l := h.below q.below
theorem OwnG.mono {α : Type} {enc : α → List Value} {k : Nat} {e : TypeId} {w : World} {base base' : Nat} {v : Value} {l : List α} (h : OwnG enc k e w base v l) (hb : base' ≤ base) : OwnG enc k e w base' v l := by
  refine ⟨h.1, ?_⟩
  rcases h.2 with h1 | ⟨g, cap, cur, hv, hg, rest⟩
  · exact .inl h1
  · exact .inr ⟨g, cap, cur, hv, by omega, rest⟩
theorem OwnG.grown_below {α : Type} {enc : α → List Value} {k : Nat} {e : TypeId} {w w' : World} {base : Nat} {v : Value} {l : List α} (h : OwnG enc k e w base v l) (hg : w.grownBy w' v.ownBlock) (hb : base ≤ w.heap.size) : Below base w w' :=
  (Below.refl base w).grown hg hb fun j ej => (World.ownsRow.lt h j ej).1

/-- append(v, m...): whatever m is. -/
theorem run_append_g {α : Type} {enc : α → List Value} {k : Nat} {e : TypeId} (hk : ∀ x, (enc x).length = k) (h1 : ∀ x, ∀ u ∈ enc x, u.oneCell' = true) (h0 : 0 < k)
    (t : TypeId) (ht : Tryd.prog.underlying t = some (.slice e)) (z : Value) (bytes : Nat) (hi : (Tryd.prog.info? e).map (fun i => (i.zero, i.size, i.bytes)) = some (some z, k, bytes)) (hzs : z.cells.size = k)
    (w : World) (ty : TypeId) (base : Nat) (v : Value) (l m : List α) (A : Option Addr) (cap : Nat) (hown : OwnG enc k e w base v l) (hr : RowG enc k w A m) (hA : A = none → cap = 0)
    (hml : l.length + m.length ≤ maxLen) (hb : (l.length + m.length) * bytes ≤ 140737488355328) (hbase : base ≤ w.heap.size) :
    ∃ v' w', (Builtin.append_ #[t, t] ty #[v, .slice A m.length cap]).run Tryd.prog w = .ok v' w' ∧ OwnG enc k e w' base v' (l ++ m) ∧ w.grownBy w' v.ownBlock := by
  obtain ⟨i0, hi, hz0, hz1, hz2⟩ := info_parts hi
  cases A with
  | none =>
    obtain rfl := hA rfl
    have hm : m = [] := by
      rcases hr with h | ⟨_, _, h, _⟩
      · exact h
      · cases h
    subst hm
    have := run_append_owned_none (P := Tryd.prog) (w := w) base t ty e i0 k ht hi v l.length (flatG enc l) hown
    exact ⟨v, w, this, by rw [List.append_nil]; exact hown, ⟨rfl, rfl, rfl, Nat.le_refl _, fun _ _ _ => rfl⟩⟩
  | some ad =>
    obtain ⟨v', w', g1, g2, g3, _, _⟩ := run_append_own_at (P := Tryd.prog) w base t ty e i0 z k bytes ht hi hz0 hz1 hz2 hzs h0 v l.length (flatG enc l) hown ad m.length cap (flatG enc m) (flatG_length hk m) (hr.cells hk h0) (fun u hu => flatG_one h1 u m hu) hml hb hbase
    refine ⟨v', w', g1, ?_, g3⟩
    show w'.ownsRow base _ k v' (l ++ m).length (flatG enc (l ++ m))
    rw [List.length_append, flatG_append]
    exact g2

theorem wp_append_g {α : Type} {enc : α → List Value} {k : Nat} {e : TypeId} (hk : ∀ x, (enc x).length = k) (h1 : ∀ x, ∀ u ∈ enc x, u.oneCell' = true) (h0 : 0 < k)
    (t : TypeId) (ht : Tryd.prog.underlying t = some (.slice e)) (z : Value) (bytes : Nat) (hi : (Tryd.prog.info? e).map (fun i => (i.zero, i.size, i.bytes)) = some (some z, k, bytes)) (hzs : z.cells.size = k)
    (w : World) {o : Oper} {a : Act} {K : Act → World → Prop} {Q : Exit → Act → World → Prop} (s x : Operand)
    (ho : o.op = .call { callee := .builtin .append, args := #[s, x], argTypes := #[t, t] })
    (base : Nat) (v : Value) (l m : List α) (A : Option Addr) (cap : Nat) (hs : a.eval s = v) (hx : a.eval x = .slice A m.length cap) (hown : OwnG enc k e w base v l) (hr : RowG enc k w A m) (hA : A = none → cap = 0)
    (hml : l.length + m.length ≤ maxLen) (hb : (l.length + m.length) * bytes ≤ 140737488355328) (hbase : base ≤ w.heap.size)
    (h : ∀ v' w', OwnG enc k e w' base v' (l ++ m) → w.grownBy w' v.ownBlock → K (a.put o.dst v') w') : o.wp Tryd.prog a w K Q := by
  obtain ⟨v', w', hr, h2, h3⟩ := run_append_g hk h1 h0 t ht z bytes hi hzs w o.type base v l m A cap hown hr hA hml hb hbase
  unfold Oper.wp execOp
  simp only [ho, resolve, invoke, builtin, Sem.run_bind, Sem.run_pure, Result.andThen_ok, List.map_toArray, List.map_cons, List.map_nil, hs, hx, hr]
  exact h v' w' h2 h3

theorem RowG.take {α : Type} {enc : α → List Value} {k : Nat} {w : World} {A : Option Addr} {l : List α} (h : RowG enc k w A l) (m : Nat) : RowG enc k w A (l.take m) := by
  rcases h with h | ⟨b, off, hA, hb, hc⟩
  · exact Or.inl (by rw [h]; simp)
  · exact Or.inr ⟨b, off, hA, hb, fun j hj i hi => by
      have hj' : j < l.length := by rw [List.length_take] at hj; omega
      rw [List.getElem_take]
      exact hc j hj' i hi⟩

theorem below_none {w w' : World} (hg : w.grownBy w' (Value.slice none 0 0).ownBlock) : Below w.heap.size w w' := (Below.refl _ _).grown hg (Nat.le_refl _) (fun k e => by cases e)
end Go.Proofs.YtoodkgmpggabdaaDoor
