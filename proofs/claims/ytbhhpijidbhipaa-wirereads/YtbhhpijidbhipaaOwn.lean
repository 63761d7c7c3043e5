/-
  Lists of dots in memory of the call's own, and what append makes of them.
-/
import Derived.Test.YtbhhpijidbhipaaBase
import Derived.Deep.AppendLies
import Derived.Deep.RegionLaw
import Derived.Laws.AppendOwnNone
import Derived.Maps.AppendAt
namespace Go.Proofs.Ytbhhpijidbhipaa
open Go.RowKit Go.Sort

theorem Try.info51 : (Try.prog.info? 51).map (fun i => (i.zero, i.size, i.bytes)) = some (some (.agg #[.int .i64 0, .int .i64 0]), 2, 16) := by kernel_rfl

/-- The cells of a list of dots. -/
def flat (l : List (Int × Int)) : List Value := l.flatMap fun x => [.int .i64 x.1, .int .i64 x.2]

theorem flat_length (l : List (Int × Int)) : (flat l).length = l.length * 2 := by
  induction l with
  | nil => rfl
  | cons x l ih => simp only [flat, List.flatMap_cons, List.length_append] at ih ⊢; rw [ih]; simp; omega
theorem flat_append (l m : List (Int × Int)) : flat (l ++ m) = flat l ++ flat m := by simp [flat, List.flatMap_append]
theorem flat_one (u : Value) (l : List (Int × Int)) (h : u ∈ flat l) : u.oneCell' = true := by
  simp only [flat, List.mem_flatMap] at h
  obtain ⟨x, _, hx⟩ := h
  simp only [List.mem_cons, List.not_mem_nil, or_false] at hx
  rcases hx with rfl | rfl <;> rfl
theorem flat_get (l : List (Int × Int)) : ∀ j (h : j < l.length), (flat l)[j * 2]? = some (.int .i64 l[j].1) ∧ (flat l)[j * 2 + 1]? = some (.int .i64 l[j].2) := by
  induction l with
  | nil => intro j h; exact absurd h (Nat.not_lt_zero _)
  | cons x l ih =>
    intro j h
    have e : flat (x :: l) = .int .i64 x.1 :: .int .i64 x.2 :: flat l := rfl
    cases j with
    | zero => rw [e]; exact ⟨rfl, rfl⟩
    | succ j =>
      have := ih j (by simpa using h)
      rw [e, show (j + 1) * 2 = j * 2 + 1 + 1 from by omega]
      simpa using this
theorem flat_got (l : List (Int × Int)) {j : Nat} {u : Value} (h : (flat l)[j]? = some u) : ∃ k, ∃ hk : k < l.length, (j = k * 2 ∧ u = .int .i64 l[k].1) ∨ (j = k * 2 + 1 ∧ u = .int .i64 l[k].2) := by
  have hj : j < (flat l).length := (List.getElem?_eq_some_iff.1 h).1
  rw [flat_length] at hj
  have hk : j / 2 < l.length := by omega
  refine ⟨j / 2, hk, ?_⟩
  have := flat_get l (j / 2) hk
  by_cases he : j % 2 = 0
  · left
    have e : j / 2 * 2 = j := by omega
    rw [e, h] at this
    exact ⟨e.symm, Option.some.inj this.1⟩
  · right
    have e : j / 2 * 2 + 1 = j := by omega
    rw [e, h] at this
    exact ⟨e.symm, Option.some.inj this.2⟩

theorem Row.cells {w : World} {ad : Addr} {l : List (Int × Int)} (h : Row w (some ad) l) : ∀ j u, (flat l)[j]? = some u → w.cell? (ad.add j) = some u := by
  intro j u hu
  obtain ⟨k, hk, hc⟩ := flat_got l hu
  rcases h with h0 | ⟨b, off, hA, _, hcs⟩
  · subst h0; exact absurd hk (Nat.not_lt_zero _)
  · obtain rfl := Option.some.inj hA
    rw [Addr.add_lit]
    rcases hc with ⟨rfl, rfl⟩ | ⟨rfl, rfl⟩
    · exact (hcs k hk).1
    · exact (hcs k hk).2

/-- The value v owns the dots l, from block 'base' on. -/
def Own (w : World) (base : Nat) (v : Value) (l : List (Int × Int)) : Prop := w.ownsRow base 51 2 v l.length (flat l)

theorem Own.nil (w : World) (base : Nat) : Own w base (.slice none 0 0) [] := World.ownsRow_nil w base _ _

theorem Own.row {w : World} {base : Nat} {v : Value} {l : List (Int × Int)} (h : Own w base v l) : ∃ A cap, v = .slice A l.length cap ∧ (A = none → cap = 0) ∧ Row w A l ∧ (∀ a, A = some a → base ≤ a.block ∧ a.block < w.heap.size) := by
  rcases h.2 with ⟨hv, hn⟩ | ⟨g, cap, cur, hv, hb, hg, _, _, _, _⟩
  · refine ⟨none, 0, ?_, fun _ => rfl, Or.inl (List.eq_nil_of_length_eq_zero hn), fun a ha => by cases ha⟩
    rw [hv, hn]
  · have hlt : g < w.heap.size := (Array.getElem?_eq_some_iff.1 hg).1
    refine ⟨some ⟨g, 0, none⟩, cap, hv, fun h => (by cases h), Or.inr ⟨g, 0, rfl, hlt, fun j hj => ?_⟩, fun a ha => by cases ha; exact ⟨hb, hlt⟩⟩
    have hc := h.cells (g := g) (by rw [hv]; rfl)
    have e := flat_get l j hj
    have c0 := hc _ _ e.1
    have c1 := hc _ _ e.2
    rw [Addr.add_lit] at c0 c1
    exact ⟨c0, c1⟩

theorem Own.full {w : World} {base : Nat} {v : Value} {l : List (Int × Int)} (h : Own w base v l) : ∃ A cap, v = .slice A l.length cap ∧ (A = none → cap = 0) ∧ Row w A l ∧ l.length ≤ cap ∧ (∀ a, A = some a → base ≤ a.block ∧ a.block < w.heap.size ∧ v.ownBlock = some a.block ∧ a.spot = none) := by
  obtain ⟨A, cap, hv, hA, hr, hb⟩ := h.row
  refine ⟨A, cap, hv, hA, hr, ?_, fun a ha => ⟨(hb a ha).1, (hb a ha).2, by rw [hv, ha]; rfl, ?_⟩⟩
  · rcases h.2 with ⟨h0, hn⟩ | ⟨g, cap', cur, hv', _, _, hn, _⟩
    · omega
    · rw [hv] at hv'
      injection hv' with _ _ h3
      omega
  · rcases h.2 with ⟨h0, hn⟩ | ⟨g, cap', cur, hv', _, _, hn, _⟩
    · rw [hv, ha] at h0
      injection h0 with h1
      cases h1
    · rw [hv, ha] at hv'
      injection hv' with h1
      injection h1 with h1
      rw [h1]

theorem Own.below {w w' : World} {base : Nat} {v : Value} {l : List (Int × Int)} (h : Own w base v l) (k : Below w.heap.size w w') : Own w' base v l :=
  h.kept (row := none) ⟨k.os, k.tape, k.output, k.size, fun j hj _ => k.block j hj⟩ (by cases v.ownBlock <;> simp)
theorem Own.gr {w w' : World} {base : Nat} {v : Value} {l : List (Int × Int)} (h : Own w base v l) (k : Gr w w') : Own w' base v l := h.below k.below
theorem Own.setCell {w : World} {base : Nat} {v : Value} {l : List (Int × Int)} (h : Own w base v l) {a : Addr} (ha : a.block < base) (u : Value) : Own (w.setCell a u) base v l := ownsRow_setCell_below h ha u
theorem Own.mono {w : World} {base base' : Nat} {v : Value} {l : List (Int × Int)} (h : Own w base v l) (hb : base' ≤ base) : Own w base' v l := by
  refine ⟨h.1, ?_⟩
  rcases h.2 with h1 | ⟨g, cap, cur, hv, hg, rest⟩
  · exact .inl h1
  · exact .inr ⟨g, cap, cur, hv, by omega, rest⟩

theorem Own.grown_below {w w' : World} {base : Nat} {v : Value} {l : List (Int × Int)} (h : Own w base v l) (hg : w.grownBy w' v.ownBlock) (hb : base ≤ w.heap.size) : Below base w w' :=
  (Below.refl base w).grown hg hb fun k e => (h.lt k e).1
theorem Row.belowB {w w' : World} {A : Option Addr} {l : List (Int × Int)} {B : Nat} (h : Row w A l) (hA : ∀ a, A = some a → l ≠ [] → a.block < B) (k : Below B w w') : Row w' A l := by
  rcases h with h | ⟨b, off, rfl, hb, hc⟩
  · exact Or.inl h
  · by_cases h0 : l = []
    · exact Or.inl h0
    have hbB := hA _ rfl h0
    exact Or.inr ⟨b, off, rfl, Nat.lt_of_lt_of_le hb k.size, fun j hj => ⟨(k.cell (p := ⟨b, off + j * 2, none⟩) hbB).trans (hc j hj).1, (k.cell (p := ⟨b, off + j * 2 + 1, none⟩) hbB).trans (hc j hj).2⟩⟩
theorem Row.lt {w : World} {A : Option Addr} {l : List (Int × Int)} (h : Row w A l) : ∀ a, A = some a → l ≠ [] → a.block < w.heap.size := by
  rcases h with h | ⟨b, off, rfl, hb, _⟩
  · intro a _ h0; exact absurd h h0
  · intro a ha _; cases ha; exact hb

/-- append(v, m...): whatever m is. -/
theorem run_append_dots (w : World) (ty : TypeId) (base : Nat) (v : Value) (l m : List (Int × Int)) (A : Option Addr) (cap : Nat) (hown : Own w base v l) (hr : Row w A m) (hA : A = none → cap = 0)
    (hb : (l.length + m.length) * 16 ≤ 140737488355328) (hbase : base ≤ w.heap.size) :
    ∃ v' w', (Builtin.append_ #[23, 23] ty #[v, .slice A m.length cap]).run Try.prog w = .ok v' w' ∧ Own w' base v' (l ++ m) ∧ w.grownBy w' v.ownBlock ∧ (v'.ownBlock = v.ownBlock ∨ v'.ownBlock = some w.heap.size) := by
  obtain ⟨i0, hi, hz0, hz1, hz2⟩ := info_parts Try.info51
  cases A with
  | none =>
    obtain rfl := hA rfl
    have hm : m = [] := by
      rcases hr with h | ⟨_, _, h, _⟩
      · exact h
      · cases h
    subst hm
    have := run_append_owned_none (P := Try.prog) (w := w) base 23 ty 51 i0 2 Try.underlying23 hi v l.length (flat l) hown
    exact ⟨v, w, this, by rw [List.append_nil]; exact hown, ⟨rfl, rfl, rfl, Nat.le_refl _, fun _ _ _ => rfl⟩, Or.inl rfl⟩
  | some ad =>
    obtain ⟨v', w', h1, h2, h3, _, h5⟩ := run_append_own_at (P := Try.prog) w base 23 ty 51 i0 _ 2 16 Try.underlying23 hi hz0 hz1 hz2 rfl (by omega) v l.length (flat l) hown ad m.length cap (flat m) (flat_length m) hr.cells (fun u hu => flat_one u m hu) (by unfold maxLen; omega) hb hbase
    refine ⟨v', w', h1, ?_, h3, h5⟩
    show w'.ownsRow base _ 2 v' (l ++ m).length (flat (l ++ m))
    rw [List.length_append, flat_append]
    exact h2

theorem wp_append_dots (w : World) {o : Oper} {a : Act} {K : Act → World → Prop} {Q : Exit → Act → World → Prop} (s x : Operand)
    (ho : o.op = .call { callee := .builtin .append, args := #[s, x], argTypes := #[23, 23] })
    (base : Nat) (v : Value) (l m : List (Int × Int)) (A : Option Addr) (cap : Nat) (hs : a.eval s = v) (hx : a.eval x = .slice A m.length cap) (hown : Own w base v l) (hr : Row w A m) (hA : A = none → cap = 0)
    (hb : (l.length + m.length) * 16 ≤ 140737488355328) (hbase : base ≤ w.heap.size)
    (h : ∀ v' w', Own w' base v' (l ++ m) → w.grownBy w' v.ownBlock → (v'.ownBlock = v.ownBlock ∨ v'.ownBlock = some w.heap.size) → K (a.put o.dst v') w') : o.wp Try.prog a w K Q := by
  obtain ⟨v', w', hr, h2, h3, h4⟩ := run_append_dots w o.type base v l m A cap hown hr hA hb hbase
  unfold Oper.wp execOp
  simp only [ho, resolve, invoke, builtin, Sem.run_bind, Sem.run_pure, Result.andThen_ok, List.map_toArray, List.map_cons, List.map_nil, hs, hx, hr]
  exact h v' w' h2 h3 h4

theorem wpList_append_dots (w : World) {ops : Array Oper} {rest : List Oper} {o : Oper} {a : Act} {Q : Exit → Act → World → Prop} (hgd : o.guard = none) (s x : Operand)
    (ho : o.op = .call { callee := .builtin .append, args := #[s, x], argTypes := #[23, 23] })
    (base : Nat) (v : Value) (l m : List (Int × Int)) (A : Option Addr) (cap : Nat) (hs : a.eval s = v) (hx : a.eval x = .slice A m.length cap) (hown : Own w base v l) (hr : Row w A m) (hA : A = none → cap = 0)
    (hb : (l.length + m.length) * 16 ≤ 140737488355328) (hbase : base ≤ w.heap.size)
    (h : ∀ v' w', Own w' base v' (l ++ m) → w.grownBy w' v.ownBlock → (v'.ownBlock = v.ownBlock ∨ v'.ownBlock = some w.heap.size) → wpList Try.prog ops Q rest (a.put o.dst v') w') : wpList Try.prog ops Q (o :: rest) a w :=
  wpList_plain hgd fun _ hK => wp_append_dots w s x ho base v l m A cap hs hx hown hr hA hb hbase fun v' w' h2 h3 h4 => hK _ _ (h v' w' h2 h3 h4)

theorem step_append_dots (w : World) {ops : Array Oper} {o : Oper} {a : Act} {K : Act → World → Prop} {Q : Exit → Act → World → Prop} {E : Prop} (hgd : o.guard = none) (s x : Operand)
    (ho : o.op = .call { callee := .builtin .append, args := #[s, x], argTypes := #[23, 23] })
    (base : Nat) (v : Value) (l m : List (Int × Int)) (A : Option Addr) (cap : Nat) (hs : a.eval s = v) (hx : a.eval x = .slice A m.length cap) (hown : Own w base v l) (hr : Row w A m) (hA : A = none → cap = 0)
    (hb : (l.length + m.length) * 16 ≤ 140737488355328) (hbase : base ≤ w.heap.size)
    (h : ∀ v' w', Own w' base v' (l ++ m) → w.grownBy w' v.ownBlock → (v'.ownBlock = v.ownBlock ∨ v'.ownBlock = some w.heap.size) → K (a.put o.dst v') w') :
    if Region.wanted o (yielded ops a.tmps) = true then Oper.wp Try.prog o a w K Q else E := by
  have hw : Region.wanted o (yielded ops a.tmps) = true := by simp [Region.wanted, hgd]
  rw [if_pos hw]
  exact wp_append_dots w s x ho base v l m A cap hs hx hown hr hA hb hbase h

theorem step_append_dotsN (w : World) {ops : Array Oper} {o : Oper} {a : Act} {K : Act → World → Prop} {Q : Exit → Act → World → Prop} {E : Prop} (hgd : o.guard = none) (s x : Operand)
    (ho : o.op = .call { callee := .builtin .append, args := #[s, x], argTypes := #[23, 23] })
    (base : Nat) (v : Value) (l m : List (Int × Int)) (n : Nat) (hn : m.length = n) (A : Option Addr) (cap : Nat) (hs : a.eval s = v) (hx : a.eval x = .slice A n cap) (hown : Own w base v l) (hr : Row w A m) (hA : A = none → cap = 0)
    (hb : (l.length + m.length) * 16 ≤ 140737488355328) (hbase : base ≤ w.heap.size)
    (h : ∀ v' w', Own w' base v' (l ++ m) → w.grownBy w' v.ownBlock → K (a.put o.dst v') w') :
    if Region.wanted o (yielded ops a.tmps) = true then Oper.wp Try.prog o a w K Q else E := by
  subst hn
  exact step_append_dots w hgd s x ho base v l m A cap hs hx hown hr hA hb hbase fun v' w' h1 h2 _ => h v' w' h1 h2

theorem Row.drew {w : World} {A : Option Addr} {l : List (Int × Int)} (h : Row w A l) : Row w.drew A l := h
theorem Row.drewN {w : World} {A : Option Addr} {l : List (Int × Int)} (h : Row w A l) (n : Nat) : Row (w.drewN n) A l := h
theorem below_none {w w' : World} (hg : w.grownBy w' (Value.slice none 0 0).ownBlock) : Below w.heap.size w w' := (Below.refl _ _).grown hg (Nat.le_refl _) (fun k e => by cases e)

/-- The first dots of a slice. -/
theorem Row.take {w : World} {A : Option Addr} {l : List (Int × Int)} (h : Row w A l) (k : Nat) : Row w A (l.take k) := by
  rcases h with h | ⟨b, off, hA, hb, hc⟩
  · exact Or.inl (by rw [h]; simp)
  · exact Or.inr ⟨b, off, hA, hb, fun j hj => by
      have hj' : j < l.length := by rw [List.length_take] at hj; omega
      rw [List.getElem_take]
      exact hc j hj'⟩
/-- The dots of a slice from k on. -/
theorem Row.drop {w : World} {b off : Nat} {l : List (Int × Int)} (h : Row w (some ⟨b, off, none⟩) l) (k : Nat) : Row w (some ⟨b, off + k * 2, none⟩) (l.drop k) := by
  rcases h with h | ⟨b', off', hA, hb, hc⟩
  · exact Or.inl (by rw [h]; simp)
  · obtain ⟨rfl, rfl⟩ : b = b' ∧ off = off' := by injection hA with hA; injection hA with h1 h2; exact ⟨h1, h2⟩
    exact Or.inr ⟨b, off + k * 2, rfl, hb, fun j hj => by
      have hj' : k + j < l.length := by rw [List.length_drop] at hj; omega
      rw [List.getElem_drop]
      have := hc (k + j) hj'
      rw [show off + k * 2 + j * 2 = off + (k + j) * 2 from by omega]
      exact this⟩

end Go.Proofs.Ytbhhpijidbhipaa
