/-
  A list of items of one's own, whose rows are one's own too: what an append of one more item leaves.
-/
import Derived.Test.YteobmedkngdnkaaDoorZBase
import Derived.Maps.AppendAt
namespace Go.Proofs.YteobmedkngdnkaaDoor
open Go.RowKit Go.Sort

theorem Tryd.infoT : (Tryd.prog.info? 41).map (fun i => (i.zero, i.size, i.bytes)) = some (some (.agg #[.slice none 0 0, .int .i64 0]), 2, 32) := by kernel_rfl

/-- A row that lies apart from the block ob, in memory made behind base. -/
structure Apart (w : World) (base : Nat) (ob : Option Nat) (x : Itm) : Prop where
  row : RowI w x.p x.r
  len : x.r.length ≤ maxLen
  nil : x.p = none → x.c = 0
  own : ∀ a, x.p = some a → base ≤ a.block ∧ a.block < w.heap.size ∧ ob ≠ some a.block
/-- A list of items of one's own. -/
structure OwnT (w : World) (base : Nat) (v : Value) (l : List Itm) : Prop where
  own : OwnG encT 2 41 w base v l
  each : ∀ x ∈ l, Apart w base v.ownBlock x
/-- What a call hands back lies in blocks of its own. -/
def NewT (n : Nat) (C : Option Addr) (L : List Itm) : Prop := (∀ a, C = some a → n ≤ a.block) ∧ ∀ x ∈ L, ∀ a, x.p = some a → n ≤ a.block
theorem NewT.none (n : Nat) : NewT n none [] := ⟨fun a h => (by cases h), fun x hx => (by cases hx)⟩
theorem NewT.mono {n m : Nat} {C : Option Addr} {L : List Itm} (h : NewT n C L) (hm : m ≤ n) : NewT m C L := ⟨fun a ha => Nat.le_trans hm (h.1 a ha), fun x hx a ha => Nat.le_trans hm (h.2 x hx a ha)⟩
theorem OwnT.nil (w : World) (base : Nat) : OwnT w base (.slice none 0 0) [] := ⟨OwnG.nil _ _ _ _ _, fun x hx => by cases hx⟩
theorem Apart.below {w w' : World} {base : Nat} {ob : Option Nat} {x : Itm} (h : Apart w base ob x) (q : Below w.heap.size w w') : Apart w' base ob x :=
  ⟨h.row.below q, h.len, h.nil, fun a ha => ⟨(h.own a ha).1, Nat.lt_of_lt_of_le (h.own a ha).2.1 q.size, (h.own a ha).2.2⟩⟩
theorem OwnT.below {w w' : World} {base : Nat} {v : Value} {l : List Itm} (h : OwnT w base v l) (q : Below w.heap.size w w') : OwnT w' base v l := ⟨h.own.below q, fun x hx => (h.each x hx).below q⟩
theorem OwnT.gr {w w' : World} {base : Nat} {v : Value} {l : List Itm} (h : OwnT w base v l) (q : Gr w w') : OwnT w' base v l := h.below q.below
/-- What it is to a reader. -/
theorem OwnT.items {w : World} {base : Nat} {v : Value} {l : List Itm} (h : OwnT w base v l) : ∃ A cap, v = .slice A l.length cap ∧ NilC A l.length cap ∧ Items w A l ∧ (∀ a, A = some a → base ≤ a.block ∧ a.block < w.heap.size) := by
  obtain ⟨A, cap, hv, hA, hr, hc, ha, _⟩ := OwnG.full encT_len h.own
  exact ⟨A, cap, hv, NilC.mk hA hc, ⟨hr, fun x hx => ⟨(h.each x hx).row, (h.each x hx).len, (h.each x hx).nil⟩⟩, fun a e => ⟨(ha a e).1, (ha a e).2.1⟩⟩
theorem Apart.grown {w w' : World} {base : Nat} {ob ob' : Option Nat} {x : Itm} (h : Apart w base ob x) (q : w.grownBy w' ob) (hob : ob' = ob ∨ ob' = some w.heap.size) : Apart w' base ob' x := by
  refine ⟨?_, h.len, h.nil, fun a ha => ⟨(h.own a ha).1, Nat.lt_of_lt_of_le (h.own a ha).2.1 q.size, ?_⟩⟩
  · rcases h.row with k | ⟨b, off, hp, hb, hc⟩
    · exact Or.inl k
    · refine Or.inr ⟨b, off, hp, Nat.lt_of_lt_of_le hb q.size, fun j hj i hi => ?_⟩
      have hne := (h.own _ hp).2.2
      rw [World.cell?_of_block (a := ⟨b, off + j * 1 + i, none⟩) (q.block b hb fun e => hne e.symm)]
      exact hc j hj i hi
  · rcases hob with e | e
    · rw [e]; exact (h.own a ha).2.2
    · rw [e]
      intro k
      injection k with k
      have := (h.own a ha).2.1
      omega
/-- append(v, x) -/
theorem run_append_t (w : World) (ty : TypeId) (base : Nat) (v : Value) (l : List Itm) (x : Itm) (A : Addr) (cap : Nat) (hown : OwnT w base v l) (hr : RowG encT 2 w (some A) [x]) (hx : Apart w base v.ownBlock x)
    (hml : l.length + 1 ≤ maxLen) (hb : (l.length + 1) * 32 ≤ 140737488355328) (hbase : base ≤ w.heap.size) :
    ∃ v' w', (Builtin.append_ #[22, 22] ty #[v, .slice (some A) 1 cap]).run Tryd.prog w = .ok v' w' ∧ OwnT w' base v' (l ++ [x]) ∧ Below base w w' ∧ w.grownBy w' v.ownBlock := by
  obtain ⟨i0, hi, hz0, hz1, hz2⟩ := info_parts Tryd.infoT
  obtain ⟨v', w', g1, g2, g3, _, g5⟩ := run_append_own_at (P := Tryd.prog) w base 22 ty 41 i0 (.agg #[.slice none 0 0, .int .i64 0]) 2 32 Tryd.underlying22 hi hz0 hz1 hz2 rfl (by omega) v l.length (flatG encT l) hown.own A 1 cap (flatG encT [x]) (flatG_length encT_len [x]) (hr.cells encT_len (by omega)) (fun u hu => flatG_one encT_one u [x] hu) hml hb hbase
  refine ⟨v', w', g1, ⟨?_, fun y hy => ?_⟩, OwnG.grown_below hown.own g3 hbase, g3⟩
  · show w'.ownsRow base _ 2 v' (l ++ [x]).length (flatG encT (l ++ [x]))
    rw [List.length_append, flatG_append]
    exact g2
  · rcases List.mem_append.1 hy with k | k
    · exact (hown.each y k).grown g3 g5
    · have : y = x := by simpa using k
      subst this
      exact hx.grown g3 g5
theorem wpList_append_t (w : World) {ops : Array Oper} {rest : List Oper} {o : Oper} {a : Act} {Q : Exit → Act → World → Prop} (hgd : o.guard = none) (s z : Operand)
    (ho : o.op = .call { callee := .builtin .append, args := #[s, z], argTypes := #[22, 22] })
    (base : Nat) (v : Value) (l : List Itm) (x : Itm) (A : Addr) (cap : Nat) (hs : a.eval s = v) (hz : a.eval z = .slice (some A) 1 cap) (hown : OwnT w base v l) (hr : RowG encT 2 w (some A) [x]) (hx : Apart w base v.ownBlock x)
    (hml : l.length + 1 ≤ maxLen) (hb : (l.length + 1) * 32 ≤ 140737488355328) (hbase : base ≤ w.heap.size)
    (h : ∀ v' w', OwnT w' base v' (l ++ [x]) → Below base w w' → wpList Tryd.prog ops Q rest (a.put o.dst v') w') : wpList Tryd.prog ops Q (o :: rest) a w :=
  wpList_plain hgd fun _ hK => by
    obtain ⟨v', w', hr, h2, h3, _⟩ := run_append_t w o.type base v l x A cap hown hr hx hml hb hbase
    unfold Oper.wp execOp
    simp only [ho, resolve, invoke, builtin, Sem.run_bind, Sem.run_pure, Result.andThen_ok, List.map_toArray, List.map_cons, List.map_nil, hs, hz, hr]
    exact hK _ _ (h v' w' h2 h3)
theorem step_append_t (w : World) {ops : Array Oper} {o : Oper} {a : Act} {K : Act → World → Prop} {Q : Exit → Act → World → Prop} {E : Prop} (hgd : o.guard = none) (s z : Operand)
    (ho : o.op = .call { callee := .builtin .append, args := #[s, z], argTypes := #[22, 22] })
    (base : Nat) (v : Value) (l : List Itm) (x : Itm) (A : Addr) (cap : Nat) (hs : a.eval s = v) (hz : a.eval z = .slice (some A) 1 cap) (hown : OwnT w base v l) (hr : RowG encT 2 w (some A) [x]) (hx : Apart w base v.ownBlock x)
    (hml : l.length + 1 ≤ maxLen) (hb : (l.length + 1) * 32 ≤ 140737488355328) (hbase : base ≤ w.heap.size)
    (h : ∀ v' w', OwnT w' base v' (l ++ [x]) → Below base w w' → w.grownBy w' v.ownBlock → K (a.put o.dst v') w') :
    if Region.wanted o (yielded ops a.tmps) = true then Oper.wp Tryd.prog o a w K Q else E := by
  have hw : Region.wanted o (yielded ops a.tmps) = true := by simp [Region.wanted, hgd]
  rw [if_pos hw]
  obtain ⟨v', w', hr, h2, h3, h4⟩ := run_append_t w o.type base v l x A cap hown hr hx hml hb hbase
  unfold Oper.wp execOp
  simp only [ho, resolve, invoke, builtin, Sem.run_bind, Sem.run_pure, Result.andThen_ok, List.map_toArray, List.map_cons, List.map_nil, hs, hz, hr]
  exact h v' w' h2 h3 h4

end Go.Proofs.YteobmedkngdnkaaDoor
