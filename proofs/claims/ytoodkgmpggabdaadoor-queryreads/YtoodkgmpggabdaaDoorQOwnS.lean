/-
  Steps of one's own: append, one by one.
-/
import Derived.Test.YtoodkgmpggabdaaDoorQPLine
import Derived.Test.YtoodkgmpggabdaaDoorQCheck
namespace Go.Proofs.YtoodkgmpggabdaaDoor
open Go.RowKit Go.Sort

theorem Tryd.infoQ2 : (Tryd.prog.info? 32).map (fun i => (i.zero, i.size, i.bytes)) = some (some (.agg #[.int .i64 0, .int .i64 0, .int .i64 0, .int .i64 0, .int .i64 0, .int .i64 0, .slice none 0 0]), 7, 72) := by kernel_rfl

/-- A row that lies apart from the block ob, in memory made behind base. -/
structure ApartS (w : World) (base : Nat) (ob : Option Nat) (x : Stp) : Prop where
  row : RowI w x.p x.l
  len : x.l.length ≤ maxLen
  nil : x.p = none → x.n = 0
  own : ∀ a, x.p = some a → base ≤ a.block ∧ a.block < w.heap.size ∧ ob ≠ some a.block
/-- A list of items of one's own. -/
structure OwnS (w : World) (base : Nat) (v : Value) (l : List Stp) : Prop where
  own : OwnG encQ 7 32 w base v l
  each : ∀ x ∈ l, ApartS w base v.ownBlock x
theorem OwnS.nil (w : World) (base : Nat) : OwnS w base (.slice none 0 0) [] := ⟨OwnG.nil _ _ _ _ _, fun x hx => by cases hx⟩
theorem ApartS.below {w w' : World} {base : Nat} {ob : Option Nat} {x : Stp} (h : ApartS w base ob x) (q : Below w.heap.size w w') : ApartS w' base ob x :=
  ⟨h.row.below q, h.len, h.nil, fun a ha => ⟨(h.own a ha).1, Nat.lt_of_lt_of_le (h.own a ha).2.1 q.size, (h.own a ha).2.2⟩⟩
theorem OwnS.below {w w' : World} {base : Nat} {v : Value} {l : List Stp} (h : OwnS w base v l) (q : Below w.heap.size w w') : OwnS w' base v l := ⟨h.own.below q, fun x hx => (h.each x hx).below q⟩
theorem OwnS.gr {w w' : World} {base : Nat} {v : Value} {l : List Stp} (h : OwnS w base v l) (q : Gr w w') : OwnS w' base v l := h.below q.below
theorem OwnS.stps {w : World} {base : Nat} {v : Value} {l : List Stp} (h : OwnS w base v l) : ∃ A cap, v = .slice A l.length cap ∧ (A = none → cap = 0) ∧ Stps w A l := by
  obtain ⟨A, cap, hv, hA, hr, ha⟩ := h.own.row encQ_len
  exact ⟨A, cap, hv, hA, ⟨hr, fun x hx => ⟨(h.each x hx).row, (h.each x hx).len, (h.each x hx).nil⟩⟩⟩
/-- Steps that were made behind n. -/
def NwQ (n : Nat) (A : Option Addr) (q : List Stp) : Prop := (∀ a, A = some a → n ≤ a.block) ∧ ∀ s ∈ q, ∀ a, s.p = some a → n ≤ a.block
theorem OwnS.nw {w : World} {base c : Nat} {A : Option Addr} {l : List Stp} (h : OwnS w base (.slice A l.length c) l) : NwQ base A l := ⟨fun a ha => (World.ownsRow.lt h.own a.block (by rw [ha]; rfl)).1, fun s hs a ha => ((h.each s hs).own a ha).1⟩
theorem ApartS.grown {w w' : World} {base : Nat} {ob ob' : Option Nat} {x : Stp} (h : ApartS w base ob x) (q : w.grownBy w' ob) (hob : ob' = ob ∨ ob' = some w.heap.size) : ApartS w' base ob' x := by
  refine ⟨?_, h.len, h.nil, fun a ha => ⟨(h.own a ha).1, Nat.lt_of_lt_of_le (h.own a ha).2.1 q.size, ?_⟩⟩
  · rcases h.row with k | ⟨b, off, hp, hb, hc⟩
    · exact Or.inl k
    · refine Or.inr ⟨b, off, hp, Nat.lt_of_lt_of_le hb q.size, fun j hj i hi => ?_⟩
      have hne := (h.own _ hp).2.2
      rw [World.cell?_of_block (a := ⟨b, off + j * 1 + i, none⟩) (q.block b hb fun e => hne e.symm)]
      exact hc j hj i hi
  · rcases hob with e | e
    · rw [e]; exact (h.own a ha).2.2
    · rw [e]
      intro k
      injection k with k
      have := (h.own a ha).2.1
      omega
/-- append(v, x) -/
theorem run_append_s2 (w : World) (ty : TypeId) (base : Nat) (v : Value) (l : List Stp) (x : Stp) (A : Addr) (cap : Nat) (hown : OwnS w base v l) (hr : RowG encQ 7 w (some A) [x]) (hx : ApartS w base v.ownBlock x)
    (hml : l.length + 1 ≤ maxLen) (hb : (l.length + 1) * 72 ≤ 140737488355328) (hbase : base ≤ w.heap.size) :
    ∃ v' w', (Builtin.append_ #[22, 22] ty #[v, .slice (some A) 1 cap]).run Tryd.prog w = .ok v' w' ∧ OwnS w' base v' (l ++ [x]) ∧ Below base w w' ∧ w.grownBy w' v.ownBlock := by
  obtain ⟨i0, hi, hz0, hz1, hz2⟩ := info_parts Tryd.infoQ2
  obtain ⟨v', w', g1, g2, g3, _, g5⟩ := run_append_own_at (P := Tryd.prog) w base 22 ty 32 i0 (.agg #[.int .i64 0, .int .i64 0, .int .i64 0, .int .i64 0, .int .i64 0, .int .i64 0, .slice none 0 0]) 7 72 Tryd.underlying22 hi hz0 hz1 hz2 rfl (by omega) v l.length (flatG encQ l) hown.own A 1 cap (flatG encQ [x]) (flatG_length encQ_len [x]) (hr.cells encQ_len (by omega)) (fun u hu => flatG_one encQ_one u [x] hu) hml hb hbase
  refine ⟨v', w', g1, ⟨?_, fun y hy => ?_⟩, OwnG.grown_below hown.own g3 hbase, g3⟩
  · show w'.ownsRow base _ 7 v' (l ++ [x]).length (flatG encQ (l ++ [x]))
    rw [List.length_append, flatG_append]
    exact g2
  · rcases List.mem_append.1 hy with k | k
    · exact (hown.each y k).grown g3 g5
    · have : y = x := by simpa using k
      subst this
      exact hx.grown g3 g5
theorem wpList_append_s2 (w : World) {ops : Array Oper} {rest : List Oper} {o : Oper} {a : Act} {Q : Exit → Act → World → Prop} (hgd : o.guard = none) (s z : Operand)
    (ho : o.op = .call { callee := .builtin .append, args := #[s, z], argTypes := #[22, 22] })
    (base : Nat) (v : Value) (l : List Stp) (x : Stp) (A : Addr) (cap : Nat) (hs : a.eval s = v) (hz : a.eval z = .slice (some A) 1 cap) (hown : OwnS w base v l) (hr : RowG encQ 7 w (some A) [x]) (hx : ApartS w base v.ownBlock x)
    (hml : l.length + 1 ≤ maxLen) (hb : (l.length + 1) * 72 ≤ 140737488355328) (hbase : base ≤ w.heap.size)
    (h : ∀ v' w', OwnS w' base v' (l ++ [x]) → Below base w w' → wpList Tryd.prog ops Q rest (a.put o.dst v') w') : wpList Tryd.prog ops Q (o :: rest) a w :=
  wpList_plain hgd fun _ hK => by
    obtain ⟨v', w', hr, h2, h3, _⟩ := run_append_s2 w o.type base v l x A cap hown hr hx hml hb hbase
    unfold Oper.wp execOp
    simp only [ho, resolve, invoke, builtin, Sem.run_bind, Sem.run_pure, Result.andThen_ok, List.map_toArray, List.map_cons, List.map_nil, hs, hz, hr]
    exact hK _ _ (h v' w' h2 h3)

end Go.Proofs.YtoodkgmpggabdaaDoor
