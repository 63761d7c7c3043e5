/-
  Cells in memory of the call's own, and what append makes of them.
-/
import Derived.Test.YtbhhpijidbhipaaTBase
namespace Go.Proofs.Ytbhhpijidbhipaa
open Go.RowKit Go.Sort

abbrev OwnC (w : World) (base : Nat) (v : Value) (l : List Cel) : Prop := OwnG encC 5 53 w base v l
theorem Try.infoC : (Try.prog.info? 53).map (fun i => (i.zero, i.size, i.bytes)) = some (some (.agg #[.int .i64 0, .int .i64 0, .int .i64 0, .int .i64 0, .int .i64 0]), 5, 40) := by kernel_rfl

theorem rowNewCl {W : World} {n : Nat} (hn : W.heap.size = n) (x : Cel) (T : TypeId) : RowC (W.alloc (.cells #[.int .i64 x.1.1, .int .i64 x.1.2, .int .i64 x.2.1, .int .i64 x.2.2.1, .int .i64 x.2.2.2] T)) (some ⟨n, 0, none⟩) [x] := by
  subst hn
  refine Or.inr ⟨W.heap.size, 0, rfl, by simp, fun j hj i hi => ?_⟩
  obtain rfl : j = 0 := by simp at hj; omega
  match i, hi with
  | 0, _ => exact box1 (w := W) (Gr.refl _) (j := 0) rfl
  | 1, _ => exact box1 (w := W) (Gr.refl _) (j := 1) rfl
  | 2, _ => exact box1 (w := W) (Gr.refl _) (j := 2) rfl
  | 3, _ => exact box1 (w := W) (Gr.refl _) (j := 3) rfl
  | 4, _ => exact box1 (w := W) (Gr.refl _) (j := 4) rfl

theorem wpList_append_c (w : World) {ops : Array Oper} {rest : List Oper} {o : Oper} {a : Act} {Q : Exit → Act → World → Prop} (hgd : o.guard = none) (s x : Operand)
    (ho : o.op = .call { callee := .builtin .append, args := #[s, x], argTypes := #[26, 26] })
    (base : Nat) (v : Value) (l m : List Cel) (A : Option Addr) (cap : Nat) (hs : a.eval s = v) (hx : a.eval x = .slice A m.length cap) (hown : OwnC w base v l) (hr : RowC w A m) (hA : A = none → cap = 0)
    (hml : l.length + m.length ≤ maxLen) (hb : (l.length + m.length) * 40 ≤ 140737488355328) (hbase : base ≤ w.heap.size)
    (h : ∀ v' w', OwnC w' base v' (l ++ m) → w.grownBy w' v.ownBlock → wpList Try.prog ops Q rest (a.put o.dst v') w') : wpList Try.prog ops Q (o :: rest) a w :=
  wpList_plain hgd fun _ hK => wp_append_g encC_len encC_one (by omega) 26 Try.underlying26 (.agg #[.int .i64 0, .int .i64 0, .int .i64 0, .int .i64 0, .int .i64 0]) 40 Try.infoC rfl w s x ho base v l m A cap hs hx hown hr hA hml hb hbase fun v' w' h2 h3 => hK _ _ (h v' w' h2 h3)

theorem filter_take {p : Cel → Bool} {l : List Cel} {k : Nat} (h : k < l.length) {x : Cel} (hx : l[k] = x) : (l.take (k + 1)).filter p = (l.take k).filter p ++ (if p x then [x] else []) := by
  rw [List.take_succ_eq_append_getElem h, List.filter_append, hx]
  cases hq : p x <;> simp [hq]
theorem filter_le (p : Cel → Bool) (l : List Cel) (k : Nat) : ((l.take k).filter p).length ≤ l.length := Nat.le_trans (List.length_filter_le _ _) (by rw [List.length_take]; omega)

end Go.Proofs.Ytbhhpijidbhipaa
