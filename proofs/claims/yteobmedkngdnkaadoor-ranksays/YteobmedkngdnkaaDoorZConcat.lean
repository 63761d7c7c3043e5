/-
  slices.Grow of nothing, and slices.Concat, at items.
-/
import Derived.Test.YteobmedkngdnkaaDoorZOwn
import Derived.Lib.AppendZeros
namespace Go.Proofs.YteobmedkngdnkaaDoor
open Go.RowKit Go.Sort

theorem wpList_append_ts (w : World) {ops : Array Oper} {rest : List Oper} {o : Oper} {a : Act} {Q : Exit → Act → World → Prop} (hgd : o.guard = none) (s x : Operand)
    (ho : o.op = .call { callee := .builtin .append, args := #[s, x], argTypes := #[22, 22] })
    (base : Nat) (v : Value) (l m : List Itm) (A : Option Addr) (cap : Nat) (hs : a.eval s = v) (hx : a.eval x = .slice A m.length cap) (hown : OwnG encT 2 41 w base v l) (hr : RowG encT 2 w A m) (hA : A = none → cap = 0)
    (hml : l.length + m.length ≤ maxLen) (hb : (l.length + m.length) * 32 ≤ 140737488355328) (hbase : base ≤ w.heap.size)
    (h : ∀ v' w', OwnG encT 2 41 w' base v' (l ++ m) → w.grownBy w' v.ownBlock → wpList Tryd.prog ops Q rest (a.put o.dst v') w') : wpList Tryd.prog ops Q (o :: rest) a w :=
  wpList_plain hgd fun _ hK => wp_append_g encT_len encT_one (by omega) 22 Tryd.underlying22 (.agg #[.slice none 0 0, .int .i64 0]) 32 Tryd.infoT rfl w s x ho base v l m A cap hs hx hown hr hA hml hb hbase fun v' w' h2 h3 => hK _ _ (h v' w' h2 h3)
/-- A list of items as a value. -/
structure Sl where
  A : Option Addr
  cap : Nat
  l : List Itm
def encS (x : Sl) : List Value := [.slice x.A x.l.length x.cap]
theorem flat_len {ss : List Sl} (h : ss.length ≤ 2) (hl : ∀ s ∈ ss, s.l.length ≤ 400) : (ss.flatMap (·.l)).length ≤ 800 := by
  match ss, h with
  | [], _ => simp
  | [a], _ => have := hl a (by simp); simp; omega
  | [a, b], _ => have h1 := hl a (by simp); have h2 := hl b (by simp); simp; omega
theorem flat_take {ss : List Sl} {k : Nat} (hk : k < ss.length) : (ss.take (k + 1)).flatMap (·.l) = (ss.take k).flatMap (·.l) ++ ss[k].l := by
  rw [List.take_succ_eq_append_getElem hk, List.flatMap_append, List.flatMap_cons, List.flatMap_nil, List.append_nil]
theorem flat_le {ss : List Sl} (k : Nat) : ((ss.take k).flatMap (·.l)).length ≤ (ss.flatMap (·.l)).length := by
  conv => rhs; rw [← List.take_append_drop k ss, List.flatMap_append, List.length_append]
  omega

end Go.Proofs.YteobmedkngdnkaaDoor
