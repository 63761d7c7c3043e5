/-
  query.signOf, strconv.Itoa, query.printList: texts of a step's parts.
-/
import Derived.Test.YtoodkgmpggabdaaDoorQTens
import Derived.Shelf.Unicode.PredsPay
import Derived.Lib.ItoaLen
import Derived.Lib.Join
import Derived.Lib.JoinLaws
namespace Go.Proofs.YtoodkgmpggabdaaDoor
open Go.RowKit Go.Sort

/-- The sign of an op. -/
def signL (o : Int) : List UInt8 := if o = 1 then [60] else if o = 2 then [61] else if o = 3 then [62] else []
set_option maxHeartbeats 400000 in
theorem signOf_any (o : Int) (w : World) : Calls Tryd.prog 41 #[.int .i64 o] w fun e w' => e = .returned (.string ⟨(signL o).toArray⟩) ∧ w' = w := by
  by_cases h1 : o = 1
  · subst h1
    go_enter Tryd.func41, Tryd.ntmps41
    go_wp2
    go_ret
    exact ⟨rfl, rfl⟩
  by_cases h2 : o = 2
  · subst h2
    go_enter Tryd.func41, Tryd.ntmps41
    go_wp2
    go_ret
    exact ⟨rfl, rfl⟩
  by_cases h3 : o = 3
  · subst h3
    go_enter Tryd.func41, Tryd.ntmps41
    go_wp2
    go_ret
    exact ⟨rfl, rfl⟩
  have e1 : signL o = [] := by unfold signL; rw [if_neg h1, if_neg h2, if_neg h3]
  have q1 : (o == 1) = false := beq_eq_false_iff_ne.2 h1
  have q2 : (o == 2) = false := beq_eq_false_iff_ne.2 h2
  have q3 : (o == 3) = false := beq_eq_false_iff_ne.2 h3
  rw [e1]
  clear h1 h2 h3 e1
  go_enter Tryd.func41, Tryd.ntmps41
  go_wp2
  go_ret
  exact ⟨rfl, rfl⟩

/-- A text's cell. -/
def encX (x : List UInt8) : List Value := [.string ⟨x.toArray⟩]
theorem encX_len (x : List UInt8) : (encX x).length = 1 := rfl
theorem encX_one (x : List UInt8) : ∀ u ∈ encX x, u.oneCell' = true := by
  intro u hu
  simp [encX] at hu
  subst hu; rfl
abbrev RowX (w : World) (A : Option Addr) (l : List (List UInt8)) : Prop := RowG encX 1 w A l
abbrev OwnX (w : World) (base : Nat) (v : Value) (l : List (List UInt8)) : Prop := OwnG encX 1 9 w base v l
theorem Tryd.infoX : (Tryd.prog.info? 9).map (fun i => (i.zero, i.size, i.bytes)) = some (some (.string ⟨#[]⟩), 1, 16) := by kernel_rfl
theorem rowNewX {W : World} {n : Nat} (hn : W.heap.size = n) (x : List UInt8) (T : TypeId) : RowX (W.alloc (.cells #[.string ⟨x.toArray⟩] T)) (some ⟨n, 0, none⟩) [x] := by
  subst hn
  refine Or.inr ⟨W.heap.size, 0, rfl, by simp, fun j hj i hi => ?_⟩
  obtain rfl : j = 0 := by simp at hj; omega
  obtain rfl : i = 0 := by omega
  exact box1 (w := W) (Gr.refl _) (j := 0) rfl
theorem wpList_append_x (w : World) {ops : Array Oper} {rest : List Oper} {o : Oper} {a : Act} {Q : Exit → Act → World → Prop} (hgd : o.guard = none) (s x : Operand)
    (ho : o.op = .call { callee := .builtin .append, args := #[s, x], argTypes := #[36, 36] })
    (base : Nat) (v : Value) (l m : List (List UInt8)) (A : Option Addr) (cap : Nat) (hs : a.eval s = v) (hx : a.eval x = .slice A m.length cap) (hown : OwnX w base v l) (hr : RowX w A m) (hA : A = none → cap = 0)
    (hml : l.length + m.length ≤ maxLen) (hb : (l.length + m.length) * 16 ≤ 140737488355328) (hbase : base ≤ w.heap.size)
    (h : ∀ v' w', OwnX w' base v' (l ++ m) → w.grownBy w' v.ownBlock → wpList Tryd.prog ops Q rest (a.put o.dst v') w') : wpList Tryd.prog ops Q (o :: rest) a w :=
  wpList_plain hgd fun _ hK => wp_append_g encX_len encX_one (by omega) 36 Tryd.underlying36 (.string ⟨#[]⟩) 16 Tryd.infoX rfl w s x ho base v l m A cap hs hx hown hr hA hml hb hbase fun v' w' h2 h3 => hK _ _ (h v' w' h2 h3)
theorem bytes_map (l : List (List UInt8)) : (l.map fun x => (⟨x.toArray⟩ : ByteArray)).map (·.data.toList) = l := by
  induction l with
  | nil => rfl
  | cons x t ih => rw [List.map_cons, List.map_cons, ih]
theorem join_le (sep : List UInt8) (m : Nat) : ∀ l : List (List UInt8), (∀ x ∈ l, x.length ≤ m) → (Lib.join l sep).length ≤ l.length * (m + sep.length)
  | [], _ => by simp [Lib.join, List.intercalate]
  | [x], h => by
    have := h x (by simp)
    rw [Lib.join_one]; simp; omega
  | x :: y :: t, h => by
    have h1 := h x (by simp)
    have h2 := join_le sep m (y :: t) fun z hz => h z (List.mem_cons_of_mem _ hz)
    have e : Lib.join (x :: y :: t) sep = x ++ sep ++ Lib.join (y :: t) sep := by simp [Lib.join, List.intercalate, List.intersperse]
    rw [e, List.length_append, List.length_append]
    simp only [List.length_cons, Nat.succ_mul] at h2 ⊢
    omega
/-- A list's text. -/
def listL (l : List Int) : List UInt8 := Lib.join (l.map Lib.itoa) [44]

end Go.Proofs.YtoodkgmpggabdaaDoor
