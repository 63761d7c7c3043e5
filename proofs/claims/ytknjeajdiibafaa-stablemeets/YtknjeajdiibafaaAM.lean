/-
  A list that grows while two contexts are read: what an append leaves ds it was. And which dots are missing.
-/
import Derived.Test.YtknjeajdiibafaaAt
namespace Go.Proofs.Ytknjeajdiibafaa
open Go.RowKit Go.Sort

/-- The dots that b hasn't, of a node, from s to top: at most some 400 in all. -/
def miss1 (b : Ctx) (node top : Int) : Nat → List (Int × Int) → Int → List (Int × Int)
  | 0, l, _ => l
  | n + 1, l, s => if s ≤ top ∧ l.length ≤ 400 then miss1 b node top n (if hasB b (node, s) = true then l else l ++ [(node, s)]) (s + 1) else l
/-- .. and those of a cloud. -/
def miss2 (b : Ctx) (node : Int) (ds l : List (Int × Int)) : List (Int × Int) := ds.foldl (fun l x => if x.1 = node ∧ hasB b x = false then l ++ [x] else l) l
/-- The dots of a node that a has and b hasn't, behind l. -/
def missN (a b : Ctx) (node : Int) (l : List (Int × Int)) : List (Int × Int) := miss2 b node a.l (miss1 b node (clk a node) (clk a node - clk b node).toNat l (clk b node + 1))

theorem miss2_take {b : Ctx} {node : Int} {ds l : List (Int × Int)} {k : Nat} (h : k < ds.length) {x : Int × Int} (hx : ds[k] = x) : miss2 b node (ds.take (k + 1)) l = if x.1 = node ∧ hasB b x = false then miss2 b node (ds.take k) l ++ [x] else miss2 b node (ds.take k) l := by
  unfold miss2
  rw [List.take_succ_eq_append_getElem h, List.foldl_append, hx]
  rfl
theorem miss1_stop {b : Ctx} {node top s : Int} {n : Nat} {l : List (Int × Int)} (h : ¬ (s ≤ top ∧ l.length ≤ 400)) : miss1 b node top n l s = l := by
  cases n with
  | zero => rfl
  | succ n => simp only [miss1, if_neg h]
theorem miss1_step {b : Ctx} {node top s : Int} {l : List (Int × Int)} (h1 : s ≤ top) (h2 : l.length ≤ 400) : miss1 b node top (top + 1 - s).toNat l s = miss1 b node top (top + 1 - (s + 1)).toNat (if hasB b (node, s) = true then l else l ++ [(node, s)]) (s + 1) := by
  rw [show (top + 1 - s).toNat = (top + 1 - (s + 1)).toNat + 1 from by omega]
  simp only [miss1, if_pos (And.intro h1 h2)]
theorem miss1_len (b : Ctx) (node top : Int) : ∀ (n : Nat) (l : List (Int × Int)) (s : Int), (miss1 b node top n l s).length ≤ max l.length 401 := by
  intro n
  induction n with
  | zero => intro l s; simp only [miss1]; omega
  | succ n ih =>
    intro l s
    simp only [miss1]
    split
    · rename_i h
      have hl : (if hasB b (node, s) = true then l else l ++ [(node, s)]).length ≤ l.length + 1 := by split <;> simp
      have := ih (if hasB b (node, s) = true then l else l ++ [(node, s)]) (s + 1)
      omega
    · omega
theorem miss2_len (b : Ctx) (node : Int) (ds : List (Int × Int)) : ∀ (l : List (Int × Int)), (miss2 b node ds l).length ≤ l.length + ds.length := by
  induction ds with
  | nil => intro l; simp [miss2]
  | cons x ds ih =>
    intro l
    have := ih (if x.1 = node ∧ hasB b x = false then l ++ [x] else l)
    have hl : (if x.1 = node ∧ hasB b x = false then l ++ [x] else l).length ≤ l.length + 1 := by split <;> simp
    show (miss2 b node ds (if x.1 = node ∧ hasB b x = false then l ++ [x] else l)).length ≤ _
    rw [List.length_cons]
    omega
theorem miss1_ge (b : Ctx) (node top : Int) : ∀ (n : Nat) (l : List (Int × Int)) (s : Int), l.length ≤ (miss1 b node top n l s).length := by
  intro n
  induction n with
  | zero => intro l s; simp only [miss1]; omega
  | succ n ih =>
    intro l s
    simp only [miss1]
    split
    · have hl : l.length ≤ (if hasB b (node, s) = true then l else l ++ [(node, s)]).length := by split <;> simp
      have := ih (if hasB b (node, s) = true then l else l ++ [(node, s)]) (s + 1)
      omega
    · omega
theorem miss2_ge (b : Ctx) (node : Int) (ds : List (Int × Int)) : ∀ (l : List (Int × Int)), l.length ≤ (miss2 b node ds l).length := by
  induction ds with
  | nil => intro l; simp [miss2]
  | cons x ds ih =>
    intro l
    have := ih (if x.1 = node ∧ hasB b x = false then l ++ [x] else l)
    have hl : l.length ≤ (if x.1 = node ∧ hasB b x = false then l ++ [x] else l).length := by split <;> simp
    show _ ≤ (miss2 b node ds (if x.1 = node ∧ hasB b x = false then l ++ [x] else l)).length
    omega
theorem missN_ge (a b : Ctx) (node : Int) (l : List (Int × Int)) : l.length ≤ (missN a b node l).length := Nat.le_trans (miss1_ge b node _ _ l _) (miss2_ge b node a.l _)
theorem missN_len (a b : Ctx) (node : Int) (l : List (Int × Int)) : (missN a b node l).length ≤ max l.length 401 + a.l.length := by
  have h1 := miss2_len b node a.l (miss1 b node (clk a node) (clk a node - clk b node).toNat l (clk b node + 1))
  have h2 := miss1_len b node (clk a node) (clk a node - clk b node).toNat l (clk b node + 1)
  unfold missN
  omega

theorem ctxClk {w : World} {B : Nat} {c : Ctx} {A : Option Addr} {cap : Nat} (h : CtxAt w B c A cap) {a : Int} (h0 : 0 ≤ a) (h4 : a < 4) : w.cell? ⟨B, a.toNat, none⟩ = some (.int .i64 (clk c a)) := by
  have ha : a = 0 ∨ a = 1 ∨ a = 2 ∨ a = 3 := by omega
  rcases ha with rfl | rfl | rfl | rfl
  · exact h.k0
  · exact h.k1
  · exact h.k2
  · exact h.k3

theorem CtxAt.belowB {w w' : World} {B : Nat} {c : Ctx} {A : Option Addr} {cap base : Nat} (h : CtxAt w B c A cap) (k : Below base w w') (hB : B < base) (hA : ∀ x, A = some x → c.l ≠ [] → x.block < base) : CtxAt w' B c A cap :=
  ⟨(k.cell (p := ⟨B, 0, none⟩) hB).trans h.k0, (k.cell (p := ⟨B, 1, none⟩) hB).trans h.k1, (k.cell (p := ⟨B, 2, none⟩) hB).trans h.k2, (k.cell (p := ⟨B, 3, none⟩) hB).trans h.k3, (k.cell (p := ⟨B, 4, none⟩) hB).trans h.k4, Nat.lt_of_lt_of_le h.lt k.size, h.row.belowB hA k⟩

/-- A list v that is the call's own from block 'base' on, beside two contexts in blocks N and N + 1. -/
structure AM (w wr : World) (N base : Nat) (a b : Ctx) (A B : Option Addr) (ca cb : Nat) (v : Value) (l : List (Int × Int)) : Prop where
  own : Own wr base v l
  ap : ∀ k, v.ownBlock = some k → k ≠ N ∧ k ≠ N + 1
  ca : CtxAt wr N a A ca
  cb : CtxAt wr (N + 1) b B cb
  bel : Below base w wr
  bs : base ≤ wr.heap.size
  ra : ∀ x, A = some x → a.l ≠ [] → x.block < base
  rb : ∀ x, B = some x → b.l ≠ [] → x.block < base

theorem AM.gr {w wr w' : World} {N base : Nat} {a b : Ctx} {A B : Option Addr} {ca cb : Nat} {v : Value} {l : List (Int × Int)} (h : AM w wr N base a b A B ca cb v l) (k : Gr wr w') : AM w w' N base a b A B ca cb v l :=
  ⟨h.own.gr k, h.ap, h.ca.gr k, h.cb.gr k, h.bel.trans (k.below.mono h.bs), Nat.le_trans h.bs k.size, h.ra, h.rb⟩

theorem CtxAt.grown {w w' : World} {B : Nat} {c : Ctx} {A : Option Addr} {cap : Nat} {row : Option Nat} {base : Nat} (h : CtxAt w B c A cap) (hg : w.grownBy w' row) (hB : some B ≠ row) (hb : Below base w w') (hA : ∀ x, A = some x → c.l ≠ [] → x.block < base) : CtxAt w' B c A cap :=
  ⟨hg.cell h.k0 hB, hg.cell h.k1 hB, hg.cell h.k2 hB, hg.cell h.k3 hB, hg.cell h.k4 hB, Nat.lt_of_lt_of_le h.lt hg.size, h.row.belowB hA hb⟩

theorem AM.append {w wr w0 w1 : World} {N base : Nat} {a b : Ctx} {A B : Option Addr} {ca cb : Nat} {v v' : Value} {l m : List (Int × Int)} (h : AM w wr N base a b A B ca cb v l) (k : Gr wr w0) (ho : Own w1 base v' m) (hg : w0.grownBy w1 v.ownBlock) {H : Nat} (hH : w0.heap.size = H) (hat : v'.ownBlock = v.ownBlock ∨ v'.ownBlock = some H) : AM w w1 N base a b A B ca cb v' m := by
  subst hH
  have h0 := h.gr k
  have hb := h0.own.grown_below hg h0.bs
  refine ⟨ho, ?_, h0.ca.grown hg (fun e => (h0.ap N e.symm).1 rfl) hb h0.ra, h0.cb.grown hg (fun e => (h0.ap (N + 1) e.symm).2 rfl) hb h0.rb, h0.bel.trans hb, Nat.le_trans h0.bs hg.size, h.ra, h.rb⟩
  intro j hj
  rcases hat with hat | hat
  · exact h.ap j (by rw [← hat]; exact hj)
  · rw [hat] at hj
    injection hj with hj
    have := h0.ca.lt
    have := h0.cb.lt
    omega

end Go.Proofs.Ytknjeajdiibafaa
