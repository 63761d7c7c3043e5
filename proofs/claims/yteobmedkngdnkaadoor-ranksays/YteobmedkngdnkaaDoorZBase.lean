/-
  Items (a row and how many times it is there): what they are in memory; what zset.Check answers.
-/
import Derived.Test.YteobmedkngdnkaaDoorZCmp
namespace Go.Proofs.YteobmedkngdnkaaDoor
open Go.RowKit Go.Sort

/-- An item: where its row lies, the room there, the row, the weight. -/
structure Itm where
  p : Option Addr
  c : Nat
  r : List Int
  n : Int
def encT (x : Itm) : List Value := [.slice x.p x.r.length x.c, .int .i64 x.n]
theorem encT_len (x : Itm) : (encT x).length = 2 := rfl
theorem encT_one (x : Itm) : ∀ u ∈ encT x, u.oneCell' = true := by
  intro u hu
  simp [encT] at hu
  rcases hu with rfl | rfl <;> rfl
/-- A slice's place and room: none has no room, and the room is enough. -/
def NilC (A : Option Addr) (n c : Nat) : Prop := Unit → (if A.isNone then c else 0) + (n - c) = 0
theorem NilC.z {A : Option Addr} {n c : Nat} (h : NilC A n c) : A = none → c = 0 := fun e => by
  subst e
  have h1 : c + (n - c) = 0 := h ()
  omega
theorem NilC.cap {A : Option Addr} {n c : Nat} (h : NilC A n c) : n ≤ c := by
  have := h ()
  omega
theorem NilC.mk {A : Option Addr} {n c : Nat} (h : A = none → c = 0) (k : n ≤ c) : NilC A n c := fun _ => by
  cases A with
  | none => rw [h rfl] at k ⊢; simp; omega
  | some a => simp; omega
/-- A list of items in memory, and each item's row. -/
structure Items (w : World) (A : Option Addr) (l : List Itm) : Prop where
  row : RowG encT 2 w A l
  each : ∀ x ∈ l, RowI w x.p x.r ∧ x.r.length ≤ maxLen ∧ (x.p = none → x.c = 0)
theorem Items.below {w w' : World} {A : Option Addr} {l : List Itm} (h : Items w A l) (q : Below w.heap.size w w') : Items w' A l := ⟨h.row.below q, fun x hx => ⟨(h.each x hx).1.below q, (h.each x hx).2⟩⟩
theorem Items.gr {w w' : World} {A : Option Addr} {l : List Itm} (h : Items w A l) (q : Gr w w') : Items w' A l := h.below q.below
/-- What one finds at an index. -/
theorem Items.at {w : World} {A : Option Addr} {l : List Itm} (h : Items w A l) {k : Nat} (hk : k < l.length) : ∃ b off, A = some ⟨b, off, none⟩ ∧ b < w.heap.size ∧ ∀ j (hj : j < l.length), w.cell? ⟨b, off + j * 2, none⟩ = some (.slice l[j].p l[j].r.length l[j].c) ∧ w.cell? ⟨b, off + j * 2 + 1, none⟩ = some (.int .i64 l[j].n) := by
  obtain ⟨b, off, hA, hb, hc⟩ := h.row.at hk
  exact ⟨b, off, hA, hb, fun j hj => ⟨hc j hj 0 (by omega), hc j hj 1 (by omega)⟩⟩

/-- An item as the document speaks of it. -/
abbrev Zit := List Int × Int
def Itm.z (x : Itm) : Zit := (x.r, x.n)
/-- May it stand in a set? -/
def okZ (x : Zit) : Bool := okR x.1 && okW x.2 && decide (x.2 ≠ 0)
/-- Does the row at k stand behind the one ahead of it? -/
def incZ (l : List Zit) (k : Nat) : Bool := decide (k = 0) || decide (cmpL (l.getD (k - 1) ([], 0)).1 (l.getD k ([], 0)).1 < 0)
/-- What Check answers. -/
def errZ (l : List Zit) : Int := if 400 < l.length then 2 else if ∃ k, k < l.length ∧ (okZ (l.getD k ([], 0)) && incZ l k) = false then 5 else 0

end Go.Proofs.YteobmedkngdnkaaDoor
