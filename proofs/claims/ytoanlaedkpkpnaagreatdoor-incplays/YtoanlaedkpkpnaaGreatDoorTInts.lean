/-
  Lists of numbers: slices.Sort and slices.Compact at them, table.risingOnce, table.Values, table.Keys.
-/
import Derived.Test.YtoanlaedkpkpnaaGreatDoorShelfI
import Derived.Test.YtoanlaedkpkpnaaGreatDoorGen

namespace Go.Proofs.YtoanlaedkpkpnaaGreatDoor
open Go.RowKit Go.Sort Go.Shelf Go.Lib

/-- A number's cell. -/
def encI (x : Int) : List Value := [.int .i64 x]
theorem encI_len (x : Int) : (encI x).length = 1 := rfl
theorem encI_one (x : Int) : ∀ u ∈ encI x, u.oneCell' = true := by
  intro u hu
  simp [encI] at hu
  rw [hu]; rfl
abbrev RowI (w : World) (A : Option Addr) (l : List Int) : Prop := RowG encI 1 w A l
abbrev OwnI (w : World) (base : Nat) (v : Value) (l : List Int) : Prop := OwnG encI 1 3 w base v l

theorem compactUpTo_le (d : Array Int) : ∀ m, (compactUpTo d m).length ≤ m
  | 0 => by simp [compactUpTo]
  | m + 1 => by
    have := compactUpTo_le d m
    rw [compactUpTo_succ, List.length_append]
    split <;> simp <;> omega
theorem compact_le (l : List Int) : (compact l).length ≤ l.length := compactUpTo_le _ _
/-- Rising, each once. -/
def onceL (l : List Int) : List Int := compact (l.mergeSort fun x y => decide (x ≤ y))
theorem onceL_len (l : List Int) : (onceL l).length ≤ l.length := by
  unfold onceL
  refine Nat.le_trans (compact_le _) ?_
  simp

theorem holdsI {w : World} {g : Nat} {l : List Int} (h : RowI w (some ⟨g, 0, none⟩) l) (hf : ∀ j, w.frozen? ⟨g, j, none⟩ = false) : Holds (Value.int .i64) w g 0 l.toArray := by
  intro j hj
  have hj' : j < l.length := by simpa using hj
  obtain ⟨b, off, hA, hb, hc⟩ := h.at hj'
  obtain ⟨rfl, rfl⟩ : g = b ∧ 0 = off := by injection hA with hA; injection hA with h1 h2; exact ⟨h1, h2⟩
  refine ⟨?_, hf _⟩
  have := hc j hj' 0 (by omega)
  have e : l.toArray[j]! = l[j] := by simp [hj']
  rw [e]
  simpa [encI] using this
theorem rowI_of {w : World} {g : Nat} {l m : List Int} (h : Holds (Value.int .i64) w g 0 (l ++ m).toArray) (hg : g < w.heap.size) : RowI w (some ⟨g, 0, none⟩) l := by
  refine Or.inr ⟨g, 0, rfl, hg, fun j hj i hi => ?_⟩
  obtain rfl : i = 0 := by omega
  have h0 := (h j (by simp; omega)).1
  have e : (l ++ m).toArray[j]! = l[j] := by
    have h1 : j < (l ++ m).length := by rw [List.length_append]; omega
    have h2 : (l ++ m).toArray[j]! = (l ++ m)[j] := by
      rw [getElem!_pos (l ++ m).toArray j (by simpa using h1)]
      rfl
    rw [h2, List.getElem_append_left hj]
  rw [e] at h0
  simpa [encI] using h0
theorem below_putI {w : World} {g n base : Nat} {d : Array Int} (hb : base ≤ g) : Below base w (putRow (Value.int .i64) (Sort.ahead w n) g 0 d) := by
  refine ⟨rfl, rfl, rfl, by simp [putRow, mapBlock, Sort.ahead], fun k hk => ?_⟩
  show ((Sort.ahead w n).heap.modify g _)[k]? = _
  rw [Array.getElem?_modify, if_neg (by omega)]
  rfl
theorem size_putI {w : World} {g n : Nat} {d : Array Int} : (putRow (Value.int .i64) (Sort.ahead w n) g 0 d).heap.size = w.heap.size := by simp [putRow, mapBlock, Sort.ahead]

theorem sortI (g cap : Nat) (l : List Int) (w : World) (hH : Holds (Value.int .i64) w g 0 l.toArray) (hg : g < w.heap.size) (hsz : l.length < 4611686018427387904) :
    Calls Tryz.prog 66 #[.slice (some ⟨g, 0, none⟩) l.length cap] w fun e w' => e = .returned (.tuple #[]) ∧ Holds (Value.int .i64) w' g 0 (l.mergeSort fun x y => decide (x ≤ y)).toArray ∧ g < w'.heap.size ∧ ∀ base, base ≤ g → Below base w w' := by
  have hcon := Any.slices_Sort_int Tryz.sortInt g 0 cap l w hH hg hsz
  change Calls Tryz.prog 66 _ _ _ at hcon
  refine hcon.mono ?_
  rintro e w' ⟨he, n, os, hw⟩
  have hs : g < (putRow (Value.int .i64) (Sort.ahead w n) g 0 (l.mergeSort fun x y => decide (x ≤ y)).toArray).heap.size := by rw [size_putI]; exact hg
  refine ⟨he, ?_, ?_, fun base hb => ?_⟩
  · rw [hw]
    exact holds_grow _ _ _ _ _ _ hs (holds_putRow _ _ _ _ l.toArray _ (holds_ahead _ _ _ _ _ _ hH) (by simp))
  · rw [hw]; simp only [grow, Array.size_append]; omega
  · rw [hw]
    refine (below_putI (n := n) (d := (l.mergeSort fun x y => decide (x ≤ y)).toArray) hb).trans ?_
    have hgr : Gr (putRow (Value.int .i64) (Sort.ahead w n) g 0 (l.mergeSort fun x y => decide (x ≤ y)).toArray) (grow (putRow (Value.int .i64) (Sort.ahead w n) g 0 (l.mergeSort fun x y => decide (x ≤ y)).toArray) os) := ⟨0, os, rfl⟩
    exact hgr.below.mono (by rw [size_putI]; omega)

theorem sort_none (A : Option Addr) (cap : Nat) (w : World) : Calls Tryz.prog 66 #[.slice A 0 cap] w fun e w' => e = .returned (.tuple #[]) ∧ w' = w :=
  Any.slices_Sort_int_none Tryz.sortInt A cap w

theorem below_none {w w' : World} (hg : w.grownBy w' (Value.slice none 0 0).ownBlock) : Below w.heap.size w w' := (Below.refl _ _).grown hg (Nat.le_refl _) (fun k e => by cases e)
theorem Tryz.infoI : (Tryz.prog.info? 3).map (fun i => (i.zero, i.size, i.bytes)) = some (some (.int .i64 0), 1, 8) := by kernel_rfl

theorem rowNewI {W : World} {n : Nat} (hn : W.heap.size = n) (x : Int) (T : TypeId) : RowI (W.alloc (.cells #[.int .i64 x] T)) (some ⟨n, 0, none⟩) [x] := by
  subst hn
  refine Or.inr ⟨W.heap.size, 0, rfl, by simp, fun j hj i hi => ?_⟩
  obtain rfl : j = 0 := by simp at hj; omega
  obtain rfl : i = 0 := by omega
  exact box1 (w := W) (Gr.refl _) (j := 0) rfl

theorem wpList_append_i (w : World) {ops : Array Oper} {rest : List Oper} {o : Oper} {a : Act} {Q : Exit → Act → World → Prop} (hgd : o.guard = none) (s x : Operand)
    (ho : o.op = .call { callee := .builtin .append, args := #[s, x], argTypes := #[46, 46] })
    (base : Nat) (v : Value) (l m : List Int) (A : Option Addr) (cap : Nat) (hs : a.eval s = v) (hx : a.eval x = .slice A m.length cap) (hown : OwnI w base v l) (hr : RowI w A m) (hA : A = none → cap = 0)
    (hml : l.length + m.length ≤ maxLen) (hb : (l.length + m.length) * 8 ≤ 140737488355328) (hbase : base ≤ w.heap.size)
    (h : ∀ v' w', OwnI w' base v' (l ++ m) → w.grownBy w' v.ownBlock → wpList Tryz.prog ops Q rest (a.put o.dst v') w') : wpList Tryz.prog ops Q (o :: rest) a w :=
  wpList_plain hgd fun _ hK => wp_append_g encI_len encI_one (by omega) 46 Tryz.underlying46 (.int .i64 0) 8 Tryz.infoI rfl w s x ho base v l m A cap hs hx hown hr hA hml hb hbase fun v' w' h2 h3 => hK _ _ (h v' w' h2 h3)

end Go.Proofs.YtoanlaedkpkpnaaGreatDoor
