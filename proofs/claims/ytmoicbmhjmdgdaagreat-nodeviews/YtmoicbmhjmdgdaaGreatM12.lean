/-
  viewkeep.edited: a table, behind some edits of two nodes.
  Lists of numbers: slices.Sort and slices.Compact at them, table.risingOnce, table.Values, table.Keys.
  slices.Equal at numbers.
-/
import Derived.Test.YtmoicbmhjmdgdaaGreatM11
import Derived.Test.YtmoicbmhjmdgdaaGreatM10
import Derived.Test.YtmoicbmhjmdgdaaGreatM08
import Derived.Test.YtmoicbmhjmdgdaaGreatM02
import Derived.Test.YtmoicbmhjmdgdaaGreatM07
namespace Go.Proofs.YtmoicbmhjmdgdaaGreat
open Go.RowKit Go.Sort

theorem Six.oth {w : World} {B : Nat} {u0 u1 u2 u3 u4 u5 : Value} (h : Six w B u0 u1 u2 u3 u4 u5) {B' j : Nat} (u : Value) (hB : B ≠ B') : Six (w.setCell ⟨B', j, none⟩ u) B u0 u1 u2 u3 u4 u5 := by
 have ho : ∀ i, (w.setCell ⟨B', j, none⟩ u).cell? ⟨B, i, none⟩ = w.cell? ⟨B, i, none⟩ := fun i => World.cell?_setCell_other _ _ _ _ (by intro e; injection e with e1; exact hB e1.symm)
 exact ⟨(ho 0).trans h.k0, (ho 1).trans h.k1, (ho 2).trans h.k2, (ho 3).trans h.k3, (ho 4).trans h.k4, (ho 5).trans h.k5, fun i => by simp only [World.frozen?_setCell]; exact h.fz i, by simpa [World.setCell] using h.lt⟩
theorem RowG.set0 {α : Type} {enc : α → List Value} {k : Nat} {w : World} {A : Option Addr} {l : List α} (h : RowG enc k w A l) {B m : Nat} (u : Value) (hA : ∀ x, A = some x → l ≠ [] → x.block ≠ B) : RowG enc k (w.setCell ⟨B, m, none⟩ u) A l := by
 by_cases h0 : l = []
 ·exact Or.inl h0
 ·exact h.setCell u fun x hx => hA x hx h0
theorem TabAt.oth {w : World} {B : Nat} {t : Tab} {A : Option Addr} {ca : Nat} {D : Option Addr} {cd : Nat} (h : TabAt w B t A ca D cd) {B' j : Nat} (u : Value) (hB : B ≠ B') (hA : ∀ x, A = some x → t.c.l ≠ [] → x.block ≠ B') (hD : ∀ x, D = some x → t.e ≠ [] → x.block ≠ B') : TabAt (w.setCell ⟨B', j, none⟩ u) B t A ca D cd := by
 have ho : ∀ i, (w.setCell ⟨B', j, none⟩ u).cell? ⟨B, i, none⟩ = w.cell? ⟨B, i, none⟩ := fun i => World.cell?_setCell_other _ _ _ _ (by intro e; injection e with e1; exact hB e1.symm)
 exact ⟨(ho 0).trans h.k0, (ho 1).trans h.k1, (ho 2).trans h.k2, (ho 3).trans h.k3, (ho 4).trans h.k4, (ho 5).trans h.k5, by simpa [World.setCell] using h.lt, h.row.setCell0 _ hA, h.rowC.set0 _ hD⟩
theorem joinC_lenK (a b : Ctx) : (joinC a b).l.length ≤ maxLen := by
 by_cases h : joinE a b = 0
 ·rw [(joinE_ok h).2.2.2.1]
  exact Nat.le_trans (joinE_ok h).2.2.2.2 (by decide)
 ·have : joinC a b = zeroC := by simp [joinC, h]
  rw [this]; decide
theorem mergeE_parts {a b : Tab} (h : mergeE a b = 0) : errT a = 0 ∧ errT b = 0 ∧ clashB a b = false ∧ joinE a.c b.c = 0 ∧ (mrg a b).length ≤ 400 := by
 unfold mergeE at h
 by_cases h1 : errT a = 0
 ·by_cases h2 : errT b = 0
  ·cases h3 : clashB a b
   ·by_cases h5 : joinE a.c b.c = 0
    ·by_cases h6 : 400 < (mrg a b).length
     ·simp [h1, h2, h3, h5, h6] at h
     ·exact ⟨h1, h2, rfl, h5, by omega⟩
    ·simp [h1, h2, h3, h5] at h
   ·simp [h1, h2, h3] at h
  ·simp [h1, h2] at h
 ·simp [h1] at h
theorem putT_lenK (t : Tab) (n key col v : Int) : (putT t n key col v).c.l.length ≤ maxLen ∧ (putT t n key col v).e.length ≤ maxLen := by
 unfold putT
 by_cases h : putE t n key col v = 0
 ·rw [if_pos h]
  exact ⟨joinC_lenK _ _, show 1 ≤ maxLen by decide⟩
 ·rw [if_neg h]
  exact ⟨by decide, by decide⟩
theorem delC_lenK (t : Tab) (key : Int) : (delC t key).l.length ≤ maxLen := by
 unfold delC
 by_cases h : delE t key = 0
 ·rw [if_pos h]
  have h1 : errT t = 0 := by
   by_cases h1 : errT t = 0
   ·exact h1
   ·unfold delE at h
    rw [if_pos h1] at h
    exact absurd h h1
  exact makeC_len _ (Nat.le_trans (dotsOf_len _ _) (errT_parts h1).2.1)
 ·rw [if_neg h]; decide

end Go.Proofs.YtmoicbmhjmdgdaaGreat

namespace Go.Proofs.YtmoicbmhjmdgdaaGreat
open Go.RowKit Go.Sort Go.Shelf Go.Lib

/-- A number's cell. -/
def encI (x : Int) : List Value := [.int .i64 x]
theorem encI_len (x : Int) : (encI x).length = 1 := rfl
theorem encI_one (x : Int) : ∀ u ∈ encI x, u.oneCell' = true := by
 intro u hu
 simp [encI] at hu
 rw [hu]; rfl
abbrev RowI (w : World) (A : Option Addr) (l : List Int) : Prop := RowG encI 1 w A l
abbrev OwnI (w : World) (base : Nat) (v : Value) (l : List Int) : Prop := OwnG encI 1 3 w base v l

theorem compactUpTo_le (d : Array Int) : ∀ m, (compactUpTo d m).length ≤ m
 | 0 => by simp [compactUpTo]
 | m + 1 => by
  have := compactUpTo_le d m
  rw [compactUpTo_succ, List.length_append]
  split <;> simp <;> omega
theorem compact_le (l : List Int) : (compact l).length ≤ l.length := compactUpTo_le _ _
/-- Rising, each once. -/
def onceL (l : List Int) : List Int := compact (l.mergeSort fun x y => decide (x ≤ y))
theorem onceL_len (l : List Int) : (onceL l).length ≤ l.length := by
 unfold onceL
 refine Nat.le_trans (compact_le _) ?_
 simp

theorem holdsI {w : World} {g : Nat} {l : List Int} (h : RowI w (some ⟨g, 0, none⟩) l) (hf : ∀ j, w.frozen? ⟨g, j, none⟩ = false) : Holds (Value.int .i64) w g 0 l.toArray := by
 intro j hj
 have hj' : j < l.length := by simpa using hj
 obtain ⟨b, off, hA, hb, hc⟩ := h.at hj'
 obtain ⟨rfl, rfl⟩ : g = b ∧ 0 = off := by injection hA with hA; injection hA with h1 h2; exact ⟨h1, h2⟩
 refine ⟨?_, hf _⟩
 have := hc j hj' 0 (by omega)
 have e : l.toArray[j]! = l[j] := by simp [hj']
 rw [e]
 simpa [encI] using this
theorem rowI_of {w : World} {g : Nat} {l m : List Int} (h : Holds (Value.int .i64) w g 0 (l ++ m).toArray) (hg : g < w.heap.size) : RowI w (some ⟨g, 0, none⟩) l := by
 refine Or.inr ⟨g, 0, rfl, hg, fun j hj i hi => ?_⟩
 obtain rfl : i = 0 := by omega
 have h0 := (h j (by simp; omega)).1
 have e : (l ++ m).toArray[j]! = l[j] := by
  have h1 : j < (l ++ m).length := by rw [List.length_append]; omega
  have h2 : (l ++ m).toArray[j]! = (l ++ m)[j] := by
   rw [getElem!_pos (l ++ m).toArray j (by simpa using h1)]
   rfl
  rw [h2, List.getElem_append_left hj]
 rw [e] at h0
 simpa [encI] using h0
theorem below_putI {w : World} {g n base : Nat} {d : Array Int} (hb : base ≤ g) : Below base w (putRow (Value.int .i64) (Sort.ahead w n) g 0 d) := by
 refine ⟨rfl, rfl, rfl, by simp [putRow, mapBlock, Sort.ahead], fun k hk => ?_⟩
 show ((Sort.ahead w n).heap.modify g _)[k]? = _
 rw [Array.getElem?_modify, if_neg (by omega)]
 rfl
theorem size_putI {w : World} {g n : Nat} {d : Array Int} : (putRow (Value.int .i64) (Sort.ahead w n) g 0 d).heap.size = w.heap.size := by simp [putRow, mapBlock, Sort.ahead]

theorem sortI (g cap : Nat) (l : List Int) (w : World) (hH : Holds (Value.int .i64) w g 0 l.toArray) (hg : g < w.heap.size) (hsz : l.length < 4611686018427387904) :
  Calls Tryz.prog 71 #[.slice (some ⟨g, 0, none⟩) l.length cap] w fun e w' => e = .returned (.tuple #[]) ∧ Holds (Value.int .i64) w' g 0 (l.mergeSort fun x y => decide (x ≤ y)).toArray ∧ g < w'.heap.size ∧ ∀ base, base ≤ g → Below base w w' := by
 have hcon := Any.slices_Sort_int Tryz.sortInt g 0 cap l w hH hg hsz
 change Calls Tryz.prog 71 _ _ _ at hcon
 refine hcon.mono ?_
 rintro e w' ⟨he, n, os, hw⟩
 have hs : g < (putRow (Value.int .i64) (Sort.ahead w n) g 0 (l.mergeSort fun x y => decide (x ≤ y)).toArray).heap.size := by rw [size_putI]; exact hg
 refine ⟨he, ?_, ?_, fun base hb => ?_⟩
 ·rw [hw]
  exact holds_grow _ _ _ _ _ _ hs (holds_putRow _ _ _ _ l.toArray _ (holds_ahead _ _ _ _ _ _ hH) (by simp))
 ·rw [hw]; simp only [grow, Array.size_append]; omega
 ·rw [hw]
  refine (below_putI (n := n) (d := (l.mergeSort fun x y => decide (x ≤ y)).toArray) hb).trans ?_
  have hgr : Gr (putRow (Value.int .i64) (Sort.ahead w n) g 0 (l.mergeSort fun x y => decide (x ≤ y)).toArray) (grow (putRow (Value.int .i64) (Sort.ahead w n) g 0 (l.mergeSort fun x y => decide (x ≤ y)).toArray) os) := ⟨0, os, rfl⟩
  exact hgr.below.mono (by rw [size_putI]; omega)

theorem sort_none (A : Option Addr) (cap : Nat) (w : World) : Calls Tryz.prog 71 #[.slice A 0 cap] w fun e w' => e = .returned (.tuple #[]) ∧ w' = w :=
 Any.slices_Sort_int_none Tryz.sortInt A cap w

theorem compactI (g cap : Nat) (l : List Int) (w : World) (hH : Holds (Value.int .i64) w g 0 l.toArray) (hg : g < w.heap.size) (hsz : l.length ≤ 9223372036854775807) (hcap : l.length ≤ cap) :
  Calls Tryz.prog 72 #[.slice (some ⟨g, 0, none⟩) l.length cap] w fun e w' => e = .returned (.slice (some ⟨g, 0, none⟩) (compact l).length cap) ∧ RowI w' (some ⟨g, 0, none⟩) (compact l) ∧ ∀ base, base ≤ g → Below base w w' := by
 have hcon := Any.slices_Compact_int Tryz.compactInt g 0 cap l w hH hsz hcap
 change Calls Tryz.prog 72 _ _ _ at hcon
 refine hcon.mono ?_
 rintro e w' ⟨he, n, hw⟩
 refine ⟨he, ?_, fun base hb => by rw [hw]; exact below_putI hb⟩
 rw [hw]
 refine rowI_of (m := List.replicate (l.length - (compact l).length) 0) (holds_putRow _ _ _ _ l.toArray _ (holds_ahead _ _ _ _ _ _ hH) ?_) (by rw [size_putI]; exact hg)
 have := compact_le l
 simp
 omega
theorem compact_none (A : Option Addr) (cap : Nat) (w : World) : Calls Tryz.prog 72 #[.slice A 0 cap] w fun e w' => e = .returned (.slice A 0 cap) ∧ w' = w :=
 Any.slices_Compact_int_empty Tryz.compactInt A cap w

set_option maxHeartbeats 1000000 in
theorem risingOnce_any (l : List Int) (base : Nat) (v : Value) (w : World) (hown : OwnI w base v l) (hl : l.length < 4611686018427387904) :
  Calls Tryz.prog 47 #[v] w fun e w' => ∃ C cp, e = .returned (.slice C (onceL l).length cp) ∧ RowI w' C (onceL l) ∧ Below base w w' := by
 obtain ⟨A, cap, rfl, hA, hrow, hcap, hlt, hfz⟩ := OwnG.full encI_len hown
 by_cases h0 : l = []
 ·subst h0
  have hz : onceL [] = [] := List.eq_nil_of_length_eq_zero (Nat.le_zero.1 (onceL_len []))
  rw [hz]
  go_enter Tryz.func47, Tryz.ntmps47
  go_wp2_with (first | (go_at_call 71; refine (sort_none _ _ _).mono ?_; rintro e w ⟨rfl, rfl⟩) | (go_at_call 72; refine (compact_none _ _ _).mono ?_; rintro e w ⟨rfl, rfl⟩))
  go_ret
  exact ⟨A, cap, rfl, Or.inl rfl, Below.refl _ _⟩
 ·have hpos : 0 < l.length := List.length_pos_iff.2 h0
  obtain ⟨b, off, hAe, hb, _⟩ := hrow.at hpos
  subst hAe
  have h5 := hlt _ rfl
  obtain rfl : off = 0 := h5.2.2.1
  have hH := holdsI hrow (hfz _ rfl)
  have hs := sortI b cap l w hH hb hl
  have hsH : Hid _ := hs
  have hone : Hid (onceL l = compact (l.mergeSort fun x y => decide (x ≤ y))) := rfl
  clear hs
  go_enter Tryz.func47, Tryz.ntmps47
  go_wp2_with fail
  refine Calls.mono (show Calls _ _ _ _ _ from hsH.out) ?_
  rintro e w1 ⟨rfl, hH1, hg1, hb1⟩
  have hlen : (l.mergeSort fun x y => decide (x ≤ y)).length = l.length := by simp
  have hc := compactI b cap (l.mergeSort fun x y => decide (x ≤ y)) w1 hH1 hg1 (by rw [hlen]; omega) (by rw [hlen]; exact hcap)
  rw [hlen, ← hone.out] at hc
  have hcH : Hid _ := hc
  clear hsH hc hlen hH1
  go_wp2_with fail
  refine Calls.mono (show Calls _ _ _ _ _ from hcH.out) ?_
  rintro e w2 ⟨rfl, hr2, hb2⟩
  go_wp2
  go_ret
  exact ⟨_, _, rfl, hr2, (hb1 base h5.1).trans (hb2 base h5.1)⟩

/-- The values of the cells of a row and column. -/
def valsOf (key col : Int) (l : List Cel) : List Int := (l.filter (fitP key col)).map (·.2.2.2)
/-- The keys of cells. -/
def keysOf (l : List Cel) : List Int := l.map (·.2.1)
theorem valsOf_take {key col : Int} {l : List Cel} {k : Nat} (h : k < l.length) {x : Cel} (hx : l[k] = x) : valsOf key col (l.take (k + 1)) = valsOf key col (l.take k) ++ (if fitP key col x then [x.2.2.2] else []) := by
 unfold valsOf
 rw [List.take_succ_eq_append_getElem h, List.filter_append, List.map_append, hx]
 cases hq : fitP key col x <;> simp [hq]
theorem keysOf_take {l : List Cel} {k : Nat} (h : k < l.length) {x : Cel} (hx : l[k] = x) : keysOf (l.take (k + 1)) = keysOf (l.take k) ++ [x.2.1] := by
 unfold keysOf
 rw [List.take_succ_eq_append_getElem h, List.map_append, hx]
 simp
theorem valsOf_len (key col : Int) (l : List Cel) : (valsOf key col l).length ≤ l.length := by
 unfold valsOf
 rw [List.length_map]
 exact List.length_filter_le _ _
theorem keysOf_len (l : List Cel) : (keysOf l).length ≤ l.length := by unfold keysOf; rw [List.length_map]; exact Nat.le_refl _

theorem Tryz.infoI : (Tryz.prog.info? 3).map (fun i => (i.zero, i.size, i.bytes)) = some (some (.int .i64 0), 1, 8) := by kernel_rfl

theorem rowNewI {W : World} {n : Nat} (hn : W.heap.size = n) (x : Int) (T : TypeId) : RowI (W.alloc (.cells #[.int .i64 x] T)) (some ⟨n, 0, none⟩) [x] := by
 subst hn
 refine Or.inr ⟨W.heap.size, 0, rfl, by simp, fun j hj i hi => ?_⟩
 obtain rfl : j = 0 := by simp at hj; omega
 obtain rfl : i = 0 := by omega
 exact box1 (w := W) (Gr.refl _) (j := 0) rfl

theorem wpList_append_i (w : World) {ops : Array Oper} {rest : List Oper} {o : Oper} {a : Act} {Q : Exit → Act → World → Prop} (hgd : o.guard = none) (s x : Operand)
  (ho : o.op = .call { callee := .builtin .append, args := #[s, x], argTypes := #[28, 28] })
  (base : Nat) (v : Value) (l m : List Int) (A : Option Addr) (cap : Nat) (hs : a.eval s = v) (hx : a.eval x = .slice A m.length cap) (hown : OwnI w base v l) (hr : RowI w A m) (hA : A = none → cap = 0)
  (hml : l.length + m.length ≤ maxLen) (hb : (l.length + m.length) * 8 ≤ 140737488355328) (hbase : base ≤ w.heap.size)
  (h : ∀ v' w', OwnI w' base v' (l ++ m) → w.grownBy w' v.ownBlock → wpList Tryz.prog ops Q rest (a.put o.dst v') w') : wpList Tryz.prog ops Q (o :: rest) a w :=
 wpList_plain hgd fun _ hK => wp_append_g encI_len encI_one (by omega) 28 Tryz.underlying28 (.int .i64 0) 8 Tryz.infoI rfl w s x ho base v l m A cap hs hx hown hr hA hml hb hbase fun v' w' h2 h3 => hK _ _ (h v' w' h2 h3)

set_option maxRecDepth 100000 in
set_option maxHeartbeats 1000000 in
theorem values_any (t : Tab) (A : Option Addr) (ca : Nat) (D : Option Addr) (cd : Nat) (key col : Int) (w : World) (hsz : t.e.length * 40 ≤ 140737488355328) (hr : Row w A t.c.l) (hd : RowC w D t.e) :
  Calls Tryz.prog 29 #[.agg #[.int .i64 t.c.c0, .int .i64 t.c.c1, .int .i64 t.c.c2, .int .i64 t.c.c3, .slice A t.c.l.length ca, .slice D t.e.length cd], .int .i64 key, .int .i64 col] w fun e w' => ∃ C cp, e = .returned (.slice C (onceL (valsOf key col t.e)).length cp) ∧ RowI w' C (onceL (valsOf key col t.e)) ∧ Below w.heap.size w w' := by
 have ht0 : TabAt (w.alloc (.cells #[.int .i64 t.c.c0, .int .i64 t.c.c1, .int .i64 t.c.c2, .int .i64 t.c.c3, .slice A t.c.l.length ca, .slice D t.e.length cd] 48)) w.heap.size t A ca D cd := TabAt.new 48 hr hd rfl
 have hbw0 : Below w.heap.size w (w.alloc (.cells #[.int .i64 t.c.c0, .int .i64 t.c.c1, .int .i64 t.c.c2, .int .i64 t.c.c3, .slice A t.c.l.length ca, .slice D t.e.length cd] 48)) := ((Gr.refl w).alloc _).below
 have k5 := ht0.k5
 go_enter Tryz.func29, Tryz.ntmps29
 go_wp2
 generalize w.alloc (.cells #[.int .i64 t.c.c0, .int .i64 t.c.c1, .int .i64 t.c.c2, .int .i64 t.c.c3, .slice A t.c.l.length ca, .slice D t.e.length cd] 48) = w0 at ht0 hbw0 k5 ⊢
 clear k5
 go_loopw [7, 13] (fun v i wr => ∃ k : Nat, k ≤ t.e.length ∧ i = .int .i64 k ∧ OwnI wr w0.heap.size v (valsOf key col (t.e.take k)) ∧ Below w0.heap.size w0 wr) (fun _ i _ => t.e.length - (intOf i).toNat)
 case atStart => exact ⟨0, by omega, rfl, OwnG.nil _ _ _ _ _, Below.refl _ _⟩
 case round =>
  obtain ⟨k, hk, rfl, hov, hbel⟩ := hrel
  obtain ⟨A1, cap1, rfl, hA1, hrow1, hlt1⟩ := OwnG.row encI_len hov
  have htR := ht0.below hbel
  have hsR : w0.heap.size ≤ wr.heap.size := hbel.size
  by_cases hlt : k < t.e.length
  ·have hltz : (k : Int) < (t.e.length : Int) := by omega
   obtain ⟨bb, off, rfl, hb, hcs⟩ := RowC.get htR.rowC hlt
   obtain ⟨x, hx⟩ : ∃ x, t.e[k] = x := ⟨_, rfl⟩
   obtain ⟨e0, e1, e2, e3, e4⟩ := hcs k hlt
   rw [hx] at e0 e1 e2 e3 e4
   have hst := valsOf_take (key := key) (col := col) hlt hx
   clear hcs hx
   obtain ⟨M, HM⟩ : ∃ M, valsOf key col (t.e.take k) = M := ⟨_, rfl⟩
   have hMl : M.length ≤ t.e.length := by rw [← HM]; exact Nat.le_trans (valsOf_len _ _ _) (by rw [List.length_take]; omega)
   rw [HM] at hov hst hrow1 ⊢
   clear HM
   have hovH : Hid (OwnI wr w0.heap.size (.slice A1 M.length cap1) M) := hov
   have hbelH : Hid (Below w0.heap.size w0 wr) := hbel
   have hgX : Gr wr (wr.alloc (.cells #[.int .i64 x.1.1, .int .i64 x.1.2, .int .i64 x.2.1, .int .i64 x.2.2.1, .int .i64 x.2.2.2] 87)) := (Gr.refl _).alloc _
   obtain ⟨x0, x1, x2, x3, x4, xlt⟩ := (show CelAt _ _ _ from CelAt.new (w := wr) x 87 rfl)
   clear hov hbel hrow1
   by_cases hq : x.2.1 = key
   ·have hqb : (x.2.1 == key) = true := by simpa using hq
    by_cases hq2 : x.2.2.1 = col
    ·have hqb2 : (x.2.2.1 == col) = true := by simpa using hq2
     have hst2 : Hid (valsOf key col (t.e.take (k + 1)) = M ++ [x.2.2.2]) := by show _ = _; rw [hst, if_pos (by simp [fitP, hq, hq2])]
     have hbd : Hid (M.length + [x.2.2.2].length ≤ maxLen ∧ (M.length + [x.2.2.2].length) * 8 ≤ 140737488355328) := by show _ ∧ _; unfold maxLen; simp only [List.length_cons, List.length_nil]; omega
     clear hst hq hq2
     go_wp2_with (at_builtin; refine wpList_append_i _ rfl _ _ rfl w0.heap.size (.slice A1 M.length cap1) M [x.2.2.2] (some ⟨wr.heap.size + 1, 0, none⟩) 1 rfl rfl ?ho ?hr (fun h => by cases h) hbd.out.1 hbd.out.2 ?hs ?_)
     case ho => exact hovH.out.gr (hgX.alloc _)
     case hr => exact rowNewI (by simp) _ _
     case hs => simp; omega
     intro v1 w3 hown1 hgr1
     have hb3 : Hid (Below w0.heap.size w0 w3) := hbelH.out.trans (((hgX.alloc _).below.mono hsR).trans (OwnG.grown_below (hovH.out.gr (hgX.alloc _)) hgr1 (by simp; omega)))
     have hownH : Hid (OwnI w3 w0.heap.size v1 (M ++ [x.2.2.2])) := hown1
     clear hown1 hgr1
     go_wp2
     go_roundw
     case rel => exact ⟨k + 1, by omega, by go_num, by rw [hst2.out]; exact hownH.out, hb3.out⟩
     case measure => simp [intOf]; omega
    ·have hqb2 : (x.2.2.1 == col) = false := by simpa using hq2
     have hst2 : Hid (valsOf key col (t.e.take (k + 1)) = M) := by show _ = _; rw [hst, if_neg (by simp [fitP, hq2])]; simp
     clear hst hq hq2
     go_wp2
     go_roundw
     case rel => exact ⟨k + 1, by omega, by go_num, by rw [hst2.out]; exact hovH.out.gr hgX, hbelH.out.trans (hgX.below.mono hsR)⟩
     case measure => simp [intOf]; omega
   ·have hqb : (x.2.1 == key) = false := by simpa using hq
    have hst2 : Hid (valsOf key col (t.e.take (k + 1)) = M) := by show _ = _; rw [hst, if_neg (by simp [fitP, hq])]; simp
    clear hst hq
    go_wp2
    go_roundw
    case rel => exact ⟨k + 1, by omega, by go_num, by rw [hst2.out]; exact hovH.out.gr hgX, hbelH.out.trans (hgX.below.mono hsR)⟩
    case measure => simp [intOf]; omega
  ·have hltz : ¬ (k : Int) < (t.e.length : Int) := by omega
   have hke : t.e.take k = t.e := List.take_of_length_le (by omega)
   rw [hke] at hov hrow1 ⊢
   clear hke
   have hMl : (valsOf key col t.e).length ≤ t.e.length := valsOf_len _ _ _
   obtain ⟨M, HM⟩ : ∃ M, valsOf key col t.e = M := ⟨_, rfl⟩
   rw [HM] at hov hrow1 hMl ⊢
   have HMH : Hid (valsOf key col t.e = M) := HM
   clear HM
   have hro := risingOnce_any M w0.heap.size _ wr hov (by omega)
   have hroH : Hid _ := hro
   have hbwR : Below w.heap.size w wr := hbw0.trans (hbel.mono hbw0.size)
   have hbs := hbw0.size
   clear hro hov hrow1
   go_wp2_with fail
   refine Calls.mono (show Calls _ _ _ _ _ from hroH.out) ?_
   rintro e w2 ⟨C, cp, rfl, hr2, hb2⟩
   clear hroH
   go_wp2
   go_ret
   rw [HMH.out]
   exact ⟨C, cp, rfl, hr2, hbwR.trans (hb2.mono hbs)⟩

set_option maxRecDepth 100000 in
set_option maxHeartbeats 1000000 in
theorem keys_any (t : Tab) (A : Option Addr) (ca : Nat) (D : Option Addr) (cd : Nat) (w : World) (hsz : t.e.length * 40 ≤ 140737488355328) (hr : Row w A t.c.l) (hd : RowC w D t.e) :
  Calls Tryz.prog 27 #[.agg #[.int .i64 t.c.c0, .int .i64 t.c.c1, .int .i64 t.c.c2, .int .i64 t.c.c3, .slice A t.c.l.length ca, .slice D t.e.length cd]] w fun e w' => ∃ C cp, e = .returned (.slice C (onceL (keysOf t.e)).length cp) ∧ RowI w' C (onceL (keysOf t.e)) ∧ Below w.heap.size w w' := by
 have ht0 : TabAt (w.alloc (.cells #[.int .i64 t.c.c0, .int .i64 t.c.c1, .int .i64 t.c.c2, .int .i64 t.c.c3, .slice A t.c.l.length ca, .slice D t.e.length cd] 48)) w.heap.size t A ca D cd := TabAt.new 48 hr hd rfl
 have hbw0 : Below w.heap.size w (w.alloc (.cells #[.int .i64 t.c.c0, .int .i64 t.c.c1, .int .i64 t.c.c2, .int .i64 t.c.c3, .slice A t.c.l.length ca, .slice D t.e.length cd] 48)) := ((Gr.refl w).alloc _).below
 have k5 := ht0.k5
 go_enter Tryz.func27, Tryz.ntmps27
 go_wp2
 generalize w.alloc (.cells #[.int .i64 t.c.c0, .int .i64 t.c.c1, .int .i64 t.c.c2, .int .i64 t.c.c3, .slice A t.c.l.length ca, .slice D t.e.length cd] 48) = w0 at ht0 hbw0 k5 ⊢
 clear k5
 go_loopw [3, 9] (fun v i wr => ∃ k : Nat, k ≤ t.e.length ∧ i = .int .i64 k ∧ OwnI wr w0.heap.size v (keysOf (t.e.take k)) ∧ Below w0.heap.size w0 wr) (fun _ i _ => t.e.length - (intOf i).toNat)
 case atStart => exact ⟨0, by omega, rfl, OwnG.nil _ _ _ _ _, Below.refl _ _⟩
 case round =>
  obtain ⟨k, hk, rfl, hov, hbel⟩ := hrel
  obtain ⟨A1, cap1, rfl, hA1, hrow1, hlt1⟩ := OwnG.row encI_len hov
  have htR := ht0.below hbel
  have hsR : w0.heap.size ≤ wr.heap.size := hbel.size
  by_cases hlt : k < t.e.length
  ·have hltz : (k : Int) < (t.e.length : Int) := by omega
   obtain ⟨bb, off, rfl, hb, hcs⟩ := RowC.get htR.rowC hlt
   obtain ⟨x, hx⟩ : ∃ x, t.e[k] = x := ⟨_, rfl⟩
   obtain ⟨e0, e1, e2, e3, e4⟩ := hcs k hlt
   rw [hx] at e0 e1 e2 e3 e4
   have hst := keysOf_take hlt hx
   clear hcs hx
   obtain ⟨M, HM⟩ : ∃ M, keysOf (t.e.take k) = M := ⟨_, rfl⟩
   have hMl : M.length ≤ t.e.length := by rw [← HM]; exact Nat.le_trans (keysOf_len _) (by rw [List.length_take]; omega)
   rw [HM] at hov hst hrow1 ⊢
   clear HM
   have hovH : Hid (OwnI wr w0.heap.size (.slice A1 M.length cap1) M) := hov
   have hbelH : Hid (Below w0.heap.size w0 wr) := hbel
   have hgX : Gr wr (wr.alloc (.cells #[.int .i64 x.1.1, .int .i64 x.1.2, .int .i64 x.2.1, .int .i64 x.2.2.1, .int .i64 x.2.2.2] 87)) := (Gr.refl _).alloc _
   obtain ⟨x0, x1, x2, x3, x4, xlt⟩ := (show CelAt _ _ _ from CelAt.new (w := wr) x 87 rfl)
   clear hov hbel hrow1
   have hst2 : Hid (keysOf (t.e.take (k + 1)) = M ++ [x.2.1]) := by show _ = _; rw [hst]
   have hbd : Hid (M.length + [x.2.1].length ≤ maxLen ∧ (M.length + [x.2.1].length) * 8 ≤ 140737488355328) := by show _ ∧ _; unfold maxLen; simp only [List.length_cons, List.length_nil]; omega
   clear hst
   go_wp2_with (at_builtin; refine wpList_append_i _ rfl _ _ rfl w0.heap.size (.slice A1 M.length cap1) M [x.2.1] (some ⟨wr.heap.size + 1, 0, none⟩) 1 rfl rfl ?ho ?hr (fun h => by cases h) hbd.out.1 hbd.out.2 ?hs ?_)
   case ho => exact hovH.out.gr (hgX.alloc _)
   case hr => exact rowNewI (by simp) _ _
   case hs => simp; omega
   intro v1 w3 hown1 hgr1
   have hb3 : Hid (Below w0.heap.size w0 w3) := hbelH.out.trans (((hgX.alloc _).below.mono hsR).trans (OwnG.grown_below (hovH.out.gr (hgX.alloc _)) hgr1 (by simp; omega)))
   have hownH : Hid (OwnI w3 w0.heap.size v1 (M ++ [x.2.1])) := hown1
   clear hown1 hgr1
   go_wp2
   go_roundw
   case rel => exact ⟨k + 1, by omega, by go_num, by rw [hst2.out]; exact hownH.out, hb3.out⟩
   case measure => simp [intOf]; omega
  ·have hltz : ¬ (k : Int) < (t.e.length : Int) := by omega
   have hke : t.e.take k = t.e := List.take_of_length_le (by omega)
   rw [hke] at hov hrow1 ⊢
   clear hke
   have hMl : (keysOf t.e).length ≤ t.e.length := keysOf_len _
   obtain ⟨M, HM⟩ : ∃ M, keysOf t.e = M := ⟨_, rfl⟩
   rw [HM] at hov hrow1 hMl ⊢
   have HMH : Hid (keysOf t.e = M) := HM
   clear HM
   have hro := risingOnce_any M w0.heap.size _ wr hov (by omega)
   have hroH : Hid _ := hro
   have hbwR : Below w.heap.size w wr := hbw0.trans (hbel.mono hbw0.size)
   have hbs := hbw0.size
   clear hro hov hrow1
   go_wp2_with fail
   refine Calls.mono (show Calls _ _ _ _ _ from hroH.out) ?_
   rintro e w2 ⟨C, cp, rfl, hr2, hb2⟩
   clear hroH
   go_wp2
   go_ret
   rw [HMH.out]
   exact ⟨C, cp, rfl, hr2, hbwR.trans (hb2.mono hbs)⟩

end Go.Proofs.YtmoicbmhjmdgdaaGreat

namespace Go.Proofs.YtmoicbmhjmdgdaaGreat
open Go.RowKit Go.Sort Go.Shelf Go.Lib

theorem onceL_one (x : Int) : onceL [x] = [x] := by
 unfold onceL
 rw [show ([x] : List Int).mergeSort (fun x y => decide (x ≤ y)) = [x] from by simp]
 rfl

theorem rowI_cellK {w : World} {b off : Nat} {l : List Int} (h : RowI w (some ⟨b, off, none⟩) l) : ∀ j, j < l.length → w.cell? ⟨b, off + j, none⟩ = some (.int .i64 (l.getD j 0)) := by
 intro j hj
 obtain ⟨b', off', hA, _, hc⟩ := h.at hj
 obtain ⟨rfl, rfl⟩ : b = b' ∧ off = off' := by injection hA with hA; injection hA with h1 h2; exact ⟨h1, h2⟩
 have := hc j hj 0 (by omega)
 have e : l.getD j 0 = l[j] := by simp [hj]
 rw [e]
 simpa [encI] using this
/-- slices.Equal at numbers. -/
theorem equalI_anyK (l m : List Int) (A B : Option Addr) (c d : Nat) (w : World) (hl : l.length ≤ 9223372036854775807) (hm : m.length ≤ 9223372036854775807) (hr : RowI w A l) (hs : RowI w B m) :
  Calls Tryz.prog 23 #[.slice A l.length c, .slice B m.length d] w fun e w' => e = .returned (.bool (decide (l = m))) ∧ Gr w w' := by
 by_cases h0 : l = []
 ·subst h0
  have h := Any.slices_Equal_int_empty Tryz.equalInt A B c m.length d w hm
  change Calls Tryz.prog 23 _ _ _ at h
  refine h.mono ?_
  rintro e w' ⟨rfl, rfl⟩
  refine ⟨?_, Gr.refl _⟩
  have : decide (m.length = 0) = decide ([] = m) := by cases m <;> simp
  rw [this]
 ·by_cases h1 : m = []
  ·subst h1
   have hpos : 0 < l.length := List.length_pos_iff.2 h0
   have hlz : ((l.length : Int) != 0) = true := by simp; omega
   have hd0 : decide (l = []) = false := by simp [h0]
   rw [hd0]
   clear hd0 h0
   go_enter Tryz.func23, Tryz.ntmps23
   go_wp2
   go_ret
   exact ⟨rfl, Gr.refl _⟩
  ·have hpos : 0 < l.length := List.length_pos_iff.2 h0
   have hpos1 : 0 < m.length := List.length_pos_iff.2 h1
   obtain ⟨b, off, rfl, _, _⟩ := hr.at hpos
   obtain ⟨b', off', rfl, _, _⟩ := hs.at hpos1
   have h := Any.slices_Equal_int Tryz.equalInt b off l.length c b' off' m.length d l m w (Nat.le_refl _) (Nat.le_refl _) hl hm (rowI_cellK hr) (rowI_cellK hs)
   change Calls Tryz.prog 23 _ _ _ at h
   refine h.mono ?_
   rintro e w' ⟨rfl, q, rfl⟩
   refine ⟨?_, ⟨q, #[], by rw [grow_empty]⟩⟩
   simp only [List.take_length]
   by_cases hlm : l = m <;> simp [hlm]

end Go.Proofs.YtmoicbmhjmdgdaaGreat
