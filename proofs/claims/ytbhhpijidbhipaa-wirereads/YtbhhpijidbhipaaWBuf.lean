/-
  Bytes in memory of the call's own; wire.fold and wire.appendNumbers: numbers put behind them.
-/
import Derived.Test.YtbhhpijidbhipaaQInts
import Derived.Test.YtbhhpijidbhipaaWMath
import Derived.Laws.BitsAllLaws
namespace Go.Proofs.Ytbhhpijidbhipaa
open Go.RowKit Go.Sort

/-- A byte's cell. -/
def encB (x : UInt8) : List Value := [.int .u8 x.toNat]
theorem encB_len (x : UInt8) : (encB x).length = 1 := rfl
theorem encB_one (x : UInt8) : ∀ u ∈ encB x, u.oneCell' = true := by
  intro u hu
  simp [encB] at hu
  rw [hu]; rfl
theorem Try.infoB : (Try.prog.info? 5).map (fun i => (i.zero, i.size, i.bytes)) = some (some (.int .u8 0), 1, 1) := by kernel_rfl
abbrev OwnB (w : World) (base : Nat) (v : Value) (l : List UInt8) : Prop := OwnG encB 1 5 w base v l
/-- What was there before, but for what v owns, is as it was; what v' owns is that, or new. -/
structure Grw (w w' : World) (v v' : Value) : Prop where
  g : w.grownBy w' v.ownBlock
  o : ∀ k, v'.ownBlock = some k → v.ownBlock = some k ∨ w.heap.size ≤ k
theorem Grw.refl (w : World) (v : Value) : Grw w w v v := ⟨World.grownBy.refl _ _, fun _ h => Or.inl h⟩
theorem Grw.trans {a b c : World} {u v x : Value} (h : Grw a b u v) (k : Grw b c v x) : Grw a c u x :=
  ⟨h.g.andThen k.g (fun j hj => (h.o j hj).symm), fun j hj => by
    rcases k.o j hj with h1 | h1
    · exact h.o j h1
    · exact Or.inr (Nat.le_trans h.g.size h1)⟩
theorem grown_of_below {w w' : World} (h : Below w.heap.size w w') (row : Option Nat) : w.grownBy w' row := ⟨h.os, h.tape, h.output, h.size, fun k hk _ => h.block k hk⟩
theorem Grw.gr {a b c : World} {u v : Value} (h : Grw a b u v) (k : Gr b c) : Grw a c u v := h.trans ⟨grown_of_below k.below _, fun _ h => Or.inl h⟩
theorem Grw.pre {a b c : World} {u v : Value} (k : Gr a b) (h : Grw b c u v) : Grw a c u v :=
  ⟨World.grownBy.andThen (grown_of_below k.below _) h.g (fun j hj => Or.inr hj), fun j hj => by
    rcases h.o j hj with h1 | h1
    · exact Or.inl h1
    · exact Or.inr (Nat.le_trans k.size h1)⟩
theorem Grw.cell {w w' : World} {v v' : Value} (h : Grw w w' v v') {b j : Nat} (hb : b < w.heap.size) (hne : v.ownBlock ≠ some b) : w'.cell? ⟨b, j, none⟩ = w.cell? ⟨b, j, none⟩ := h.g.cell_far ⟨b, j, none⟩ hb (Ne.symm hne)
theorem RowG.grw {α : Type} {enc : α → List Value} {k : Nat} {w w' : World} {A : Option Addr} {l : List α} {v v' : Value} (h : RowG enc k w A l) (q : Grw w w' v v') (hne : ∀ a, A = some a → v.ownBlock ≠ some a.block) : RowG enc k w' A l := by
  rcases h with h | ⟨b, off, rfl, hb, hc⟩
  · exact Or.inl h
  · exact Or.inr ⟨b, off, rfl, Nat.lt_of_lt_of_le hb q.g.size, fun j hj i hi => (q.cell hb (hne _ rfl)).trans (hc j hj i hi)⟩
theorem OwnG.lt_own {α : Type} {enc : α → List Value} {k : Nat} {e : TypeId} {w : World} {base : Nat} {v : Value} {l : List α} (h : OwnG enc k e w base v l) {j : Nat} (hj : v.ownBlock = some j) : base ≤ j ∧ j < w.heap.size := World.ownsRow.lt h j hj
theorem OwnG.ne_low {α : Type} {enc : α → List Value} {k : Nat} {e : TypeId} {w : World} {base : Nat} {v : Value} {l : List α} (h : OwnG enc k e w base v l) {j : Nat} (hj : j < base) : v.ownBlock ≠ some j := fun e => by have := h.lt_own e; omega
theorem OwnG.ne_new {α : Type} {enc : α → List Value} {k : Nat} {e : TypeId} {w : World} {base : Nat} {v : Value} {l : List α} (h : OwnG enc k e w base v l) {j : Nat} (hj : w.heap.size ≤ j) : v.ownBlock ≠ some j := fun e => by have := h.lt_own e; omega
theorem OwnG.grw_below {α : Type} {enc : α → List Value} {k : Nat} {e : TypeId} {w w' : World} {base : Nat} {v v' : Value} {l : List α} (h : OwnG enc k e w base v l) (q : Grw w w' v v') (hb : base ≤ w.heap.size) : Below base w w' := OwnG.grown_below h q.g hb

theorem rowNewB {W : World} {n : Nat} (hn : W.heap.size = n) (x : UInt8) (T : TypeId) : RowG encB 1 (W.alloc (.cells #[.int .u8 x.toNat] T)) (some ⟨n, 0, none⟩) [x] := by
  subst hn
  refine Or.inr ⟨W.heap.size, 0, rfl, by simp, fun j hj i hi => ?_⟩
  obtain rfl : j = 0 := by simp at hj; omega
  obtain rfl : i = 0 := by omega
  exact box1 (w := W) (Gr.refl _) (j := 0) rfl

theorem wpList_append_b (w : World) {ops : Array Oper} {rest : List Oper} {o : Oper} {a : Act} {Q : Exit → Act → World → Prop} (hgd : o.guard = none) (s x : Operand)
    (ho : o.op = .call { callee := .builtin .append, args := #[s, x], argTypes := #[47, 47] })
    (base : Nat) (v : Value) (l m : List UInt8) (ad : Addr) (n cap : Nat) (hn : m.length = n) (hs : a.eval s = v) (hx : a.eval x = .slice (some ad) n cap) (hown : OwnB w base v l) (hr : RowG encB 1 w (some ad) m)
    (hml : l.length + m.length ≤ 140737488355328) (hbase : base ≤ w.heap.size)
    (h : ∀ v' w', OwnB w' base v' (l ++ m) → Grw w w' v v' → wpList Try.prog ops Q rest (a.put o.dst v') w') : wpList Try.prog ops Q (o :: rest) a w := wpList_plain hgd fun K hK => by
  subst hn
  obtain ⟨i0, hi, hz0, hz1, hz2⟩ := info_parts Try.infoB
  obtain ⟨v', w', g1, g2, g3, _, g5⟩ := run_append_own_at (P := Try.prog) w base 47 o.type 5 i0 (.int .u8 0) 1 1 Try.underlying47 hi hz0 hz1 hz2 rfl (by omega) v l.length (flatG encB l) hown ad m.length cap (flatG encB m) (flatG_length encB_len m) (hr.cells encB_len (by omega)) (fun u hu => flatG_one encB_one u m hu) (by unfold maxLen; omega) (by omega) hbase
  unfold Oper.wp execOp
  simp only [ho, resolve, invoke, builtin, Sem.run_bind, Sem.run_pure, Result.andThen_ok, List.map_toArray, List.map_cons, List.map_nil, hs, hx, g1]
  refine hK _ _ (h v' w' ?_ ⟨g3, fun k hk => ?_⟩)
  · show w'.ownsRow base _ 1 v' (l ++ m).length (flatG encB (l ++ m))
    rw [List.length_append, flatG_append]
    exact g2
  · rcases g5 with g5 | g5
    · exact Or.inl (by rw [← g5]; exact hk)
    · rw [g5] at hk
      injection hk with hk
      exact Or.inr (by omega)

theorem bytes_map (l : List UInt8) : (l.map fun c => (c.toNat : Int)).map (fun n => UInt8.ofNat n.toNat) = l := by
  induction l with
  | nil => rfl
  | cons c t ih => simp only [List.map_cons, ih]; congr 1; simp
/-- Bytes of one's own as a text. -/
theorem conv_own {w : World} {base : Nat} {A : Option Addr} {n cap : Nat} {l : List UInt8} (h : OwnB w base (.slice A n cap) l) (hl : l ≠ []) : (convert 47 9 (.slice A n cap)).run Try.prog w = .ok (.string ⟨l.toArray⟩) w := by
  obtain ⟨A', cap', hv, _, hrow, _⟩ := OwnG.row encB_len h
  injection hv with h1 h2 h3
  subst h1 h2 h3
  obtain ⟨b, off, rfl, _, hc⟩ := hrow.at (List.length_pos_iff.2 hl)
  have hq := run_convert_bytes_arg (P := Try.prog) w 47 5 Try.underlying47 Try.underlying5 b off l.length cap (l.map fun c => (c.toNat : Int)) (by simp) (fun i hi => by
    have := hc i hi 0 (by omega)
    rw [Nat.mul_one, Nat.add_zero] at this
    rw [this]
    simp [encB, hi]) 9 Try.underlying9
  rw [hq]
  congr 2
  simp only [strOfNums]
  congr 1
  simp only [bytes_map]

theorem or128 (u : Nat) : u % 256 ||| 128 = 128 + u % 128 := by
  have h : ∀ x, x < 256 → x ||| 128 = 128 + x % 128 := by decide +kernel
  rw [h _ (Nat.mod_lt _ (by decide))]
  omega

theorem fold_any (n : Int) (w : World) : Calls Try.prog 35 #[.int .i64 n] w fun e w' => e = .returned (.int .u64 (zigN (clampN n))) ∧ w' = w := by
  obtain ⟨m, hm⟩ : ∃ m, clampN n = m := ⟨_, rfl⟩
  have hmm : min (max n (-2305843009213693952)) 2305843009213693952 = m := by unfold clampN at hm; omega
  have hb : -2305843009213693952 ≤ m ∧ m ≤ 2305843009213693952 := by omega
  rw [hm]
  clear hm
  unfold zigN
  by_cases h0 : m < 0
  · rw [if_pos h0]
    go_enter Try.func35, Try.ntmps35
    go_wp2
    go_ret
    exact ⟨by go_num, rfl⟩
  · rw [if_neg h0]
    go_enter Try.func35, Try.ntmps35
    go_wp2
    go_ret
    exact ⟨by go_num, rfl⟩
end Go.Proofs.Ytbhhpijidbhipaa
