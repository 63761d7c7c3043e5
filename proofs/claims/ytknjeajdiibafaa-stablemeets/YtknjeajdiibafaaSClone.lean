/-
  slices.Clone, IndexFunc and ContainsFunc at contexts; one more context in a list.
-/
import Derived.Test.YtknjeajdiibafaaSMath
import Derived.Test.YtknjeajdiibafaaLess
import Derived.Shelf.Slices.Clone
namespace Go.Proofs.Ytknjeajdiibafaa
open Go.RowKit Go.Sort

theorem Try.infoCx : (Try.prog.info? 25).map (fun i => (i.zero, i.size, i.bytes)) = some (some (.agg #[.int .i64 0, .int .i64 0, .int .i64 0, .int .i64 0, .slice none 0 0]), 5, 56) := by kernel_rfl
/-- The value v owns a list of contexts. -/
abbrev OwnCx (w : World) (base : Nat) (v : Value) (l : List Cx) : Prop := OwnG encX 5 25 w base v l
theorem wpList_append_cx (w : World) {ops : Array Oper} {rest : List Oper} {o : Oper} {a : Act} {Q : Exit → Act → World → Prop} (hgd : o.guard = none) (s x : Operand)
    (ho : o.op = .call { callee := .builtin .append, args := #[s, x], argTypes := #[29, 29] })
    (base : Nat) (v : Value) (l m : List Cx) (A : Option Addr) (cap : Nat) (hs : a.eval s = v) (hx : a.eval x = .slice A m.length cap) (hown : OwnCx w base v l) (hr : RowG encX 5 w A m) (hA : A = none → cap = 0)
    (hml : l.length + m.length ≤ maxLen) (hb : (l.length + m.length) * 56 ≤ 140737488355328) (hbase : base ≤ w.heap.size)
    (h : ∀ v' w', OwnCx w' base v' (l ++ m) → w.grownBy w' v.ownBlock → wpList Try.prog ops Q rest (a.put o.dst v') w') : wpList Try.prog ops Q (o :: rest) a w :=
  wpList_plain hgd fun _ hK => wp_append_g encX_len encX_one (by omega) 29 Try.underlying29 (.agg #[.int .i64 0, .int .i64 0, .int .i64 0, .int .i64 0, .slice none 0 0]) 56 Try.infoCx rfl w s x ho base v l m A cap hs hx hown hr hA hml hb hbase fun v' w' h2 h3 => hK _ _ (h v' w' h2 h3)
theorem step_append_cx (w : World) {ops : Array Oper} {o : Oper} {a : Act} {K : Act → World → Prop} {Q : Exit → Act → World → Prop} {E : Prop} (hgd : o.guard = none) (s x : Operand)
    (ho : o.op = .call { callee := .builtin .append, args := #[s, x], argTypes := #[29, 29] })
    (base : Nat) (v : Value) (l m : List Cx) (A : Option Addr) (cap : Nat) (hs : a.eval s = v) (hx : a.eval x = .slice A m.length cap) (hown : OwnCx w base v l) (hr : RowG encX 5 w A m) (hA : A = none → cap = 0)
    (hml : l.length + m.length ≤ maxLen) (hb : (l.length + m.length) * 56 ≤ 140737488355328) (hbase : base ≤ w.heap.size)
    (h : ∀ v' w', OwnCx w' base v' (l ++ m) → w.grownBy w' v.ownBlock → K (a.put o.dst v') w') :
    if Region.wanted o (yielded ops a.tmps) = true then Oper.wp Try.prog o a w K Q else E := by
  have hw : Region.wanted o (yielded ops a.tmps) = true := by simp [Region.wanted, hgd]
  rw [if_pos hw]
  exact wp_append_g encX_len encX_one (by omega) 29 Try.underlying29 (.agg #[.int .i64 0, .int .i64 0, .int .i64 0, .int .i64 0, .slice none 0 0]) 56 Try.infoCx rfl w s x ho base v l m A cap hs hx hown hr hA hml hb hbase h
theorem ZAt.grownB {w w' : World} {B : Nat} {row : Option Nat} (h : ZAt w B) (hg : w.grownBy w' row) (hB : some B ≠ row) : ZAt w' B := by
  have hb : w'.heap[B]? = w.heap[B]? := hg.block B h.lt (fun e => hB e)
  have hc : ∀ i, w'.cell? ⟨B, i, none⟩ = w.cell? ⟨B, i, none⟩ := fun i => World.cell?_of_block (w := w) (by exact hb)
  exact ⟨(hc 0).trans h.k0, (hc 1).trans h.k1, (hc 2).trans h.k2, (hc 3).trans h.k3, (hc 4).trans h.k4, fun j => by rw [← h.fz j]; unfold World.frozen?; simp only [hb], Nat.lt_of_lt_of_le h.lt hg.size⟩
set_option maxRecDepth 100000 in
set_option maxHeartbeats 400000 in
theorem cloneX_any (q : List Cx) (A : Option Addr) (cap : Nat) (w : World) (hl : q.length * 56 ≤ 140737488351232) (hr : RowG encX 5 w A q) (hA : A = none → cap = 0) :
    Calls Try.prog 12 #[.slice A q.length cap] w fun e w' => ∃ v, e = .returned v ∧ OwnCx w' w.heap.size v q ∧ Below w.heap.size w w' := by
  have hrH : Hid (RowG encX 5 w A q) := hr
  clear hr
  have q22 : ∀ (w : World) (a : Option Addr) (n c n' c' : Nat), (binOp .eql 29 (.slice a n c) (.slice none n' c')).run Try.prog w = .ok (.bool a.isNone) w := fun w a n c n' c' => Lib.run_eql_slice_nil w _ _ a n c n' c' Try.underlying29
  cases A with
  | none =>
    have hq0 : Hid (q = []) := by
      rcases hrH.out with h | ⟨_, _, h, _⟩
      · exact h
      · cases h
    go_enter Try.func12, Try.ntmps12
    go_wp2
    go_ret
    rw [hq0.out]
    exact ⟨_, rfl, OwnG.nil _ _ _ _ _, Below.refl _ _⟩
  | some ad =>
    go_enter Try.func12, Try.ntmps12
    have hoX : Hid (OwnCx (w.alloc (.cells #[] 25)) w.heap.size (.slice (some ⟨w.heap.size, 0, none⟩) 0 0) [] ∧ RowG encX 5 (w.alloc (.cells #[] 25)) (some ad) q ∧ ([] : List Cx).length + q.length ≤ maxLen ∧ (([] : List Cx).length + q.length) * 56 ≤ 140737488355328 ∧ w.heap.size ≤ (w.alloc (.cells #[] 25)).heap.size) :=
      ⟨⟨rfl, Or.inr ⟨w.heap.size, 0, #[], rfl, Nat.le_refl _, (MapKept.heap_alloc _ _).1, Nat.le_refl _, by simp, rfl, rfl⟩⟩, hrH.out.gr ((Gr.refl _).alloc _), by unfold maxLen; simp; omega, by simp; omega, by simp⟩
    go_wp2_with (at_builtin; refine wpList_append_cx _ rfl (.tmp 5) (.tmp 6) rfl w.heap.size (.slice (some ⟨w.heap.size, 0, none⟩) 0 0) [] q (some ad) cap rfl rfl hoX.out.1 hoX.out.2.1 (fun h => by cases h) hoX.out.2.2.1 hoX.out.2.2.2.1 hoX.out.2.2.2.2 ?_; intro v1 w1 hown1 hgr1)
    have hfin : Hid (OwnCx w1 w.heap.size v1 q ∧ Below w.heap.size w w1) := ⟨hown1, ((Gr.refl w).alloc _).below.trans (OwnG.grown_below hoX.out.1 hgr1 hoX.out.2.2.2.2)⟩
    clear hown1 hgr1
    go_ret
    exact ⟨v1, rfl, hfin.out⟩

/-- What the function that StableMeets hands in answers. -/
def missP (x : Int × Int) (y : Cx) : Bool := !hasB y.c x
set_option maxHeartbeats 1000000 in
theorem missP_any (x : Int × Int) (p : Nat) (y : Cx) (w : World) (hp : p < w.heap.size) (k0 : w.cell? ⟨p, 0, none⟩ = some (.int .i64 x.1)) (k1 : w.cell? ⟨p, 1, none⟩ = some (.int .i64 x.2)) (hl : y.c.l.length ≤ maxLen) (hr : Row w y.p y.c.l) :
    Calls Try.prog 14 #[.agg #[.int .i64 y.c.c0, .int .i64 y.c.c1, .int .i64 y.c.c2, .int .i64 y.c.c3, .slice y.p y.c.l.length y.n], .pointer (some ⟨p, 0, none⟩)] w fun e w' => e = .returned (.bool (missP x y)) ∧ Gr w w' := by
  have hg0 : Gr w (w.alloc (.cells #[.int .i64 y.c.c0, .int .i64 y.c.c1, .int .i64 y.c.c2, .int .i64 y.c.c3, .slice y.p y.c.l.length y.n] 25)) := (Gr.refl w).alloc _
  have m0 := (hg0.cell (p := ⟨p, 0, none⟩) hp).trans k0
  have m1 := (hg0.cell (p := ⟨p, 1, none⟩) hp).trans k1
  have hh := has_any y.c y.p y.n x (w.alloc (.cells #[.int .i64 y.c.c0, .int .i64 y.c.c1, .int .i64 y.c.c2, .int .i64 y.c.c3, .slice y.p y.c.l.length y.n] 25)) hl (hr.gr hg0)
  have hhH : Hid _ := hh
  clear hh k0 k1
  go_enter Try.func14, Try.ntmps14
  go_wp2_with fail
  refine Calls.mono (show Calls _ _ _ _ _ from hhH.out) ?_
  rintro e w1 ⟨rfl, hg1⟩
  clear hhH
  go_wp2
  go_ret
  exact ⟨rfl, hg0.trans hg1⟩

set_option maxHeartbeats 1000000 in
theorem indexFuncX_any (x : Int × Int) (p : Nat) (l : List Cx) (A : Option Addr) (cap : Nat) (w : World) (hl : l.length ≤ maxLen) (hr : Cxs w A l) (hp : p < w.heap.size) (k0 : w.cell? ⟨p, 0, none⟩ = some (.int .i64 x.1)) (k1 : w.cell? ⟨p, 1, none⟩ = some (.int .i64 x.2)) :
    Calls Try.prog 29 #[.slice A l.length cap, .func (.func 14) #[] #[.pointer (some ⟨p, 0, none⟩)]] w fun e w' => ∃ r : Int, e = .returned (.int .i64 r) ∧ Hid (decide (0 ≤ r) = l.any (missP x)) ∧ Gr w w' := by
  unfold maxLen at hl
  have hfn : ∀ args w, (callFunc 14 args).run Try.prog w = .ok (.enter 14 args) w := enters_of Try.func14 (by kernel_rfl) rfl
  have hkH : Hid (w.cell? ⟨p, 0, none⟩ = some (.int .i64 x.1) ∧ w.cell? ⟨p, 1, none⟩ = some (.int .i64 x.2)) := ⟨k0, k1⟩
  clear k0 k1
  go_enter Try.func29, Try.ntmps29
  go_wp2
  go_loopw [8] (fun i wr => ∃ k : Nat, k ≤ l.length ∧ i = .int .i64 k ∧ Hid (∀ j (h : j < l.length), j < k → missP x l[j] = false) ∧ Gr w wr) (fun i _ => l.length - (intOf i).toNat)
  case atStart => exact ⟨0, Nat.zero_le _, rfl, fun j _ hj => absurd hj (Nat.not_lt_zero _), Gr.refl _⟩
  case round =>
    obtain ⟨k, hk, rfl, hno, hgr⟩ := hrel
    by_cases hlt : k < l.length
    · have hltz : (k : Int) < (l.length : Int) := by omega
      obtain ⟨bb, off, rfl, hb, hcs⟩ := (hr.gr hgr).at hlt
      obtain ⟨hrow, hlen, _⟩ := (hr.gr hgr).each l[k] (List.getElem_mem hlt)
      obtain ⟨y, hx⟩ : ∃ y, l[k] = y := ⟨_, rfl⟩
      obtain ⟨e0, e1, e2, e3, e4⟩ := hcs k hlt
      rw [hx] at e0 e1 e2 e3 e4 hrow hlen
      have hxH : Hid (l[k] = y) := hx
      clear hcs hx
      have hcall := missP_any x p y wr (Nat.lt_of_lt_of_le hp hgr.size) ((hgr.cell (p := ⟨p, 0, none⟩) hp).trans hkH.out.1) ((hgr.cell (p := ⟨p, 1, none⟩) hp).trans hkH.out.2) hlen hrow
      have hcallH : Hid _ := hcall
      clear hcall hrow hlen
      go_wp2_with fail
      refine Calls.mono (show Calls _ _ _ _ _ from hcallH.out) ?_
      rintro e w2 ⟨rfl, hg2⟩
      clear hcallH
      cases hq : missP x y
      · go_wp2
        go_roundw
        case rel =>
          refine ⟨k + 1, by omega, by go_num, ?_, hgr.trans hg2⟩
          intro j hj hjk
          by_cases e : j = k
          · subst e; rw [hxH.out]; exact hq
          · exact hno j hj (by omega)
        case measure => simp [intOf]; omega
      · have hfin : Hid (decide ((0 : Int) ≤ (k : Int)) = l.any (missP x)) := by
          have : l.any (missP x) = true := by
            rw [List.any_eq_true]
            exact ⟨l[k], List.getElem_mem hlt, by rw [hxH.out, hq]⟩
          show decide _ = _
          rw [this]; simp
        go_wp2
        go_ret
        exact ⟨_, rfl, hfin, hgr.trans hg2⟩
    · have hltz : ¬ (k : Int) < (l.length : Int) := by omega
      have hfin : Hid (decide ((0 : Int) ≤ -1) = l.any (missP x)) := by
        have : l.any (missP x) = false := by
          rw [List.any_eq_false]
          intro y hy
          obtain ⟨j, hj, rfl⟩ := List.getElem_of_mem hy
          rw [hno j hj (by omega)]; simp
        show decide _ = _
        rw [this]; simp
      go_wp2
      go_ret
      exact ⟨_, rfl, hfin, hgr⟩

/-- One of them hasn't the dot. -/
def anyX (x : Int × Int) (l : List Cx) : Bool := l.any (missP x)
theorem anyX_not (x : Int × Int) (l : List Cx) : (!anyX x l) = allB l x := by
  unfold anyX allB missP
  induction l with
  | nil => rfl
  | cons y r ih => simp only [List.any_cons, List.all_cons, Bool.not_or, Bool.not_not, ih]
set_option maxHeartbeats 1000000 in
theorem containsFuncX_any (x : Int × Int) (p : Nat) (l : List Cx) (A : Option Addr) (cap : Nat) (w : World) (hl : l.length ≤ maxLen) (hr : Cxs w A l) (hp : p < w.heap.size) (k0 : w.cell? ⟨p, 0, none⟩ = some (.int .i64 x.1)) (k1 : w.cell? ⟨p, 1, none⟩ = some (.int .i64 x.2)) :
    Calls Try.prog 13 #[.slice A l.length cap, .func (.func 14) #[] #[.pointer (some ⟨p, 0, none⟩)]] w fun e w' => e = .returned (.bool (anyX x l)) ∧ Gr w w' := by
  go_enter Try.func13, Try.ntmps13
  go_wp2_with fail
  refine (indexFuncX_any x p l A cap _ hl hr hp k0 k1).mono ?_
  rintro e w' ⟨r, rfl, hrr, hg⟩
  go_wp2
  go_ret
  exact ⟨by unfold anyX; rw [← hrr.out]; rfl, hg⟩

/-- A context in a block of its own, as a list of one. -/
theorem rowOneX {w : World} {y : Cx} {B : Nat} (h : CtxAt w B y.c y.p y.n) : RowG encX 5 w (some ⟨B, 0, none⟩) [y] := by
  refine Or.inr ⟨B, 0, rfl, h.lt, fun j hj i hi => ?_⟩
  obtain rfl : j = 0 := by simp at hj; omega
  match i, hi with
  | 0, _ => exact h.k0
  | 1, _ => exact h.k1
  | 2, _ => exact h.k2
  | 3, _ => exact h.k3
  | 4, _ => exact h.k4

end Go.Proofs.Ytknjeajdiibafaa
