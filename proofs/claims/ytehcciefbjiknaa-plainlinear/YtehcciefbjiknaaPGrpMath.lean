/-
  Groups: where the group of each number stands; one more group, one more item.
-/
import Derived.Test.YtehcciefbjiknaaPGrpMem
namespace Go.Proofs.Ytehcciefbjiknaa
open Go.RowKit Go.Sort Go.Maps

theorem wpList_append_p (w : World) {ops : Array Oper} {rest : List Oper} {o : Oper} {a : Act} {Q : Exit → Act → World → Prop} (hgd : o.guard = none) (s x : Operand)
    (ho : o.op = .call { callee := .builtin .append, args := #[s, x], argTypes := #[67, 67] })
    (base : Nat) (v : Value) (l m : List Grp) (A : Option Addr) (cap : Nat) (hs : a.eval s = v) (hx : a.eval x = .slice A m.length cap) (hown : OwnG encP 2 73 w base v l) (hr : RowG encP 2 w A m) (hA : A = none → cap = 0)
    (hml : l.length + m.length ≤ maxLen) (hb : (l.length + m.length) * 32 ≤ 140737488355328) (hbase : base ≤ w.heap.size)
    (h : ∀ v' w', OwnG encP 2 73 w' base v' (l ++ m) → w.grownBy w' v.ownBlock → wpList Try.prog ops Q rest (a.put o.dst v') w') : wpList Try.prog ops Q (o :: rest) a w :=
  wpList_plain hgd fun _ hK => wp_append_g encP_len encP_one (by omega) 67 Try.underlying67 (.agg #[.int .i64 0, .slice none 0 0]) 32 Try.infoP rfl w s x ho base v l m A cap hs hx hown hr hA hml hb hbase fun v' w' h2 h3 => hK _ _ (h v' w' h2 h3)
theorem step_append_l (w : World) {ops : Array Oper} {o : Oper} {a : Act} {K : Act → World → Prop} {Q : Exit → Act → World → Prop} {E : Prop} (hgd : o.guard = none) (s z : Operand)
    (ho : o.op = .call { callee := .builtin .append, args := #[s, z], argTypes := #[23, 23] })
    (base : Nat) (v : Value) (l : List Itm) (x : Itm) (A : Addr) (cap : Nat) (hs : a.eval s = v) (hz : a.eval z = .slice (some A) 1 cap) (hown : OwnG encT 2 41 w base v l) (hr : RowG encT 2 w (some A) [x])
    (hml : l.length + 1 ≤ maxLen) (hb : (l.length + 1) * 32 ≤ 140737488355328) (hbase : base ≤ w.heap.size)
    (h : ∀ v' w', OwnG encT 2 41 w' base v' (l ++ [x]) → w.grownBy w' v.ownBlock → (v'.ownBlock = v.ownBlock ∨ v'.ownBlock = some w.heap.size) → K (a.put o.dst v') w') :
    if Region.wanted o (yielded ops a.tmps) = true then Oper.wp Try.prog o a w K Q else E := by
  have hw : Region.wanted o (yielded ops a.tmps) = true := by simp [Region.wanted, hgd]
  rw [if_pos hw]
  obtain ⟨i0, hi, hz0, hz1, hz2⟩ := info_parts Try.infoT2
  obtain ⟨v', w', g1, g2, g3, _, g5⟩ := run_append_own_at (P := Try.prog) w base 23 o.type 41 i0 (.agg #[.slice none 0 0, .int .i64 0]) 2 32 Try.underlying23 hi hz0 hz1 hz2 rfl (by omega) v l.length (flatG encT l) hown A 1 cap (flatG encT [x]) (flatG_length encT_len [x]) (hr.cells encT_len (by omega)) (fun u hu => flatG_one encT_one u [x] hu) hml hb hbase
  have h2 : OwnG encT 2 41 w' base v' (l ++ [x]) := by
    show w'.ownsRow base _ 2 v' (l ++ [x]).length (flatG encT (l ++ [x]))
    rw [List.length_append, flatG_append]
    exact g2
  unfold Oper.wp execOp
  simp only [ho, resolve, invoke, builtin, Sem.run_bind, Sem.run_pure, Result.andThen_ok, List.map_toArray, List.map_cons, List.map_nil, hs, hz, g1]
  exact h v' w' h2 g3 g5

theorem putG_new : ∀ {G : List (Int × List Zit)} {n : Int} {x : Zit}, (∀ g ∈ G, g.1 ≠ n) → putG G n x = G ++ [(n, [x])]
  | [], _, _, _ => rfl
  | g :: t, n, x, h => by
    have h1 := h g (List.mem_cons_self ..)
    have ih := putG_new (x := x) (fun y hy => h y (List.mem_cons_of_mem _ hy))
    simp only [putG, if_neg h1, ih, List.cons_append]
theorem putG_at : ∀ {G : List (Int × List Zit)} {n : Int} {x : Zit} {i : Nat} (hi : i < G.length), G[i].1 = n → G.Pairwise (fun a b => a.1 ≠ b.1) → putG G n x = G.set i (n, G[i].2 ++ [x])
  | g :: t, n, x, 0, _, h, _ => by
    have h' : g.1 = n := h
    simp [putG, h']
  | g :: t, n, x, i + 1, hi, h, hp => by
    have hp' := List.pairwise_cons.1 hp
    have hi' : i < t.length := by simpa using hi
    have h' : t[i].1 = n := by simpa using h
    have h1 : g.1 ≠ n := by rw [← h']; exact hp'.1 _ (List.getElem_mem hi')
    have ih := putG_at (x := x) hi' h' hp'.2
    simp only [putG, if_neg h1, ih, List.set_cons_succ, List.getElem_cons_succ]
theorem grpL_take {l : List Itm} {k : Nat} (h : k < l.length) (c : Int) : grpL ((l.take (k + 1)).map Itm.z) c = putG (grpL ((l.take k).map Itm.z) c) (atI l[k].r c) l[k].z := by
  rw [List.take_succ_eq_append_getElem h, List.map_append]
  unfold grpL
  rw [List.foldl_append]
  rfl

/-- Where the group of each number stands, as the map has it. -/
structure Plc (D : DataW Unit) (gs : List Grp) : Prop where
  has : ∀ n : Int, Maps.has D (.int .i64 n) = gs.any (fun g => decide (g.n = n))
  pos : ∀ i (hi : i < gs.length), D.atKey (.int .i64 gs[i].n) (.lit (.int .i64 0)) = .lit (.int .i64 i)
  uniq : gs.Pairwise fun a b => a.n ≠ b.n
  map : IsMap D
theorem Plc.nil : Plc (.map []) [] := ⟨fun n => rfl, fun i hi => absurd hi (by simp), List.Pairwise.nil, ⟨[], rfl⟩⟩
theorem Plc.set {D : DataW Unit} {gs : List Grp} (h : Plc D gs) {i : Nat} (hi : i < gs.length) {g' : Grp} (hn : g'.n = gs[i].n) : Plc D (gs.set i g') := by
  have hm : (gs.set i g').map (·.n) = gs.map (·.n) := by
    apply List.ext_getElem (by simp)
    intro j h1 h2
    simp only [List.getElem_map, List.getElem_set]
    split
    · rename_i e; subst e; exact hn
    · rfl
  refine ⟨fun n => ?_, fun j hj => ?_, ?_, h.map⟩
  · rw [h.has n]
    have e : ∀ L : List Grp, L.any (fun g => decide (g.n = n)) = (L.map (·.n)).any (fun m => decide (m = n)) := fun L => by rw [List.any_map]; rfl
    rw [e, e, hm]
  · have hj' : j < gs.length := by simpa using hj
    have e : (gs.set i g')[j].n = gs[j].n := by
      have := congrArg (·[j]?) hm
      simp only [List.getElem?_map, List.getElem?_eq_getElem hj, List.getElem?_eq_getElem hj', Option.map_some] at this
      exact Option.some.inj this
    rw [e]; exact h.pos j hj'
  · have e : ∀ L : List Grp, (L.map (·.n)).Pairwise (· ≠ ·) → L.Pairwise fun a b => a.n ≠ b.n := fun L hL => List.pairwise_map.1 hL
    apply e
    rw [hm]
    exact List.pairwise_map.2 h.uniq
theorem Plc.more {D : DataW Unit} {gs : List Grp} (h : Plc D gs) {n : Int} (hno : Maps.has D (.int .i64 n) = false) : Plc (D.put (.int .i64 n) (.lit (.int .i64 gs.length))) (gs ++ [⟨n, none, 0, []⟩]) := by
  have hno' : ∀ g ∈ gs, g.n ≠ n := fun g hg e => by
    rw [h.has n] at hno
    have := List.any_eq_false.1 hno g hg
    simp [e] at this
  refine ⟨fun m => ?_, fun j hj => ?_, ?_, ?_⟩
  · rw [List.any_append]
    by_cases e : m = n
    · subst e
      rw [has_put_same h.map (show WideAt.IsKeyLit (.int .i64 m) from trivial)]
      simp
    · rw [has_put_other (fun k => e (by cases k; rfl)), h.has m]
      have : decide (n = m) = false := by simpa using fun k => e k.symm
      simp [this]
  · by_cases e : j < gs.length
    · rw [List.getElem_append_left e]
      rw [atKey_put_other (fun k => hno' _ (List.getElem_mem e) (by cases k; rfl))]
      exact h.pos j e
    · have e2 : j = gs.length := by simp at hj; omega
      subst e2
      rw [List.getElem_append_right (Nat.le_refl _)]
      simp only [Nat.sub_self, List.getElem_cons_zero]
      exact atKey_put_same h.map (show WideAt.IsKeyLit (.int .i64 n) from trivial) _ _
  · exact List.pairwise_append.2 ⟨h.uniq, List.pairwise_singleton _ _, fun a ha b hb => by rw [List.mem_singleton.1 hb]; exact hno' a ha⟩
  · obtain ⟨es, he⟩ := h.map
    rw [he]
    exact ⟨_, rfl⟩
theorem Plc.find {D : DataW Unit} {gs : List Grp} (h : Plc D gs) {n : Int} (hy : Maps.has D (.int .i64 n) = true) : ∃ i, ∃ hi : i < gs.length, gs[i].n = n ∧ D.atKey (.int .i64 n) (.lit (.int .i64 0)) = .lit (.int .i64 i) := by
  rw [h.has n] at hy
  obtain ⟨g, hg, e⟩ := List.any_eq_true.1 hy
  obtain ⟨i, hi, rfl⟩ := List.mem_iff_getElem.1 hg
  have e' : gs[i].n = n := by simpa using e
  exact ⟨i, hi, e', by rw [← e']; exact h.pos i hi⟩
theorem rowNewP {W : World} {n : Nat} (hn : W.heap.size = n) (m : Int) (T : TypeId) : RowG encP 2 (W.alloc (.cells #[.int .i64 m, .slice none 0 0] T)) (some ⟨n, 0, none⟩) [⟨m, none, 0, []⟩] := by
  subst hn
  refine Or.inr ⟨W.heap.size, 0, rfl, by simp, fun j hj i hi => ?_⟩
  obtain rfl : j = 0 := by simp at hj; omega
  have hi' : i = 0 ∨ i = 1 := by omega
  rcases hi' with rfl | rfl
  · exact box1 (w := W) (Gr.refl _) (j := 0) rfl
  · exact box1 (w := W) (Gr.refl _) (j := 1) rfl
theorem lawI : Keyed Try.prog 3 := int_keyed Try.underlying3
theorem zeroI (w : World) : (zeroValue 3).run Try.prog w = .ok (.int .i64 0) w := by kernel_rfl
theorem wfN {n : Int} (h : okN n = true) : (Lit.int .i64 n).wf = true := by
  simp only [okN, inB, Bool.and_eq_true, decide_eq_true_eq] at h
  exact WalkArith.wf_i64 ⟨by omega, by omega⟩
theorem okN_at {r : List Int} (h : okR r = true) {c : Int} : okN (atI r c) = true := by
  unfold okR at h
  simp only [Bool.and_eq_true, List.all_eq_true] at h
  unfold atI
  rw [List.getD_eq_getElem?_getD]
  cases e : r[c.toNat]? with
  | none => rfl
  | some y => exact h.2 y (List.mem_of_getElem? e)
end Go.Proofs.Ytehcciefbjiknaa
