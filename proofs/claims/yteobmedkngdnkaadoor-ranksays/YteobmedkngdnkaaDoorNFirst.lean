/-
  rank.firstRows: the first rows of some items, each in memory of its own.
-/
import Derived.Test.YteobmedkngdnkaaDoorNLeaf
namespace Go.Proofs.YteobmedkngdnkaaDoor
open Go.RowKit Go.Sort

/-- A row alone. -/
def encW (x : Itm) : List Value := [.slice x.p x.r.length x.c]
theorem encW_len (x : Itm) : (encW x).length = 1 := rfl
theorem encW_one (x : Itm) : ∀ u ∈ encW x, u.oneCell' = true := by
  intro u hu
  simp [encW] at hu
  rw [hu]; rfl
theorem Tryd.infoW : (Tryd.prog.info? 23).map (fun i => (i.zero, i.size, i.bytes)) = some (some (.slice none 0 0), 1, 24) := by kernel_rfl
theorem wpList_append_w (w : World) {ops : Array Oper} {rest : List Oper} {o : Oper} {a : Act} {Q : Exit → Act → World → Prop} (hgd : o.guard = none) (s x : Operand)
    (ho : o.op = .call { callee := .builtin .append, args := #[s, x], argTypes := #[24, 24] })
    (base : Nat) (v : Value) (l m : List Itm) (A : Option Addr) (cap : Nat) (hs : a.eval s = v) (hx : a.eval x = .slice A m.length cap) (hown : OwnG encW 1 23 w base v l) (hr : RowG encW 1 w A m) (hA : A = none → cap = 0)
    (hml : l.length + m.length ≤ maxLen) (hb : (l.length + m.length) * 24 ≤ 140737488355328) (hbase : base ≤ w.heap.size)
    (h : ∀ v' w', OwnG encW 1 23 w' base v' (l ++ m) → w.grownBy w' v.ownBlock → wpList Tryd.prog ops Q rest (a.put o.dst v') w') : wpList Tryd.prog ops Q (o :: rest) a w :=
  wpList_plain hgd fun _ hK => wp_append_g encW_len encW_one (by omega) 24 Tryd.underlying24 (.slice none 0 0) 24 Tryd.infoW rfl w s x ho base v l m A cap hs hx hown hr hA hml hb hbase fun v' w' h2 h3 => hK _ _ (h v' w' h2 h3)
theorem OwnG.keepN {α : Type} {enc : α → List Value} {k : Nat} {e : TypeId} {w w' : World} {base : Nat} {v : Value} {l : List α} {row : Option Nat} (h : OwnG enc k e w base v l) (hg : w.grownBy w' row) (hne : v.ownBlock = none ∨ v.ownBlock ≠ row) : OwnG enc k e w' base v l := World.ownsRow.kept h hg hne
/-- Blocks of two types are two. -/
theorem ownN_ne {α β : Type} {enc : α → List Value} {enc' : β → List Value} {k k' : Nat} {e e' : TypeId} {w : World} {base base' : Nat} {v v' : Value} {l : List α} {l' : List β} (h : OwnG enc k e w base v l) (h' : OwnG enc' k' e' w base' v' l') (hne : e ≠ e') : v.ownBlock = none ∨ v.ownBlock ≠ v'.ownBlock := by
  rcases h.2 with ⟨hv, _⟩ | ⟨g, cap, cur, hv, _, hg, _⟩
  · exact Or.inl (by rw [hv]; rfl)
  · rcases h'.2 with ⟨hv', _⟩ | ⟨g', cap', cur', hv', _, hg', _⟩
    · refine Or.inr ?_
      rw [hv, hv']; intro k; cases k
    · refine Or.inr ?_
      rw [hv, hv']
      intro k
      have : g = g' := by simpa [Value.ownBlock] using k
      subst this
      rw [hg] at hg'
      simp at hg'
      exact hne hg'.2
def Itm.v (x : Itm) : Value := .slice x.p x.r.length x.c
/-- Rows of the call's own: the list, and each row. -/
structure OwnR (w : World) (base : Nat) (v : Value) (L : List Itm) : Prop where
  own : OwnG encW 1 23 w base v L
  each : ∀ x ∈ L, OwnI w base x.v x.r
theorem OwnR.nil (w : World) (base : Nat) : OwnR w base (.slice none 0 0) [] := ⟨OwnG.nil _ _ _ _ _, fun x hx => by cases hx⟩
theorem OwnR.below {w w' : World} {base : Nat} {v : Value} {L : List Itm} (h : OwnR w base v L) (q : Below w.heap.size w w') : OwnR w' base v L := ⟨h.own.below q, fun x hx => (h.each x hx).below q⟩
theorem OwnR.gr {w w' : World} {base : Nat} {v : Value} {L : List Itm} (h : OwnR w base v L) (q : Gr w w') : OwnR w' base v L := h.below q.below
theorem OwnR.more {w w' : World} {base : Nat} {v v' : Value} {L : List Itm} {x : Itm} (h : OwnR w base v L) (hx : OwnI w base x.v x.r) (ho : OwnG encW 1 23 w' base v' (L ++ [x])) (hg : w.grownBy w' v.ownBlock) : OwnR w' base v' (L ++ [x]) := by
  refine ⟨ho, fun y hy => ?_⟩
  rcases List.mem_append.1 hy with k | k
  · exact (h.each y k).keepN hg (ownN_ne (h.each y k) h.own (by decide))
  · rw [List.mem_singleton.1 k]
    exact hx.keepN hg (ownN_ne hx h.own (by decide))
theorem rowNewW {W : World} {n : Nat} (hn : W.heap.size = n) (x : Itm) (T : TypeId) : RowG encW 1 (W.alloc (.cells #[.slice x.p x.r.length x.c] T)) (some ⟨n, 0, none⟩) [x] := by
  subst hn
  refine Or.inr ⟨W.heap.size, 0, rfl, by simp, fun j hj i hi => ?_⟩
  obtain rfl : j = 0 := by simp at hj; omega
  obtain rfl : i = 0 := by omega
  exact box1 (w := W) (Gr.refl _) (j := 0) rfl
theorem take_more {R : List (List Int)} {r : List Int} {n most : Nat} : R.take most ++ List.replicate (min n (most - (R.take most).length)) r = (R ++ List.replicate n r).take most := by
  rw [List.take_append, List.length_take, List.take_replicate]
  congr 2
  omega
theorem expL_take {l : List Itm} {k : Nat} (h : k < l.length) : expL ((l.take (k + 1)).map Itm.z) = expL ((l.take k).map Itm.z) ++ List.replicate (l[k].n.toNat) l[k].r := by
  rw [List.take_succ_eq_append_getElem h, List.map_append, expL_append]
  congr 1
  show _ ++ [] = _
  rw [List.append_nil]
  rfl
theorem ownNewT (w : World) (x : Itm) : OwnG encT 2 41 (w.alloc (.cells #[.slice x.p x.r.length x.c, .int .i64 x.n] 41)) w.heap.size (.slice (some ⟨w.heap.size, 0, none⟩) 1 1) [x] :=
  ⟨rfl, .inr ⟨w.heap.size, 1, _, rfl, Nat.le_refl _, heap_alloc_new w _, Nat.le_refl _, by unfold maxLen; omega, rfl, rfl⟩⟩
theorem ownNewT_cell {w : World} {B : Nat} {x : Itm} (h : OwnG encT 2 41 w B (.slice (some ⟨B, 0, none⟩) 1 1) [x]) : w.cell? ⟨B, 0, none⟩ = some (.slice x.p x.r.length x.c) := by
  obtain ⟨A, cap, hv, _, hrow, _⟩ := OwnG.full encT_len h
  injection hv with h1 h2 h3
  subst h1
  obtain ⟨b, off, hA, _, hc⟩ := hrow.at (m := 0) (by simp)
  injection hA with hA
  injection hA with h4 h5
  have := hc 0 (by simp) 0 (by omega)
  rw [← h4, ← h5] at this
  simpa [encT] using this
structure FInv (w wr : World) (v : Value) (L : List Itm) (R : List (List Int)) : Prop where
  own : OwnR wr w.heap.size v L
  rows : L.map Itm.r = R
  bel : Below w.heap.size w wr

set_option maxRecDepth 100000 in
set_option maxHeartbeats 2000000 in
theorem firstRows_any (l : List Itm) (A : Option Addr) (cap : Nat) (most : Nat) (w : World) (hl : l.length ≤ 400) (h : Lv w A cap l) (hr : ∀ x ∈ l, x.r.length ≤ 8) (hn : ∀ x ∈ l, 0 ≤ x.n ∧ x.n ≤ 400) (hm : most ≤ 400) :
    Calls Tryd.prog 14 #[.slice A l.length cap, .int .i64 most] w fun e w' => ∃ (v : Value) (L : List Itm), e = .returned v ∧ OwnR w' w.heap.size v L ∧ L.map Itm.r = (expL (l.map Itm.z)).take most ∧ Below w.heap.size w w' := by
  have hH : Hid (Lv w A cap l ∧ (∀ x ∈ l, x.r.length ≤ 8) ∧ (∀ x ∈ l, 0 ≤ x.n ∧ x.n ≤ 400)) := ⟨h, hr, hn⟩
  clear h hr hn
  go_enter Tryd.func14, Tryd.ntmps14
  go_wp2
  go_loopw [5, 10] (fun v i wr => ∃ (k : Nat) (L : List Itm), k ≤ l.length ∧ i = .int .i64 k ∧ Hid (FInv w wr v L ((expL ((l.take k).map Itm.z)).take most))) (fun _ i _ => l.length - (intOf i).toNat)
  case atStart => exact ⟨0, [], Nat.zero_le _, rfl, show FInv _ _ _ _ _ from ⟨OwnR.nil _ _, by simp [expL], Below.refl _ _⟩⟩
  case round =>
    rename World => wr0
    obtain ⟨k, L, hk, rfl, hR⟩ := hrel
    by_cases hlt : k < l.length
    · have hltz : (k : Int) < (l.length : Int) := by omega
      have hI : Hid (Lv wr0 A cap l) := hH.out.1.below hR.out.bel
      obtain ⟨bb, off, rfl, hb, hcs⟩ := hI.out.items.at hlt
      obtain ⟨x, hx⟩ : ∃ x, l[k] = x := ⟨_, rfl⟩
      obtain ⟨e0, e1⟩ := hcs k hlt
      rw [hx] at e0 e1
      have hxm : x ∈ l := by rw [← hx]; exact List.getElem_mem hlt
      have hX : Hid (RowI wr0 x.p x.r ∧ (x.p = none → x.c = 0) ∧ x.r.length ≤ 8 ∧ 0 ≤ x.n ∧ x.n ≤ 400) := ⟨(hI.out.items.each x hxm).1, (hI.out.items.each x hxm).2.2, hH.out.2.1 x hxm, hH.out.2.2 x hxm⟩
      obtain ⟨v0, cv, hv5, _⟩ := OwnG.full encW_len hR.out.own.own
      have hLl : L.length ≤ most := by
        have := congrArg List.length hR.out.rows
        rw [List.length_map, List.length_take] at this
        omega
      obtain ⟨mm, hmm⟩ : ∃ mm : Nat, min x.n.toNat (most - L.length) = mm := ⟨_, rfl⟩
      have hnext : Hid ((expL ((l.take k).map Itm.z)).take most ++ List.replicate mm x.r = (expL ((l.take (k + 1)).map Itm.z)).take most) := by
        show _ = _
        rw [expL_take hlt, hx, ← take_more, ← hmm, ← hR.out.rows, List.length_map]
      have hmz : min x.n ((most : Int) - (L.length : Int)) = (mm : Int) := by
        have h1 := hX.out.2.2.2.1
        omega
      have hm4 : mm ≤ 400 := by omega
      obtain ⟨WX, hWX⟩ : ∃ WX, (wr0.alloc (.cells #[.slice x.p x.r.length x.c, .int .i64 x.n] 41)) = WX := ⟨_, rfl⟩
      have hgX : Hid (Gr wr0 WX) := by show Gr _ _; rw [← hWX]; exact (Gr.refl _).alloc _
      have hXs : Hid (wr0.heap.size < WX.heap.size) := by show _ < _; rw [← hWX]; simp
      have x0 : WX.cell? ⟨wr0.heap.size, 0, none⟩ = some (.slice x.p x.r.length x.c) := by rw [← hWX]; exact box1 (w := wr0) (Gr.refl _) rfl
      have x1 : WX.cell? ⟨wr0.heap.size, 1, none⟩ = some (.int .i64 x.n) := by rw [← hWX]; exact box1 (w := wr0) (Gr.refl _) rfl
      have hoX : OwnG encT 2 41 WX wr0.heap.size (.slice (some ⟨wr0.heap.size, 0, none⟩) 1 1) [x] := by rw [← hWX]; exact ownNewT wr0 x
      obtain ⟨R, hRe⟩ : ∃ R, (expL ((l.take k).map Itm.z)).take most = R := ⟨_, rfl⟩
      have hXX : Hid (FInv w WX u5 L R ∧ OwnG encT 2 41 WX wr0.heap.size (.slice (some ⟨wr0.heap.size, 0, none⟩) 1 1) [x] ∧ w.heap.size ≤ wr0.heap.size ∧ L.length ≤ 400) := ⟨⟨hR.out.own.gr hgX.out, by rw [← hRe]; exact hR.out.rows, hR.out.bel.trans (hgX.out.below.mono hR.out.bel.size)⟩, hoX, hR.out.bel.size, by omega⟩
      rw [hRe] at hnext
      subst hv5
      have hxw : Hid (RowI w x.p x.r ∧ (x.p = none → x.c = 0) ∧ x.r.length ≤ 8) := ⟨(hH.out.1.items.each x (by rw [← hx]; exact List.getElem_mem hlt)).1, hX.out.2.1, hX.out.2.2.1⟩
      clear hcs hx hxm hmm hR hI hoX hRe hX
      go_wp2
      clear x0 x1 hWX hgX hXs e0 e1 hmz hLl
      generalize wr0.heap.size = XB at *
      go_loopw [5, 21] (fun v j wr => ∃ (m : Nat) (M : List Itm), m ≤ mm ∧ j = .int .i64 m ∧ Hid (FInv w wr v M (R ++ List.replicate m x.r) ∧ OwnG encT 2 41 wr XB (.slice (some ⟨XB, 0, none⟩) 1 1) [x] ∧ M.length ≤ 400 + m)) (fun _ j _ => mm - (intOf j).toNat)
      case atStart => exact ⟨0, L, Nat.zero_le _, rfl, by rw [List.replicate_zero, List.append_nil]; exact hXX.out.1, hXX.out.2.1, hXX.out.2.2.2⟩
      case round =>
        rename World => wr1
        obtain ⟨m, M, hm2, rfl, hR⟩ := hrel
        by_cases hlt2 : m < mm
        · have hltz2 : (m : Int) < (mm : Int) := by omega
          have x0 := ownNewT_cell hR.out.2.1
          have hap : Hid (RowI wr1 x.p x.r ∧ (x.p = none → x.c = 0) ∧ ([] : List Int).length + x.r.length ≤ maxLen ∧ (([] : List Int).length + x.r.length) * 8 ≤ 140737488355328 ∧ w.heap.size ≤ wr1.heap.size) := ⟨hxw.out.1.below hR.out.1.bel, hxw.out.2.1, by have := hxw.out.2.2; unfold maxLen; simp; omega, by have := hxw.out.2.2; simp; omega, hR.out.1.bel.size⟩
          obtain ⟨v1, cv1, hv1, _⟩ := OwnG.full encW_len hR.out.1.own.own
          subst hv1
          go_wp2_with (at_builtin; refine wpList_append_i _ rfl (.const (.slice none 0 0)) (.tmp 25) rfl w.heap.size (.slice none 0 0) [] x.r x.p x.c rfl rfl (OwnG.nil _ _ _ _ _) hap.out.1 hap.out.2.1 hap.out.2.2.1 hap.out.2.2.2.1 hap.out.2.2.2.2 ?_)
          intro v3 w3 hown3 hg3
          have hb3 := below_none hg3
          obtain ⟨C, c3, rfl, _⟩ := OwnG.full encI_len hown3
          obtain ⟨W4, hW4⟩ : ∃ W4, (w3.alloc (.cells #[.slice C x.r.length c3] 23)) = W4 := ⟨_, rfl⟩
          have hg4 : Gr w3 W4 := by rw [← hW4]; exact (Gr.refl _).alloc _
          have hrow4 : RowG encW 1 W4 (some ⟨w3.heap.size, 0, none⟩) [⟨C, c3, x.r, 0⟩] := by rw [← hW4]; exact rowNewW rfl ⟨C, c3, x.r, 0⟩ _
          have hb14 := hb3.trans (hg4.below.mono hb3.size)
          have hbw4 := hR.out.1.bel.trans (hb14.mono hR.out.1.bel.size)
          have hX4 : Hid (OwnR W4 w.heap.size (.slice v1 M.length cv1) M ∧ RowG encW 1 W4 (some ⟨w3.heap.size, 0, none⟩) [⟨C, c3, x.r, 0⟩] ∧ OwnI W4 w.heap.size (.slice C x.r.length c3) x.r ∧ OwnG encT 2 41 W4 XB (.slice (some ⟨XB, 0, none⟩) 1 1) [x] ∧ Below w.heap.size w W4 ∧ M.length + 1 ≤ maxLen ∧ (M.length + 1) * 24 ≤ 140737488355328) := ⟨hR.out.1.own.below hb14, hrow4, hown3.gr hg4, hR.out.2.1.below hb14, hbw4, by have := hR.out.2.2; unfold maxLen; omega, by have := hR.out.2.2; omega⟩
          clear hown3 hg3 hb3 hg4 hrow4 hb14 hbw4 hap x0
          go_wp2_with (at_builtin; refine wpList_append_w _ rfl (.tmp 23) (.tmp 27) rfl w.heap.size (.slice v1 M.length cv1) M [⟨C, c3, x.r, 0⟩] (some ⟨w3.heap.size, 0, none⟩) 1 rfl rfl hX4.out.1.own hX4.out.2.1 (fun h => by cases h) hX4.out.2.2.2.2.2.1 hX4.out.2.2.2.2.2.2 hX4.out.2.2.2.2.1.size ?_)
          intro v5 w5 hown5 hg5
          have hfin : Hid (FInv w w5 v5 (M ++ [⟨C, c3, x.r, 0⟩]) (R ++ List.replicate (m + 1) x.r) ∧ OwnG encT 2 41 w5 XB (.slice (some ⟨XB, 0, none⟩) 1 1) [x] ∧ (M ++ [(⟨C, c3, x.r, 0⟩ : Itm)]).length ≤ 400 + (m + 1)) := by
            refine ⟨⟨hX4.out.1.more hX4.out.2.2.1 hown5 hg5, ?_, hX4.out.2.2.2.2.1.trans (hX4.out.1.own.grown_below hg5 hX4.out.2.2.2.2.1.size)⟩, hX4.out.2.2.2.1.keepN hg5 (ownN_ne hX4.out.2.2.2.1 hX4.out.1.own (by decide)), by have := hR.out.2.2; simp; omega⟩
            rw [List.map_append, hR.out.1.rows, List.replicate_succ', ← List.append_assoc]
            rfl
          clear hown5 hg5 hW4 hX4
          go_wp2
          go_roundw
          case rel => exact ⟨m + 1, M ++ [⟨C, c3, x.r, 0⟩], by omega, by go_num, hfin⟩
          case measure => simp [intOf]; omega
        · have hltz2 : ¬ (m : Int) < (mm : Int) := by omega
          obtain rfl : m = mm := by omega
          have hfin : Hid (FInv w wr1 u5 M ((expL ((l.take (k + 1)).map Itm.z)).take most)) := by show FInv _ _ _ _ _; rw [← hnext.out]; exact hR.out.1
          clear hR
          go_wp2
          go_roundw
          case rel => exact ⟨k + 1, M, by omega, by go_num, hfin⟩
          case measure => simp [intOf]; omega
    · have hltz : ¬ (k : Int) < (l.length : Int) := by omega
      have hke : l.take k = l := List.take_of_length_le (by omega)
      rw [hke] at hR
      go_wp2
      go_ret
      exact ⟨u5, rfl, L, hR.out.own, hR.out.rows, hR.out.bel⟩
end Go.Proofs.YteobmedkngdnkaaDoor
