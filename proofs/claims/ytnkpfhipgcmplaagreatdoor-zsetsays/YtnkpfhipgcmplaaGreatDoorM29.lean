/-
  The small functions of package plain: isTo, times.
  plain.where.
-/
import Derived.Test.YtnkpfhipgcmplaaGreatDoorM27
import Derived.Test.YtnkpfhipgcmplaaGreatDoorM28
namespace Go.Proofs.YtnkpfhipgcmplaaGreatDoor
open Go.RowKit Go.Sort

set_option maxHeartbeats 400000 in
theorem isTo_any (n o v : Int) (w : World) (ho : inB o 1 3 = true) : Calls Tryz.prog 117 #[.int .i64 n, .int .i64 o, .int .i64 v] w fun e w' => e = .returned (.bool (toB n o v)) ∧ w' = w := by
  have ho' : o = 1 ∨ o = 2 ∨ o = 3 := by
    simp only [inB, Bool.and_eq_true, decide_eq_true_eq] at ho
    omega
  clear ho
  rcases ho' with rfl | rfl | rfl
  · have e : toB n 1 v = decide (n < v) := rfl
    rw [e]; clear e
    go_enter Tryz.func117, Tryz.ntmps117
    go_wp2
    go_ret
    exact ⟨rfl, rfl⟩
  · have e : toB n 2 v = decide (n = v) := rfl
    rw [e]; clear e
    go_enter Tryz.func117, Tryz.ntmps117
    go_wp2
    go_ret
    exact ⟨rfl, rfl⟩
  · have e : toB n 3 v = decide (v < n) := rfl
    rw [e]; clear e
    go_enter Tryz.func117, Tryz.ntmps117
    go_wp2
    go_ret
    exact ⟨rfl, rfl⟩
theorem timesL_append (a b : List Zit) : timesL (a ++ b) = timesL a + timesL b := by
  induction a with
  | nil => simp [timesL]
  | cons x a ih => simp only [List.cons_append, timesL, ih]; omega
theorem timesL_bound {l : List Zit} (h : ∀ x ∈ l, okW x.2 = true) : -((l.length : Int) * 1048576) ≤ timesL l ∧ timesL l ≤ (l.length : Int) * 1048576 := by
  induction l with
  | nil => simp [timesL]
  | cons x l ih =>
    have h1 := ih fun y hy => h y (List.mem_cons_of_mem _ hy)
    have h2 := h x (List.mem_cons_self ..)
    simp only [okW, inB, Bool.and_eq_true, decide_eq_true_eq] at h2
    simp only [timesL, List.length_cons]
    omega
theorem timesL_take {l : List Itm} {k : Nat} (h : k < l.length) : timesL ((l.take (k + 1)).map Itm.z) = timesL ((l.take k).map Itm.z) + l[k].n := by
  rw [List.take_succ_eq_append_getElem h, List.map_append, timesL_append]
  simp [timesL, Itm.z]

set_option maxRecDepth 100000 in
set_option maxHeartbeats 1000000 in
theorem times_any (l : List Itm) (A : Option Addr) (cap : Nat) (w : World) (hl : l.length ≤ 400) (hw : ∀ x ∈ l, okW x.n = true) (hr : Items w A l) :
    Calls Tryz.prog 118 #[.slice A l.length cap] w fun e w' => e = .returned (.int .i64 (timesL (l.map Itm.z))) ∧ Gr w w' := by
  have hrH : Hid (Items w A l) := hr
  have hwH : Hid (∀ x ∈ l, okW x.n = true) := hw
  clear hr hw
  go_enter Tryz.func118, Tryz.ntmps118
  go_wp2
  go_loopw [3, 8] (fun v i wr => ∃ k : Nat, k ≤ l.length ∧ i = .int .i64 k ∧ v = .int .i64 (timesL ((l.take k).map Itm.z)) ∧ Hid (Gr w wr)) (fun _ i _ => l.length - (intOf i).toNat)
  case atStart => exact ⟨0, Nat.zero_le _, rfl, rfl, Gr.refl _⟩
  case round =>
    obtain ⟨k, hk, rfl, rfl, hg⟩ := hrel
    by_cases hlt : k < l.length
    · have hltz : (k : Int) < (l.length : Int) := by omega
      have hI : Hid (Items wr A l) := hrH.out.gr hg.out
      obtain ⟨bb, off, rfl, hb, hcs⟩ := hI.out.at hlt
      obtain ⟨x, hx⟩ : ∃ x, l[k] = x := ⟨_, rfl⟩
      obtain ⟨e0, e1⟩ := hcs k hlt
      rw [hx] at e0 e1
      have hst : Hid (timesL ((l.take (k + 1)).map Itm.z) = timesL ((l.take k).map Itm.z) + x.n) := by show _ = _; rw [timesL_take hlt, hx]
      have hx2 := hwH.out x (by rw [← hx]; exact List.getElem_mem hlt)
      have hbd := timesL_bound (l := (l.take k).map Itm.z) (fun y hy => by
        obtain ⟨z, hz, rfl⟩ := List.mem_map.1 hy
        exact hwH.out z (List.mem_of_mem_take hz))
      have hlen : ((l.take k).map Itm.z).length ≤ 400 := by simp; omega
      obtain ⟨T, hT⟩ : ∃ T, timesL ((l.take k).map Itm.z) = T := ⟨_, rfl⟩
      rw [hT] at hst hbd ⊢
      have hwr : IntKind.i64.wrap (T + x.n) = T + x.n := by
        simp only [okW, inB, Bool.and_eq_true, decide_eq_true_eq] at hx2
        rw [IntKind.wrap_i64]; omega
      clear hcs hx hx2 hbd hlen hT
      have hgX : Hid (Gr w (wr.alloc (.cells #[.slice x.p x.r.length x.c, .int .i64 x.n] 66))) := hg.out.alloc _
      go_wp2
      go_roundw
      case rel => exact ⟨k + 1, by omega, by go_num, by rw [hst.out], hgX.out⟩
      case measure => simp [intOf]; omega
    · have hltz : ¬ (k : Int) < (l.length : Int) := by omega
      have hke : l.take k = l := List.take_of_length_le (by omega)
      rw [hke]
      clear hke
      go_wp2
      go_ret
      exact ⟨rfl, hg.out⟩

end Go.Proofs.YtnkpfhipgcmplaaGreatDoor

namespace Go.Proofs.YtnkpfhipgcmplaaGreatDoor
open Go.RowKit Go.Sort

theorem where_take {l : List Itm} {k : Nat} (h : k < l.length) (c o v : Int) : whereL ((l.take (k + 1)).map Itm.z) c o v = whereL ((l.take k).map Itm.z) c o v ++ (if toB (atI l[k].r c) o v = true then [l[k].z] else []) := by
  rw [List.take_succ_eq_append_getElem h, List.map_append]
  unfold whereL
  rw [List.filter_append]
  congr 1
  by_cases e : toB (atI l[k].r c) o v = true
  · rw [if_pos e]; simp [Itm.z, e]
  · rw [if_neg e]; simp [Itm.z, e]
/-- A number of a row, in memory. -/
theorem rowI_atI {w : World} {p : Option Addr} {r : List Int} {c : Int} (h : RowI w p r) (hc : inB c 0 ((r.length : Int) - 1) = true) : ∃ (b off : Nat) (n : Nat), p = some ⟨b, off, none⟩ ∧ b < w.heap.size ∧ c = n ∧ n < r.length ∧ w.cell? ⟨b, off + n, none⟩ = some (.int .i64 (atI r c)) := by
  simp only [inB, Bool.and_eq_true, decide_eq_true_eq] at hc
  have hn : c.toNat < r.length := by omega
  obtain ⟨b, off, hp, hb, hcs⟩ := h.at hn
  refine ⟨b, off, c.toNat, hp, hb, by omega, hn, ?_⟩
  have := hcs c.toNat hn 0 (by omega)
  simp only [Nat.mul_one, Nat.add_zero] at this
  rw [this]
  unfold atI
  rw [List.getD_eq_getElem?_getD, List.getElem?_eq_getElem hn]
  rfl

set_option maxRecDepth 100000 in
set_option maxHeartbeats 1000000 in
theorem where_any (l : List Itm) (A : Option Addr) (cap : Nat) (c o v : Int) (w : World) (hl : l.length ≤ 400) (hr : Items w A l) (hc : ∀ x ∈ l, inB c 0 ((x.r.length : Int) - 1) = true) (ho : inB o 1 3 = true) :
    Calls Tryz.prog 94 #[.slice A l.length cap, .int .i64 c, .int .i64 o, .int .i64 v] w fun e w' => ∃ (L : List Itm) (C : Option Addr) (k : Nat), e = .returned (.slice C L.length k) ∧ L.map Itm.z = whereL (l.map Itm.z) c o v ∧ Lv w' C k L ∧ L.length ≤ 400 ∧ Below w.heap.size w w' := by
  have hrH : Hid (Items w A l) := hr
  have hcH : Hid (∀ x ∈ l, inB c 0 ((x.r.length : Int) - 1) = true) := hc
  have hoH : Hid (inB o 1 3 = true) := ho
  clear hr hc ho
  go_enter Tryz.func94, Tryz.ntmps94
  go_wp2
  go_loopw [9, 14] (fun u i wr => ∃ (k : Nat) (L : List Itm), k ≤ l.length ∧ i = .int .i64 k ∧ Hid (L.length ≤ k ∧ L.map Itm.z = whereL ((l.take k).map Itm.z) c o v ∧ (∀ x ∈ L, x ∈ l) ∧ OwnG encT 2 66 wr w.heap.size u L ∧ Below w.heap.size w wr)) (fun _ i _ => l.length - (intOf i).toNat)
  case atStart => exact ⟨0, [], Nat.zero_le _, rfl, Nat.le_refl _, rfl, fun x hx => (by cases hx), OwnG.nil _ _ _ _ _, Below.refl _ _⟩
  case round =>
    obtain ⟨k, L, hk, rfl, hR⟩ := hrel
    by_cases hlt : k < l.length
    · have hltz : (k : Int) < (l.length : Int) := by omega
      have hI : Hid (Items wr A l) := hrH.out.below hR.out.2.2.2.2
      obtain ⟨bb, off, rfl, hb, hcs⟩ := hI.out.at hlt
      obtain ⟨x, hx⟩ : ∃ x, l[k] = x := ⟨_, rfl⟩
      obtain ⟨e0, e1⟩ := hcs k hlt
      rw [hx] at e0 e1
      have hxm : x ∈ l := by rw [← hx]; exact List.getElem_mem hlt
      obtain ⟨rb, ro, cn, hp, hrb, hcn, hcl, hcell⟩ := rowI_atI (hI.out.each x hxm).1 (hcH.out x hxm)
      have hst : Hid (whereL ((l.take (k + 1)).map Itm.z) c o v = whereL ((l.take k).map Itm.z) c o v ++ (if toB (atI x.r c) o v = true then [x.z] else [])) := by show _ = _; rw [where_take hlt, hx]
      have hxH : Hid (x ∈ l) := hxm
      obtain ⟨nn, hnn⟩ : ∃ nn, atI x.r c = nn := ⟨_, rfl⟩
      have hto : Hid (∀ w, Calls Tryz.prog 117 #[.int .i64 nn, .int .i64 o, .int .i64 v] w fun e w' => e = .returned (.bool (toB nn o v)) ∧ w' = w) := fun w => isTo_any nn o v w hoH.out
      rw [hnn] at hcell hst
      rw [hp] at e0
      have hgX : Hid (Gr wr (wr.alloc (.cells #[.slice (some ⟨rb, ro, none⟩) x.r.length x.c, .int .i64 x.n] 66))) := (Gr.refl _).alloc _
      have y0 : (wr.alloc (.cells #[.slice (some ⟨rb, ro, none⟩) x.r.length x.c, .int .i64 x.n] 66)).cell? ⟨rb, ro + cn, none⟩ = some (.int .i64 nn) := (hgX.out.cell (p := ⟨rb, ro + cn, none⟩) hrb).trans hcell
      have hcz : (cn : Int) < (x.r.length : Int) := by omega
      have hpH : Hid (x.p = some ⟨rb, ro, none⟩) := hp
      obtain rfl := hcn
      clear hcs hx hxm hnn hp hcell hcl
      obtain ⟨tt, htt⟩ : ∃ tt, toB nn o v = tt := ⟨_, rfl⟩
      have httH : Hid (toB nn o v = tt) := htt
      rw [htt] at hto
      clear htt
      cases tt
      · have hst' : Hid (whereL ((l.take (k + 1)).map Itm.z) cn o v = whereL ((l.take k).map Itm.z) cn o v) := by
          show _ = _; rw [hst.out, httH.out]; simp
        have hfin : Hid (L.length ≤ k + 1 ∧ L.map Itm.z = whereL ((l.take (k + 1)).map Itm.z) cn o v ∧ (∀ x ∈ L, x ∈ l) ∧ OwnG encT 2 66 (wr.alloc (.cells #[.slice (some ⟨rb, ro, none⟩) x.r.length x.c, .int .i64 x.n] 66)) w.heap.size u9 L ∧ Below w.heap.size w (wr.alloc (.cells #[.slice (some ⟨rb, ro, none⟩) x.r.length x.c, .int .i64 x.n] 66))) :=
          ⟨by have := hR.out.1; omega, by rw [hst'.out]; exact hR.out.2.1, hR.out.2.2.1, hR.out.2.2.2.1.gr hgX.out, hR.out.2.2.2.2.trans (hgX.out.below.mono hR.out.2.2.2.2.size)⟩
        go_wp2_with (go_at_call 117; refine (hto.out _).mono ?_; rintro e w' ⟨rfl, hw'⟩; subst w')
        go_roundw
        case rel => exact ⟨k + 1, L, by omega, by go_num, hfin.out⟩
        case measure => simp [intOf]; omega
      · have hst' : Hid (whereL ((l.take (k + 1)).map Itm.z) cn o v = whereL ((l.take k).map Itm.z) cn o v ++ [x.z]) := by
          show _ = _; rw [hst.out, httH.out]; simp
        have hoX : Hid (OwnG encT 2 66 ((wr.alloc (.cells #[.slice (some ⟨rb, ro, none⟩) x.r.length x.c, .int .i64 x.n] 66)).alloc (.cells #[.slice (some ⟨rb, ro, none⟩) x.r.length x.c, .int .i64 x.n] 66)) w.heap.size u9 L ∧ RowG encT 2 ((wr.alloc (.cells #[.slice (some ⟨rb, ro, none⟩) x.r.length x.c, .int .i64 x.n] 66)).alloc (.cells #[.slice (some ⟨rb, ro, none⟩) x.r.length x.c, .int .i64 x.n] 66)) (some ⟨wr.heap.size + 1, 0, none⟩) [x] ∧ L.length + [x].length ≤ maxLen ∧ (L.length + [x].length) * 32 ≤ 140737488355328 ∧ Below w.heap.size w ((wr.alloc (.cells #[.slice (some ⟨rb, ro, none⟩) x.r.length x.c, .int .i64 x.n] 66)).alloc (.cells #[.slice (some ⟨rb, ro, none⟩) x.r.length x.c, .int .i64 x.n] 66))) := by
          have hLk := hR.out.1
          refine ⟨hR.out.2.2.2.1.gr (hgX.out.alloc _), ?_, by unfold maxLen; simp; omega, by simp; omega, hR.out.2.2.2.2.trans ((hgX.out.alloc _).below.mono hR.out.2.2.2.2.size)⟩
          rw [← hpH.out]
          exact rowNewT (by simp) x _
        go_wp2_with (first | (go_at_call 117; refine (hto.out _).mono ?_; rintro e w' ⟨rfl, hw'⟩; subst w') | (at_builtin; refine wpList_append_ts _ rfl (.tmp 26) (.tmp 28) rfl w.heap.size u9 L [x] (some ⟨wr.heap.size + 1, 0, none⟩) 1 rfl rfl hoX.out.1 hoX.out.2.1 (fun h => by cases h) hoX.out.2.2.1 hoX.out.2.2.2.1 hoX.out.2.2.2.2.size ?_; intro v3 w3 hown3 hg3))
        have hfin : Hid ((L ++ [x]).length ≤ k + 1 ∧ (L ++ [x]).map Itm.z = whereL ((l.take (k + 1)).map Itm.z) cn o v ∧ (∀ y ∈ L ++ [x], y ∈ l) ∧ OwnG encT 2 66 w3 w.heap.size v3 (L ++ [x]) ∧ Below w.heap.size w w3) := by
          refine ⟨by have := hR.out.1; simp; omega, by rw [hst'.out, List.map_append, hR.out.2.1]; rfl, fun y hy => ?_, hown3, hoX.out.2.2.2.2.trans (hoX.out.1.grown_below hg3 hoX.out.2.2.2.2.size)⟩
          rcases List.mem_append.1 hy with h | h
          · exact hR.out.2.2.1 y h
          · rw [List.mem_singleton.1 h]; exact hxH.out
        clear hown3 hg3
        go_roundw
        case rel => exact ⟨k + 1, L ++ [x], by omega, by go_num, hfin.out⟩
        case measure => simp [intOf]; omega
    · have hltz : ¬ (k : Int) < (l.length : Int) := by omega
      have hke : l.take k = l := List.take_of_length_le (by omega)
      obtain ⟨A2, cap2, hv2, hn1, hit, hcp, _, _⟩ := OwnG.full encT_len hR.out.2.2.2.1
      have hn2 : NilC A2 L.length cap2 := NilC.mk hn1 hcp
      clear hn1 hcp
      have hlL : L.length ≤ 400 := by have := hR.out.1; omega
      have hfin : Hid (L.map Itm.z = whereL (l.map Itm.z) c o v ∧ Lv wr A2 cap2 L ∧ Below w.heap.size w wr) := by
        refine ⟨by have := hR.out.2.1; rw [hke] at this; exact this, ⟨⟨hit, fun x hx => ?_⟩, hn2, by unfold maxLen; omega⟩, hR.out.2.2.2.2⟩
        have := (hrH.out.below hR.out.2.2.2.2).each x (hR.out.2.2.1 x hx)
        exact this
      subst hv2
      clear hke hit hn2
      go_wp2
      go_ret
      exact ⟨L, A2, cap2, rfl, hfin.out.1, hfin.out.2.1, hlL, hfin.out.2.2⟩
end Go.Proofs.YtnkpfhipgcmplaaGreatDoor
