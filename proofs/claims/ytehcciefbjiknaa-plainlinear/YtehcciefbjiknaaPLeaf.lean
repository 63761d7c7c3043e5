/-
  The small functions of package plain: isTo, times.
-/
import Derived.Test.YtehcciefbjiknaaKGrpBase
import Derived.Test.YtehcciefbjiknaaPStep
namespace Go.Proofs.Ytehcciefbjiknaa
open Go.RowKit Go.Sort

set_option maxHeartbeats 400000 in
theorem isTo_any (n o v : Int) (w : World) (ho : inB o 1 3 = true) : Calls Try.prog 56 #[.int .i64 n, .int .i64 o, .int .i64 v] w fun e w' => e = .returned (.bool (toB n o v)) ∧ w' = w := by
  have ho' : o = 1 ∨ o = 2 ∨ o = 3 := by
    simp only [inB, Bool.and_eq_true, decide_eq_true_eq] at ho
    omega
  clear ho
  rcases ho' with rfl | rfl | rfl
  · have e : toB n 1 v = decide (n < v) := rfl
    rw [e]; clear e
    go_enter Try.func56, Try.ntmps56
    go_wp2
    go_ret
    exact ⟨rfl, rfl⟩
  · have e : toB n 2 v = decide (n = v) := rfl
    rw [e]; clear e
    go_enter Try.func56, Try.ntmps56
    go_wp2
    go_ret
    exact ⟨rfl, rfl⟩
  · have e : toB n 3 v = decide (v < n) := rfl
    rw [e]; clear e
    go_enter Try.func56, Try.ntmps56
    go_wp2
    go_ret
    exact ⟨rfl, rfl⟩
theorem timesL_append (a b : List Zit) : timesL (a ++ b) = timesL a + timesL b := by
  induction a with
  | nil => simp [timesL]
  | cons x a ih => simp only [List.cons_append, timesL, ih]; omega
theorem timesL_bound {l : List Zit} (h : ∀ x ∈ l, okW x.2 = true) : -((l.length : Int) * 1048576) ≤ timesL l ∧ timesL l ≤ (l.length : Int) * 1048576 := by
  induction l with
  | nil => simp [timesL]
  | cons x l ih =>
    have h1 := ih fun y hy => h y (List.mem_cons_of_mem _ hy)
    have h2 := h x (List.mem_cons_self ..)
    simp only [okW, inB, Bool.and_eq_true, decide_eq_true_eq] at h2
    simp only [timesL, List.length_cons]
    omega
theorem timesL_take {l : List Itm} {k : Nat} (h : k < l.length) : timesL ((l.take (k + 1)).map Itm.z) = timesL ((l.take k).map Itm.z) + l[k].n := by
  rw [List.take_succ_eq_append_getElem h, List.map_append, timesL_append]
  simp [timesL, Itm.z]

set_option maxRecDepth 100000 in
set_option maxHeartbeats 1000000 in
theorem times_any (l : List Itm) (A : Option Addr) (cap : Nat) (w : World) (hl : l.length ≤ 400) (hw : ∀ x ∈ l, okW x.n = true) (hr : Items w A l) :
    Calls Try.prog 57 #[.slice A l.length cap] w fun e w' => e = .returned (.int .i64 (timesL (l.map Itm.z))) ∧ Gr w w' := by
  have hrH : Hid (Items w A l) := hr
  have hwH : Hid (∀ x ∈ l, okW x.n = true) := hw
  clear hr hw
  go_enter Try.func57, Try.ntmps57
  go_wp2
  go_loopw [3, 8] (fun v i wr => ∃ k : Nat, k ≤ l.length ∧ i = .int .i64 k ∧ v = .int .i64 (timesL ((l.take k).map Itm.z)) ∧ Hid (Gr w wr)) (fun _ i _ => l.length - (intOf i).toNat)
  case atStart => exact ⟨0, Nat.zero_le _, rfl, rfl, Gr.refl _⟩
  case round =>
    obtain ⟨k, hk, rfl, rfl, hg⟩ := hrel
    by_cases hlt : k < l.length
    · have hltz : (k : Int) < (l.length : Int) := by omega
      have hI : Hid (Items wr A l) := hrH.out.gr hg.out
      obtain ⟨bb, off, rfl, hb, hcs⟩ := hI.out.at hlt
      obtain ⟨x, hx⟩ : ∃ x, l[k] = x := ⟨_, rfl⟩
      obtain ⟨e0, e1⟩ := hcs k hlt
      rw [hx] at e0 e1
      have hst : Hid (timesL ((l.take (k + 1)).map Itm.z) = timesL ((l.take k).map Itm.z) + x.n) := by show _ = _; rw [timesL_take hlt, hx]
      have hx2 := hwH.out x (by rw [← hx]; exact List.getElem_mem hlt)
      have hbd := timesL_bound (l := (l.take k).map Itm.z) (fun y hy => by
        obtain ⟨z, hz, rfl⟩ := List.mem_map.1 hy
        exact hwH.out z (List.mem_of_mem_take hz))
      have hlen : ((l.take k).map Itm.z).length ≤ 400 := by simp; omega
      obtain ⟨T, hT⟩ : ∃ T, timesL ((l.take k).map Itm.z) = T := ⟨_, rfl⟩
      rw [hT] at hst hbd ⊢
      have hwr : IntKind.i64.wrap (T + x.n) = T + x.n := by
        simp only [okW, inB, Bool.and_eq_true, decide_eq_true_eq] at hx2
        rw [IntKind.wrap_i64]; omega
      clear hcs hx hx2 hbd hlen hT
      have hgX : Hid (Gr w (wr.alloc (.cells #[.slice x.p x.r.length x.c, .int .i64 x.n] 41))) := hg.out.alloc _
      go_wp2
      go_roundw
      case rel => exact ⟨k + 1, by omega, by go_num, by rw [hst.out], hgX.out⟩
      case measure => simp [intOf]; omega
    · have hltz : ¬ (k : Int) < (l.length : Int) := by omega
      have hke : l.take k = l := List.take_of_length_le (by omega)
      rw [hke]
      clear hke
      go_wp2
      go_ret
      exact ⟨rfl, hg.out⟩

end Go.Proofs.Ytehcciefbjiknaa
