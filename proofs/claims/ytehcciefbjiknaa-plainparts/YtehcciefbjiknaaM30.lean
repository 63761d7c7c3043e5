/-
  viewkeep.counted.
  viewref.Rest, slices.Clone at steps; one more step in a list.
-/
import Derived.Test.YtehcciefbjiknaaM29
import Derived.WalkSpells
import Derived.Shelf.Slices.Clone
namespace Go.Proofs.Ytehcciefbjiknaa
open Go.RowKit Go.Sort Go.Maps

theorem row_lit {α : Type} {enc : α → List Value} {k : Nat} (hk : ∀ x, (enc x).length = k) {W W' : World} {n : Nat} (hn : W.heap.size = n) {cs : Array Value} {T : TypeId} (hg : Gr (W.alloc (.cells cs T)) W') {l : List α} (h : flatG enc l = cs.toList) : RowG enc k W' (some ⟨n, 0, none⟩) l := by
  subst hn
  refine Or.inr ⟨W.heap.size, 0, rfl, Nat.lt_of_lt_of_le (by simp) hg.size, fun j hj i hi => ?_⟩
  have h1 := flatG_get hk l j hj i hi
  have hin : i < (enc l[j]).length := by rw [hk]; exact hi
  rw [List.getElem?_eq_getElem hin] at h1 ⊢
  rw [h, Array.getElem?_toList] at h1
  have := box1 (w := W) hg (j := j * k + i) h1
  rw [show 0 + j * k + i = j * k + i by omega]
  exact this
def cntQ : List Stp := [⟨1, 0, 0, 0, 0, 0, none, 0, []⟩, ⟨8, 0, 0, 1, 0, 0, none, 0, []⟩]
def cntA (n : Nat) : List Itm := [⟨some ⟨n + 1, 0, none⟩, 4, [1, 5, 0, 0], 1⟩, ⟨some ⟨n + 1 + 1, 0, none⟩, 4, [2, 5, 0, 0], 1⟩]
theorem cntA_z (n : Nat) : (cntA n).map Itm.z = [([1, 5, 0, 0], 1), ([2, 5, 0, 0], 1)] := rfl
theorem cnt_e : plnE cntQ [([1, 5, 0, 0], 1), ([2, 5, 0, 0], 1)] [] = 0 ∧ evlF cntQ [([1, 5, 0, 0], 1), ([2, 5, 0, 0], 1)] [] = [([5, 2], 1)] := by decide +kernel
def cntW (w : World) : World := ((((w.alloc (.cells #[.int .i64 1, .int .i64 0, .int .i64 0, .int .i64 0, .int .i64 0, .int .i64 0, .slice none 0 0, .int .i64 8, .int .i64 0, .int .i64 0, .int .i64 1, .int .i64 0, .int .i64 0, .slice none 0 0] 27)).alloc (.cells #[.int .i64 1, .int .i64 5, .int .i64 0, .int .i64 0] 3)).alloc (.cells #[.int .i64 2, .int .i64 5, .int .i64 0, .int .i64 0] 3)).alloc (.cells #[.slice (some ⟨w.heap.size + 1, 0, none⟩) 4 4, .int .i64 1, .slice (some ⟨w.heap.size + 1 + 1, 0, none⟩) 4 4, .int .i64 1] 41))
theorem cnt_gr (w : World) : Gr w (cntW w) := ((((Gr.refl _).alloc _).alloc _).alloc _).alloc _
theorem cnt_q (w : World) : Stps (cntW w) (some ⟨w.heap.size, 0, none⟩) cntQ := by
  refine ⟨row_lit encQ_len rfl ((((Gr.refl _).alloc _).alloc _).alloc _) rfl, fun s hs => ?_⟩
  rcases List.mem_cons.1 hs with e | e
  · rw [e]; exact ⟨Or.inl rfl, by simp [maxLen], fun _ => rfl⟩
  · rw [List.mem_singleton.1 e]; exact ⟨Or.inl rfl, by simp [maxLen], fun _ => rfl⟩
theorem cnt_a (w : World) : Lv (cntW w) (some ⟨w.heap.size + 1 + 1 + 1, 0, none⟩) 2 (cntA w.heap.size) := by
  refine ⟨⟨row_lit encT_len (by simp) (Gr.refl _) rfl, fun x hx => ?_⟩, (fun h => by cases h), by simp [cntA, maxLen]⟩
  rcases List.mem_cons.1 hx with e | e
  · rw [e]; exact ⟨row_lit encI_len (by simp) (((Gr.refl _).alloc _).alloc _) rfl, by simp [maxLen], fun h => by cases h⟩
  · rw [List.mem_singleton.1 e]; exact ⟨row_lit encI_len (by simp) ((Gr.refl _).alloc _) rfl, by simp [maxLen], fun h => by cases h⟩
set_option maxRecDepth 100000 in
set_option maxHeartbeats 1000000 in
theorem counted_any (w : World) : Calls Try.prog 5 #[] w fun e w' => e = .returned (.bool true) ∧ Below w.heap.size w w' := by
  have hC0 := eval_any cntQ (some ⟨w.heap.size, 0, none⟩) 2 (cntA w.heap.size) [] (some ⟨w.heap.size + 1 + 1 + 1, 0, none⟩) none 2 0 (cntW w) (by simp [cntQ, maxLen]) (cnt_q w) (cnt_a w) ⟨⟨Or.inl rfl, fun x hx => (by cases hx)⟩, fun _ => rfl, Nat.zero_le _⟩
  rw [cntA_z, show ([] : List Itm).map Itm.z = [] from rfl, cnt_e.1, cnt_e.2] at hC0
  have hC : Hid _ := hC0
  clear hC0
  go_enter Try.func5, Try.ntmps5
  go_wp2_with fail
  refine Calls.mono (show Calls _ _ _ _ _ from hC.out) ?_
  rintro e w1 ⟨L, C, k, rfl, h1, h2, h3⟩
  have hL : Hid (L.map Itm.z = [([5, 2], 1)] ∧ Lv w1 C k L ∧ Below w.heap.size w w1) := ⟨h1, h2, (cnt_gr w).below.trans (h3.mono (cnt_gr w).size)⟩
  clear hC h1 h2 h3
  have hS0 := sameV (W := (w1.alloc (.cells #[.int .i64 5, .int .i64 2] 3)).alloc (.cells #[.slice (some ⟨w1.heap.size, 0, none⟩) 2 2, .int .i64 1] 41)) (A := C) (c := k) (l := L) (B := some ⟨w1.heap.size + 1, 0, none⟩) (d := 1) (r := [⟨some ⟨w1.heap.size, 0, none⟩, 2, [5, 2], 1⟩]) (hL.out.2.1.gr (((Gr.refl _).alloc _).alloc _)) ⟨⟨row_lit encT_len (by simp) (Gr.refl _) rfl, fun x hx => by rw [List.mem_singleton.1 hx]; exact ⟨row_lit encI_len rfl ((Gr.refl _).alloc _) rfl, by simp [maxLen], fun h => by cases h⟩⟩, (fun h => by cases h), by simp [maxLen]⟩ (by rw [hL.out.1]; rfl)
  have hS : Hid _ := hS0
  clear hS0
  go_wp2_with fail
  refine Calls.mono (show Calls _ _ _ _ _ from hS.out) ?_
  rintro e w2 ⟨rfl, hg2⟩
  have hB : Hid (Below w.heap.size w w2) := hL.out.2.2.trans (((((Gr.refl w1).alloc _).alloc _).trans hg2).below.mono hL.out.2.2.size)
  clear hS hg2
  go_wp2
  go_ret
  exact ⟨rfl, hB.out⟩
end Go.Proofs.Ytehcciefbjiknaa

namespace Go.Proofs.Ytehcciefbjiknaa
open Go.RowKit Go.Sort

set_option maxHeartbeats 400000 in
theorem rest_any (n m : Int) (w : World) (hm : 0 < m ∧ m ≤ 8) : Calls Try.prog 10 #[.int .i64 n, .int .i64 m] w fun e w' => (∃ r : Nat, e = .returned (.int .i64 r) ∧ (r : Int) < m) ∧ w' = w := by
  have hm0 : m ≠ 0 := by omega
  have h1 := Int.tmod_lt_of_pos n hm.1
  have h2 : -m < n.tmod m := by
    have := Int.tmod_lt_of_pos (-n) hm.1
    rw [Int.neg_tmod] at this
    omega
  by_cases h : n.tmod m < 0
  · obtain ⟨r, hr⟩ : ∃ r : Nat, n.tmod m + m = r := ⟨(n.tmod m + m).toNat, by omega⟩
    have hrm : (r : Int) < m := by omega
    go_enter Try.func10, Try.ntmps10
    go_wp2
    go_ret
    exact ⟨⟨r, rfl, hrm⟩, rfl⟩
  · obtain ⟨r, hr⟩ : ∃ r : Nat, n.tmod m = r := ⟨(n.tmod m).toNat, by omega⟩
    go_enter Try.func10, Try.ntmps10
    go_wp2
    go_ret
    exact ⟨⟨r, rfl, by omega⟩, rfl⟩
theorem Try.infoQ : (Try.prog.info? 27).map (fun i => (i.zero, i.size, i.bytes)) = some (some (.agg #[.int .i64 0, .int .i64 0, .int .i64 0, .int .i64 0, .int .i64 0, .int .i64 0, .slice none 0 0]), 7, 72) := by kernel_rfl
theorem wpList_append_q (w : World) {ops : Array Oper} {rest : List Oper} {o : Oper} {a : Act} {Q : Exit → Act → World → Prop} (hgd : o.guard = none) (s x : Operand)
    (ho : o.op = .call { callee := .builtin .append, args := #[s, x], argTypes := #[22, 22] })
    (base : Nat) (v : Value) (l m : List Stp) (A : Option Addr) (cap : Nat) (hs : a.eval s = v) (hx : a.eval x = .slice A m.length cap) (hown : OwnG encQ 7 27 w base v l) (hr : RowG encQ 7 w A m) (hA : A = none → cap = 0)
    (hml : l.length + m.length ≤ maxLen) (hb : (l.length + m.length) * 72 ≤ 140737488355328) (hbase : base ≤ w.heap.size)
    (h : ∀ v' w', OwnG encQ 7 27 w' base v' (l ++ m) → w.grownBy w' v.ownBlock → wpList Try.prog ops Q rest (a.put o.dst v') w') : wpList Try.prog ops Q (o :: rest) a w :=
  wpList_plain hgd fun _ hK => wp_append_g encQ_len encQ_one (by omega) 22 Try.underlying22 (.agg #[.int .i64 0, .int .i64 0, .int .i64 0, .int .i64 0, .int .i64 0, .int .i64 0, .slice none 0 0]) 72 Try.infoQ rfl w s x ho base v l m A cap hs hx hown hr hA hml hb hbase fun v' w' h2 h3 => hK _ _ (h v' w' h2 h3)
set_option maxRecDepth 100000 in
set_option maxHeartbeats 400000 in
theorem clone_any (q : List Stp) (b off : Nat) (cap : Nat) (w : World) (hl : q.length ≤ 6) (hr : RowG encQ 7 w (some ⟨b, off, none⟩) q) :
    Calls Try.prog 11 #[.slice (some ⟨b, off, none⟩) q.length cap] w fun e w' => ∃ v, e = .returned v ∧ OwnG encQ 7 27 w' w.heap.size v q ∧ Below w.heap.size w w' := by
  have hrH : Hid (RowG encQ 7 w (some ⟨b, off, none⟩) q) := hr
  clear hr
  have q22 : ∀ (w : World) (a : Option Addr) (n c n' c' : Nat), (binOp .eql 22 (.slice a n c) (.slice none n' c')).run Try.prog w = .ok (.bool a.isNone) w := fun w a n c n' c' => Lib.run_eql_slice_nil w _ _ a n c n' c' Try.underlying22
  go_enter Try.func11, Try.ntmps11
  have hoX : Hid (OwnG encQ 7 27 (w.alloc (.cells #[] 27)) w.heap.size (.slice (some ⟨w.heap.size, 0, none⟩) 0 0) [] ∧ RowG encQ 7 (w.alloc (.cells #[] 27)) (some ⟨b, off, none⟩) q ∧ ([] : List Stp).length + q.length ≤ maxLen ∧ (([] : List Stp).length + q.length) * 72 ≤ 140737488355328 ∧ w.heap.size ≤ (w.alloc (.cells #[] 27)).heap.size) :=
    ⟨⟨rfl, Or.inr ⟨w.heap.size, 0, #[], rfl, Nat.le_refl _, (MapKept.heap_alloc _ _).1, Nat.le_refl _, by simp, rfl, rfl⟩⟩, hrH.out.gr ((Gr.refl _).alloc _), by unfold maxLen; simp; omega, by simp; omega, by simp⟩
  go_wp2_with (at_builtin; refine wpList_append_q _ rfl (.tmp 5) (.tmp 6) rfl w.heap.size (.slice (some ⟨w.heap.size, 0, none⟩) 0 0) [] q (some ⟨b, off, none⟩) cap rfl rfl hoX.out.1 hoX.out.2.1 (fun h => by cases h) hoX.out.2.2.1 hoX.out.2.2.2.1 hoX.out.2.2.2.2 ?_; intro v1 w1 hown1 hgr1)
  have hfin : Hid (OwnG encQ 7 27 w1 w.heap.size v1 q ∧ Below w.heap.size w w1) := ⟨hown1, ((Gr.refl w).alloc _).below.trans (OwnG.grown_below hoX.out.1 hgr1 hoX.out.2.2.2.2)⟩
  clear hown1 hgr1
  go_ret
  exact ⟨v1, rfl, hfin.out⟩
end Go.Proofs.Ytehcciefbjiknaa
