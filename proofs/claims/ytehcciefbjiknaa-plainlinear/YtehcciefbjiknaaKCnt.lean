/-
  viewkeep.counted.
-/
import Derived.Test.YtehcciefbjiknaaPEval
namespace Go.Proofs.Ytehcciefbjiknaa
open Go.RowKit Go.Sort Go.Maps

theorem row_lit {α : Type} {enc : α → List Value} {k : Nat} (hk : ∀ x, (enc x).length = k) {W W' : World} {n : Nat} (hn : W.heap.size = n) {cs : Array Value} {T : TypeId} (hg : Gr (W.alloc (.cells cs T)) W') {l : List α} (h : flatG enc l = cs.toList) : RowG enc k W' (some ⟨n, 0, none⟩) l := by
  subst hn
  refine Or.inr ⟨W.heap.size, 0, rfl, Nat.lt_of_lt_of_le (by simp) hg.size, fun j hj i hi => ?_⟩
  have h1 := flatG_get hk l j hj i hi
  have hin : i < (enc l[j]).length := by rw [hk]; exact hi
  rw [List.getElem?_eq_getElem hin] at h1 ⊢
  rw [h, Array.getElem?_toList] at h1
  have := box1 (w := W) hg (j := j * k + i) h1
  rw [show 0 + j * k + i = j * k + i by omega]
  exact this
def cntQ : List Stp := [⟨1, 0, 0, 0, 0, 0, none, 0, []⟩, ⟨8, 0, 0, 1, 0, 0, none, 0, []⟩]
def cntA (n : Nat) : List Itm := [⟨some ⟨n + 1, 0, none⟩, 4, [1, 5, 0, 0], 1⟩, ⟨some ⟨n + 1 + 1, 0, none⟩, 4, [2, 5, 0, 0], 1⟩]
theorem cntA_z (n : Nat) : (cntA n).map Itm.z = [([1, 5, 0, 0], 1), ([2, 5, 0, 0], 1)] := rfl
theorem cnt_e : plnE cntQ [([1, 5, 0, 0], 1), ([2, 5, 0, 0], 1)] [] = 0 ∧ evlF cntQ [([1, 5, 0, 0], 1), ([2, 5, 0, 0], 1)] [] = [([5, 2], 1)] := by decide +kernel
def cntW (w : World) : World := ((((w.alloc (.cells #[.int .i64 1, .int .i64 0, .int .i64 0, .int .i64 0, .int .i64 0, .int .i64 0, .slice none 0 0, .int .i64 8, .int .i64 0, .int .i64 0, .int .i64 1, .int .i64 0, .int .i64 0, .slice none 0 0] 27)).alloc (.cells #[.int .i64 1, .int .i64 5, .int .i64 0, .int .i64 0] 3)).alloc (.cells #[.int .i64 2, .int .i64 5, .int .i64 0, .int .i64 0] 3)).alloc (.cells #[.slice (some ⟨w.heap.size + 1, 0, none⟩) 4 4, .int .i64 1, .slice (some ⟨w.heap.size + 1 + 1, 0, none⟩) 4 4, .int .i64 1] 41))
theorem cnt_gr (w : World) : Gr w (cntW w) := ((((Gr.refl _).alloc _).alloc _).alloc _).alloc _
theorem cnt_q (w : World) : Stps (cntW w) (some ⟨w.heap.size, 0, none⟩) cntQ := by
  refine ⟨row_lit encQ_len rfl ((((Gr.refl _).alloc _).alloc _).alloc _) rfl, fun s hs => ?_⟩
  rcases List.mem_cons.1 hs with e | e
  · rw [e]; exact ⟨Or.inl rfl, by simp [maxLen], fun _ => rfl⟩
  · rw [List.mem_singleton.1 e]; exact ⟨Or.inl rfl, by simp [maxLen], fun _ => rfl⟩
theorem cnt_a (w : World) : Lv (cntW w) (some ⟨w.heap.size + 1 + 1 + 1, 0, none⟩) 2 (cntA w.heap.size) := by
  refine ⟨⟨row_lit encT_len (by simp) (Gr.refl _) rfl, fun x hx => ?_⟩, (fun h => by cases h), by simp [cntA, maxLen]⟩
  rcases List.mem_cons.1 hx with e | e
  · rw [e]; exact ⟨row_lit encI_len (by simp) (((Gr.refl _).alloc _).alloc _) rfl, by simp [maxLen], fun h => by cases h⟩
  · rw [List.mem_singleton.1 e]; exact ⟨row_lit encI_len (by simp) ((Gr.refl _).alloc _) rfl, by simp [maxLen], fun h => by cases h⟩
theorem cnt_k : ∀ s ∈ cntQ, KindL s := by
  intro s hs
  rcases List.mem_cons.1 hs with e | e
  · rw [e]; exact ⟨by decide, by decide, by decide⟩
  · rw [List.mem_singleton.1 e]; exact ⟨by decide, by decide, by decide⟩

set_option maxRecDepth 100000 in
set_option maxHeartbeats 1000000 in
theorem counted_any (w : World) : Calls Try.prog 5 #[] w fun e w' => e = .returned (.bool true) ∧ Below w.heap.size w w' := by
  have hC0 := eval_any cntQ (some ⟨w.heap.size, 0, none⟩) 2 (cntA w.heap.size) [] (some ⟨w.heap.size + 1 + 1 + 1, 0, none⟩) none 2 0 (cntW w) (by simp [cntQ, maxLen]) (cnt_q w) cnt_k (cnt_a w) ⟨⟨Or.inl rfl, fun x hx => (by cases hx)⟩, fun _ => rfl, Nat.zero_le _⟩
  rw [cntA_z, show ([] : List Itm).map Itm.z = [] from rfl, cnt_e.1, cnt_e.2] at hC0
  have hC : Hid _ := hC0
  clear hC0
  go_enter Try.func5, Try.ntmps5
  go_wp2_with fail
  refine Calls.mono (show Calls _ _ _ _ _ from hC.out) ?_
  rintro e w1 ⟨L, C, k, rfl, h1, h2, h3⟩
  have hL : Hid (L.map Itm.z = [([5, 2], 1)] ∧ Lv w1 C k L ∧ Below w.heap.size w w1) := ⟨h1, h2, (cnt_gr w).below.trans (h3.mono (cnt_gr w).size)⟩
  clear hC h1 h2 h3
  have hS0 := sameV (W := (w1.alloc (.cells #[.int .i64 5, .int .i64 2] 3)).alloc (.cells #[.slice (some ⟨w1.heap.size, 0, none⟩) 2 2, .int .i64 1] 41)) (A := C) (c := k) (l := L) (B := some ⟨w1.heap.size + 1, 0, none⟩) (d := 1) (r := [⟨some ⟨w1.heap.size, 0, none⟩, 2, [5, 2], 1⟩]) (hL.out.2.1.gr (((Gr.refl _).alloc _).alloc _)) ⟨⟨row_lit encT_len (by simp) (Gr.refl _) rfl, fun x hx => by rw [List.mem_singleton.1 hx]; exact ⟨row_lit encI_len rfl ((Gr.refl _).alloc _) rfl, by simp [maxLen], fun h => by cases h⟩⟩, (fun h => by cases h), by simp [maxLen]⟩ (by rw [hL.out.1]; rfl)
  have hS : Hid _ := hS0
  clear hS0
  go_wp2_with fail
  refine Calls.mono (show Calls _ _ _ _ _ from hS.out) ?_
  rintro e w2 ⟨rfl, hg2⟩
  have hB : Hid (Below w.heap.size w w2) := hL.out.2.2.trans (((((Gr.refl w1).alloc _).alloc _).trans hg2).below.mono hL.out.2.2.size)
  clear hS hg2
  go_wp2
  go_ret
  exact ⟨rfl, hB.out⟩
end Go.Proofs.Ytehcciefbjiknaa
