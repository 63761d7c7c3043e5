/-
  viewref.QueryText: the document's text of a query.
-/
import Derived.Test.YtjjpmkekcffceaaDoorQText
namespace Go.Proofs.YtjjpmkekcffceaaDoor
open Go.RowKit Go.Sort

/-- The document's words lie as they are laid. -/
structure Verbs (w : World) : Prop where
  lt : 0 < w.heap.size
  word : ∀ k : Nat, k < 10 → w.cell? ⟨0, k, none⟩ = some (.string ⟨(wordL (k : Int)).toArray⟩)
theorem Verbs.below {w w' : World} (h : Verbs w) (k : Below w.heap.size w w') : Verbs w' := ⟨Nat.lt_of_lt_of_le h.lt k.size, fun i hi => (k.cell (p := ⟨0, i, none⟩) h.lt).trans (h.word i hi)⟩
theorem itoa_g {n : Int} (h : Small n) {w : World} (ht : Tens w) : Calls Tryd.prog 11 #[.int .i64 n] w fun e w' => e = .returned (.string ⟨(Lib.itoa n).toArray⟩) ∧ ∃ q os', w' = grow (w.drewN q) os' := (itoa_any h ht).mono fun _ _ h => ⟨h.1, grD h.2⟩
theorem lineT1 {s : Stp} (h : s.k = 1) : lineT s = wordL 1 ++ [32] ++ Lib.itoa s.a := by
  unfold lineT
  rw [h, show partL 1 = [65] from rfl]
  simp [Lib.join, List.intercalate, partT]
theorem lineT2 {s : Stp} (h : s.k = 2) : lineT s = wordL 2 ++ [32] ++ Lib.itoa s.a ++ ([32] ++ Lib.itoa s.c ++ [32] ++ signL s.o ++ [32] ++ Lib.itoa s.v) := by
  unfold lineT
  rw [h, show partL 2 = [65, 67, 79, 86] from rfl]
  simp [Lib.join, List.intercalate, partT]
theorem lineT3 {s : Stp} (h : s.k = 3) : lineT s = wordL 3 ++ [32] ++ Lib.itoa s.a ++ ([32] ++ listL s.l) := by
  unfold lineT
  rw [h, show partL 3 = [65, 76] from rfl]
  simp [Lib.join, List.intercalate, partT]
theorem lineT4 {s : Stp} (h : s.k = 4) : lineT s = wordL 4 ++ [32] ++ Lib.itoa s.a ++ ([32] ++ Lib.itoa s.b ++ [32] ++ Lib.itoa s.c ++ [32] ++ Lib.itoa s.v) := by
  unfold lineT
  rw [h, show partL 4 = [65, 66, 67, 86] from rfl]
  simp [Lib.join, List.intercalate, partT]
theorem lineT5 {s : Stp} (h : s.k = 5) : lineT s = wordL 5 ++ [32] ++ Lib.itoa s.a ++ ([32] ++ Lib.itoa s.b) := by
  unfold lineT
  rw [h, show partL 5 = [65, 66] from rfl]
  simp [Lib.join, List.intercalate, partT]
theorem lineT6 {s : Stp} (h : s.k = 6) : lineT s = wordL 6 ++ [32] ++ Lib.itoa s.a ++ ([32] ++ Lib.itoa s.b) := by
  unfold lineT
  rw [h, show partL 6 = [65, 66] from rfl]
  simp [Lib.join, List.intercalate, partT]
theorem lineT7 {s : Stp} (h : s.k = 7) : lineT s = wordL 7 ++ [32] ++ Lib.itoa s.a := by
  unfold lineT
  rw [h, show partL 7 = [65] from rfl]
  simp [Lib.join, List.intercalate, partT]
theorem lineT8 {s : Stp} (h : s.k = 8) : lineT s = wordL 8 ++ [32] ++ Lib.itoa s.a ++ ([32] ++ Lib.itoa s.c) := by
  unfold lineT
  rw [h, show partL 8 = [65, 67] from rfl]
  simp [Lib.join, List.intercalate, partT]
theorem lineT9 {s : Stp} (h : s.k = 9) : lineT s = wordL 9 ++ [32] ++ Lib.itoa s.a ++ ([32] ++ Lib.itoa s.c ++ [32] ++ Lib.itoa s.v) := by
  unfold lineT
  rw [h, show partL 9 = [65, 67, 86] from rfl]
  simp [Lib.join, List.intercalate, partT]
theorem addB {x y : List UInt8} {a b c : ByteArray} (hc : c = ⟨(x ++ y).toArray⟩) (ha : a = ⟨x.toArray⟩) (hb : b = ⟨y.toArray⟩) (h : x.length + y.length ≤ 9000000000000000000) : ∀ w, (Op.stringOp .add a b).run Tryd.prog w = .ok (.string c) w := fun w => by
  subst hc ha hb
  rw [run_string_add_sum w _ _ (by simp [ByteArray.size]; omega), ByteArray.mk_append_mk]
theorem itoa_b {n : Int} {c : ByteArray} (hc : c = ⟨(Lib.itoa n).toArray⟩) (h : Small n) {w : World} (ht : Tens w) : Calls Tryd.prog 11 #[.int .i64 n] w fun e w' => e = .returned (.string c) ∧ ∃ q os', w' = grow (w.drewN q) os' := by rw [hc]; exact itoa_g h ht
theorem join_cons2 (a b : List UInt8) (t : List (List UInt8)) (sep : List UInt8) : Lib.join (a :: b :: t) sep = a ++ (sep ++ Lib.join (b :: t) sep) := by simp [Lib.join, List.intercalate]
theorem join_snoc : ∀ (xs : List (List UInt8)) (y sep : List UInt8), xs ≠ [] → Lib.join (xs ++ [y]) sep = Lib.join xs sep ++ sep ++ y
  | [], _, _, h => absurd rfl h
  | [a], y, sep, _ => by simp [Lib.join, List.intercalate]
  | a :: b :: t, y, sep, _ => by
    have ih := join_snoc (b :: t) y sep (by simp)
    rw [List.cons_append] at ih
    rw [List.cons_append, List.cons_append, join_cons2, ih, join_cons2]
    simp only [List.append_assoc]
/-- The numbers of a pick's list, with a blank ahead, so far. -/
def pickT (l : List Int) : List UInt8 := if l = [] then [] else [32] ++ listL l
theorem pickT_step {l : List Int} {m : Nat} (h : m < l.length) : pickT (l.take (m + 1)) = pickT (l.take m) ++ (if m = 0 then [32] else [44]) ++ Lib.itoa l[m] := by
  unfold pickT
  have hne0 : ¬ (l.take m ++ [l[m]] = []) := fun k => absurd (List.append_eq_nil_iff.1 k).2 (by simp)
  rw [List.take_succ_eq_append_getElem h, if_neg hne0]
  by_cases e : m = 0
  · subst e
    simp [listL, Lib.join, List.intercalate]
  · have hne : l.take m ≠ [] := fun k => by
      have := congrArg List.length k
      simp only [List.length_take, List.length_nil] at this
      omega
    rw [if_neg hne, if_neg e]
    unfold listL
    rw [List.map_append, List.map_cons, List.map_nil, join_snoc _ _ _ (by simpa using hne)]
    simp only [List.append_assoc]
theorem pickT_len {l : List Int} (h : ∀ x ∈ l, Small x) (h8 : l.length ≤ 8) : (pickT l).length ≤ 2000 := by
  unfold pickT
  split
  · simp
  · have h1 := join_le [44] 21 (l.map Lib.itoa) (fun x hx => by obtain ⟨y, hy, rfl⟩ := List.mem_map.1 hx; exact itoa_len (h y hy))
    unfold listL
    have h4 : (l.map Lib.itoa).length * (21 + [(44 : UInt8)].length) ≤ 8 * 22 := Nat.mul_le_mul (by simpa using h8) (by simp)
    simp only [List.length_append, List.length_cons, List.length_nil] at h1 h4 ⊢
    omega
theorem signL_len (o : Int) : (signL o).length ≤ 1 := by
  unfold signL
  split
  · simp
  · split
    · simp
    · split <;> simp
theorem kinds9 {s : Stp} {ah : List Int} (h : widW s ah ≠ 0) : s.k = 1 ∨ s.k = 2 ∨ s.k = 3 ∨ s.k = 4 ∨ s.k = 5 ∨ s.k = 6 ∨ s.k = 7 ∨ s.k = 8 ∨ s.k = 9 := by
  by_cases h1 : s.k = 1 ; · exact Or.inl h1
  by_cases h2 : s.k = 2 ; · simp [h2]
  by_cases h3 : s.k = 3 ; · simp [h3]
  by_cases h4 : s.k = 4 ; · simp [h4]
  by_cases h5 : s.k = 5 ; · simp [h5]
  by_cases h6 : s.k = 6 ; · simp [h6]
  by_cases h7 : s.k = 7 ; · simp [h7]
  by_cases h8 : s.k = 8 ; · simp [h8]
  by_cases h9 : s.k = 9 ; · simp [h9]
  exfalso
  apply h
  have h456 : ¬ (s.k = 4 ∨ s.k = 5 ∨ s.k = 6) := by omega
  unfold widW oneW
  simp only [if_neg h1, if_neg h2, if_neg h3, if_neg h7, if_neg h8, if_neg h9, if_neg h456, ite_self]
/-- What a step's parts may be that stands in a right query. -/
def KindOk (s : Stp) : Prop := (s.k = 1 ∨ s.k = 2 ∨ s.k = 3 ∨ s.k = 4 ∨ s.k = 5 ∨ s.k = 6 ∨ s.k = 7 ∨ s.k = 8 ∨ s.k = 9) ∧ (s.k = 2 → s.o = 1 ∨ s.o = 2 ∨ s.o = 3)
theorem kindOk {s : Stp} {ah : List Int} (h : widW s ah ≠ 0) : KindOk s := ⟨kinds9 h, fun k => by
  rw [wid2 k] at h
  by_cases e : (inB s.a 0 ((ah.length : Int) - 1) && decide (s.b = 0) && s.l.isEmpty && inB s.o 1 3 && inB s.v (-1073741824) 1073741824 && inB s.c 0 ((ah.getD s.a.toNat 0) - 1)) = true
  · simp only [inB, Bool.and_eq_true, decide_eq_true_eq] at e
    omega
  · rw [if_neg e] at h; exact absurd rfl h⟩
theorem widsF_kind : ∀ (q : List Stp) (ah : List Int), (widsF q ah).isSome = true → ∀ s ∈ q, KindOk s
  | [], _, _ => fun s hs => by cases hs
  | s :: t, ah, h => by
    have h' : (if widW s ah = 0 then none else widsF t (ah ++ [widW s ah])).isSome = true := h
    by_cases e : widW s ah = 0
    · rw [if_pos e] at h'; cases h'
    · rw [if_neg e] at h'
      intro s' hs'
      rcases List.mem_cons.1 hs' with k | k
      · rw [k]; exact kindOk e
      · exact widsF_kind t _ h' s' k
theorem errQ_kind {q : List Stp} (h : errQ q = 0) : ∀ s ∈ q, KindOk s := by
  unfold errQ at h
  by_cases h0 : q.length = 0
  · rw [if_pos h0] at h; cases h
  · rw [if_neg h0] at h
    by_cases h8 : 8 < q.length
    · rw [if_pos h8] at h; cases h
    · rw [if_neg h8] at h
      by_cases hs : (widsF q []).isSome = true
      · exact widsF_kind q [] hs
      · rw [if_neg hs] at h; cases h

set_option maxRecDepth 100000 in
set_option maxHeartbeats 2000000 in
theorem refText_any (q : List Stp) (A : Option Addr) (ca : Nat) (w : World) (h0 : errQ q = 0) (hq : Stps w A q) (ht : Tens w) (hv : Verbs w) :
    Calls Tryd.prog 5 #[.slice A q.length ca] w fun e w' => e = .returned (.string ⟨(textT q).toArray⟩) ∧ Below w.heap.size w w' := by
  have mixed : Tryd.prog.follows .mixedOrders = true := by kernel_rfl
  have hH : Hid (Stps w A q ∧ Tens w ∧ Verbs w ∧ errQ q = 0) := ⟨hq, ht, hv, h0⟩
  have h8 : q.length ≤ 8 := (widsL_len h0).2
  clear hq ht hv h0
  go_enter Tryd.func5, Tryd.ntmps5
  go_wp2
  go_loopw [4, 5] (fun v i wr => ∃ j : Nat, j ≤ q.length ∧ i = .int .i64 j ∧ v = .string ⟨(textT (q.take j)).toArray⟩ ∧ Hid (Below w.heap.size w wr)) (fun _ i _ => q.length - (intOf i).toNat)
  case atStart => exact ⟨0, Nat.zero_le _, rfl, rfl, Below.refl _ _⟩
  case round =>
    obtain ⟨j, hj, rfl, rfl, hbw⟩ := hrel
    by_cases hlt : j < q.length
    · have hltz : (j : Int) < (q.length : Int) := by omega
      have hI : Hid (Stps wr A q) := hH.out.1.below hbw.out
      obtain ⟨bb, off, rfl, hb, hcs⟩ := hI.out.at hlt
      obtain ⟨s, hs⟩ : ∃ s, q[j] = s := ⟨_, rfl⟩
      have hsm : s ∈ q := by rw [← hs]; exact List.getElem_mem hlt
      have hsr : Hid (RowI wr s.p s.l) := (hI.out.each s hsm).1
      have hsf : Hid (Fine s ∧ (s.k = 3 → s.l ≠ [])) := errQ_fine hH.out.2.2.2 s hsm
      have hko : Hid (KindOk s) := errQ_kind hH.out.2.2.2 s hsm
      rw [hs] at hcs
      have m0 : wr.cell? ⟨bb, off + j * 7, none⟩ = some (.int .i64 s.k) := hcs 0 (by omega)
      have m1 : wr.cell? ⟨bb, off + j * 7 + 1, none⟩ = some (.int .i64 s.a) := hcs 1 (by omega)
      have m2 : wr.cell? ⟨bb, off + j * 7 + 2, none⟩ = some (.int .i64 s.b) := hcs 2 (by omega)
      have m3 : wr.cell? ⟨bb, off + j * 7 + 3, none⟩ = some (.int .i64 s.c) := hcs 3 (by omega)
      have m4 : wr.cell? ⟨bb, off + j * 7 + 4, none⟩ = some (.int .i64 s.o) := hcs 4 (by omega)
      have m5 : wr.cell? ⟨bb, off + j * 7 + 5, none⟩ = some (.int .i64 s.v) := hcs 5 (by omega)
      have m6 : wr.cell? ⟨bb, off + j * 7 + 6, none⟩ = some (.slice s.p s.l.length s.n) := hcs 6 (by omega)
      have hstep : Hid (textT (q.take (j + 1)) = textT (q.take j) ++ lineT s ++ [10]) := by show _ = _; rw [textT_take hlt, hs]
      have hTl : (textT (q.take j)).length ≤ 50000 := by
        have := textT_len (q.take j) (fun s' hs' => (errQ_fine hH.out.2.2.2 s' (List.mem_of_mem_take hs')).1)
        simp only [List.length_take] at this
        omega
      have hg0 : Gr wr (wr.alloc (.cells #[.int .i64 s.k, .int .i64 s.a, .int .i64 s.b, .int .i64 s.c, .int .i64 s.o, .int .i64 s.v, .slice s.p s.l.length s.n] 37)) := (Gr.refl wr).alloc _
      have hTn : Hid (∀ n os, Tens (grow ((wr.alloc (.cells #[.int .i64 s.k, .int .i64 s.a, .int .i64 s.b, .int .i64 s.c, .int .i64 s.o, .int .i64 s.v, .slice s.p s.l.length s.n] 37)).drewN n) os)) := fun n os => ((hH.out.2.1.below hbw.out).gr hg0).gr ⟨n, os, rfl⟩
      have hVb : Hid (Verbs (wr.alloc (.cells #[.int .i64 s.k, .int .i64 s.a, .int .i64 s.b, .int .i64 s.c, .int .i64 s.o, .int .i64 s.v, .slice s.p s.l.length s.n] 37))) := (hH.out.2.2.1.below hbw.out).below hg0.below
      have xlt : wr.heap.size < (wr.alloc (.cells #[.int .i64 s.k, .int .i64 s.a, .int .i64 s.b, .int .i64 s.c, .int .i64 s.o, .int .i64 s.v, .slice s.p s.l.length s.n] 37)).heap.size := by simp
      have g0 := (Gr.refl (wr.alloc (.cells #[.int .i64 s.k, .int .i64 s.a, .int .i64 s.b, .int .i64 s.c, .int .i64 s.o, .int .i64 s.v, .slice s.p s.l.length s.n] 37))).cellG (a := ⟨wr.heap.size, 0, none⟩) xlt (box1 (Gr.refl _) rfl)
      have g1 := (Gr.refl (wr.alloc (.cells #[.int .i64 s.k, .int .i64 s.a, .int .i64 s.b, .int .i64 s.c, .int .i64 s.o, .int .i64 s.v, .slice s.p s.l.length s.n] 37))).cellG (a := ⟨wr.heap.size, 1, none⟩) xlt (box1 (Gr.refl _) rfl)
      obtain ⟨kn, hkn, hk1, hk9⟩ : ∃ kn : Nat, s.k = kn ∧ 1 ≤ kn ∧ kn ≤ 9 := by
        have := hko.out.1
        exact ⟨s.k.toNat, by omega, by omega, by omega⟩
      obtain ⟨T, hT⟩ : ∃ T : ByteArray, T = ⟨(textT (q.take j)).toArray⟩ := ⟨_, rfl⟩
      obtain ⟨Wd, hWd⟩ : ∃ T : ByteArray, T = ⟨(wordL s.k).toArray⟩ := ⟨_, rfl⟩
      obtain ⟨Ia, hIa⟩ : ∃ T : ByteArray, T = ⟨(Lib.itoa s.a).toArray⟩ := ⟨_, rfl⟩
      obtain ⟨c1, hc1⟩ : ∃ T : ByteArray, T = ⟨(wordL s.k ++ [32]).toArray⟩ := ⟨_, rfl⟩
      obtain ⟨c2, hc2⟩ : ∃ T : ByteArray, T = ⟨(wordL s.k ++ [32] ++ Lib.itoa s.a).toArray⟩ := ⟨_, rfl⟩
      obtain ⟨c3, hc3⟩ : ∃ T : ByteArray, T = ⟨(textT (q.take j) ++ (wordL s.k ++ [32] ++ Lib.itoa s.a)).toArray⟩ := ⟨_, rfl⟩
      have lw := wordL_len s.k
      have la := itoa_len hsf.out.1.a
      have a1 := addB hc1 hWd (rfl : (⟨#[32]⟩ : ByteArray) = ⟨([32] : List UInt8).toArray⟩) (by simp only [List.length_cons, List.length_nil]; omega)
      have a2 := addB hc2 hc1 hIa (by simp only [List.length_append, List.length_cons, List.length_nil]; omega)
      have a3 := addB hc3 hT hc2 (by simp only [List.length_append, List.length_cons, List.length_nil]; omega)
      have gv := (Gr.refl (wr.alloc (.cells #[.int .i64 s.k, .int .i64 s.a, .int .i64 s.b, .int .i64 s.c, .int .i64 s.o, .int .i64 s.v, .slice s.p s.l.length s.n] 37))).cellG (a := ⟨0, kn, none⟩) hVb.out.lt (hVb.out.word kn (by omega))
      rw [← hkn, ← hWd] at gv
      rw [hkn] at g0 g1 gv m0 hTn xlt
      rw [← hT]
      have hknH : Hid (s.k = kn) := hkn
      have hE : Hid (T = ⟨(textT (q.take j)).toArray⟩ ∧ Wd = ⟨(wordL s.k).toArray⟩ ∧ Ia = ⟨(Lib.itoa s.a).toArray⟩ ∧ c3 = ⟨(textT (q.take j) ++ (wordL s.k ++ [32] ++ Lib.itoa s.a)).toArray⟩) := ⟨hT, hWd, hIa, hc3⟩
      clear hcs hs hsm hT hWd hIa hc1 hc2 hc3 lw la hkn hg0
      go_wp2_with fail
      refine wp_region_quiet_grown mixed (by kernel_rfl) ?_
      repeat (go_big_quiet_step ((go_at_call 11; refine Calls.grown_of (itoa_b hE.out.2.2.1 hsf.out.1.a (hTn.out _ _)))))
      refine wpQuiet_nil ?_
      rintro _ ⟨⟨nq2, osq2⟩, rfl⟩
      -- behind the line's head
      obtain ⟨w2, hw2⟩ : ∃ w2, w2 = grow ((wr.alloc (.cells #[.int .i64 (kn : Int), .int .i64 s.a, .int .i64 s.b, .int .i64 s.c, .int .i64 s.o, .int .i64 s.v, .slice s.p s.l.length s.n] 37)).drewN nq2) osq2 := ⟨_, rfl⟩
      have hGr : Gr (wr.alloc (.cells #[.int .i64 (kn : Int), .int .i64 s.a, .int .i64 s.b, .int .i64 s.c, .int .i64 s.o, .int .i64 s.v, .slice s.p s.l.length s.n] 37)) w2 := ⟨nq2, osq2, hw2⟩
      rw [← hw2]
      clear g0 g1 gv m0 m1 m2 m3 m4 m5 m6 a1 a2 a3 xlt hw2
      have x0 : w2.cell? ⟨wr.heap.size, 0, none⟩ = some (.int .i64 (kn : Int)) := box1 hGr rfl
      have x1 : w2.cell? ⟨wr.heap.size, 1, none⟩ = some (.int .i64 s.a) := box1 hGr rfl
      have x2 : w2.cell? ⟨wr.heap.size, 2, none⟩ = some (.int .i64 s.b) := box1 hGr rfl
      have x3 : w2.cell? ⟨wr.heap.size, 3, none⟩ = some (.int .i64 s.c) := box1 hGr rfl
      have x4 : w2.cell? ⟨wr.heap.size, 4, none⟩ = some (.int .i64 s.o) := box1 hGr rfl
      have x5 : w2.cell? ⟨wr.heap.size, 5, none⟩ = some (.int .i64 s.v) := box1 hGr rfl
      have x6 : w2.cell? ⟨wr.heap.size, 6, none⟩ = some (.slice s.p s.l.length s.n) := box1 hGr rfl
      have hxl : wr.heap.size < w2.heap.size := Nat.lt_of_lt_of_le (by simp) hGr.size
      have hGw : Gr wr w2 := ((Gr.refl wr).alloc _).trans hGr
      have hW2 : Hid (Below w.heap.size w w2 ∧ Tens w2 ∧ RowI w2 s.p s.l) := ⟨hbw.out.trans (hGw.below.mono hbw.out.size), (hH.out.2.1.below hbw.out).gr hGw, hsr.out.gr hGw⟩
      have hTn2 : Hid (∀ n os, Tens (grow (w2.drewN n) os)) := fun n os => hW2.out.2.1.gr ⟨n, os, rfl⟩
      obtain ⟨P0, hP0⟩ : ∃ P0, P0 = textT (q.take j) ++ (wordL s.k ++ [32] ++ Lib.itoa s.a) := ⟨_, rfl⟩
      have hc3 : c3 = ⟨P0.toArray⟩ := by rw [hP0]; exact hE.out.2.2.2
      have hc3H : Hid (c3 = ⟨P0.toArray⟩) := hc3
      have hP0l : P0.length ≤ 60000 := by
        have h1 := wordL_len s.k
        have h2 := itoa_len hsf.out.1.a
        rw [hP0]; simp only [List.length_append, List.length_cons, List.length_nil]; omega
      have hP0H : Hid (P0 = textT (q.take j) ++ (wordL s.k ++ [32] ++ Lib.itoa s.a)) := hP0
      clear hGr hGw hP0 hTn hVb hc3
      clear hI hb hsr
      generalize wr.heap.size = nb at x0 x1 x2 x3 x4 x5 x6 hxl ⊢
      rcases hko.out.1 with hk | hk | hk | hk | hk | hk | hk | hk | hk
      · have x0' : w2.cell? ⟨nb, 0, none⟩ = some (.int .i64 1) := by rw [x0, ← hknH.out, hk]
        clear x0
        obtain ⟨e1, he1⟩ : ∃ T : ByteArray, T = ⟨(P0 ++ [10]).toArray⟩ := ⟨_, rfl⟩
        have ae := addB he1 hc3H.out (rfl : (⟨#[10]⟩ : ByteArray) = ⟨([10] : List UInt8).toArray⟩) (by (try simp) <;> omega)
        have hfin : Hid (Value.string e1 = .string ⟨(textT (q.take (j + 1))).toArray⟩) := by
          show _ = _
          rw [he1, hstep.out, lineT1 hk, hP0H.out, hk]
          try simp only [List.append_assoc]
        clear he1
        go_wp2
        go_roundw
        case rel => exact ⟨j + 1, by omega, by go_num, hfin.out, hW2.out.1⟩
        case measure => simp [intOf]; omega
      · have x0' : w2.cell? ⟨nb, 0, none⟩ = some (.int .i64 2) := by rw [x0, ← hknH.out, hk]
        clear x0
        have gc := (Gr.refl w2).cellG (a := ⟨nb, 3, none⟩) hxl x3
        obtain ⟨Ic, hIc⟩ : ∃ T : ByteArray, T = ⟨(Lib.itoa s.c).toArray⟩ := ⟨_, rfl⟩
        have lc := itoa_len hsf.out.1.c
        have go := (Gr.refl w2).cellG (a := ⟨nb, 4, none⟩) hxl x4
        obtain ⟨Io, hIo⟩ : ∃ T : ByteArray, T = ⟨(signL s.o).toArray⟩ := ⟨_, rfl⟩
        have lo : (signL s.o).length ≤ 1 := signL_len s.o
        have gv := (Gr.refl w2).cellG (a := ⟨nb, 5, none⟩) hxl x5
        obtain ⟨Iv, hIv⟩ : ∃ T : ByteArray, T = ⟨(Lib.itoa s.v).toArray⟩ := ⟨_, rfl⟩
        have lv := itoa_len hsf.out.1.v
        obtain ⟨d1, hd1⟩ : ∃ T : ByteArray, T = ⟨([32] ++ Lib.itoa s.c).toArray⟩ := ⟨_, rfl⟩
        have b1 := addB hd1 (rfl : (⟨#[32]⟩ : ByteArray) = ⟨([32] : List UInt8).toArray⟩) hIc (by (try simp) <;> omega)
        obtain ⟨d2, hd2⟩ : ∃ T : ByteArray, T = ⟨([32] ++ Lib.itoa s.c ++ [32]).toArray⟩ := ⟨_, rfl⟩
        have b2 := addB hd2 hd1 (rfl : (⟨#[32]⟩ : ByteArray) = ⟨([32] : List UInt8).toArray⟩) (by (try simp) <;> omega)
        obtain ⟨d3, hd3⟩ : ∃ T : ByteArray, T = ⟨([32] ++ Lib.itoa s.c ++ [32] ++ signL s.o).toArray⟩ := ⟨_, rfl⟩
        have b3 := addB hd3 hd2 hIo (by (try simp) <;> omega)
        obtain ⟨d4, hd4⟩ : ∃ T : ByteArray, T = ⟨([32] ++ Lib.itoa s.c ++ [32] ++ signL s.o ++ [32]).toArray⟩ := ⟨_, rfl⟩
        have b4 := addB hd4 hd3 (rfl : (⟨#[32]⟩ : ByteArray) = ⟨([32] : List UInt8).toArray⟩) (by (try simp) <;> omega)
        obtain ⟨d5, hd5⟩ : ∃ T : ByteArray, T = ⟨([32] ++ Lib.itoa s.c ++ [32] ++ signL s.o ++ [32] ++ Lib.itoa s.v).toArray⟩ := ⟨_, rfl⟩
        have b5 := addB hd5 hd4 hIv (by (try simp) <;> omega)
        obtain ⟨c4, hc4⟩ : ∃ T : ByteArray, T = ⟨(P0 ++ ([32] ++ Lib.itoa s.c ++ [32] ++ signL s.o ++ [32] ++ Lib.itoa s.v)).toArray⟩ := ⟨_, rfl⟩
        have b0 := addB hc4 hc3H.out hd5 (by (try simp) <;> omega)
        have hc4H : Hid (c4 = ⟨(P0 ++ ([32] ++ Lib.itoa s.c ++ [32] ++ signL s.o ++ [32] ++ Lib.itoa s.v)).toArray⟩) := hc4
        clear hc4
        have hIH : Hid (Ic = ⟨(Lib.itoa s.c).toArray⟩ ∧ Iv = ⟨(Lib.itoa s.v).toArray⟩) := ⟨hIc, hIv⟩
        clear hd1 hd2 hd3 hd4 hd5 hIc hIv
        clear gc go gv
        obtain ⟨e1, he1⟩ : ∃ T : ByteArray, T = ⟨((P0 ++ ([32] ++ Lib.itoa s.c ++ [32] ++ signL s.o ++ [32] ++ Lib.itoa s.v)) ++ [10]).toArray⟩ := ⟨_, rfl⟩
        have ae := addB he1 hc4H.out (rfl : (⟨#[10]⟩ : ByteArray) = ⟨([10] : List UInt8).toArray⟩) (by (try simp) <;> omega)
        have hfin : Hid (Value.string e1 = .string ⟨(textT (q.take (j + 1))).toArray⟩) := by
          show _ = _
          rw [he1, hstep.out, lineT2 hk, hP0H.out, hk]
          try simp only [List.append_assoc]
        clear he1
        obtain ⟨on, hon, ho1, ho3⟩ : ∃ on : Nat, s.o = on ∧ 1 ≤ on ∧ on ≤ 3 := by
          have := hko.out.2 hk
          exact ⟨s.o.toNat, by omega, by omega, by omega⟩
        have x4' : w2.cell? ⟨nb, 4, none⟩ = some (.int .i64 (on : Int)) := by rw [x4, hon]
        have hLit : Hid (∀ W W' : World, Gr (W.alloc (.cells #[.string ⟨#[]⟩, .string ⟨#[60]⟩, .string ⟨#[61]⟩, .string ⟨#[62]⟩] 9)) W' → W'.cell? ⟨W.heap.size, on, none⟩ = some (.string Io)) := fun W W' h => by
          rw [hIo, hon]
          have h3 : on = 1 ∨ on = 2 ∨ on = 3 := by omega
          rcases h3 with rfl | rfl | rfl
          · exact box1 h rfl
          · exact box1 h rfl
          · exact box1 h rfl
        have ho4 : ((on : Nat) : Int) < 4 := by omega
        have ho0 : (0 : Int) ≤ ((on : Nat) : Int) := by omega
        have hKeep : Hid (∀ W, Gr w2 W → (fun w' => w'.cell? ⟨nb, 3, none⟩ = some (.int .i64 s.c) ∧ w'.cell? ⟨nb, 4, none⟩ = some (.int .i64 (on : Int)) ∧ w'.cell? ⟨nb, 5, none⟩ = some (.int .i64 s.v)) W) := fun W h => ⟨(h.below.cell (p := ⟨nb, 3, none⟩) hxl).trans x3, (h.below.cell (p := ⟨nb, 4, none⟩) hxl).trans x4', (h.below.cell (p := ⟨nb, 5, none⟩) hxl).trans x5⟩
        have hTG : Hid (∀ W, Gr w2 W → Tens W) := fun W h => hW2.out.2.1.gr h
        have hgD : Hid (Gr w2 w2.drew) := (Gr.refl _).drew
        have hgA : Hid (Gr w2 (w2.alloc (.cells #[.string ⟨#[]⟩, .string ⟨#[60]⟩, .string ⟨#[61]⟩, .string ⟨#[62]⟩] 9)).drew) := ((Gr.refl _).alloc _).drew
        have hgB : Hid (Gr w2 (w2.drew.alloc (.cells #[.string ⟨#[]⟩, .string ⟨#[60]⟩, .string ⟨#[61]⟩, .string ⟨#[62]⟩] 9))) := ((Gr.refl _).drew).alloc _
        have hB3 : Hid (∀ W, Gr w2 W → Below w.heap.size w W) := fun W h => hW2.out.1.trans (h.below.mono hW2.out.1.size)
        have f0 : (w2.alloc (.cells #[.string ⟨#[]⟩, .string ⟨#[60]⟩, .string ⟨#[61]⟩, .string ⟨#[62]⟩] 9)).drew.cell? ⟨w2.heap.size, on, none⟩ = some (.string Io) := hLit.out w2 _ (Gr.refl _).drew
        have f0' : (w2.drew.alloc (.cells #[.string ⟨#[]⟩, .string ⟨#[60]⟩, .string ⟨#[61]⟩, .string ⟨#[62]⟩] 9)).cell? ⟨w2.heap.size, on, none⟩ = some (.string Io) := hLit.out w2.drew _ (Gr.refl _)
        clear x1 x2 x3 x4 x5 x6 x4' hIo hon
        go_wp2_with fail
        refine wp_region_noPanic ?_
        refine wp_region_held_drew (S := (fun w' => w'.cell? ⟨nb, 3, none⟩ = some (.int .i64 s.c) ∧ w'.cell? ⟨nb, 4, none⟩ = some (.int .i64 (on : Int)) ∧ w'.cell? ⟨nb, 5, none⟩ = some (.int .i64 s.v))) (by kernel_rfl) (hKeep.out _ hgD.out) (fun hHeld => ?_)
        refine wpAnyH_take (i := 0) (oi := ?oi1) (v := ?v1) ?hop1 ?hs1 ?hf1 ?hr1 ?hQ1 ?hy1 (by assumption) ?rest1
        case hop1 => (simp only [List.getElem?_toArray, List.getElem?_cons_zero]; rfl)
        case hs1 => kernel_rfl
        case hf1 => kernel_rfl
        case hr1 => kernel_rfl
        case hQ1 => exact fun _ _ _ h => h
        case hy1 => (refine Or.inl ⟨by rfl, ?_⟩; intro w hSw; (try dsimp only at hSw); go_simp <;> with_reducible rfl)
        try simp only [Act.put, List.setIfInBounds_toArray, List.set_cons_zero, List.set_cons_succ]
        refine wpAnyH_take (i := 1) (oi := ?oi2) (v := ?v2) ?hop2 ?hs2 ?hf2 ?hr2 ?hQ2 ?hy2 (by assumption) ?rest2
        case hop2 => (simp only [List.getElem?_toArray, List.getElem?_cons_zero, List.getElem?_cons_succ]; rfl)
        case hs2 => kernel_rfl
        case hf2 => kernel_rfl
        case hr2 => kernel_rfl
        case hQ2 => exact fun _ _ _ h => h
        case hy2 => (refine Or.inl ⟨by rfl, ?_⟩; intro w hSw; (try dsimp only at hSw); go_simp <;> with_reducible rfl)
        try simp only [Act.put, List.setIfInBounds_toArray, List.set_cons_zero, List.set_cons_succ]
        refine wpAnyH_take (i := 2) (oi := ?oi3) (v := ?v3) ?hop3 ?hs3 ?hf3 ?hr3 ?hQ3 ?hy3 (by assumption) ?rest3
        case hop3 => (simp only [List.getElem?_toArray, List.getElem?_cons_zero, List.getElem?_cons_succ]; rfl)
        case hs3 => kernel_rfl
        case hf3 => kernel_rfl
        case hr3 => kernel_rfl
        case hQ3 => exact fun _ _ _ h => h
        case hy3 => (refine Or.inl ⟨by rfl, ?_⟩; intro w hSw; (try dsimp only at hSw); go_simp <;> with_reducible rfl)
        try simp only [Act.put, List.setIfInBounds_toArray, List.set_cons_zero, List.set_cons_succ]
        refine wpAnyH_take (i := 3) (oi := ?oi4) (v := ?v4) ?hop4 ?hs4 ?hf4 ?hr4 ?hQ4 ?hy4 (by assumption) ?rest4
        case hop4 => (simp only [List.getElem?_toArray, List.getElem?_cons_zero, List.getElem?_cons_succ]; rfl)
        case hs4 => kernel_rfl
        case hf4 => kernel_rfl
        case hr4 => kernel_rfl
        case hQ4 => exact fun _ _ _ h => h
        case hy4 => (refine Or.inl ⟨by rfl, ?_⟩; intro w hSw; (try dsimp only at hSw); go_simp <;> with_reducible rfl)
        try simp only [Act.put, List.setIfInBounds_toArray, List.set_cons_zero, List.set_cons_succ]
        refine wpAnyH_take (i := 8) (oi := ?oi5) (v := ?v5) ?hop5 ?hs5 ?hf5 ?hr5 ?hQ5 ?hy5 (by assumption) ?rest5
        case hop5 => (simp only [List.getElem?_toArray, List.getElem?_cons_zero, List.getElem?_cons_succ]; rfl)
        case hs5 => kernel_rfl
        case hf5 => kernel_rfl
        case hr5 => kernel_rfl
        case hQ5 => exact fun _ _ _ h => h
        case hy5 => (refine Or.inl ⟨by rfl, ?_⟩; intro w hSw; (try dsimp only at hSw); go_simp <;> with_reducible rfl)
        try simp only [Act.put, List.setIfInBounds_toArray, List.set_cons_zero, List.set_cons_succ]
        refine wpAnyH_take (i := 9) (oi := ?oi6) (v := ?v6) ?hop6 ?hs6 ?hf6 ?hr6 ?hQ6 ?hy6 (by assumption) ?rest6
        case hop6 => (simp only [List.getElem?_toArray, List.getElem?_cons_zero, List.getElem?_cons_succ]; rfl)
        case hs6 => kernel_rfl
        case hf6 => kernel_rfl
        case hr6 => kernel_rfl
        case hQ6 => exact fun _ _ _ h => h
        case hy6 => (refine Or.inl ⟨by rfl, ?_⟩; intro w hSw; (try dsimp only at hSw); go_simp <;> with_reducible rfl)
        try simp only [Act.put, List.setIfInBounds_toArray, List.set_cons_zero, List.set_cons_succ]
        refine wpAnyH_take (i := 14) (oi := ?oi7) (v := ?v7) ?hop7 ?hs7 ?hf7 ?hr7 ?hQ7 ?hy7 (by assumption) ?rest7
        case hop7 => (simp only [List.getElem?_toArray, List.getElem?_cons_zero, List.getElem?_cons_succ]; rfl)
        case hs7 => kernel_rfl
        case hf7 => kernel_rfl
        case hr7 => kernel_rfl
        case hQ7 => exact fun _ _ _ h => h
        case hy7 => (refine Or.inl ⟨by rfl, ?_⟩; intro w hSw; (try dsimp only at hSw); go_simp <;> with_reducible rfl)
        try simp only [Act.put, List.setIfInBounds_toArray, List.set_cons_zero, List.set_cons_succ]
        refine wpAnyH_take (i := 15) (oi := ?oi8) (v := ?v8) ?hop8 ?hs8 ?hf8 ?hr8 ?hQ8 ?hy8 (by assumption) ?rest8
        case hop8 => (simp only [List.getElem?_toArray, List.getElem?_cons_zero, List.getElem?_cons_succ]; rfl)
        case hs8 => kernel_rfl
        case hf8 => kernel_rfl
        case hr8 => kernel_rfl
        case hQ8 => exact fun _ _ _ h => h
        case hy8 => (refine Or.inl ⟨by rfl, ?_⟩; intro w hSw; (try dsimp only at hSw); go_simp <;> with_reducible rfl)
        try simp only [Act.put, List.setIfInBounds_toArray, List.set_cons_zero, List.set_cons_succ]
        refine wpAnyH_take (i := 16) (oi := ?oi9) (v := ?v9) ?hop9 ?hs9 ?hf9 ?hr9 ?hQ9 ?hy9 (by assumption) ?rest9
        case hop9 => (simp only [List.getElem?_toArray, List.getElem?_cons_zero, List.getElem?_cons_succ]; rfl)
        case hs9 => kernel_rfl
        case hf9 => kernel_rfl
        case hr9 => kernel_rfl
        case hQ9 => exact fun _ _ _ h => h
        case hy9 => (refine Or.inl ⟨by rfl, ?_⟩; intro w hSw; (try dsimp only at hSw); go_simp <;> with_reducible rfl)
        try simp only [Act.put, List.setIfInBounds_toArray, List.set_cons_zero, List.set_cons_succ]
        refine wpAnyH_ready (rs := [4, 7]) (by kernel_rfl) (by simp) ?_
        refine AllReadyH.cons (o := ?oi10) ?hop10 (fun K hK => ?step10) ?more10
        case hop10 => (simp only [List.getElem?_toArray, List.getElem?_cons_zero, List.getElem?_cons_succ]; rfl)
        case more10 =>
          refine AllReadyH.cons (o := ?oi11) ?hop11 (fun K hK => ?step11) ?more11
          case hop11 => (simp only [List.getElem?_toArray, List.getElem?_cons_zero, List.getElem?_cons_succ]; rfl)
          case more11 => exact AllReadyH.nil
          go_simp
          refine hK.out _ _ ?_ (fun hHeld => ?_)
          · (try dsimp only); first | with_reducible exact hKeep.out _ hgD.out | with_reducible exact hKeep.out _ hgA.out | with_reducible exact hKeep.out _ hgB.out | with_reducible exact hKeep.out _ hgV.out | with_reducible exact hKeep.out _ (hgV.out.alloc _) | with_reducible exact hKeep.out _ hgC.out | with_reducible exact hKeep.out _ (hgC.out.alloc _)
          clear hK K
          try simp only [Act.put, List.setIfInBounds_toArray, List.set_cons_zero, List.set_cons_succ]
          refine wpAnyH_take (i := 10) (oi := ?oi12) (v := ?v12) ?hop12 ?hs12 ?hf12 ?hr12 ?hQ12 ?hy12 (by assumption) ?rest12
          case hop12 => (simp only [List.getElem?_toArray, List.getElem?_cons_zero, List.getElem?_cons_succ]; rfl)
          case hs12 => kernel_rfl
          case hf12 => kernel_rfl
          case hr12 => kernel_rfl
          case hQ12 => exact fun _ _ _ h => h
          case hy12 => (refine Or.inl ⟨by rfl, ?_⟩; intro w hSw; (try dsimp only at hSw); go_simp <;> with_reducible rfl)
          try simp only [Act.put, List.setIfInBounds_toArray, List.set_cons_zero, List.set_cons_succ]
          refine wpAnyH_ready (rs := [4, 11]) (by kernel_rfl) (by simp) ?_
          refine AllReadyH.cons (o := ?oi13) ?hop13 (fun K hK => ?step13) ?more13
          case hop13 => (simp only [List.getElem?_toArray, List.getElem?_cons_zero, List.getElem?_cons_succ]; rfl)
          case more13 =>
            refine AllReadyH.cons (o := ?oi14) ?hop14 (fun K hK => ?step14) ?more14
            case hop14 => (simp only [List.getElem?_toArray, List.getElem?_cons_zero, List.getElem?_cons_succ]; rfl)
            case more14 => exact AllReadyH.nil
            go_simp
            refine hK.out _ _ ?_ (fun hHeld => ?_)
            · (try dsimp only); first | with_reducible exact hKeep.out _ hgD.out | with_reducible exact hKeep.out _ hgA.out | with_reducible exact hKeep.out _ hgB.out | with_reducible exact hKeep.out _ hgV.out | with_reducible exact hKeep.out _ (hgV.out.alloc _) | with_reducible exact hKeep.out _ hgC.out | with_reducible exact hKeep.out _ (hgC.out.alloc _)
            clear hK K
            try simp only [Act.put, List.setIfInBounds_toArray, List.set_cons_zero, List.set_cons_succ]
            refine wpAnyH_ready (rs := [4]) (by kernel_rfl) (by simp) ?_
            refine AllReadyH.cons (o := ?oi15) ?hop15 (fun K hK => ?step15) ?more15
            case hop15 => (simp only [List.getElem?_toArray, List.getElem?_cons_zero, List.getElem?_cons_succ]; rfl)
            case more15 => exact AllReadyH.nil
            go_simp
            (go_at_call 11; (with_reducible refine Calls.mono (itoa_b (n := s.c) hIH.out.1 hsf.out.1.c (hTG.out _ (by first | with_reducible exact hgD.out | with_reducible exact hgA.out | with_reducible exact hgB.out))) ?_); rintro e wC ⟨rfl, hqc⟩; have hgC : Hid (Gr w2 wC) := (show Gr w2 _ from (by first | with_reducible exact hgD.out | with_reducible exact hgA.out | with_reducible exact hgB.out)).trans hqc; have fC : (wC.alloc (.cells #[.string ⟨#[]⟩, .string ⟨#[60]⟩, .string ⟨#[61]⟩, .string ⟨#[62]⟩] 9)).cell? ⟨wC.heap.size, on, none⟩ = some (.string Io) := hLit.out wC _ (Gr.refl _); have hcl : wC.cell? ⟨w2.heap.size, on, none⟩ = some (.string Io) := (by first | exact hLit.out w2 wC ((Gr.refl _).drew.trans hqc) | exact hLit.out w2.drew wC hqc); have hcll : w2.heap.size < wC.heap.size := Nat.lt_of_lt_of_le (by simp [World.drew]) (show Gr _ wC from hqc).size; clear hqc)
            first | (go_wp2_with fail) | skip
            refine hK.out _ _ ?_ (fun hHeld => ?_)
            · (try dsimp only); first | with_reducible exact hKeep.out _ hgD.out | with_reducible exact hKeep.out _ hgA.out | with_reducible exact hKeep.out _ hgB.out | with_reducible exact hKeep.out _ hgV.out | with_reducible exact hKeep.out _ (hgV.out.alloc _) | with_reducible exact hKeep.out _ hgC.out | with_reducible exact hKeep.out _ (hgC.out.alloc _)
            clear hK K
            try simp only [Act.put, List.setIfInBounds_toArray, List.set_cons_zero, List.set_cons_succ]
            refine wpAnyH_take (i := 5) (oi := ?oi16) (v := ?v16) ?hop16 ?hs16 ?hf16 ?hr16 ?hQ16 ?hy16 (by assumption) ?rest16
            case hop16 => (simp only [List.getElem?_toArray, List.getElem?_cons_zero, List.getElem?_cons_succ]; rfl)
            case hs16 => kernel_rfl
            case hf16 => kernel_rfl
            case hr16 => kernel_rfl
            case hQ16 => exact fun _ _ _ h => h
            case hy16 => (refine Or.inl ⟨by rfl, ?_⟩; intro w hSw; (try dsimp only at hSw); go_simp <;> with_reducible rfl)
            try simp only [Act.put, List.setIfInBounds_toArray, List.set_cons_zero, List.set_cons_succ]
            refine wpAnyH_take (i := 6) (oi := ?oi17) (v := ?v17) ?hop17 ?hs17 ?hf17 ?hr17 ?hQ17 ?hy17 (by assumption) ?rest17
            case hop17 => (simp only [List.getElem?_toArray, List.getElem?_cons_zero, List.getElem?_cons_succ]; rfl)
            case hs17 => kernel_rfl
            case hf17 => kernel_rfl
            case hr17 => kernel_rfl
            case hQ17 => exact fun _ _ _ h => h
            case hy17 => (refine Or.inl ⟨by rfl, ?_⟩; intro w hSw; (try dsimp only at hSw); go_simp <;> with_reducible rfl)
            try simp only [Act.put, List.setIfInBounds_toArray, List.set_cons_zero, List.set_cons_succ]
            refine wpAnyH_take (i := 12) (oi := ?oi18) (v := ?v18) ?hop18 ?hs18 ?hf18 ?hr18 ?hQ18 ?hy18 (by assumption) ?rest18
            case hop18 => (simp only [List.getElem?_toArray, List.getElem?_cons_zero, List.getElem?_cons_succ]; rfl)
            case hs18 => kernel_rfl
            case hf18 => kernel_rfl
            case hr18 => kernel_rfl
            case hQ18 => exact fun _ _ _ h => h
            case hy18 => (refine Or.inl ⟨by rfl, ?_⟩; intro w hSw; (try dsimp only at hSw); go_simp <;> with_reducible rfl)
            try simp only [Act.put, List.setIfInBounds_toArray, List.set_cons_zero, List.set_cons_succ]
            refine wpAnyH_take (i := 13) (oi := ?oi19) (v := ?v19) ?hop19 ?hs19 ?hf19 ?hr19 ?hQ19 ?hy19 (by assumption) ?rest19
            case hop19 => (simp only [List.getElem?_toArray, List.getElem?_cons_zero, List.getElem?_cons_succ]; rfl)
            case hs19 => kernel_rfl
            case hf19 => kernel_rfl
            case hr19 => kernel_rfl
            case hQ19 => exact fun _ _ _ h => h
            case hy19 => (refine Or.inl ⟨by rfl, ?_⟩; intro w hSw; (try dsimp only at hSw); go_simp <;> with_reducible rfl)
            try simp only [Act.put, List.setIfInBounds_toArray, List.set_cons_zero, List.set_cons_succ]
            refine wpAnyH_ready (rs := [17]) (by kernel_rfl) (by simp) ?_
            refine AllReadyH.cons (o := ?oi20) ?hop20 (fun K hK => ?step20) ?more20
            case hop20 => (simp only [List.getElem?_toArray, List.getElem?_cons_zero, List.getElem?_cons_succ]; rfl)
            case more20 => exact AllReadyH.nil
            go_simp
            (go_at_call 11; (with_reducible refine Calls.mono (itoa_b (n := s.v) hIH.out.2 hsf.out.1.v (hTG.out _ (by first | with_reducible exact hgC.out | with_reducible exact (hgC.out.alloc _)))) ?_); rintro e wV ⟨rfl, hqv⟩; have hgV : Hid (Gr w2 wV) := (show Gr w2 _ from (by first | with_reducible exact hgC.out | with_reducible exact (hgC.out.alloc _))).trans hqv; have fV : (wV.alloc (.cells #[.string ⟨#[]⟩, .string ⟨#[60]⟩, .string ⟨#[61]⟩, .string ⟨#[62]⟩] 9)).cell? ⟨wV.heap.size, on, none⟩ = some (.string Io) := hLit.out wV _ (Gr.refl _); have hcl2 : wV.cell? ⟨w2.heap.size, on, none⟩ = some (.string Io) := (by first | exact ((show Gr wC wV from hqv).below.cell (p := ⟨w2.heap.size, on, none⟩) hcll).trans hcl | exact hLit.out wC wV hqv); clear hqv)
            first | (go_wp2_with fail) | skip
            refine hK.out _ _ ?_ (fun hHeld => ?_)
            · (try dsimp only); first | with_reducible exact hKeep.out _ hgD.out | with_reducible exact hKeep.out _ hgA.out | with_reducible exact hKeep.out _ hgB.out | with_reducible exact hKeep.out _ hgV.out | with_reducible exact hKeep.out _ (hgV.out.alloc _) | with_reducible exact hKeep.out _ hgC.out | with_reducible exact hKeep.out _ (hgC.out.alloc _)
            clear hK K
            try simp only [Act.put, List.setIfInBounds_toArray, List.set_cons_zero, List.set_cons_succ]
            refine wpAnyH_take (i := 18) (oi := ?oi21) (v := ?v21) ?hop21 ?hs21 ?hf21 ?hr21 ?hQ21 ?hy21 (by assumption) ?rest21
            case hop21 => (simp only [List.getElem?_toArray, List.getElem?_cons_zero, List.getElem?_cons_succ]; rfl)
            case hs21 => kernel_rfl
            case hf21 => kernel_rfl
            case hr21 => kernel_rfl
            case hQ21 => exact fun _ _ _ h => h
            case hy21 => (refine Or.inl ⟨by rfl, ?_⟩; intro w hSw; (try dsimp only at hSw); go_simp <;> with_reducible rfl)
            try simp only [Act.put, List.setIfInBounds_toArray, List.set_cons_zero, List.set_cons_succ]
            refine wpAnyH_take (i := 19) (oi := ?oi22) (v := ?v22) ?hop22 ?hs22 ?hf22 ?hr22 ?hQ22 ?hy22 (by assumption) ?rest22
            case hop22 => (simp only [List.getElem?_toArray, List.getElem?_cons_zero, List.getElem?_cons_succ]; rfl)
            case hs22 => kernel_rfl
            case hf22 => kernel_rfl
            case hr22 => kernel_rfl
            case hQ22 => exact fun _ _ _ h => h
            case hy22 => (refine Or.inl ⟨by rfl, ?_⟩; intro w hSw; (try dsimp only at hSw); go_simp <;> with_reducible rfl)
            try simp only [Act.put, List.setIfInBounds_toArray, List.set_cons_zero, List.set_cons_succ]
            refine wpAnyH_take (i := 20) (oi := ?oi23) (v := ?v23) ?hop23 ?hs23 ?hf23 ?hr23 ?hQ23 ?hy23 (by assumption) ?rest23
            case hop23 => (simp only [List.getElem?_toArray, List.getElem?_cons_zero, List.getElem?_cons_succ]; rfl)
            case hs23 => kernel_rfl
            case hf23 => kernel_rfl
            case hr23 => kernel_rfl
            case hQ23 => exact fun _ _ _ h => h
            case hy23 => (refine Or.inl ⟨by rfl, ?_⟩; intro w hSw; (try dsimp only at hSw); go_simp <;> with_reducible rfl)
            try simp only [Act.put, List.setIfInBounds_toArray, List.set_cons_zero, List.set_cons_succ]
            refine wpAnyH_done (by kernel_rfl) ?_ _
            refine NoPanic.normal ?_
            go_wp2
            go_roundw
            case rel => exact ⟨j + 1, by omega, by go_num, hfin.out, by first | exact hB3.out _ hgV.out | exact hB3.out _ (hgV.out.alloc _)⟩
            case measure => simp [intOf]; omega
          go_simp
          (go_at_call 11; (with_reducible refine Calls.mono (itoa_b (n := s.c) hIH.out.1 hsf.out.1.c (hTG.out _ (by first | with_reducible exact hgD.out | with_reducible exact hgA.out | with_reducible exact hgB.out))) ?_); rintro e wC ⟨rfl, hqc⟩; have hgC : Hid (Gr w2 wC) := (show Gr w2 _ from (by first | with_reducible exact hgD.out | with_reducible exact hgA.out | with_reducible exact hgB.out)).trans hqc; have fC : (wC.alloc (.cells #[.string ⟨#[]⟩, .string ⟨#[60]⟩, .string ⟨#[61]⟩, .string ⟨#[62]⟩] 9)).cell? ⟨wC.heap.size, on, none⟩ = some (.string Io) := hLit.out wC _ (Gr.refl _); have hcl : wC.cell? ⟨w2.heap.size, on, none⟩ = some (.string Io) := (by first | exact hLit.out w2 wC ((Gr.refl _).drew.trans hqc) | exact hLit.out w2.drew wC hqc); have hcll : w2.heap.size < wC.heap.size := Nat.lt_of_lt_of_le (by simp [World.drew]) (show Gr _ wC from hqc).size; clear hqc)
          first | (go_wp2_with fail) | skip
          refine hK.out _ _ ?_ (fun hHeld => ?_)
          · (try dsimp only); first | with_reducible exact hKeep.out _ hgD.out | with_reducible exact hKeep.out _ hgA.out | with_reducible exact hKeep.out _ hgB.out | with_reducible exact hKeep.out _ hgV.out | with_reducible exact hKeep.out _ (hgV.out.alloc _) | with_reducible exact hKeep.out _ hgC.out | with_reducible exact hKeep.out _ (hgC.out.alloc _)
          clear hK K
          try simp only [Act.put, List.setIfInBounds_toArray, List.set_cons_zero, List.set_cons_succ]
          refine wpAnyH_take (i := 5) (oi := ?oi24) (v := ?v24) ?hop24 ?hs24 ?hf24 ?hr24 ?hQ24 ?hy24 (by assumption) ?rest24
          case hop24 => (simp only [List.getElem?_toArray, List.getElem?_cons_zero, List.getElem?_cons_succ]; rfl)
          case hs24 => kernel_rfl
          case hf24 => kernel_rfl
          case hr24 => kernel_rfl
          case hQ24 => exact fun _ _ _ h => h
          case hy24 => (refine Or.inl ⟨by rfl, ?_⟩; intro w hSw; (try dsimp only at hSw); go_simp <;> with_reducible rfl)
          try simp only [Act.put, List.setIfInBounds_toArray, List.set_cons_zero, List.set_cons_succ]
          refine wpAnyH_take (i := 6) (oi := ?oi25) (v := ?v25) ?hop25 ?hs25 ?hf25 ?hr25 ?hQ25 ?hy25 (by assumption) ?rest25
          case hop25 => (simp only [List.getElem?_toArray, List.getElem?_cons_zero, List.getElem?_cons_succ]; rfl)
          case hs25 => kernel_rfl
          case hf25 => kernel_rfl
          case hr25 => kernel_rfl
          case hQ25 => exact fun _ _ _ h => h
          case hy25 => (refine Or.inl ⟨by rfl, ?_⟩; intro w hSw; (try dsimp only at hSw); go_simp <;> with_reducible rfl)
          try simp only [Act.put, List.setIfInBounds_toArray, List.set_cons_zero, List.set_cons_succ]
          refine wpAnyH_ready (rs := [11, 17]) (by kernel_rfl) (by simp) ?_
          refine AllReadyH.cons (o := ?oi26) ?hop26 (fun K hK => ?step26) ?more26
          case hop26 => (simp only [List.getElem?_toArray, List.getElem?_cons_zero, List.getElem?_cons_succ]; rfl)
          case more26 =>
            refine AllReadyH.cons (o := ?oi27) ?hop27 (fun K hK => ?step27) ?more27
            case hop27 => (simp only [List.getElem?_toArray, List.getElem?_cons_zero, List.getElem?_cons_succ]; rfl)
            case more27 => exact AllReadyH.nil
            go_simp
            (go_at_call 11; (with_reducible refine Calls.mono (itoa_b (n := s.v) hIH.out.2 hsf.out.1.v (hTG.out _ (by first | with_reducible exact hgC.out | with_reducible exact (hgC.out.alloc _)))) ?_); rintro e wV ⟨rfl, hqv⟩; have hgV : Hid (Gr w2 wV) := (show Gr w2 _ from (by first | with_reducible exact hgC.out | with_reducible exact (hgC.out.alloc _))).trans hqv; have fV : (wV.alloc (.cells #[.string ⟨#[]⟩, .string ⟨#[60]⟩, .string ⟨#[61]⟩, .string ⟨#[62]⟩] 9)).cell? ⟨wV.heap.size, on, none⟩ = some (.string Io) := hLit.out wV _ (Gr.refl _); have hcl2 : wV.cell? ⟨w2.heap.size, on, none⟩ = some (.string Io) := (by first | exact ((show Gr wC wV from hqv).below.cell (p := ⟨w2.heap.size, on, none⟩) hcll).trans hcl | exact hLit.out wC wV hqv); clear hqv)
            first | (go_wp2_with fail) | skip
            refine hK.out _ _ ?_ (fun hHeld => ?_)
            · (try dsimp only); first | with_reducible exact hKeep.out _ hgD.out | with_reducible exact hKeep.out _ hgA.out | with_reducible exact hKeep.out _ hgB.out | with_reducible exact hKeep.out _ hgV.out | with_reducible exact hKeep.out _ (hgV.out.alloc _) | with_reducible exact hKeep.out _ hgC.out | with_reducible exact hKeep.out _ (hgC.out.alloc _)
            clear hK K
            try simp only [Act.put, List.setIfInBounds_toArray, List.set_cons_zero, List.set_cons_succ]
            refine wpAnyH_ready (rs := [11]) (by kernel_rfl) (by simp) ?_
            refine AllReadyH.cons (o := ?oi28) ?hop28 (fun K hK => ?step28) ?more28
            case hop28 => (simp only [List.getElem?_toArray, List.getElem?_cons_zero, List.getElem?_cons_succ]; rfl)
            case more28 => exact AllReadyH.nil
            go_simp
            refine hK.out _ _ ?_ (fun hHeld => ?_)
            · (try dsimp only); first | with_reducible exact hKeep.out _ hgD.out | with_reducible exact hKeep.out _ hgA.out | with_reducible exact hKeep.out _ hgB.out | with_reducible exact hKeep.out _ hgV.out | with_reducible exact hKeep.out _ (hgV.out.alloc _) | with_reducible exact hKeep.out _ hgC.out | with_reducible exact hKeep.out _ (hgC.out.alloc _)
            clear hK K
            try simp only [Act.put, List.setIfInBounds_toArray, List.set_cons_zero, List.set_cons_succ]
            refine wpAnyH_take (i := 12) (oi := ?oi29) (v := ?v29) ?hop29 ?hs29 ?hf29 ?hr29 ?hQ29 ?hy29 (by assumption) ?rest29
            case hop29 => (simp only [List.getElem?_toArray, List.getElem?_cons_zero, List.getElem?_cons_succ]; rfl)
            case hs29 => kernel_rfl
            case hf29 => kernel_rfl
            case hr29 => kernel_rfl
            case hQ29 => exact fun _ _ _ h => h
            case hy29 => (refine Or.inl ⟨by rfl, ?_⟩; intro w hSw; (try dsimp only at hSw); go_simp <;> with_reducible rfl)
            try simp only [Act.put, List.setIfInBounds_toArray, List.set_cons_zero, List.set_cons_succ]
            refine wpAnyH_take (i := 13) (oi := ?oi30) (v := ?v30) ?hop30 ?hs30 ?hf30 ?hr30 ?hQ30 ?hy30 (by assumption) ?rest30
            case hop30 => (simp only [List.getElem?_toArray, List.getElem?_cons_zero, List.getElem?_cons_succ]; rfl)
            case hs30 => kernel_rfl
            case hf30 => kernel_rfl
            case hr30 => kernel_rfl
            case hQ30 => exact fun _ _ _ h => h
            case hy30 => (refine Or.inl ⟨by rfl, ?_⟩; intro w hSw; (try dsimp only at hSw); go_simp <;> with_reducible rfl)
            try simp only [Act.put, List.setIfInBounds_toArray, List.set_cons_zero, List.set_cons_succ]
            refine wpAnyH_take (i := 18) (oi := ?oi31) (v := ?v31) ?hop31 ?hs31 ?hf31 ?hr31 ?hQ31 ?hy31 (by assumption) ?rest31
            case hop31 => (simp only [List.getElem?_toArray, List.getElem?_cons_zero, List.getElem?_cons_succ]; rfl)
            case hs31 => kernel_rfl
            case hf31 => kernel_rfl
            case hr31 => kernel_rfl
            case hQ31 => exact fun _ _ _ h => h
            case hy31 => (refine Or.inl ⟨by rfl, ?_⟩; intro w hSw; (try dsimp only at hSw); go_simp <;> with_reducible rfl)
            try simp only [Act.put, List.setIfInBounds_toArray, List.set_cons_zero, List.set_cons_succ]
            refine wpAnyH_take (i := 19) (oi := ?oi32) (v := ?v32) ?hop32 ?hs32 ?hf32 ?hr32 ?hQ32 ?hy32 (by assumption) ?rest32
            case hop32 => (simp only [List.getElem?_toArray, List.getElem?_cons_zero, List.getElem?_cons_succ]; rfl)
            case hs32 => kernel_rfl
            case hf32 => kernel_rfl
            case hr32 => kernel_rfl
            case hQ32 => exact fun _ _ _ h => h
            case hy32 => (refine Or.inl ⟨by rfl, ?_⟩; intro w hSw; (try dsimp only at hSw); go_simp <;> with_reducible rfl)
            try simp only [Act.put, List.setIfInBounds_toArray, List.set_cons_zero, List.set_cons_succ]
            refine wpAnyH_take (i := 20) (oi := ?oi33) (v := ?v33) ?hop33 ?hs33 ?hf33 ?hr33 ?hQ33 ?hy33 (by assumption) ?rest33
            case hop33 => (simp only [List.getElem?_toArray, List.getElem?_cons_zero, List.getElem?_cons_succ]; rfl)
            case hs33 => kernel_rfl
            case hf33 => kernel_rfl
            case hr33 => kernel_rfl
            case hQ33 => exact fun _ _ _ h => h
            case hy33 => (refine Or.inl ⟨by rfl, ?_⟩; intro w hSw; (try dsimp only at hSw); go_simp <;> with_reducible rfl)
            try simp only [Act.put, List.setIfInBounds_toArray, List.set_cons_zero, List.set_cons_succ]
            refine wpAnyH_done (by kernel_rfl) ?_ _
            refine NoPanic.normal ?_
            go_wp2
            go_roundw
            case rel => exact ⟨j + 1, by omega, by go_num, hfin.out, by first | exact hB3.out _ hgV.out | exact hB3.out _ (hgV.out.alloc _)⟩
            case measure => simp [intOf]; omega
          go_simp
          refine hK.out _ _ ?_ (fun hHeld => ?_)
          · (try dsimp only); first | with_reducible exact hKeep.out _ hgD.out | with_reducible exact hKeep.out _ hgA.out | with_reducible exact hKeep.out _ hgB.out | with_reducible exact hKeep.out _ hgV.out | with_reducible exact hKeep.out _ (hgV.out.alloc _) | with_reducible exact hKeep.out _ hgC.out | with_reducible exact hKeep.out _ (hgC.out.alloc _)
          clear hK K
          try simp only [Act.put, List.setIfInBounds_toArray, List.set_cons_zero, List.set_cons_succ]
          refine wpAnyH_take (i := 12) (oi := ?oi34) (v := ?v34) ?hop34 ?hs34 ?hf34 ?hr34 ?hQ34 ?hy34 (by assumption) ?rest34
          case hop34 => (simp only [List.getElem?_toArray, List.getElem?_cons_zero, List.getElem?_cons_succ]; rfl)
          case hs34 => kernel_rfl
          case hf34 => kernel_rfl
          case hr34 => kernel_rfl
          case hQ34 => exact fun _ _ _ h => h
          case hy34 => (refine Or.inl ⟨by rfl, ?_⟩; intro w hSw; (try dsimp only at hSw); go_simp <;> with_reducible rfl)
          try simp only [Act.put, List.setIfInBounds_toArray, List.set_cons_zero, List.set_cons_succ]
          refine wpAnyH_take (i := 13) (oi := ?oi35) (v := ?v35) ?hop35 ?hs35 ?hf35 ?hr35 ?hQ35 ?hy35 (by assumption) ?rest35
          case hop35 => (simp only [List.getElem?_toArray, List.getElem?_cons_zero, List.getElem?_cons_succ]; rfl)
          case hs35 => kernel_rfl
          case hf35 => kernel_rfl
          case hr35 => kernel_rfl
          case hQ35 => exact fun _ _ _ h => h
          case hy35 => (refine Or.inl ⟨by rfl, ?_⟩; intro w hSw; (try dsimp only at hSw); go_simp <;> with_reducible rfl)
          try simp only [Act.put, List.setIfInBounds_toArray, List.set_cons_zero, List.set_cons_succ]
          refine wpAnyH_ready (rs := [17]) (by kernel_rfl) (by simp) ?_
          refine AllReadyH.cons (o := ?oi36) ?hop36 (fun K hK => ?step36) ?more36
          case hop36 => (simp only [List.getElem?_toArray, List.getElem?_cons_zero, List.getElem?_cons_succ]; rfl)
          case more36 => exact AllReadyH.nil
          go_simp
          (go_at_call 11; (with_reducible refine Calls.mono (itoa_b (n := s.v) hIH.out.2 hsf.out.1.v (hTG.out _ (by first | with_reducible exact hgC.out | with_reducible exact (hgC.out.alloc _)))) ?_); rintro e wV ⟨rfl, hqv⟩; have hgV : Hid (Gr w2 wV) := (show Gr w2 _ from (by first | with_reducible exact hgC.out | with_reducible exact (hgC.out.alloc _))).trans hqv; have fV : (wV.alloc (.cells #[.string ⟨#[]⟩, .string ⟨#[60]⟩, .string ⟨#[61]⟩, .string ⟨#[62]⟩] 9)).cell? ⟨wV.heap.size, on, none⟩ = some (.string Io) := hLit.out wV _ (Gr.refl _); have hcl2 : wV.cell? ⟨w2.heap.size, on, none⟩ = some (.string Io) := (by first | exact ((show Gr wC wV from hqv).below.cell (p := ⟨w2.heap.size, on, none⟩) hcll).trans hcl | exact hLit.out wC wV hqv); clear hqv)
          first | (go_wp2_with fail) | skip
          refine hK.out _ _ ?_ (fun hHeld => ?_)
          · (try dsimp only); first | with_reducible exact hKeep.out _ hgD.out | with_reducible exact hKeep.out _ hgA.out | with_reducible exact hKeep.out _ hgB.out | with_reducible exact hKeep.out _ hgV.out | with_reducible exact hKeep.out _ (hgV.out.alloc _) | with_reducible exact hKeep.out _ hgC.out | with_reducible exact hKeep.out _ (hgC.out.alloc _)
          clear hK K
          try simp only [Act.put, List.setIfInBounds_toArray, List.set_cons_zero, List.set_cons_succ]
          refine wpAnyH_take (i := 18) (oi := ?oi37) (v := ?v37) ?hop37 ?hs37 ?hf37 ?hr37 ?hQ37 ?hy37 (by assumption) ?rest37
          case hop37 => (simp only [List.getElem?_toArray, List.getElem?_cons_zero, List.getElem?_cons_succ]; rfl)
          case hs37 => kernel_rfl
          case hf37 => kernel_rfl
          case hr37 => kernel_rfl
          case hQ37 => exact fun _ _ _ h => h
          case hy37 => (refine Or.inl ⟨by rfl, ?_⟩; intro w hSw; (try dsimp only at hSw); go_simp <;> with_reducible rfl)
          try simp only [Act.put, List.setIfInBounds_toArray, List.set_cons_zero, List.set_cons_succ]
          refine wpAnyH_take (i := 19) (oi := ?oi38) (v := ?v38) ?hop38 ?hs38 ?hf38 ?hr38 ?hQ38 ?hy38 (by assumption) ?rest38
          case hop38 => (simp only [List.getElem?_toArray, List.getElem?_cons_zero, List.getElem?_cons_succ]; rfl)
          case hs38 => kernel_rfl
          case hf38 => kernel_rfl
          case hr38 => kernel_rfl
          case hQ38 => exact fun _ _ _ h => h
          case hy38 => (refine Or.inl ⟨by rfl, ?_⟩; intro w hSw; (try dsimp only at hSw); go_simp <;> with_reducible rfl)
          try simp only [Act.put, List.setIfInBounds_toArray, List.set_cons_zero, List.set_cons_succ]
          refine wpAnyH_take (i := 20) (oi := ?oi39) (v := ?v39) ?hop39 ?hs39 ?hf39 ?hr39 ?hQ39 ?hy39 (by assumption) ?rest39
          case hop39 => (simp only [List.getElem?_toArray, List.getElem?_cons_zero, List.getElem?_cons_succ]; rfl)
          case hs39 => kernel_rfl
          case hf39 => kernel_rfl
          case hr39 => kernel_rfl
          case hQ39 => exact fun _ _ _ h => h
          case hy39 => (refine Or.inl ⟨by rfl, ?_⟩; intro w hSw; (try dsimp only at hSw); go_simp <;> with_reducible rfl)
          try simp only [Act.put, List.setIfInBounds_toArray, List.set_cons_zero, List.set_cons_succ]
          refine wpAnyH_done (by kernel_rfl) ?_ _
          refine NoPanic.normal ?_
          go_wp2
          go_roundw
          case rel => exact ⟨j + 1, by omega, by go_num, hfin.out, by first | exact hB3.out _ hgV.out | exact hB3.out _ (hgV.out.alloc _)⟩
          case measure => simp [intOf]; omega
        go_simp
        (go_at_call 11; (with_reducible refine Calls.mono (itoa_b (n := s.c) hIH.out.1 hsf.out.1.c (hTG.out _ (by first | with_reducible exact hgD.out | with_reducible exact hgA.out | with_reducible exact hgB.out))) ?_); rintro e wC ⟨rfl, hqc⟩; have hgC : Hid (Gr w2 wC) := (show Gr w2 _ from (by first | with_reducible exact hgD.out | with_reducible exact hgA.out | with_reducible exact hgB.out)).trans hqc; have fC : (wC.alloc (.cells #[.string ⟨#[]⟩, .string ⟨#[60]⟩, .string ⟨#[61]⟩, .string ⟨#[62]⟩] 9)).cell? ⟨wC.heap.size, on, none⟩ = some (.string Io) := hLit.out wC _ (Gr.refl _); clear hqc)
        first | (go_wp2_with fail) | skip
        refine hK.out _ _ ?_ (fun hHeld => ?_)
        · (try dsimp only); first | with_reducible exact hKeep.out _ hgD.out | with_reducible exact hKeep.out _ hgA.out | with_reducible exact hKeep.out _ hgB.out | with_reducible exact hKeep.out _ hgV.out | with_reducible exact hKeep.out _ (hgV.out.alloc _) | with_reducible exact hKeep.out _ hgC.out | with_reducible exact hKeep.out _ (hgC.out.alloc _)
        clear hK K
        try simp only [Act.put, List.setIfInBounds_toArray, List.set_cons_zero, List.set_cons_succ]
        refine wpAnyH_take (i := 5) (oi := ?oi40) (v := ?v40) ?hop40 ?hs40 ?hf40 ?hr40 ?hQ40 ?hy40 (by assumption) ?rest40
        case hop40 => (simp only [List.getElem?_toArray, List.getElem?_cons_zero, List.getElem?_cons_succ]; rfl)
        case hs40 => kernel_rfl
        case hf40 => kernel_rfl
        case hr40 => kernel_rfl
        case hQ40 => exact fun _ _ _ h => h
        case hy40 => (refine Or.inl ⟨by rfl, ?_⟩; intro w hSw; (try dsimp only at hSw); go_simp <;> with_reducible rfl)
        try simp only [Act.put, List.setIfInBounds_toArray, List.set_cons_zero, List.set_cons_succ]
        refine wpAnyH_take (i := 6) (oi := ?oi41) (v := ?v41) ?hop41 ?hs41 ?hf41 ?hr41 ?hQ41 ?hy41 (by assumption) ?rest41
        case hop41 => (simp only [List.getElem?_toArray, List.getElem?_cons_zero, List.getElem?_cons_succ]; rfl)
        case hs41 => kernel_rfl
        case hf41 => kernel_rfl
        case hr41 => kernel_rfl
        case hQ41 => exact fun _ _ _ h => h
        case hy41 => (refine Or.inl ⟨by rfl, ?_⟩; intro w hSw; (try dsimp only at hSw); go_simp <;> with_reducible rfl)
        try simp only [Act.put, List.setIfInBounds_toArray, List.set_cons_zero, List.set_cons_succ]
        refine wpAnyH_ready (rs := [7, 17]) (by kernel_rfl) (by simp) ?_
        refine AllReadyH.cons (o := ?oi42) ?hop42 (fun K hK => ?step42) ?more42
        case hop42 => (simp only [List.getElem?_toArray, List.getElem?_cons_zero, List.getElem?_cons_succ]; rfl)
        case more42 =>
          refine AllReadyH.cons (o := ?oi43) ?hop43 (fun K hK => ?step43) ?more43
          case hop43 => (simp only [List.getElem?_toArray, List.getElem?_cons_zero, List.getElem?_cons_succ]; rfl)
          case more43 => exact AllReadyH.nil
          go_simp
          (go_at_call 11; (with_reducible refine Calls.mono (itoa_b (n := s.v) hIH.out.2 hsf.out.1.v (hTG.out _ (by first | with_reducible exact hgC.out | with_reducible exact (hgC.out.alloc _)))) ?_); rintro e wV ⟨rfl, hqv⟩; have hgV : Hid (Gr w2 wV) := (show Gr w2 _ from (by first | with_reducible exact hgC.out | with_reducible exact (hgC.out.alloc _))).trans hqv; have fV : (wV.alloc (.cells #[.string ⟨#[]⟩, .string ⟨#[60]⟩, .string ⟨#[61]⟩, .string ⟨#[62]⟩] 9)).cell? ⟨wV.heap.size, on, none⟩ = some (.string Io) := hLit.out wV _ (Gr.refl _); clear hqv)
          first | (go_wp2_with fail) | skip
          refine hK.out _ _ ?_ (fun hHeld => ?_)
          · (try dsimp only); first | with_reducible exact hKeep.out _ hgD.out | with_reducible exact hKeep.out _ hgA.out | with_reducible exact hKeep.out _ hgB.out | with_reducible exact hKeep.out _ hgV.out | with_reducible exact hKeep.out _ (hgV.out.alloc _) | with_reducible exact hKeep.out _ hgC.out | with_reducible exact hKeep.out _ (hgC.out.alloc _)
          clear hK K
          try simp only [Act.put, List.setIfInBounds_toArray, List.set_cons_zero, List.set_cons_succ]
          refine wpAnyH_ready (rs := [7]) (by kernel_rfl) (by simp) ?_
          refine AllReadyH.cons (o := ?oi44) ?hop44 (fun K hK => ?step44) ?more44
          case hop44 => (simp only [List.getElem?_toArray, List.getElem?_cons_zero, List.getElem?_cons_succ]; rfl)
          case more44 => exact AllReadyH.nil
          go_simp
          refine hK.out _ _ ?_ (fun hHeld => ?_)
          · (try dsimp only); first | with_reducible exact hKeep.out _ hgD.out | with_reducible exact hKeep.out _ hgA.out | with_reducible exact hKeep.out _ hgB.out | with_reducible exact hKeep.out _ hgV.out | with_reducible exact hKeep.out _ (hgV.out.alloc _) | with_reducible exact hKeep.out _ hgC.out | with_reducible exact hKeep.out _ (hgC.out.alloc _)
          clear hK K
          try simp only [Act.put, List.setIfInBounds_toArray, List.set_cons_zero, List.set_cons_succ]
          refine wpAnyH_take (i := 10) (oi := ?oi45) (v := ?v45) ?hop45 ?hs45 ?hf45 ?hr45 ?hQ45 ?hy45 (by assumption) ?rest45
          case hop45 => (simp only [List.getElem?_toArray, List.getElem?_cons_zero, List.getElem?_cons_succ]; rfl)
          case hs45 => kernel_rfl
          case hf45 => kernel_rfl
          case hr45 => kernel_rfl
          case hQ45 => exact fun _ _ _ h => h
          case hy45 => (refine Or.inl ⟨by rfl, ?_⟩; intro w hSw; (try dsimp only at hSw); go_simp <;> with_reducible rfl)
          try simp only [Act.put, List.setIfInBounds_toArray, List.set_cons_zero, List.set_cons_succ]
          refine wpAnyH_ready (rs := [11]) (by kernel_rfl) (by simp) ?_
          refine AllReadyH.cons (o := ?oi46) ?hop46 (fun K hK => ?step46) ?more46
          case hop46 => (simp only [List.getElem?_toArray, List.getElem?_cons_zero, List.getElem?_cons_succ]; rfl)
          case more46 => exact AllReadyH.nil
          go_simp
          refine hK.out _ _ ?_ (fun hHeld => ?_)
          · (try dsimp only); first | with_reducible exact hKeep.out _ hgD.out | with_reducible exact hKeep.out _ hgA.out | with_reducible exact hKeep.out _ hgB.out | with_reducible exact hKeep.out _ hgV.out | with_reducible exact hKeep.out _ (hgV.out.alloc _) | with_reducible exact hKeep.out _ hgC.out | with_reducible exact hKeep.out _ (hgC.out.alloc _)
          clear hK K
          try simp only [Act.put, List.setIfInBounds_toArray, List.set_cons_zero, List.set_cons_succ]
          refine wpAnyH_take (i := 12) (oi := ?oi47) (v := ?v47) ?hop47 ?hs47 ?hf47 ?hr47 ?hQ47 ?hy47 (by assumption) ?rest47
          case hop47 => (simp only [List.getElem?_toArray, List.getElem?_cons_zero, List.getElem?_cons_succ]; rfl)
          case hs47 => kernel_rfl
          case hf47 => kernel_rfl
          case hr47 => kernel_rfl
          case hQ47 => exact fun _ _ _ h => h
          case hy47 => (refine Or.inl ⟨by rfl, ?_⟩; intro w hSw; (try dsimp only at hSw); go_simp <;> with_reducible rfl)
          try simp only [Act.put, List.setIfInBounds_toArray, List.set_cons_zero, List.set_cons_succ]
          refine wpAnyH_take (i := 13) (oi := ?oi48) (v := ?v48) ?hop48 ?hs48 ?hf48 ?hr48 ?hQ48 ?hy48 (by assumption) ?rest48
          case hop48 => (simp only [List.getElem?_toArray, List.getElem?_cons_zero, List.getElem?_cons_succ]; rfl)
          case hs48 => kernel_rfl
          case hf48 => kernel_rfl
          case hr48 => kernel_rfl
          case hQ48 => exact fun _ _ _ h => h
          case hy48 => (refine Or.inl ⟨by rfl, ?_⟩; intro w hSw; (try dsimp only at hSw); go_simp <;> with_reducible rfl)
          try simp only [Act.put, List.setIfInBounds_toArray, List.set_cons_zero, List.set_cons_succ]
          refine wpAnyH_take (i := 18) (oi := ?oi49) (v := ?v49) ?hop49 ?hs49 ?hf49 ?hr49 ?hQ49 ?hy49 (by assumption) ?rest49
          case hop49 => (simp only [List.getElem?_toArray, List.getElem?_cons_zero, List.getElem?_cons_succ]; rfl)
          case hs49 => kernel_rfl
          case hf49 => kernel_rfl
          case hr49 => kernel_rfl
          case hQ49 => exact fun _ _ _ h => h
          case hy49 => (refine Or.inl ⟨by rfl, ?_⟩; intro w hSw; (try dsimp only at hSw); go_simp <;> with_reducible rfl)
          try simp only [Act.put, List.setIfInBounds_toArray, List.set_cons_zero, List.set_cons_succ]
          refine wpAnyH_take (i := 19) (oi := ?oi50) (v := ?v50) ?hop50 ?hs50 ?hf50 ?hr50 ?hQ50 ?hy50 (by assumption) ?rest50
          case hop50 => (simp only [List.getElem?_toArray, List.getElem?_cons_zero, List.getElem?_cons_succ]; rfl)
          case hs50 => kernel_rfl
          case hf50 => kernel_rfl
          case hr50 => kernel_rfl
          case hQ50 => exact fun _ _ _ h => h
          case hy50 => (refine Or.inl ⟨by rfl, ?_⟩; intro w hSw; (try dsimp only at hSw); go_simp <;> with_reducible rfl)
          try simp only [Act.put, List.setIfInBounds_toArray, List.set_cons_zero, List.set_cons_succ]
          refine wpAnyH_take (i := 20) (oi := ?oi51) (v := ?v51) ?hop51 ?hs51 ?hf51 ?hr51 ?hQ51 ?hy51 (by assumption) ?rest51
          case hop51 => (simp only [List.getElem?_toArray, List.getElem?_cons_zero, List.getElem?_cons_succ]; rfl)
          case hs51 => kernel_rfl
          case hf51 => kernel_rfl
          case hr51 => kernel_rfl
          case hQ51 => exact fun _ _ _ h => h
          case hy51 => (refine Or.inl ⟨by rfl, ?_⟩; intro w hSw; (try dsimp only at hSw); go_simp <;> with_reducible rfl)
          try simp only [Act.put, List.setIfInBounds_toArray, List.set_cons_zero, List.set_cons_succ]
          refine wpAnyH_done (by kernel_rfl) ?_ _
          refine NoPanic.normal ?_
          go_wp2
          go_roundw
          case rel => exact ⟨j + 1, by omega, by go_num, hfin.out, by first | exact hB3.out _ hgV.out | exact hB3.out _ (hgV.out.alloc _)⟩
          case measure => simp [intOf]; omega
        go_simp
        refine hK.out _ _ ?_ (fun hHeld => ?_)
        · (try dsimp only); first | with_reducible exact hKeep.out _ hgD.out | with_reducible exact hKeep.out _ hgA.out | with_reducible exact hKeep.out _ hgB.out | with_reducible exact hKeep.out _ hgV.out | with_reducible exact hKeep.out _ (hgV.out.alloc _) | with_reducible exact hKeep.out _ hgC.out | with_reducible exact hKeep.out _ (hgC.out.alloc _)
        clear hK K
        try simp only [Act.put, List.setIfInBounds_toArray, List.set_cons_zero, List.set_cons_succ]
        refine wpAnyH_take (i := 10) (oi := ?oi52) (v := ?v52) ?hop52 ?hs52 ?hf52 ?hr52 ?hQ52 ?hy52 (by assumption) ?rest52
        case hop52 => (simp only [List.getElem?_toArray, List.getElem?_cons_zero, List.getElem?_cons_succ]; rfl)
        case hs52 => kernel_rfl
        case hf52 => kernel_rfl
        case hr52 => kernel_rfl
        case hQ52 => exact fun _ _ _ h => h
        case hy52 => (refine Or.inl ⟨by rfl, ?_⟩; intro w hSw; (try dsimp only at hSw); go_simp <;> with_reducible rfl)
        try simp only [Act.put, List.setIfInBounds_toArray, List.set_cons_zero, List.set_cons_succ]
        refine wpAnyH_ready (rs := [11, 17]) (by kernel_rfl) (by simp) ?_
        refine AllReadyH.cons (o := ?oi53) ?hop53 (fun K hK => ?step53) ?more53
        case hop53 => (simp only [List.getElem?_toArray, List.getElem?_cons_zero, List.getElem?_cons_succ]; rfl)
        case more53 =>
          refine AllReadyH.cons (o := ?oi54) ?hop54 (fun K hK => ?step54) ?more54
          case hop54 => (simp only [List.getElem?_toArray, List.getElem?_cons_zero, List.getElem?_cons_succ]; rfl)
          case more54 => exact AllReadyH.nil
          go_simp
          (go_at_call 11; (with_reducible refine Calls.mono (itoa_b (n := s.v) hIH.out.2 hsf.out.1.v (hTG.out _ (by first | with_reducible exact hgC.out | with_reducible exact (hgC.out.alloc _)))) ?_); rintro e wV ⟨rfl, hqv⟩; have hgV : Hid (Gr w2 wV) := (show Gr w2 _ from (by first | with_reducible exact hgC.out | with_reducible exact (hgC.out.alloc _))).trans hqv; have fV : (wV.alloc (.cells #[.string ⟨#[]⟩, .string ⟨#[60]⟩, .string ⟨#[61]⟩, .string ⟨#[62]⟩] 9)).cell? ⟨wV.heap.size, on, none⟩ = some (.string Io) := hLit.out wV _ (Gr.refl _); have hcl2 : wV.cell? ⟨wC.heap.size, on, none⟩ = some (.string Io) := (by first | exact ((show Gr wC wV from hqv).below.cell (p := ⟨w2.heap.size, on, none⟩) hcll).trans hcl | exact hLit.out wC wV hqv); clear hqv)
          first | (go_wp2_with fail) | skip
          refine hK.out _ _ ?_ (fun hHeld => ?_)
          · (try dsimp only); first | with_reducible exact hKeep.out _ hgD.out | with_reducible exact hKeep.out _ hgA.out | with_reducible exact hKeep.out _ hgB.out | with_reducible exact hKeep.out _ hgV.out | with_reducible exact hKeep.out _ (hgV.out.alloc _) | with_reducible exact hKeep.out _ hgC.out | with_reducible exact hKeep.out _ (hgC.out.alloc _)
          clear hK K
          try simp only [Act.put, List.setIfInBounds_toArray, List.set_cons_zero, List.set_cons_succ]
          refine wpAnyH_ready (rs := [11]) (by kernel_rfl) (by simp) ?_
          refine AllReadyH.cons (o := ?oi55) ?hop55 (fun K hK => ?step55) ?more55
          case hop55 => (simp only [List.getElem?_toArray, List.getElem?_cons_zero, List.getElem?_cons_succ]; rfl)
          case more55 => exact AllReadyH.nil
          go_simp
          refine hK.out _ _ ?_ (fun hHeld => ?_)
          · (try dsimp only); first | with_reducible exact hKeep.out _ hgD.out | with_reducible exact hKeep.out _ hgA.out | with_reducible exact hKeep.out _ hgB.out | with_reducible exact hKeep.out _ hgV.out | with_reducible exact hKeep.out _ (hgV.out.alloc _) | with_reducible exact hKeep.out _ hgC.out | with_reducible exact hKeep.out _ (hgC.out.alloc _)
          clear hK K
          try simp only [Act.put, List.setIfInBounds_toArray, List.set_cons_zero, List.set_cons_succ]
          refine wpAnyH_take (i := 12) (oi := ?oi56) (v := ?v56) ?hop56 ?hs56 ?hf56 ?hr56 ?hQ56 ?hy56 (by assumption) ?rest56
          case hop56 => (simp only [List.getElem?_toArray, List.getElem?_cons_zero, List.getElem?_cons_succ]; rfl)
          case hs56 => kernel_rfl
          case hf56 => kernel_rfl
          case hr56 => kernel_rfl
          case hQ56 => exact fun _ _ _ h => h
          case hy56 => (refine Or.inl ⟨by rfl, ?_⟩; intro w hSw; (try dsimp only at hSw); go_simp <;> with_reducible rfl)
          try simp only [Act.put, List.setIfInBounds_toArray, List.set_cons_zero, List.set_cons_succ]
          refine wpAnyH_take (i := 13) (oi := ?oi57) (v := ?v57) ?hop57 ?hs57 ?hf57 ?hr57 ?hQ57 ?hy57 (by assumption) ?rest57
          case hop57 => (simp only [List.getElem?_toArray, List.getElem?_cons_zero, List.getElem?_cons_succ]; rfl)
          case hs57 => kernel_rfl
          case hf57 => kernel_rfl
          case hr57 => kernel_rfl
          case hQ57 => exact fun _ _ _ h => h
          case hy57 => (refine Or.inl ⟨by rfl, ?_⟩; intro w hSw; (try dsimp only at hSw); go_simp <;> with_reducible rfl)
          try simp only [Act.put, List.setIfInBounds_toArray, List.set_cons_zero, List.set_cons_succ]
          refine wpAnyH_take (i := 18) (oi := ?oi58) (v := ?v58) ?hop58 ?hs58 ?hf58 ?hr58 ?hQ58 ?hy58 (by assumption) ?rest58
          case hop58 => (simp only [List.getElem?_toArray, List.getElem?_cons_zero, List.getElem?_cons_succ]; rfl)
          case hs58 => kernel_rfl
          case hf58 => kernel_rfl
          case hr58 => kernel_rfl
          case hQ58 => exact fun _ _ _ h => h
          case hy58 => (refine Or.inl ⟨by rfl, ?_⟩; intro w hSw; (try dsimp only at hSw); go_simp <;> with_reducible rfl)
          try simp only [Act.put, List.setIfInBounds_toArray, List.set_cons_zero, List.set_cons_succ]
          refine wpAnyH_take (i := 19) (oi := ?oi59) (v := ?v59) ?hop59 ?hs59 ?hf59 ?hr59 ?hQ59 ?hy59 (by assumption) ?rest59
          case hop59 => (simp only [List.getElem?_toArray, List.getElem?_cons_zero, List.getElem?_cons_succ]; rfl)
          case hs59 => kernel_rfl
          case hf59 => kernel_rfl
          case hr59 => kernel_rfl
          case hQ59 => exact fun _ _ _ h => h
          case hy59 => (refine Or.inl ⟨by rfl, ?_⟩; intro w hSw; (try dsimp only at hSw); go_simp <;> with_reducible rfl)
          try simp only [Act.put, List.setIfInBounds_toArray, List.set_cons_zero, List.set_cons_succ]
          refine wpAnyH_take (i := 20) (oi := ?oi60) (v := ?v60) ?hop60 ?hs60 ?hf60 ?hr60 ?hQ60 ?hy60 (by assumption) ?rest60
          case hop60 => (simp only [List.getElem?_toArray, List.getElem?_cons_zero, List.getElem?_cons_succ]; rfl)
          case hs60 => kernel_rfl
          case hf60 => kernel_rfl
          case hr60 => kernel_rfl
          case hQ60 => exact fun _ _ _ h => h
          case hy60 => (refine Or.inl ⟨by rfl, ?_⟩; intro w hSw; (try dsimp only at hSw); go_simp <;> with_reducible rfl)
          try simp only [Act.put, List.setIfInBounds_toArray, List.set_cons_zero, List.set_cons_succ]
          refine wpAnyH_done (by kernel_rfl) ?_ _
          refine NoPanic.normal ?_
          go_wp2
          go_roundw
          case rel => exact ⟨j + 1, by omega, by go_num, hfin.out, by first | exact hB3.out _ hgV.out | exact hB3.out _ (hgV.out.alloc _)⟩
          case measure => simp [intOf]; omega
        go_simp
        refine hK.out _ _ ?_ (fun hHeld => ?_)
        · (try dsimp only); first | with_reducible exact hKeep.out _ hgD.out | with_reducible exact hKeep.out _ hgA.out | with_reducible exact hKeep.out _ hgB.out | with_reducible exact hKeep.out _ hgV.out | with_reducible exact hKeep.out _ (hgV.out.alloc _) | with_reducible exact hKeep.out _ hgC.out | with_reducible exact hKeep.out _ (hgC.out.alloc _)
        clear hK K
        try simp only [Act.put, List.setIfInBounds_toArray, List.set_cons_zero, List.set_cons_succ]
        refine wpAnyH_take (i := 12) (oi := ?oi61) (v := ?v61) ?hop61 ?hs61 ?hf61 ?hr61 ?hQ61 ?hy61 (by assumption) ?rest61
        case hop61 => (simp only [List.getElem?_toArray, List.getElem?_cons_zero, List.getElem?_cons_succ]; rfl)
        case hs61 => kernel_rfl
        case hf61 => kernel_rfl
        case hr61 => kernel_rfl
        case hQ61 => exact fun _ _ _ h => h
        case hy61 => (refine Or.inl ⟨by rfl, ?_⟩; intro w hSw; (try dsimp only at hSw); go_simp <;> with_reducible rfl)
        try simp only [Act.put, List.setIfInBounds_toArray, List.set_cons_zero, List.set_cons_succ]
        refine wpAnyH_take (i := 13) (oi := ?oi62) (v := ?v62) ?hop62 ?hs62 ?hf62 ?hr62 ?hQ62 ?hy62 (by assumption) ?rest62
        case hop62 => (simp only [List.getElem?_toArray, List.getElem?_cons_zero, List.getElem?_cons_succ]; rfl)
        case hs62 => kernel_rfl
        case hf62 => kernel_rfl
        case hr62 => kernel_rfl
        case hQ62 => exact fun _ _ _ h => h
        case hy62 => (refine Or.inl ⟨by rfl, ?_⟩; intro w hSw; (try dsimp only at hSw); go_simp <;> with_reducible rfl)
        try simp only [Act.put, List.setIfInBounds_toArray, List.set_cons_zero, List.set_cons_succ]
        refine wpAnyH_ready (rs := [17]) (by kernel_rfl) (by simp) ?_
        refine AllReadyH.cons (o := ?oi63) ?hop63 (fun K hK => ?step63) ?more63
        case hop63 => (simp only [List.getElem?_toArray, List.getElem?_cons_zero, List.getElem?_cons_succ]; rfl)
        case more63 => exact AllReadyH.nil
        go_simp
        (go_at_call 11; (with_reducible refine Calls.mono (itoa_b (n := s.v) hIH.out.2 hsf.out.1.v (hTG.out _ (by first | with_reducible exact hgC.out | with_reducible exact (hgC.out.alloc _)))) ?_); rintro e wV ⟨rfl, hqv⟩; have hgV : Hid (Gr w2 wV) := (show Gr w2 _ from (by first | with_reducible exact hgC.out | with_reducible exact (hgC.out.alloc _))).trans hqv; have fV : (wV.alloc (.cells #[.string ⟨#[]⟩, .string ⟨#[60]⟩, .string ⟨#[61]⟩, .string ⟨#[62]⟩] 9)).cell? ⟨wV.heap.size, on, none⟩ = some (.string Io) := hLit.out wV _ (Gr.refl _); have hcl2 : wV.cell? ⟨wC.heap.size, on, none⟩ = some (.string Io) := (by first | exact ((show Gr wC wV from hqv).below.cell (p := ⟨w2.heap.size, on, none⟩) hcll).trans hcl | exact hLit.out wC wV hqv); clear hqv)
        first | (go_wp2_with fail) | skip
        refine hK.out _ _ ?_ (fun hHeld => ?_)
        · (try dsimp only); first | with_reducible exact hKeep.out _ hgD.out | with_reducible exact hKeep.out _ hgA.out | with_reducible exact hKeep.out _ hgB.out | with_reducible exact hKeep.out _ hgV.out | with_reducible exact hKeep.out _ (hgV.out.alloc _) | with_reducible exact hKeep.out _ hgC.out | with_reducible exact hKeep.out _ (hgC.out.alloc _)
        clear hK K
        try simp only [Act.put, List.setIfInBounds_toArray, List.set_cons_zero, List.set_cons_succ]
        refine wpAnyH_take (i := 18) (oi := ?oi64) (v := ?v64) ?hop64 ?hs64 ?hf64 ?hr64 ?hQ64 ?hy64 (by assumption) ?rest64
        case hop64 => (simp only [List.getElem?_toArray, List.getElem?_cons_zero, List.getElem?_cons_succ]; rfl)
        case hs64 => kernel_rfl
        case hf64 => kernel_rfl
        case hr64 => kernel_rfl
        case hQ64 => exact fun _ _ _ h => h
        case hy64 => (refine Or.inl ⟨by rfl, ?_⟩; intro w hSw; (try dsimp only at hSw); go_simp <;> with_reducible rfl)
        try simp only [Act.put, List.setIfInBounds_toArray, List.set_cons_zero, List.set_cons_succ]
        refine wpAnyH_take (i := 19) (oi := ?oi65) (v := ?v65) ?hop65 ?hs65 ?hf65 ?hr65 ?hQ65 ?hy65 (by assumption) ?rest65
        case hop65 => (simp only [List.getElem?_toArray, List.getElem?_cons_zero, List.getElem?_cons_succ]; rfl)
        case hs65 => kernel_rfl
        case hf65 => kernel_rfl
        case hr65 => kernel_rfl
        case hQ65 => exact fun _ _ _ h => h
        case hy65 => (refine Or.inl ⟨by rfl, ?_⟩; intro w hSw; (try dsimp only at hSw); go_simp <;> with_reducible rfl)
        try simp only [Act.put, List.setIfInBounds_toArray, List.set_cons_zero, List.set_cons_succ]
        refine wpAnyH_take (i := 20) (oi := ?oi66) (v := ?v66) ?hop66 ?hs66 ?hf66 ?hr66 ?hQ66 ?hy66 (by assumption) ?rest66
        case hop66 => (simp only [List.getElem?_toArray, List.getElem?_cons_zero, List.getElem?_cons_succ]; rfl)
        case hs66 => kernel_rfl
        case hf66 => kernel_rfl
        case hr66 => kernel_rfl
        case hQ66 => exact fun _ _ _ h => h
        case hy66 => (refine Or.inl ⟨by rfl, ?_⟩; intro w hSw; (try dsimp only at hSw); go_simp <;> with_reducible rfl)
        try simp only [Act.put, List.setIfInBounds_toArray, List.set_cons_zero, List.set_cons_succ]
        refine wpAnyH_done (by kernel_rfl) ?_ _
        refine NoPanic.normal ?_
        go_wp2
        go_roundw
        case rel => exact ⟨j + 1, by omega, by go_num, hfin.out, by first | exact hB3.out _ hgV.out | exact hB3.out _ (hgV.out.alloc _)⟩
        case measure => simp [intOf]; omega
      · have x0' : w2.cell? ⟨nb, 0, none⟩ = some (.int .i64 3) := by rw [x0, ← hknH.out, hk]
        clear x0
        have hl8 : s.l.length ≤ 8 := hsf.out.1.l.1
        have hnum : Hid (∀ x ∈ s.l, Small x) := hsf.out.1.l.2
        go_wp2
        go_loopw [4, 7] (fun v i wq => ∃ m : Nat, m ≤ s.l.length ∧ i = .int .i64 m ∧ v = .string ⟨(P0 ++ pickT (s.l.take m)).toArray⟩ ∧ Hid (Gr w2 wq)) (fun _ i _ => s.l.length - (intOf i).toNat)
        case atStart => exact ⟨0, Nat.zero_le _, rfl, by rw [hc3H.out]; simp [pickT], Gr.refl _⟩
        case round =>
          obtain ⟨m, hm, rfl, rfl, hg⟩ := hrel
          have y6 : wr.cell? ⟨nb, 6, none⟩ = some (.slice s.p s.l.length s.n) := (hg.out.below.cell (p := ⟨nb, 6, none⟩) hxl).trans x6
          have hRw : Hid (RowI wr s.p s.l ∧ Tens wr) := ⟨hW2.out.2.2.gr hg.out, hW2.out.2.1.gr hg.out⟩
          by_cases hlt2 : m < s.l.length
          · have hltz2 : (m : Int) < (s.l.length : Int) := by omega
            obtain ⟨b2, off2, hp2, hb2, hc2⟩ := hRw.out.1.at hlt2
            obtain ⟨n, hn⟩ : ∃ n, s.l[m] = n := ⟨_, rfl⟩
            have e0 : wr.cell? ⟨b2, off2 + m, none⟩ = some (.int .i64 n) := by
              have := hc2 m hlt2 0 (by omega)
              rw [hn] at this
              simpa [encI] using this
            have hnS : Hid (Small n) := hnum.out n (by rw [← hn]; exact List.getElem_mem hlt2)
            have hpk : Hid (pickT (s.l.take (m + 1)) = pickT (s.l.take m) ++ (if m = 0 then [32] else [44]) ++ Lib.itoa n) := by
              show _ = _
              rw [← hn]; exact pickT_step hlt2
            have hpl : (pickT (s.l.take m)).length ≤ 2000 := pickT_len (fun x hx => hnum.out x (List.mem_of_mem_take hx)) (by simp only [List.length_take]; omega)
            have ln := itoa_len hnS.out
            rw [hp2] at y6
            clear hc2 hn x0' x1 x2 x3 x4 x5 x6
            obtain ⟨In, hIn⟩ : ∃ T : ByteArray, T = ⟨(Lib.itoa n).toArray⟩ := ⟨_, rfl⟩
            obtain ⟨c5, hc5⟩ : ∃ T : ByteArray, T = ⟨(P0 ++ pickT (s.l.take m)).toArray⟩ := ⟨_, rfl⟩
            rw [← hc5]
            have hInH : Hid (In = ⟨(Lib.itoa n).toArray⟩) := hIn
            by_cases hm0 : m = 0
            · obtain ⟨c6, hc6⟩ : ∃ T : ByteArray, T = ⟨(P0 ++ pickT (s.l.take m) ++ [32]).toArray⟩ := ⟨_, rfl⟩
              obtain ⟨c7, hc7⟩ : ∃ T : ByteArray, T = ⟨(P0 ++ pickT (s.l.take m) ++ [32] ++ Lib.itoa n).toArray⟩ := ⟨_, rfl⟩
              have f1 := addB hc6 hc5 (rfl : (⟨#[32]⟩ : ByteArray) = ⟨([32] : List UInt8).toArray⟩) (by (try simp) <;> omega)
              have f2 := addB hc7 hc6 hIn (by (try simp) <;> omega)
              have hfin : Hid (Value.string c7 = .string ⟨(P0 ++ pickT (s.l.take (m + 1))).toArray⟩) := by
                show _ = _
                rw [hc7, hpk.out, if_pos hm0]
                simp only [List.append_assoc]
              clear hc5 hc6 hc7 hIn hp2
              subst hm0
              have e0z : wr.cell? ⟨b2, off2, none⟩ = some (.int .i64 n) := e0
              go_wp2_with fail
              refine Calls.mono (itoa_b hInH.out hnS.out hRw.out.2) ?_
              rintro e w3 ⟨rfl, nq3, osq3, hw3⟩
              have hg3 : Hid (Gr w2 w3) := hg.out.trans ⟨nq3, osq3, hw3⟩
              clear hw3
              go_wp2
              go_roundw
              case rel => exact ⟨1, by omega, by go_num, hfin.out, hg3.out⟩
              case measure => simp [intOf]; omega
            · have hm0b : ((m : Int) == 0) = false := by simp; omega
              obtain ⟨c6, hc6⟩ : ∃ T : ByteArray, T = ⟨(P0 ++ pickT (s.l.take m) ++ [44]).toArray⟩ := ⟨_, rfl⟩
              obtain ⟨c7, hc7⟩ : ∃ T : ByteArray, T = ⟨(P0 ++ pickT (s.l.take m) ++ [44] ++ Lib.itoa n).toArray⟩ := ⟨_, rfl⟩
              have f1 := addB hc6 hc5 (rfl : (⟨#[44]⟩ : ByteArray) = ⟨([44] : List UInt8).toArray⟩) (by (try simp) <;> omega)
              have f2 := addB hc7 hc6 hIn (by (try simp) <;> omega)
              have hfin : Hid (Value.string c7 = .string ⟨(P0 ++ pickT (s.l.take (m + 1))).toArray⟩) := by
                show _ = _
                rw [hc7, hpk.out, if_neg hm0]
                simp only [List.append_assoc]
              clear hc5 hc6 hc7 hIn hp2
              go_wp2_with fail
              refine Calls.mono (itoa_b hInH.out hnS.out hRw.out.2) ?_
              rintro e w3 ⟨rfl, nq3, osq3, hw3⟩
              have hg3 : Hid (Gr w2 w3) := hg.out.trans ⟨nq3, osq3, hw3⟩
              clear hw3
              go_wp2
              go_roundw
              case rel => exact ⟨m + 1, by omega, by go_num, hfin.out, hg3.out⟩
              case measure => simp [intOf]; omega
          · have hltz2 : ¬ (m : Int) < (s.l.length : Int) := by omega
            have hke : s.l.take m = s.l := List.take_of_length_le (by omega)
            rw [hke]
            have hpT : Hid (pickT s.l = [32] ++ listL s.l) := by
              show _ = _
              unfold pickT
              rw [if_neg (hsf.out.2 hk)]
            have hpl : (pickT s.l).length ≤ 2000 := pickT_len hnum.out hl8
            obtain ⟨c5, hc5⟩ : ∃ T : ByteArray, T = ⟨(P0 ++ pickT s.l).toArray⟩ := ⟨_, rfl⟩
            rw [← hc5]
            have hc5H : Hid (c5 = ⟨(P0 ++ pickT s.l).toArray⟩) := hc5
            have hB3 : Hid (Below w.heap.size w wr) := hW2.out.1.trans (hg.out.below.mono hW2.out.1.size)
            clear hc5 hke
            obtain ⟨e1, he1⟩ : ∃ T : ByteArray, T = ⟨((P0 ++ pickT s.l) ++ [10]).toArray⟩ := ⟨_, rfl⟩
            have ae := addB he1 hc5H.out (rfl : (⟨#[10]⟩ : ByteArray) = ⟨([10] : List UInt8).toArray⟩) (by (try simp) <;> omega)
            have hfin : Hid (Value.string e1 = .string ⟨(textT (q.take (j + 1))).toArray⟩) := by
              show _ = _
              rw [he1, hstep.out, lineT3 hk, hP0H.out, hpT.out, hk]
              try simp only [List.append_assoc]
            clear he1
            go_wp2
            go_roundw
            case rel => exact ⟨j + 1, by omega, by go_num, hfin.out, hB3.out⟩
            case measure => simp [intOf]; omega
      · have x0' : w2.cell? ⟨nb, 0, none⟩ = some (.int .i64 4) := by rw [x0, ← hknH.out, hk]
        clear x0
        have gb := (Gr.refl w2).cellG (a := ⟨nb, 2, none⟩) hxl x2
        obtain ⟨Ib, hIb⟩ : ∃ T : ByteArray, T = ⟨(Lib.itoa s.b).toArray⟩ := ⟨_, rfl⟩
        have lb := itoa_len hsf.out.1.b
        have gc := (Gr.refl w2).cellG (a := ⟨nb, 3, none⟩) hxl x3
        obtain ⟨Ic, hIc⟩ : ∃ T : ByteArray, T = ⟨(Lib.itoa s.c).toArray⟩ := ⟨_, rfl⟩
        have lc := itoa_len hsf.out.1.c
        have gv := (Gr.refl w2).cellG (a := ⟨nb, 5, none⟩) hxl x5
        obtain ⟨Iv, hIv⟩ : ∃ T : ByteArray, T = ⟨(Lib.itoa s.v).toArray⟩ := ⟨_, rfl⟩
        have lv := itoa_len hsf.out.1.v
        obtain ⟨d1, hd1⟩ : ∃ T : ByteArray, T = ⟨([32] ++ Lib.itoa s.b).toArray⟩ := ⟨_, rfl⟩
        have b1 := addB hd1 (rfl : (⟨#[32]⟩ : ByteArray) = ⟨([32] : List UInt8).toArray⟩) hIb (by (try simp) <;> omega)
        obtain ⟨d2, hd2⟩ : ∃ T : ByteArray, T = ⟨([32] ++ Lib.itoa s.b ++ [32]).toArray⟩ := ⟨_, rfl⟩
        have b2 := addB hd2 hd1 (rfl : (⟨#[32]⟩ : ByteArray) = ⟨([32] : List UInt8).toArray⟩) (by (try simp) <;> omega)
        obtain ⟨d3, hd3⟩ : ∃ T : ByteArray, T = ⟨([32] ++ Lib.itoa s.b ++ [32] ++ Lib.itoa s.c).toArray⟩ := ⟨_, rfl⟩
        have b3 := addB hd3 hd2 hIc (by (try simp) <;> omega)
        obtain ⟨d4, hd4⟩ : ∃ T : ByteArray, T = ⟨([32] ++ Lib.itoa s.b ++ [32] ++ Lib.itoa s.c ++ [32]).toArray⟩ := ⟨_, rfl⟩
        have b4 := addB hd4 hd3 (rfl : (⟨#[32]⟩ : ByteArray) = ⟨([32] : List UInt8).toArray⟩) (by (try simp) <;> omega)
        obtain ⟨d5, hd5⟩ : ∃ T : ByteArray, T = ⟨([32] ++ Lib.itoa s.b ++ [32] ++ Lib.itoa s.c ++ [32] ++ Lib.itoa s.v).toArray⟩ := ⟨_, rfl⟩
        have b5 := addB hd5 hd4 hIv (by (try simp) <;> omega)
        obtain ⟨c4, hc4⟩ : ∃ T : ByteArray, T = ⟨(P0 ++ ([32] ++ Lib.itoa s.b ++ [32] ++ Lib.itoa s.c ++ [32] ++ Lib.itoa s.v)).toArray⟩ := ⟨_, rfl⟩
        have b0 := addB hc4 hc3H.out hd5 (by (try simp) <;> omega)
        have hc4H : Hid (c4 = ⟨(P0 ++ ([32] ++ Lib.itoa s.b ++ [32] ++ Lib.itoa s.c ++ [32] ++ Lib.itoa s.v)).toArray⟩) := hc4
        clear hc4
        have hIH : Hid (Ib = ⟨(Lib.itoa s.b).toArray⟩ ∧ Ic = ⟨(Lib.itoa s.c).toArray⟩ ∧ Iv = ⟨(Lib.itoa s.v).toArray⟩) := ⟨hIb, hIc, hIv⟩
        clear hd1 hd2 hd3 hd4 hd5 hIb hIc hIv
        go_wp2_with fail
        refine wp_region_quiet_grown mixed (by kernel_rfl) ?_
        repeat (go_big_quiet_step ((go_at_call 11; first | (with_reducible refine Calls.grown_of (itoa_b (n := s.b) hIH.out.1 hsf.out.1.b (hTn2.out _ _))) | (with_reducible refine Calls.grown_of (itoa_b (n := s.c) hIH.out.2.1 hsf.out.1.c (hTn2.out _ _))) | (with_reducible refine Calls.grown_of (itoa_b (n := s.v) hIH.out.2.2 hsf.out.1.v (hTn2.out _ _))))))
        refine wpQuiet_nil ?_
        rintro _ ⟨⟨nq3, osq3⟩, rfl⟩
        have hB3 : Hid (Below w.heap.size w (grow (w2.drewN nq3) osq3)) := hW2.out.1.trans ((show Gr w2 (grow (w2.drewN nq3) osq3) from ⟨nq3, osq3, rfl⟩).below.mono hW2.out.1.size)
        generalize grow (w2.drewN nq3) osq3 = w3 at hB3 ⊢
        obtain ⟨e1, he1⟩ : ∃ T : ByteArray, T = ⟨((P0 ++ ([32] ++ Lib.itoa s.b ++ [32] ++ Lib.itoa s.c ++ [32] ++ Lib.itoa s.v)) ++ [10]).toArray⟩ := ⟨_, rfl⟩
        have ae := addB he1 hc4H.out (rfl : (⟨#[10]⟩ : ByteArray) = ⟨([10] : List UInt8).toArray⟩) (by (try simp) <;> omega)
        have hfin : Hid (Value.string e1 = .string ⟨(textT (q.take (j + 1))).toArray⟩) := by
          show _ = _
          rw [he1, hstep.out, lineT4 hk, hP0H.out, hk]
          try simp only [List.append_assoc]
        clear he1
        go_wp2
        go_roundw
        case rel => exact ⟨j + 1, by omega, by go_num, hfin.out, hB3.out⟩
        case measure => simp [intOf]; omega
      · have x0' : w2.cell? ⟨nb, 0, none⟩ = some (.int .i64 5) := by rw [x0, ← hknH.out, hk]
        clear x0
        have gb := (Gr.refl w2).cellG (a := ⟨nb, 2, none⟩) hxl x2
        obtain ⟨Ib, hIb⟩ : ∃ T : ByteArray, T = ⟨(Lib.itoa s.b).toArray⟩ := ⟨_, rfl⟩
        have lb := itoa_len hsf.out.1.b
        obtain ⟨d1, hd1⟩ : ∃ T : ByteArray, T = ⟨([32] ++ Lib.itoa s.b).toArray⟩ := ⟨_, rfl⟩
        have b1 := addB hd1 (rfl : (⟨#[32]⟩ : ByteArray) = ⟨([32] : List UInt8).toArray⟩) hIb (by (try simp) <;> omega)
        obtain ⟨c4, hc4⟩ : ∃ T : ByteArray, T = ⟨(P0 ++ ([32] ++ Lib.itoa s.b)).toArray⟩ := ⟨_, rfl⟩
        have b0 := addB hc4 hc3H.out hd1 (by (try simp) <;> omega)
        have hc4H : Hid (c4 = ⟨(P0 ++ ([32] ++ Lib.itoa s.b)).toArray⟩) := hc4
        clear hc4
        have hIH : Hid (Ib = ⟨(Lib.itoa s.b).toArray⟩) := hIb
        clear hd1 hIb
        go_wp2_with fail
        refine Calls.mono (itoa_b hIH.out hsf.out.1.b hW2.out.2.1) ?_
        rintro e w3 ⟨rfl, nq3, osq3, hw3⟩
        have hB3 : Hid (Below w.heap.size w w3) := hW2.out.1.trans ((show Gr w2 w3 from ⟨nq3, osq3, hw3⟩).below.mono hW2.out.1.size)
        clear hw3
        obtain ⟨e1, he1⟩ : ∃ T : ByteArray, T = ⟨((P0 ++ ([32] ++ Lib.itoa s.b)) ++ [10]).toArray⟩ := ⟨_, rfl⟩
        have ae := addB he1 hc4H.out (rfl : (⟨#[10]⟩ : ByteArray) = ⟨([10] : List UInt8).toArray⟩) (by (try simp) <;> omega)
        have hfin : Hid (Value.string e1 = .string ⟨(textT (q.take (j + 1))).toArray⟩) := by
          show _ = _
          rw [he1, hstep.out, lineT5 hk, hP0H.out, hk]
          try simp only [List.append_assoc]
        clear he1
        go_wp2
        go_roundw
        case rel => exact ⟨j + 1, by omega, by go_num, hfin.out, hB3.out⟩
        case measure => simp [intOf]; omega
      · have x0' : w2.cell? ⟨nb, 0, none⟩ = some (.int .i64 6) := by rw [x0, ← hknH.out, hk]
        clear x0
        have gb := (Gr.refl w2).cellG (a := ⟨nb, 2, none⟩) hxl x2
        obtain ⟨Ib, hIb⟩ : ∃ T : ByteArray, T = ⟨(Lib.itoa s.b).toArray⟩ := ⟨_, rfl⟩
        have lb := itoa_len hsf.out.1.b
        obtain ⟨d1, hd1⟩ : ∃ T : ByteArray, T = ⟨([32] ++ Lib.itoa s.b).toArray⟩ := ⟨_, rfl⟩
        have b1 := addB hd1 (rfl : (⟨#[32]⟩ : ByteArray) = ⟨([32] : List UInt8).toArray⟩) hIb (by (try simp) <;> omega)
        obtain ⟨c4, hc4⟩ : ∃ T : ByteArray, T = ⟨(P0 ++ ([32] ++ Lib.itoa s.b)).toArray⟩ := ⟨_, rfl⟩
        have b0 := addB hc4 hc3H.out hd1 (by (try simp) <;> omega)
        have hc4H : Hid (c4 = ⟨(P0 ++ ([32] ++ Lib.itoa s.b)).toArray⟩) := hc4
        clear hc4
        have hIH : Hid (Ib = ⟨(Lib.itoa s.b).toArray⟩) := hIb
        clear hd1 hIb
        go_wp2_with fail
        refine Calls.mono (itoa_b hIH.out hsf.out.1.b hW2.out.2.1) ?_
        rintro e w3 ⟨rfl, nq3, osq3, hw3⟩
        have hB3 : Hid (Below w.heap.size w w3) := hW2.out.1.trans ((show Gr w2 w3 from ⟨nq3, osq3, hw3⟩).below.mono hW2.out.1.size)
        clear hw3
        obtain ⟨e1, he1⟩ : ∃ T : ByteArray, T = ⟨((P0 ++ ([32] ++ Lib.itoa s.b)) ++ [10]).toArray⟩ := ⟨_, rfl⟩
        have ae := addB he1 hc4H.out (rfl : (⟨#[10]⟩ : ByteArray) = ⟨([10] : List UInt8).toArray⟩) (by (try simp) <;> omega)
        have hfin : Hid (Value.string e1 = .string ⟨(textT (q.take (j + 1))).toArray⟩) := by
          show _ = _
          rw [he1, hstep.out, lineT6 hk, hP0H.out, hk]
          try simp only [List.append_assoc]
        clear he1
        go_wp2
        go_roundw
        case rel => exact ⟨j + 1, by omega, by go_num, hfin.out, hB3.out⟩
        case measure => simp [intOf]; omega
      · have x0' : w2.cell? ⟨nb, 0, none⟩ = some (.int .i64 7) := by rw [x0, ← hknH.out, hk]
        clear x0
        obtain ⟨e1, he1⟩ : ∃ T : ByteArray, T = ⟨(P0 ++ [10]).toArray⟩ := ⟨_, rfl⟩
        have ae := addB he1 hc3H.out (rfl : (⟨#[10]⟩ : ByteArray) = ⟨([10] : List UInt8).toArray⟩) (by (try simp) <;> omega)
        have hfin : Hid (Value.string e1 = .string ⟨(textT (q.take (j + 1))).toArray⟩) := by
          show _ = _
          rw [he1, hstep.out, lineT7 hk, hP0H.out, hk]
          try simp only [List.append_assoc]
        clear he1
        go_wp2
        go_roundw
        case rel => exact ⟨j + 1, by omega, by go_num, hfin.out, hW2.out.1⟩
        case measure => simp [intOf]; omega
      · have x0' : w2.cell? ⟨nb, 0, none⟩ = some (.int .i64 8) := by rw [x0, ← hknH.out, hk]
        clear x0
        have gc := (Gr.refl w2).cellG (a := ⟨nb, 3, none⟩) hxl x3
        obtain ⟨Ic, hIc⟩ : ∃ T : ByteArray, T = ⟨(Lib.itoa s.c).toArray⟩ := ⟨_, rfl⟩
        have lc := itoa_len hsf.out.1.c
        obtain ⟨d1, hd1⟩ : ∃ T : ByteArray, T = ⟨([32] ++ Lib.itoa s.c).toArray⟩ := ⟨_, rfl⟩
        have b1 := addB hd1 (rfl : (⟨#[32]⟩ : ByteArray) = ⟨([32] : List UInt8).toArray⟩) hIc (by (try simp) <;> omega)
        obtain ⟨c4, hc4⟩ : ∃ T : ByteArray, T = ⟨(P0 ++ ([32] ++ Lib.itoa s.c)).toArray⟩ := ⟨_, rfl⟩
        have b0 := addB hc4 hc3H.out hd1 (by (try simp) <;> omega)
        have hc4H : Hid (c4 = ⟨(P0 ++ ([32] ++ Lib.itoa s.c)).toArray⟩) := hc4
        clear hc4
        have hIH : Hid (Ic = ⟨(Lib.itoa s.c).toArray⟩) := hIc
        clear hd1 hIc
        go_wp2_with fail
        refine Calls.mono (itoa_b hIH.out hsf.out.1.c hW2.out.2.1) ?_
        rintro e w3 ⟨rfl, nq3, osq3, hw3⟩
        have hB3 : Hid (Below w.heap.size w w3) := hW2.out.1.trans ((show Gr w2 w3 from ⟨nq3, osq3, hw3⟩).below.mono hW2.out.1.size)
        clear hw3
        obtain ⟨e1, he1⟩ : ∃ T : ByteArray, T = ⟨((P0 ++ ([32] ++ Lib.itoa s.c)) ++ [10]).toArray⟩ := ⟨_, rfl⟩
        have ae := addB he1 hc4H.out (rfl : (⟨#[10]⟩ : ByteArray) = ⟨([10] : List UInt8).toArray⟩) (by (try simp) <;> omega)
        have hfin : Hid (Value.string e1 = .string ⟨(textT (q.take (j + 1))).toArray⟩) := by
          show _ = _
          rw [he1, hstep.out, lineT8 hk, hP0H.out, hk]
          try simp only [List.append_assoc]
        clear he1
        go_wp2
        go_roundw
        case rel => exact ⟨j + 1, by omega, by go_num, hfin.out, hB3.out⟩
        case measure => simp [intOf]; omega
      · have x0' : w2.cell? ⟨nb, 0, none⟩ = some (.int .i64 9) := by rw [x0, ← hknH.out, hk]
        clear x0
        have gc := (Gr.refl w2).cellG (a := ⟨nb, 3, none⟩) hxl x3
        obtain ⟨Ic, hIc⟩ : ∃ T : ByteArray, T = ⟨(Lib.itoa s.c).toArray⟩ := ⟨_, rfl⟩
        have lc := itoa_len hsf.out.1.c
        have gv := (Gr.refl w2).cellG (a := ⟨nb, 5, none⟩) hxl x5
        obtain ⟨Iv, hIv⟩ : ∃ T : ByteArray, T = ⟨(Lib.itoa s.v).toArray⟩ := ⟨_, rfl⟩
        have lv := itoa_len hsf.out.1.v
        obtain ⟨d1, hd1⟩ : ∃ T : ByteArray, T = ⟨([32] ++ Lib.itoa s.c).toArray⟩ := ⟨_, rfl⟩
        have b1 := addB hd1 (rfl : (⟨#[32]⟩ : ByteArray) = ⟨([32] : List UInt8).toArray⟩) hIc (by (try simp) <;> omega)
        obtain ⟨d2, hd2⟩ : ∃ T : ByteArray, T = ⟨([32] ++ Lib.itoa s.c ++ [32]).toArray⟩ := ⟨_, rfl⟩
        have b2 := addB hd2 hd1 (rfl : (⟨#[32]⟩ : ByteArray) = ⟨([32] : List UInt8).toArray⟩) (by (try simp) <;> omega)
        obtain ⟨d3, hd3⟩ : ∃ T : ByteArray, T = ⟨([32] ++ Lib.itoa s.c ++ [32] ++ Lib.itoa s.v).toArray⟩ := ⟨_, rfl⟩
        have b3 := addB hd3 hd2 hIv (by (try simp) <;> omega)
        obtain ⟨c4, hc4⟩ : ∃ T : ByteArray, T = ⟨(P0 ++ ([32] ++ Lib.itoa s.c ++ [32] ++ Lib.itoa s.v)).toArray⟩ := ⟨_, rfl⟩
        have b0 := addB hc4 hc3H.out hd3 (by (try simp) <;> omega)
        have hc4H : Hid (c4 = ⟨(P0 ++ ([32] ++ Lib.itoa s.c ++ [32] ++ Lib.itoa s.v)).toArray⟩) := hc4
        clear hc4
        have hIH : Hid (Ic = ⟨(Lib.itoa s.c).toArray⟩ ∧ Iv = ⟨(Lib.itoa s.v).toArray⟩) := ⟨hIc, hIv⟩
        clear hd1 hd2 hd3 hIc hIv
        go_wp2_with fail
        refine wp_region_quiet_grown mixed (by kernel_rfl) ?_
        repeat (go_big_quiet_step ((go_at_call 11; first | (with_reducible refine Calls.grown_of (itoa_b (n := s.c) hIH.out.1 hsf.out.1.c (hTn2.out _ _))) | (with_reducible refine Calls.grown_of (itoa_b (n := s.v) hIH.out.2 hsf.out.1.v (hTn2.out _ _))))))
        refine wpQuiet_nil ?_
        rintro _ ⟨⟨nq3, osq3⟩, rfl⟩
        have hB3 : Hid (Below w.heap.size w (grow (w2.drewN nq3) osq3)) := hW2.out.1.trans ((show Gr w2 (grow (w2.drewN nq3) osq3) from ⟨nq3, osq3, rfl⟩).below.mono hW2.out.1.size)
        generalize grow (w2.drewN nq3) osq3 = w3 at hB3 ⊢
        obtain ⟨e1, he1⟩ : ∃ T : ByteArray, T = ⟨((P0 ++ ([32] ++ Lib.itoa s.c ++ [32] ++ Lib.itoa s.v)) ++ [10]).toArray⟩ := ⟨_, rfl⟩
        have ae := addB he1 hc4H.out (rfl : (⟨#[10]⟩ : ByteArray) = ⟨([10] : List UInt8).toArray⟩) (by (try simp) <;> omega)
        have hfin : Hid (Value.string e1 = .string ⟨(textT (q.take (j + 1))).toArray⟩) := by
          show _ = _
          rw [he1, hstep.out, lineT9 hk, hP0H.out, hk]
          try simp only [List.append_assoc]
        clear he1
        go_wp2
        go_roundw
        case rel => exact ⟨j + 1, by omega, by go_num, hfin.out, hB3.out⟩
        case measure => simp [intOf]; omega
    · have hltz : ¬ (j : Int) < (q.length : Int) := by omega
      have hke : q.take j = q := List.take_of_length_le (by omega)
      rw [hke]
      clear hke
      go_wp2
      go_ret
      exact ⟨rfl, hbw.out⟩

end Go.Proofs.YtjjpmkekcffceaaDoor
