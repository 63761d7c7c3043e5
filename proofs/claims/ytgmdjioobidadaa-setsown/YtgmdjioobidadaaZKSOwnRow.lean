/-
  Proved: whatever list of steps, two lists of items and list of columns are handed in, SetsOwn returns true (sets that are handed in stay, and what is told shares nothing with them), and each argument reads afterwards as it read before. No condition.
-/
import Derived.Test.YtgmdjioobidadaaM35
import Derived.Test.YtgmdjioobidadaaM14
import Derived.SizedLaws
namespace Go.Proofs.Ytgmdjioobidadaa
open Go.ChangeShapes Go.WideShapes Go.ChangeAt Go.RowKit Go.Deep

theorem mem_weightsAll {H : Type} {P : Program} {e : TypeId} {d : DataW H} {n : Nat} (hn : n ∈ d.weights P e) : ∀ {l : List (DataW H)}, d ∈ l → n ∈ DataW.weightsAll P e l
  | [], h => by cases h
  | c :: r, h => by
    simp only [DataW.weightsAll, List.mem_append]
    rcases List.mem_cons.1 h with rfl | h
    · exact Or.inl hn
    · exact Or.inr (mem_weightsAll hn h)

section
variable {H : Type} {enc : TypeId × Value → H} {W : World}
set_option maxRecDepth 100000 in
theorem open_rowW {fuel : Nat} {cs : List Value} {x : DataW H × List MemPlace} (h : DataW.trod enc Try.prog W 0 (fun _ => true) true fuel 24 cs = some x) {A : Option Addr} {n cap : Nat} (hcs : cs = [.slice A n cap]) (hw : ∀ n ∈ x.1.weights Try.prog 24, n ≤ reachBytes) : n * 8 ≤ 140737488351232 := by
  rcases open_slice Try.underlying24 h with ⟨hcs', _⟩ | ⟨a, len, cap', m, k, D, Pl, hcs', _, hl, hm, hmm, hx, hi⟩
  · rw [hcs] at hcs'
    injection hcs' with h1
    injection h1 with _ h2 _
    omega
  · rw [hcs] at hcs'
    injection hcs' with h1
    injection h1 with _ h2 _
    have b8 : Try.prog.bytesOf 3 = 8 := by kernel_rfl
    rw [hx] at hw
    have := hw ((((List.range len).map D).length + ((List.range (m - len)).map fun j => D (len + j)).length) * Try.prog.bytesOf 3) (by simp [DataW.weights, Try.underlying24])
    have hb : reachBytes ≤ 140737488351232 := by decide
    rw [b8] at this
    simp only [List.length_map, List.length_range] at this
    omega
set_option maxRecDepth 100000 in
theorem open_itemW {fuel : Nat} {cs : List Value} {x : DataW H × List MemPlace} (h : DataW.trod enc Try.prog W 0 (fun _ => true) true fuel 45 cs = some x) {y : Itm} (hy : cs = encT y) (hw : ∀ n ∈ x.1.weights Try.prog 45, n ≤ reachBytes) : y.r.length * 8 ≤ 140737488351232 := by
  subst hy
  obtain ⟨y0, y1, n, hx, _, t0, t1⟩ := trod_struct2 Try.underlying45 (show DataW.trod enc Try.prog W 0 (fun _ => true) true fuel 45 [_, _] = some x from h)
  have c1 : Try.prog.cellsOf 3 = 1 := by kernel_rfl
  have c2 : Try.prog.cellsOf 24 = 1 := by kernel_rfl
  simp only [c1, c2] at t0 t1
  refine open_rowW t0 (A := y.p) (cap := y.c) rfl fun n hn => hw n ?_
  rw [hx]
  simp only [DataW.weights, Try.underlying45, DataW.weightsEach, List.map_cons, List.mem_append]
  exact Or.inl hn
set_option maxRecDepth 100000 in
theorem open_itemsW {fuel : Nat} {cs : List Value} {x : DataW H × List MemPlace} (h : DataW.trod enc Try.prog W 0 (fun _ => true) true fuel 23 cs = some x) {A : Option Addr} {cap : Nat} {l : List Itm} (hcs : cs = [.slice A l.length cap]) (hI : Items W A l) (hw : ∀ n ∈ x.1.weights Try.prog 23, n ≤ reachBytes) : l.length * 32 ≤ 140737488351232 ∧ ∀ y ∈ l, y.r.length * 8 ≤ 140737488351232 := by
  rcases open_slice Try.underlying23 h with ⟨hcs', _⟩ | ⟨a, len, cap', m, k, D, Pl, hcs', _, hl, hm, hmm, hx, hi⟩
  · rw [hcs] at hcs'
    injection hcs' with h1
    injection h1 with _ h2 _
    obtain rfl : l = [] := List.eq_nil_of_length_eq_zero h2
    exact ⟨by simp, fun y hy => by cases hy⟩
  · rw [hcs] at hcs'
    injection hcs' with h1
    injection h1 with h0 h2 _
    have b32 : Try.prog.bytesOf 45 = 32 := by kernel_rfl
    have c2 : Try.prog.cellsOf 45 = 2 := by kernel_rfl
    rw [hx] at hw
    have hb : reachBytes ≤ 140737488351232 := by decide
    have hlm : len ≤ m := by rw [hmm]; simp; exact hl
    constructor
    · have := hw ((((List.range len).map D).length + ((List.range (m - len)).map fun j => D (len + j)).length) * Try.prog.bytesOf 45) (by simp [DataW.weights, Try.underlying23])
      rw [b32] at this
      simp only [List.length_map, List.length_range] at this
      omega
    · intro y hy
      obtain ⟨j, hj, rfl⟩ := List.getElem_of_mem hy
      obtain ⟨b, off, hA, _, hc⟩ := hI.at hj
      have hcc := hc j hj
      rw [h0] at hA
      injection hA with hA
      obtain ⟨cs', h3, h4⟩ := hi j (by omega)
      rw [c2] at h3
      obtain ⟨_, hlen, hcell⟩ := World.cells?_some h3
      have e0 := hcell 0 (by omega)
      have e1 := hcell 1 (by omega)
      rw [hA, add_add, Addr.add_lit] at e0 e1
      have hcs2 : cs' = encT l[j] := by
        match cs', hlen with
        | [u0, u1], _ =>
          have f0 := hcc.1
          have f1 := hcc.2
          simp only [Nat.add_zero] at e0
          rw [← Nat.add_assoc] at e1
          rw [f0] at e0
          rw [f1] at e1
          simp at e0 e1
          unfold encT
          rw [← e0, ← e1]
      refine open_itemW h4 hcs2 fun n hn => hw n ?_
      simp only [DataW.weights, Try.underlying23, List.mem_cons, List.mem_append]
      exact Or.inr (Or.inl (mem_weightsAll hn (List.mem_map.2 ⟨j, by simp; omega, rfl⟩)))
set_option maxRecDepth 100000 in
theorem open_itemsV {r : Reach} {b0 : Nat} {v : Value} {d : DataW H} {p : List MemPlace} (hv : Value.okWide Try.prog W r b0 23 v) (h : DataW.Trod enc Try.prog W 0 (fun _ => true) true 23 v d p) (hw : ∀ n ∈ d.weights Try.prog 23, n ≤ reachBytes) :
    ∃ A cap l, v = .slice A (l : List Itm).length cap ∧ Lv W A cap l ∧ l.length * 32 ≤ 140737488351232 ∧ ∀ y ∈ l, y.r.length * 8 ≤ 140737488351232 := by
  obtain ⟨A, cap, l, rfl, h1, h2, h3⟩ := open_items hv h
  obtain ⟨fuel, hf⟩ := h
  exact ⟨A, cap, l, rfl, ⟨h2, h1, h3⟩, open_itemsW (cap := cap) hf (by simp [Value.cells]) h2 hw⟩
set_option maxRecDepth 100000 in
theorem open_intsV {r : Reach} {b0 : Nat} {v : Value} {d : DataW H} {p : List MemPlace} (hv : Value.okWide Try.prog W r b0 24 v) (h : DataW.Trod enc Try.prog W 0 (fun _ => true) true 24 v d p) :
    ∃ A cap l, v = .slice A (l : List Int).length cap ∧ (A = none → cap = 0) ∧ RowI W A l ∧ l.length ≤ maxLen := by
  obtain ⟨aL, lenL, capL, rfl⟩ := okWide_slice Try.underlying24 hv
  obtain ⟨fuel, hf⟩ := h
  obtain ⟨A, cap, l, hcs, h1⟩ := open_row hf
  refine ⟨A, cap, l, ?_, h1⟩
  simpa [Value.cells] using hcs
end

set_option maxRecDepth 100000 in
theorem setsOwn_lifted (os : Os) (started : os.Started) (H : Type) (enc : TypeId × Value → H) :
    ReturnsInHanded {} Try.checked os 3 .any (Rows.setsOwnSpec.pre6 enc Try.prog Try.f3 Rows.setsOwnRow.domain false) (Rows.setsOwnSpec.post enc Try.prog Try.f3 false true false false) := by
  refine returnsInHanded_of_change_sized (C := Try.checked) ownK started (by kernel_rfl) Try.func3
    (ChangeSpec.witness6 (enc := enc) (C := Try.checked) false ⟨#[], #[.slice none 0 0, .slice none 0 0, .slice none 0 0, .slice none 0 0], []⟩ 8 (by kernel_rfl) (by kernel_rfl) (by kernel_rfl) (by kernel_rfl)) ?_
  intro W base args ds gs before hval0 hW hcnd hwt0 _
  have hval : ∀ (j : Nat) t v, Try.f3.params[j]? = some t → args[j]? = some v → Value.okWide Try.prog W .any base t v := hval0
  have hW' := hW
  have hwt : (DataW.weightsEach Try.prog (Try.f3.params.toList ++ Rows.setsOwnSpec.plain.varTypes Try.prog) (ds ++ gs)).all (· ≤ reachBytes) = true := hwt0
  obtain ⟨p, q, hA0, hV, rfl, hfz, hnd⟩ := hW
  have hA : DataW.TrodAll enc Try.prog W 0 (fun _ => true) true Try.f3.params.toList args.toList ds p := hA0
  rw [Try.params3] at hA hval hwt
  obtain ⟨v0, vs0, d0, ds0, p0, q0, hargs, rfl, rfl, h0, r0⟩ := trodAll_cons hA
  obtain ⟨v1, vs1, d1, ds1, p1, q1, rfl, rfl, rfl, h1, r1⟩ := trodAll_cons r0
  obtain ⟨v2, vs2, d2, ds2, p2, q2, rfl, rfl, rfl, h2, r2⟩ := trodAll_cons r1
  obtain ⟨v3, vs3, d3, ds3, p3, q3, rfl, rfl, rfl, h3, r3⟩ := trodAll_cons r2
  obtain ⟨rfl, rfl, rfl⟩ := trodAll_nil r3
  obtain rfl : args = #[v0, v1, v2, v3] := by cases args; simp_all
  obtain ⟨rfl, rfl⟩ := trodVars_none hV
  have lt0 : ∀ x ∈ p0, x.block < W.heap.size := by obtain ⟨m, hm⟩ := h0; exact DataW.trod_lt m _ _ _ hm
  have lt1 : ∀ x ∈ p1, x.block < W.heap.size := by obtain ⟨m, hm⟩ := h1; exact DataW.trod_lt m _ _ _ hm
  have lt2 : ∀ x ∈ p2, x.block < W.heap.size := by obtain ⟨m, hm⟩ := h2; exact DataW.trod_lt m _ _ _ hm
  have lt3 : ∀ x ∈ p3, x.block < W.heap.size := by obtain ⟨m, hm⟩ := h3; exact DataW.trod_lt m _ _ _ hm
  have k0 := h0
  have k1 := h1
  have k2 := h2
  have k3 := h3
  obtain ⟨QA, cq, ql, rfl, hQA, hq, hql⟩ := open_steps (hval 0 22 v0 rfl rfl) h0
  obtain ⟨A, ca, a, rfl, ha, hal, har⟩ := open_itemsV (hval 1 23 v1 rfl rfl) h1 (fun n hn => by
    have := List.all_eq_true.1 hwt n (DataW.weights_mem_each (j := 1) (t := 23) (d := d1) rfl rfl n hn)
    simpa using this)
  obtain ⟨B, cb, b, rfl, hb, hbl, hbr⟩ := open_itemsV (hval 2 23 v2 rfl rfl) h2 (fun n hn => by
    have := List.all_eq_true.1 hwt n (DataW.weights_mem_each (j := 2) (t := 23) (d := d2) rfl rfl n hn)
    simpa using this)
  obtain ⟨CA, cc, cs, rfl, hcA, hcs, hcl⟩ := open_intsV (hval 3 24 v3 rfl rfl) h3
  clear hA0 hval0
  refine (setsOwn_any ql QA cq a b A B ca cb cs CA cc W hql hq ha hb hal hbl har hbr hcs hcl).mono fun e W' ⟨he, bel⟩ => ?_
  subst he
  exact ⟨_, rfl, _, _, _, [], _, [], hW', trodAll_mk1 (shut_bool Try.underlying4 _),
    (trodAll_cons_mk (Below.trod laidAll (by kernel_rfl) (of_decide_eq_true (by kernel_rfl)) k0 bel lt0)
      (trodAll_cons_mk (Below.trod laidAll (by kernel_rfl) (of_decide_eq_true (by kernel_rfl)) k1 bel lt1)
        (trodAll_cons_mk (Below.trod laidAll (by kernel_rfl) (of_decide_eq_true (by kernel_rfl)) k2 bel lt2)
          (trodAll_cons_mk (Below.trod laidAll (by kernel_rfl) (of_decide_eq_true (by kernel_rfl)) k3 bel lt3) trodAll_mk0)))), rfl, bel.frame _, fun h => by cases h⟩

theorem setsOwn_holds : Rows.SetsOwnSaid :=
  OpenClaim.holds_of_wide 3 Try.f3 rfl rfl rfl rfl rfl rfl rfl ⟨rfl, rfl, rfl, rfl, rfl⟩ rfl rfl rfl rfl rfl (by kernel_rfl) Try.func3 (by kernel_rfl)
    (of_decide_eq_true (by kernel_rfl)) (by unfold Func.isWrapper; first | (rw [if_pos (by decide +kernel)]; kernel_rfl) | (rw [if_neg (by decide +kernel)]; exact ⟨rfl, rfl⟩))
    (fun os started H enc _ => setsOwn_lifted os started H enc)

#print axioms setsOwn_holds
end Go.Proofs.Ytgmdjioobidadaa
