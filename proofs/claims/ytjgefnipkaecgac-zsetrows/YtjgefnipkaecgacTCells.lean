/-
  table.mergeCells: the cells that both tables have, or that one has and the other hasn't seen, by their dots.
-/
import Derived.Test.YtjgefnipkaecgacTClash
import Derived.Test.YtjgefnipkaecgacTSort
import Derived.Test.YtjgefnipkaecgacTDel
import Derived.Test.YtjgefnipkaecgacCanon
namespace Go.Proofs.Ytjgefnipkaecgac
open Go.RowKit Go.Sort Go.Shelf Go.Lib

theorem Try.infoC : (Try.prog.info? 64).map (fun i => (i.zero, i.size, i.bytes)) = some (some (.agg #[.int .i64 0, .int .i64 0, .int .i64 0, .int .i64 0, .int .i64 0]), 5, 40) := by kernel_rfl

theorem rowNewCl {W : World} {n : Nat} (hn : W.heap.size = n) (x : Cel) (T : TypeId) : RowC (W.alloc (.cells #[.int .i64 x.1.1, .int .i64 x.1.2, .int .i64 x.2.1, .int .i64 x.2.2.1, .int .i64 x.2.2.2] T)) (some ⟨n, 0, none⟩) [x] := by
  subst hn
  refine Or.inr ⟨W.heap.size, 0, rfl, by simp, fun j hj i hi => ?_⟩
  obtain rfl : j = 0 := by simp at hj; omega
  match i, hi with
  | 0, _ => exact box1 (w := W) (Gr.refl _) (j := 0) rfl
  | 1, _ => exact box1 (w := W) (Gr.refl _) (j := 1) rfl
  | 2, _ => exact box1 (w := W) (Gr.refl _) (j := 2) rfl
  | 3, _ => exact box1 (w := W) (Gr.refl _) (j := 3) rfl
  | 4, _ => exact box1 (w := W) (Gr.refl _) (j := 4) rfl

theorem wpList_append_c (w : World) {ops : Array Oper} {rest : List Oper} {o : Oper} {a : Act} {Q : Exit → Act → World → Prop} (hgd : o.guard = none) (s x : Operand)
    (ho : o.op = .call { callee := .builtin .append, args := #[s, x], argTypes := #[26, 26] })
    (base : Nat) (v : Value) (l m : List Cel) (A : Option Addr) (cap : Nat) (hs : a.eval s = v) (hx : a.eval x = .slice A m.length cap) (hown : OwnC w base v l) (hr : RowC w A m) (hA : A = none → cap = 0)
    (hml : l.length + m.length ≤ maxLen) (hb : (l.length + m.length) * 40 ≤ 140737488355328) (hbase : base ≤ w.heap.size)
    (h : ∀ v' w', OwnC w' base v' (l ++ m) → w.grownBy w' v.ownBlock → wpList Try.prog ops Q rest (a.put o.dst v') w') : wpList Try.prog ops Q (o :: rest) a w :=
  wpList_plain hgd fun _ hK => wp_append_g encC_len encC_one (by omega) 26 Try.underlying26 (.agg #[.int .i64 0, .int .i64 0, .int .i64 0, .int .i64 0, .int .i64 0]) 40 Try.infoC rfl w s x ho base v l m A cap hs hx hown hr hA hml hb hbase fun v' w' h2 h3 => hK _ _ (h v' w' h2 h3)

/-- The cell stays for a's part. -/
def stayA (b : Tab) (x : Cel) : Bool := memD b.e x.1 || !hasB b.c x.1
/-- The cell stays for b's part. -/
def stayB (a : Tab) (x : Cel) : Bool := !hasB a.c x.1
/-- The cells that stay. -/
def both (a b : Tab) : List Cel := a.e.filter (stayA b) ++ b.e.filter (stayB a)
/-- The merged cells. -/
def mrg (a b : Tab) : List Cel := srtC (both a b)

theorem filter_take {p : Cel → Bool} {l : List Cel} {k : Nat} (h : k < l.length) {x : Cel} (hx : l[k] = x) : (l.take (k + 1)).filter p = (l.take k).filter p ++ (if p x then [x] else []) := by
  rw [List.take_succ_eq_append_getElem h, List.filter_append, hx]
  cases hq : p x <;> simp [hq]
theorem filter_le (p : Cel → Bool) (l : List Cel) (k : Nat) : ((l.take k).filter p).length ≤ l.length := Nat.le_trans (List.length_filter_le _ _) (by rw [List.length_take]; omega)

theorem errT_has {t : Tab} (h : errT t = 0) {x : Cel} (hx : x ∈ t.e) : hasB t.c x.1 = true := by
  obtain ⟨j, hj, rfl⟩ := List.getElem_of_mem hx
  have hk := (errT_parts h).2.2 j hj
  have hg : t.e.getD j ((0, 0), 0, 0, 0) = t.e[j] := by simp [hj]
  unfold okCel at hk
  rw [hg] at hk
  simp only [Bool.and_eq_true] at hk
  exact hk.1.1
theorem errT_asc {t : Tab} (h : errT t = 0) : Asc t.e := by
  have hp := (errT_parts h).2.2
  have step : ∀ j (hj : j + 1 < t.e.length), befB (t.e[j]'(by omega)).1 t.e[j + 1].1 = true := by
    intro j hj
    have hk := hp (j + 1) hj
    rw [okCel_succ hj rfl rfl] at hk
    simp only [Bool.and_eq_true] at hk
    exact hk.2
  have far : ∀ d i (hi : i + d + 1 < t.e.length), befB (t.e[i]'(by omega)).1 (t.e[i + d + 1]'hi).1 = true := by
    intro d
    induction d with
    | zero => intro i hi; exact step i hi
    | succ d ih =>
      intro i hi
      have h1 := ih i (by omega)
      have h2 := step (i + d + 1) (by omega)
      exact befT_trans h1 h2
  unfold Asc
  rw [List.pairwise_iff_getElem]
  intro i j hi hj hij
  have := far (j - i - 1) i (by omega)
  have e : i + (j - i - 1) + 1 = j := by omega
  simp only [e] at this
  exact this
theorem asc_nodup {l : List Cel} (h : Asc l) : (l.map (·.1)).Nodup := by
  unfold List.Nodup
  rw [List.pairwise_map]
  exact h.imp fun h => befT_ne h
theorem nodup_uniq {l : List Cel} (h : (l.map (·.1)).Nodup) : UniqD l := by
  intro x hx y hy e
  obtain ⟨i, hi, rfl⟩ := List.getElem_of_mem hx
  obtain ⟨j, hj, rfl⟩ := List.getElem_of_mem hy
  unfold List.Nodup at h
  rw [List.pairwise_map] at h
  rcases Nat.lt_trichotomy i j with h1 | h1 | h1
  · exact absurd e ((List.pairwise_iff_getElem.1 h) i j hi hj h1)
  · subst h1; rfl
  · exact absurd e.symm ((List.pairwise_iff_getElem.1 h) j i hj hi h1)
theorem both_nodup {a b : Tab} (ha : errT a = 0) (hb : errT b = 0) : ((both a b).map (·.1)).Nodup := by
  unfold both
  rw [List.map_append, List.nodup_append]
  refine ⟨?_, ?_, ?_⟩
  · exact (asc_nodup (errT_asc ha)).sublist (List.filter_sublist.map _)
  · exact (asc_nodup (errT_asc hb)).sublist (List.filter_sublist.map _)
  · intro d hd d' hd' e
    subst e
    obtain ⟨x, hx, rfl⟩ := List.mem_map.1 hd
    obtain ⟨y, hy, e⟩ := List.mem_map.1 hd'
    have h1 := errT_has ha (List.mem_filter.1 hx).1
    have h2 := (List.mem_filter.1 hy).2
    unfold stayB at h2
    rw [e, h1] at h2
    cases h2
theorem mrg_asc {a b : Tab} (ha : errT a = 0) (hb : errT b = 0) : Asc (mrg a b) := srtC_asc (both_nodup ha hb)
theorem both_len (a b : Tab) : (both a b).length ≤ a.e.length + b.e.length := by
  unfold both
  rw [List.length_append]
  have := List.length_filter_le (stayA b) a.e
  have := List.length_filter_le (stayB a) b.e
  omega

set_option maxRecDepth 100000 in
set_option maxHeartbeats 2000000 in
theorem mergeCells_any (a b : Tab) (A B C D : Option Addr) (ca cb cc cd : Nat) (w : World) (ha : errT a = 0) (hb : errT b = 0) (hra : Row w A a.c.l) (hrb : Row w B b.c.l) (hrc : RowC w C a.e) (hrd : RowC w D b.e) :
    Calls Try.prog 24 #[.agg #[.int .i64 a.c.c0, .int .i64 a.c.c1, .int .i64 a.c.c2, .int .i64 a.c.c3, .slice A a.c.l.length ca, .slice C a.e.length cc], .agg #[.int .i64 b.c.c0, .int .i64 b.c.c1, .int .i64 b.c.c2, .int .i64 b.c.c3, .slice B b.c.l.length cb, .slice D b.e.length cd]] w fun e w' => ∃ E ce, e = .returned (.slice E (mrg a b).length ce) ∧ RowC w' E (mrg a b) ∧ (E = none → ce = 0) ∧ (∀ x, E = some x → w.heap.size ≤ x.block) ∧ Below w.heap.size w w' := by
  have hgX : Gr w ((w.alloc (.cells #[.int .i64 a.c.c0, .int .i64 a.c.c1, .int .i64 a.c.c2, .int .i64 a.c.c3, .slice A a.c.l.length ca, .slice C a.e.length cc] 28)).alloc (.cells #[.int .i64 b.c.c0, .int .i64 b.c.c1, .int .i64 b.c.c2, .int .i64 b.c.c3, .slice B b.c.l.length cb, .slice D b.e.length cd] 28)) := ((Gr.refl _).alloc _).alloc _
  have hA0 : TabAt ((w.alloc (.cells #[.int .i64 a.c.c0, .int .i64 a.c.c1, .int .i64 a.c.c2, .int .i64 a.c.c3, .slice A a.c.l.length ca, .slice C a.e.length cc] 28)).alloc (.cells #[.int .i64 b.c.c0, .int .i64 b.c.c1, .int .i64 b.c.c2, .int .i64 b.c.c3, .slice B b.c.l.length cb, .slice D b.e.length cd] 28)) w.heap.size a A ca C cc := (TabAt.new 28 hra hrc rfl).gr ((Gr.refl _).alloc _)
  have hB0 : TabAt ((w.alloc (.cells #[.int .i64 a.c.c0, .int .i64 a.c.c1, .int .i64 a.c.c2, .int .i64 a.c.c3, .slice A a.c.l.length ca, .slice C a.e.length cc] 28)).alloc (.cells #[.int .i64 b.c.c0, .int .i64 b.c.c1, .int .i64 b.c.c2, .int .i64 b.c.c3, .slice B b.c.l.length cb, .slice D b.e.length cd] 28)) (w.heap.size + 1) b B cb D cd := TabAt.new 28 (hrb.gr ((Gr.refl _).alloc _)) (hrd.gr ((Gr.refl _).alloc _)) (by simp)
  have hbw0 : Below w.heap.size w ((w.alloc (.cells #[.int .i64 a.c.c0, .int .i64 a.c.c1, .int .i64 a.c.c2, .int .i64 a.c.c3, .slice A a.c.l.length ca, .slice C a.e.length cc] 28)).alloc (.cells #[.int .i64 b.c.c0, .int .i64 b.c.c1, .int .i64 b.c.c2, .int .i64 b.c.c3, .slice B b.c.l.length cb, .slice D b.e.length cd] 28)) := hgX.below
  have hal : a.e.length ≤ 400 := (errT_parts ha).2.1
  have hbl : b.e.length ≤ 400 := (errT_parts hb).2.1
  have a5 := hA0.k5
  go_enter Try.func24, Try.ntmps24
  go_wp2
  generalize ((w.alloc (.cells #[.int .i64 a.c.c0, .int .i64 a.c.c1, .int .i64 a.c.c2, .int .i64 a.c.c3, .slice A a.c.l.length ca, .slice C a.e.length cc] 28)).alloc (.cells #[.int .i64 b.c.c0, .int .i64 b.c.c1, .int .i64 b.c.c2, .int .i64 b.c.c3, .slice B b.c.l.length cb, .slice D b.e.length cd] 28)) = w0 at hA0 hB0 hbw0 a5 ⊢
  have haH : Hid (errT a = 0) := ha
  have hbH : Hid (errT b = 0) := hb
  have hascb : Hid (Asc b.e) := errT_asc hb
  have hcl : Hid (a.c.l.length ≤ maxLen ∧ b.c.l.length ≤ maxLen) := by
    have h1 := (errC_parts (errT_parts ha).1).2.1
    have h2 := (errC_parts (errT_parts hb).1).2.1
    exact ⟨Nat.le_trans h1 (by decide), Nat.le_trans h2 (by decide)⟩
  clear a5 ha hb hgX
  go_loopw [5, 15] (fun v i wr => ∃ k : Nat, k ≤ a.e.length ∧ i = .int .i64 k ∧ OwnC wr w0.heap.size v ((a.e.take k).filter (stayA b)) ∧ Below w0.heap.size w0 wr) (fun _ i _ => a.e.length - (intOf i).toNat)
  case atStart => exact ⟨0, by omega, rfl, OwnG.nil _ _ _ _ _, Below.refl _ _⟩
  case round =>
    obtain ⟨k, hk, rfl, hov, hbel⟩ := hrel
    obtain ⟨A1, cap1, rfl, hA1, hrow1, hlt1⟩ := OwnG.row encC_len hov
    have hAR := hA0.below hbel
    have hBR := hB0.below hbel
    have hsR : w0.heap.size ≤ wr.heap.size := hbel.size
    by_cases hlt : k < a.e.length
    · have hltz : (k : Int) < (a.e.length : Int) := by omega
      obtain ⟨bb, off, rfl, hbb, hcs⟩ := RowC.get hAR.rowC hlt
      obtain ⟨x, hx⟩ : ∃ x, a.e[k] = x := ⟨_, rfl⟩
      obtain ⟨e0, e1, e2, e3, e4⟩ := hcs k hlt
      rw [hx] at e0 e1 e2 e3 e4
      have hst := filter_take (p := stayA b) hlt hx
      clear hcs hx
      obtain ⟨M, HM⟩ : ∃ M, (a.e.take k).filter (stayA b) = M := ⟨_, rfl⟩
      have hMl : M.length ≤ 400 := by rw [← HM]; exact Nat.le_trans (filter_le _ _ _) hal
      rw [HM] at hov hst hrow1 ⊢
      clear HM
      have hovH : Hid (OwnC wr w0.heap.size (.slice A1 M.length cap1) M) := hov
      have hbelH : Hid (Below w0.heap.size w0 wr) := hbel
      have hgX : Gr wr (wr.alloc (.cells #[.int .i64 x.1.1, .int .i64 x.1.2, .int .i64 x.2.1, .int .i64 x.2.2.1, .int .i64 x.2.2.2] 64)) := (Gr.refl _).alloc _
      have hxA := CelAt.new (w := wr) x 64 rfl
      have hBX := hBR.gr hgX
      have b5 := hBX.k5
      obtain ⟨x0, x1, x2, x3, x4, xlt⟩ := (show CelAt _ _ _ from hxA)
      have hbs := bsearch_any b.e D cd x _ hbl hBX.rowC hascb.out
      have hbsH : Hid _ := hbs
      clear hov hbel hrow1 hbs
      go_wp2_with fail
      refine Calls.mono (show Calls _ _ _ _ _ from hbsH.out) ?_
      rintro e w2 ⟨ix, rfl, -, hg2⟩
      clear hbsH x0 x1 x2 x3 x4 b5
      have hx2 := hxA.gr hg2
      have hB2 := hBX.gr hg2
      have hgW : Gr wr w2 := hgX.trans hg2
      clear hgX hg2 hxA hBX xlt
      obtain ⟨x0, x1, x2, x3, x4, xlt⟩ := (show CelAt _ _ _ from hx2)
      cases hm : memD b.e x.1
      · obtain ⟨b0, b1, b2, b3, b4, b5, blt, brow, browC⟩ := (show TabAt _ _ _ _ _ _ _ from hB2)
        have hha := has_any b.c B cb x.1 w2 hcl.out.2 brow
        have hhaH : Hid _ := hha
        clear hha
        go_wp2_with fail
        refine Calls.mono (show Calls _ _ _ _ _ from hhaH.out) ?_
        rintro e w3 ⟨rfl, hg3⟩
        clear hhaH x0 x1 x2 x3 x4 b0 b1 b2 b3 b4 b5
        have hgW3 : Gr wr w3 := hgW.trans hg3
        obtain ⟨x0, x1, x2, x3, x4, xlt3⟩ := (show CelAt _ _ _ from hx2.gr hg3)
        cases hq : hasB b.c x.1
        · have hst2 : Hid ((a.e.take (k + 1)).filter (stayA b) = M ++ [x]) := by show _ = _; rw [hst, if_pos (by simp [stayA, hm, hq])]
          have hbd : Hid (M.length + [x].length ≤ maxLen ∧ (M.length + [x].length) * 40 ≤ 140737488355328) := by show _ ∧ _; unfold maxLen; simp only [List.length_cons, List.length_nil]; omega
          clear hst
          go_wp2_with (at_builtin; refine wpList_append_c _ rfl _ _ rfl w0.heap.size (.slice A1 M.length cap1) M [x] (some ⟨w3.heap.size, 0, none⟩) 1 rfl rfl ?ho ?hr (fun h => by cases h) hbd.out.1 hbd.out.2 ?hs ?_)
          case ho => exact hovH.out.gr (hgW3.alloc _)
          case hr => exact rowNewCl rfl _ _
          case hs => have := hgW3.size; simp; omega
          intro v1 w4 hown1 hgr1
          have hb3 : Hid (Below w0.heap.size w0 w4) := hbelH.out.trans (((hgW3.alloc _).below.mono hsR).trans (OwnG.grown_below (hovH.out.gr (hgW3.alloc _)) hgr1 (by have := hgW3.size; simp; omega)))
          have hownH : Hid (OwnC w4 w0.heap.size v1 (M ++ [x])) := hown1
          clear hown1 hgr1
          go_wp2
          go_roundw
          case rel => exact ⟨k + 1, by omega, by go_num, by rw [hst2.out]; exact hownH.out, hb3.out⟩
          case measure => simp [intOf]; omega
        · have hst2 : Hid ((a.e.take (k + 1)).filter (stayA b) = M) := by show _ = _; rw [hst, if_neg (by simp [stayA, hm, hq])]; simp
          clear hst
          go_wp2
          go_roundw
          case rel => exact ⟨k + 1, by omega, by go_num, by rw [hst2.out]; exact hovH.out.gr hgW3, hbelH.out.trans (hgW3.below.mono hsR)⟩
          case measure => simp [intOf]; omega
      · have hst2 : Hid ((a.e.take (k + 1)).filter (stayA b) = M ++ [x]) := by show _ = _; rw [hst, if_pos (by simp [stayA, hm])]
        have hbd : Hid (M.length + [x].length ≤ maxLen ∧ (M.length + [x].length) * 40 ≤ 140737488355328) := by show _ ∧ _; unfold maxLen; simp only [List.length_cons, List.length_nil]; omega
        clear hst
        go_wp2_with (at_builtin; refine wpList_append_c _ rfl _ _ rfl w0.heap.size (.slice A1 M.length cap1) M [x] (some ⟨w2.heap.size, 0, none⟩) 1 rfl rfl ?ho ?hr (fun h => by cases h) hbd.out.1 hbd.out.2 ?hs ?_)
        case ho => exact hovH.out.gr (hgW.alloc _)
        case hr => exact rowNewCl rfl _ _
        case hs => have := hgW.size; simp; omega
        intro v1 w4 hown1 hgr1
        have hb3 : Hid (Below w0.heap.size w0 w4) := hbelH.out.trans (((hgW.alloc _).below.mono hsR).trans (OwnG.grown_below (hovH.out.gr (hgW.alloc _)) hgr1 (by have := hgW.size; simp; omega)))
        have hownH : Hid (OwnC w4 w0.heap.size v1 (M ++ [x])) := hown1
        clear hown1 hgr1
        go_wp2
        go_roundw
        case rel => exact ⟨k + 1, by omega, by go_num, by rw [hst2.out]; exact hownH.out, hb3.out⟩
        case measure => simp [intOf]; omega
    · have hltz : ¬ (k : Int) < (a.e.length : Int) := by omega
      have hke : a.e.take k = a.e := List.take_of_length_le (by omega)
      rw [hke] at hov hrow1 ⊢
      clear hke
      have b5 := hBR.k5
      obtain ⟨F, HF⟩ : ∃ F, a.e.filter (stayA b) = F := ⟨_, rfl⟩
      have hFl : F.length ≤ 400 := by rw [← HF]; exact Nat.le_trans (List.length_filter_le _ _) hal
      rw [HF] at hov hrow1 ⊢
      have HFH : Hid (a.e.filter (stayA b) = F) := HF
      have hovF : Hid (OwnC wr w0.heap.size (.slice A1 F.length cap1) F) := hov
      have hbelF : Hid (Below w0.heap.size w0 wr) := hbel
      clear HF hov hbel hrow1 hAR
      go_wp2
      clear b5 hBR
      go_loopw [5, 43] (fun v i wq => ∃ k : Nat, k ≤ b.e.length ∧ i = .int .i64 k ∧ OwnC wq w0.heap.size v (F ++ (b.e.take k).filter (stayB a)) ∧ Below w0.heap.size w0 wq) (fun _ i _ => b.e.length - (intOf i).toNat)
      case atStart => exact ⟨0, by omega, rfl, by simpa using hovF.out, hbelF.out⟩
      case round =>
        rename World => wq
        obtain ⟨j, hj, rfl, hov, hbel⟩ := hrel
        obtain ⟨A2, cap2, rfl, hA2, hrow2, hlt2⟩ := OwnG.row encC_len hov
        have hAR := hA0.below hbel
        have hBR := hB0.below hbel
        have hsQ : w0.heap.size ≤ wq.heap.size := hbel.size
        by_cases hjt : j < b.e.length
        · have hltz2 : (j : Int) < (b.e.length : Int) := by omega
          obtain ⟨bb, off, rfl, hbb, hcs⟩ := RowC.get hBR.rowC hjt
          obtain ⟨x, hx⟩ : ∃ x, b.e[j] = x := ⟨_, rfl⟩
          obtain ⟨e0, e1, e2, e3, e4⟩ := hcs j hjt
          rw [hx] at e0 e1 e2 e3 e4
          have hst := filter_take (p := stayB a) hjt hx
          clear hcs hx
          obtain ⟨M, HM⟩ : ∃ M, F ++ (b.e.take j).filter (stayB a) = M := ⟨_, rfl⟩
          have hMl : M.length ≤ 800 := by
            rw [← HM, List.length_append]
            have := filter_le (stayB a) b.e j
            omega
          have hstM : F ++ (b.e.take (j + 1)).filter (stayB a) = M ++ (if stayB a x then [x] else []) := by rw [hst, ← List.append_assoc, HM]
          rw [HM] at hov hrow2 ⊢
          clear HM hst
          have hovH : Hid (OwnC wq w0.heap.size (.slice A2 M.length cap2) M) := hov
          have hbelH : Hid (Below w0.heap.size w0 wq) := hbel
          have hgX : Gr wq (wq.alloc (.cells #[.int .i64 x.1.1, .int .i64 x.1.2, .int .i64 x.2.1, .int .i64 x.2.2.1, .int .i64 x.2.2.2] 64)) := (Gr.refl _).alloc _
          have hxA := CelAt.new (w := wq) x 64 rfl
          have hAX := hAR.gr hgX
          obtain ⟨a0, a1, a2, a3, a4, a5, alt, arow, arowC⟩ := (show TabAt _ _ _ _ _ _ _ from hAX)
          obtain ⟨x0, x1, x2, x3, x4, xlt⟩ := (show CelAt _ _ _ from hxA)
          have hha := has_any a.c A ca x.1 _ hcl.out.1 arow
          have hhaH : Hid _ := hha
          clear hov hbel hrow2 hha
          go_wp2_with fail
          refine Calls.mono (show Calls _ _ _ _ _ from hhaH.out) ?_
          rintro e w3 ⟨rfl, hg3⟩
          clear hhaH x0 x1 x2 x3 x4 a0 a1 a2 a3 a4 a5
          have hgW3 : Gr wq w3 := hgX.trans hg3
          obtain ⟨x0, x1, x2, x3, x4, xlt3⟩ := (show CelAt _ _ _ from hxA.gr hg3)
          cases hq : hasB a.c x.1
          · have hst2 : Hid (F ++ (b.e.take (j + 1)).filter (stayB a) = M ++ [x]) := by show _ = _; rw [hstM, if_pos (by simp [stayB, hq])]
            have hbd : Hid (M.length + [x].length ≤ maxLen ∧ (M.length + [x].length) * 40 ≤ 140737488355328) := by show _ ∧ _; unfold maxLen; simp only [List.length_cons, List.length_nil]; omega
            clear hstM
            go_wp2_with (at_builtin; refine wpList_append_c _ rfl _ _ rfl w0.heap.size (.slice A2 M.length cap2) M [x] (some ⟨w3.heap.size, 0, none⟩) 1 rfl rfl ?ho ?hr (fun h => by cases h) hbd.out.1 hbd.out.2 ?hs ?_)
            case ho => exact hovH.out.gr (hgW3.alloc _)
            case hr => exact rowNewCl rfl _ _
            case hs => have := hgW3.size; simp; omega
            intro v1 w4 hown1 hgr1
            have hb3 : Hid (Below w0.heap.size w0 w4) := hbelH.out.trans (((hgW3.alloc _).below.mono hsQ).trans (OwnG.grown_below (hovH.out.gr (hgW3.alloc _)) hgr1 (by have := hgW3.size; simp; omega)))
            have hownH : Hid (OwnC w4 w0.heap.size v1 (M ++ [x])) := hown1
            clear hown1 hgr1
            go_wp2
            go_roundw
            case rel => exact ⟨j + 1, by omega, by go_num, by rw [hst2.out]; exact hownH.out, hb3.out⟩
            case measure => simp [intOf]; omega
          · have hst2 : Hid (F ++ (b.e.take (j + 1)).filter (stayB a) = M) := by show _ = _; rw [hstM, if_neg (by simp [stayB, hq])]; simp
            clear hstM
            go_wp2
            go_roundw
            case rel => exact ⟨j + 1, by omega, by go_num, by rw [hst2.out]; exact hovH.out.gr hgW3, hbelH.out.trans (hgW3.below.mono hsQ)⟩
            case measure => simp [intOf]; omega
        · have hltz2 : ¬ (j : Int) < (b.e.length : Int) := by omega
          have hke : b.e.take j = b.e := List.take_of_length_le (by omega)
          rw [hke] at hov hrow2 ⊢
          clear hke
          have hbo : F ++ b.e.filter (stayB a) = both a b := by unfold both; rw [HFH.out]
          rw [hbo] at hov hrow2 ⊢
          have hM := both_len a b
          have hso := sortOwnC (fun x y => ltOrd x y) 31 #[] (enters_of Try.func31 (by kernel_rfl) rfl) w0.heap.size _ (both a b) wq (fun g => cmpOrd g 0 _ wq) (nodup_uniq (both_nodup haH.out hbH.out)) hov hsQ (by omega)
          have hsoH : Hid _ := hso
          have hbwQ : Below w.heap.size w wq := hbw0.trans (hbel.mono hbw0.size)
          have hs0 := hbw0.size
          have hmr : Hid (mrg a b = srtC (both a b)) := rfl
          clear hso hov hrow2 hbo hBR hAR
          generalize both a b = M at hsoH hmr ⊢
          go_wp2_with fail
          refine Calls.mono (show Calls _ _ _ _ _ from hsoH.out) ?_
          rintro e w4 ⟨rfl, ⟨E, ce, hvE, hrE, hE0, hEb⟩, hb4⟩
          clear hsoH
          go_wp2
          go_ret
          exact ⟨E, ce, by rw [hmr.out, ← hvE]; rfl, by rw [hmr.out]; exact hrE, hE0, fun x hx => Nat.le_trans hs0 (hEb x hx), hbwQ.trans (hb4.mono hs0)⟩

end Go.Proofs.Ytjgefnipkaecgac
