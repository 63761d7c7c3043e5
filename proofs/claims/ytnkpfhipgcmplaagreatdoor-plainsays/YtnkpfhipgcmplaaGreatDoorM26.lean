/-
  slices.EqualFunc at lists of sets with R.SameSet, where they are the same.
  The law PlainSays: Eval and All answer what the document says.
  What is handed in, opened: a list of steps.
-/
import Derived.Test.YtnkpfhipgcmplaaGreatDoorM25
import Derived.Test.YtnkpfhipgcmplaaGreatDoorM10
import Derived.Test.YtnkpfhipgcmplaaGreatDoorQWids
namespace Go.Proofs.YtnkpfhipgcmplaaGreatDoor
open Go.RowKit Go.Sort

theorem Sts.nth {w : World} {A : Option Addr} {ss : List Sl} {S : List (List Zit)} (h : Sts w A ss S) {k : Nat} (hk : k < ss.length) : ss[k].l.map Itm.z = S.getD k [] := by
  rw [← h.z, List.getD_eq_getElem?_getD, List.getElem?_map, List.getElem?_eq_getElem hk]
  rfl
set_option maxHeartbeats 1000000 in
theorem eqsets_any (ss tt : List Sl) (S : List (List Zit)) (A B : Option Addr) (ca cb : Nat) (w : World) (hsl : ss.length ≤ 8) (ha : Sts w A ss S) (hb : Sts w B tt S) :
    Calls Tryz.prog 23 #[.slice A ss.length ca, .slice B tt.length cb, .func (.func 19) #[] #[]] w fun e w' => e = .returned (.bool true) ∧ Gr w w' := by
  have hlen : ss.length = tt.length := by
    have h1 := congrArg List.length ha.z
    have h2 := congrArg List.length hb.z
    simp only [List.length_map] at h1 h2
    omega
  have hlz : ((ss.length : Int) != (tt.length : Int)) = false := by simp [hlen]
  have hlenH : Hid (ss.length = tt.length) := hlen
  have hH : Hid (Sts w A ss S ∧ Sts w B tt S) := ⟨ha, hb⟩
  clear hlen ha hb
  go_enter Tryz.func23, Tryz.ntmps23
  go_wp2
  go_loopw [17] (fun i wr => ∃ k : Nat, k ≤ ss.length ∧ i = .int .i64 k ∧ Hid (Gr w wr)) (fun i _ => ss.length - (intOf i).toNat)
  case atStart => exact ⟨0, Nat.zero_le _, rfl, Gr.refl _⟩
  case round =>
    obtain ⟨k, hk, rfl, hgr⟩ := hrel
    by_cases hlt : k < ss.length
    · have hltz : (k : Int) < (ss.length : Int) := by omega
      have hlt2 : k < tt.length := by rw [← hlenH.out]; exact hlt
      have hltz2 : (k : Int) < (tt.length : Int) := by omega
      have hI : Hid (Sts wr A ss S ∧ Sts wr B tt S) := ⟨hH.out.1.gr hgr.out, hH.out.2.gr hgr.out⟩
      obtain ⟨bb, off, rfl, hb, hcs⟩ := hI.out.1.row.at hlt
      obtain ⟨bc, of2, rfl, hb2, hcs2⟩ := hI.out.2.row.at hlt2
      obtain ⟨x, hx⟩ : ∃ x, ss[k] = x := ⟨_, rfl⟩
      obtain ⟨y, hy⟩ : ∃ y, tt[k] = y := ⟨_, rfl⟩
      have e0 : wr.cell? ⟨bb, off + k, none⟩ = some (.slice x.A x.l.length x.cap) := by
        have := hcs k hlt 0 (by omega)
        rw [hx] at this
        simpa [encS] using this
      have f0 : wr.cell? ⟨bc, of2 + k, none⟩ = some (.slice y.A y.l.length y.cap) := by
        have := hcs2 k hlt2 0 (by omega)
        rw [hy] at this
        simpa [encS] using this
      have hz : x.l.map Itm.z = y.l.map Itm.z := by rw [← hx, ← hy, hI.out.1.nth hlt, hI.out.2.nth hlt2]
      have hS0 := sameV (W := wr) (hI.out.1.each x (by rw [← hx]; exact List.getElem_mem hlt)) (hI.out.2.each y (by rw [← hy]; exact List.getElem_mem hlt2)) hz
      have hS : Hid _ := hS0
      clear hcs hcs2 hx hy hz hS0
      go_wp2_with fail
      refine Calls.mono (show Calls _ _ _ _ _ from hS.out) ?_
      rintro e w2 ⟨rfl, hg2⟩
      have hgw : Hid (Gr w w2) := hgr.out.trans hg2
      clear hg2
      go_wp2
      go_roundw
      case rel => exact ⟨k + 1, by omega, by go_num, hgw⟩
      case measure => simp [intOf]; omega
    · have hltz : ¬ (k : Int) < (ss.length : Int) := by omega
      go_wp2
      go_ret
      exact ⟨rfl, hgr.out⟩
end Go.Proofs.YtnkpfhipgcmplaaGreatDoor

namespace Go.Proofs.YtnkpfhipgcmplaaGreatDoor
open Go.RowKit Go.Sort

theorem Sts.len8 {w : World} {A : Option Addr} {ss : List Sl} {q : List Stp} {a b : List Zit} (h : Sts w A ss (plnF q a b)) : ss.length ≤ 8 ∧ (plnE q a b = 0 → 0 < ss.length ∧ ss.length = q.length) ∧ (plnE q a b ≠ 0 → ss.length = 0) := by
  have h1 := congrArg List.length h.z
  rw [List.length_map] at h1
  by_cases e : plnE q a b = 0
  · obtain ⟨h2, h3, h4⟩ := plnE_parts e
    obtain ⟨p1, _, _, p4, p5⟩ := ahdE_parts h2
    obtain ⟨q1, q2, q3⟩ := errQ_wids p1
    obtain ⟨ah', _, hl⟩ := all_right p4 p5 q [] [] q3 Ahd.nil h3
    rw [h4, hl] at h1
    have hq : 0 < q.length := List.length_pos_iff.2 q1
    simp only [List.length_nil] at h1
    exact ⟨by omega, fun _ => ⟨by omega, by omega⟩, fun k => absurd e k⟩
  · unfold plnF at h1
    rw [if_neg e] at h1
    simp only [List.length_nil] at h1
    exact ⟨by omega, fun k => absurd k e, fun _ => h1⟩

set_option maxRecDepth 100000 in
set_option maxHeartbeats 1000000 in
theorem psays_any (q : List Stp) (QA : Option Addr) (cq : Nat) (a b : List Itm) (A B : Option Addr) (ca cb : Nat) (w : World) (hl : q.length ≤ maxLen) (hq : Stps w QA q) (ha : Lv w A ca a) (hb : Lv w B cb b) (ht : Tens w) :
    Calls Tryz.prog 4 #[.slice QA q.length cq, .slice A a.length ca, .slice B b.length cb] w fun e w' => e = .returned (.bool true) ∧ Below w.heap.size w w' := by
  obtain ⟨P, hP⟩ : ∃ P, plnE q (a.map Itm.z) (b.map Itm.z) = P := ⟨_, rfl⟩
  have hA : Hid (∀ W, Below w.heap.size w W → Calls Tryz.prog 20 #[.slice QA q.length cq, .slice A a.length ca, .slice B b.length cb] W fun e w' => ∃ (ss : List Sl) (C : Option Addr) (k : Nat), e = .returned (.tuple #[.slice C ss.length k, .int .i64 P]) ∧ Sts w' C ss (plnF q (a.map Itm.z) (b.map Itm.z)) ∧ Below W.heap.size W w') := fun W h => by rw [← hP]; exact all_any q QA cq a b A B ca cb W hl (hq.below h) (ha.below h) (hb.below h)
  have hR : Hid (∀ W, Below w.heap.size w W → Calls Tryz.prog 21 #[.slice QA q.length cq, .slice A a.length ca, .slice B b.length cb] W fun e w' => ∃ (ss : List Sl) (C : Option Addr) (k : Nat), e = .returned (.tuple #[.slice C ss.length k, .int .i64 P]) ∧ Sts w' C ss (plnF q (a.map Itm.z) (b.map Itm.z)) ∧ Below W.heap.size W w') := fun W h => by rw [← hP]; exact rsets_any q QA cq a b A B ca cb W hl (hq.below h) (ha.below h) (hb.below h) (ht.below h)
  have hV : Hid (∀ W, Below w.heap.size w W → Calls Tryz.prog 22 #[.slice QA q.length cq, .slice A a.length ca, .slice B b.length cb] W fun e w' => ∃ (L : List Itm) (C : Option Addr) (k : Nat), e = .returned (.tuple #[.slice C L.length k, .int .i64 P]) ∧ L.map Itm.z = evlF q (a.map Itm.z) (b.map Itm.z) ∧ Lv w' C k L ∧ Below W.heap.size W w') := fun W h => by rw [← hP]; exact eval_any q QA cq a b A B ca cb W hl (hq.below h) (ha.below h) (hb.below h)
  have hPH : Hid (plnE q (a.map Itm.z) (b.map Itm.z) = P) := hP
  clear hP hq ha hb ht hl
  have c1 := hA.out w (Below.refl _ _)
  have c1H : Hid _ := c1
  clear c1
  go_enter Tryz.func4, Tryz.ntmps4
  go_wp2_with fail
  refine Calls.mono (show Calls _ _ _ _ _ from c1H.out) ?_
  rintro e w1 ⟨ss, C, k, rfl, s1, b1⟩
  have h1 : Hid (Sts w1 C ss (plnF q (a.map Itm.z) (b.map Itm.z)) ∧ Below w.heap.size w w1) := ⟨s1, b1⟩
  clear c1H s1 b1
  have c2 := hR.out w1 h1.out.2
  have c2H : Hid _ := c2
  clear c2
  go_wp2_with fail
  refine Calls.mono (show Calls _ _ _ _ _ from c2H.out) ?_
  rintro e w2 ⟨tt, D, kd, rfl, s2, b2⟩
  have h2 : Hid (Sts w2 C ss (plnF q (a.map Itm.z) (b.map Itm.z)) ∧ Sts w2 D tt (plnF q (a.map Itm.z) (b.map Itm.z)) ∧ Below w.heap.size w w2) := ⟨h1.out.1.below b2, s2, h1.out.2.trans (b2.mono h1.out.2.size)⟩
  clear c2H s2 b2 h1
  have c3 := hV.out w2 h2.out.2.2
  have c3H : Hid _ := c3
  clear c3
  go_wp2_with fail
  refine Calls.mono (show Calls _ _ _ _ _ from c3H.out) ?_
  rintro e w3 ⟨L, F, kf, rfl, z3, l3, b3⟩
  have h3 : Hid (Sts w3 C ss (plnF q (a.map Itm.z) (b.map Itm.z)) ∧ Sts w3 D tt (plnF q (a.map Itm.z) (b.map Itm.z)) ∧ Below w.heap.size w w3 ∧ L.map Itm.z = evlF q (a.map Itm.z) (b.map Itm.z) ∧ Lv w3 F kf L) := ⟨h2.out.1.below b3, h2.out.2.1.below b3, h2.out.2.2.trans (b3.mono h2.out.2.2.size), z3, l3⟩
  clear c3H z3 l3 b3 h2
  have hEq : Hid (∀ W, Gr w3 W → Calls Tryz.prog 23 #[.slice C ss.length k, .slice D tt.length kd, .func (.func 19) #[] #[]] W fun e w' => e = .returned (.bool true) ∧ Gr W w') := fun W h => eqsets_any ss tt _ C D k kd W h3.out.1.len8.1 (h3.out.1.gr h) (h3.out.2.1.gr h)
  have hl8 := h3.out.2.1.len8
  rw [hPH.out] at hl8
  by_cases hp : P = 0
  · have hp2 : (P == 0) = true := beq_iff_eq.2 hp
    have hpp : (P == P) = true := beq_iff_eq.2 rfl
    obtain ⟨hpos, hlq⟩ := hl8.2.1 hp
    have hposz : (0 : Int) < (tt.length : Int) := by omega
    have ht8 := hl8.1
    obtain ⟨bb, off, rfl, hbb, hcs⟩ := h3.out.2.1.row.at (m := tt.length - 1) (by omega)
    obtain ⟨y, hy⟩ : ∃ y, tt[tt.length - 1]'(by omega) = y := ⟨_, rfl⟩
    have e0 : w3.cell? ⟨bb, off + (tt.length - 1), none⟩ = some (.slice y.A y.l.length y.cap) := by
      have := hcs (tt.length - 1) (by omega) 0 (by omega)
      rw [hy] at this
      simpa [encS] using this
    have hz : L.map Itm.z = y.l.map Itm.z := by rw [h3.out.2.2.2.1, ← hy, h3.out.2.1.nth (by omega)]; unfold evlF; rw [hlq]
    have hSm : Hid (∀ W, Gr w3 W → Calls Tryz.prog 19 #[.slice F L.length kf, .slice y.A y.l.length y.cap] W fun e w' => e = .returned (.bool true) ∧ Gr W w') := fun W h => sameV (h3.out.2.2.2.2.gr h) ((h3.out.2.1.each y (by rw [← hy]; exact List.getElem_mem _)).gr h) hz
    clear hcs hy hz hl8 hlq hp
    go_wp2_with (first | (go_at_call 23; refine Calls.mono (hEq.out w3 (Gr.refl _)) ?_; rintro e w4 ⟨rfl, hg4⟩) | (go_at_call 19; refine Calls.mono (hSm.out w4 hg4) ?_; rintro e w5 ⟨rfl, hg5⟩) | fail)
    go_ret
    exact ⟨rfl, h3.out.2.2.1.trans ((hg4.trans hg5).below.mono h3.out.2.2.1.size)⟩
  · have hp2 : (P == 0) = false := beq_eq_false_iff_ne.2 hp
    have hpp : (P == P) = true := beq_iff_eq.2 rfl
    have hz : L.map Itm.z = ([] : List Itm).map Itm.z := by rw [h3.out.2.2.2.1]; unfold evlF plnF; rw [if_neg (by rw [hPH.out]; exact hp)]; rfl
    have hSm : Hid (∀ W, Gr w3 W → Calls Tryz.prog 19 #[.slice F L.length kf, .slice none ([] : List Itm).length 0] W fun e w' => e = .returned (.bool true) ∧ Gr W w') := fun W h => sameV (h3.out.2.2.2.2.gr h) ⟨⟨Or.inl rfl, fun x hx => (by cases hx)⟩, NilC.mk (fun _ => rfl) (Nat.le_refl _), by simp⟩ hz
    clear hz hl8 hp
    go_wp2_with (first | (go_at_call 23; refine Calls.mono (hEq.out w3 (Gr.refl _)) ?_; rintro e w4 ⟨rfl, hg4⟩) | (go_at_call 19; refine Calls.mono (hSm.out w4 hg4) ?_; rintro e w5 ⟨rfl, hg5⟩) | fail)
    go_ret
    exact ⟨rfl, h3.out.2.2.1.trans ((hg4.trans hg5).below.mono h3.out.2.2.1.size)⟩
end Go.Proofs.YtnkpfhipgcmplaaGreatDoor

namespace Go.Proofs.YtnkpfhipgcmplaaGreatDoor
open Go.ChangeShapes Go.WideShapes Go.ChangeAt Go.RowKit Go.Deep

variable {H : Type} {enc : TypeId × Value → H} {W : World}

theorem list7 {cs : List Value} (h : cs.length = 7) : ∃ a b c d e f g, cs = [a, b, c, d, e, f, g] := by
  match cs, h with
  | [a, b, c, d, e, f, g], _ => exact ⟨a, b, c, d, e, f, g, rfl⟩

set_option maxRecDepth 100000 in
theorem open_step {fuel : Nat} {cs : List Value} {x : DataW H × List MemPlace} (hl : cs.length = 7) (h : DataW.trod enc Tryz.prog W 0 (fun _ => true) true fuel 88 cs = some x) : ∃ y : Stp, cs = encQ y ∧ RowI W y.p y.l ∧ y.l.length ≤ maxLen ∧ (y.p = none → y.n = 0) := by
  obtain ⟨v0, v1, v2, v3, v4, v5, v6, rfl⟩ := list7 hl
  obtain ⟨xs, n, _, _, _, hxl, hf⟩ := DataW.trod_struct Tryz.underlying88 h
  have c1 : Tryz.prog.cellsOf 3 = 1 := by kernel_rfl
  have c2 : Tryz.prog.cellsOf 30 = 1 := by kernel_rfl
  have hx7 : xs.length = 7 := hxl
  match xs, hx7 with
  | [y0, y1, y2, y3, y4, y5, y6], _ =>
    have g0 := hf 0 _ rfl
    have g1 := hf 1 _ rfl
    have g2 := hf 2 _ rfl
    have g3 := hf 3 _ rfl
    have g4 := hf 4 _ rfl
    have g5 := hf 5 _ rfl
    have g6 := hf 6 _ rfl
    simp [c1, c2] at g0 g1 g2 g3 g4 g5 g6
    obtain ⟨z0, e0, _⟩ := DataW.trod_int Tryz.underlying3 g0
    obtain ⟨z1, e1, _⟩ := DataW.trod_int Tryz.underlying3 g1
    obtain ⟨z2, e2, _⟩ := DataW.trod_int Tryz.underlying3 g2
    obtain ⟨z3, e3, _⟩ := DataW.trod_int Tryz.underlying3 g3
    obtain ⟨z4, e4, _⟩ := DataW.trod_int Tryz.underlying3 g4
    obtain ⟨z5, e5, _⟩ := DataW.trod_int Tryz.underlying3 g5
    obtain ⟨A, cap, l, e6, hA, hr, hm⟩ := open_row g6
    simp only [List.cons.injEq, and_true] at e0 e1 e2 e3 e4 e5 e6
    exact ⟨⟨z0, z1, z2, z3, z4, z5, A, cap, l⟩, by rw [e0, e1, e2, e3, e4, e5, e6]; rfl, hr, hm, hA⟩

set_option maxRecDepth 100000 in
theorem open_steps {r : Reach} {b0 : Nat} {v : Value} {d : DataW H} {p : List MemPlace} (hv : Value.okWide Tryz.prog W r b0 43 v) (h : DataW.Trod enc Tryz.prog W 0 (fun _ => true) true 43 v d p) :
    ∃ A cap l, v = .slice A (l : List Stp).length cap ∧ (A = none → cap = 0) ∧ Stps W A l ∧ l.length ≤ maxLen := by
  obtain ⟨aL, lenL, capL, rfl⟩ := okWide_slice Tryz.underlying43 hv
  obtain ⟨fuel, hf⟩ := h
  rcases open_slice Tryz.underlying43 hf with ⟨hcs, _⟩ | ⟨a, len, cap, m, n, D, Pl, hcs, _, hl, hm, hmm, hx, hi⟩
  · simp [Value.cells] at hcs
    obtain ⟨rfl, rfl, rfl⟩ := hcs
    exact ⟨none, 0, [], rfl, by simp, ⟨Or.inl rfl, fun x hx => by cases hx⟩, by simp⟩
  · simp [Value.cells] at hcs
    obtain ⟨rfl, rfl, rfl⟩ := hcs
    have c2 : Tryz.prog.cellsOf 88 = 7 := by kernel_rfl
    have hlm : lenL ≤ m := by rw [hmm]; simp; exact hl
    haveI : Inhabited Stp := ⟨⟨0, 0, 0, 0, 0, 0, none, 0, []⟩⟩
    obtain ⟨Z, hZ⟩ := choose_lt (α := Stp) (n := lenL) (p := fun i z => (∀ j, j < 7 → W.cell? (a.add (i * 7 + j)) = (encQ z)[j]?) ∧ RowI W z.p z.l ∧ z.l.length ≤ maxLen ∧ (z.p = none → z.n = 0)) (fun i hi' => by
      obtain ⟨cs', h1, h2⟩ := hi i (by omega)
      rw [c2] at h1
      obtain ⟨_, hlen, hcell⟩ := World.cells?_some h1
      obtain ⟨y, hy, hy2⟩ := open_step hlen h2
      refine ⟨y, fun j hj => ?_, hy2⟩
      have := hcell j (by omega)
      rw [add_add] at this
      rw [this, ← hy, List.getElem?_eq_getElem (by omega)])
    refine ⟨some a, capL, (List.range lenL).map Z, by simp, (fun h => by cases h), ⟨?_, fun x hx => ?_⟩, by simp; omega⟩
    · by_cases h0 : lenL = 0
      · exact Or.inl (by rw [h0]; rfl)
      · have hc0 := (hZ 0 (by omega)).1 0 (by omega)
        obtain ⟨b, off, spot⟩ := a
        have hc1 : W.cell? (Addr.add ⟨b, off, spot⟩ (0 * 7 + 0)) = some (.int .i64 (Z 0).k) := hc0
        have hspot : spot = none := by simpa [Addr.add] using World.cell?_spot hc1
        subst hspot
        refine Or.inr ⟨b, off, rfl, ?_, fun j hj i hi5 => ?_⟩
        · have := World.block_lt_of_cell? W _ hc1
          simpa [Addr.add_lit] using this
        · have hj' : j < lenL := by simpa using hj
          have := (hZ j hj').1 i hi5
          simp only [Addr.add_lit, ← Nat.add_assoc] at this
          simpa using this
    · obtain ⟨i, hi', rfl⟩ := List.mem_map.1 hx
      exact (hZ i (by simpa using hi')).2

end Go.Proofs.YtnkpfhipgcmplaaGreatDoor
