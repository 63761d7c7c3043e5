/-
  viewkeep.edited: a table, behind some edits of two nodes.
-/
import Derived.Test.YtjgefnipkaecgacTMerge
import Derived.Test.YtjgefnipkaecgacTPut
import Derived.Test.YtjgefnipkaecgacCanon
namespace Go.Proofs.Ytjgefnipkaecgac
open Go.RowKit Go.Sort

/-- One edit more (an edit is five numbers, as a cell is: kind and table, key, column, value). -/
def editE (t : Tab) (i : Nat) (x : Cel) : Int := if x.1.1 = 1 then putE t ((i : Int) % 2) x.2.1 x.2.2.1 x.2.2.2 else delE t x.2.1
def editD (t : Tab) (i : Nat) (x : Cel) : Tab := if x.1.1 = 1 then putT t ((i : Int) % 2) x.2.1 x.2.2.1 x.2.2.2 else ⟨delC t x.2.1, []⟩
def editT (t : Tab) (i : Nat) (x : Cel) : Tab := if editE t i x = 0 ∧ mergeE t (editD t i x) = 0 then mergeT t (editD t i x) else t
/-- A table behind the first k edits. -/
def editedTo (l : List Cel) : Nat → Tab
  | 0 => ⟨zeroC, []⟩
  | k + 1 => editT (editedTo l k) k (l.getD k ((0, 0), 0, 0, 0))

/-- What edited holds: the table, and what it will tell. -/
structure EdAt (w W : World) (t : Tab) (A : Option Addr) (ca : Nat) (D : Option Addr) (cd : Nat) : Prop where
  tab : TabAt W (w.heap.size + 1) t A ca D cd
  fz : ∀ j, W.frozen? ⟨w.heap.size + 1, j, none⟩ = false
  res : ZTab W w.heap.size
  len : t.c.l.length ≤ maxLen ∧ t.e.length ≤ maxLen
  nA : A = none → ca = 0
  nD : D = none → cd = 0
  nb : (∀ x, A = some x → x.block ≠ w.heap.size) ∧ (∀ x, D = some x → x.block ≠ w.heap.size)
  hw : Below w.heap.size w W
theorem EdAt.below {w W W' : World} {t : Tab} {A : Option Addr} {ca : Nat} {D : Option Addr} {cd : Nat} (h : EdAt w W t A ca D cd) (k : Below W.heap.size W W') : EdAt w W' t A ca D cd :=
  ⟨h.tab.below k, fun j => (k.frozen (p := ⟨w.heap.size + 1, j, none⟩) h.tab.lt).trans (h.fz j), h.res.below k, h.len, h.nA, h.nD, h.nb, h.hw.trans (k.mono h.hw.size)⟩
theorem EdAt.gr {w W W' : World} {t : Tab} {A : Option Addr} {ca : Nat} {D : Option Addr} {cd : Nat} (h : EdAt w W t A ca D cd) (k : Gr W W') : EdAt w W' t A ca D cd := h.below k.below

theorem Six.oth {w : World} {B : Nat} {u0 u1 u2 u3 u4 u5 : Value} (h : Six w B u0 u1 u2 u3 u4 u5) {B' j : Nat} (u : Value) (hB : B ≠ B') : Six (w.setCell ⟨B', j, none⟩ u) B u0 u1 u2 u3 u4 u5 := by
  have ho : ∀ i, (w.setCell ⟨B', j, none⟩ u).cell? ⟨B, i, none⟩ = w.cell? ⟨B, i, none⟩ := fun i => World.cell?_setCell_other _ _ _ _ (by intro e; injection e with e1; exact hB e1.symm)
  exact ⟨(ho 0).trans h.k0, (ho 1).trans h.k1, (ho 2).trans h.k2, (ho 3).trans h.k3, (ho 4).trans h.k4, (ho 5).trans h.k5, fun i => by simp only [World.frozen?_setCell]; exact h.fz i, by simpa [World.setCell] using h.lt⟩
theorem RowG.set0 {α : Type} {enc : α → List Value} {k : Nat} {w : World} {A : Option Addr} {l : List α} (h : RowG enc k w A l) {B m : Nat} (u : Value) (hA : ∀ x, A = some x → l ≠ [] → x.block ≠ B) : RowG enc k (w.setCell ⟨B, m, none⟩ u) A l := by
  by_cases h0 : l = []
  · exact Or.inl h0
  · exact h.setCell u fun x hx => hA x hx h0
theorem TabAt.oth {w : World} {B : Nat} {t : Tab} {A : Option Addr} {ca : Nat} {D : Option Addr} {cd : Nat} (h : TabAt w B t A ca D cd) {B' j : Nat} (u : Value) (hB : B ≠ B') (hA : ∀ x, A = some x → t.c.l ≠ [] → x.block ≠ B') (hD : ∀ x, D = some x → t.e ≠ [] → x.block ≠ B') : TabAt (w.setCell ⟨B', j, none⟩ u) B t A ca D cd := by
  have ho : ∀ i, (w.setCell ⟨B', j, none⟩ u).cell? ⟨B, i, none⟩ = w.cell? ⟨B, i, none⟩ := fun i => World.cell?_setCell_other _ _ _ _ (by intro e; injection e with e1; exact hB e1.symm)
  exact ⟨(ho 0).trans h.k0, (ho 1).trans h.k1, (ho 2).trans h.k2, (ho 3).trans h.k3, (ho 4).trans h.k4, (ho 5).trans h.k5, by simpa [World.setCell] using h.lt, h.row.setCell0 _ hA, h.rowC.set0 _ hD⟩
theorem EdAt.oth {w W : World} {t : Tab} {A : Option Addr} {ca : Nat} {D : Option Addr} {cd : Nat} (h : EdAt w W t A ca D cd) {B j : Nat} (u : Value) (hB : w.heap.size + 1 < B) (hA : ∀ x, A = some x → t.c.l ≠ [] → x.block < B) (hD : ∀ x, D = some x → t.e ≠ [] → x.block < B) : EdAt w (W.setCell ⟨B, j, none⟩ u) t A ca D cd :=
  ⟨h.tab.oth u (by omega) (fun x hx h0 => Nat.ne_of_lt (hA x hx h0)) (fun x hx h0 => Nat.ne_of_lt (hD x hx h0)), fun i => by simp only [World.frozen?_setCell]; exact h.fz i, h.res.oth u (by omega), h.len, h.nA, h.nD, h.nb, h.hw.setCell (show w.heap.size ≤ B by omega) u⟩
theorem joinC_lenK (a b : Ctx) : (joinC a b).l.length ≤ maxLen := by
  by_cases h : joinE a b = 0
  · rw [(joinE_ok h).2.2.2.1]
    exact Nat.le_trans (joinE_ok h).2.2.2.2 (by decide)
  · have : joinC a b = zeroC := by simp [joinC, h]
    rw [this]; decide
theorem mergeE_parts {a b : Tab} (h : mergeE a b = 0) : errT a = 0 ∧ errT b = 0 ∧ clashB a b = false ∧ joinE a.c b.c = 0 ∧ (mrg a b).length ≤ 400 := by
  unfold mergeE at h
  by_cases h1 : errT a = 0
  · by_cases h2 : errT b = 0
    · cases h3 : clashB a b
      · by_cases h5 : joinE a.c b.c = 0
        · by_cases h6 : 400 < (mrg a b).length
          · simp [h1, h2, h3, h5, h6] at h
          · exact ⟨h1, h2, rfl, h5, by omega⟩
        · simp [h1, h2, h3, h5] at h
      · simp [h1, h2, h3] at h
    · simp [h1, h2] at h
  · simp [h1] at h
theorem mergeT_lenK (a b : Tab) : (mergeT a b).c.l.length ≤ maxLen ∧ (mergeT a b).e.length ≤ maxLen := by
  unfold mergeT
  by_cases h : mergeE a b = 0
  · rw [if_pos h]
    exact ⟨joinC_lenK _ _, Nat.le_trans (mergeE_parts h).2.2.2.2 (by decide)⟩
  · rw [if_neg h]
    exact ⟨by decide, by decide⟩
theorem putT_lenK (t : Tab) (n key col v : Int) : (putT t n key col v).c.l.length ≤ maxLen ∧ (putT t n key col v).e.length ≤ maxLen := by
  unfold putT
  by_cases h : putE t n key col v = 0
  · rw [if_pos h]
    exact ⟨joinC_lenK _ _, show 1 ≤ maxLen by decide⟩
  · rw [if_neg h]
    exact ⟨by decide, by decide⟩
theorem delC_lenK (t : Tab) (key : Int) : (delC t key).l.length ≤ maxLen := by
  unfold delC
  by_cases h : delE t key = 0
  · rw [if_pos h]
    have h1 : errT t = 0 := by
      by_cases h1 : errT t = 0
      · exact h1
      · unfold delE at h
        rw [if_pos h1] at h
        exact absurd h h1
    exact makeC_len _ (Nat.le_trans (dotsOf_len _ _) (errT_parts h1).2.1)
  · rw [if_neg h]; decide

set_option maxRecDepth 100000 in
set_option maxHeartbeats 4000000 in
theorem edited_any (l : List Cel) (L : Option Addr) (cl : Nat) (w : World) (hl : l.length ≤ maxLen) (hcl : l.length ≤ cl) (hr : RowC w L l) :
    Calls Try.prog 18 #[.slice L l.length cl] w fun e w' => ∃ A ca D cd, e = .returned (.agg #[.int .i64 (editedTo l (min 60 l.length)).c.c0, .int .i64 (editedTo l (min 60 l.length)).c.c1, .int .i64 (editedTo l (min 60 l.length)).c.c2, .int .i64 (editedTo l (min 60 l.length)).c.c3, .slice A (editedTo l (min 60 l.length)).c.l.length ca, .slice D (editedTo l (min 60 l.length)).e.length cd]) ∧ Row w' A (editedTo l (min 60 l.length)).c.l ∧ RowC w' D (editedTo l (min 60 l.length)).e ∧ (A = none → ca = 0) ∧ (D = none → cd = 0) ∧ Below w.heap.size w w' := by
  unfold maxLen at hl
  obtain ⟨n, hn⟩ : ∃ n, min 60 l.length = n := ⟨_, rfl⟩
  have hn6 : n ≤ 60 := by omega
  have hnl : n ≤ l.length := by omega
  have hnz : min (60 : Int) (l.length : Int) = (n : Int) := by omega
  rw [hn]
  have hnc : (n : Int) ≤ (cl : Int) := by omega
  have hE0 : EdAt w ((w.alloc (.cells #[.int .i64 0, .int .i64 0, .int .i64 0, .int .i64 0, .slice none 0 0, .slice none 0 0] 28)).alloc (.cells #[.int .i64 0, .int .i64 0, .int .i64 0, .int .i64 0, .slice none 0 0, .slice none 0 0] 28)) ⟨zeroC, []⟩ none 0 none 0 :=
    ⟨TabAt.new (t := ⟨zeroC, []⟩) 28 (Or.inl rfl) (Or.inl rfl) (by simp), (Six.new (w.alloc (.cells #[.int .i64 0, .int .i64 0, .int .i64 0, .int .i64 0, .slice none 0 0, .slice none 0 0] 28)) (.int .i64 0) (.int .i64 0) (.int .i64 0) (.int .i64 0) (.slice none 0 0) (.slice none 0 0) 28 (B := w.heap.size + 1) (by simp)).fz, (Six.new _ _ _ _ _ _ _ 28 rfl).gr ((Gr.refl _).alloc _), ⟨by decide, by decide⟩, fun _ => rfl, fun _ => rfl, ⟨(fun x hx => by cases hx), (fun x hx => by cases hx)⟩, (((Gr.refl w).alloc _).alloc _).below⟩
  have hR0 : True := trivial
  go_enter Try.func18, Try.ntmps18
  go_wp2
  generalize (w.alloc (.cells #[.int .i64 0, .int .i64 0, .int .i64 0, .int .i64 0, .slice none 0 0, .slice none 0 0] 28)).alloc (.cells #[.int .i64 0, .int .i64 0, .int .i64 0, .int .i64 0, .slice none 0 0, .slice none 0 0] 28) = w0 at hE0 hR0 ⊢
  go_loopw [16] (fun i wr => ∃ (k : Nat) (A : Option Addr) (ca : Nat) (D : Option Addr) (cd : Nat), k ≤ n ∧ i = .int .i64 k ∧ EdAt w wr (editedTo l k) A ca D cd) (fun i _ => n - (intOf i).toNat)
  case atStart => exact ⟨0, none, 0, none, 0, Nat.zero_le _, rfl, hE0⟩
  case round =>
    obtain ⟨k, A, ca, D, cd, hk, rfl, hE⟩ := hrel
    have hlen := hE.len
    obtain ⟨t, ht⟩ : ∃ t, editedTo l k = t := ⟨_, rfl⟩
    rw [ht] at hE hlen
    by_cases hlt : k < n
    · have hltz : (k : Int) < (n : Int) := by omega
      have hkl : k < l.length := by omega
      obtain ⟨bb, off, rfl, hbb, hcs⟩ := RowC.get (hr.below hE.hw) hkl
      obtain ⟨x, hx⟩ : ∃ x, l[k] = x := ⟨_, rfl⟩
      obtain ⟨e0, e1, e2, e3, e4⟩ := hcs k hkl
      rw [hx] at e0 e1 e2 e3 e4
      have hst : Hid (editedTo l (k + 1) = editT t k x) := by
        show editT (editedTo l k) k (l.getD k ((0, 0), 0, 0, 0)) = _
        rw [ht]
        have : l.getD k ((0, 0), 0, 0, 0) = x := by simp [hkl, hx]
        rw [this]
      clear hcs hx ht
      have hgX : Gr wr (wr.alloc (.cells #[.int .i64 x.1.1, .int .i64 x.1.2, .int .i64 x.2.1, .int .i64 x.2.2.1, .int .i64 x.2.2.2] 50)) := (Gr.refl _).alloc _
      have hxA := CelAt.new (w := wr) x 50 rfl
      have hEX := hE.gr hgX
      obtain ⟨t0, t1, t2, t3, t4, t5, tlt, trow, trowC⟩ := (show TabAt _ _ _ _ _ _ _ from hEX.tab)
      obtain ⟨x0, x1, x2, x3, x4, xlt⟩ := (show CelAt _ _ _ from hxA)
      have hde := del_any t A ca D cd x.2.1 _ hlen.1 hlen.2 trow trowC
      have hdeH : Hid _ := hde
      clear hde
      go_wp2_with fail
      refine Calls.mono (show Calls _ _ _ _ _ from hdeH.out) ?_
      rintro e w1 ⟨C1, p1, rfl, hr1, hC1, hCb1, hb1⟩
      clear hdeH t0 t1 t2 t3 t4 t5 tlt trow trowC x0 x1 x2 x3 x4 e0 e1 e2 e3 e4
      have hdcl0 := delC_lenK t x.2.1
      obtain ⟨dc, hdc0⟩ : ∃ dc, delC t x.2.1 = dc := ⟨_, rfl⟩
      obtain ⟨ec, hec0⟩ : ∃ ec, delE t x.2.1 = ec := ⟨_, rfl⟩
      rw [hdc0] at hr1 hdcl0 ⊢
      rw [hec0]
      have hdc : Hid (delC t x.2.1 = dc ∧ delE t x.2.1 = ec) := ⟨hdc0, hec0⟩
      have hdcl : Hid (dc.l.length ≤ maxLen) := hdcl0
      clear hdc0 hec0 hdcl0
      have hEW := hEX.below hb1
      have hEnew : Hid ((∀ x, A = some x → t.c.l ≠ [] → x.block < w1.heap.size) ∧ (∀ x, D = some x → t.e ≠ [] → x.block < w1.heap.size)) := ⟨hEW.tab.row.lt, hEW.tab.rowC.lt⟩
      have hgD : Gr w1 (w1.alloc (.cells #[.int .i64 dc.c0, .int .i64 dc.c1, .int .i64 dc.c2, .int .i64 dc.c3, .slice C1 dc.l.length p1, .slice none 0 0] 28)) := (Gr.refl _).alloc _
      have hE1 := hEW.gr hgD
      have hx1 := (hxA.below hb1).gr hgD
      have hd1 : TabAt (w1.alloc (.cells #[.int .i64 dc.c0, .int .i64 dc.c1, .int .i64 dc.c2, .int .i64 dc.c3, .slice C1 dc.l.length p1, .slice none 0 0] 28)) w1.heap.size ⟨dc, []⟩ C1 p1 none 0 := TabAt.new (t := ⟨dc, []⟩) 28 hr1 (Or.inl rfl) rfl
      have hs1 : Six (w1.alloc (.cells #[.int .i64 dc.c0, .int .i64 dc.c1, .int .i64 dc.c2, .int .i64 dc.c3, .slice C1 dc.l.length p1, .slice none 0 0] 28)) w1.heap.size (.int .i64 dc.c0) (.int .i64 dc.c1) (.int .i64 dc.c2) (.int .i64 dc.c3) (.slice C1 dc.l.length p1) (.slice none 0 0) := Six.new _ _ _ _ _ _ _ 28 rfl
      have hw1lt : w.heap.size + 1 < w1.heap.size := hEW.tab.lt
      clear hgD hEW hEX hE hr1 hgX hxA
      go_upto_region 6 with fail
      generalize w1.alloc (.cells #[.int .i64 dc.c0, .int .i64 dc.c1, .int .i64 dc.c2, .int .i64 dc.c3, .slice C1 dc.l.length p1, .slice none 0 0] 28) = V1 at hE1 hx1 hd1 hs1 ⊢
      obtain ⟨x0, x1, x2, x3, x4, xlt1⟩ := (show CelAt _ _ _ from hx1)
      by_cases hk1 : x.1.1 = 1
      · have hk1b : (x.1.1 == 1) = true := by simpa using hk1
        have hdD0 : Hid (editE t k x = putE t ((k : Int) % 2) x.2.1 x.2.2.1 x.2.2.2 ∧ editD t k x = putT t ((k : Int) % 2) x.2.1 x.2.2.1 x.2.2.2) := ⟨by unfold editE; rw [if_pos hk1], by unfold editD; rw [if_pos hk1]⟩
        clear hk1
        obtain ⟨t0, t1, t2, t3, t4, t5, tlt, trow, trowC⟩ := (show TabAt _ _ _ _ _ _ _ from hE1.tab)
        have hpu := put_new t A ca D cd ((k : Int) % 2) x.2.1 x.2.2.1 x.2.2.2 V1 hlen.1 hlen.2 trow trowC
        have hpuH : Hid _ := hpu
        clear hpu trow trowC tlt
        go_wp2_with fail
        refine Calls.mono (show Calls _ _ _ _ _ from hpuH.out) ?_
        rintro e w2 ⟨C2, p2, D2, q2, rfl, hr2, hd2, hC2, hD2, hCn2, hDn2, hb2⟩
        clear hpuH t0 t1 t2 t3 t4 t5 x0 x1 x2 x3 x4
        have hpl := putT_lenK t ((k : Int) % 2) x.2.1 x.2.2.1 x.2.2.2
        obtain ⟨dT, hdT⟩ : ∃ dT, putT t ((k : Int) % 2) x.2.1 x.2.2.1 x.2.2.2 = dT := ⟨_, rfl⟩
        obtain ⟨eD, heD⟩ : ∃ eD, putE t ((k : Int) % 2) x.2.1 x.2.2.1 x.2.2.2 = eD := ⟨_, rfl⟩
        rw [hdT] at hr2 hd2 hpl hdD0 ⊢
        rw [heD] at hdD0 ⊢
        have hdD : Hid (editD t k x = dT ∧ editE t k x = eD) := ⟨hdD0.out.2, hdD0.out.1⟩
        have hdl : Hid (dT.c.l.length ≤ maxLen ∧ dT.e.length ≤ maxLen) := hpl
        clear hdT heD hdD0 hpl
        have hE2 := hE1.below hb2
        have hs2 := hs1.below hb2
        have hs1lt := hs1.lt
        obtain ⟨z0, z1, z2, z3, z4, z5, zf, zlt⟩ := (show Six _ _ _ _ _ _ _ _ from hs2)
        have hV : Hid (EdAt w ((((((w2.setCell ⟨w1.heap.size, 0, none⟩ (.int .i64 dT.c.c0)).setCell ⟨w1.heap.size, 1, none⟩ (.int .i64 dT.c.c1)).setCell ⟨w1.heap.size, 2, none⟩ (.int .i64 dT.c.c2)).setCell ⟨w1.heap.size, 3, none⟩ (.int .i64 dT.c.c3)).setCell ⟨w1.heap.size, 4, none⟩ (.slice C2 dT.c.l.length p2)).setCell ⟨w1.heap.size, 5, none⟩ (.slice D2 dT.e.length q2)) t A ca D cd ∧ TabAt ((((((w2.setCell ⟨w1.heap.size, 0, none⟩ (.int .i64 dT.c.c0)).setCell ⟨w1.heap.size, 1, none⟩ (.int .i64 dT.c.c1)).setCell ⟨w1.heap.size, 2, none⟩ (.int .i64 dT.c.c2)).setCell ⟨w1.heap.size, 3, none⟩ (.int .i64 dT.c.c3)).setCell ⟨w1.heap.size, 4, none⟩ (.slice C2 dT.c.l.length p2)).setCell ⟨w1.heap.size, 5, none⟩ (.slice D2 dT.e.length q2)) w1.heap.size dT C2 p2 D2 q2) := by
          have h1 : ∀ x, C2 = some x → x.block ≠ w1.heap.size := fun x hx => by have := hCn2 x hx; omega
          have h2 : ∀ x, D2 = some x → x.block ≠ w1.heap.size := fun x hx => by have := hDn2 x hx; omega
          obtain ⟨s0, s1, s2, s3, s4, s5, sf, slt⟩ := hs2.set (.int .i64 dT.c.c0) (.int .i64 dT.c.c1) (.int .i64 dT.c.c2) (.int .i64 dT.c.c3) (.slice C2 dT.c.l.length p2) (.slice D2 dT.e.length q2)
          refine ⟨?_, ⟨s0, s1, s2, s3, s4, s5, slt, ?_, ?_⟩⟩
          · exact (((((hE2.oth _ hw1lt hEnew.out.1 hEnew.out.2).oth _ hw1lt hEnew.out.1 hEnew.out.2).oth _ hw1lt hEnew.out.1 hEnew.out.2).oth _ hw1lt hEnew.out.1 hEnew.out.2).oth _ hw1lt hEnew.out.1 hEnew.out.2).oth _ hw1lt hEnew.out.1 hEnew.out.2
          · exact (((((hr2.setCell _ h1).setCell _ h1).setCell _ h1).setCell _ h1).setCell _ h1).setCell _ h1
          · exact (((((hd2.setCell _ h2).setCell _ h2).setCell _ h2).setCell _ h2).setCell _ h2).setCell _ h2
        have hCd : Hid (C2 = none → p2 = 0) := hC2
        clear hE2 hs2 hr2 hd2 hCn2 hDn2 hb2 hE1 hd1 hs1 hx1 hC2 hD2
        go_upto_region 8 with fail
        have hEV := hV.out.1
        have hdV := hV.out.2
        clear hV z0 z1 z2 z3 z4 z5 zf zlt
        generalize ((((((w2.setCell ⟨w1.heap.size, 0, none⟩ (.int .i64 dT.c.c0)).setCell ⟨w1.heap.size, 1, none⟩ (.int .i64 dT.c.c1)).setCell ⟨w1.heap.size, 2, none⟩ (.int .i64 dT.c.c2)).setCell ⟨w1.heap.size, 3, none⟩ (.int .i64 dT.c.c3)).setCell ⟨w1.heap.size, 4, none⟩ (.slice C2 dT.c.l.length p2)).setCell ⟨w1.heap.size, 5, none⟩ (.slice D2 dT.e.length q2)) = V at hEV hdV ⊢
        -- what follows: V, dT in block Bd, its error eD
        by_cases he0 : eD = 0
        · subst he0
          obtain ⟨t0, t1, t2, t3, t4, t5, tlt, trow, trowC⟩ := (show TabAt _ _ _ _ _ _ _ from hEV.tab)
          obtain ⟨d0, d1, d2, d3, d4, d5, dlt, drow, drowC⟩ := (show TabAt _ _ _ _ _ _ _ from hdV)
          have hmg := merge_new t dT A C2 D D2 ca p2 cd q2 V hlen.1 hdl.out.1 hlen.2 hdl.out.2 hEV.nA hCd.out trow drow trowC drowC
          have hmgH : Hid _ := hmg
          clear hmg trow drow trowC drowC tlt dlt
          go_wp2_with fail
          refine Calls.mono (show Calls _ _ _ _ _ from hmgH.out) ?_
          rintro e w4 ⟨C4, p4, D4, q4, rfl, hr4, hd4, hC4, hD4, hCn4, hDn4, hb4⟩
          clear hmgH t0 t1 t2 t3 t4 t5 d0 d1 d2 d3 d4 d5
          have hml := mergeT_lenK t dT
          obtain ⟨y, hy⟩ : ∃ y, mergeT t dT = y := ⟨_, rfl⟩
          obtain ⟨ey, hey⟩ : ∃ ey, mergeE t dT = ey := ⟨_, rfl⟩
          rw [hy] at hr4 hd4 hml ⊢
          rw [hey]
          have hyH : Hid (mergeT t dT = y ∧ mergeE t dT = ey) := ⟨hy, hey⟩
          have hgY : Gr w4 (w4.alloc (.cells #[.int .i64 y.c.c0, .int .i64 y.c.c1, .int .i64 y.c.c2, .int .i64 y.c.c3, .slice C4 y.c.l.length p4, .slice D4 y.e.length q4] 28)) := (Gr.refl _).alloc _
          have hE5 := (hEV.below hb4).gr hgY
          have hy5 : TabAt (w4.alloc (.cells #[.int .i64 y.c.c0, .int .i64 y.c.c1, .int .i64 y.c.c2, .int .i64 y.c.c3, .slice C4 y.c.l.length p4, .slice D4 y.e.length q4] 28)) w4.heap.size y C4 p4 D4 q4 := TabAt.new 28 hr4 hd4 rfl
          have hVlt := hEV.tab.lt
          have hCnH : Hid ((∀ x, C4 = some x → x.block ≠ w.heap.size + 1) ∧ (∀ x, D4 = some x → x.block ≠ w.heap.size + 1)) := ⟨fun x hx => by have := hCn4 x hx; omega, fun x hx => by have := hDn4 x hx; omega⟩
          have hCrH : Hid ((∀ x, C4 = some x → x.block ≠ w.heap.size) ∧ (∀ x, D4 = some x → x.block ≠ w.heap.size)) := ⟨fun x hx => by have := hCn4 x hx; omega, fun x hx => by have := hDn4 x hx; omega⟩
          have hmlH : Hid (y.c.l.length ≤ maxLen ∧ y.e.length ≤ maxLen) := hml
          have hnH : Hid ((C4 = none → p4 = 0) ∧ (D4 = none → q4 = 0)) := ⟨hC4, hD4⟩
          clear hy hey hml hgY hr4 hd4 hCn4 hDn4 hb4 hEV hdV hC4 hD4
          go_upto_region 10 with fail
          generalize w4.alloc (.cells #[.int .i64 y.c.c0, .int .i64 y.c.c1, .int .i64 y.c.c2, .int .i64 y.c.c3, .slice C4 y.c.l.length p4, .slice D4 y.e.length q4] 28) = X at hE5 hy5 ⊢
          by_cases h5 : ey = 0
          · subst h5
            have hst2 : Hid (editedTo l (k + 1) = y) := by
              show _ = _
              rw [hst.out]
              unfold editT
              rw [hdD.out.1, hdD.out.2, if_pos ⟨rfl, hyH.out.2⟩, hyH.out.1]
            obtain ⟨y0, y1, y2, y3, y4, y5, ylt, yrow, yrowC⟩ := (show TabAt _ _ _ _ _ _ _ from hy5)
            obtain ⟨t0, t1, t2, t3, t4, t5, tlt, trow, trowC⟩ := (show TabAt _ _ _ _ _ _ _ from hE5.tab)
            have tf := hE5.fz
            have hE6 : Hid (EdAt w ((((((X.setCell ⟨w.heap.size + 1, 0, none⟩ (.int .i64 y.c.c0)).setCell ⟨w.heap.size + 1, 1, none⟩ (.int .i64 y.c.c1)).setCell ⟨w.heap.size + 1, 2, none⟩ (.int .i64 y.c.c2)).setCell ⟨w.heap.size + 1, 3, none⟩ (.int .i64 y.c.c3)).setCell ⟨w.heap.size + 1, 4, none⟩ (.slice C4 y.c.l.length p4)).setCell ⟨w.heap.size + 1, 5, none⟩ (.slice D4 y.e.length q4)) y C4 p4 D4 q4) := by
              have h1 := hCnH.out.1
              have h2 := hCnH.out.2
              have hs : Six X (w.heap.size + 1) _ _ _ _ _ _ := ⟨t0, t1, t2, t3, t4, t5, tf, tlt⟩
              obtain ⟨s0, s1, s2, s3, s4, s5, sf, slt⟩ := hs.set (.int .i64 y.c.c0) (.int .i64 y.c.c1) (.int .i64 y.c.c2) (.int .i64 y.c.c3) (.slice C4 y.c.l.length p4) (.slice D4 y.e.length q4)
              refine ⟨⟨s0, s1, s2, s3, s4, s5, slt, ?_, ?_⟩, sf, ?_, hmlH.out, hnH.out.1, hnH.out.2, hCrH.out, below_set6 hE5.hw (by omega) _ _ _ _ _ _⟩
              · exact (((((yrow.setCell _ h1).setCell _ h1).setCell _ h1).setCell _ h1).setCell _ h1).setCell _ h1
              · exact (((((yrowC.setCell _ h2).setCell _ h2).setCell _ h2).setCell _ h2).setCell _ h2).setCell _ h2
              · exact (((((hE5.res.oth _ (by omega)).oth _ (by omega)).oth _ (by omega)).oth _ (by omega)).oth _ (by omega)).oth _ (by omega)
            clear trow trowC yrow yrowC hE5 hy5
            go_wp2
            go_roundw
            case rel => exact ⟨k + 1, C4, p4, D4, q4, by omega, by go_num, by rw [hst2.out]; exact hE6.out⟩
            case measure => simp [intOf]; omega
          · have hst2 : Hid (editedTo l (k + 1) = t) := by
              show _ = _
              rw [hst.out]
              unfold editT
              rw [hdD.out.1, hdD.out.2, if_neg (fun h => h5 (by rw [← hyH.out.2]; exact h.2))]
            have h5b : (ey == 0) = false := by simpa using h5
            clear h5
            go_wp2
            go_roundw
            case rel => exact ⟨k + 1, A, ca, D, cd, by omega, by go_num, by rw [hst2.out]; exact hE5⟩
            case measure => simp [intOf]; omega
        · have hst2 : Hid (editedTo l (k + 1) = t) := by
            show _ = _
            rw [hst.out]
            unfold editT
            rw [hdD.out.2, if_neg (fun h => he0 h.1)]
          have heb : (eD != 0) = true := by simpa using he0
          clear he0
          go_wp2
          go_roundw
          case rel => exact ⟨k + 1, A, ca, D, cd, by omega, by go_num, by rw [hst2.out]; exact hEV⟩
          case measure => simp [intOf]; omega
      · have hk1b : (x.1.1 == 1) = false := by simpa using hk1
        have hdD : Hid (editD t k x = ⟨dc, []⟩ ∧ editE t k x = ec) := ⟨by unfold editD; rw [if_neg hk1, hdc.out.1], by unfold editE; rw [if_neg hk1, hdc.out.2]⟩
        have hdl : Hid ((⟨dc, []⟩ : Tab).c.l.length ≤ maxLen ∧ (⟨dc, []⟩ : Tab).e.length ≤ maxLen) := ⟨hdcl.out, show 0 ≤ maxLen by decide⟩
        have hCd : Hid (C1 = none → p1 = 0) := hC1
        have hEV := hE1
        have hdV := hd1
        clear hk1 hx1 hd1 hs1 hE1
        -- what follows: V, dT in block Bd, its error ec
        by_cases he0 : ec = 0
        · subst he0
          obtain ⟨t0, t1, t2, t3, t4, t5, tlt, trow, trowC⟩ := (show TabAt _ _ _ _ _ _ _ from hEV.tab)
          obtain ⟨d0, d1, d2, d3, d4, d5, dlt, drow, drowC⟩ := (show TabAt _ _ _ _ _ _ _ from hdV)
          have hmg := merge_new t ⟨dc, []⟩ A C1 D none ca p1 cd 0 V1 hlen.1 hdl.out.1 hlen.2 hdl.out.2 hEV.nA hCd.out trow drow trowC drowC
          have hmgH : Hid _ := hmg
          clear hmg trow drow trowC drowC tlt dlt
          go_wp2_with fail
          refine Calls.mono (show Calls _ _ _ _ _ from hmgH.out) ?_
          rintro e w4 ⟨C4, p4, D4, q4, rfl, hr4, hd4, hC4, hD4, hCn4, hDn4, hb4⟩
          clear hmgH t0 t1 t2 t3 t4 t5 d0 d1 d2 d3 d4 d5
          have hml := mergeT_lenK t ⟨dc, []⟩
          obtain ⟨y, hy⟩ : ∃ y, mergeT t ⟨dc, []⟩ = y := ⟨_, rfl⟩
          obtain ⟨ey, hey⟩ : ∃ ey, mergeE t ⟨dc, []⟩ = ey := ⟨_, rfl⟩
          rw [hy] at hr4 hd4 hml ⊢
          rw [hey]
          have hyH : Hid (mergeT t ⟨dc, []⟩ = y ∧ mergeE t ⟨dc, []⟩ = ey) := ⟨hy, hey⟩
          have hgY : Gr w4 (w4.alloc (.cells #[.int .i64 y.c.c0, .int .i64 y.c.c1, .int .i64 y.c.c2, .int .i64 y.c.c3, .slice C4 y.c.l.length p4, .slice D4 y.e.length q4] 28)) := (Gr.refl _).alloc _
          have hE5 := (hEV.below hb4).gr hgY
          have hy5 : TabAt (w4.alloc (.cells #[.int .i64 y.c.c0, .int .i64 y.c.c1, .int .i64 y.c.c2, .int .i64 y.c.c3, .slice C4 y.c.l.length p4, .slice D4 y.e.length q4] 28)) w4.heap.size y C4 p4 D4 q4 := TabAt.new 28 hr4 hd4 rfl
          have hVlt := hEV.tab.lt
          have hCnH : Hid ((∀ x, C4 = some x → x.block ≠ w.heap.size + 1) ∧ (∀ x, D4 = some x → x.block ≠ w.heap.size + 1)) := ⟨fun x hx => by have := hCn4 x hx; omega, fun x hx => by have := hDn4 x hx; omega⟩
          have hCrH : Hid ((∀ x, C4 = some x → x.block ≠ w.heap.size) ∧ (∀ x, D4 = some x → x.block ≠ w.heap.size)) := ⟨fun x hx => by have := hCn4 x hx; omega, fun x hx => by have := hDn4 x hx; omega⟩
          have hmlH : Hid (y.c.l.length ≤ maxLen ∧ y.e.length ≤ maxLen) := hml
          have hnH : Hid ((C4 = none → p4 = 0) ∧ (D4 = none → q4 = 0)) := ⟨hC4, hD4⟩
          clear hy hey hml hgY hr4 hd4 hCn4 hDn4 hb4 hEV hdV hC4 hD4
          go_upto_region 10 with fail
          generalize w4.alloc (.cells #[.int .i64 y.c.c0, .int .i64 y.c.c1, .int .i64 y.c.c2, .int .i64 y.c.c3, .slice C4 y.c.l.length p4, .slice D4 y.e.length q4] 28) = X at hE5 hy5 ⊢
          by_cases h5 : ey = 0
          · subst h5
            have hst2 : Hid (editedTo l (k + 1) = y) := by
              show _ = _
              rw [hst.out]
              unfold editT
              rw [hdD.out.1, hdD.out.2, if_pos ⟨rfl, hyH.out.2⟩, hyH.out.1]
            obtain ⟨y0, y1, y2, y3, y4, y5, ylt, yrow, yrowC⟩ := (show TabAt _ _ _ _ _ _ _ from hy5)
            obtain ⟨t0, t1, t2, t3, t4, t5, tlt, trow, trowC⟩ := (show TabAt _ _ _ _ _ _ _ from hE5.tab)
            have tf := hE5.fz
            have hE6 : Hid (EdAt w ((((((X.setCell ⟨w.heap.size + 1, 0, none⟩ (.int .i64 y.c.c0)).setCell ⟨w.heap.size + 1, 1, none⟩ (.int .i64 y.c.c1)).setCell ⟨w.heap.size + 1, 2, none⟩ (.int .i64 y.c.c2)).setCell ⟨w.heap.size + 1, 3, none⟩ (.int .i64 y.c.c3)).setCell ⟨w.heap.size + 1, 4, none⟩ (.slice C4 y.c.l.length p4)).setCell ⟨w.heap.size + 1, 5, none⟩ (.slice D4 y.e.length q4)) y C4 p4 D4 q4) := by
              have h1 := hCnH.out.1
              have h2 := hCnH.out.2
              have hs : Six X (w.heap.size + 1) _ _ _ _ _ _ := ⟨t0, t1, t2, t3, t4, t5, tf, tlt⟩
              obtain ⟨s0, s1, s2, s3, s4, s5, sf, slt⟩ := hs.set (.int .i64 y.c.c0) (.int .i64 y.c.c1) (.int .i64 y.c.c2) (.int .i64 y.c.c3) (.slice C4 y.c.l.length p4) (.slice D4 y.e.length q4)
              refine ⟨⟨s0, s1, s2, s3, s4, s5, slt, ?_, ?_⟩, sf, ?_, hmlH.out, hnH.out.1, hnH.out.2, hCrH.out, below_set6 hE5.hw (by omega) _ _ _ _ _ _⟩
              · exact (((((yrow.setCell _ h1).setCell _ h1).setCell _ h1).setCell _ h1).setCell _ h1).setCell _ h1
              · exact (((((yrowC.setCell _ h2).setCell _ h2).setCell _ h2).setCell _ h2).setCell _ h2).setCell _ h2
              · exact (((((hE5.res.oth _ (by omega)).oth _ (by omega)).oth _ (by omega)).oth _ (by omega)).oth _ (by omega)).oth _ (by omega)
            clear trow trowC yrow yrowC hE5 hy5
            go_wp2
            go_roundw
            case rel => exact ⟨k + 1, C4, p4, D4, q4, by omega, by go_num, by rw [hst2.out]; exact hE6.out⟩
            case measure => simp [intOf]; omega
          · have hst2 : Hid (editedTo l (k + 1) = t) := by
              show _ = _
              rw [hst.out]
              unfold editT
              rw [hdD.out.1, hdD.out.2, if_neg (fun h => h5 (by rw [← hyH.out.2]; exact h.2))]
            have h5b : (ey == 0) = false := by simpa using h5
            clear h5
            go_wp2
            go_roundw
            case rel => exact ⟨k + 1, A, ca, D, cd, by omega, by go_num, by rw [hst2.out]; exact hE5⟩
            case measure => simp [intOf]; omega
        · have hst2 : Hid (editedTo l (k + 1) = t) := by
            show _ = _
            rw [hst.out]
            unfold editT
            rw [hdD.out.2, if_neg (fun h => he0 h.1)]
          have heb : (ec != 0) = true := by simpa using he0
          clear he0
          go_wp2
          go_roundw
          case rel => exact ⟨k + 1, A, ca, D, cd, by omega, by go_num, by rw [hst2.out]; exact hEV⟩
          case measure => simp [intOf]; omega
    · have hltz : ¬ (k : Int) < (n : Int) := by omega
      obtain rfl : k = n := by omega
      obtain ⟨t0, t1, t2, t3, t4, t5, tlt, trow, trowC⟩ := (show TabAt _ _ _ _ _ _ _ from hE.tab)
      obtain ⟨z0, z1, z2, z3, z4, z5, zf, zlt⟩ := (show Six _ _ _ _ _ _ _ _ from hE.res)
      have hbw : Hid (Below w.heap.size w wr) := hE.hw
      have hrH : Hid (Row wr A t.c.l ∧ RowC wr D t.e) := ⟨trow, trowC⟩
      have hnbH : Hid ((A = none → ca = 0) ∧ (D = none → cd = 0) ∧ (∀ x, A = some x → x.block ≠ w.heap.size) ∧ (∀ x, D = some x → x.block ≠ w.heap.size)) := ⟨hE.nA, hE.nD, hE.nb.1, hE.nb.2⟩
      have htH : Hid (editedTo l k = t) := ht
      clear trow trowC hE ht
      go_wp2
      rw [htH.out]
      have h1 := hnbH.out.2.2.1
      have h2 := hnbH.out.2.2.2
      exact bodyPost_ret (v := .agg #[.int .i64 t.c.c0, .int .i64 t.c.c1, .int .i64 t.c.c2, .int .i64 t.c.c3, .slice A t.c.l.length ca, .slice D t.e.length cd]) (by simp [results, Try.results18, go_sem, z0, z1, z2, z3, z4, z5]) rfl ⟨A, ca, D, cd, rfl, (((((hrH.out.1.setCell _ h1).setCell _ h1).setCell _ h1).setCell _ h1).setCell _ h1).setCell _ h1, (((((hrH.out.2.setCell _ h2).setCell _ h2).setCell _ h2).setCell _ h2).setCell _ h2).setCell _ h2, hnbH.out.1, hnbH.out.2.1, below_set6 hbw.out (Nat.le_refl _) _ _ _ _ _ _⟩

end Go.Proofs.Ytjgefnipkaecgac
