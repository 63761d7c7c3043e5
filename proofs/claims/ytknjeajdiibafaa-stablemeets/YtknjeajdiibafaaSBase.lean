/-
  Lists of contexts: what they are in memory; what stable.checkAll and stable.allHave answer.
-/
import Derived.Test.YtknjeajdiibafaaAM
import Derived.Test.YtknjeajdiibafaaGen
import Derived.Test.YtknjeajdiibafaaHas
import Derived.Test.YtknjeajdiibafaaAppMiss
namespace Go.Proofs.Ytknjeajdiibafaa
open Go.RowKit Go.Sort

/-- A context in a list: what it is, where its cloud lies, the room there. -/
structure Cx where
  c : Ctx
  p : Option Addr
  n : Nat
def encX (x : Cx) : List Value := [.int .i64 x.c.c0, .int .i64 x.c.c1, .int .i64 x.c.c2, .int .i64 x.c.c3, .slice x.p x.c.l.length x.n]
theorem encX_len (x : Cx) : (encX x).length = 5 := rfl
theorem encX_one (x : Cx) : ∀ u ∈ encX x, u.oneCell' = true := by
  intro u hu
  simp [encX] at hu
  rcases hu with rfl | rfl | rfl | rfl | rfl <;> rfl
/-- A list of contexts in memory, and each one's cloud. -/
structure Cxs (w : World) (A : Option Addr) (l : List Cx) : Prop where
  row : RowG encX 5 w A l
  each : ∀ x ∈ l, Row w x.p x.c.l ∧ x.c.l.length ≤ maxLen ∧ (x.p = none → x.n = 0)
theorem Cxs.below {w w' : World} {A : Option Addr} {l : List Cx} (h : Cxs w A l) (q : Below w.heap.size w w') : Cxs w' A l := ⟨h.row.below q, fun x hx => ⟨(h.each x hx).1.below q, (h.each x hx).2⟩⟩
theorem Cxs.gr {w w' : World} {A : Option Addr} {l : List Cx} (h : Cxs w A l) (q : Gr w w') : Cxs w' A l := h.below q.below
/-- All that is read of it lies below a block. -/
def CxsLt (B : Nat) (A : Option Addr) (l : List Cx) : Prop := (∀ a, A = some a → l ≠ [] → a.block < B) ∧ ∀ x ∈ l, ∀ a, x.p = some a → x.c.l ≠ [] → a.block < B
theorem Cxs.lt {w : World} {A : Option Addr} {l : List Cx} (h : Cxs w A l) : CxsLt w.heap.size A l := ⟨h.row.lt, fun x hx => (h.each x hx).1.lt⟩
theorem CxsLt.mono {B B' : Nat} {A : Option Addr} {l : List Cx} (h : CxsLt B A l) (hB : B ≤ B') : CxsLt B' A l := ⟨fun a h1 h2 => Nat.lt_of_lt_of_le (h.1 a h1 h2) hB, fun x hx a h1 h2 => Nat.lt_of_lt_of_le (h.2 x hx a h1 h2) hB⟩
theorem Cxs.belowB {w w' : World} {A : Option Addr} {l : List Cx} {B : Nat} (h : Cxs w A l) (hB : CxsLt B A l) (q : Below B w w') : Cxs w' A l := ⟨h.row.belowB hB.1 q, fun x hx => ⟨(h.each x hx).1.belowB (hB.2 x hx) q, (h.each x hx).2⟩⟩
/-- What one finds at an index. -/
theorem Cxs.at {w : World} {A : Option Addr} {l : List Cx} (h : Cxs w A l) {k : Nat} (hk : k < l.length) : ∃ b off, A = some ⟨b, off, none⟩ ∧ b < w.heap.size ∧ ∀ j (hj : j < l.length), w.cell? ⟨b, off + j * 5, none⟩ = some (.int .i64 l[j].c.c0) ∧ w.cell? ⟨b, off + j * 5 + 1, none⟩ = some (.int .i64 l[j].c.c1) ∧ w.cell? ⟨b, off + j * 5 + 2, none⟩ = some (.int .i64 l[j].c.c2) ∧ w.cell? ⟨b, off + j * 5 + 3, none⟩ = some (.int .i64 l[j].c.c3) ∧ w.cell? ⟨b, off + j * 5 + 4, none⟩ = some (.slice l[j].p l[j].c.l.length l[j].n) := by
  obtain ⟨b, off, hA, hb, hc⟩ := h.row.at hk
  exact ⟨b, off, hA, hb, fun j hj => ⟨hc j hj 0 (by omega), hc j hj 1 (by omega), hc j hj 2 (by omega), hc j hj 3 (by omega), hc j hj 4 (by omega)⟩⟩

/-- The first one's error. -/
def errF : List Cx → Int
  | [] => 0
  | x :: r => if errC x.c ≠ 0 then errC x.c else errF r
/-- What is wrong with a list of contexts. -/
def errX (l : List Cx) : Int := if l.length = 0 then 1 else errF l
theorem errF_all {l : List Cx} (h : ∀ j (h : j < l.length), errC l[j].c = 0) : errF l = 0 := by
  induction l with
  | nil => rfl
  | cons x r ih =>
    have h0 : errC x.c = 0 := h 0 (by simp)
    unfold errF
    rw [if_neg (by simp [h0])]
    exact ih fun j hj => h (j + 1) (by simpa using hj)
theorem errF_at {l : List Cx} {k : Nat} (hk : k < l.length) (h : ∀ j (h : j < l.length), j < k → errC l[j].c = 0) (he : errC l[k].c ≠ 0) : errF l = errC l[k].c := by
  induction l generalizing k with
  | nil => exact absurd hk (by simp)
  | cons x r ih =>
    unfold errF
    cases k with
    | zero => rw [if_pos (show errC x.c ≠ 0 from he)]; rfl
    | succ k =>
      have h0 : errC x.c = 0 := h 0 (by simp) (by omega)
      rw [if_neg (by simp [h0])]
      exact ih (k := k) (by simpa using hk) (fun j hj hjk => h (j + 1) (by simpa using hj) (by omega)) he
theorem errX_all {l : List Cx} (h0 : 0 < l.length) (h : ∀ j (h : j < l.length), errC l[j].c = 0) : errX l = 0 := by
  unfold errX
  rw [if_neg (by omega), errF_all h]
theorem errX_at {l : List Cx} {k : Nat} (hk : k < l.length) (h : ∀ j (h : j < l.length), j < k → errC l[j].c = 0) (he : errC l[k].c ≠ 0) : errX l = errC l[k].c := by
  unfold errX
  rw [if_neg (by omega), errF_at hk h he]
theorem errX_ok {l : List Cx} (h : errX l = 0) : 0 < l.length ∧ ∀ x ∈ l, errC x.c = 0 := by
  unfold errX at h
  by_cases h0 : l.length = 0
  · rw [if_pos h0] at h; cases h
  · rw [if_neg h0] at h
    refine ⟨by omega, ?_⟩
    clear h0
    induction l with
    | nil => intro x hx; cases hx
    | cons y r ih =>
      unfold errF at h
      by_cases hy : errC y.c = 0
      · rw [if_neg (by simp [hy])] at h
        intro x hx
        rcases List.mem_cons.1 hx with rfl | hx
        · exact hy
        · exact ih h x hx
      · rw [if_pos hy] at h; exact absurd h hy
/-- Have all of them a dot? -/
def allB (l : List Cx) (x : Int × Int) : Bool := l.all fun y => hasB y.c x
theorem allB_no {l : List Cx} {x : Int × Int} {k : Nat} (hk : k < l.length) (h : hasB l[k].c x = false) : allB l x = false := by
  unfold allB
  rw [List.all_eq_false]
  exact ⟨l[k], List.getElem_mem hk, by rw [h]; simp⟩
theorem allB_yes {l : List Cx} {x : Int × Int} (h : ∀ j (h : j < l.length), hasB l[j].c x = true) : allB l x = true := by
  unfold allB
  rw [List.all_eq_true]
  intro y hy
  obtain ⟨j, hj, rfl⟩ := List.getElem_of_mem hy
  exact h j hj

set_option maxHeartbeats 2000000 in
theorem checkAll_any (l : List Cx) (A : Option Addr) (cap : Nat) (w : World) (hl : l.length ≤ maxLen) (hr : Cxs w A l) :
    Calls Try.prog 18 #[.slice A l.length cap] w fun e w' => e = .returned (.int .i64 (errX l)) ∧ Gr w w' := by
  unfold maxLen at hl
  by_cases h0 : l.length = 0
  · have h0z : ((l.length : Int) == 0) = true := by simp [h0]
    have hfin : Hid (errX l = 1) := by show errX l = 1; simp [errX, h0]
    clear h0
    go_enter Try.func18, Try.ntmps18
    go_wp2
    go_ret
    rw [hfin.out]
    exact ⟨rfl, Gr.refl _⟩
  · have h0z : ((l.length : Int) == 0) = false := by simp; intro e; rw [e] at h0; exact h0 rfl
    have hpos : Hid (0 < l.length) := by show 0 < _; omega
    clear h0
    go_enter Try.func18, Try.ntmps18
    go_wp2
    go_loopw [11] (fun i wr => ∃ k : Nat, k ≤ l.length ∧ i = .int .i64 k ∧ Hid (∀ j (h : j < l.length), j < k → errC l[j].c = 0) ∧ Gr w wr) (fun i _ => l.length - (intOf i).toNat)
    case atStart => exact ⟨0, by omega, rfl, fun j _ h => by omega, Gr.refl _⟩
    case round =>
      obtain ⟨k, hk, rfl, hall, hgr⟩ := hrel
      by_cases hlt : k < l.length
      · have hltz : (k : Int) < (l.length : Int) := by omega
        obtain ⟨b, off, rfl, hb, hcs⟩ := (hr.gr hgr).at hlt
        obtain ⟨hrow, hlen, hnil⟩ := (hr.gr hgr).each l[k] (List.getElem_mem hlt)
        obtain ⟨x, hx⟩ : ∃ x, l[k] = x := ⟨_, rfl⟩
        obtain ⟨e0, e1, e2, e3, e4⟩ := hcs k hlt
        rw [hx] at e0 e1 e2 e3 e4 hrow hlen hnil
        have hxH : Hid (l[k] = x) := hx
        clear hcs hx
        have hgX : Gr wr (wr.alloc (.cells #[.int .i64 x.c.c0, .int .i64 x.c.c1, .int .i64 x.c.c2, .int .i64 x.c.c3, .slice x.p x.c.l.length x.n] 25)) := (Gr.refl _).alloc _
        have hck := check_any x.c x.p x.n (wr.alloc (.cells #[.int .i64 x.c.c0, .int .i64 x.c.c1, .int .i64 x.c.c2, .int .i64 x.c.c3, .slice x.p x.c.l.length x.n] 25)) hlen (hrow.gr hgX)
        have hckH : Hid _ := hck
        clear hck hrow hnil
        go_wp2_with fail
        refine Calls.mono (show Calls _ _ _ _ _ from hckH.out) ?_
        rintro e w1 ⟨rfl, hg1⟩
        clear hckH
        by_cases he : errC x.c = 0
        · have heb : (errC x.c != 0) = false := by simpa using he
          have hnx : Hid (∀ j (h : j < l.length), j < k + 1 → errC l[j].c = 0) := by
            intro j hj hjk
            by_cases e : j = k
            · subst e; rw [hxH.out]; exact he
            · exact hall j hj (by omega)
          clear he
          go_wp2
          go_roundw
          case rel => exact ⟨k + 1, by omega, by go_num, hnx, hgr.trans (hgX.trans hg1)⟩
          case measure => simp [intOf]; omega
        · have heb : (errC x.c != 0) = true := by simpa using he
          have hfin : Hid (errX l = errC x.c) := by
            have := errX_at hlt hall.out (by rw [hxH.out]; exact he)
            rw [hxH.out] at this
            exact this
          clear he
          go_wp2
          go_ret
          rw [hfin.out]
          exact ⟨rfl, hgr.trans (hgX.trans hg1)⟩
      · have hltz : ¬ (k : Int) < (l.length : Int) := by omega
        have hfin : Hid (errX l = 0) := errX_all hpos.out fun j hj => hall.out j hj (by omega)
        go_wp2
        go_ret
        rw [hfin.out]
        exact ⟨rfl, hgr⟩

set_option maxHeartbeats 2000000 in
theorem allHave_any (l : List Cx) (A : Option Addr) (cap : Nat) (x : Int × Int) (w : World) (hl : l.length ≤ maxLen) (hr : Cxs w A l) :
    Calls Try.prog 34 #[.slice A l.length cap, .agg #[.int .i64 x.1, .int .i64 x.2]] w fun e w' => e = .returned (.bool (allB l x)) ∧ Gr w w' := by
  unfold maxLen at hl
  have hg0 : Gr w (w.alloc (.cells #[.int .i64 x.1, .int .i64 x.2] 35)) := (Gr.refl _).alloc _
  go_enter Try.func34, Try.ntmps34
  go_wp2
  go_loopw [9] (fun i wr => ∃ k : Nat, k ≤ l.length ∧ i = .int .i64 k ∧ Hid (∀ j (h : j < l.length), j < k → hasB l[j].c x = true) ∧ Gr (w.alloc (.cells #[.int .i64 x.1, .int .i64 x.2] 35)) wr) (fun i _ => l.length - (intOf i).toNat)
  case atStart => exact ⟨0, by omega, rfl, fun j _ h => by omega, Gr.refl _⟩
  case round =>
    obtain ⟨k, hk, rfl, hall, hgr⟩ := hrel
    by_cases hlt : k < l.length
    · have hltz : (k : Int) < (l.length : Int) := by omega
      have hrr := hr.gr (hg0.trans hgr)
      obtain ⟨b, off, rfl, hb, hcs⟩ := hrr.at hlt
      obtain ⟨hrow, hlen, hnil⟩ := hrr.each l[k] (List.getElem_mem hlt)
      obtain ⟨y, hx⟩ : ∃ y, l[k] = y := ⟨_, rfl⟩
      obtain ⟨e0, e1, e2, e3, e4⟩ := hcs k hlt
      rw [hx] at e0 e1 e2 e3 e4 hrow hlen hnil
      have hxH : Hid (l[k] = y) := hx
      clear hcs hx hrr
      have hgX : Gr wr (wr.alloc (.cells #[.int .i64 y.c.c0, .int .i64 y.c.c1, .int .i64 y.c.c2, .int .i64 y.c.c3, .slice y.p y.c.l.length y.n] 25)) := (Gr.refl _).alloc _
      have hck := has_any y.c y.p y.n x (wr.alloc (.cells #[.int .i64 y.c.c0, .int .i64 y.c.c1, .int .i64 y.c.c2, .int .i64 y.c.c3, .slice y.p y.c.l.length y.n] 25)) hlen (hrow.gr hgX)
      have hckH : Hid _ := hck
      have d0 := box1 (hgr.trans hgX) (j := 0) rfl
      have d1 := box1 (hgr.trans hgX) (j := 1) rfl
      clear hck hrow hnil
      go_wp2_with fail
      refine Calls.mono (show Calls _ _ _ _ _ from hckH.out) ?_
      rintro e w1 ⟨rfl, hg1⟩
      clear hckH d0 d1
      cases he : hasB y.c x
      · have hfin : Hid (allB l x = false) := allB_no hlt (by rw [hxH.out]; exact he)
        go_wp2
        go_ret
        rw [hfin.out]
        exact ⟨rfl, hg0.trans (hgr.trans (hgX.trans hg1))⟩
      · have hnx : Hid (∀ j (h : j < l.length), j < k + 1 → hasB l[j].c x = true) := by
          intro j hj hjk
          by_cases e : j = k
          · subst e; rw [hxH.out]; exact he
          · exact hall j hj (by omega)
        go_wp2
        go_roundw
        case rel => exact ⟨k + 1, by omega, by go_num, hnx, hgr.trans (hgX.trans hg1)⟩
        case measure => simp [intOf]; omega
    · have hltz : ¬ (k : Int) < (l.length : Int) := by omega
      have hfin : Hid (allB l x = true) := allB_yes fun j hj => hall.out j hj (by omega)
      go_wp2
      go_ret
      rw [hfin.out]
      exact ⟨rfl, hg0.trans hgr⟩

end Go.Proofs.Ytknjeajdiibafaa
