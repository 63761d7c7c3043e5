/-
  dot.rising: the dots of two lists, sorted, in memory of its own.
-/
import Derived.Test.YtjgefnipkaecgacOwn
import Derived.Test.YtjgefnipkaecgacDotLeaf
import Derived.Test.YtjgefnipkaecgacShelf
namespace Go.Proofs.Ytjgefnipkaecgac
open Go.RowKit Go.Sort Go.Shelf Go.Lib

/-- A dot's two cells. -/
def encD (x : Int × Int) : List Value := [.int .i64 x.1, .int .i64 x.2]

theorem ltD (x y : Int × Int) : ltOf ordI x y = befB x y := by
  unfold ltOf
  cases h : befB x y
  · have := ordI_not h
    simp; omega
  · rw [ordI_bef h]; simp

theorem befB_iff (x y : Int × Int) : befB x y = true ↔ x.1 < y.1 ∨ (x.1 = y.1 ∧ x.2 < y.2) := by simp [befB]
theorem befB_not (x y : Int × Int) : befB x y = false ↔ y.1 < x.1 ∨ (x.1 = y.1 ∧ y.2 ≤ x.2) := by
  simp [befB]; omega

theorem swoD : SWO (ltOf ordI) where
  irrefl x := by rw [ltD]; simp [befB]
  trans x y z h1 h2 := by rw [ltD, befB_iff] at *; omega
  ntrans x y z h1 h2 := by rw [ltD, befB_not] at *; omega

theorem totD (x y : Int × Int) (h1 : ltOf ordI x y = false) (h2 : ltOf ordI y x = false) : x = y := by
  rw [ltD, befB_not] at *
  exact Prod.ext (by omega) (by omega)

/-- The dots of a list, sorted. -/
def srt (l : List (Int × Int)) : List (Int × Int) := l.mergeSort fun x y => !ltOf ordI y x

theorem srt_length (l : List (Int × Int)) : (srt l).length = l.length := by simp [srt]

theorem cmpD (blk off size : Nat) (w : World) : CmpLays Try.prog 51 #[] encD 2 ordI blk off size w :=
  fun _ _ _ _ x y => order_any x y _

theorem holdsD {w : World} {g off : Nat} {l : List (Int × Int)} (hc : ∀ j (h : j < l.length), w.cell? ⟨g, off + j * 2, none⟩ = some (.int .i64 l[j].1) ∧ w.cell? ⟨g, off + j * 2 + 1, none⟩ = some (.int .i64 l[j].2)) (hf : ∀ j, w.frozen? ⟨g, j, none⟩ = false) : HoldsK encD 2 w g off l.toArray := by
  intro t ht
  rw [size_flatK] at ht
  rw [get_flatK _ _ _ t ht]
  simp only [List.size_toArray] at ht
  have hk : t / 2 < l.length := by omega
  refine ⟨?_, hf _⟩
  have e : l.toArray[t / 2]! = l[t / 2] := by simp [hk]
  rw [e]
  have := hc (t / 2) hk
  by_cases he : t % 2 = 0
  · rw [he, show off + t = off + t / 2 * 2 from by omega, this.1]; rfl
  · rw [show t % 2 = 1 from by omega, show off + t = off + t / 2 * 2 + 1 from by omega, this.2]; rfl

theorem rowK {w : World} {g off : Nat} {l : List (Int × Int)} (h : HoldsK encD 2 w g off l.toArray) (hg : g < w.heap.size) : Row w (some ⟨g, off, none⟩) l := by
  refine Or.inr ⟨g, off, rfl, hg, fun j hj => ?_⟩
  have h0 := (h (j * 2) (by rw [size_flatK]; simp; omega)).1
  have h1 := (h (j * 2 + 1) (by rw [size_flatK]; simp; omega)).1
  rw [get_flatK _ _ _ _ (by simp; omega)] at h0 h1
  rw [show j * 2 / 2 = j from by omega, show j * 2 % 2 = 0 from by omega] at h0
  rw [show (j * 2 + 1) / 2 = j from by omega, show (j * 2 + 1) % 2 = 1 from by omega] at h1
  have e : l.toArray[j]! = l[j] := by simp [hj]
  rw [e] at h0 h1
  exact ⟨h0, h1⟩

theorem below_sort {w : World} {g n base : Nat} {os : Array Obj} {d : Array (Int × Int)} (hb : base ≤ g) (hs : base ≤ w.heap.size) : Below base w (sortWorldK encD 2 w g 0 n d os) := by
  refine ⟨rfl, rfl, rfl, by simp [sortWorldK, grow, putRowK], fun k hk => ?_⟩
  show ((putRowK encD 2 (Sort.ahead w n) g 0 d).heap ++ os)[k]? = _
  rw [Array.getElem?_append_left (by simp [putRowK]; omega)]
  show ((Sort.ahead w n).heap.modify g _)[k]? = _
  rw [Array.getElem?_modify, if_neg (by omega)]
  rfl

theorem sortD (g cap : Nat) (l : List (Int × Int)) (w : World) (hH : HoldsK encD 2 w g 0 l.toArray) (hg : g < w.heap.size) (hsz : l.length < 4611686018427387904) :
    Calls Try.prog 69 #[.slice (some ⟨g, 0, none⟩) l.length cap, .func (.func 51) #[] #[]] w fun e w' => e = .returned (.tuple #[]) ∧ Row w' (some ⟨g, 0, none⟩) (srt l) ∧ ∀ base, base ≤ g → base ≤ w.heap.size → Below base w w' := by
  have eg : ∀ args w, (callFunc 51 args).run Try.prog w = .ok (.enter 51 args) w := enters_of Try.func51 (by kernel_rfl) rfl
  have hcon := AnyQ.slices_SortFunc_total Try.sortDot 2 Try.isAgg62 Try.sizeOf62 encD (fun _ => rfl) (fun x v hv => by simp [encD] at hv; rcases hv with rfl | rfl <;> rfl) ordI swoD 51 #[] g 0 cap l.toArray w eg (cmpD g 0 _ w) hH hg (by simpa using hsz) totD
  change Calls Try.prog 69 _ _ _ at hcon
  simp only [List.size_toArray] at hcon
  refine hcon.mono ?_
  rintro e w' ⟨he, n, os, hw⟩
  refine ⟨he, ?_, fun base h1 h2 => by rw [hw]; exact below_sort h1 h2⟩
  have hH' : HoldsK encD 2 w' g 0 (srt l).toArray := by
    rw [hw]
    refine holdsK_grow _ _ _ _ _ _ _ (by simp [putRowK]; exact hg) ?_
    exact holdsK_putRowK _ _ _ _ _ l.toArray _ (holdsK_ahead _ _ _ _ _ _ _ hH) (by simp)
  refine rowK hH' ?_
  rw [hw]
  simp [sortWorldK, grow, putRowK]
  omega

theorem sortOwn (base : Nat) (v : Value) (l : List (Int × Int)) (w : World) (hown : Own w base v l) (hb : base ≤ w.heap.size) (hsz : l.length < 4611686018427387904) :
    Calls Try.prog 69 #[v, .func (.func 51) #[] #[]] w fun e w' => e = .returned (.tuple #[]) ∧ (∃ C cap, v = .slice C (srt l).length cap ∧ Row w' C (srt l)) ∧ Below base w w' := by
  rcases hown.2 with ⟨hv, hn⟩ | ⟨g, cap, cur, hv, hbg, hg, _⟩
  · obtain rfl : l = [] := List.eq_nil_of_length_eq_zero hn
    have hcon := AnyF.slices_SortFunc_none Try.sortDot none 0 (.func (.func 51) #[] #[]) w
    change Calls Try.prog 69 _ _ _ at hcon
    rw [hv]
    refine hcon.mono ?_
    rintro e w' ⟨he, rfl⟩
    exact ⟨he, ⟨none, 0, by simp [srt], Or.inl (by simp [srt])⟩, Below.refl _ _⟩
  · have hlt : g < w.heap.size := (Array.getElem?_eq_some_iff.1 hg).1
    have hc := hown.cells (g := g) (by rw [hv]; rfl)
    have hH : HoldsK encD 2 w g 0 l.toArray := by
      refine holdsD (fun j hj => ?_) (fun j => ?_)
      · have e := flat_get l j hj
        have c0 := hc _ _ e.1
        have c1 := hc _ _ e.2
        rw [Addr.add_lit] at c0 c1
        exact ⟨c0, c1⟩
      · have := World.ownsRow.frozenAt (by rw [← hv]; exact hown) (g := g) (cap := cap) j
        exact this
    rw [hv]
    refine (sortD g cap l w hH hlt hsz).mono ?_
    rintro e w' ⟨he, hrow, hbel⟩
    exact ⟨he, ⟨_, cap, by rw [srt_length], hrow⟩, hbel base hbg hb⟩

set_option maxHeartbeats 1000000 in
theorem rising_any (a b : List (Int × Int)) (A B : Option Addr) (ca cb : Nat) (w : World) (ha : Row w A a) (hb : Row w B b) (hA : A = none → ca = 0) (hB : B = none → cb = 0) (hal : a.length ≤ 400) (hbl : b.length ≤ 400) :
    Calls Try.prog 48 #[.slice A a.length ca, .slice B b.length cb] w fun e w' => ∃ C cap, e = .returned (.slice C (srt (a ++ b)).length cap) ∧ Row w' C (srt (a ++ b)) ∧ Below w.heap.size w w' := by
  obtain ⟨i0, hi, hz0, hz1, hz2⟩ := info_parts Try.info62
  go_enter Try.func48, Try.ntmps48
  have hbd : (a.length + b.length) * 16 ≤ 140737488355328 := by omega
  have hbd0 : (([] : List (Int × Int)).length + a.length) * 16 ≤ 140737488355328 := by simp; omega
  go_wp2_with (first | (at_make; refine wpList_make_own _ rfl _ (.tmp 10) 23 rfl w.heap.size 62 i0 _ 2 Try.underlying23 hi hz0 hz1 .i64 .i64 _ (a.length + b.length) rfl rfl (by omega) (by rw [hz2]; omega) (by unfold maxLen; omega) (Nat.le_refl _) ?_; intro w1 hown1 hgr1) | (at_builtin; refine wpList_append_dots _ rfl (.tmp 12) (.tmp 13) rfl w.heap.size (.slice (some ⟨w.heap.size, 0, none⟩) 0 (a.length + b.length)) [] a A ca rfl rfl hown1 (ha.below ((Below.refl _ w).grown hgr1 (Nat.le_refl _) (fun k e => by cases e))) hA hbd0 hgr1.size ?_; intro v2 w2 hown2 hgr2 _; simp only [List.nil_append] at hown2) | (at_builtin; refine wpList_append_dots _ rfl (.tmp 15) (.tmp 16) rfl w.heap.size v2 a b B cb rfl rfl hown2 (hb.below (((Below.refl _ w).grown hgr1 (Nat.le_refl _) (fun k e => by cases e)).trans (Own.grown_below (l := []) hown1 hgr2 hgr1.size))) hB hbd (Nat.le_trans hgr1.size hgr2.size) ?_; intro v3 w3 hown3 hgr3 _) | fail)
  have hb3 : Below w.heap.size w w3 := (((Below.refl _ w).grown hgr1 (Nat.le_refl _) (fun k e => by cases e)).trans (Own.grown_below (l := []) hown1 hgr2 hgr1.size)).trans (hown2.grown_below hgr3 (Nat.le_trans hgr1.size hgr2.size))
  refine (sortOwn w.heap.size v3 (a ++ b) w3 hown3 hb3.size (by rw [List.length_append]; omega)).mono ?_
  rintro e w4 ⟨rfl, ⟨C, cap, hv, hrow⟩, hbel⟩
  have hbel4 := hb3.trans hbel
  clear hown1 hgr1 hown2 hgr2 hown3 hgr3 hb3 hbel
  go_wp2
  go_ret
  exact ⟨C, cap, by rw [← hv]; rfl, hrow, hbel4⟩

end Go.Proofs.Ytjgefnipkaecgac
