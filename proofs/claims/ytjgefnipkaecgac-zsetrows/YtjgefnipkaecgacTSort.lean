/-
  slices.SortFunc at cells: by their dots.
-/
import Derived.Test.YtjgefnipkaecgacTSearch
import Derived.Test.YtjgefnipkaecgacShelfI
namespace Go.Proofs.Ytjgefnipkaecgac
open Go.RowKit Go.Sort Go.Shelf Go.Lib

/-- No two cells have one dot. -/
def UniqD (l : List Cel) : Prop := ∀ x ∈ l, ∀ y ∈ l, x.1 = y.1 → x = y
/-- One cell ahead of another, by their dots. -/
def befC (x y : Cel) : Bool := befB x.1 y.1
/-- The cells of a list, sorted by their dots. -/
def srtC (l : List Cel) : List Cel := l.mergeSort fun x y => !befC y x

theorem befC_iff (x y : Cel) : befC x y = true ↔ x.1.1 < y.1.1 ∨ (x.1.1 = y.1.1 ∧ x.1.2 < y.1.2) := befT_iff _ _
theorem befC_not (x y : Cel) : befC x y = false ↔ y.1.1 < x.1.1 ∨ (x.1.1 = y.1.1 ∧ y.1.2 ≤ x.1.2) := by
  simp [befC, befB]; omega
theorem swoC {cf : Cel → Cel → Int} (hcf : ∀ x y, ltOf cf x y = befC x y) : SWO (ltOf cf) where
  irrefl x := by rw [hcf]; simp [befC, befB]
  trans x y z h1 h2 := by rw [hcf, befC_iff] at *; omega
  ntrans x y z h1 h2 := by rw [hcf, befC_not] at *; omega
theorem srtC_length (l : List Cel) : (srtC l).length = l.length := by simp [srtC]
theorem srtC_perm (l : List Cel) : (srtC l).Perm l := List.mergeSort_perm _ _
theorem srtC_pair (l : List Cel) : (srtC l).Pairwise fun x y => (!befC y x) = true := by
  refine List.pairwise_mergeSort ?_ ?_ _
  · intro a b c h1 h2
    simp only [Bool.not_eq_true', befC_not] at h1 h2 ⊢
    omega
  · intro a b
    cases h : befC b a
    · simp
    · have : befC a b = false := by rw [befC_not]; rw [befC_iff] at h; omega
      simp [this]
theorem dots_eq {x y : Cel} (h1 : (!befC y x) = true) (h2 : (!befC x y) = true) : x.1 = y.1 := by
  simp only [Bool.not_eq_true', befC_not] at h1 h2
  exact Prod.ext (by omega) (by omega)
theorem srtC_eq {l m : List Cel} (hu : UniqD l) (hp : m.Perm l) (hs : m.Pairwise fun x y => (!befC y x) = true) : m = srtC l := by
  refine List.Perm.eq_of_pairwise (le := fun x y => (!befC y x) = true) ?_ hs (srtC_pair l) (hp.trans (srtC_perm l).symm)
  intro a b ha hb h1 h2
  exact hu a (hp.mem_iff.1 ha) b ((srtC_perm l).mem_iff.1 hb) (dots_eq h1 h2)
/-- Distinct dots, sorted: rising. -/
theorem srtC_asc {l : List Cel} (hn : (l.map (·.1)).Nodup) : Asc (srtC l) := by
  have h1 := srtC_pair l
  have h2 : ((srtC l).map (·.1)).Nodup := ((srtC_perm l).map (·.1)).nodup_iff.2 hn
  have h3 : (srtC l).Pairwise fun x y => x.1 ≠ y.1 := List.pairwise_map.1 h2
  unfold Asc
  refine (h1.and h3).imp ?_
  intro x y ⟨h4, h5⟩
  cases h6 : befB x.1 y.1
  · exfalso
    refine h5 (dots_eq h4 ?_)
    show (!befB x.1 y.1) = true
    rw [h6]; rfl
  · rfl

theorem holdsC {w : World} {g : Nat} {l : List Cel} (h : RowC w (some ⟨g, 0, none⟩) l) (hf : ∀ j, w.frozen? ⟨g, j, none⟩ = false) : HoldsK encC 5 w g 0 l.toArray := by
  intro t ht
  rw [size_flatK] at ht
  rw [get_flatK _ _ _ t ht]
  simp only [List.size_toArray] at ht
  have hk : t / 5 < l.length := by omega
  refine ⟨?_, hf _⟩
  obtain ⟨b, off, hA, hb, hc⟩ := h.at hk
  obtain ⟨rfl, rfl⟩ : g = b ∧ 0 = off := by injection hA with hA; injection hA with h1 h2; exact ⟨h1, h2⟩
  have e : l.toArray[t / 5]! = l[t / 5] := by simp [hk]
  rw [e]
  have := hc (t / 5) hk (t % 5) (Nat.mod_lt _ (by omega))
  rw [show 0 + t / 5 * 5 + t % 5 = 0 + t from by omega] at this
  rw [this]
  have hm : t % 5 < 5 := Nat.mod_lt _ (by omega)
  match t % 5, hm with
  | 0, _ => rfl
  | 1, _ => rfl
  | 2, _ => rfl
  | 3, _ => rfl
  | 4, _ => rfl

theorem rowKC {w : World} {g : Nat} {l : List Cel} (h : HoldsK encC 5 w g 0 l.toArray) (hg : g < w.heap.size) : RowC w (some ⟨g, 0, none⟩) l := by
  refine Or.inr ⟨g, 0, rfl, hg, fun j hj i hi => ?_⟩
  have h0 := (h (j * 5 + i) (by rw [size_flatK]; simp; omega)).1
  rw [get_flatK _ _ _ _ (by simp; omega)] at h0
  rw [show (j * 5 + i) / 5 = j from by omega, show (j * 5 + i) % 5 = i from by omega] at h0
  have e : l.toArray[j]! = l[j] := by simp [hj]
  rw [e] at h0
  rw [show 0 + j * 5 + i = 0 + (j * 5 + i) from by omega, h0]
  match i, hi with
  | 0, _ => rfl
  | 1, _ => rfl
  | 2, _ => rfl
  | 3, _ => rfl
  | 4, _ => rfl

theorem below_sortC {w : World} {g n base : Nat} {os : Array Obj} {d : Array Cel} (hb : base ≤ g) (hs : base ≤ w.heap.size) : Go.RowKit.Below base w (sortWorldK encC 5 w g 0 n d os) := by
  refine ⟨rfl, rfl, rfl, by simp [sortWorldK, grow, putRowK], fun k hk => ?_⟩
  show ((putRowK encC 5 (Sort.ahead w n) g 0 d).heap ++ os)[k]? = _
  rw [Array.getElem?_append_left (by simp [putRowK]; omega)]
  show ((Sort.ahead w n).heap.modify g _)[k]? = _
  rw [Array.getElem?_modify, if_neg (by omega)]
  rfl

theorem sortCB {cf : Cel → Cel → Int} (hcf : ∀ x y, ltOf cf x y = befC x y) (fid : Nat) (cb : Array Value) (eg : ∀ args w, (callFunc fid args).run Try.prog w = .ok (.enter fid args) w) (g cap : Nat) (l : List Cel) (w : World) (hcmp : CmpLays Try.prog fid cb encC 5 cf g 0 l.length w) (hu : UniqD l) (hH : HoldsK encC 5 w g 0 l.toArray) (hg : g < w.heap.size) (hsz : l.length < 4611686018427387904) :
    Calls Try.prog 49 #[.slice (some ⟨g, 0, none⟩) l.length cap, .func (.func fid) #[] cb] w fun e w' => e = .returned (.tuple #[]) ∧ RowC w' (some ⟨g, 0, none⟩) (srtC l) ∧ ∀ base, base ≤ g → base ≤ w.heap.size → Go.RowKit.Below base w w' := by
  have hcon := AnyQ.slices_SortFunc Try.sortCell 5 Try.isAgg64 Try.sizeOf64 encC (fun _ => rfl) encC_one cf (swoC hcf) fid cb g 0 cap l.toArray w eg (by simpa using hcmp) hH hg (by simpa using hsz)
  change Calls Try.prog 49 _ _ _ at hcon
  simp only [List.size_toArray] at hcon
  refine hcon.mono ?_
  rintro e w' ⟨he, d', n, os, hp, hs, hw⟩
  obtain ⟨hsz', _, hperm⟩ := hp
  simp only [List.size_toArray] at hsz'
  have e1 : d'.extract 0 l.length = d' := by rw [← hsz']; exact Array.extract_size
  have e2 : (l.toArray.extract 0 l.length).toList = l := by simp
  rw [e1, e2] at hperm
  have hpw : d'.toList.Pairwise fun x y => (!befC y x) = true := by
    rw [List.pairwise_iff_getElem]
    intro i j hi hj hij
    have hi' : i < d'.size := by simpa using hi
    have hj' : j < d'.size := by simpa using hj
    have := hs i j (Nat.zero_le _) hij (by omega)
    rw [getElem!_pos d' j hj', getElem!_pos d' i hi', hcf] at this
    simpa using this
  have hd : d' = (srtC l).toArray := by
    have := srtC_eq hu hperm hpw
    rw [← this]
  subst hd
  refine ⟨he, ?_, fun base h1 h2 => by rw [hw]; exact below_sortC h1 h2⟩
  have hH' : HoldsK encC 5 w' g 0 (srtC l).toArray := by
    rw [hw]
    refine holdsK_grow _ _ _ _ _ _ _ (by simp [putRowK]; exact hg) ?_
    exact holdsK_putRowK _ _ _ _ _ l.toArray _ (holdsK_ahead _ _ _ _ _ _ _ hH) (by simp [srtC_length])
  refine rowKC hH' ?_
  rw [hw]
  simp [sortWorldK, grow, putRowK]
  omega

abbrev OwnC (w : World) (base : Nat) (v : Value) (l : List Cel) : Prop := OwnG encC 5 64 w base v l

theorem sortOwnC {cf : Cel → Cel → Int} (hcf : ∀ x y, ltOf cf x y = befC x y) (fid : Nat) (cb : Array Value) (eg : ∀ args w, (callFunc fid args).run Try.prog w = .ok (.enter fid args) w) (base : Nat) (v : Value) (l : List Cel) (w : World) (hcmp : ∀ g, CmpLays Try.prog fid cb encC 5 cf g 0 l.length w) (hu : UniqD l) (hown : OwnC w base v l) (hb : base ≤ w.heap.size) (hsz : l.length < 4611686018427387904) :
    Calls Try.prog 49 #[v, .func (.func fid) #[] cb] w fun e w' => e = .returned (.tuple #[]) ∧ (∃ C cap, v = .slice C (srtC l).length cap ∧ RowC w' C (srtC l) ∧ (C = none → cap = 0) ∧ ∀ a, C = some a → base ≤ a.block) ∧ Go.RowKit.Below base w w' := by
  obtain ⟨A, cap, rfl, hA, hrow, hcap, hlt, hfz⟩ := OwnG.full encC_len hown
  by_cases h0 : l = []
  · subst h0
    have hcon := AnyF.slices_SortFunc_none Try.sortCell A cap (.func (.func fid) #[] cb) w
    change Calls Try.prog 49 _ _ _ at hcon
    refine hcon.mono ?_
    rintro e w' ⟨he, rfl⟩
    exact ⟨he, ⟨A, cap, by simp [srtC], Or.inl (by simp [srtC]), hA, fun a ha => (hlt a ha).1⟩, Below.refl _ _⟩
  · have hpos : 0 < l.length := List.length_pos_iff.2 h0
    obtain ⟨b, off, hAe, hbb, _⟩ := hrow.at hpos
    subst hAe
    have h5 := hlt _ rfl
    obtain rfl : off = 0 := h5.2.2.1
    refine (sortCB hcf fid cb eg b cap l w (hcmp b) hu (holdsC hrow (hfz _ rfl)) hbb hsz).mono ?_
    rintro e w' ⟨he, hr', hbel⟩
    refine ⟨he, ⟨_, cap, by rw [srtC_length], hr', hA, fun a ha => (hlt a ha).1⟩, hbel base h5.1 hb⟩

theorem ltOrd (x y : Cel) : ltOf (fun x y : Cel => ordI x.1 y.1) x y = befC x y := by
  unfold ltOf befC
  cases h : befB x.1 y.1
  · have := ordI_not h
    simp; omega
  · simp [ordI_bef h]
theorem cmpOrd (blk off size : Nat) (w : World) : CmpLays Try.prog 31 #[] encC 5 (fun x y : Cel => ordI x.1 y.1) blk off size w :=
  fun _ _ _ _ x y => orderC_any x y _

end Go.Proofs.Ytjgefnipkaecgac
