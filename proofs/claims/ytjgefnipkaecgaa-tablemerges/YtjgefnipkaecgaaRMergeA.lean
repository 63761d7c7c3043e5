/-
  What viewref.Merge keeps is what Merge keeps; its sorting.
-/
import Derived.Test.YtjgefnipkaecgaaTMerge
import Derived.Test.YtjgefnipkaecgaaRCell
import Derived.Test.YtjgefnipkaecgaaRTable
import Derived.Test.YtjgefnipkaecgaaGs
import Derived.Test.YtjgefnipkaecgaaJoined
import Derived.Deep.RegionHeld3
namespace Go.Proofs.Ytjgefnipkaecgaa
open Go.RowKit Go.Sort Go.Shelf Go.Lib

/-- The cells of both, each dot once. -/
def allC (a b : Tab) : List Cel := a.e ++ b.e.filter fun y => !memD a.e y.1
/-- Does a cell stay? -/
def keepR (a b : Tab) (z : Cel) : Bool := (memD a.e z.1 && memD b.e z.1) || (memD a.e z.1 && !hasB b.c z.1) || (memD b.e z.1 && !hasB a.c z.1)

theorem memD_iff {l : List Cel} {d : Int × Int} : memD l d = true ↔ ∃ y ∈ l, y.1 = d := by
  unfold memD
  rw [List.any_eq_true]
  constructor
  · rintro ⟨y, hy, h⟩; exact ⟨y, hy, by simpa using h⟩
  · rintro ⟨y, hy, h⟩; exact ⟨y, hy, by simpa using h⟩
theorem memD_of {l : List Cel} {y : Cel} (h : y ∈ l) : memD l y.1 = true := memD_iff.2 ⟨y, h, rfl⟩

/-- Rising lists with the same cells are the same. -/
theorem asc_ext {l m : List Cel} (hl : Asc l) (hm : Asc m) (h : ∀ x, x ∈ l ↔ x ∈ m) : l = m := by
  unfold Asc at hl hm
  have nl : l.Nodup := List.Pairwise.imp (fun {a b} (h : befB a.1 b.1 = true) (e : a = b) => befT_ne h (by rw [e])) hl
  have nm : m.Nodup := List.Pairwise.imp (fun {a b} (h : befB a.1 b.1 = true) (e : a = b) => befT_ne h (by rw [e])) hm
  have hp : l.Perm m := (List.perm_ext_iff_of_nodup nl nm).2 h
  refine List.Perm.eq_of_pairwise (le := fun x y => befB x.1 y.1 = true) ?_ hl hm hp
  intro x y _ _ h1 h2
  have := befT_trans h1 h2
  rw [befT_irr] at this
  cases this
theorem allC_nodup {a b : Tab} (ha : errT a = 0) (hb : errT b = 0) : ((allC a b).map (·.1)).Nodup := by
  unfold allC
  rw [List.map_append, List.nodup_append]
  refine ⟨asc_nodup (errT_asc ha), (asc_nodup (errT_asc hb)).sublist (List.filter_sublist.map _), ?_⟩
  intro d hd d' hd' e
  subst e
  obtain ⟨x, hx, rfl⟩ := List.mem_map.1 hd
  obtain ⟨y, hy, e⟩ := List.mem_map.1 hd'
  have h2 := (List.mem_filter.1 hy).2
  rw [e, memD_of hx] at h2
  cases h2
theorem keepR_a {a b : Tab} {x : Cel} (h : memD a.e x.1 = true) : keepR a b x = stayA b x := by
  unfold keepR stayA
  rw [h]
  cases memD b.e x.1 <;> cases hasB b.c x.1 <;> simp
theorem keepR_b {a b : Tab} {x : Cel} (h : memD a.e x.1 = false) (h2 : x ∈ b.e) : keepR a b x = stayB a x := by
  unfold keepR stayB
  rw [h, memD_of h2]
  simp
/-- What the document keeps is what Merge keeps. -/
theorem mrg_ref {a b : Tab} (ha : errT a = 0) (hb : errT b = 0) : (srtC (allC a b)).filter (keepR a b) = mrg a b := by
  have h0 := srtC_asc (allC_nodup ha hb)
  unfold Asc at h0
  refine asc_ext (show Asc _ from List.Pairwise.filter _ h0) (mrg_asc ha hb) ?_
  intro x
  rw [List.mem_filter, (srtC_perm _).mem_iff]
  unfold mrg
  rw [(srtC_perm _).mem_iff]
  unfold allC both
  rw [List.mem_append, List.mem_append, List.mem_filter, List.mem_filter, List.mem_filter]
  constructor
  · rintro ⟨h1 | ⟨h1, h2⟩, h3⟩
    · exact Or.inl ⟨h1, by rw [← keepR_a (memD_of h1)]; exact h3⟩
    · have h4 : memD a.e x.1 = false := by simpa using h2
      exact Or.inr ⟨h1, by rw [← keepR_b h4 h1]; exact h3⟩
  · rintro (⟨h1, h2⟩ | ⟨h1, h2⟩)
    · exact ⟨Or.inl h1, by rw [keepR_a (memD_of h1)]; exact h2⟩
    · have h4 : memD a.e x.1 = false := by
        cases h5 : memD a.e x.1
        · rfl
        · obtain ⟨y, hy, e⟩ := memD_iff.1 h5
          have h6 := errT_has ha hy
          unfold stayB at h2
          rw [← e, h6] at h2
          cases h2
      exact ⟨Or.inr ⟨h1, by rw [h4]; rfl⟩, by rw [keepR_b h4 h1]; exact h2⟩
/-- It doesn't matter on which side a clash is sought. -/
theorem clash_swap (a b : Tab) : clashB a b = b.e.any (clP a.e) := by
  have key : ∀ a b : Tab, clashB a b = true → b.e.any (clP a.e) = true := by
    intro a b h
    unfold clashB at h
    obtain ⟨x, hx, h1⟩ := List.any_eq_true.1 h
    unfold clP at h1
    obtain ⟨y, hy, h2⟩ := List.any_eq_true.1 h1
    simp only [Bool.and_eq_true, decide_eq_true_eq, Bool.not_eq_true'] at h2
    refine List.any_eq_true.2 ⟨y, hy, ?_⟩
    unfold clP
    refine List.any_eq_true.2 ⟨x, hx, ?_⟩
    simp only [Bool.and_eq_true, decide_eq_true_eq, Bool.not_eq_true']
    refine ⟨h2.1.symm, ?_⟩
    cases h3 : celEq x y
    · rfl
    · rw [celEq_iff] at h3
      rw [h3, celEq_iff.2 rfl] at h2
      cases h2.2
  cases h : clashB a b
  · cases h2 : b.e.any (clP a.e)
    · rfl
    · have := key b a h2
      unfold clashB at h
      rw [h] at this
      cases this
  · exact (key a b h).symm

/-- The order that the document sorts by. -/
def cfR (x y : Cel) : Int := if befC x y then -1 else 1
theorem ltR (x y : Cel) : ltOf cfR x y = befC x y := by
  unfold ltOf cfR
  cases befC x y <;> simp

set_option maxHeartbeats 1000000 in
theorem rmerge1_any (x y : Cel) (w : World) : Calls Try.prog 67 #[.agg #[.int .i64 x.1.1, .int .i64 x.1.2, .int .i64 x.2.1, .int .i64 x.2.2.1, .int .i64 x.2.2.2], .agg #[.int .i64 y.1.1, .int .i64 y.1.2, .int .i64 y.2.1, .int .i64 y.2.2.1, .int .i64 y.2.2.2]] w fun e w' => e = .returned (.int .i64 (cfR x y)) ∧ Gr w w' := by
  have hg0 : Gr w ((w.alloc (.cells #[.int .i64 x.1.1, .int .i64 x.1.2, .int .i64 x.2.1, .int .i64 x.2.2.1, .int .i64 x.2.2.2] 72)).alloc (.cells #[.int .i64 y.1.1, .int .i64 y.1.2, .int .i64 y.2.1, .int .i64 y.2.2.1, .int .i64 y.2.2.2] 72)) := ((Gr.refl _).alloc _).alloc _
  have hc : cfR x y = if befB x.1 y.1 then -1 else 1 := rfl
  have hcH : Hid _ := hc
  clear hc
  go_enter Try.func67, Try.ntmps67
  go_wp2_with fail
  refine (before_any x.1 y.1 _).mono ?_
  rintro e w' ⟨rfl, hg⟩
  cases hb : befB x.1 y.1
  · go_wp2
    go_ret
    rw [hcH.out, hb]
    exact ⟨rfl, hg0.trans hg⟩
  · go_wp2
    go_ret
    rw [hcH.out, hb]
    exact ⟨rfl, hg0.trans hg⟩
theorem cmpR (blk off size : Nat) (w : World) : CmpLays Try.prog 67 #[] encC 5 cfR blk off size w :=
  fun _ _ _ _ x y => rmerge1_any x y _

theorem cell_grownBy {w w' : World} {row : Option Nat} (h : w.grownBy w' row) {p : Addr} (hp : p.block < w.heap.size) (hne : some p.block ≠ row) : w'.cell? p = w.cell? p :=
  World.cell?_of_block (h.block p.block hp hne)
theorem Row.grownBy {w w' : World} {row : Option Nat} {A : Option Addr} {l : List (Int × Int)} (h : Row w A l) (k : w.grownBy w' row) (hA : ∀ x, A = some x → l ≠ [] → some x.block ≠ row) : Row w' A l := by
  rcases h with h | ⟨b, off, rfl, hb, hc⟩
  · exact Or.inl h
  · by_cases h0 : l = []
    · exact Or.inl h0
    · have hne := hA _ rfl h0
      refine Or.inr ⟨b, off, rfl, Nat.lt_of_lt_of_le hb k.size, fun j hj => ⟨?_, ?_⟩⟩
      · exact (cell_grownBy k (p := ⟨b, off + j * 2, none⟩) hb hne).trans (hc j hj).1
      · exact (cell_grownBy k (p := ⟨b, off + j * 2 + 1, none⟩) hb hne).trans (hc j hj).2
theorem CtxAt.grownBy {w w' : World} {row : Option Nat} {B : Nat} {c : Ctx} {A : Option Addr} {cap : Nat} (h : CtxAt w B c A cap) (k : w.grownBy w' row) (hB : some B ≠ row) (hA : ∀ x, A = some x → c.l ≠ [] → some x.block ≠ row) : CtxAt w' B c A cap :=
  ⟨(cell_grownBy k (p := ⟨B, 0, none⟩) h.lt hB).trans h.k0, (cell_grownBy k (p := ⟨B, 1, none⟩) h.lt hB).trans h.k1, (cell_grownBy k (p := ⟨B, 2, none⟩) h.lt hB).trans h.k2, (cell_grownBy k (p := ⟨B, 3, none⟩) h.lt hB).trans h.k3, (cell_grownBy k (p := ⟨B, 4, none⟩) h.lt hB).trans h.k4, Nat.lt_of_lt_of_le h.lt k.size, h.row.grownBy k hA⟩
theorem grown_sortC {w : World} {g n : Nat} {os : Array Obj} {d : Array Cel} : w.grownBy (sortWorldK encC 5 w g 0 n d os) (some g) := by
  refine ⟨rfl, rfl, rfl, by simp [sortWorldK, grow, putRowK], fun k hk hne => ?_⟩
  show ((putRowK encC 5 (Sort.ahead w n) g 0 d).heap ++ os)[k]? = _
  rw [Array.getElem?_append_left (by simp [putRowK]; omega)]
  show ((Sort.ahead w n).heap.modify g _)[k]? = _
  rw [Array.getElem?_modify, if_neg (fun e => hne (by rw [e]))]
  rfl

theorem sortCG {cf : Cel → Cel → Int} (hcf : ∀ x y, ltOf cf x y = befC x y) (fid : Nat) (cb : Array Value) (eg : ∀ args w, (callFunc fid args).run Try.prog w = .ok (.enter fid args) w) (g cap : Nat) (l : List Cel) (w : World) (hcmp : CmpLays Try.prog fid cb encC 5 cf g 0 l.length w) (hu : UniqD l) (hH : HoldsK encC 5 w g 0 l.toArray) (hg : g < w.heap.size) (hsz : l.length < 4611686018427387904) :
    Calls Try.prog 66 #[.slice (some ⟨g, 0, none⟩) l.length cap, .func (.func fid) #[] cb] w fun e w' => e = .returned (.tuple #[]) ∧ RowC w' (some ⟨g, 0, none⟩) (srtC l) ∧ w.grownBy w' (some g) := by
  have hcon := AnyQ.slices_SortFunc Try.sortCell 5 Try.isAgg72 Try.sizeOf72 encC (fun _ => rfl) encC_one cf (swoC hcf) fid cb g 0 cap l.toArray w eg (by simpa using hcmp) hH hg (by simpa using hsz)
  change Calls Try.prog 66 _ _ _ at hcon
  simp only [List.size_toArray] at hcon
  refine hcon.mono ?_
  rintro e w' ⟨he, d', n, os, hp, hs, hw⟩
  obtain ⟨hsz', _, hperm⟩ := hp
  simp only [List.size_toArray] at hsz'
  have e1 : d'.extract 0 l.length = d' := by rw [← hsz']; exact Array.extract_size
  have e2 : (l.toArray.extract 0 l.length).toList = l := by simp
  rw [e1, e2] at hperm
  have hpw : d'.toList.Pairwise fun x y => (!befC y x) = true := by
    rw [List.pairwise_iff_getElem]
    intro i j hi hj hij
    have hi' : i < d'.size := by simpa using hi
    have hj' : j < d'.size := by simpa using hj
    have := hs i j (Nat.zero_le _) hij (by omega)
    rw [getElem!_pos d' j hj', getElem!_pos d' i hi', hcf] at this
    simpa using this
  have hd : d' = (srtC l).toArray := by
    have := srtC_eq hu hperm hpw
    rw [← this]
  subst hd
  refine ⟨he, ?_, by rw [hw]; exact grown_sortC⟩
  have hH' : HoldsK encC 5 w' g 0 (srtC l).toArray := by
    rw [hw]
    refine holdsK_grow _ _ _ _ _ _ _ (by simp [putRowK]; exact hg) ?_
    exact holdsK_putRowK _ _ _ _ _ l.toArray _ (holdsK_ahead _ _ _ _ _ _ _ hH) (by simp [srtC_length])
  refine rowKC hH' ?_
  rw [hw]
  simp [sortWorldK, grow, putRowK]
  omega

theorem sortOwnG {cf : Cel → Cel → Int} (hcf : ∀ x y, ltOf cf x y = befC x y) (fid : Nat) (cb : Array Value) (eg : ∀ args w, (callFunc fid args).run Try.prog w = .ok (.enter fid args) w) (base : Nat) (A : Option Addr) (cap : Nat) (l : List Cel) (w : World) (hcmp : ∀ g, CmpLays Try.prog fid cb encC 5 cf g 0 l.length w) (hu : UniqD l) (hown : OwnC w base (.slice A l.length cap) l) (hsz : l.length < 4611686018427387904) :
    Calls Try.prog 66 #[.slice A l.length cap, .func (.func fid) #[] cb] w fun e w' => e = .returned (.tuple #[]) ∧ RowC w' A (srtC l) ∧ w.grownBy w' (Value.slice A l.length cap).ownBlock := by
  obtain ⟨A', cap', he, hA, hrow, hcap, hlt, hfz⟩ := OwnG.full encC_len hown
  obtain ⟨rfl, rfl⟩ : A = A' ∧ cap = cap' := by injection he with h1 h2 h3; exact ⟨h1, h3⟩
  by_cases h0 : l = []
  · subst h0
    have hcon := AnyF.slices_SortFunc_none Try.sortCell A cap (.func (.func fid) #[] cb) w
    change Calls Try.prog 66 _ _ _ at hcon
    refine hcon.mono ?_
    rintro e w' ⟨he, rfl⟩
    exact ⟨he, Or.inl (by simp [srtC]), ⟨rfl, rfl, rfl, Nat.le_refl _, fun _ _ _ => rfl⟩⟩
  · have hpos : 0 < l.length := List.length_pos_iff.2 h0
    obtain ⟨b, off, hAe, hbb, _⟩ := hrow.at hpos
    subst hAe
    have h5 := hlt _ rfl
    obtain rfl : off = 0 := h5.2.2.1
    exact sortCG hcf fid cb eg b cap l w (hcmp b) hu (holdsC hrow (hfz _ rfl)) hbb hsz

end Go.Proofs.Ytjgefnipkaecgaa
