/-
  slices.SortFunc at items: by their rows.
-/
import Derived.Test.YteobmedkngdnkaaDoorZOwn
import Derived.Test.YteobmedkngdnkaaDoorZTotMath
import Derived.Test.YteobmedkngdnkaaDoorShelfZ
namespace Go.Proofs.YteobmedkngdnkaaDoor
open Go.RowKit Go.Sort Go.Shelf Go.Lib

/-- An item of a list. -/
abbrev InT (l : List Itm) := {x : Itm // x ∈ l}
def encIn (l : List Itm) (x : InT l) : List Value := encT x.1
def cfIn (l : List Itm) (x y : InT l) : Int := cmpL x.1.r y.1.r
theorem ltIn (l : List Itm) (x y : InT l) : ltOf (cfIn l) x y = decide (cmpL x.1.r y.1.r < 0) := rfl
theorem swoIn (l : List Itm) : SWO (ltOf (cfIn l)) where
  irrefl x := by rw [ltIn, cmpL_self]; rfl
  trans x y z h1 h2 := by
    rw [ltIn, decide_eq_true_eq] at *
    exact cmpL_lt_trans h1 h2
  ntrans x y z h1 h2 := by
    rw [ltIn, decide_eq_false_iff_not] at *
    have e1 := cmpL_flip x.1.r y.1.r
    have e2 := cmpL_flip y.1.r z.1.r
    have e3 := cmpL_flip x.1.r z.1.r
    have := (cmpL_trans z.1.r y.1.r x.1.r (by omega) (by omega)).1
    omega

theorem sortW_block {α : Type} [Inhabited α] {enc : α → List Value} {w : World} {g n b : Nat} {os : Array Obj} {d : Array α} (hb : b < w.heap.size) (hne : b ≠ g) : (sortWorldK enc 2 w g 0 n d os).heap[b]? = w.heap[b]? := by
  show ((putRowK enc 2 (Sort.ahead w n) g 0 d).heap ++ os)[b]? = _
  rw [Array.getElem?_append_left (by simp [putRowK]; exact hb)]
  show ((Sort.ahead w n).heap.modify g _)[b]? = _
  rw [Array.getElem?_modify, if_neg (by omega)]
  rfl
theorem sortW_size {α : Type} [Inhabited α] {enc : α → List Value} {w : World} {g n : Nat} {os : Array Obj} {d : Array α} : w.heap.size ≤ (sortWorldK enc 2 w g 0 n d os).heap.size := by simp [sortWorldK, grow, putRowK]
theorem rowI_sortW {α : Type} [Inhabited α] {enc : α → List Value} {w : World} {g n : Nat} {os : Array Obj} {d : Array α} {p : Option Addr} {r : List Int} (h : RowI w p r) (hne : ∀ a, p = some a → r ≠ [] → a.block ≠ g) : RowI (sortWorldK enc 2 w g 0 n d os) p r := by
  rcases h with k | ⟨b, off, hp, hb, hc⟩
  · exact Or.inl k
  by_cases hr : r = []
  · exact Or.inl hr
  · refine Or.inr ⟨b, off, hp, Nat.lt_of_lt_of_le hb sortW_size, fun j hj i hi => ?_⟩
    rw [World.cell?_of_block (a := ⟨b, off + j * 1 + i, none⟩) (sortW_block hb (hne ⟨b, off, none⟩ hp hr))]
    exact hc j hj i hi
theorem below_sortT {α : Type} [Inhabited α] {enc : α → List Value} {w : World} {g n base : Nat} {os : Array Obj} {d : Array α} (hb : base ≤ g) (hs : base ≤ w.heap.size) : Go.RowKit.Below base w (sortWorldK enc 2 w g 0 n d os) :=
  ⟨rfl, rfl, rfl, sortW_size, fun k hk => sortW_block (by omega) (by omega)⟩
theorem attach_val (l : List Itm) : l.attach.map Subtype.val = l := by simp
theorem holdsT {w : World} {g : Nat} {l : List Itm} [Inhabited (InT l)] (h : RowG encT 2 w (some ⟨g, 0, none⟩) l) (hf : ∀ j, w.frozen? ⟨g, j, none⟩ = false) : HoldsK (encIn l) 2 w g 0 l.attach.toArray := by
  intro t ht
  rw [size_flatK] at ht
  rw [get_flatK _ _ _ t ht]
  simp only [List.size_toArray, List.length_attach] at ht
  have hk : t / 2 < l.length := by omega
  refine ⟨?_, hf _⟩
  obtain ⟨b, off, hA, hb, hc⟩ := h.at hk
  obtain ⟨rfl, rfl⟩ : g = b ∧ 0 = off := by injection hA with hA; injection hA with h1 h2; exact ⟨h1, h2⟩
  have hk' : t / 2 < l.attach.toArray.size := by simpa using hk
  have e : (l.attach.toArray[t / 2]!).1 = l[t / 2] := by rw [getElem!_pos l.attach.toArray (t / 2) hk']; simp
  have := hc (t / 2) hk (t % 2) (Nat.mod_lt _ (by omega))
  rw [show 0 + t / 2 * 2 + t % 2 = 0 + t from by omega] at this
  rw [this]
  unfold encIn
  rw [e]
  have hm : t % 2 < 2 := Nat.mod_lt _ (by omega)
  match t % 2, hm with
  | 0, _ => rfl
  | 1, _ => rfl
theorem rowKT {w : World} {g : Nat} {l : List Itm} [Inhabited (InT l)] {d : Array (InT l)} (h : HoldsK (encIn l) 2 w g 0 d) (hg : g < w.heap.size) : RowG encT 2 w (some ⟨g, 0, none⟩) (d.toList.map Subtype.val) := by
  refine Or.inr ⟨g, 0, rfl, hg, fun j hj i hi => ?_⟩
  have hj' : j < d.size := by simpa using hj
  have h0 := (h (j * 2 + i) (by rw [size_flatK]; omega)).1
  rw [get_flatK _ _ _ _ (by omega)] at h0
  rw [show (j * 2 + i) / 2 = j from by omega, show (j * 2 + i) % 2 = i from by omega, getElem!_pos d j hj'] at h0
  rw [show 0 + j * 2 + i = 0 + (j * 2 + i) from by omega, h0]
  simp only [List.getElem_map, Array.getElem_toList]
  unfold encIn
  match i, hi with
  | 0, _ => rfl
  | 1, _ => rfl
/-- What is asked of the order that is handed in. -/
def CmpT (fid : Nat) (cb : Array Value) : Prop := ∀ (x y : Itm) (w : World), RowI w x.p x.r → RowI w y.p y.r → x.r.length ≤ maxLen → Calls Tryd.prog fid (#[.agg (encT x).toArray, .agg (encT y).toArray] ++ cb) w fun e w' => e = .returned (.int .i64 (cmpL x.r y.r)) ∧ ∃ q os', w' = grow (w.drewN q) os'

theorem sortT (fid : Nat) (cb : Array Value) (eg : ∀ args w, (callFunc fid args).run Tryd.prog w = .ok (.enter fid args) w) (hcmp : CmpT fid cb) (g cap : Nat) (l : List Itm) (w : World) (hl0 : l ≠ []) (hrow : RowG encT 2 w (some ⟨g, 0, none⟩) l) (hf : ∀ j, w.frozen? ⟨g, j, none⟩ = false) (hg : g < w.heap.size) (he : ∀ x ∈ l, RowI w x.p x.r ∧ x.r.length ≤ maxLen ∧ (x.p = none → x.c = 0) ∧ (∀ a, x.p = some a → x.r ≠ [] → a.block ≠ g)) (hsz : l.length < 4611686018427387904) :
    Calls Tryd.prog 26 #[.slice (some ⟨g, 0, none⟩) l.length cap, .func (.func fid) #[] cb] w fun e w' => e = .returned (.tuple #[]) ∧ (∃ S : List Itm, S.Perm l ∧ Sorted (S.map Itm.z) ∧ Items w' (some ⟨g, 0, none⟩) S) ∧ ∀ base, base ≤ g → base ≤ w.heap.size → Go.RowKit.Below base w w' := by
  obtain ⟨x0, hx0⟩ : ∃ x, x ∈ l := List.exists_mem_of_ne_nil l hl0
  haveI : Inhabited (InT l) := ⟨⟨x0, hx0⟩⟩
  have hcl : CmpLays Tryd.prog fid cb (encIn l) 2 (cfIn l) g 0 l.attach.toArray.size w := fun m os dk _ x y =>
    hcmp x.1 y.1 _ (rowI_sortW (he _ x.2).1 (he _ x.2).2.2.2) (rowI_sortW (he _ y.2).1 (he _ y.2).2.2.2) (he _ x.2).2.1
  have hcon := AnyQ.slices_SortFunc Tryd.sortItm 2 Tryd.isAgg41 Tryd.sizeOf41 (encIn l) (fun _ => rfl) (fun x => encT_one x.1) (cfIn l) (swoIn l) fid cb g 0 cap l.attach.toArray w eg hcl (holdsT hrow hf) hg (by simpa using hsz)
  change Calls Tryd.prog 26 _ _ _ at hcon
  simp only [List.size_toArray, List.length_attach] at hcon
  refine hcon.mono ?_
  rintro e w' ⟨he', d', n, os, hp, hs, hw⟩
  obtain ⟨hsz', _, hperm⟩ := hp
  simp only [List.size_toArray, List.length_attach] at hsz'
  have e1 : d'.extract 0 l.length = d' := by rw [← hsz']; exact Array.extract_size
  have e2 : (l.attach.toArray.extract 0 l.length).toList = l.attach := by simp only [List.extract_toArray, List.drop_zero, Nat.sub_zero, List.extract_eq_take_drop]; exact List.take_of_length_le (by simp)
  rw [e1, e2] at hperm
  have hpm : (d'.toList.map Subtype.val).Perm l := by have := hperm.map Subtype.val; rwa [attach_val] at this
  refine ⟨he', ⟨d'.toList.map Subtype.val, hpm, ?_, ?_, ?_⟩, fun base h1 h2 => by rw [hw]; exact below_sortT h1 h2⟩
  · unfold Sorted
    rw [List.map_map, List.pairwise_map, List.pairwise_iff_getElem]
    intro i j hi hj hij
    have hi' : i < d'.size := by simpa using hi
    have hj' : j < d'.size := by simpa using hj
    have := hs i j (Nat.zero_le _) hij (by omega)
    rw [getElem!_pos d' j hj', getElem!_pos d' i hi', ltIn, decide_eq_false_iff_not] at this
    have e3 := cmpL_flip (d'[j]'hj').1.r (d'[i]'hi').1.r
    show cmpL (d'[i]'hi').1.r (d'[j]'hj').1.r ≤ 0
    omega
  · have hH' : HoldsK (encIn l) 2 w' g 0 d' := by
      rw [hw]
      refine holdsK_grow _ _ _ _ _ _ _ (by simp [putRowK]; exact hg) ?_
      exact holdsK_putRowK _ _ _ _ _ l.attach.toArray _ (holdsK_ahead _ _ _ _ _ _ _ (holdsT hrow hf)) (by simp [hsz'])
    exact rowKT hH' (by rw [hw]; exact Nat.lt_of_lt_of_le hg sortW_size)
  · intro x hx
    have hx' := he x (hpm.mem_iff.1 hx)
    rw [hw]
    exact ⟨rowI_sortW hx'.1 hx'.2.2.2, hx'.2.1, hx'.2.2.1⟩

theorem sortOwnT (fid : Nat) (eg : ∀ args w, (callFunc fid args).run Tryd.prog w = .ok (.enter fid args) w) (hcmp : CmpT fid #[]) (base : Nat) (v : Value) (l : List Itm) (w : World) (hown : OwnG encT 2 41 w base v l) (hb : base ≤ w.heap.size) (he : ∀ x ∈ l, RowI w x.p x.r ∧ x.r.length ≤ maxLen ∧ (x.p = none → x.c = 0) ∧ (∀ a, x.p = some a → x.r ≠ [] → a.block < base)) (hsz : l.length < 4611686018427387904) :
    Calls Tryd.prog 26 #[v, .func (.func fid) #[] #[]] w fun e w' => e = .returned (.tuple #[]) ∧ (∃ (S : List Itm) (A : Option Addr) (cap : Nat), v = .slice A S.length cap ∧ S.Perm l ∧ Sorted (S.map Itm.z) ∧ Items w' A S ∧ (A = none → cap = 0)) ∧ Go.RowKit.Below base w w' := by
  obtain ⟨A, cap, rfl, hA, hrow, hcap, hlt, hfz⟩ := OwnG.full encT_len hown
  by_cases h0 : l = []
  · subst h0
    have hcon := AnyF.slices_SortFunc_none Tryd.sortItm A cap (.func (.func fid) #[] #[]) w
    change Calls Tryd.prog 26 _ _ _ at hcon
    refine hcon.mono ?_
    rintro e w' ⟨hee, rfl⟩
    exact ⟨hee, ⟨[], A, cap, rfl, List.Perm.refl _, List.Pairwise.nil, ⟨Or.inl rfl, fun x hx => absurd hx (by simp)⟩, hA⟩, Below.refl _ _⟩
  · have hpos : 0 < l.length := List.length_pos_iff.2 h0
    obtain ⟨b, off, hAe, hbb, _⟩ := hrow.at hpos
    subst hAe
    have h5 := hlt _ rfl
    obtain rfl : off = 0 := h5.2.2.1
    refine (sortT fid #[] eg hcmp b cap l w h0 hrow (hfz _ rfl) hbb (fun x hx => ?_) hsz).mono ?_
    · have h6 := he x hx
      refine ⟨h6.1, h6.2.1, h6.2.2.1, fun a ha hr => ?_⟩
      have h7 := h6.2.2.2 a ha hr
      have h8 : base ≤ b := h5.1
      omega
    · rintro e w' ⟨he, ⟨S, hp, hs, hit⟩, hbel⟩
      exact ⟨he, ⟨S, _, cap, by rw [hp.length_eq], hp, hs, hit, hA⟩, hbel base h5.1 hb⟩

end Go.Proofs.YteobmedkngdnkaaDoor
