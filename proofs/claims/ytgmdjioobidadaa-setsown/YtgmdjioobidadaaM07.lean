/-
  slices.SortFunc at items: by their rows.
  slices.Grow of nothing, and slices.Concat, at items.
-/
import Derived.Test.YtgmdjioobidadaaM04
import Derived.Test.YtgmdjioobidadaaM06
import Derived.Lib.AppendZeros
namespace Go.Proofs.Ytgmdjioobidadaa
open Go.RowKit Go.Sort Go.Shelf Go.Lib

/-- An item of a list. -/
abbrev InT (l : List Itm) := {x : Itm // x ∈ l}
def encIn (l : List Itm) (x : InT l) : List Value := encT x.1
def cfIn (l : List Itm) (x y : InT l) : Int := cmpL x.1.r y.1.r
theorem ltIn (l : List Itm) (x y : InT l) : ltOf (cfIn l) x y = decide (cmpL x.1.r y.1.r < 0) := rfl
theorem swoIn (l : List Itm) : SWO (ltOf (cfIn l)) where
  irrefl x := by rw [ltIn, cmpL_self]; rfl
  trans x y z h1 h2 := by
    rw [ltIn, decide_eq_true_eq] at *
    exact cmpL_lt_trans h1 h2
  ntrans x y z h1 h2 := by
    rw [ltIn, decide_eq_false_iff_not] at *
    have e1 := cmpL_flip x.1.r y.1.r
    have e2 := cmpL_flip y.1.r z.1.r
    have e3 := cmpL_flip x.1.r z.1.r
    have := (cmpL_trans z.1.r y.1.r x.1.r (by omega) (by omega)).1
    omega

theorem sortW_block {α : Type} [Inhabited α] {enc : α → List Value} {w : World} {g n b : Nat} {os : Array Obj} {d : Array α} (hb : b < w.heap.size) (hne : b ≠ g) : (sortWorldK enc 2 w g 0 n d os).heap[b]? = w.heap[b]? := by
  show ((putRowK enc 2 (Sort.ahead w n) g 0 d).heap ++ os)[b]? = _
  rw [Array.getElem?_append_left (by simp [putRowK]; exact hb)]
  show ((Sort.ahead w n).heap.modify g _)[b]? = _
  rw [Array.getElem?_modify, if_neg (by omega)]
  rfl
theorem sortW_size {α : Type} [Inhabited α] {enc : α → List Value} {w : World} {g n : Nat} {os : Array Obj} {d : Array α} : w.heap.size ≤ (sortWorldK enc 2 w g 0 n d os).heap.size := by simp [sortWorldK, grow, putRowK]
theorem rowI_sortW {α : Type} [Inhabited α] {enc : α → List Value} {w : World} {g n : Nat} {os : Array Obj} {d : Array α} {p : Option Addr} {r : List Int} (h : RowI w p r) (hne : ∀ a, p = some a → r ≠ [] → a.block ≠ g) : RowI (sortWorldK enc 2 w g 0 n d os) p r := by
  rcases h with k | ⟨b, off, hp, hb, hc⟩
  · exact Or.inl k
  by_cases hr : r = []
  · exact Or.inl hr
  · refine Or.inr ⟨b, off, hp, Nat.lt_of_lt_of_le hb sortW_size, fun j hj i hi => ?_⟩
    rw [World.cell?_of_block (a := ⟨b, off + j * 1 + i, none⟩) (sortW_block hb (hne ⟨b, off, none⟩ hp hr))]
    exact hc j hj i hi
theorem below_sortT {α : Type} [Inhabited α] {enc : α → List Value} {w : World} {g n base : Nat} {os : Array Obj} {d : Array α} (hb : base ≤ g) (hs : base ≤ w.heap.size) : Go.RowKit.Below base w (sortWorldK enc 2 w g 0 n d os) :=
  ⟨rfl, rfl, rfl, sortW_size, fun k hk => sortW_block (by omega) (by omega)⟩
theorem attach_val (l : List Itm) : l.attach.map Subtype.val = l := by simp
theorem holdsT {w : World} {g : Nat} {l : List Itm} [Inhabited (InT l)] (h : RowG encT 2 w (some ⟨g, 0, none⟩) l) (hf : ∀ j, w.frozen? ⟨g, j, none⟩ = false) : HoldsK (encIn l) 2 w g 0 l.attach.toArray := by
  intro t ht
  rw [size_flatK] at ht
  rw [get_flatK _ _ _ t ht]
  simp only [List.size_toArray, List.length_attach] at ht
  have hk : t / 2 < l.length := by omega
  refine ⟨?_, hf _⟩
  obtain ⟨b, off, hA, hb, hc⟩ := h.at hk
  obtain ⟨rfl, rfl⟩ : g = b ∧ 0 = off := by injection hA with hA; injection hA with h1 h2; exact ⟨h1, h2⟩
  have hk' : t / 2 < l.attach.toArray.size := by simpa using hk
  have e : (l.attach.toArray[t / 2]!).1 = l[t / 2] := by rw [getElem!_pos l.attach.toArray (t / 2) hk']; simp
  have := hc (t / 2) hk (t % 2) (Nat.mod_lt _ (by omega))
  rw [show 0 + t / 2 * 2 + t % 2 = 0 + t from by omega] at this
  rw [this]
  unfold encIn
  rw [e]
  have hm : t % 2 < 2 := Nat.mod_lt _ (by omega)
  match t % 2, hm with
  | 0, _ => rfl
  | 1, _ => rfl
theorem rowKT {w : World} {g : Nat} {l : List Itm} [Inhabited (InT l)] {d : Array (InT l)} (h : HoldsK (encIn l) 2 w g 0 d) (hg : g < w.heap.size) : RowG encT 2 w (some ⟨g, 0, none⟩) (d.toList.map Subtype.val) := by
  refine Or.inr ⟨g, 0, rfl, hg, fun j hj i hi => ?_⟩
  have hj' : j < d.size := by simpa using hj
  have h0 := (h (j * 2 + i) (by rw [size_flatK]; omega)).1
  rw [get_flatK _ _ _ _ (by omega)] at h0
  rw [show (j * 2 + i) / 2 = j from by omega, show (j * 2 + i) % 2 = i from by omega, getElem!_pos d j hj'] at h0
  rw [show 0 + j * 2 + i = 0 + (j * 2 + i) from by omega, h0]
  simp only [List.getElem_map, Array.getElem_toList]
  unfold encIn
  match i, hi with
  | 0, _ => rfl
  | 1, _ => rfl
/-- What is asked of the order that is handed in. -/
def CmpT (fid : Nat) (cb : Array Value) : Prop := ∀ (x y : Itm) (w : World), RowI w x.p x.r → RowI w y.p y.r → x.r.length ≤ maxLen → Calls Try.prog fid (#[.agg (encT x).toArray, .agg (encT y).toArray] ++ cb) w fun e w' => e = .returned (.int .i64 (cmpL x.r y.r)) ∧ ∃ q os', w' = grow (w.drewN q) os'

theorem sortT (fid : Nat) (cb : Array Value) (eg : ∀ args w, (callFunc fid args).run Try.prog w = .ok (.enter fid args) w) (hcmp : CmpT fid cb) (g cap : Nat) (l : List Itm) (w : World) (hl0 : l ≠ []) (hrow : RowG encT 2 w (some ⟨g, 0, none⟩) l) (hf : ∀ j, w.frozen? ⟨g, j, none⟩ = false) (hg : g < w.heap.size) (he : ∀ x ∈ l, RowI w x.p x.r ∧ x.r.length ≤ maxLen ∧ (x.p = none → x.c = 0) ∧ (∀ a, x.p = some a → x.r ≠ [] → a.block ≠ g)) (hsz : l.length < 4611686018427387904) :
    Calls Try.prog 40 #[.slice (some ⟨g, 0, none⟩) l.length cap, .func (.func fid) #[] cb] w fun e w' => e = .returned (.tuple #[]) ∧ (∃ S : List Itm, S.Perm l ∧ Sorted (S.map Itm.z) ∧ Items w' (some ⟨g, 0, none⟩) S) ∧ ∀ base, base ≤ g → base ≤ w.heap.size → Go.RowKit.Below base w w' := by
  obtain ⟨x0, hx0⟩ : ∃ x, x ∈ l := List.exists_mem_of_ne_nil l hl0
  haveI : Inhabited (InT l) := ⟨⟨x0, hx0⟩⟩
  have hcl : CmpLays Try.prog fid cb (encIn l) 2 (cfIn l) g 0 l.attach.toArray.size w := fun m os dk _ x y =>
    hcmp x.1 y.1 _ (rowI_sortW (he _ x.2).1 (he _ x.2).2.2.2) (rowI_sortW (he _ y.2).1 (he _ y.2).2.2.2) (he _ x.2).2.1
  have hcon := AnyQ.slices_SortFunc Try.sortItm 2 Try.isAgg45 Try.sizeOf45 (encIn l) (fun _ => rfl) (fun x => encT_one x.1) (cfIn l) (swoIn l) fid cb g 0 cap l.attach.toArray w eg hcl (holdsT hrow hf) hg (by simpa using hsz)
  change Calls Try.prog 40 _ _ _ at hcon
  simp only [List.size_toArray, List.length_attach] at hcon
  refine hcon.mono ?_
  rintro e w' ⟨he', d', n, os, hp, hs, hw⟩
  obtain ⟨hsz', _, hperm⟩ := hp
  simp only [List.size_toArray, List.length_attach] at hsz'
  have e1 : d'.extract 0 l.length = d' := by rw [← hsz']; exact Array.extract_size
  have e2 : (l.attach.toArray.extract 0 l.length).toList = l.attach := by simp only [List.extract_toArray, List.drop_zero, Nat.sub_zero, List.extract_eq_take_drop]; exact List.take_of_length_le (by simp)
  rw [e1, e2] at hperm
  have hpm : (d'.toList.map Subtype.val).Perm l := by have := hperm.map Subtype.val; rwa [attach_val] at this
  refine ⟨he', ⟨d'.toList.map Subtype.val, hpm, ?_, ?_, ?_⟩, fun base h1 h2 => by rw [hw]; exact below_sortT h1 h2⟩
  · unfold Sorted
    rw [List.map_map, List.pairwise_map, List.pairwise_iff_getElem]
    intro i j hi hj hij
    have hi' : i < d'.size := by simpa using hi
    have hj' : j < d'.size := by simpa using hj
    have := hs i j (Nat.zero_le _) hij (by omega)
    rw [getElem!_pos d' j hj', getElem!_pos d' i hi', ltIn, decide_eq_false_iff_not] at this
    have e3 := cmpL_flip (d'[j]'hj').1.r (d'[i]'hi').1.r
    show cmpL (d'[i]'hi').1.r (d'[j]'hj').1.r ≤ 0
    omega
  · have hH' : HoldsK (encIn l) 2 w' g 0 d' := by
      rw [hw]
      refine holdsK_grow _ _ _ _ _ _ _ (by simp [putRowK]; exact hg) ?_
      exact holdsK_putRowK _ _ _ _ _ l.attach.toArray _ (holdsK_ahead _ _ _ _ _ _ _ (holdsT hrow hf)) (by simp [hsz'])
    exact rowKT hH' (by rw [hw]; exact Nat.lt_of_lt_of_le hg sortW_size)
  · intro x hx
    have hx' := he x (hpm.mem_iff.1 hx)
    rw [hw]
    exact ⟨rowI_sortW hx'.1 hx'.2.2.2, hx'.2.1, hx'.2.2.1⟩

set_option maxHeartbeats 1000000 in
/-- The order that total hands in. -/
theorem cmpT_any : CmpT 41 #[] := by
  intro x y w hx hy hl
  have hrH : Hid (RowI w x.p x.r ∧ RowI w y.p y.r ∧ x.r.length ≤ maxLen) := ⟨hx, hy, hl⟩
  clear hx hy hl
  show Calls Try.prog 41 #[.agg #[.slice x.p x.r.length x.c, .int .i64 x.n], .agg #[.slice y.p y.r.length y.c, .int .i64 y.n]] w _
  go_enter Try.func41, Try.ntmps41
  go_wp2_with fail
  have hg : Gr w ((w.alloc (.cells #[.slice x.p x.r.length x.c, .int .i64 x.n] 45)).alloc (.cells #[.slice y.p y.r.length y.c, .int .i64 y.n] 45)) := ((Gr.refl _).alloc _).alloc _
  refine (orderR_any x.r y.r x.p y.p x.c y.c _ hrH.out.2.2 (hrH.out.1.gr hg) (hrH.out.2.1.gr hg)).mono ?_
  rintro e w' ⟨rfl, hg2⟩
  have hfin : Hid (Gr w w') := hg.trans hg2
  clear hg hg2
  go_wp2
  go_ret
  exact ⟨rfl, hfin.out⟩

theorem sortOwnT (fid : Nat) (eg : ∀ args w, (callFunc fid args).run Try.prog w = .ok (.enter fid args) w) (hcmp : CmpT fid #[]) (base : Nat) (v : Value) (l : List Itm) (w : World) (hown : OwnG encT 2 45 w base v l) (hb : base ≤ w.heap.size) (he : ∀ x ∈ l, RowI w x.p x.r ∧ x.r.length ≤ maxLen ∧ (x.p = none → x.c = 0) ∧ (∀ a, x.p = some a → x.r ≠ [] → a.block < base)) (hsz : l.length < 4611686018427387904) :
    Calls Try.prog 40 #[v, .func (.func fid) #[] #[]] w fun e w' => e = .returned (.tuple #[]) ∧ (∃ (S : List Itm) (A : Option Addr) (cap : Nat), v = .slice A S.length cap ∧ S.Perm l ∧ Sorted (S.map Itm.z) ∧ Items w' A S ∧ (A = none → cap = 0)) ∧ Go.RowKit.Below base w w' := by
  obtain ⟨A, cap, rfl, hA, hrow, hcap, hlt, hfz⟩ := OwnG.full encT_len hown
  by_cases h0 : l = []
  · subst h0
    have hcon := AnyF.slices_SortFunc_none Try.sortItm A cap (.func (.func fid) #[] #[]) w
    change Calls Try.prog 40 _ _ _ at hcon
    refine hcon.mono ?_
    rintro e w' ⟨hee, rfl⟩
    exact ⟨hee, ⟨[], A, cap, rfl, List.Perm.refl _, List.Pairwise.nil, ⟨Or.inl rfl, fun x hx => absurd hx (by simp)⟩, hA⟩, Below.refl _ _⟩
  · have hpos : 0 < l.length := List.length_pos_iff.2 h0
    obtain ⟨b, off, hAe, hbb, _⟩ := hrow.at hpos
    subst hAe
    have h5 := hlt _ rfl
    obtain rfl : off = 0 := h5.2.2.1
    refine (sortT fid #[] eg hcmp b cap l w h0 hrow (hfz _ rfl) hbb (fun x hx => ?_) hsz).mono ?_
    · have h6 := he x hx
      refine ⟨h6.1, h6.2.1, h6.2.2.1, fun a ha hr => ?_⟩
      have h7 := h6.2.2.2 a ha hr
      have h8 : base ≤ b := h5.1
      omega
    · rintro e w' ⟨he, ⟨S, hp, hs, hit⟩, hbel⟩
      exact ⟨he, ⟨S, _, cap, by rw [hp.length_eq], hp, hs, hit, hA⟩, hbel base h5.1 hb⟩

end Go.Proofs.Ytgmdjioobidadaa

namespace Go.Proofs.Ytgmdjioobidadaa
open Go.RowKit Go.Sort

theorem wpList_append_ts (w : World) {ops : Array Oper} {rest : List Oper} {o : Oper} {a : Act} {Q : Exit → Act → World → Prop} (hgd : o.guard = none) (s x : Operand)
    (ho : o.op = .call { callee := .builtin .append, args := #[s, x], argTypes := #[23, 23] })
    (base : Nat) (v : Value) (l m : List Itm) (A : Option Addr) (cap : Nat) (hs : a.eval s = v) (hx : a.eval x = .slice A m.length cap) (hown : OwnG encT 2 45 w base v l) (hr : RowG encT 2 w A m) (hA : A = none → cap = 0)
    (hml : l.length + m.length ≤ maxLen) (hb : (l.length + m.length) * 32 ≤ 140737488355328) (hbase : base ≤ w.heap.size)
    (h : ∀ v' w', OwnG encT 2 45 w' base v' (l ++ m) → w.grownBy w' v.ownBlock → wpList Try.prog ops Q rest (a.put o.dst v') w') : wpList Try.prog ops Q (o :: rest) a w :=
  wpList_plain hgd fun _ hK => wp_append_g encT_len encT_one (by omega) 23 Try.underlying23 (.agg #[.slice none 0 0, .int .i64 0]) 32 Try.infoT rfl w s x ho base v l m A cap hs hx hown hr hA hml hb hbase fun v' w' h2 h3 => hK _ _ (h v' w' h2 h3)
set_option maxRecDepth 100000 in
set_option maxHeartbeats 1000000 in
theorem grow_any (n : Nat) (w : World) (hn : n ≤ 100000) :
    Calls Try.prog 53 #[.slice none 0 0, .int .i64 n] w fun e w' => ∃ v, e = .returned v ∧ OwnG encT 2 45 w' w.heap.size v [] ∧ Below w.heap.size w w' := by
  obtain ⟨i0, hi, hz0, hz1, hz2⟩ := info_parts Try.infoT
  by_cases h0 : n = 0
  · subst h0
    go_enter Try.func53, Try.ntmps53
    go_wp2
    go_ret
    exact ⟨_, rfl, OwnG.nil _ _ _ _ _, Below.refl _ _⟩
  · have hpos : (0 : Int) < (n : Int) := by omega
    go_enter Try.func53, Try.ntmps53
    have hrun := fun ty => Lib.run_append_nil_zeros (P := Try.prog) w 23 3 ty 45 i0 _ .i64 .i64 Try.underlying23 Try.underlying3 hi hz0 n (by omega) (by omega) (by omega) (by rw [hz2]; omega)
    have hfin : Hid (OwnG encT 2 45 (w.drew.alloc (.cells (Builtin.zeroCells (Value.agg #[.slice none 0 0, .int .i64 0]).cells n ++ Builtin.zeroCells (Value.agg #[.slice none 0 0, .int .i64 0]).cells (grownCap w n 0 45 - n)) 45)) w.heap.size (.slice (some ⟨w.heap.size, 0, none⟩) 0 (grownCap w n 0 45)) [] ∧ Below w.heap.size w (w.drew.alloc (.cells (Builtin.zeroCells (Value.agg #[.slice none 0 0, .int .i64 0]).cells n ++ Builtin.zeroCells (Value.agg #[.slice none 0 0, .int .i64 0]).cells (grownCap w n 0 45 - n)) 45))) := by
      refine ⟨⟨by simp [flatG], .inr ⟨w.heap.size, _, _, rfl, Nat.le_refl _, heap_alloc_new w.drew _, Nat.zero_le _, grownCap_le_maxLen _ _ _ _ (by unfold maxLen; omega), ?_, by simp [flatG]⟩⟩, ((Gr.refl w).drew.alloc _).below⟩
      have h1 := grownCap_ge w n 0 45
      have e1 : (Value.agg #[.slice none 0 0, .int .i64 0]).cells.size = 2 := rfl
      rw [Array.size_append, size_zeroCells, size_zeroCells, e1]; omega
    have hle : Hid (n ≤ grownCap w n 0 45 ∧ grownCap w n 0 45 ≤ 9223372036854775807) := ⟨grownCap_ge _ _ _ _, grownCap_le_maxLen _ _ _ _ (by unfold maxLen; omega)⟩
    go_wp2_with (at_builtin; refine Lib.wpList_append_run _ rfl _ _ _ _ rfl _ _ rfl rfl _ _ (hrun _) ?_)
    go_ret
    exact ⟨_, rfl, hfin.out.1, hfin.out.2⟩

/-- A list of items as a value. -/
structure Sl where
  A : Option Addr
  cap : Nat
  l : List Itm
def encS (x : Sl) : List Value := [.slice x.A x.l.length x.cap]
theorem flat_len {ss : List Sl} (h : ss.length ≤ 2) (hl : ∀ s ∈ ss, s.l.length ≤ 400) : (ss.flatMap (·.l)).length ≤ 800 := by
  match ss, h with
  | [], _ => simp
  | [a], _ => have := hl a (by simp); simp; omega
  | [a, b], _ => have h1 := hl a (by simp); have h2 := hl b (by simp); simp; omega
theorem flat_take {ss : List Sl} {k : Nat} (hk : k < ss.length) : (ss.take (k + 1)).flatMap (·.l) = (ss.take k).flatMap (·.l) ++ ss[k].l := by
  rw [List.take_succ_eq_append_getElem hk, List.flatMap_append, List.flatMap_cons, List.flatMap_nil, List.append_nil]
theorem flat_le {ss : List Sl} (k : Nat) : ((ss.take k).flatMap (·.l)).length ≤ (ss.flatMap (·.l)).length := by
  conv => rhs; rw [← List.take_append_drop k ss, List.flatMap_append, List.length_append]
  omega

set_option maxRecDepth 100000 in
set_option maxHeartbeats 1000000 in
theorem concat_any (ss : List Sl) (B : Option Addr) (cb : Nat) (w : World) (hrow : RowG encS 1 w B ss) (hlen : ss.length ≤ 2) (hss : ∀ s ∈ ss, RowG encT 2 w s.A s.l ∧ (s.A = none → s.cap = 0) ∧ s.l.length ≤ 400) :
    Calls Try.prog 39 #[.slice B ss.length cb] w fun e w' => ∃ v, e = .returned v ∧ OwnG encT 2 45 w' w.heap.size v (ss.flatMap (·.l)) ∧ Below w.heap.size w w' := by
  have hall : Hid ((ss.flatMap (·.l)).length ≤ 800) := flat_len hlen fun s hs => (hss s hs).2.2
  have hrH : Hid (RowG encS 1 w B ss ∧ ∀ s ∈ ss, RowG encT 2 w s.A s.l ∧ (s.A = none → s.cap = 0) ∧ s.l.length ≤ 400) := ⟨hrow, hss⟩
  clear hrow hss
  go_enter Try.func39, Try.ntmps39
  go_wp2
  go_loopw [3, 11] (fun n i wr => ∃ k : Nat, k ≤ ss.length ∧ i = .int .i64 k ∧ n = .int .i64 (((ss.take k).flatMap (·.l)).length : Nat) ∧ wr = w) (fun _ i _ => ss.length - (intOf i).toNat)
  case atStart => exact ⟨0, Nat.zero_le _, rfl, by simp, rfl⟩
  case round =>
    obtain ⟨k, hk, rfl, rfl, rfl⟩ := hrel
    by_cases hlt : k < ss.length
    · have hltz : (k : Int) < (ss.length : Int) := by omega
      obtain ⟨b, off, rfl, hb, hcs⟩ := hrH.out.1.at hlt
      have e0 := hcs k hlt 0 (by omega)
      obtain ⟨s, hs⟩ : ∃ s, ss[k] = s := ⟨_, rfl⟩
      rw [hs] at e0
      have e1 : wr.cell? ⟨b, off + k, none⟩ = some (.slice s.A s.l.length s.cap) := by simpa [encS] using e0
      have hst : Hid (((ss.take (k + 1)).flatMap (·.l)).length = ((ss.take k).flatMap (·.l)).length + s.l.length) := by show _ = _; rw [flat_take hlt, hs, List.length_append]
      have hle : ((ss.take (k + 1)).flatMap (·.l)).length ≤ 800 := Nat.le_trans (flat_le _) hall.out
      rw [hst.out] at hle
      obtain ⟨m, hm⟩ : ∃ m, ((ss.take k).flatMap (·.l)).length = m := ⟨_, rfl⟩
      rw [hm] at hle ⊢
      have hmH : Hid (((ss.take k).flatMap (·.l)).length = m) := hm
      clear hcs e0 hs hm
      have hw1 : IntKind.i64.wrap ((m : Int) + (s.l.length : Int)) = (m : Int) + (s.l.length : Int) := by rw [IntKind.wrap_i64]; omega
      have hge : ¬ ((m : Int) + (s.l.length : Int)) < 0 := by omega
      go_wp2
      go_roundw
      case rel =>
        refine ⟨k + 1, by omega, by go_num, ?_, by trivial⟩
        rw [hst.out, hmH.out]; go_num
      case measure => simp [intOf]; omega
    · have hltz : ¬ (k : Int) < (ss.length : Int) := by omega
      have hke : ss.take k = ss := List.take_of_length_le (by omega)
      rw [hke]
      have hgw := grow_any (ss.flatMap (·.l)).length wr (by have := hall.out; omega)
      have hgwH : Hid _ := hgw
      clear hgw hke hlt hk
      obtain ⟨N, hN⟩ : ∃ N, (ss.flatMap (·.l)).length = N := ⟨_, rfl⟩
      rw [hN] at hgwH ⊢
      clear hN
      go_wp2_with fail
      refine Calls.mono (show Calls _ _ _ _ _ from hgwH.out) ?_
      rintro e w1 ⟨v0, rfl, hown0, hb0⟩
      clear hgwH
      go_wp2
      go_loopw [6, 27] (fun v i w2 => ∃ k : Nat, k ≤ ss.length ∧ i = .int .i64 k ∧ OwnG encT 2 45 w2 wr.heap.size v ((ss.take k).flatMap (·.l)) ∧ Below wr.heap.size wr w2) (fun _ i _ => ss.length - (intOf i).toNat)
      case atStart => exact ⟨0, Nat.zero_le _, rfl, by simpa using hown0, hb0⟩
      case round =>
        rename World => w2
        obtain ⟨k, hk, rfl, hown, hbel⟩ := hrel
        by_cases hlt : k < ss.length
        · have hltz : (k : Int) < (ss.length : Int) := by omega
          obtain ⟨b, off, rfl, hb, hcs⟩ := hrH.out.1.at hlt
          have e0 := hcs k hlt 0 (by omega)
          obtain ⟨s, hs⟩ : ∃ s, ss[k] = s := ⟨_, rfl⟩
          rw [hs] at e0
          have e1 : w2.cell? ⟨b, off + k, none⟩ = some (.slice s.A s.l.length s.cap) := (hbel.cell (p := ⟨b, off + k, none⟩) hb).trans (by simpa [encS] using e0)
          have hst : Hid ((ss.take (k + 1)).flatMap (·.l) = (ss.take k).flatMap (·.l) ++ s.l) := by show _ = _; rw [flat_take hlt, hs]
          have hle : ((ss.take (k + 1)).flatMap (·.l)).length ≤ 800 := Nat.le_trans (flat_le _) hall.out
          rw [hst.out, List.length_append] at hle
          have hsf := hrH.out.2 s (by rw [← hs]; exact List.getElem_mem hlt)
          obtain ⟨M, hM⟩ : ∃ M, (ss.take k).flatMap (·.l) = M := ⟨_, rfl⟩
          rw [hM] at hown hst hle
          have hsH : Hid (RowG encT 2 w2 s.A s.l ∧ (s.A = none → s.cap = 0) ∧ OwnG encT 2 45 w2 wr.heap.size u6 M ∧ M.length + s.l.length ≤ maxLen ∧ (M.length + s.l.length) * 32 ≤ 140737488355328 ∧ wr.heap.size ≤ w2.heap.size) := ⟨hsf.1.below hbel, hsf.2.1, hown, by unfold maxLen; omega, by omega, hbel.size⟩
          have hbelH : Hid (Below wr.heap.size wr w2) := hbel
          clear hcs e0 hs hle hsf hM hown hbel
          go_wp2_with (at_builtin; refine wpList_append_ts _ rfl (.tmp 31) (.tmp 32) rfl wr.heap.size u6 M s.l s.A s.cap rfl rfl hsH.out.2.2.1 hsH.out.1 hsH.out.2.1 hsH.out.2.2.2.1 hsH.out.2.2.2.2.1 hsH.out.2.2.2.2.2 ?_; intro v3 w3 hown3 hg3)
          have hfin : Hid (Go.RowKit.Below wr.heap.size wr w3) := hbelH.out.trans (OwnG.grown_below hsH.out.2.2.1 hg3 hsH.out.2.2.2.2.2)
          go_roundw
          case rel => exact ⟨k + 1, by omega, by go_num, by rw [hst.out]; exact hown3, hfin.out⟩
          case measure => simp [intOf]; omega
        · have hltz : ¬ (k : Int) < (ss.length : Int) := by omega
          have hke : ss.take k = ss := List.take_of_length_le (by omega)
          rw [hke] at hown
          have hfin : Hid (OwnG encT 2 45 w2 wr.heap.size u6 (ss.flatMap (·.l)) ∧ Below wr.heap.size wr w2) := ⟨hown, hbel⟩
          clear hown hbel hke
          go_wp2
          go_ret
          exact ⟨u6, rfl, hfin.out.1, hfin.out.2⟩

end Go.Proofs.Ytgmdjioobidadaa
