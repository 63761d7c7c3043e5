/-
  rank.inOrder: the items by an order that is held in closures.
-/
import Derived.Test.YteobmedkngdnkaaDoorNOrd
import Derived.Test.YteobmedkngdnkaaDoorZSort
import Derived.Test.YteobmedkngdnkaaDoorZConcat
namespace Go.Proofs.YteobmedkngdnkaaDoor
open Go.RowKit Go.Sort Go.Shelf Go.Lib

/-- A variable that holds an order. -/
def OrdV (w : World) (B : Nat) (cs : List Int) : Prop := ∃ v, w.cell? ⟨B, 0, none⟩ = some v ∧ OrdF w cs v ∧ B < w.heap.size
theorem OrdV.below {w w' : World} {B : Nat} {cs : List Int} (h : OrdV w B cs) (q : Below w.heap.size w w') : OrdV w' B cs := by
  obtain ⟨v, h1, h2, h3⟩ := h
  exact ⟨v, (q.cell (p := ⟨B, 0, none⟩) h3).trans h1, OrdF.below q h2, Nat.lt_of_lt_of_le h3 q.size⟩
theorem OrdV.gr {w w' : World} {B : Nat} {cs : List Int} (h : OrdV w B cs) (q : Gr w w') : OrdV w' B cs := h.below q.below
def Cols (cs : List Int) (r : List Int) : Prop := ∀ n ∈ cs, n ≠ 0 ∧ colB n < r.length

set_option maxRecDepth 100000 in
set_option maxHeartbeats 1000000 in
theorem cmpN_any (cs : List Int) (B : Nat) (x y : Itm) (w : World) (hO : OrdV w B cs) (hx : RowI w x.p x.r) (hy : RowI w y.p y.r) (hxl : x.r.length ≤ maxLen) (hyl : y.r.length ≤ maxLen) (cx : Cols cs x.r) (cy : Cols cs y.r) :
    Calls Tryd.prog 27 (#[.agg (encT x).toArray, .agg (encT y).toArray] ++ #[.pointer (some ⟨B, 0, none⟩)]) w fun e w' => e = .returned (.int .i64 (cmpB cs x.r y.r)) ∧ ∃ q os', w' = grow (w.drewN q) os' := by
  obtain ⟨v, c0, hF, hB⟩ := hO
  obtain ⟨G, gc, rfl, eg⟩ := hF.form
  obtain ⟨WX, hWX⟩ : ∃ WX, ((w.alloc (.cells #[.slice x.p x.r.length x.c, .int .i64 x.n] 41)).alloc (.cells #[.slice y.p y.r.length y.c, .int .i64 y.n] 41)) = WX := ⟨_, rfl⟩
  have hg : Gr w WX := by rw [← hWX]; exact ((Gr.refl _).alloc _).alloc _
  have hC0 := ordF_any x.r y.r x.p y.p x.c y.c hxl hyl cs G gc WX (hF.gr hg) (hx.gr hg) (hy.gr hg) (fun n hn => ⟨(cx n hn).1, (cx n hn).2, (cy n hn).2⟩)
  have hC : Hid _ := hC0
  have x0 : WX.cell? ⟨w.heap.size, 0, none⟩ = some (.slice x.p x.r.length x.c) := by rw [← hWX]; exact box1 (w := w) ((Gr.refl _).alloc _) rfl
  have x1 : WX.cell? ⟨w.heap.size + 1, 0, none⟩ = some (.slice y.p y.r.length y.c) := by rw [← hWX]; exact box2 (w := w) (Gr.refl _) rfl
  have x2 : WX.cell? ⟨B, 0, none⟩ = some (.func (.func G) #[] gc) := (hg.cell (p := ⟨B, 0, none⟩) hB).trans c0
  have hgH : Hid (Gr w WX) := hg
  clear hC0 hF hx hy hxl hyl cx cy hg c0
  show Calls Tryd.prog 27 #[.agg #[.slice x.p x.r.length x.c, .int .i64 x.n], .agg #[.slice y.p y.r.length y.c, .int .i64 y.n], .pointer (some ⟨B, 0, none⟩)] w _
  go_enter Tryd.func27, Tryd.ntmps27
  go_wp2_with fail
  refine Calls.mono (show Calls _ _ _ _ _ from hC.out) ?_
  rintro e w2 ⟨rfl, hg2⟩
  have hfin : Hid (Gr w w2) := hgH.out.trans hg2
  clear hC hg2
  go_wp2
  go_ret
  exact ⟨rfl, hfin.out⟩

def cfN (cs : List Int) (l : List Itm) (x y : InT l) : Int := cmpB cs x.1.r y.1.r
theorem ltN (cs : List Int) (l : List Itm) (x y : InT l) : ltOf (cfN cs l) x y = decide (cmpB cs x.1.r y.1.r < 0) := rfl
theorem swoN (cs : List Int) (l : List Itm) : SWO (ltOf (cfN cs l)) where
  irrefl x := by rw [ltN, cmpB_self]; rfl
  trans x y z h1 h2 := by
    rw [ltN, decide_eq_true_eq] at *
    exact (cmpB_trans cs _ _ _ (by omega) (by omega)).2 (Or.inl h1)
  ntrans x y z h1 h2 := by
    rw [ltN, decide_eq_false_iff_not] at *
    have e1 := cmpB_flip cs x.1.r y.1.r
    have e2 := cmpB_flip cs y.1.r z.1.r
    have e3 := cmpB_flip cs x.1.r z.1.r
    have := (cmpB_trans cs z.1.r y.1.r x.1.r (by omega) (by omega)).1
    omega

theorem sortN (cs : List Int) (B : Nat) (w0 : World) (hO : OrdV w0 B cs) (g cap : Nat) (l : List Itm) (w : World) (h02 : Go.RowKit.Below w0.heap.size w0 w) (hg0 : w0.heap.size ≤ g) (hl0 : l ≠ []) (hrow : RowG encT 2 w (some ⟨g, 0, none⟩) l) (hf : ∀ j, w.frozen? ⟨g, j, none⟩ = false) (hg : g < w.heap.size) (he : ∀ x ∈ l, RowI w x.p x.r ∧ x.r.length ≤ maxLen ∧ (x.p = none → x.c = 0) ∧ (∀ a, x.p = some a → x.r ≠ [] → a.block ≠ g)) (hc : ∀ x ∈ l, Cols cs x.r) (hsz : l.length < 4611686018427387904) :
    Calls Tryd.prog 26 #[.slice (some ⟨g, 0, none⟩) l.length cap, .func (.func 27) #[] #[.pointer (some ⟨B, 0, none⟩)]] w fun e w' => e = .returned (.tuple #[]) ∧ (∃ S : List Itm, S.Perm l ∧ (S.map Itm.z).Pairwise (fun x y => cmpB cs x.1 y.1 ≤ 0) ∧ Items w' (some ⟨g, 0, none⟩) S) ∧ ∀ base, base ≤ g → base ≤ w.heap.size → Go.RowKit.Below base w w' := by
  obtain ⟨x0, hx0⟩ : ∃ x, x ∈ l := List.exists_mem_of_ne_nil l hl0
  haveI : Inhabited (InT l) := ⟨⟨x0, hx0⟩⟩
  have hcl : CmpLays Tryd.prog 27 #[.pointer (some ⟨B, 0, none⟩)] (encIn l) 2 (cfN cs l) g 0 l.attach.toArray.size w := fun m os dk _ x y =>
    cmpN_any cs B x.1 y.1 _ (hO.below (h02.trans (below_sortT hg0 h02.size))) (rowI_sortW (he _ x.2).1 (he _ x.2).2.2.2) (rowI_sortW (he _ y.2).1 (he _ y.2).2.2.2) (he _ x.2).2.1 (he _ y.2).2.1 (hc _ x.2) (hc _ y.2)
  have hcon := AnyQ.slices_SortFunc Tryd.sortItm 2 Tryd.isAgg41 Tryd.sizeOf41 (encIn l) (fun _ => rfl) (fun x => encT_one x.1) (cfN cs l) (swoN cs l) 27 #[.pointer (some ⟨B, 0, none⟩)] g 0 cap l.attach.toArray w (enters_of Tryd.func27 (by kernel_rfl) rfl) hcl (holdsT hrow hf) hg (by simpa using hsz)
  change Calls Tryd.prog 26 _ _ _ at hcon
  simp only [List.size_toArray, List.length_attach] at hcon
  refine hcon.mono ?_
  rintro e w' ⟨he', d', n, os, hp, hs, hw⟩
  obtain ⟨hsz', _, hperm⟩ := hp
  simp only [List.size_toArray, List.length_attach] at hsz'
  have e1 : d'.extract 0 l.length = d' := by rw [← hsz']; exact Array.extract_size
  have e2 : (l.attach.toArray.extract 0 l.length).toList = l.attach := by simp only [List.extract_toArray, List.drop_zero, Nat.sub_zero, List.extract_eq_take_drop]; exact List.take_of_length_le (by simp)
  rw [e1, e2] at hperm
  have hpm : (d'.toList.map Subtype.val).Perm l := by have := hperm.map Subtype.val; rwa [attach_val] at this
  refine ⟨he', ⟨d'.toList.map Subtype.val, hpm, ?_, ?_, ?_⟩, fun base h1 h2 => by rw [hw]; exact below_sortT h1 h2⟩
  · rw [List.map_map, List.pairwise_map, List.pairwise_iff_getElem]
    intro i j hi hj hij
    have hi' : i < d'.size := by simpa using hi
    have hj' : j < d'.size := by simpa using hj
    have := hs i j (Nat.zero_le _) hij (by omega)
    rw [getElem!_pos d' j hj', getElem!_pos d' i hi', ltN, decide_eq_false_iff_not] at this
    have e3 := cmpB_flip cs (d'[j]'hj').1.r (d'[i]'hi').1.r
    show cmpB cs (d'[i]'hi').1.r (d'[j]'hj').1.r ≤ 0
    omega
  · have hH' : HoldsK (encIn l) 2 w' g 0 d' := by
      rw [hw]
      refine holdsK_grow _ _ _ _ _ _ _ (by simp [putRowK]; exact hg) ?_
      exact holdsK_putRowK _ _ _ _ _ l.attach.toArray _ (holdsK_ahead _ _ _ _ _ _ _ (holdsT hrow hf)) (by simp [hsz'])
    exact rowKT hH' (by rw [hw]; exact Nat.lt_of_lt_of_le hg sortW_size)
  · intro x hx
    have hx' := he x (hpm.mem_iff.1 hx)
    rw [hw]
    exact ⟨rowI_sortW hx'.1 hx'.2.2.2, hx'.2.1, hx'.2.2.1⟩

set_option maxRecDepth 100000 in
set_option maxHeartbeats 1000000 in
theorem inOrder_any (cs : List Int) (u : Value) (l : List Itm) (A : Option Addr) (cap : Nat) (w : World) (hl : l.length ≤ 400) (h : Lv w A cap l) (hO : OrdF w cs u) (hc : ∀ x ∈ l, Cols cs x.r) :
    Calls Tryd.prog 15 #[.slice A l.length cap, u] w fun e w' => ∃ (S : List Itm) (C : Option Addr) (k : Nat), e = .returned (.slice C S.length k) ∧ S.Perm l ∧ (S.map Itm.z).Pairwise (fun x y => cmpB cs x.1 y.1 ≤ 0) ∧ Lv w' C k S ∧ Below w.heap.size w w' := by
  have hmf : ∀ (fn : Fn) (first cap : Array Value) (w : World), (Instr.makeFunc fn first cap).run Tryd.prog w = .ok (.func fn first cap) w := fun _ _ _ _ => rfl
  obtain ⟨G, gc, rfl, _⟩ := hO.form
  obtain ⟨W1, hW1⟩ : ∃ W1, w.alloc (.cells #[.func (.func G) #[] gc] 38) = W1 := ⟨_, rfl⟩
  have hg1 : Hid (Gr w W1) := by show Gr _ _; rw [← hW1]; exact (Gr.refl _).alloc _
  have hO1 : Hid (OrdV W1 w.heap.size cs) := by
    show OrdV _ _ _
    refine ⟨.func (.func G) #[] gc, by rw [← hW1]; exact box1 (w := w) (Gr.refl _) rfl, hO.gr hg1.out, by rw [← hW1]; simp⟩
  have hH : Hid (Lv w A cap l ∧ ∀ x ∈ l, Cols cs x.r) := ⟨h, hc⟩
  clear hO h hc
  have hap : Hid (RowG encT 2 W1 A l ∧ (A = none → cap = 0) ∧ ([] : List Itm).length + l.length ≤ maxLen ∧ (([] : List Itm).length + l.length) * 32 ≤ 140737488355328) := ⟨(hH.out.1.gr hg1.out).items.row, hH.out.1.nil, by unfold maxLen; simp; omega, by simp; omega⟩
  go_enter Tryd.func15, Tryd.ntmps15
  go_wp2_with (at_builtin; refine wpList_append_ts _ rfl _ _ rfl W1.heap.size (.slice none 0 0) [] l A cap rfl rfl (OwnG.nil _ _ _ _ _) hap.out.1 hap.out.2.1 hap.out.2.2.1 hap.out.2.2.2 (Nat.le_refl _) ?_)
  intro v2 w2 hown2 hgr2
  clear hW1
  have hb2 : Hid (Below W1.heap.size W1 w2) := below_none hgr2
  obtain ⟨C, k, rfl, hC, hrow, hcap, hlt, hfz⟩ := OwnG.full encT_len hown2
  have hbw2 : Hid (Below w.heap.size w w2) := hg1.out.below.trans (hb2.out.mono hg1.out.size)
  by_cases h0 : l = []
  · subst h0
    have hS0 := AnyF.slices_SortFunc_none Tryd.sortItm C k (.func (.func 27) #[] #[.pointer (some ⟨w.heap.size, 0, none⟩)]) w2
    change Calls Tryd.prog 26 _ _ _ at hS0
    have hS : Hid _ := hS0
    have hfin : Hid (NilC C 0 k) := NilC.mk hC (Nat.zero_le _)
    clear hS0 hown2 hgr2 hC hrow hcap hlt hfz
    go_wp2_with fail
    refine Calls.mono (show Calls _ _ _ _ _ from hS.out) ?_
    rintro e w3 ⟨rfl, hw3⟩
    subst w3
    clear hS
    go_wp2
    go_ret
    exact ⟨[], C, k, rfl, List.Perm.refl _, List.Pairwise.nil, ⟨⟨Or.inl rfl, fun x hx => by cases hx⟩, hfin.out, by simp⟩, hbw2.out⟩
  · have hpos : 0 < l.length := List.length_pos_iff.2 h0
    obtain ⟨b, off, hAe, hbb, _⟩ := hrow.at hpos
    subst hAe
    have h5 := hlt _ rfl
    obtain rfl : off = 0 := h5.2.2.1
    have hS0 := sortN cs w.heap.size W1 hO1.out b k l w2 hb2.out h5.1 h0 hrow (hfz _ rfl) hbb (fun x hx => by
      have hx1 := (hH.out.1.items.each x hx)
      refine ⟨hx1.1.below hbw2.out, hx1.2.1, hx1.2.2, fun a ha hr => ?_⟩
      have h7 := hx1.1.lt a ha hr
      have h8 : W1.heap.size ≤ b := h5.1
      have := hg1.out.size
      omega) hH.out.2 (by omega)
    have hS : Hid _ := hS0
    have hk : Hid (W1.heap.size ≤ b ∧ l.length ≤ k) := ⟨h5.1, hcap⟩
    clear hS0 hown2 hgr2 hC hrow hcap hlt hfz h5
    go_wp2_with fail
    refine Calls.mono (show Calls _ _ _ _ _ from hS.out) ?_
    rintro e w3 ⟨rfl, ⟨S, s1, s2, s3⟩, s4⟩
    have hl2 := s1.length_eq
    have hfin : Hid (S.Perm l ∧ (S.map Itm.z).Pairwise (fun x y => cmpB cs x.1 y.1 ≤ 0) ∧ Lv w3 (some ⟨b, 0, none⟩) k S ∧ Below w.heap.size w w3) := by
      refine ⟨s1, s2, ⟨s3, NilC.mk (fun h => by cases h) (by rw [hl2]; exact hk.out.2), by unfold maxLen; omega⟩, hbw2.out.trans (s4 w.heap.size ?_ hbw2.out.size)⟩
      have := hg1.out.size
      have := hk.out.1
      omega
    have hl2H : Hid (S.length = l.length) := hl2
    clear hS s1 s2 s3 s4 hl2
    go_wp2
    go_ret
    exact ⟨S, _, k, by rw [hl2H.out]; rfl, hfin.out⟩
end Go.Proofs.YteobmedkngdnkaaDoor
