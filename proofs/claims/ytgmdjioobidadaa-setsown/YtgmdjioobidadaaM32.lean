/-
  rank.inOrder: the items by an order that is held in closures.
  rank.firstRows: the first rows of some items, each in memory of its own.
-/
import Derived.Test.YtgmdjioobidadaaM31
import Derived.Test.YtgmdjioobidadaaM07
namespace Go.Proofs.Ytgmdjioobidadaa
open Go.RowKit Go.Sort Go.Shelf Go.Lib

/-- A variable that holds an order. -/
def OrdV (w : World) (B : Nat) (cs : List Int) : Prop := ∃ v, w.cell? ⟨B, 0, none⟩ = some v ∧ OrdF w cs v ∧ B < w.heap.size
theorem OrdV.below {w w' : World} {B : Nat} {cs : List Int} (h : OrdV w B cs) (q : Below w.heap.size w w') : OrdV w' B cs := by
  obtain ⟨v, h1, h2, h3⟩ := h
  exact ⟨v, (q.cell (p := ⟨B, 0, none⟩) h3).trans h1, OrdF.below q h2, Nat.lt_of_lt_of_le h3 q.size⟩
theorem OrdV.gr {w w' : World} {B : Nat} {cs : List Int} (h : OrdV w B cs) (q : Gr w w') : OrdV w' B cs := h.below q.below
def Cols (cs : List Int) (r : List Int) : Prop := ∀ n ∈ cs, n ≠ 0 ∧ colB n < r.length

set_option maxRecDepth 100000 in
set_option maxHeartbeats 1000000 in
theorem cmpN_any (cs : List Int) (B : Nat) (x y : Itm) (w : World) (hO : OrdV w B cs) (hx : RowI w x.p x.r) (hy : RowI w y.p y.r) (hxl : x.r.length ≤ maxLen) (hyl : y.r.length ≤ maxLen) (cx : Cols cs x.r) (cy : Cols cs y.r) :
    Calls Try.prog 42 (#[.agg (encT x).toArray, .agg (encT y).toArray] ++ #[.pointer (some ⟨B, 0, none⟩)]) w fun e w' => e = .returned (.int .i64 (cmpB cs x.r y.r)) ∧ ∃ q os', w' = grow (w.drewN q) os' := by
  obtain ⟨v, c0, hF, hB⟩ := hO
  obtain ⟨G, gc, rfl, eg⟩ := hF.form
  obtain ⟨WX, hWX⟩ : ∃ WX, ((w.alloc (.cells #[.slice x.p x.r.length x.c, .int .i64 x.n] 45)).alloc (.cells #[.slice y.p y.r.length y.c, .int .i64 y.n] 45)) = WX := ⟨_, rfl⟩
  have hg : Gr w WX := by rw [← hWX]; exact ((Gr.refl _).alloc _).alloc _
  have hC0 := ordF_any x.r y.r x.p y.p x.c y.c hxl hyl cs G gc WX (hF.gr hg) (hx.gr hg) (hy.gr hg) (fun n hn => ⟨(cx n hn).1, (cx n hn).2, (cy n hn).2⟩)
  have hC : Hid _ := hC0
  have x0 : WX.cell? ⟨w.heap.size, 0, none⟩ = some (.slice x.p x.r.length x.c) := by rw [← hWX]; exact box1 (w := w) ((Gr.refl _).alloc _) rfl
  have x1 : WX.cell? ⟨w.heap.size + 1, 0, none⟩ = some (.slice y.p y.r.length y.c) := by rw [← hWX]; exact box2 (w := w) (Gr.refl _) rfl
  have x2 : WX.cell? ⟨B, 0, none⟩ = some (.func (.func G) #[] gc) := (hg.cell (p := ⟨B, 0, none⟩) hB).trans c0
  have hgH : Hid (Gr w WX) := hg
  clear hC0 hF hx hy hxl hyl cx cy hg c0
  show Calls Try.prog 42 #[.agg #[.slice x.p x.r.length x.c, .int .i64 x.n], .agg #[.slice y.p y.r.length y.c, .int .i64 y.n], .pointer (some ⟨B, 0, none⟩)] w _
  go_enter Try.func42, Try.ntmps42
  go_wp2_with fail
  refine Calls.mono (show Calls _ _ _ _ _ from hC.out) ?_
  rintro e w2 ⟨rfl, hg2⟩
  have hfin : Hid (Gr w w2) := hgH.out.trans hg2
  clear hC hg2
  go_wp2
  go_ret
  exact ⟨rfl, hfin.out⟩

def cfN (cs : List Int) (l : List Itm) (x y : InT l) : Int := cmpB cs x.1.r y.1.r
theorem ltN (cs : List Int) (l : List Itm) (x y : InT l) : ltOf (cfN cs l) x y = decide (cmpB cs x.1.r y.1.r < 0) := rfl
theorem swoN (cs : List Int) (l : List Itm) : SWO (ltOf (cfN cs l)) where
  irrefl x := by rw [ltN, cmpB_self]; rfl
  trans x y z h1 h2 := by
    rw [ltN, decide_eq_true_eq] at *
    exact (cmpB_trans cs _ _ _ (by omega) (by omega)).2 (Or.inl h1)
  ntrans x y z h1 h2 := by
    rw [ltN, decide_eq_false_iff_not] at *
    have e1 := cmpB_flip cs x.1.r y.1.r
    have e2 := cmpB_flip cs y.1.r z.1.r
    have e3 := cmpB_flip cs x.1.r z.1.r
    have := (cmpB_trans cs z.1.r y.1.r x.1.r (by omega) (by omega)).1
    omega

theorem sortN (cs : List Int) (B : Nat) (w0 : World) (hO : OrdV w0 B cs) (g cap : Nat) (l : List Itm) (w : World) (h02 : Go.RowKit.Below w0.heap.size w0 w) (hg0 : w0.heap.size ≤ g) (hl0 : l ≠ []) (hrow : RowG encT 2 w (some ⟨g, 0, none⟩) l) (hf : ∀ j, w.frozen? ⟨g, j, none⟩ = false) (hg : g < w.heap.size) (he : ∀ x ∈ l, RowI w x.p x.r ∧ x.r.length ≤ maxLen ∧ (x.p = none → x.c = 0) ∧ (∀ a, x.p = some a → x.r ≠ [] → a.block ≠ g)) (hc : ∀ x ∈ l, Cols cs x.r) (hsz : l.length < 4611686018427387904) :
    Calls Try.prog 40 #[.slice (some ⟨g, 0, none⟩) l.length cap, .func (.func 42) #[] #[.pointer (some ⟨B, 0, none⟩)]] w fun e w' => e = .returned (.tuple #[]) ∧ (∃ S : List Itm, S.Perm l ∧ (S.map Itm.z).Pairwise (fun x y => cmpB cs x.1 y.1 ≤ 0) ∧ Items w' (some ⟨g, 0, none⟩) S) ∧ ∀ base, base ≤ g → base ≤ w.heap.size → Go.RowKit.Below base w w' := by
  obtain ⟨x0, hx0⟩ : ∃ x, x ∈ l := List.exists_mem_of_ne_nil l hl0
  haveI : Inhabited (InT l) := ⟨⟨x0, hx0⟩⟩
  have hcl : CmpLays Try.prog 42 #[.pointer (some ⟨B, 0, none⟩)] (encIn l) 2 (cfN cs l) g 0 l.attach.toArray.size w := fun m os dk _ x y =>
    cmpN_any cs B x.1 y.1 _ (hO.below (h02.trans (below_sortT hg0 h02.size))) (rowI_sortW (he _ x.2).1 (he _ x.2).2.2.2) (rowI_sortW (he _ y.2).1 (he _ y.2).2.2.2) (he _ x.2).2.1 (he _ y.2).2.1 (hc _ x.2) (hc _ y.2)
  have hcon := AnyQ.slices_SortFunc Try.sortItm 2 Try.isAgg45 Try.sizeOf45 (encIn l) (fun _ => rfl) (fun x => encT_one x.1) (cfN cs l) (swoN cs l) 42 #[.pointer (some ⟨B, 0, none⟩)] g 0 cap l.attach.toArray w (enters_of Try.func42 (by kernel_rfl) rfl) hcl (holdsT hrow hf) hg (by simpa using hsz)
  change Calls Try.prog 40 _ _ _ at hcon
  simp only [List.size_toArray, List.length_attach] at hcon
  refine hcon.mono ?_
  rintro e w' ⟨he', d', n, os, hp, hs, hw⟩
  obtain ⟨hsz', _, hperm⟩ := hp
  simp only [List.size_toArray, List.length_attach] at hsz'
  have e1 : d'.extract 0 l.length = d' := by rw [← hsz']; exact Array.extract_size
  have e2 : (l.attach.toArray.extract 0 l.length).toList = l.attach := by simp only [List.extract_toArray, List.drop_zero, Nat.sub_zero, List.extract_eq_take_drop]; exact List.take_of_length_le (by simp)
  rw [e1, e2] at hperm
  have hpm : (d'.toList.map Subtype.val).Perm l := by have := hperm.map Subtype.val; rwa [attach_val] at this
  refine ⟨he', ⟨d'.toList.map Subtype.val, hpm, ?_, ?_, ?_⟩, fun base h1 h2 => by rw [hw]; exact below_sortT h1 h2⟩
  · rw [List.map_map, List.pairwise_map, List.pairwise_iff_getElem]
    intro i j hi hj hij
    have hi' : i < d'.size := by simpa using hi
    have hj' : j < d'.size := by simpa using hj
    have := hs i j (Nat.zero_le _) hij (by omega)
    rw [getElem!_pos d' j hj', getElem!_pos d' i hi', ltN, decide_eq_false_iff_not] at this
    have e3 := cmpB_flip cs (d'[j]'hj').1.r (d'[i]'hi').1.r
    show cmpB cs (d'[i]'hi').1.r (d'[j]'hj').1.r ≤ 0
    omega
  · have hH' : HoldsK (encIn l) 2 w' g 0 d' := by
      rw [hw]
      refine holdsK_grow _ _ _ _ _ _ _ (by simp [putRowK]; exact hg) ?_
      exact holdsK_putRowK _ _ _ _ _ l.attach.toArray _ (holdsK_ahead _ _ _ _ _ _ _ (holdsT hrow hf)) (by simp [hsz'])
    exact rowKT hH' (by rw [hw]; exact Nat.lt_of_lt_of_le hg sortW_size)
  · intro x hx
    have hx' := he x (hpm.mem_iff.1 hx)
    rw [hw]
    exact ⟨rowI_sortW hx'.1 hx'.2.2.2, hx'.2.1, hx'.2.2.1⟩

set_option maxRecDepth 100000 in
set_option maxHeartbeats 1000000 in
theorem inOrder_any (cs : List Int) (u : Value) (l : List Itm) (A : Option Addr) (cap : Nat) (w : World) (hl : l.length ≤ 400) (h : Lv w A cap l) (hO : OrdF w cs u) (hc : ∀ x ∈ l, Cols cs x.r) :
    Calls Try.prog 28 #[.slice A l.length cap, u] w fun e w' => ∃ (S : List Itm) (C : Option Addr) (k : Nat), e = .returned (.slice C S.length k) ∧ S.Perm l ∧ (S.map Itm.z).Pairwise (fun x y => cmpB cs x.1 y.1 ≤ 0) ∧ Lv w' C k S ∧ Below w.heap.size w w' := by
  have hmf : ∀ (fn : Fn) (first cap : Array Value) (w : World), (Instr.makeFunc fn first cap).run Try.prog w = .ok (.func fn first cap) w := fun _ _ _ _ => rfl
  obtain ⟨G, gc, rfl, _⟩ := hO.form
  obtain ⟨W1, hW1⟩ : ∃ W1, w.alloc (.cells #[.func (.func G) #[] gc] 60) = W1 := ⟨_, rfl⟩
  have hg1 : Hid (Gr w W1) := by show Gr _ _; rw [← hW1]; exact (Gr.refl _).alloc _
  have hO1 : Hid (OrdV W1 w.heap.size cs) := by
    show OrdV _ _ _
    refine ⟨.func (.func G) #[] gc, by rw [← hW1]; exact box1 (w := w) (Gr.refl _) rfl, hO.gr hg1.out, by rw [← hW1]; simp⟩
  have hH : Hid (Lv w A cap l ∧ ∀ x ∈ l, Cols cs x.r) := ⟨h, hc⟩
  clear hO h hc
  have hap : Hid (RowG encT 2 W1 A l ∧ (A = none → cap = 0) ∧ ([] : List Itm).length + l.length ≤ maxLen ∧ (([] : List Itm).length + l.length) * 32 ≤ 140737488355328) := ⟨(hH.out.1.gr hg1.out).items.row, hH.out.1.nil, by unfold maxLen; simp; omega, by simp; omega⟩
  go_enter Try.func28, Try.ntmps28
  go_wp2_with (at_builtin; refine wpList_append_ts _ rfl _ _ rfl W1.heap.size (.slice none 0 0) [] l A cap rfl rfl (OwnG.nil _ _ _ _ _) hap.out.1 hap.out.2.1 hap.out.2.2.1 hap.out.2.2.2 (Nat.le_refl _) ?_)
  intro v2 w2 hown2 hgr2
  clear hW1
  have hb2 : Hid (Below W1.heap.size W1 w2) := below_none hgr2
  obtain ⟨C, k, rfl, hC, hrow, hcap, hlt, hfz⟩ := OwnG.full encT_len hown2
  have hbw2 : Hid (Below w.heap.size w w2) := hg1.out.below.trans (hb2.out.mono hg1.out.size)
  by_cases h0 : l = []
  · subst h0
    have hS0 := AnyF.slices_SortFunc_none Try.sortItm C k (.func (.func 42) #[] #[.pointer (some ⟨w.heap.size, 0, none⟩)]) w2
    change Calls Try.prog 40 _ _ _ at hS0
    have hS : Hid _ := hS0
    have hfin : Hid (NilC C 0 k) := NilC.mk hC (Nat.zero_le _)
    clear hS0 hown2 hgr2 hC hrow hcap hlt hfz
    go_wp2_with fail
    refine Calls.mono (show Calls _ _ _ _ _ from hS.out) ?_
    rintro e w3 ⟨rfl, hw3⟩
    subst w3
    clear hS
    go_wp2
    go_ret
    exact ⟨[], C, k, rfl, List.Perm.refl _, List.Pairwise.nil, ⟨⟨Or.inl rfl, fun x hx => by cases hx⟩, hfin.out, by simp⟩, hbw2.out⟩
  · have hpos : 0 < l.length := List.length_pos_iff.2 h0
    obtain ⟨b, off, hAe, hbb, _⟩ := hrow.at hpos
    subst hAe
    have h5 := hlt _ rfl
    obtain rfl : off = 0 := h5.2.2.1
    have hS0 := sortN cs w.heap.size W1 hO1.out b k l w2 hb2.out h5.1 h0 hrow (hfz _ rfl) hbb (fun x hx => by
      have hx1 := (hH.out.1.items.each x hx)
      refine ⟨hx1.1.below hbw2.out, hx1.2.1, hx1.2.2, fun a ha hr => ?_⟩
      have h7 := hx1.1.lt a ha hr
      have h8 : W1.heap.size ≤ b := h5.1
      have := hg1.out.size
      omega) hH.out.2 (by omega)
    have hS : Hid _ := hS0
    have hk : Hid (W1.heap.size ≤ b ∧ l.length ≤ k) := ⟨h5.1, hcap⟩
    clear hS0 hown2 hgr2 hC hrow hcap hlt hfz h5
    go_wp2_with fail
    refine Calls.mono (show Calls _ _ _ _ _ from hS.out) ?_
    rintro e w3 ⟨rfl, ⟨S, s1, s2, s3⟩, s4⟩
    have hl2 := s1.length_eq
    have hfin : Hid (S.Perm l ∧ (S.map Itm.z).Pairwise (fun x y => cmpB cs x.1 y.1 ≤ 0) ∧ Lv w3 (some ⟨b, 0, none⟩) k S ∧ Below w.heap.size w w3) := by
      refine ⟨s1, s2, ⟨s3, NilC.mk (fun h => by cases h) (by rw [hl2]; exact hk.out.2), by unfold maxLen; omega⟩, hbw2.out.trans (s4 w.heap.size ?_ hbw2.out.size)⟩
      have := hg1.out.size
      have := hk.out.1
      omega
    have hl2H : Hid (S.length = l.length) := hl2
    clear hS s1 s2 s3 s4 hl2
    go_wp2
    go_ret
    exact ⟨S, _, k, by rw [hl2H.out]; rfl, hfin.out⟩
end Go.Proofs.Ytgmdjioobidadaa

namespace Go.Proofs.Ytgmdjioobidadaa
open Go.RowKit Go.Sort

/-- A row alone. -/
def encW (x : Itm) : List Value := [.slice x.p x.r.length x.c]
theorem encW_len (x : Itm) : (encW x).length = 1 := rfl
theorem encW_one (x : Itm) : ∀ u ∈ encW x, u.oneCell' = true := by
  intro u hu
  simp [encW] at hu
  rw [hu]; rfl
theorem Try.infoW : (Try.prog.info? 24).map (fun i => (i.zero, i.size, i.bytes)) = some (some (.slice none 0 0), 1, 24) := by kernel_rfl
theorem wpList_append_w (w : World) {ops : Array Oper} {rest : List Oper} {o : Oper} {a : Act} {Q : Exit → Act → World → Prop} (hgd : o.guard = none) (s x : Operand)
    (ho : o.op = .call { callee := .builtin .append, args := #[s, x], argTypes := #[35, 35] })
    (base : Nat) (v : Value) (l m : List Itm) (A : Option Addr) (cap : Nat) (hs : a.eval s = v) (hx : a.eval x = .slice A m.length cap) (hown : OwnG encW 1 24 w base v l) (hr : RowG encW 1 w A m) (hA : A = none → cap = 0)
    (hml : l.length + m.length ≤ maxLen) (hb : (l.length + m.length) * 24 ≤ 140737488355328) (hbase : base ≤ w.heap.size)
    (h : ∀ v' w', OwnG encW 1 24 w' base v' (l ++ m) → w.grownBy w' v.ownBlock → wpList Try.prog ops Q rest (a.put o.dst v') w') : wpList Try.prog ops Q (o :: rest) a w :=
  wpList_plain hgd fun _ hK => wp_append_g encW_len encW_one (by omega) 35 Try.underlying35 (.slice none 0 0) 24 Try.infoW rfl w s x ho base v l m A cap hs hx hown hr hA hml hb hbase fun v' w' h2 h3 => hK _ _ (h v' w' h2 h3)
theorem OwnG.keepN {α : Type} {enc : α → List Value} {k : Nat} {e : TypeId} {w w' : World} {base : Nat} {v : Value} {l : List α} {row : Option Nat} (h : OwnG enc k e w base v l) (hg : w.grownBy w' row) (hne : v.ownBlock = none ∨ v.ownBlock ≠ row) : OwnG enc k e w' base v l := World.ownsRow.kept h hg hne
/-- Blocks of two types are two. -/
theorem ownN_ne {α β : Type} {enc : α → List Value} {enc' : β → List Value} {k k' : Nat} {e e' : TypeId} {w : World} {base base' : Nat} {v v' : Value} {l : List α} {l' : List β} (h : OwnG enc k e w base v l) (h' : OwnG enc' k' e' w base' v' l') (hne : e ≠ e') : v.ownBlock = none ∨ v.ownBlock ≠ v'.ownBlock := by
  rcases h.2 with ⟨hv, _⟩ | ⟨g, cap, cur, hv, _, hg, _⟩
  · exact Or.inl (by rw [hv]; rfl)
  · rcases h'.2 with ⟨hv', _⟩ | ⟨g', cap', cur', hv', _, hg', _⟩
    · refine Or.inr ?_
      rw [hv, hv']; intro k; cases k
    · refine Or.inr ?_
      rw [hv, hv']
      intro k
      have : g = g' := by simpa [Value.ownBlock] using k
      subst this
      rw [hg] at hg'
      simp at hg'
      exact hne hg'.2
def Itm.v (x : Itm) : Value := .slice x.p x.r.length x.c
/-- Rows of the call's own: the list, and each row. -/
structure OwnR (w : World) (base : Nat) (v : Value) (L : List Itm) : Prop where
  own : OwnG encW 1 24 w base v L
  each : ∀ x ∈ L, OwnI w base x.v x.r
theorem OwnR.nil (w : World) (base : Nat) : OwnR w base (.slice none 0 0) [] := ⟨OwnG.nil _ _ _ _ _, fun x hx => by cases hx⟩
theorem OwnR.below {w w' : World} {base : Nat} {v : Value} {L : List Itm} (h : OwnR w base v L) (q : Below w.heap.size w w') : OwnR w' base v L := ⟨h.own.below q, fun x hx => (h.each x hx).below q⟩
theorem OwnR.gr {w w' : World} {base : Nat} {v : Value} {L : List Itm} (h : OwnR w base v L) (q : Gr w w') : OwnR w' base v L := h.below q.below
theorem OwnR.more {w w' : World} {base : Nat} {v v' : Value} {L : List Itm} {x : Itm} (h : OwnR w base v L) (hx : OwnI w base x.v x.r) (ho : OwnG encW 1 24 w' base v' (L ++ [x])) (hg : w.grownBy w' v.ownBlock) : OwnR w' base v' (L ++ [x]) := by
  refine ⟨ho, fun y hy => ?_⟩
  rcases List.mem_append.1 hy with k | k
  · exact (h.each y k).keepN hg (ownN_ne (h.each y k) h.own (by decide))
  · rw [List.mem_singleton.1 k]
    exact hx.keepN hg (ownN_ne hx h.own (by decide))
theorem rowNewW {W : World} {n : Nat} (hn : W.heap.size = n) (x : Itm) (T : TypeId) : RowG encW 1 (W.alloc (.cells #[.slice x.p x.r.length x.c] T)) (some ⟨n, 0, none⟩) [x] := by
  subst hn
  refine Or.inr ⟨W.heap.size, 0, rfl, by simp, fun j hj i hi => ?_⟩
  obtain rfl : j = 0 := by simp at hj; omega
  obtain rfl : i = 0 := by omega
  exact box1 (w := W) (Gr.refl _) (j := 0) rfl
theorem take_more {R : List (List Int)} {r : List Int} {n most : Nat} : R.take most ++ List.replicate (min n (most - (R.take most).length)) r = (R ++ List.replicate n r).take most := by
  rw [List.take_append, List.length_take, List.take_replicate]
  congr 2
  omega
theorem expL_take {l : List Itm} {k : Nat} (h : k < l.length) : expL ((l.take (k + 1)).map Itm.z) = expL ((l.take k).map Itm.z) ++ List.replicate (l[k].n.toNat) l[k].r := by
  rw [List.take_succ_eq_append_getElem h, List.map_append, expL_append]
  congr 1
  show _ ++ [] = _
  rw [List.append_nil]
  rfl
theorem ownNewT (w : World) (x : Itm) : OwnG encT 2 45 (w.alloc (.cells #[.slice x.p x.r.length x.c, .int .i64 x.n] 45)) w.heap.size (.slice (some ⟨w.heap.size, 0, none⟩) 1 1) [x] :=
  ⟨rfl, .inr ⟨w.heap.size, 1, _, rfl, Nat.le_refl _, heap_alloc_new w _, Nat.le_refl _, by unfold maxLen; omega, rfl, rfl⟩⟩
theorem ownNewT_cell {w : World} {B : Nat} {x : Itm} (h : OwnG encT 2 45 w B (.slice (some ⟨B, 0, none⟩) 1 1) [x]) : w.cell? ⟨B, 0, none⟩ = some (.slice x.p x.r.length x.c) := by
  obtain ⟨A, cap, hv, _, hrow, _⟩ := OwnG.full encT_len h
  injection hv with h1 h2 h3
  subst h1
  obtain ⟨b, off, hA, _, hc⟩ := hrow.at (m := 0) (by simp)
  injection hA with hA
  injection hA with h4 h5
  have := hc 0 (by simp) 0 (by omega)
  rw [← h4, ← h5] at this
  simpa [encT] using this
structure FInv (w wr : World) (v : Value) (L : List Itm) (R : List (List Int)) : Prop where
  own : OwnR wr w.heap.size v L
  rows : L.map Itm.r = R
  bel : Below w.heap.size w wr

set_option maxRecDepth 100000 in
set_option maxHeartbeats 2000000 in
theorem firstRows_any (l : List Itm) (A : Option Addr) (cap : Nat) (most : Nat) (w : World) (hl : l.length ≤ 400) (h : Lv w A cap l) (hr : ∀ x ∈ l, x.r.length ≤ 8) (hn : ∀ x ∈ l, 0 ≤ x.n ∧ x.n ≤ 400) (hm : most ≤ 400) :
    Calls Try.prog 27 #[.slice A l.length cap, .int .i64 most] w fun e w' => ∃ (v : Value) (L : List Itm), e = .returned v ∧ OwnR w' w.heap.size v L ∧ L.map Itm.r = (expL (l.map Itm.z)).take most ∧ Below w.heap.size w w' := by
  have hH : Hid (Lv w A cap l ∧ (∀ x ∈ l, x.r.length ≤ 8) ∧ (∀ x ∈ l, 0 ≤ x.n ∧ x.n ≤ 400)) := ⟨h, hr, hn⟩
  clear h hr hn
  go_enter Try.func27, Try.ntmps27
  go_wp2
  go_loopw [5, 10] (fun v i wr => ∃ (k : Nat) (L : List Itm), k ≤ l.length ∧ i = .int .i64 k ∧ Hid (FInv w wr v L ((expL ((l.take k).map Itm.z)).take most))) (fun _ i _ => l.length - (intOf i).toNat)
  case atStart => exact ⟨0, [], Nat.zero_le _, rfl, show FInv _ _ _ _ _ from ⟨OwnR.nil _ _, by simp [expL], Below.refl _ _⟩⟩
  case round =>
    rename World => wr0
    obtain ⟨k, L, hk, rfl, hR⟩ := hrel
    by_cases hlt : k < l.length
    · have hltz : (k : Int) < (l.length : Int) := by omega
      have hI : Hid (Lv wr0 A cap l) := hH.out.1.below hR.out.bel
      obtain ⟨bb, off, rfl, hb, hcs⟩ := hI.out.items.at hlt
      obtain ⟨x, hx⟩ : ∃ x, l[k] = x := ⟨_, rfl⟩
      obtain ⟨e0, e1⟩ := hcs k hlt
      rw [hx] at e0 e1
      have hxm : x ∈ l := by rw [← hx]; exact List.getElem_mem hlt
      have hX : Hid (RowI wr0 x.p x.r ∧ (x.p = none → x.c = 0) ∧ x.r.length ≤ 8 ∧ 0 ≤ x.n ∧ x.n ≤ 400) := ⟨(hI.out.items.each x hxm).1, (hI.out.items.each x hxm).2.2, hH.out.2.1 x hxm, hH.out.2.2 x hxm⟩
      obtain ⟨v0, cv, hv5, _⟩ := OwnG.full encW_len hR.out.own.own
      have hLl : L.length ≤ most := by
        have := congrArg List.length hR.out.rows
        rw [List.length_map, List.length_take] at this
        omega
      obtain ⟨mm, hmm⟩ : ∃ mm : Nat, min x.n.toNat (most - L.length) = mm := ⟨_, rfl⟩
      have hnext : Hid ((expL ((l.take k).map Itm.z)).take most ++ List.replicate mm x.r = (expL ((l.take (k + 1)).map Itm.z)).take most) := by
        show _ = _
        rw [expL_take hlt, hx, ← take_more, ← hmm, ← hR.out.rows, List.length_map]
      have hmz : min x.n ((most : Int) - (L.length : Int)) = (mm : Int) := by
        have h1 := hX.out.2.2.2.1
        omega
      have hm4 : mm ≤ 400 := by omega
      obtain ⟨WX, hWX⟩ : ∃ WX, (wr0.alloc (.cells #[.slice x.p x.r.length x.c, .int .i64 x.n] 45)) = WX := ⟨_, rfl⟩
      have hgX : Hid (Gr wr0 WX) := by show Gr _ _; rw [← hWX]; exact (Gr.refl _).alloc _
      have hXs : Hid (wr0.heap.size < WX.heap.size) := by show _ < _; rw [← hWX]; simp
      have x0 : WX.cell? ⟨wr0.heap.size, 0, none⟩ = some (.slice x.p x.r.length x.c) := by rw [← hWX]; exact box1 (w := wr0) (Gr.refl _) rfl
      have x1 : WX.cell? ⟨wr0.heap.size, 1, none⟩ = some (.int .i64 x.n) := by rw [← hWX]; exact box1 (w := wr0) (Gr.refl _) rfl
      have hoX : OwnG encT 2 45 WX wr0.heap.size (.slice (some ⟨wr0.heap.size, 0, none⟩) 1 1) [x] := by rw [← hWX]; exact ownNewT wr0 x
      obtain ⟨R, hRe⟩ : ∃ R, (expL ((l.take k).map Itm.z)).take most = R := ⟨_, rfl⟩
      have hXX : Hid (FInv w WX u5 L R ∧ OwnG encT 2 45 WX wr0.heap.size (.slice (some ⟨wr0.heap.size, 0, none⟩) 1 1) [x] ∧ w.heap.size ≤ wr0.heap.size ∧ L.length ≤ 400) := ⟨⟨hR.out.own.gr hgX.out, by rw [← hRe]; exact hR.out.rows, hR.out.bel.trans (hgX.out.below.mono hR.out.bel.size)⟩, hoX, hR.out.bel.size, by omega⟩
      rw [hRe] at hnext
      subst hv5
      have hxw : Hid (RowI w x.p x.r ∧ (x.p = none → x.c = 0) ∧ x.r.length ≤ 8) := ⟨(hH.out.1.items.each x (by rw [← hx]; exact List.getElem_mem hlt)).1, hX.out.2.1, hX.out.2.2.1⟩
      clear hcs hx hxm hmm hR hI hoX hRe hX
      go_wp2
      clear x0 x1 hWX hgX hXs e0 e1 hmz hLl
      generalize wr0.heap.size = XB at *
      go_loopw [5, 21] (fun v j wr => ∃ (m : Nat) (M : List Itm), m ≤ mm ∧ j = .int .i64 m ∧ Hid (FInv w wr v M (R ++ List.replicate m x.r) ∧ OwnG encT 2 45 wr XB (.slice (some ⟨XB, 0, none⟩) 1 1) [x] ∧ M.length ≤ 400 + m)) (fun _ j _ => mm - (intOf j).toNat)
      case atStart => exact ⟨0, L, Nat.zero_le _, rfl, by rw [List.replicate_zero, List.append_nil]; exact hXX.out.1, hXX.out.2.1, hXX.out.2.2.2⟩
      case round =>
        rename World => wr1
        obtain ⟨m, M, hm2, rfl, hR⟩ := hrel
        by_cases hlt2 : m < mm
        · have hltz2 : (m : Int) < (mm : Int) := by omega
          have x0 := ownNewT_cell hR.out.2.1
          have hap : Hid (RowI wr1 x.p x.r ∧ (x.p = none → x.c = 0) ∧ ([] : List Int).length + x.r.length ≤ maxLen ∧ (([] : List Int).length + x.r.length) * 8 ≤ 140737488355328 ∧ w.heap.size ≤ wr1.heap.size) := ⟨hxw.out.1.below hR.out.1.bel, hxw.out.2.1, by have := hxw.out.2.2; unfold maxLen; simp; omega, by have := hxw.out.2.2; simp; omega, hR.out.1.bel.size⟩
          obtain ⟨v1, cv1, hv1, _⟩ := OwnG.full encW_len hR.out.1.own.own
          subst hv1
          go_wp2_with (at_builtin; refine wpList_append_i _ rfl (.const (.slice none 0 0)) (.tmp 25) rfl w.heap.size (.slice none 0 0) [] x.r x.p x.c rfl rfl (OwnG.nil _ _ _ _ _) hap.out.1 hap.out.2.1 hap.out.2.2.1 hap.out.2.2.2.1 hap.out.2.2.2.2 ?_)
          intro v3 w3 hown3 hg3
          have hb3 := below_none hg3
          obtain ⟨C, c3, rfl, _⟩ := OwnG.full encI_len hown3
          obtain ⟨W4, hW4⟩ : ∃ W4, (w3.alloc (.cells #[.slice C x.r.length c3] 24)) = W4 := ⟨_, rfl⟩
          have hg4 : Gr w3 W4 := by rw [← hW4]; exact (Gr.refl _).alloc _
          have hrow4 : RowG encW 1 W4 (some ⟨w3.heap.size, 0, none⟩) [⟨C, c3, x.r, 0⟩] := by rw [← hW4]; exact rowNewW rfl ⟨C, c3, x.r, 0⟩ _
          have hb14 := hb3.trans (hg4.below.mono hb3.size)
          have hbw4 := hR.out.1.bel.trans (hb14.mono hR.out.1.bel.size)
          have hX4 : Hid (OwnR W4 w.heap.size (.slice v1 M.length cv1) M ∧ RowG encW 1 W4 (some ⟨w3.heap.size, 0, none⟩) [⟨C, c3, x.r, 0⟩] ∧ OwnI W4 w.heap.size (.slice C x.r.length c3) x.r ∧ OwnG encT 2 45 W4 XB (.slice (some ⟨XB, 0, none⟩) 1 1) [x] ∧ Below w.heap.size w W4 ∧ M.length + 1 ≤ maxLen ∧ (M.length + 1) * 24 ≤ 140737488355328) := ⟨hR.out.1.own.below hb14, hrow4, hown3.gr hg4, hR.out.2.1.below hb14, hbw4, by have := hR.out.2.2; unfold maxLen; omega, by have := hR.out.2.2; omega⟩
          clear hown3 hg3 hb3 hg4 hrow4 hb14 hbw4 hap x0
          go_wp2_with (at_builtin; refine wpList_append_w _ rfl (.tmp 23) (.tmp 27) rfl w.heap.size (.slice v1 M.length cv1) M [⟨C, c3, x.r, 0⟩] (some ⟨w3.heap.size, 0, none⟩) 1 rfl rfl hX4.out.1.own hX4.out.2.1 (fun h => by cases h) hX4.out.2.2.2.2.2.1 hX4.out.2.2.2.2.2.2 hX4.out.2.2.2.2.1.size ?_)
          intro v5 w5 hown5 hg5
          have hfin : Hid (FInv w w5 v5 (M ++ [⟨C, c3, x.r, 0⟩]) (R ++ List.replicate (m + 1) x.r) ∧ OwnG encT 2 45 w5 XB (.slice (some ⟨XB, 0, none⟩) 1 1) [x] ∧ (M ++ [(⟨C, c3, x.r, 0⟩ : Itm)]).length ≤ 400 + (m + 1)) := by
            refine ⟨⟨hX4.out.1.more hX4.out.2.2.1 hown5 hg5, ?_, hX4.out.2.2.2.2.1.trans (hX4.out.1.own.grown_below hg5 hX4.out.2.2.2.2.1.size)⟩, hX4.out.2.2.2.1.keepN hg5 (ownN_ne hX4.out.2.2.2.1 hX4.out.1.own (by decide)), by have := hR.out.2.2; simp; omega⟩
            rw [List.map_append, hR.out.1.rows, List.replicate_succ', ← List.append_assoc]
            rfl
          clear hown5 hg5 hW4 hX4
          go_wp2
          go_roundw
          case rel => exact ⟨m + 1, M ++ [⟨C, c3, x.r, 0⟩], by omega, by go_num, hfin⟩
          case measure => simp [intOf]; omega
        · have hltz2 : ¬ (m : Int) < (mm : Int) := by omega
          obtain rfl : m = mm := by omega
          have hfin : Hid (FInv w wr1 u5 M ((expL ((l.take (k + 1)).map Itm.z)).take most)) := by show FInv _ _ _ _ _; rw [← hnext.out]; exact hR.out.1
          clear hR
          go_wp2
          go_roundw
          case rel => exact ⟨k + 1, M, by omega, by go_num, hfin⟩
          case measure => simp [intOf]; omega
    · have hltz : ¬ (k : Int) < (l.length : Int) := by omega
      have hke : l.take k = l := List.take_of_length_le (by omega)
      rw [hke] at hR
      go_wp2
      go_ret
      exact ⟨u5, rfl, L, hR.out.own, hR.out.rows, hR.out.bel⟩
end Go.Proofs.Ytgmdjioobidadaa
