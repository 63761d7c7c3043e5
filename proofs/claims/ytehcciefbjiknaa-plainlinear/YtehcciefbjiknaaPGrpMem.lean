/-
  Groups of items in memory: the list of groups, and each one's items, in blocks of their own.
-/
import Derived.Test.YtehcciefbjiknaaPWhere
import Derived.Maps.OwnSet
namespace Go.Proofs.Ytehcciefbjiknaa
open Go.RowKit Go.Sort Go.Maps

structure Grp where
  n : Int
  p : Option Addr
  c : Nat
  l : List Itm
def Grp.v (g : Grp) : Value := .slice g.p g.l.length g.c
def Grp.z (g : Grp) : Int × List Zit := (g.n, g.l.map Itm.z)
def encP (g : Grp) : List Value := [.int .i64 g.n, g.v]
theorem encP_len (g : Grp) : (encP g).length = 2 := rfl
theorem encP_one (g : Grp) : ∀ u ∈ encP g, u.oneCell' = true := by
  intro u hu
  simp [encP, Grp.v] at hu
  rcases hu with h | h <;> rw [h] <;> rfl
theorem Try.infoP : (Try.prog.info? 73).map (fun i => (i.zero, i.size, i.bytes)) = some (some (.agg #[.int .i64 0, .slice none 0 0]), 2, 32) := by kernel_rfl
theorem Try.infoT2 : (Try.prog.info? 41).map (fun i => (i.zero, i.size, i.bytes)) = some (some (.agg #[.slice none 0 0, .int .i64 0]), 2, 32) := by kernel_rfl

/-- No two groups' items lie in one block. -/
def Two (g h : Grp) : Prop := ∀ b, g.v.ownBlock = some b → h.v.ownBlock ≠ some b
structure Gps (w : World) (B : Nat) (v : Value) (gs : List Grp) : Prop where
  own : OwnG encP 2 73 w B v gs
  each : ∀ g ∈ gs, OwnG encT 2 41 w B g.v g.l
  apart : gs.Pairwise Two
theorem Gps.nil (w : World) (B : Nat) : Gps w B (.slice none 0 0) [] := ⟨OwnG.nil _ _ _ _ _, fun g hg => (by cases hg), List.Pairwise.nil⟩
theorem Gps.below {w w' : World} {B : Nat} {v : Value} {gs : List Grp} (h : Gps w B v gs) (q : Below w.heap.size w w') : Gps w' B v gs := ⟨h.own.below q, fun g hg => (h.each g hg).below q, h.apart⟩
theorem Gps.gr {w w' : World} {B : Nat} {v : Value} {gs : List Grp} (h : Gps w B v gs) (q : Gr w w') : Gps w' B v gs := h.below q.below
theorem OwnG.keep {α : Type} {enc : α → List Value} {k : Nat} {e : TypeId} {w w' : World} {base : Nat} {v : Value} {l : List α} {row : Option Nat} (h : OwnG enc k e w base v l) (hg : w.grownBy w' row) (hne : v.ownBlock = none ∨ v.ownBlock ≠ row) : OwnG enc k e w' base v l := World.ownsRow.kept h hg hne
/-- A block of groups is none of items. -/
theorem own_ne {α β : Type} {enc : α → List Value} {enc' : β → List Value} {k k' : Nat} {e e' : TypeId} {w : World} {base base' : Nat} {v v' : Value} {l : List α} {l' : List β} (h : OwnG enc k e w base v l) (h' : OwnG enc' k' e' w base' v' l') (hne : e ≠ e') : v.ownBlock = none ∨ v.ownBlock ≠ v'.ownBlock := by
  rcases h.2 with ⟨hv, _⟩ | ⟨g, cap, cur, hv, _, hg, _⟩
  · exact Or.inl (by rw [hv]; rfl)
  · rcases h'.2 with ⟨hv', _⟩ | ⟨g', cap', cur', hv', _, hg', _⟩
    · refine Or.inr ?_
      rw [hv, hv']; intro k; cases k
    · refine Or.inr ?_
      rw [hv, hv']
      intro k
      have : g = g' := by simpa [Value.ownBlock] using k
      subst this
      rw [hg] at hg'
      simp at hg'
      exact hne hg'.2
/-- One more group, with no items. -/
theorem Gps.more {w w' : World} {B : Nat} {v v' : Value} {gs : List Grp} {n : Int} (h : Gps w B v gs) (ho : OwnG encP 2 73 w' B v' (gs ++ [⟨n, none, 0, []⟩])) (hg : w.grownBy w' v.ownBlock) : Gps w' B v' (gs ++ [⟨n, none, 0, []⟩]) := by
  refine ⟨ho, fun g hg' => ?_, ?_⟩
  · rcases List.mem_append.1 hg' with k | k
    · exact (h.each g k).keep hg (own_ne (h.each g k) h.own (by decide))
    · rw [List.mem_singleton.1 k]; exact OwnG.nil _ _ _ _ _
  · refine List.pairwise_append.2 ⟨h.apart, List.pairwise_singleton _ _, fun a _ b hb => ?_⟩
    rw [List.mem_singleton.1 hb]
    intro x _ k
    cases k
theorem flatP_set : ∀ (gs : List Grp) (i : Nat) (hi : i < gs.length) (g' : Grp), g'.n = gs[i].n → flatG encP (gs.set i g') = (flatG encP gs).set (i * 2 + 1) g'.v
  | g :: t, 0, _, g', h => by
    have h' : g'.n = g.n := h
    simp [flatG, encP, h']
  | g :: t, i + 1, hi, g', h => by
    have ih := flatP_set t i (by simpa using hi) g' (by simpa using h)
    have e : (i + 1) * 2 + 1 = (i * 2 + 1) + 2 := by omega
    simp only [flatG, List.set_cons_succ, List.flatMap_cons] at ih ⊢
    rw [ih, e]
    rfl
/-- The block behind a store. -/
theorem own_store {w : World} {B : Nat} {v : Value} {gs : List Grp} {i : Nat} (hi : i < gs.length) {g' : Grp} (hn : g'.n = gs[i].n) (h : OwnG encP 2 73 w B v gs) {G : Nat} (hG : v.ownBlock = some G) : OwnG encP 2 73 (w.setCell ⟨G, i * 2 + 1, none⟩ g'.v) B v (gs.set i g') := by
  refine ⟨flatG_length encP_len _, ?_⟩
  rcases h.2 with ⟨hv, hz⟩ | ⟨g, cap, cur, hv, hb, hg, hle, hcm, hcs, htk⟩
  · rw [hv] at hG; cases hG
  · rw [hv] at hG
    have : g = G := by simpa [Value.ownBlock] using hG
    subst this
    refine Or.inr ⟨g, cap, cur.setIfInBounds (i * 2 + 1) g'.v, by rw [hv, List.length_set], hb, ?_, by rw [List.length_set]; exact hle, hcm, by simpa using hcs, ?_⟩
    · have hlt := lt_of_block hg
      have h' : w.heap[g] = .cells cur 73 (0, 0) := by simpa [Array.getElem?_eq_getElem hlt] using hg
      show (w.heap.modify g _)[g]? = _
      rw [Array.getElem?_eq_getElem (by simpa using hlt), Array.getElem_modify_self, h']
      rfl
    · rw [List.length_set, flatP_set gs i hi g' hn, ← htk]
      simp [List.take_set]
theorem grown_set (W : World) (a : Addr) (u : Value) : W.grownBy (W.setCell a u) (some a.block) :=
  ⟨rfl, rfl, rfl, by simp [World.setCell], fun j _ hne => Below.heap_setCell _ _ _ _ (fun e => hne (by rw [e]))⟩
/-- One more item in a group. -/
theorem Gps.item {w w' : World} {B : Nat} {v : Value} {gs : List Grp} (h : Gps w B v gs) {i : Nat} (hi : i < gs.length) {g' : Grp} (hn : g'.n = gs[i].n) (ho : OwnG encT 2 41 w' B g'.v g'.l) (hg : w.grownBy w' gs[i].v.ownBlock) (hloc : g'.v.ownBlock = gs[i].v.ownBlock ∨ g'.v.ownBlock = some w.heap.size) {G : Nat} (hG : v.ownBlock = some G) :
    Gps (w'.setCell ⟨G, i * 2 + 1, none⟩ g'.v) B v (gs.set i g') := by
  have hin : gs[i] ∈ gs := List.getElem_mem hi
  have hown' := h.own.keep hg (own_ne h.own (h.each _ hin) (by decide))
  have hap := List.pairwise_iff_getElem.1 h.apart
  have hsym : ∀ (a b : Nat) (ha : a < gs.length) (hb : b < gs.length), a ≠ b → Two gs[a] gs[b] := fun a b ha hb hne => by
    rcases Nat.lt_or_ge a b with k | k
    · exact hap a b ha hb k
    · intro x e1 e2
      exact hap b a hb ha (by omega) x e2 e1
  have hlt : ∀ (a : Nat) (ha : a < gs.length) x, gs[a].v.ownBlock = some x → x < w.heap.size := fun a ha x e => (World.ownsRow.lt (h.each _ (List.getElem_mem ha)) x e).2
  have hnew : ∀ (a : Nat) (ha : a < gs.length), a ≠ i → Two gs[a] g' ∧ Two g' gs[a] := fun a ha hne => by
    have k : ∀ x, gs[a].v.ownBlock = some x → g'.v.ownBlock ≠ some x := fun x e1 e2 => by
      rcases hloc with e | e
      · rw [e] at e2; exact hsym a i ha hi hne x e1 e2
      · rw [e] at e2
        have := hlt a ha x e1
        have : w.heap.size = x := by simpa using e2
        omega
    exact ⟨k, fun x e1 e2 => k x e2 e1⟩
  refine ⟨own_store hi hn hown' hG, fun g hg' => ?_, ?_⟩
  · obtain ⟨j, hj, rfl⟩ := List.mem_iff_getElem.1 hg'
    have hj' : j < gs.length := by simpa using hj
    rw [List.getElem_set]
    by_cases e : i = j
    · rw [if_pos e]
      have := own_ne ho hown' (by decide)
      rw [hG] at this
      exact ho.keep (grown_set _ _ _) this
    · rw [if_neg e]
      have k1 := (h.each _ (List.getElem_mem hj')).keep hg (by
        cases e2 : gs[j].v.ownBlock with
        | none => exact Or.inl rfl
        | some x => exact Or.inr (fun e3 => hsym j i hj' hi (fun k => e k.symm) x e2 e3.symm))
      have := own_ne k1 hown' (by decide)
      rw [hG] at this
      exact k1.keep (grown_set _ _ _) this
  · refine List.pairwise_iff_getElem.2 fun a b ha hb hab => ?_
    have ha' : a < gs.length := by simpa using ha
    have hb' : b < gs.length := by simpa using hb
    rw [List.getElem_set, List.getElem_set]
    by_cases e1 : i = a
    · rw [if_pos e1, if_neg (by omega)]
      exact (hnew b hb' (by omega)).2
    · rw [if_neg e1]
      by_cases e2 : i = b
      · rw [if_pos e2]
        exact (hnew a ha' (by omega)).1
      · rw [if_neg e2]
        exact hap a b ha' hb' hab
end Go.Proofs.Ytehcciefbjiknaa
