/-
  Plain facts: joining is a lattice's.
  Merging is a lattice: which cells a merged table has; that it doesn't matter in which order, nor how often.
  A node in memory.
-/
import Derived.Test.YtmoicbmhjmdgdaaGreatM38
import Derived.Test.YtmoicbmhjmdgdaaGreatM12
import Derived.Test.YtmoicbmhjmdgdaaGreatM31
import Derived.Test.YtmoicbmhjmdgdaaGreatM36
namespace Go.Proofs.YtmoicbmhjmdgdaaGreat
open Go.RowKit Go.Sort

theorem join_can {a b : Ctx} (h : joinE a b = 0) : Can (joinC a b) ∧ errC (joinC a b) = 0 ∧ (joinC a b).l.length ≤ 400 ∧ ∀ x, hasB (joinC a b) x = true ↔ hasB a x = true ∨ hasB b x = true := by
 obtain ⟨ha, hb, _, hc, hl⟩ := joinE_ok h
 rw [hc]
 exact ⟨joinF_can ha hb, err_of_can (joinF_can ha hb) hl, hl, joinF_has ha hb⟩
theorem join_has {a b : Ctx} (h : joinE a b = 0) (x : Int × Int) : hasB (joinC a b) x = (hasB a x || hasB b x) := by
 rw [Bool.eq_iff_iff, (join_can h).2.2.2 x, Bool.or_eq_true]
end Go.Proofs.YtmoicbmhjmdgdaaGreat

namespace Go.Proofs.YtmoicbmhjmdgdaaGreat
open Go.RowKit Go.Sort

theorem memD_iffK {l : List Cel} {d : Int × Int} : memD l d = true ↔ ∃ y ∈ l, y.1 = d := by
 unfold memD
 rw [List.any_eq_true]
 constructor
 ·rintro ⟨y, hy, h⟩; exact ⟨y, hy, by simpa using h⟩
 ·rintro ⟨y, hy, h⟩; exact ⟨y, hy, by simpa using h⟩
theorem noclash {a b : Tab} : clashB a b = false ↔ ∀ x ∈ a.e, ∀ y ∈ b.e, y.1 = x.1 → y = x := by
 unfold clashB
 rw [List.any_eq_false]
 constructor
 ·intro h x hx y hy e
  cases h4 : celEq y x
  ·refine absurd ?_ (h x hx)
   unfold clP
   rw [List.any_eq_true]
   exact ⟨y, hy, by simp [e, h4]⟩
  ·exact celEq_iff.1 h4
 ·intro h x hx hcl
  unfold clP at hcl
  rw [List.any_eq_true] at hcl
  obtain ⟨y, hy, h2⟩ := hcl
  simp only [Bool.and_eq_true, decide_eq_true_eq, Bool.not_eq_true'] at h2
  have h3 := h x hx y hy h2.1
  have h4 := h2.2
  rw [h3, celEq_iff.2 rfl] at h4
  cases h4
theorem mem_mrg {a b : Tab} (hc : clashB a b = false) {x : Cel} : x ∈ mrg a b ↔ (x ∈ a.e ∧ x ∈ b.e) ∨ (x ∈ a.e ∧ hasB b.c x.1 = false) ∨ (x ∈ b.e ∧ hasB a.c x.1 = false) := by
 unfold mrg
 rw [(srtC_perm _).mem_iff]
 unfold both
 rw [List.mem_append, List.mem_filter, List.mem_filter]
 unfold stayA stayB
 simp only [Bool.or_eq_true, Bool.not_eq_true']
 have hb : x ∈ a.e → (memD b.e x.1 = true ↔ x ∈ b.e) := by
  intro hx
  rw [memD_iffK]
  constructor
  ·rintro ⟨y, hy, e⟩
   rw [← noclash.1 hc x hx y hy e]; exact hy
  ·intro h; exact ⟨x, h, rfl⟩
 constructor
 ·rintro (⟨h1, h2 | h2⟩ | h1)
  ·exact Or.inl ⟨h1, (hb h1).1 h2⟩
  ·exact Or.inr (Or.inl ⟨h1, h2⟩)
  ·exact Or.inr (Or.inr h1)
 ·rintro (⟨h1, h2⟩ | ⟨h1, h2⟩ | h1)
  ·exact Or.inl ⟨h1, Or.inl ((hb h1).2 h2)⟩
  ·exact Or.inl ⟨h1, Or.inr h2⟩
  ·exact Or.inr h1
theorem mergeT_ok {a b : Tab} (h : mergeE a b = 0) : mergeT a b = ⟨joinC a.c b.c, mrg a b⟩ := by unfold mergeT; rw [if_pos h]
theorem errT_of {c : Ctx} {e : List Cel} (hc : errC c = 0) (hl : e.length ≤ 400) (ha : Asc e) (h : ∀ x ∈ e, hasB c x.1 = true ∧ okPlace x.2.1 x.2.2.1 x.2.2.2 = true) : errT ⟨c, e⟩ = 0 := by
 refine errT_ok hc hl fun k hk => ?_
 have hk' : k < e.length := hk
 cases k with
 | zero =>
  rw [okCel_zero (t := ⟨c, e⟩) hk rfl]
  have := h e[0] (List.getElem_mem hk')
  simp [this.1, this.2]
 | succ m =>
  rw [okCel_succ (t := ⟨c, e⟩) hk rfl rfl]
  have := h e[m + 1] (List.getElem_mem hk')
  have h2 := (List.pairwise_iff_getElem.1 ha) m (m + 1) (by omega) hk' (by omega)
  simp [this.1, this.2, h2]
theorem mem_cases {a b : Tab} (hc : clashB a b = false) {x : Cel} (h : x ∈ mrg a b) : x ∈ a.e ∨ x ∈ b.e := by
 rcases (mem_mrg hc).1 h with h | h | h
 ·exact Or.inl h.1
 ·exact Or.inl h.1
 ·exact Or.inr h.1
/-- A merged table is right. -/
theorem errT_merge {a b : Tab} (h : mergeE a b = 0) : errT (mergeT a b) = 0 := by
 obtain ⟨h1, h2, h3, h4, h5⟩ := mergeE_parts h
 rw [mergeT_ok h]
 refine errT_of (join_can h4).2.1 h5 (mrg_asc h1 h2) fun x hx => ?_
 rw [join_has h4]
 rcases mem_cases h3 hx with hx | hx
 ·exact ⟨by rw [errT_has h1 hx]; rfl, errT_place h1 hx⟩
 ·exact ⟨by rw [errT_has h2 hx]; simp, errT_place h2 hx⟩
end Go.Proofs.YtmoicbmhjmdgdaaGreat

namespace Go.Proofs.YtmoicbmhjmdgdaaGreat
open Go.RowKit Go.Sort

/-- A table's cells from cell o of the block N on. -/
structure TbC (w : World) (N o : Nat) (t : Tab) (A : Option Addr) (ca : Nat) (D : Option Addr) (cd : Nat) : Prop where
 k0 : w.cell? ⟨N, o, none⟩ = some (.int .i64 t.c.c0)
 k1 : w.cell? ⟨N, o + 1, none⟩ = some (.int .i64 t.c.c1)
 k2 : w.cell? ⟨N, o + 2, none⟩ = some (.int .i64 t.c.c2)
 k3 : w.cell? ⟨N, o + 3, none⟩ = some (.int .i64 t.c.c3)
 k4 : w.cell? ⟨N, o + 4, none⟩ = some (.slice A t.c.l.length ca)
 k5 : w.cell? ⟨N, o + 5, none⟩ = some (.slice D t.e.length cd)
theorem TbC.keep {w w' : World} {N o : Nat} {t : Tab} {A : Option Addr} {ca : Nat} {D : Option Addr} {cd : Nat} (h : TbC w N o t A ca D cd) (hc : ∀ j, o ≤ j → j < o + 6 → w'.cell? ⟨N, j, none⟩ = w.cell? ⟨N, j, none⟩) : TbC w' N o t A ca D cd :=
 ⟨(hc o (by omega) (by omega)).trans h.k0, (hc (o + 1) (by omega) (by omega)).trans h.k1, (hc (o + 2) (by omega) (by omega)).trans h.k2, (hc (o + 3) (by omega) (by omega)).trans h.k3, (hc (o + 4) (by omega) (by omega)).trans h.k4, (hc (o + 5) (by omega) (by omega)).trans h.k5⟩
/-- A right table that lies in the block N from cell o on. -/
def TbN (w : World) (N o : Nat) (P : Nat → Prop) (t : Tab) : Prop := ∃ A ca D cd, TbC w N o t A ca D cd ∧ TbP P w t A ca D cd
theorem TbN.mono {w : World} {N o : Nat} {P Q : Nat → Prop} {t : Tab} (h : TbN w N o P t) (k : ∀ b, P b → Q b) : TbN w N o Q t := by
 obtain ⟨A, ca, D, cd, h1, h2⟩ := h
 exact ⟨A, ca, D, cd, h1, h2.mono k⟩
theorem TbN.keep {w w' : World} {N o : Nat} {P : Nat → Prop} {t : Tab} (h : TbN w N o P t) (hA : Agr P w w') (hc : ∀ j, o ≤ j → j < o + 6 → w'.cell? ⟨N, j, none⟩ = w.cell? ⟨N, j, none⟩) : TbN w' N o P t := by
 obtain ⟨A, ca, D, cd, h1, h2⟩ := h
 exact ⟨A, ca, D, cd, h1.keep hc, h2.agr hA⟩
theorem TbN.ok {w : World} {N o : Nat} {P : Nat → Prop} {t : Tab} (h : TbN w N o P t) : errT t = 0 := by
 obtain ⟨A, ca, D, cd, _, h2⟩ := h
 exact h2.ok
/-- A node: its number, its tables, its views' queries; where its view's sets are of (z, y) from number i on, and of its tables' ahead of that. -/
structure Nm (w : World) (N : Nat) (P : Nat → Prop) (id : Int) (s t : Tab) (qs : List (List Stp)) (i : Nat) (z y : List Zit) : Prop where
 blk : Blk w N 68 38
 out : ¬ P N
 up : ∀ b, P b → b < w.heap.size
 cid : w.cell? ⟨N, 0, none⟩ = some (.int .i64 id)
 ts : TbN w N 1 P s
 tt : TbN w N 7 P t
 cnt : w.cell? ⟨N, 37, none⟩ = some (.int .i64 (qs.length : Int))
 le : qs.length ≤ 4
 vs : ∀ j (h : j < qs.length), VwN w N (13 + j * 6) P qs[j] (if j < i then ofR s else z) (if j < i then ofR t else y)
/-- A node in memory. -/
def Nd (w : World) (N : Nat) (P : Nat → Prop) (id : Int) (s t : Tab) (qs : List (List Stp)) : Prop := Nm w N P id s t qs 4 [] []
section
variable {w w' : World} {N : Nat} {P : Nat → Prop} {id : Int} {s t : Tab} {qs : List (List Stp)} {i : Nat} {z y : List Zit}
theorem Nm.keep (h : Nm w N P id s t qs i z y) (hN : w'.heap[N]? = w.heap[N]?) (hA : Agr P w w') : Nm w' N P id s t qs i z y := by
 have hb : Blk w' N 68 38 := by
  obtain ⟨cur, hc, hs⟩ := h.blk
  exact ⟨cur, hN.trans hc, hs⟩
 have hc : ∀ j, w'.cell? ⟨N, j, none⟩ = w.cell? ⟨N, j, none⟩ := fun j => World.cell?_of_block (a := ⟨N, j, none⟩) hN
 exact ⟨hb, h.out, fun b k => Nat.lt_of_lt_of_le (h.up b k) hA.size, (hc 0).trans h.cid, h.ts.keep hA fun j _ _ => hc j, h.tt.keep hA fun j _ _ => hc j, (hc 37).trans h.cnt, h.le, fun j hj => (h.vs j hj).keep hA hb.lt hb.fz fun j _ _ => hc j⟩
theorem Nm.below (h : Nm w N P id s t qs i z y) (k : Below w.heap.size w w') : Nm w' N P id s t qs i z y := h.keep (k.block N h.blk.lt) (Agr.of k)
theorem Nm.mono (h : Nm w N P id s t qs i z y) {P' : Nat → Prop} (k : ∀ b, P b → P' b) (h1 : ¬ P' N) (h2 : ∀ b, P' b → b < w.heap.size) : Nm w N P' id s t qs i z y :=
 ⟨h.blk, h1, h2, h.cid, h.ts.mono k, h.tt.mono k, h.cnt, h.le, fun j hj => (h.vs j hj).mono k⟩
theorem Nd.keep (h : Nd w N P id s t qs) (hN : w'.heap[N]? = w.heap[N]?) (hA : Agr P w w') : Nd w' N P id s t qs := Nm.keep h hN hA
theorem Nd.below (h : Nd w N P id s t qs) (k : Below w.heap.size w w') : Nd w' N P id s t qs := Nm.below h k
theorem Nd.view (h : Nd w N P id s t qs) {j : Nat} (hj : j < qs.length) : VwN w N (13 + j * 6) P qs[j] (ofR s) (ofR t) := by
 have := h.vs j hj
 have hl := h.le
 rwa [if_pos (by omega), if_pos (by omega)] at this
/-- P, and what was made meanwhile, doesn't have the node's own block. -/
theorem plus_out {m n : Nat} (h : ¬ P N) (hm : N < m) : ¬ plusP P m n N := fun k => k.elim h fun k => by omega
theorem plus_up {m n : Nat} (h : ∀ b, P b → b < n) : ∀ b, plusP P m n b → b < n := fun b k => k.elim (h b) fun k => k.2
end
end Go.Proofs.YtmoicbmhjmdgdaaGreat
