/-
  The set of a list, row by row put in; what Norm and Add tell.
  A list of items of one's own, whose rows are one's own too: what an append of one more item leaves.
  The library's slices.SortFunc at items: where its functions and types stand in this program.
-/
import Derived.Test.YtnkpfhipgcmplaaGreatDoorM04
import Derived.Test.YtnkpfhipgcmplaaGreatDoorM03
import Derived.Maps.AppendAt
import Derived.Shelf.SlSortCmp.NoneTotal
import Derived.Shelf.SlGeneric
import Derived.Test.YtnkpfhipgcmplaaGreatDoorProg
namespace Go.Proofs.YtnkpfhipgcmplaaGreatDoor

/-- One more item. -/
def insZ (x : Zit) : List Zit → List Zit
  | [] => if x.2 = 0 then [] else [x]
  | y :: t => if cmpL x.1 y.1 < 0 then (if x.2 = 0 then y :: t else x :: y :: t) else if cmpL x.1 y.1 = 0 then (if x.2 + y.2 = 0 then t else (y.1, x.2 + y.2) :: t) else y :: insZ x t
/-- The set of a list. -/
def totL : List Zit → List Zit
  | [] => []
  | x :: t => insZ x (totL t)
theorem insZ_mem {x : Zit} : ∀ {S : List Zit} {z : Zit}, z ∈ insZ x S → z.1 = x.1 ∨ ∃ y ∈ S, z.1 = y.1
  | [], z, h => by
    unfold insZ at h
    by_cases e : x.2 = 0
    · rw [if_pos e] at h; cases h
    · rw [if_neg e] at h; exact Or.inl (by rw [List.mem_singleton.1 h])
  | y :: t, z, h => by
    unfold insZ at h
    by_cases h1 : cmpL x.1 y.1 < 0
    · rw [if_pos h1] at h
      by_cases e : x.2 = 0
      · rw [if_pos e] at h; exact Or.inr ⟨z, h, rfl⟩
      · rw [if_neg e] at h
        rcases List.mem_cons.1 h with k | k
        · exact Or.inl (by rw [k])
        · exact Or.inr ⟨z, k, rfl⟩
    · rw [if_neg h1] at h
      by_cases h2 : cmpL x.1 y.1 = 0
      · rw [if_pos h2] at h
        by_cases e : x.2 + y.2 = 0
        · rw [if_pos e] at h; exact Or.inr ⟨z, List.mem_cons_of_mem _ h, rfl⟩
        · rw [if_neg e] at h
          rcases List.mem_cons.1 h with k | k
          · exact Or.inr ⟨y, List.mem_cons_self .., by rw [k]⟩
          · exact Or.inr ⟨z, List.mem_cons_of_mem _ k, rfl⟩
      · rw [if_neg h2] at h
        rcases List.mem_cons.1 h with k | k
        · exact Or.inr ⟨y, List.mem_cons_self .., by rw [k]⟩
        · rcases insZ_mem k with k | ⟨u, hu, k⟩
          · exact Or.inl k
          · exact Or.inr ⟨u, List.mem_cons_of_mem _ hu, k⟩
theorem insZ_rise {x : Zit} : ∀ {S : List Zit}, Rise S → Rise (insZ x S)
  | [], _ => by
    unfold insZ
    by_cases e : x.2 = 0
    · rw [if_pos e]; exact List.Pairwise.nil
    · rw [if_neg e]; exact List.pairwise_singleton _ _
  | y :: t, h => by
    have h' := List.pairwise_cons.1 h
    unfold insZ
    by_cases h1 : cmpL x.1 y.1 < 0
    · rw [if_pos h1]
      by_cases e : x.2 = 0
      · rw [if_pos e]; exact h
      · rw [if_neg e]
        refine List.pairwise_cons.2 ⟨fun z hz => ?_, h⟩
        rcases List.mem_cons.1 hz with k | k
        · rw [k]; exact h1
        · exact cmpL_lt_trans h1 (h'.1 z k)
    · rw [if_neg h1]
      by_cases h2 : cmpL x.1 y.1 = 0
      · rw [if_pos h2]
        by_cases e : x.2 + y.2 = 0
        · rw [if_pos e]; exact h'.2
        · rw [if_neg e]; exact List.pairwise_cons.2 ⟨fun z hz => h'.1 z hz, h'.2⟩
      · rw [if_neg h2]
        refine List.pairwise_cons.2 ⟨fun z hz => ?_, insZ_rise h'.2⟩
        rcases insZ_mem hz with k | ⟨u, hu, k⟩
        · rw [k]; have := cmpL_flip x.1 y.1; omega
        · rw [k]; exact h'.1 u hu
theorem insZ_noz {x : Zit} : ∀ {S : List Zit}, NoZ S → NoZ (insZ x S)
  | [], _ => by
    unfold insZ
    by_cases e : x.2 = 0
    · rw [if_pos e]; exact fun z hz => absurd hz (by simp)
    · rw [if_neg e]; intro z hz; rw [List.mem_singleton.1 hz]; exact e
  | y :: t, h => by
    have ht : NoZ t := fun z hz => h z (List.mem_cons_of_mem _ hz)
    unfold insZ
    by_cases h1 : cmpL x.1 y.1 < 0
    · rw [if_pos h1]
      by_cases e : x.2 = 0
      · rw [if_pos e]; exact h
      · rw [if_neg e]
        intro z hz
        rcases List.mem_cons.1 hz with k | k
        · rw [k]; exact e
        · exact h z k
    · rw [if_neg h1]
      by_cases h2 : cmpL x.1 y.1 = 0
      · rw [if_pos h2]
        by_cases e : x.2 + y.2 = 0
        · rw [if_pos e]; exact ht
        · rw [if_neg e]
          intro z hz
          rcases List.mem_cons.1 hz with k | k
          · rw [k]; exact e
          · exact ht z k
      · rw [if_neg h2]
        intro z hz
        rcases List.mem_cons.1 hz with k | k
        · rw [k]; exact h y (List.mem_cons_self ..)
        · exact insZ_noz ht z k
theorem insZ_wt {x : Zit} (r : List Int) : ∀ {S : List Zit}, wt (insZ x S) r = (if x.1 = r then x.2 else 0) + wt S r
  | [] => by
    unfold insZ
    by_cases e : x.2 = 0
    · rw [if_pos e, e]; simp [wt]
    · rw [if_neg e]; simp only [wt]
  | y :: t => by
    unfold insZ
    by_cases h1 : cmpL x.1 y.1 < 0
    · rw [if_pos h1]
      by_cases e : x.2 = 0
      · rw [if_pos e, e]; simp
      · rw [if_neg e]; simp only [wt]
    · rw [if_neg h1]
      by_cases h2 : cmpL x.1 y.1 = 0
      · rw [if_pos h2]
        have e1 := cmpL_eq _ _ h2
        by_cases e : x.2 + y.2 = 0
        · rw [if_pos e]
          simp only [wt]
          rw [e1]
          by_cases k : y.1 = r
          · rw [if_pos k, if_pos k]; omega
          · rw [if_neg k, if_neg k]; omega
        · rw [if_neg e]
          simp only [wt]
          rw [e1]
          by_cases k : y.1 = r
          · rw [if_pos k, if_pos k, if_pos k]; omega
          · rw [if_neg k, if_neg k, if_neg k]; omega
      · rw [if_neg h2]
        simp only [wt]
        rw [insZ_wt r]; omega
theorem totL_is : ∀ l : List Zit, IsTot l (totL l)
  | [] => ⟨List.Pairwise.nil, fun z hz => absurd hz (by simp [totL]), fun r => rfl⟩
  | x :: t => by
    have h := totL_is t
    exact ⟨insZ_rise h.rise, insZ_noz h.noz, fun r => by show wt (insZ x (totL t)) r = wt (x :: t) r; rw [insZ_wt, h.same]; rfl⟩
theorem IsTot.eq {l S : List Zit} (h : IsTot l S) : S = totL l := h.uniq (totL_is l) fun _ => rfl
/-- What total answers. -/
def totE (l : List Zit) : Int := if (totL l).all (fun x => okW x.2) then 0 else 5
/-- The set that total tells. -/
def totR (l : List Zit) : List Zit := if totE l = 0 then totL l else []
theorem totR_bad {l : List Zit} (h : totE l = 5) : totR l = [] := by unfold totR; rw [h]; rfl
theorem totR_ok {l : List Zit} (h : totE l = 0) : totR l = totL l := by unfold totR; rw [if_pos h]
theorem totE_bad (l : List Zit) : totE l = 5 ↔ BadT l := by
  unfold totE
  constructor
  · intro h
    by_cases e : (totL l).all (fun x => okW x.2) = true
    · rw [if_pos e] at h; cases h
    · simp only [List.all_eq_true, Classical.not_forall] at e
      obtain ⟨x, hx, hw⟩ := e
      exact ⟨x.1, by rw [← (totL_is l).same, (totL_is l).rise.wt hx]; simpa using hw⟩
  · rintro ⟨r, hr⟩
    rw [if_neg]
    intro h
    have h0 : wt l r ≠ 0 := fun e => by rw [e] at hr; exact absurd hr (by decide)
    rw [← (totL_is l).same] at h0 hr
    obtain ⟨x, hx, rfl⟩ := wt_some h0
    rw [(totL_is l).rise.wt hx] at hr
    have := List.all_eq_true.1 h x hx
    rw [hr] at this; cases this
theorem totE_ok {l : List Zit} (h : ¬ BadT l) : totE l = 0 := by
  by_cases e : totE l = 5
  · exact absurd ((totE_bad l).1 e) h
  · unfold totE at e ⊢
    by_cases k : (totL l).all (fun x => okW x.2) = true
    · rw [if_pos k]
    · rw [if_neg k] at e; exact absurd rfl e
theorem totE_zero {l : List Zit} (h : totE l = 0) : ¬ BadT l := fun k => by rw [(totE_bad l).2 k] at h; cases h
/-- What Norm answers. -/
def normE (l : List Zit) : Int := if 400 < l.length then 2 else if l.all (fun x => okR x.1 && okW x.2) then totE l else 5
def normL (l : List Zit) : List Zit := if normE l = 0 then totL l else []
/-- What Add answers. -/
def addE (a b : List Zit) : Int := if errZ a = 0 then (if errZ b = 0 then (if totE (a ++ b) = 0 then (if 400 < (totL (a ++ b)).length then 2 else 0) else totE (a ++ b)) else errZ b) else errZ a
def addL (a b : List Zit) : List Zit := if addE a b = 0 then totL (a ++ b) else []
theorem totL_same {l m : List Zit} (h : ∀ r, wt l r = wt m r) : totL l = totL m := (totL_is l).uniq (totL_is m) h
theorem totE_same {l m : List Zit} (h : ∀ r, wt l r = wt m r) : totE l = totE m := by unfold totE; rw [totL_same h]

end Go.Proofs.YtnkpfhipgcmplaaGreatDoor

namespace Go.Proofs.YtnkpfhipgcmplaaGreatDoor
open Go.RowKit Go.Sort

theorem Tryz.infoT : (Tryz.prog.info? 66).map (fun i => (i.zero, i.size, i.bytes)) = some (some (.agg #[.slice none 0 0, .int .i64 0]), 2, 32) := by kernel_rfl

/-- A row that lies apart from the block ob, in memory made behind base. -/
structure Apart (w : World) (base : Nat) (ob : Option Nat) (x : Itm) : Prop where
  row : RowI w x.p x.r
  len : x.r.length ≤ maxLen
  nil : x.p = none → x.c = 0
  own : ∀ a, x.p = some a → base ≤ a.block ∧ a.block < w.heap.size ∧ ob ≠ some a.block
/-- A list of items of one's own. -/
structure OwnT (w : World) (base : Nat) (v : Value) (l : List Itm) : Prop where
  own : OwnG encT 2 66 w base v l
  each : ∀ x ∈ l, Apart w base v.ownBlock x
/-- What a call hands back lies in blocks of its own. -/
def NewT (n : Nat) (C : Option Addr) (L : List Itm) : Prop := (∀ a, C = some a → n ≤ a.block) ∧ ∀ x ∈ L, ∀ a, x.p = some a → n ≤ a.block
theorem NewT.none (n : Nat) : NewT n none [] := ⟨fun a h => (by cases h), fun x hx => (by cases hx)⟩
theorem NewT.mono {n m : Nat} {C : Option Addr} {L : List Itm} (h : NewT n C L) (hm : m ≤ n) : NewT m C L := ⟨fun a ha => Nat.le_trans hm (h.1 a ha), fun x hx a ha => Nat.le_trans hm (h.2 x hx a ha)⟩
theorem OwnT.nil (w : World) (base : Nat) : OwnT w base (.slice none 0 0) [] := ⟨OwnG.nil _ _ _ _ _, fun x hx => by cases hx⟩
theorem Apart.below {w w' : World} {base : Nat} {ob : Option Nat} {x : Itm} (h : Apart w base ob x) (q : Below w.heap.size w w') : Apart w' base ob x :=
  ⟨h.row.below q, h.len, h.nil, fun a ha => ⟨(h.own a ha).1, Nat.lt_of_lt_of_le (h.own a ha).2.1 q.size, (h.own a ha).2.2⟩⟩
theorem OwnT.below {w w' : World} {base : Nat} {v : Value} {l : List Itm} (h : OwnT w base v l) (q : Below w.heap.size w w') : OwnT w' base v l := ⟨h.own.below q, fun x hx => (h.each x hx).below q⟩
theorem OwnT.gr {w w' : World} {base : Nat} {v : Value} {l : List Itm} (h : OwnT w base v l) (q : Gr w w') : OwnT w' base v l := h.below q.below
/-- What it is to a reader. -/
theorem OwnT.items {w : World} {base : Nat} {v : Value} {l : List Itm} (h : OwnT w base v l) : ∃ A cap, v = .slice A l.length cap ∧ NilC A l.length cap ∧ Items w A l ∧ (∀ a, A = some a → base ≤ a.block ∧ a.block < w.heap.size) := by
  obtain ⟨A, cap, hv, hA, hr, hc, ha, _⟩ := OwnG.full encT_len h.own
  exact ⟨A, cap, hv, NilC.mk hA hc, ⟨hr, fun x hx => ⟨(h.each x hx).row, (h.each x hx).len, (h.each x hx).nil⟩⟩, fun a e => ⟨(ha a e).1, (ha a e).2.1⟩⟩
theorem Apart.grown {w w' : World} {base : Nat} {ob ob' : Option Nat} {x : Itm} (h : Apart w base ob x) (q : w.grownBy w' ob) (hob : ob' = ob ∨ ob' = some w.heap.size) : Apart w' base ob' x := by
  refine ⟨?_, h.len, h.nil, fun a ha => ⟨(h.own a ha).1, Nat.lt_of_lt_of_le (h.own a ha).2.1 q.size, ?_⟩⟩
  · rcases h.row with k | ⟨b, off, hp, hb, hc⟩
    · exact Or.inl k
    · refine Or.inr ⟨b, off, hp, Nat.lt_of_lt_of_le hb q.size, fun j hj i hi => ?_⟩
      have hne := (h.own _ hp).2.2
      rw [World.cell?_of_block (a := ⟨b, off + j * 1 + i, none⟩) (q.block b hb fun e => hne e.symm)]
      exact hc j hj i hi
  · rcases hob with e | e
    · rw [e]; exact (h.own a ha).2.2
    · rw [e]
      intro k
      injection k with k
      have := (h.own a ha).2.1
      omega
/-- append(v, x) -/
theorem run_append_t (w : World) (ty : TypeId) (base : Nat) (v : Value) (l : List Itm) (x : Itm) (A : Addr) (cap : Nat) (hown : OwnT w base v l) (hr : RowG encT 2 w (some A) [x]) (hx : Apart w base v.ownBlock x)
    (hml : l.length + 1 ≤ maxLen) (hb : (l.length + 1) * 32 ≤ 140737488355328) (hbase : base ≤ w.heap.size) :
    ∃ v' w', (Builtin.append_ #[22, 22] ty #[v, .slice (some A) 1 cap]).run Tryz.prog w = .ok v' w' ∧ OwnT w' base v' (l ++ [x]) ∧ Below base w w' ∧ w.grownBy w' v.ownBlock := by
  obtain ⟨i0, hi, hz0, hz1, hz2⟩ := info_parts Tryz.infoT
  obtain ⟨v', w', g1, g2, g3, _, g5⟩ := run_append_own_at (P := Tryz.prog) w base 22 ty 66 i0 (.agg #[.slice none 0 0, .int .i64 0]) 2 32 Tryz.underlying22 hi hz0 hz1 hz2 rfl (by omega) v l.length (flatG encT l) hown.own A 1 cap (flatG encT [x]) (flatG_length encT_len [x]) (hr.cells encT_len (by omega)) (fun u hu => flatG_one encT_one u [x] hu) hml hb hbase
  refine ⟨v', w', g1, ⟨?_, fun y hy => ?_⟩, OwnG.grown_below hown.own g3 hbase, g3⟩
  · show w'.ownsRow base _ 2 v' (l ++ [x]).length (flatG encT (l ++ [x]))
    rw [List.length_append, flatG_append]
    exact g2
  · rcases List.mem_append.1 hy with k | k
    · exact (hown.each y k).grown g3 g5
    · have : y = x := by simpa using k
      subst this
      exact hx.grown g3 g5
theorem wpList_append_t (w : World) {ops : Array Oper} {rest : List Oper} {o : Oper} {a : Act} {Q : Exit → Act → World → Prop} (hgd : o.guard = none) (s z : Operand)
    (ho : o.op = .call { callee := .builtin .append, args := #[s, z], argTypes := #[22, 22] })
    (base : Nat) (v : Value) (l : List Itm) (x : Itm) (A : Addr) (cap : Nat) (hs : a.eval s = v) (hz : a.eval z = .slice (some A) 1 cap) (hown : OwnT w base v l) (hr : RowG encT 2 w (some A) [x]) (hx : Apart w base v.ownBlock x)
    (hml : l.length + 1 ≤ maxLen) (hb : (l.length + 1) * 32 ≤ 140737488355328) (hbase : base ≤ w.heap.size)
    (h : ∀ v' w', OwnT w' base v' (l ++ [x]) → Below base w w' → wpList Tryz.prog ops Q rest (a.put o.dst v') w') : wpList Tryz.prog ops Q (o :: rest) a w :=
  wpList_plain hgd fun _ hK => by
    obtain ⟨v', w', hr, h2, h3, _⟩ := run_append_t w o.type base v l x A cap hown hr hx hml hb hbase
    unfold Oper.wp execOp
    simp only [ho, resolve, invoke, builtin, Sem.run_bind, Sem.run_pure, Result.andThen_ok, List.map_toArray, List.map_cons, List.map_nil, hs, hz, hr]
    exact hK _ _ (h v' w' h2 h3)
theorem step_append_t (w : World) {ops : Array Oper} {o : Oper} {a : Act} {K : Act → World → Prop} {Q : Exit → Act → World → Prop} {E : Prop} (hgd : o.guard = none) (s z : Operand)
    (ho : o.op = .call { callee := .builtin .append, args := #[s, z], argTypes := #[22, 22] })
    (base : Nat) (v : Value) (l : List Itm) (x : Itm) (A : Addr) (cap : Nat) (hs : a.eval s = v) (hz : a.eval z = .slice (some A) 1 cap) (hown : OwnT w base v l) (hr : RowG encT 2 w (some A) [x]) (hx : Apart w base v.ownBlock x)
    (hml : l.length + 1 ≤ maxLen) (hb : (l.length + 1) * 32 ≤ 140737488355328) (hbase : base ≤ w.heap.size)
    (h : ∀ v' w', OwnT w' base v' (l ++ [x]) → Below base w w' → w.grownBy w' v.ownBlock → K (a.put o.dst v') w') :
    if Region.wanted o (yielded ops a.tmps) = true then Oper.wp Tryz.prog o a w K Q else E := by
  have hw : Region.wanted o (yielded ops a.tmps) = true := by simp [Region.wanted, hgd]
  rw [if_pos hw]
  obtain ⟨v', w', hr, h2, h3, h4⟩ := run_append_t w o.type base v l x A cap hown hr hx hml hb hbase
  unfold Oper.wp execOp
  simp only [ho, resolve, invoke, builtin, Sem.run_bind, Sem.run_pure, Result.andThen_ok, List.map_toArray, List.map_cons, List.map_nil, hs, hz, hr]
  exact h v' w' h2 h3 h4

end Go.Proofs.YtnkpfhipgcmplaaGreatDoor

namespace Go.Proofs
open Go.Shelf
def Tryz.sortItm_ren : Go.Shelf.Ren := ⟨fun | 6 => 64 | 15 => 82 | 14 => 81 | 28 => 109 | 29 => 110 | 20 => 101 | 21 => 102 | 22 => 103 | 23 => 104 | 24 => 105 | 25 => 106 | 26 => 107 | 27 => 108 | 46 => 129 | 47 => 130 | 48 => 131 | 49 => 132 | 50 => 133 | 57 => 153 | n => n, fun | 22 => 22 | 24 => 66 | 25 => 102 | 3 => 3 | 39 => 117 | 0 => 0 | 53 => 143 | 55 => 145 | 4 => 4 | 46 => 137 | 45 => 136 | 50 => 126 | 5 => 5 | 9 => 9 | 66 => 159 | 70 => 163 | 76 => 179 | 77 => 180 | n => n, fun | n => n⟩
theorem Tryz.sortItm : Go.Proofs.SlLaysF0.n6 Tryz.prog Tryz.sortItm_ren := {
  mixed := by kernel_rfl
  f6 := ⟨Tryz.f64.name, by decide, Tryz.func64.trans (congrArg some (by kernel_rfl))⟩
  f14 := ⟨Tryz.f81.name, by decide, Tryz.func81.trans (congrArg some (by kernel_rfl))⟩
  f15 := Tryz.func82.trans (congrArg some (by kernel_rfl))
  f20 := ⟨Tryz.f101.name, by decide, Tryz.func101.trans (congrArg some (by kernel_rfl))⟩
  f21 := ⟨Tryz.f102.name, by decide, Tryz.func102.trans (congrArg some (by kernel_rfl))⟩
  f22 := ⟨Tryz.f103.name, by decide, Tryz.func103.trans (congrArg some (by kernel_rfl))⟩
  f23 := ⟨Tryz.f104.name, by decide, Tryz.func104.trans (congrArg some (by kernel_rfl))⟩
  f24 := ⟨Tryz.f105.name, by decide, Tryz.func105.trans (congrArg some (by kernel_rfl))⟩
  f25 := ⟨Tryz.f106.name, by decide, Tryz.func106.trans (congrArg some (by kernel_rfl))⟩
  f26 := ⟨Tryz.f107.name, by decide, Tryz.func107.trans (congrArg some (by kernel_rfl))⟩
  f27 := ⟨Tryz.f108.name, by decide, Tryz.func108.trans (congrArg some (by kernel_rfl))⟩
  f28 := Tryz.func109.trans (congrArg some (by kernel_rfl))
  f29 := Tryz.func110.trans (congrArg some (by kernel_rfl))
  f46 := ⟨Tryz.f129.name, by decide, Tryz.func129.trans (congrArg some (by kernel_rfl))⟩
  f47 := Tryz.func130.trans (congrArg some (by kernel_rfl))
  f48 := Tryz.func131.trans (congrArg some (by kernel_rfl))
  f49 := ⟨Tryz.f132.name, by decide, Tryz.func132.trans (congrArg some (by kernel_rfl))⟩
  f50 := ⟨Tryz.f133.name, by decide, Tryz.func133.trans (congrArg some (by kernel_rfl))⟩
  f57 := ⟨Tryz.f153.name, by decide, Tryz.func153.trans (congrArg some (by kernel_rfl))⟩
  t0 := Tryz.underlying0
  a0 := Tryz.isAgg0
  z0 := Tryz.sizeOf0
  v0 := Tryz.zeroValue0
  t3 := Tryz.underlying3
  a3 := Tryz.isAgg3
  z3 := Tryz.sizeOf3
  v3 := Tryz.zeroValue3
  t4 := Tryz.underlying4
  a4 := Tryz.isAgg4
  z4 := Tryz.sizeOf4
  v4 := Tryz.zeroValue4
  t5 := Tryz.underlying5
  a5 := Tryz.isAgg5
  z5 := Tryz.sizeOf5
  v5 := Tryz.zeroValue5
  t9 := Tryz.underlying9
  a9 := Tryz.isAgg9
  z9 := Tryz.sizeOf9
  v9 := Tryz.zeroValue9
  t22 := Tryz.underlying22
  a22 := Tryz.isAgg22
  z22 := Tryz.sizeOf22
  v22 := Tryz.zeroValue22
  t25 := Tryz.underlying102
  a25 := Tryz.isAgg102
  z25 := Tryz.sizeOf102
  v25 := Tryz.zeroValue102
  t39 := Tryz.underlying117
  a39 := Tryz.isAgg117
  z39 := Tryz.sizeOf117
  v39 := Tryz.zeroValue117
  t45 := Tryz.underlying136
  a45 := Tryz.isAgg136
  z45 := Tryz.sizeOf136
  v45 := Tryz.zeroValue136
  t46 := Tryz.underlying137
  a46 := Tryz.isAgg137
  z46 := Tryz.sizeOf137
  v46 := Tryz.zeroValue137
  t50 := Tryz.underlying126
  a50 := Tryz.isAgg126
  z50 := Tryz.sizeOf126
  v50 := Tryz.zeroValue126
  t53 := Tryz.underlying143
  a53 := Tryz.isAgg143
  z53 := Tryz.sizeOf143
  v53 := Tryz.zeroValue143
  t55 := Tryz.underlying145
  a55 := Tryz.isAgg145
  z55 := Tryz.sizeOf145
  v55 := Tryz.zeroValue145
  t66 := Tryz.underlying159
  a66 := Tryz.isAgg159
  z66 := Tryz.sizeOf159
  v66 := Tryz.zeroValue159
  t70 := Tryz.underlying163
  a70 := Tryz.isAgg163
  z70 := Tryz.sizeOf163
  v70 := Tryz.zeroValue163
  t76 := Tryz.underlying179
  a76 := Tryz.isAgg179
  z76 := Tryz.sizeOf179
  v76 := Tryz.zeroValue179
  t77 := Tryz.underlying180
  a77 := Tryz.isAgg180
  z77 := Tryz.sizeOf180
  v77 := Tryz.zeroValue180 }
end Go.Proofs
