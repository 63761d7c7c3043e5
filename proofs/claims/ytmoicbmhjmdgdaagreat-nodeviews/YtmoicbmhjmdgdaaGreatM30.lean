/-
  plain.tell at a step that may stand in a query (but join, distinct, sum); lists of sets in memory.
  Steps of one's own: append, one by one.
  The numbers of a step that may stand in a query are small.
-/
import Derived.Test.YtmoicbmhjmdgdaaGreatM29
import Derived.Test.YtmoicbmhjmdgdaaGreatM23
namespace Go.Proofs.YtmoicbmhjmdgdaaGreat
open Go.RowKit Go.Sort Go.Maps

theorem oneOk {s : Stp} {ah : List Int} {S : List (List Zit)} (h : widW s ah ≠ 0) (hS : Ahd S ah) (hk : s.k = 2 ∨ s.k = 3 ∨ s.k = 8 ∨ s.k = 7 ∨ s.k = 9) : 0 ≤ s.a ∧ s.a.toNat < S.length ∧ ∀ l : List Itm, l.map Itm.z = getS S s.a → OneOk s l := by
 have hin : inB s.a 0 ((ah.length : Int) - 1) = true := by
  rcases hk with k | k | k | k | k
  ·exact (par2 h k).1
  ·exact (par3 h k).1
  ·exact (par8 h k).1
  ·exact (par7 h k).1
  ·exact (par9 h k).1
 obtain ⟨h0, h1, h2, h3⟩ := hS.at hin
 refine ⟨h0, h1, fun l hl => ?_⟩
 have hz := (errZ_iff (getS S s.a)).1 h2
 have hlen : l.length ≤ 400 := by have := congrArg List.length hl; simp at this; omega
 have hmem : ∀ x ∈ l, x.z ∈ getS S s.a := fun x hx => by rw [← hl]; exact List.mem_map.2 ⟨x, hx, rfl⟩
 have hw : ∀ x ∈ l, (x.r.length : Int) = ah.getD s.a.toNat 0 := fun x hx => h3 x.z (hmem x hx)
 refine ⟨hlen, fun x hx => ?_, fun k => ?_, fun k => ?_, fun k => ?_, fun k => ?_⟩
 ·have := okZ_parts (hz.2.1 x.z (hmem x hx))
  exact ⟨this.1, this.2.1⟩
 ·obtain ⟨_, p2, p3, _⟩ := par2 h k
  exact ⟨p2, fun x hx => by rw [hw x hx]; exact p3⟩
 ·obtain ⟨_, p2, p3, _⟩ := par3 h k
  exact ⟨p2, fun x hx c hc => by rw [hw x hx]; exact p3 c hc⟩
 ·obtain ⟨_, p2, _⟩ := par8 h k
  exact fun x hx => by rw [hw x hx]; exact p2
 ·obtain ⟨_, p2, p3, _⟩ := par9 h k
  exact fun x hx => by rw [hw x hx]; exact ⟨p3, p2⟩
theorem joinOk {s : Stp} {ah : List Int} {S : List (List Zit)} (h : widW s ah ≠ 0) (hS : Ahd S ah) (hk : s.k = 4) (l r : List Itm) (hl : l.map Itm.z = getS S s.a) (hr : r.map Itm.z = getS S s.b) : JoinOk s.c s.v l r := by
 obtain ⟨p1, p2, p3, p4, _⟩ := par4 h hk
 obtain ⟨_, _, a2, a3⟩ := hS.at p1
 obtain ⟨_, _, b2, b3⟩ := hS.at p2
 have za := (errZ_iff (getS S s.a)).1 a2
 have zb := (errZ_iff (getS S s.b)).1 b2
 have ma : ∀ x ∈ l, x.z ∈ getS S s.a := fun x hx => by rw [← hl]; exact List.mem_map.2 ⟨x, hx, rfl⟩
 have mb : ∀ x ∈ r, x.z ∈ getS S s.b := fun x hx => by rw [← hr]; exact List.mem_map.2 ⟨x, hx, rfl⟩
 have wa : ∀ x ∈ l, (x.r.length : Int) = ah.getD s.a.toNat 0 := fun x hx => a3 x.z (ma x hx)
 have wb : ∀ x ∈ r, (x.r.length : Int) = ah.getD s.b.toNat 0 := fun x hx => b3 x.z (mb x hx)
 exact ⟨by have := congrArg List.length hl; simp at this; omega, by have := congrArg List.length hr; simp at this; omega, fun x hx => by rw [wa x hx]; exact p4, fun x hx => by rw [wb x hx]; exact p3, fun x hx => ⟨(okZ_parts (za.2.1 x.z (ma x hx))).1, (okZ_parts (za.2.1 x.z (ma x hx))).2.1⟩, fun x hx => ⟨(okZ_parts (zb.2.1 x.z (mb x hx))).1, (okZ_parts (zb.2.1 x.z (mb x hx))).2.1⟩⟩
theorem tellV {s : Stp} {ah : List Int} {S : List (List Zit)} {a b : List Itm} {A B : Option Addr} {ca cb : Nat} {SA : Option Addr} {sc : Nat} {ss : List Sl} {w : World} (h : widW s ah ≠ 0) (hS : Ahd S ah) (hs : Sts w SA ss S) (ha : Lv w A ca a) (hb : Lv w B cb b) (hl : RowI w s.p s.l) :
  Calls Tryz.prog 49 #[.agg #[.int .i64 s.k, .int .i64 s.a, .int .i64 s.b, .int .i64 s.c, .int .i64 s.o, .int .i64 s.v, .slice s.p s.l.length s.n], .agg #[.slice A a.length ca, .slice B b.length cb], .slice SA ss.length sc] w fun e w' => ∃ (L : List Itm) (C : Option Addr) (k : Nat), e = .returned (.tuple #[.slice C L.length k, .int .i64 (tellE s (a.map Itm.z) (b.map Itm.z) S)]) ∧ L.map Itm.z = tellF s (a.map Itm.z) (b.map Itm.z) S ∧ Lv w' C k L ∧ Below w.heap.size w w' ∧ NwT w' k w.heap.size C L := by
 rcases kinds h with k | k | k | k | k | k | k | k | k
 ·exact tell1 s a b A B ca cb SA sc ss S w k (par1 h k).1 ha hb
 ·obtain ⟨h0, h1, h2⟩ := oneOk h hS (Or.inl k)
  exact tellOne s a b A B ca cb SA sc ss S w 2 k (Or.inl rfl) h0 h1 hs hl h2
 ·obtain ⟨h0, h1, h2⟩ := oneOk h hS (Or.inr (Or.inl k))
  exact tellOne s a b A B ca cb SA sc ss S w 3 k (Or.inr (Or.inl rfl)) h0 h1 hs hl h2
 ·obtain ⟨p1, p2, _, _, _⟩ := par4 h k
  exact tell4 s a b A B ca cb SA sc ss S w k (hS.at p1).1 (hS.at p1).2.1 (hS.at p2).1 (hS.at p2).2.1 hs (joinOk h hS k)
 ·obtain ⟨p1, p2, _, _⟩ := par5 h k
  exact tell5 s a b A B ca cb SA sc ss S w k (hS.at p1).1 (hS.at p1).2.1 (hS.at p2).1 (hS.at p2).2.1 hs
 ·obtain ⟨p1, p2, _, _⟩ := par6 h k
  exact tell6 s a b A B ca cb SA sc ss S w k (hS.at p1).1 (hS.at p1).2.1 (hS.at p2).1 (hS.at p2).2.1 hs (hS.at p2).2.2.1
 ·obtain ⟨h0, h1, h2⟩ := oneOk h hS (Or.inr (Or.inr (Or.inr (Or.inl k))))
  exact tellOne s a b A B ca cb SA sc ss S w 7 k (Or.inr (Or.inr (Or.inr (Or.inl rfl)))) h0 h1 hs hl h2
 ·obtain ⟨h0, h1, h2⟩ := oneOk h hS (Or.inr (Or.inr (Or.inl k)))
  exact tellOne s a b A B ca cb SA sc ss S w 8 k (Or.inr (Or.inr (Or.inl rfl))) h0 h1 hs hl h2
 ·obtain ⟨h0, h1, h2⟩ := oneOk h hS (Or.inr (Or.inr (Or.inr (Or.inr k))))
  exact tellOne s a b A B ca cb SA sc ss S w 9 k (Or.inr (Or.inr (Or.inr (Or.inr rfl)))) h0 h1 hs hl h2

/-- No cell of a list lies in the block that is written. -/
theorem RowG.grown {α : Type} {enc : α → List Value} {k : Nat} {w w' : World} {A : Option Addr} {l : List α} {row : Option Nat} (h : RowG enc k w A l) (hg : w.grownBy w' row) (hne : ∀ a, A = some a → l ≠ [] → some a.block ≠ row) : RowG enc k w' A l := by
 rcases h with h | ⟨b, off, hA, hb, hc⟩
 ·exact Or.inl h
 ·by_cases hl : l = []
  ·exact Or.inl hl
  ·refine Or.inr ⟨b, off, hA, Nat.lt_of_lt_of_le hb hg.size, fun j hj i hi => ?_⟩
   rw [World.cell?_of_block (a := ⟨b, off + j * k + i, none⟩) (hg.block b hb (hne _ hA hl))]
   exact hc j hj i hi
def Far (row : Option Nat) (s : Sl) : Prop := (∀ a, s.A = some a → s.l ≠ [] → some a.block ≠ row) ∧ ∀ x ∈ s.l, ∀ a, x.p = some a → x.r ≠ [] → some a.block ≠ row
theorem Lv.grown {w w' : World} {s : Sl} {row : Option Nat} (h : Lv w s.A s.cap s.l) (hg : w.grownBy w' row) (hf : Far row s) : Lv w' s.A s.cap s.l :=
 ⟨⟨h.items.row.grown hg hf.1, fun x hx => ⟨(h.items.each x hx).1.grown hg (hf.2 x hx), (h.items.each x hx).2⟩⟩, h.nilc, h.len⟩
theorem Far.top {w : World} {s : Sl} (h : Lv w s.A s.cap s.l) {n : Nat} (hn : w.heap.size ≤ n) : Far (some n) s :=
 ⟨fun a ha hl e => by have := h.items.row.lt a ha hl; simp at e; omega, fun x hx a ha hr e => by have := (h.items.each x hx).1.lt a ha hr; simp at e; omega⟩
theorem Far.new {s : Sl} {n : Nat} {row : Option Nat} (h : NewT n s.A s.l) (hr : ∀ g, row = some g → g < n) : Far row s :=
 ⟨fun a ha _ e => by have := h.1 a ha; have := hr _ e.symm; omega, fun x hx a ha _ e => by have := h.2 x hx a ha; have := hr _ e.symm; omega⟩
theorem encS_len (s : Sl) : (encS s).length = 1 := rfl
theorem encS_one (s : Sl) : ∀ u ∈ encS s, u.oneCell' = true := by
 intro u hu
 simp [encS] at hu
 rw [hu]; rfl
theorem Tryz.infoS : (Tryz.prog.info? 35).map (fun i => (i.zero, i.size, i.bytes)) = some (some (.slice none 0 0), 1, 24) := by kernel_rfl
theorem wpList_append_s (w : World) {ops : Array Oper} {rest : List Oper} {o : Oper} {a : Act} {Q : Exit → Act → World → Prop} (hgd : o.guard = none) (s z : Operand)
  (ho : o.op = .call { callee := .builtin .append, args := #[s, z], argTypes := #[92, 92] })
  (base : Nat) (v : Value) (l : List Sl) (x : Sl) (A : Addr) (cap : Nat) (hs : a.eval s = v) (hz : a.eval z = .slice (some A) 1 cap) (hown : OwnG encS 1 35 w base v l) (hr : RowG encS 1 w (some A) [x])
  (hml : l.length + 1 ≤ maxLen) (hb : (l.length + 1) * 24 ≤ 140737488355328) (hbase : base ≤ w.heap.size)
  (h : ∀ v' w', OwnG encS 1 35 w' base v' (l ++ [x]) → w.grownBy w' v.ownBlock → (v'.ownBlock = v.ownBlock ∨ v'.ownBlock = some w.heap.size) → wpList Tryz.prog ops Q rest (a.put o.dst v') w') : wpList Tryz.prog ops Q (o :: rest) a w :=
 wpList_plain hgd fun _ hK => by
  obtain ⟨i0, hi, hz0, hz1, hz2⟩ := info_parts Tryz.infoS
  obtain ⟨v', w', g1, g2, g3, _, g5⟩ := run_append_own_at (P := Tryz.prog) w base 92 o.type 35 i0 (.slice none 0 0) 1 24 Tryz.underlying92 hi hz0 hz1 hz2 rfl (by omega) v l.length (flatG encS l) hown A 1 cap (flatG encS [x]) (flatG_length encS_len [x]) (hr.cells encS_len (by omega)) (fun u hu => flatG_one encS_one u [x] hu) hml hb hbase
  have h2 : OwnG encS 1 35 w' base v' (l ++ [x]) := by
   show w'.ownsRow base _ 1 v' (l ++ [x]).length (flatG encS (l ++ [x]))
   rw [List.length_append, flatG_append]
   exact g2
  unfold Oper.wp execOp
  simp only [ho, resolve, invoke, builtin, Sem.run_bind, Sem.run_pure, Result.andThen_ok, List.map_toArray, List.map_cons, List.map_nil, hs, hz, g1]
  exact hK _ _ (h v' w' h2 g3 g5)
end Go.Proofs.YtmoicbmhjmdgdaaGreat

namespace Go.Proofs.YtmoicbmhjmdgdaaGreat
open Go.RowKit Go.Sort

theorem Tryz.infoQ2 : (Tryz.prog.info? 30).map (fun i => (i.zero, i.size, i.bytes)) = some (some (.agg #[.int .i64 0, .int .i64 0, .int .i64 0, .int .i64 0, .int .i64 0, .int .i64 0, .slice none 0 0]), 7, 72) := by kernel_rfl

/-- A row that lies apart from the block ob, in memory made behind base. -/
structure ApartS (w : World) (base : Nat) (ob : Option Nat) (x : Stp) : Prop where
 row : RowI w x.p x.l
 len : x.l.length ≤ maxLen
 nil : x.p = none → x.n = 0
 own : ∀ a, x.p = some a → base ≤ a.block ∧ a.block < w.heap.size ∧ ob ≠ some a.block
/-- A list of items of one's own. -/
structure OwnS (w : World) (base : Nat) (v : Value) (l : List Stp) : Prop where
 own : OwnG encQ 7 30 w base v l
 each : ∀ x ∈ l, ApartS w base v.ownBlock x
theorem OwnS.nil (w : World) (base : Nat) : OwnS w base (.slice none 0 0) [] := ⟨OwnG.nil _ _ _ _ _, fun x hx => by cases hx⟩
theorem ApartS.below {w w' : World} {base : Nat} {ob : Option Nat} {x : Stp} (h : ApartS w base ob x) (q : Below w.heap.size w w') : ApartS w' base ob x :=
 ⟨h.row.below q, h.len, h.nil, fun a ha => ⟨(h.own a ha).1, Nat.lt_of_lt_of_le (h.own a ha).2.1 q.size, (h.own a ha).2.2⟩⟩
theorem OwnS.below {w w' : World} {base : Nat} {v : Value} {l : List Stp} (h : OwnS w base v l) (q : Below w.heap.size w w') : OwnS w' base v l := ⟨h.own.below q, fun x hx => (h.each x hx).below q⟩
theorem OwnS.gr {w w' : World} {base : Nat} {v : Value} {l : List Stp} (h : OwnS w base v l) (q : Gr w w') : OwnS w' base v l := h.below q.below
theorem OwnS.stps {w : World} {base : Nat} {v : Value} {l : List Stp} (h : OwnS w base v l) : ∃ A cap, v = .slice A l.length cap ∧ (A = none → cap = 0) ∧ Stps w A l := by
 obtain ⟨A, cap, hv, hA, hr, ha⟩ := h.own.row encQ_len
 exact ⟨A, cap, hv, hA, ⟨hr, fun x hx => ⟨(h.each x hx).row, (h.each x hx).len, (h.each x hx).nil⟩⟩⟩
theorem ApartS.grown {w w' : World} {base : Nat} {ob ob' : Option Nat} {x : Stp} (h : ApartS w base ob x) (q : w.grownBy w' ob) (hob : ob' = ob ∨ ob' = some w.heap.size) : ApartS w' base ob' x := by
 refine ⟨?_, h.len, h.nil, fun a ha => ⟨(h.own a ha).1, Nat.lt_of_lt_of_le (h.own a ha).2.1 q.size, ?_⟩⟩
 ·rcases h.row with k | ⟨b, off, hp, hb, hc⟩
  ·exact Or.inl k
  ·refine Or.inr ⟨b, off, hp, Nat.lt_of_lt_of_le hb q.size, fun j hj i hi => ?_⟩
   have hne := (h.own _ hp).2.2
   rw [World.cell?_of_block (a := ⟨b, off + j * 1 + i, none⟩) (q.block b hb fun e => hne e.symm)]
   exact hc j hj i hi
 ·rcases hob with e | e
  ·rw [e]; exact (h.own a ha).2.2
  ·rw [e]
   intro k
   injection k with k
   have := (h.own a ha).2.1
   omega
/-- append(v, x) -/
theorem run_append_s2 (w : World) (ty : TypeId) (base : Nat) (v : Value) (l : List Stp) (x : Stp) (A : Addr) (cap : Nat) (hown : OwnS w base v l) (hr : RowG encQ 7 w (some A) [x]) (hx : ApartS w base v.ownBlock x)
  (hml : l.length + 1 ≤ maxLen) (hb : (l.length + 1) * 72 ≤ 140737488355328) (hbase : base ≤ w.heap.size) :
  ∃ v' w', (Builtin.append_ #[31, 31] ty #[v, .slice (some A) 1 cap]).run Tryz.prog w = .ok v' w' ∧ OwnS w' base v' (l ++ [x]) ∧ Below base w w' ∧ w.grownBy w' v.ownBlock := by
 obtain ⟨i0, hi, hz0, hz1, hz2⟩ := info_parts Tryz.infoQ2
 obtain ⟨v', w', g1, g2, g3, _, g5⟩ := run_append_own_at (P := Tryz.prog) w base 31 ty 30 i0 (.agg #[.int .i64 0, .int .i64 0, .int .i64 0, .int .i64 0, .int .i64 0, .int .i64 0, .slice none 0 0]) 7 72 Tryz.underlying31 hi hz0 hz1 hz2 rfl (by omega) v l.length (flatG encQ l) hown.own A 1 cap (flatG encQ [x]) (flatG_length encQ_len [x]) (hr.cells encQ_len (by omega)) (fun u hu => flatG_one encQ_one u [x] hu) hml hb hbase
 refine ⟨v', w', g1, ⟨?_, fun y hy => ?_⟩, OwnG.grown_below hown.own g3 hbase, g3⟩
 ·show w'.ownsRow base _ 7 v' (l ++ [x]).length (flatG encQ (l ++ [x]))
  rw [List.length_append, flatG_append]
  exact g2
 ·rcases List.mem_append.1 hy with k | k
  ·exact (hown.each y k).grown g3 g5
  ·have : y = x := by simpa using k
   subst this
   exact hx.grown g3 g5
theorem wpList_append_s2 (w : World) {ops : Array Oper} {rest : List Oper} {o : Oper} {a : Act} {Q : Exit → Act → World → Prop} (hgd : o.guard = none) (s z : Operand)
  (ho : o.op = .call { callee := .builtin .append, args := #[s, z], argTypes := #[31, 31] })
  (base : Nat) (v : Value) (l : List Stp) (x : Stp) (A : Addr) (cap : Nat) (hs : a.eval s = v) (hz : a.eval z = .slice (some A) 1 cap) (hown : OwnS w base v l) (hr : RowG encQ 7 w (some A) [x]) (hx : ApartS w base v.ownBlock x)
  (hml : l.length + 1 ≤ maxLen) (hb : (l.length + 1) * 72 ≤ 140737488355328) (hbase : base ≤ w.heap.size)
  (h : ∀ v' w', OwnS w' base v' (l ++ [x]) → Below base w w' → wpList Tryz.prog ops Q rest (a.put o.dst v') w') : wpList Tryz.prog ops Q (o :: rest) a w :=
 wpList_plain hgd fun _ hK => by
  obtain ⟨v', w', hr, h2, h3, _⟩ := run_append_s2 w o.type base v l x A cap hown hr hx hml hb hbase
  unfold Oper.wp execOp
  simp only [ho, resolve, invoke, builtin, Sem.run_bind, Sem.run_pure, Result.andThen_ok, List.map_toArray, List.map_cons, List.map_nil, hs, hz, hr]
  exact hK _ _ (h v' w' h2 h3)

end Go.Proofs.YtmoicbmhjmdgdaaGreat

namespace Go.Proofs.YtmoicbmhjmdgdaaGreat

/-- A small number. -/
def Small (n : Int) : Prop := -1073741824 ≤ n ∧ n ≤ 1073741824
/-- All numbers of a step are small, and its list is short. -/
structure Fine (s : Stp) : Prop where
 a : Small s.a
 b : Small s.b
 c : Small s.c
 o : Small s.o
 v : Small s.v
 l : s.l.length ≤ 8 ∧ ∀ x ∈ s.l, Small x
theorem small_in {n lo hi : Int} (h : inB n lo hi = true) (h1 : -1073741824 ≤ lo) (h2 : hi ≤ 1073741824) : Small n := by
 simp only [inB, Bool.and_eq_true, decide_eq_true_eq] at h
 exact ⟨by omega, by omega⟩
theorem small_zero {n : Int} (h : decide (n = 0) = true) : Small n := by
 have : n = 0 := by simpa using h
 exact ⟨by omega, by omega⟩
theorem fine_nil {l : List Int} (h : l.isEmpty = true) : l.length ≤ 8 ∧ ∀ x ∈ l, Small x := by
 have : l = [] := by simpa using h
 subst this
 exact ⟨by simp, fun x hx => by cases hx⟩
theorem widW_fine {s : Stp} {ah : List Int} (h : widW s ah ≠ 0) (hl : ah.length ≤ 8) (hah : ∀ x ∈ ah, 0 ≤ x ∧ x ≤ 8) : Fine s := by
 have ga := getD_b hah s.a.toNat
 have gb := getD_b hah s.b.toNat
 by_cases h9 : 1 ≤ s.k ∧ s.k ≤ 9
 ·have hk : s.k = 1 ∨ s.k = 2 ∨ s.k = 3 ∨ s.k = 4 ∨ s.k = 5 ∨ s.k = 6 ∨ s.k = 7 ∨ s.k = 8 ∨ s.k = 9 := by omega
  rcases hk with hk | hk | hk | hk | hk | hk | hk | hk | hk
  ·rw [wid1 hk] at h
   have t := Classical.not_not.1 (fun e => h (if_neg e))
   simp only [Bool.and_eq_true] at t
   obtain ⟨⟨⟨⟨⟨t1, t2⟩, t3⟩, t4⟩, t5⟩, t6⟩ := t
   exact ⟨small_in t1 (by omega) (by omega), small_zero t2, small_zero t3, small_zero t4, small_zero t5, fine_nil t6⟩
  ·rw [wid2 hk] at h
   have t := Classical.not_not.1 (fun e => h (if_neg e))
   simp only [Bool.and_eq_true] at t
   obtain ⟨⟨⟨⟨⟨t1, t2⟩, t3⟩, t4⟩, t5⟩, t6⟩ := t
   exact ⟨small_in t1 (by omega) (by omega), small_zero t2, small_in t6 (by omega) (by omega), small_in t4 (by omega) (by omega), small_in t5 (by omega) (by omega), fine_nil t3⟩
  ·rw [wid3 hk] at h
   have t := Classical.not_not.1 (fun e => h (if_neg e))
   simp only [Bool.and_eq_true] at t
   obtain ⟨⟨⟨⟨⟨⟨t1, t2⟩, t3⟩, t4⟩, t5⟩, t6⟩, t7⟩ := t
   exact ⟨small_in t1 (by omega) (by omega), small_zero t2, small_zero t5, small_zero t6, small_zero t7, ⟨by simp only [inB, Bool.and_eq_true, decide_eq_true_eq] at t3; omega, fun x hx => small_in (List.all_eq_true.1 t4 x hx) (by omega) (by omega)⟩⟩
  ·rw [wid4 hk] at h
   have t := Classical.not_not.1 (fun e => h (if_neg e))
   simp only [Bool.and_eq_true] at t
   obtain ⟨⟨⟨⟨⟨⟨t1, t2⟩, t3⟩, t4⟩, t5⟩, t6⟩, t7⟩ := t
   exact ⟨small_in t1 (by omega) (by omega), small_in t2 (by omega) (by omega), small_in t6 (by omega) (by omega), small_zero t7, small_in t5 (by omega) (by omega), fine_nil t3⟩
  ·rw [wid5 hk] at h
   have t := Classical.not_not.1 (fun e => h (if_neg e))
   simp only [Bool.and_eq_true] at t
   obtain ⟨⟨⟨⟨⟨⟨t1, t2⟩, t3⟩, t4⟩, t5⟩, t6⟩, t7⟩ := t
   exact ⟨small_in t1 (by omega) (by omega), small_in t2 (by omega) (by omega), small_zero t5, small_zero t6, small_zero t7, fine_nil t3⟩
  ·rw [wid6 hk] at h
   have t := Classical.not_not.1 (fun e => h (if_neg e))
   simp only [Bool.and_eq_true] at t
   obtain ⟨⟨⟨⟨⟨⟨t1, t2⟩, t3⟩, t4⟩, t5⟩, t6⟩, t7⟩ := t
   exact ⟨small_in t1 (by omega) (by omega), small_in t2 (by omega) (by omega), small_zero t5, small_zero t6, small_zero t7, fine_nil t3⟩
  ·rw [wid7 hk] at h
   have t := Classical.not_not.1 (fun e => h (if_neg e))
   simp only [Bool.and_eq_true] at t
   obtain ⟨⟨⟨⟨⟨t1, t2⟩, t3⟩, t4⟩, t5⟩, t6⟩ := t
   exact ⟨small_in t1 (by omega) (by omega), small_zero t2, small_zero t4, small_zero t5, small_zero t6, fine_nil t3⟩
  ·rw [wid8 hk] at h
   have t := Classical.not_not.1 (fun e => h (if_neg e))
   simp only [Bool.and_eq_true] at t
   obtain ⟨⟨⟨⟨⟨t1, t2⟩, t3⟩, t4⟩, t5⟩, t6⟩ := t
   exact ⟨small_in t1 (by omega) (by omega), small_zero t2, small_in t4 (by omega) (by omega), small_zero t5, small_zero t6, fine_nil t3⟩
  ·rw [wid9 hk] at h
   have t := Classical.not_not.1 (fun e => h (if_neg e))
   simp only [Bool.and_eq_true] at t
   obtain ⟨⟨⟨⟨⟨t1, t2⟩, t3⟩, t4⟩, t5⟩, t6⟩ := t
   exact ⟨small_in t1 (by omega) (by omega), small_zero t2, small_in t5 (by omega) (by omega), small_zero t6, small_in t4 (by omega) (by omega), fine_nil t3⟩
 ·exact absurd (alone0 h9) h

end Go.Proofs.YtmoicbmhjmdgdaaGreat
