/-
  plain.tell at a step that may stand in a query (but join, distinct, sum); lists of sets in memory.
-/
import Derived.Test.YtehcciefbjiknaaPChk
namespace Go.Proofs.Ytehcciefbjiknaa
open Go.RowKit Go.Sort Go.Maps

theorem oneOk {s : Stp} {ah : List Int} {S : List (List Zit)} (h : widW s ah ≠ 0) (hS : Ahd S ah) (hk : s.k = 2 ∨ s.k = 3 ∨ s.k = 8) : 0 ≤ s.a ∧ s.a.toNat < S.length ∧ ∀ l : List Itm, l.map Itm.z = getS S s.a → OneOk s l := by
  have hin : inB s.a 0 ((ah.length : Int) - 1) = true := by
    rcases hk with k | k | k
    · exact (par2 h k).1
    · exact (par3 h k).1
    · exact (par8 h k).1
  obtain ⟨h0, h1, h2, h3⟩ := hS.at hin
  refine ⟨h0, h1, fun l hl => ?_⟩
  have hz := (errZ_iff (getS S s.a)).1 h2
  have hlen : l.length ≤ 400 := by have := congrArg List.length hl; simp at this; omega
  have hmem : ∀ x ∈ l, x.z ∈ getS S s.a := fun x hx => by rw [← hl]; exact List.mem_map.2 ⟨x, hx, rfl⟩
  have hw : ∀ x ∈ l, (x.r.length : Int) = ah.getD s.a.toNat 0 := fun x hx => h3 x.z (hmem x hx)
  refine ⟨hlen, fun x hx => ?_, fun k => ?_, fun k => ?_, fun k => ?_⟩
  · have := okZ_parts (hz.2.1 x.z (hmem x hx))
    exact ⟨this.1, this.2.1⟩
  · obtain ⟨_, p2, p3, _⟩ := par2 h k
    exact ⟨p2, fun x hx => by rw [hw x hx]; exact p3⟩
  · obtain ⟨_, p2, p3, _⟩ := par3 h k
    exact ⟨p2, fun x hx c hc => by rw [hw x hx]; exact p3 c hc⟩
  · obtain ⟨_, p2, _⟩ := par8 h k
    exact fun x hx => by rw [hw x hx]; exact p2
/-- A step of the kinds that are walked here. -/
def KindL (s : Stp) : Prop := s.k ≠ 4 ∧ s.k ≠ 7 ∧ s.k ≠ 9
theorem tellV {s : Stp} {ah : List Int} {S : List (List Zit)} {a b : List Itm} {A B : Option Addr} {ca cb : Nat} {SA : Option Addr} {sc : Nat} {ss : List Sl} {w : World} (h : widW s ah ≠ 0) (hS : Ahd S ah) (hk : KindL s) (hs : Sts w SA ss S) (ha : Lv w A ca a) (hb : Lv w B cb b) (hl : RowI w s.p s.l) :
    Calls Try.prog 18 #[.agg #[.int .i64 s.k, .int .i64 s.a, .int .i64 s.b, .int .i64 s.c, .int .i64 s.o, .int .i64 s.v, .slice s.p s.l.length s.n], .agg #[.slice A a.length ca, .slice B b.length cb], .slice SA ss.length sc] w fun e w' => ∃ (L : List Itm) (C : Option Addr) (k : Nat), e = .returned (.tuple #[.slice C L.length k, .int .i64 (tellE s (a.map Itm.z) (b.map Itm.z) S)]) ∧ L.map Itm.z = tellF s (a.map Itm.z) (b.map Itm.z) S ∧ Lv w' C k L ∧ Below w.heap.size w w' ∧ NewT w.heap.size C L := by
  rcases kinds h with k | k | k | k | k | k | k | k | k
  · exact tell1 s a b A B ca cb SA sc ss S w k (par1 h k).1 ha hb
  · obtain ⟨h0, h1, h2⟩ := oneOk h hS (Or.inl k)
    exact tellOne s a b A B ca cb SA sc ss S w 2 k (Or.inl rfl) h0 h1 hs hl h2
  · obtain ⟨h0, h1, h2⟩ := oneOk h hS (Or.inr (Or.inl k))
    exact tellOne s a b A B ca cb SA sc ss S w 3 k (Or.inr (Or.inl rfl)) h0 h1 hs hl h2
  · exact absurd k hk.1
  · obtain ⟨p1, p2, _, _⟩ := par5 h k
    exact tell5 s a b A B ca cb SA sc ss S w k (hS.at p1).1 (hS.at p1).2.1 (hS.at p2).1 (hS.at p2).2.1 hs
  · obtain ⟨p1, p2, _, _⟩ := par6 h k
    exact tell6 s a b A B ca cb SA sc ss S w k (hS.at p1).1 (hS.at p1).2.1 (hS.at p2).1 (hS.at p2).2.1 hs (hS.at p2).2.2.1
  · exact absurd k hk.2.1
  · obtain ⟨h0, h1, h2⟩ := oneOk h hS (Or.inr (Or.inr k))
    exact tellOne s a b A B ca cb SA sc ss S w 8 k (Or.inr (Or.inr rfl)) h0 h1 hs hl h2
  · exact absurd k hk.2.2

/-- No cell of a list lies in the block that is written. -/
theorem RowG.grown {α : Type} {enc : α → List Value} {k : Nat} {w w' : World} {A : Option Addr} {l : List α} {row : Option Nat} (h : RowG enc k w A l) (hg : w.grownBy w' row) (hne : ∀ a, A = some a → l ≠ [] → some a.block ≠ row) : RowG enc k w' A l := by
  rcases h with h | ⟨b, off, hA, hb, hc⟩
  · exact Or.inl h
  · by_cases hl : l = []
    · exact Or.inl hl
    · refine Or.inr ⟨b, off, hA, Nat.lt_of_lt_of_le hb hg.size, fun j hj i hi => ?_⟩
      rw [World.cell?_of_block (a := ⟨b, off + j * k + i, none⟩) (hg.block b hb (hne _ hA hl))]
      exact hc j hj i hi
def Far (row : Option Nat) (s : Sl) : Prop := (∀ a, s.A = some a → s.l ≠ [] → some a.block ≠ row) ∧ ∀ x ∈ s.l, ∀ a, x.p = some a → x.r ≠ [] → some a.block ≠ row
theorem Lv.grown {w w' : World} {s : Sl} {row : Option Nat} (h : Lv w s.A s.cap s.l) (hg : w.grownBy w' row) (hf : Far row s) : Lv w' s.A s.cap s.l :=
  ⟨⟨h.items.row.grown hg hf.1, fun x hx => ⟨(h.items.each x hx).1.grown hg (hf.2 x hx), (h.items.each x hx).2⟩⟩, h.nil, h.len⟩
theorem Far.top {w : World} {s : Sl} (h : Lv w s.A s.cap s.l) {n : Nat} (hn : w.heap.size ≤ n) : Far (some n) s :=
  ⟨fun a ha hl e => by have := h.items.row.lt a ha hl; simp at e; omega, fun x hx a ha hr e => by have := (h.items.each x hx).1.lt a ha hr; simp at e; omega⟩
theorem Far.new {s : Sl} {n : Nat} {row : Option Nat} (h : NewT n s.A s.l) (hr : ∀ g, row = some g → g < n) : Far row s :=
  ⟨fun a ha _ e => by have := h.1 a ha; have := hr _ e.symm; omega, fun x hx a ha _ e => by have := h.2 x hx a ha; have := hr _ e.symm; omega⟩
theorem encS_len (s : Sl) : (encS s).length = 1 := rfl
theorem encS_one (s : Sl) : ∀ u ∈ encS s, u.oneCell' = true := by
  intro u hu
  simp [encS] at hu
  rw [hu]; rfl
theorem Try.infoS : (Try.prog.info? 23).map (fun i => (i.zero, i.size, i.bytes)) = some (some (.slice none 0 0), 1, 24) := by kernel_rfl
theorem wpList_append_s (w : World) {ops : Array Oper} {rest : List Oper} {o : Oper} {a : Act} {Q : Exit → Act → World → Prop} (hgd : o.guard = none) (s z : Operand)
    (ho : o.op = .call { callee := .builtin .append, args := #[s, z], argTypes := #[34, 34] })
    (base : Nat) (v : Value) (l : List Sl) (x : Sl) (A : Addr) (cap : Nat) (hs : a.eval s = v) (hz : a.eval z = .slice (some A) 1 cap) (hown : OwnG encS 1 23 w base v l) (hr : RowG encS 1 w (some A) [x])
    (hml : l.length + 1 ≤ maxLen) (hb : (l.length + 1) * 24 ≤ 140737488355328) (hbase : base ≤ w.heap.size)
    (h : ∀ v' w', OwnG encS 1 23 w' base v' (l ++ [x]) → w.grownBy w' v.ownBlock → (v'.ownBlock = v.ownBlock ∨ v'.ownBlock = some w.heap.size) → wpList Try.prog ops Q rest (a.put o.dst v') w') : wpList Try.prog ops Q (o :: rest) a w :=
  wpList_plain hgd fun _ hK => by
    obtain ⟨i0, hi, hz0, hz1, hz2⟩ := info_parts Try.infoS
    obtain ⟨v', w', g1, g2, g3, _, g5⟩ := run_append_own_at (P := Try.prog) w base 34 o.type 23 i0 (.slice none 0 0) 1 24 Try.underlying34 hi hz0 hz1 hz2 rfl (by omega) v l.length (flatG encS l) hown A 1 cap (flatG encS [x]) (flatG_length encS_len [x]) (hr.cells encS_len (by omega)) (fun u hu => flatG_one encS_one u [x] hu) hml hb hbase
    have h2 : OwnG encS 1 23 w' base v' (l ++ [x]) := by
      show w'.ownsRow base _ 1 v' (l ++ [x]).length (flatG encS (l ++ [x]))
      rw [List.length_append, flatG_append]
      exact g2
    unfold Oper.wp execOp
    simp only [ho, resolve, invoke, builtin, Sem.run_bind, Sem.run_pure, Result.andThen_ok, List.map_toArray, List.map_cons, List.map_nil, hs, hz, g1]
    exact hK _ _ (h v' w' h2 g3 g5)
end Go.Proofs.Ytehcciefbjiknaa
