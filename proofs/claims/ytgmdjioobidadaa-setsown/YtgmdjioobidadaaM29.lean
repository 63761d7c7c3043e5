/-
  plain.tell at a step that may stand in a query (but join, distinct, sum); lists of sets in memory.
  plain.All.
-/
import Derived.Test.YtgmdjioobidadaaM28
namespace Go.Proofs.Ytgmdjioobidadaa
open Go.RowKit Go.Sort Go.Maps

theorem oneOk {s : Stp} {ah : List Int} {S : List (List Zit)} (h : widW s ah ≠ 0) (hS : Ahd S ah) (hk : s.k = 2 ∨ s.k = 3 ∨ s.k = 8 ∨ s.k = 7 ∨ s.k = 9) : 0 ≤ s.a ∧ s.a.toNat < S.length ∧ ∀ l : List Itm, l.map Itm.z = getS S s.a → OneOk s l := by
  have hin : inB s.a 0 ((ah.length : Int) - 1) = true := by
    rcases hk with k | k | k | k | k
    · exact (par2 h k).1
    · exact (par3 h k).1
    · exact (par8 h k).1
    · exact (par7 h k).1
    · exact (par9 h k).1
  obtain ⟨h0, h1, h2, h3⟩ := hS.at hin
  refine ⟨h0, h1, fun l hl => ?_⟩
  have hz := (errZ_iff (getS S s.a)).1 h2
  have hlen : l.length ≤ 400 := by have := congrArg List.length hl; simp at this; omega
  have hmem : ∀ x ∈ l, x.z ∈ getS S s.a := fun x hx => by rw [← hl]; exact List.mem_map.2 ⟨x, hx, rfl⟩
  have hw : ∀ x ∈ l, (x.r.length : Int) = ah.getD s.a.toNat 0 := fun x hx => h3 x.z (hmem x hx)
  refine ⟨hlen, fun x hx => ?_, fun k => ?_, fun k => ?_, fun k => ?_, fun k => ?_⟩
  · have := okZ_parts (hz.2.1 x.z (hmem x hx))
    exact ⟨this.1, this.2.1⟩
  · obtain ⟨_, p2, p3, _⟩ := par2 h k
    exact ⟨p2, fun x hx => by rw [hw x hx]; exact p3⟩
  · obtain ⟨_, p2, p3, _⟩ := par3 h k
    exact ⟨p2, fun x hx c hc => by rw [hw x hx]; exact p3 c hc⟩
  · obtain ⟨_, p2, _⟩ := par8 h k
    exact fun x hx => by rw [hw x hx]; exact p2
  · obtain ⟨_, p2, p3, _⟩ := par9 h k
    exact fun x hx => by rw [hw x hx]; exact ⟨p3, p2⟩
theorem joinOk {s : Stp} {ah : List Int} {S : List (List Zit)} (h : widW s ah ≠ 0) (hS : Ahd S ah) (hk : s.k = 4) (l r : List Itm) (hl : l.map Itm.z = getS S s.a) (hr : r.map Itm.z = getS S s.b) : JoinOk s.c s.v l r := by
  obtain ⟨p1, p2, p3, p4, _⟩ := par4 h hk
  obtain ⟨_, _, a2, a3⟩ := hS.at p1
  obtain ⟨_, _, b2, b3⟩ := hS.at p2
  have za := (errZ_iff (getS S s.a)).1 a2
  have zb := (errZ_iff (getS S s.b)).1 b2
  have ma : ∀ x ∈ l, x.z ∈ getS S s.a := fun x hx => by rw [← hl]; exact List.mem_map.2 ⟨x, hx, rfl⟩
  have mb : ∀ x ∈ r, x.z ∈ getS S s.b := fun x hx => by rw [← hr]; exact List.mem_map.2 ⟨x, hx, rfl⟩
  have wa : ∀ x ∈ l, (x.r.length : Int) = ah.getD s.a.toNat 0 := fun x hx => a3 x.z (ma x hx)
  have wb : ∀ x ∈ r, (x.r.length : Int) = ah.getD s.b.toNat 0 := fun x hx => b3 x.z (mb x hx)
  exact ⟨by have := congrArg List.length hl; simp at this; omega, by have := congrArg List.length hr; simp at this; omega, fun x hx => by rw [wa x hx]; exact p4, fun x hx => by rw [wb x hx]; exact p3, fun x hx => ⟨(okZ_parts (za.2.1 x.z (ma x hx))).1, (okZ_parts (za.2.1 x.z (ma x hx))).2.1⟩, fun x hx => ⟨(okZ_parts (zb.2.1 x.z (mb x hx))).1, (okZ_parts (zb.2.1 x.z (mb x hx))).2.1⟩⟩
theorem tellV {s : Stp} {ah : List Int} {S : List (List Zit)} {a b : List Itm} {A B : Option Addr} {ca cb : Nat} {SA : Option Addr} {sc : Nat} {ss : List Sl} {w : World} (h : widW s ah ≠ 0) (hS : Ahd S ah) (hs : Sts w SA ss S) (ha : Lv w A ca a) (hb : Lv w B cb b) (hl : RowI w s.p s.l) :
    Calls Try.prog 18 #[.agg #[.int .i64 s.k, .int .i64 s.a, .int .i64 s.b, .int .i64 s.c, .int .i64 s.o, .int .i64 s.v, .slice s.p s.l.length s.n], .agg #[.slice A a.length ca, .slice B b.length cb], .slice SA ss.length sc] w fun e w' => ∃ (L : List Itm) (C : Option Addr) (k : Nat), e = .returned (.tuple #[.slice C L.length k, .int .i64 (tellE s (a.map Itm.z) (b.map Itm.z) S)]) ∧ L.map Itm.z = tellF s (a.map Itm.z) (b.map Itm.z) S ∧ Lv w' C k L ∧ Below w.heap.size w w' ∧ NwT w' k w.heap.size C L := by
  rcases kinds h with k | k | k | k | k | k | k | k | k
  · exact tell1 s a b A B ca cb SA sc ss S w k (par1 h k).1 ha hb
  · obtain ⟨h0, h1, h2⟩ := oneOk h hS (Or.inl k)
    exact tellOne s a b A B ca cb SA sc ss S w 2 k (Or.inl rfl) h0 h1 hs hl h2
  · obtain ⟨h0, h1, h2⟩ := oneOk h hS (Or.inr (Or.inl k))
    exact tellOne s a b A B ca cb SA sc ss S w 3 k (Or.inr (Or.inl rfl)) h0 h1 hs hl h2
  · obtain ⟨p1, p2, _, _, _⟩ := par4 h k
    exact tell4 s a b A B ca cb SA sc ss S w k (hS.at p1).1 (hS.at p1).2.1 (hS.at p2).1 (hS.at p2).2.1 hs (joinOk h hS k)
  · obtain ⟨p1, p2, _, _⟩ := par5 h k
    exact tell5 s a b A B ca cb SA sc ss S w k (hS.at p1).1 (hS.at p1).2.1 (hS.at p2).1 (hS.at p2).2.1 hs
  · obtain ⟨p1, p2, _, _⟩ := par6 h k
    exact tell6 s a b A B ca cb SA sc ss S w k (hS.at p1).1 (hS.at p1).2.1 (hS.at p2).1 (hS.at p2).2.1 hs (hS.at p2).2.2.1
  · obtain ⟨h0, h1, h2⟩ := oneOk h hS (Or.inr (Or.inr (Or.inr (Or.inl k))))
    exact tellOne s a b A B ca cb SA sc ss S w 7 k (Or.inr (Or.inr (Or.inr (Or.inl rfl)))) h0 h1 hs hl h2
  · obtain ⟨h0, h1, h2⟩ := oneOk h hS (Or.inr (Or.inr (Or.inl k)))
    exact tellOne s a b A B ca cb SA sc ss S w 8 k (Or.inr (Or.inr (Or.inl rfl))) h0 h1 hs hl h2
  · obtain ⟨h0, h1, h2⟩ := oneOk h hS (Or.inr (Or.inr (Or.inr (Or.inr k))))
    exact tellOne s a b A B ca cb SA sc ss S w 9 k (Or.inr (Or.inr (Or.inr (Or.inr rfl)))) h0 h1 hs hl h2

/-- No cell of a list lies in the block that is written. -/
theorem RowG.grown {α : Type} {enc : α → List Value} {k : Nat} {w w' : World} {A : Option Addr} {l : List α} {row : Option Nat} (h : RowG enc k w A l) (hg : w.grownBy w' row) (hne : ∀ a, A = some a → l ≠ [] → some a.block ≠ row) : RowG enc k w' A l := by
  rcases h with h | ⟨b, off, hA, hb, hc⟩
  · exact Or.inl h
  · by_cases hl : l = []
    · exact Or.inl hl
    · refine Or.inr ⟨b, off, hA, Nat.lt_of_lt_of_le hb hg.size, fun j hj i hi => ?_⟩
      rw [World.cell?_of_block (a := ⟨b, off + j * k + i, none⟩) (hg.block b hb (hne _ hA hl))]
      exact hc j hj i hi
def Far (row : Option Nat) (s : Sl) : Prop := (∀ a, s.A = some a → s.l ≠ [] → some a.block ≠ row) ∧ ∀ x ∈ s.l, ∀ a, x.p = some a → x.r ≠ [] → some a.block ≠ row
theorem Lv.grown {w w' : World} {s : Sl} {row : Option Nat} (h : Lv w s.A s.cap s.l) (hg : w.grownBy w' row) (hf : Far row s) : Lv w' s.A s.cap s.l :=
  ⟨⟨h.items.row.grown hg hf.1, fun x hx => ⟨(h.items.each x hx).1.grown hg (hf.2 x hx), (h.items.each x hx).2⟩⟩, h.nilc, h.len⟩
theorem Far.top {w : World} {s : Sl} (h : Lv w s.A s.cap s.l) {n : Nat} (hn : w.heap.size ≤ n) : Far (some n) s :=
  ⟨fun a ha hl e => by have := h.items.row.lt a ha hl; simp at e; omega, fun x hx a ha hr e => by have := (h.items.each x hx).1.lt a ha hr; simp at e; omega⟩
theorem Far.new {s : Sl} {n : Nat} {row : Option Nat} (h : NewT n s.A s.l) (hr : ∀ g, row = some g → g < n) : Far row s :=
  ⟨fun a ha _ e => by have := h.1 a ha; have := hr _ e.symm; omega, fun x hx a ha _ e => by have := h.2 x hx a ha; have := hr _ e.symm; omega⟩
theorem encS_len (s : Sl) : (encS s).length = 1 := rfl
theorem encS_one (s : Sl) : ∀ u ∈ encS s, u.oneCell' = true := by
  intro u hu
  simp [encS] at hu
  rw [hu]; rfl
theorem Try.infoS : (Try.prog.info? 23).map (fun i => (i.zero, i.size, i.bytes)) = some (some (.slice none 0 0), 1, 24) := by kernel_rfl
theorem wpList_append_s (w : World) {ops : Array Oper} {rest : List Oper} {o : Oper} {a : Act} {Q : Exit → Act → World → Prop} (hgd : o.guard = none) (s z : Operand)
    (ho : o.op = .call { callee := .builtin .append, args := #[s, z], argTypes := #[27, 27] })
    (base : Nat) (v : Value) (l : List Sl) (x : Sl) (A : Addr) (cap : Nat) (hs : a.eval s = v) (hz : a.eval z = .slice (some A) 1 cap) (hown : OwnG encS 1 23 w base v l) (hr : RowG encS 1 w (some A) [x])
    (hml : l.length + 1 ≤ maxLen) (hb : (l.length + 1) * 24 ≤ 140737488355328) (hbase : base ≤ w.heap.size)
    (h : ∀ v' w', OwnG encS 1 23 w' base v' (l ++ [x]) → w.grownBy w' v.ownBlock → (v'.ownBlock = v.ownBlock ∨ v'.ownBlock = some w.heap.size) → wpList Try.prog ops Q rest (a.put o.dst v') w') : wpList Try.prog ops Q (o :: rest) a w :=
  wpList_plain hgd fun _ hK => by
    obtain ⟨i0, hi, hz0, hz1, hz2⟩ := info_parts Try.infoS
    obtain ⟨v', w', g1, g2, g3, _, g5⟩ := run_append_own_at (P := Try.prog) w base 27 o.type 23 i0 (.slice none 0 0) 1 24 Try.underlying27 hi hz0 hz1 hz2 rfl (by omega) v l.length (flatG encS l) hown A 1 cap (flatG encS [x]) (flatG_length encS_len [x]) (hr.cells encS_len (by omega)) (fun u hu => flatG_one encS_one u [x] hu) hml hb hbase
    have h2 : OwnG encS 1 23 w' base v' (l ++ [x]) := by
      show w'.ownsRow base _ 1 v' (l ++ [x]).length (flatG encS (l ++ [x]))
      rw [List.length_append, flatG_append]
      exact g2
    unfold Oper.wp execOp
    simp only [ho, resolve, invoke, builtin, Sem.run_bind, Sem.run_pure, Result.andThen_ok, List.map_toArray, List.map_cons, List.map_nil, hs, hz, g1]
    exact hK _ _ (h v' w' h2 g3 g5)
end Go.Proofs.Ytgmdjioobidadaa

namespace Go.Proofs.Ytgmdjioobidadaa
open Go.RowKit Go.Sort Go.Maps

/-- All of a set lies below a block. -/
def SlLt (N : Nat) (s : Sl) : Prop := (∀ a, s.A = some a → a.block < N) ∧ ∀ x ∈ s.l, ∀ a, x.p = some a → a.block < N
/-- The first set lies apart from those behind it. -/
def SepS (ss : List Sl) : Prop := ∀ s0 t, ss = s0 :: t → ∃ N, SlLt N s0 ∧ ∀ s ∈ t, NewT N s.A s.l
/-- What is carried through the steps. -/
structure AInv (w wr : World) (a b : List Zit) (q : List Stp) (j : Nat) (u : Value) (ss : List Sl) (S : List (List Zit)) (ah : List Int) : Prop where
  own : OwnG encS 1 23 wr w.heap.size u ss
  each : ∀ s ∈ ss, Lv wr s.A s.cap s.l ∧ Far u.ownBlock s
  z : ss.map (fun s => s.l.map Itm.z) = S
  len : ss.length = j
  ahd : Ahd S ah
  wid : (widsF (q.drop j) ah).isSome = true
  e : allE a b (q.drop j) S = allE a b q []
  f : allF a b (q.drop j) S = allF a b q []
  bel : Below w.heap.size w wr
  nw : ∀ s ∈ ss, NwT wr s.cap w.heap.size s.A s.l
  sep : ∀ s0 t, ss = s0 :: t → ∃ N, N ≤ wr.heap.size ∧ SlLt N s0 ∧ ∀ s ∈ t, NewT N s.A s.l

theorem NwT.grown {w w' : World} {k n : Nat} {C : Option Addr} {L : List Itm} {row : Option Nat} (h : NwT w k n C L) (q : w.grownBy w' row) (h1 : ∀ g, row = some g → ∃ cur T, w.heap[g]? = some (.cells cur T (0, 0)) ∧ T ≠ 3) (h2 : ∀ g, row = some g → ∃ cur T, w.heap[g]? = some (.cells cur T (0, 0)) ∧ T ≠ 45) : NwT w' k n C L := ⟨h.new, h.arr.grown q h2, h.rows.grown q h1⟩
theorem AInv.step {w wr WX w2 w3 : World} {a b : List Zit} {q : List Stp} {j : Nat} {u v3 : Value} {ss : List Sl} {S : List (List Zit)} {ah : List Int} {s : Stp} {L : List Itm} {C : Option Addr} {k : Nat} {o : Obj} (h : AInv w wr a b q j u ss S ah) (hs : q.drop j = s :: q.drop (j + 1)) (ha : Wide 4 a) (hb : Wide 4 b) (hT : tellE s a b S = 0) (hgX : Gr wr WX) (hz : L.map Itm.z = tellF s a b S) (hL : Lv w2 C k L) (hB : Below WX.heap.size WX w2) (hN : NwT w2 k WX.heap.size C L)
    (hown : OwnG encS 1 23 w3 w.heap.size v3 (ss ++ [⟨C, k, L⟩])) (hg : (w2.alloc o).grownBy w3 u.ownBlock) (hloc : v3.ownBlock = u.ownBlock ∨ v3.ownBlock = some (w2.alloc o).heap.size) : AInv w w3 a b q (j + 1) v3 (ss ++ [⟨C, k, L⟩]) (S ++ [tellF s a b S]) (ah ++ [widW s ah]) := by
  have hw := widsF_cons (by rw [← hs]; exact h.wid)
  have hr := tell_right hw.1 h.ahd ha hb hT
  have hgA : Gr w2 (w2.alloc o) := (Gr.refl _).alloc _
  have hb2 : Below wr.heap.size wr (w2.alloc o) := hgX.below.trans ((hB.trans (hgA.below.mono hB.size)).mono hgX.size)
  have hlt : ∀ g, u.ownBlock = some g → g < wr.heap.size ∧ w.heap.size ≤ g := fun g e => ⟨(World.ownsRow.lt h.own g e).2, (World.ownsRow.lt h.own g e).1⟩
  have hfar : ∀ (x : Sl), Lv (w2.alloc o) x.A x.cap x.l → Far u.ownBlock x → Far v3.ownBlock x := fun x hx hf => by
    rcases hloc with e | e
    · rw [e]; exact hf
    · rw [e]; exact Far.top hx (Nat.le_refl _)
  have he : allE a b (q.drop j) S = allE a b (q.drop (j + 1)) (S ++ [tellF s a b S]) := by
    rw [hs]
    show (if tellE s a b S = 0 then _ else _) = _
    rw [if_pos hT]
  have hf : allF a b (q.drop j) S = allF a b (q.drop (j + 1)) (S ++ [tellF s a b S]) := by
    rw [hs]
    show (if tellE s a b S = 0 then _ else _) = _
    rw [if_pos hT]
  refine ⟨hown, fun x hx => ?_, by rw [List.map_append, h.z]; simp [hz], by simp [h.len], h.ahd.snoc hr.1 hr.2, hw.2, by rw [← he]; exact h.e, by rw [← hf]; exact h.f, ?_, ?_, ?_⟩
  · rcases List.mem_append.1 hx with e | e
    · have h1 := h.each x e
      have h2 := h1.1.below hb2
      exact ⟨h2.grown hg h1.2, hfar x h2 h1.2⟩
    · rw [List.mem_singleton.1 e]
      have h2 : Lv (w2.alloc o) C k L := hL.gr hgA
      have hf2 : Far u.ownBlock ⟨C, k, L⟩ := Far.new (n := WX.heap.size) hN.new (fun g e2 => Nat.lt_of_lt_of_le (hlt g e2).1 hgX.size)
      exact ⟨Lv.grown (s := ⟨C, k, L⟩) h2 hg hf2, hfar ⟨C, k, L⟩ h2 hf2⟩
  · exact (h.bel.trans (hb2.mono h.bel.size)).grown hg (Nat.le_trans h.bel.size hb2.size) (fun g e => (hlt g e).2)
  · intro x hx
    have ho := h.own.below hb2
    rcases List.mem_append.1 hx with e | e
    · exact ((h.nw x e).below hb2).grown hg (ho.typed (by decide)) (ho.typed (by decide))
    · rw [List.mem_singleton.1 e]
      exact ((hN.mono (Nat.le_trans h.bel.size hgX.size)).below hgA.below).grown hg (ho.typed (by decide)) (ho.typed (by decide))
  · intro s0 t hst
    have ho := h.own.below hb2
    have hsz : wr.heap.size ≤ w3.heap.size := Nat.le_trans hb2.size hg.size
    cases ss with
    | nil =>
      have h1 : s0 = ⟨C, k, L⟩ ∧ t = [] := by simpa using hst.symm
      obtain ⟨rfl, rfl⟩ := h1
      have h2 := (hN.below hgA.below).grown hg (ho.typed (by decide)) (ho.typed (by decide))
      exact ⟨w3.heap.size, Nat.le_refl _, ⟨h2.arr.lt, fun x hx => (h2.rows x hx).1.lt⟩, fun s hs => by cases hs⟩
    | cons y r =>
      have h1 : y = s0 ∧ r ++ [⟨C, k, L⟩] = t := by simpa using hst
      obtain ⟨rfl, rfl⟩ := h1
      obtain ⟨N, hN1, hN2, hN3⟩ := h.sep y r rfl
      refine ⟨N, Nat.le_trans hN1 hsz, hN2, fun s hs => ?_⟩
      rcases List.mem_append.1 hs with e | e
      · exact hN3 s e
      · rw [List.mem_singleton.1 e]
        exact hN.new.mono (Nat.le_trans hN1 hgX.size)
theorem rowNewS {W : World} {n : Nat} (hn : W.heap.size = n) (x : Sl) (T : TypeId) : RowG encS 1 (W.alloc (.cells #[.slice x.A x.l.length x.cap] T)) (some ⟨n, 0, none⟩) [x] := by
  subst hn
  refine Or.inr ⟨W.heap.size, 0, rfl, by simp, fun j hj i hi => ?_⟩
  obtain rfl : j = 0 := by simp at hj; omega
  obtain rfl : i = 0 := by omega
  exact box1 (w := W) (Gr.refl _) (j := 0) rfl

/-- What All hands back: memory of its own, whose room may be written; the first set apart from the others. -/
structure NewS (w : World) (n : Nat) (C : Option Addr) (k : Nat) (ss : List Sl) : Prop where
  own : OwnG encS 1 23 w n (.slice C ss.length k) ss
  each : ∀ s ∈ ss, NwT w s.cap n s.A s.l
  sep : SepS ss
theorem NewS.none (w : World) (n : Nat) : NewS w n none 0 [] := ⟨OwnG.nil _ _ _ _ _, fun s hs => (by cases hs), fun s0 t h => by cases h⟩

set_option maxRecDepth 100000 in
set_option maxHeartbeats 1000000 in
theorem all_new (q : List Stp) (QA : Option Addr) (cq : Nat) (a b : List Itm) (A B : Option Addr) (ca cb : Nat) (w : World) (hl : q.length ≤ maxLen) (hq : Stps w QA q) (ha : Lv w A ca a) (hb : Lv w B cb b) :
    Calls Try.prog 6 #[.slice QA q.length cq, .slice A a.length ca, .slice B b.length cb] w fun e w' => ∃ (ss : List Sl) (C : Option Addr) (k : Nat), e = .returned (.tuple #[.slice C ss.length k, .int .i64 (plnE q (a.map Itm.z) (b.map Itm.z))]) ∧ Sts w' C ss (plnF q (a.map Itm.z) (b.map Itm.z)) ∧ Below w.heap.size w w' ∧ NewS w' w.heap.size C k ss := by
  obtain ⟨E1, hE1⟩ : ∃ E, errQ q = E := ⟨_, rfl⟩
  obtain ⟨E2, hE2⟩ : ∃ E, tblE (a.map Itm.z) (b.map Itm.z) = E := ⟨_, rfl⟩
  have hC0 := checkQV (A := QA) (ca := cq) hE1 hl hq
  have hC : Hid _ := hC0
  obtain ⟨P, hP⟩ : ∃ P, plnE q (a.map Itm.z) (b.map Itm.z) = P := ⟨_, rfl⟩
  rw [hP]
  have hH : Hid (Stps w QA q ∧ Lv w A ca a ∧ Lv w B cb b ∧ errQ q = E1 ∧ plnE q (a.map Itm.z) (b.map Itm.z) = P ∧ tblE (a.map Itm.z) (b.map Itm.z) = E2) := ⟨hq, ha, hb, hE1, hP, hE2⟩
  clear hC0 hq ha hb hE1 hE2 hP hl
  go_enter Try.func6, Try.ntmps6
  go_wp2_with fail
  refine Calls.mono (show Calls _ _ _ _ _ from hC.out) ?_
  rintro e w0 ⟨rfl, hb0⟩
  have hbZ : Hid (Below w.heap.size w w0 ∧ Stps w0 QA q ∧ Lv w0 A ca a ∧ Lv w0 B cb b) := ⟨hb0, hH.out.1.below hb0, hH.out.2.1.below hb0, hH.out.2.2.1.below hb0⟩
  clear hb0 hC
  cases h0 : (E1 != 0)
  rotate_left
  focus
    have hfin : Hid (E1 = P ∧ plnF q (a.map Itm.z) (b.map Itm.z) = []) := by
      have hn : ¬ E1 = 0 := by simpa using h0
      have hp : P = E1 := by rw [← hH.out.2.2.2.2.1]; unfold plnE; rw [ahd_tbl, if_neg (show ¬ errQ q = 0 by rw [hH.out.2.2.2.1]; exact hn), if_neg (show ¬ errQ q = 0 by rw [hH.out.2.2.2.1]; exact hn)]; exact hH.out.2.2.2.1
      refine ⟨hp.symm, ?_⟩
      unfold plnF; rw [if_neg (by rw [hH.out.2.2.2.2.1, hp]; exact hn)]
    go_wp2
    go_ret2
    exact ⟨[], none, 0, by rw [← hfin.out.1]; rfl, ⟨Or.inl rfl, fun s hs => (by cases hs), by rw [hfin.out.2]; rfl⟩, hbZ.out.1, NewS.none _ _⟩
  have hE10 : Hid (errQ q = 0) := by show _ = _; rw [hH.out.2.2.2.1]; simpa using h0
  have hT0 := tables_any a b A B ca cb w0 hbZ.out.2.2.1 hbZ.out.2.2.2
  rw [hH.out.2.2.2.2.2] at hT0
  have hT : Hid _ := hT0
  clear hT0
  go_wp2_with fail
  refine Calls.mono (show Calls _ _ _ _ _ from hT.out) ?_
  rintro e wt0 ⟨rfl, hgt⟩
  have hbY : Hid (Below w.heap.size w wt0 ∧ Stps wt0 QA q ∧ Lv wt0 A ca a ∧ Lv wt0 B cb b) := ⟨hbZ.out.1.trans (hgt.below.mono hbZ.out.1.size), hbZ.out.2.1.gr hgt, hbZ.out.2.2.1.gr hgt, hbZ.out.2.2.2.gr hgt⟩
  clear hgt hT hbZ
  cases h1 : (E2 != 0)
  · have hE0 : ahdE q (a.map Itm.z) (b.map Itm.z) = 0 := by rw [ahd_tbl, if_pos hE10.out, hH.out.2.2.2.2.2]; simpa using h1
    have hQ : Hid (ahdE q (a.map Itm.z) (b.map Itm.z) = 0 ∧ P = allE (a.map Itm.z) (b.map Itm.z) q []) := ⟨hE0, by rw [← hH.out.2.2.2.2.1]; unfold plnE; rw [if_pos hE0]⟩
    have h8 : q.length ≤ 8 := (errQ_wids (ahdE_parts hE0).1).2.1
    clear hE0
    obtain ⟨w1, hWX⟩ : ∃ WX, (wt0.alloc (.cells #[.slice A a.length ca, .slice B b.length cb] 49)) = WX := ⟨_, rfl⟩
    have hgX : Hid (Gr wt0 w1) := by show Gr _ _; rw [← hWX]; exact (Gr.refl _).alloc _
    have s0 : w1.cell? ⟨wt0.heap.size, 0, none⟩ = some (.slice A a.length ca) := by rw [← hWX]; exact box1 (w := wt0) (Gr.refl _) rfl
    have s1 : w1.cell? ⟨wt0.heap.size, 1, none⟩ = some (.slice B b.length cb) := by rw [← hWX]; exact box1 (w := wt0) (Gr.refl _) rfl
    have hst1 : wt0.heap.size < w1.heap.size := by rw [← hWX]; simp
    have hbW : Hid (Below w.heap.size w w1 ∧ Stps w1 QA q ∧ Lv w1 A ca a ∧ Lv w1 B cb b) := ⟨hbY.out.1.trans (hgX.out.below.mono hbY.out.1.size), hbY.out.2.1.gr hgX.out, hbY.out.2.2.1.gr hgX.out, hbY.out.2.2.2.gr hgX.out⟩
    clear hgX hbY
    go_wp2
    clear hWX
    go_loopw [11, 32] (fun u i wr => ∃ (j : Nat) (ss : List Sl) (S : List (List Zit)) (ah : List Int), j ≤ q.length ∧ i = .int .i64 j ∧ Hid (AInv w1 wr (a.map Itm.z) (b.map Itm.z) q j u ss S ah)) (fun _ i _ => q.length - (intOf i).toNat)
    case atStart => exact ⟨0, [], [], [], Nat.zero_le _, rfl, show AInv _ _ _ _ _ _ _ _ _ _ from ⟨OwnG.nil _ _ _ _ _, fun s hs => (by cases hs), rfl, rfl, Ahd.nil, by rw [List.drop_zero]; exact (errQ_wids (ahdE_parts hQ.out.1).1).2.2, by rw [List.drop_zero], by rw [List.drop_zero], Below.refl _ _, fun s hs => (by cases hs), fun s0 t h => (by cases h)⟩⟩
    case round =>
      obtain ⟨j, ss, S, ah, hj, rfl, hR⟩ := hrel
      obtain ⟨GA, gc, hu, hgn, hrow, _⟩ := hR.out.own.row encS_len
      have hrwH : Hid (RowG encS 1 wr GA ss) := hrow
      subst hu
      clear hrow
      by_cases hlt : j < q.length
      · have hltz : (j : Int) < (q.length : Int) := by omega
        have hI : Hid (Stps wr QA q) := hbW.out.2.1.below hR.out.bel
        obtain ⟨bb, off, rfl, hb, hcs⟩ := hI.out.at hlt
        obtain ⟨s, hs⟩ : ∃ s, q[j] = s := ⟨_, rfl⟩
        have hsm : Hid (s ∈ q) := by show _ ∈ _; rw [← hs]; exact List.getElem_mem hlt
        have hdr : Hid (q.drop j = s :: q.drop (j + 1)) := by show _ = _; rw [← hs]; exact List.drop_eq_getElem_cons hlt
        rw [hs] at hcs
        have m0 : wr.cell? ⟨bb, off + j * 7, none⟩ = some (.int .i64 s.k) := hcs 0 (by omega)
        have m1 : wr.cell? ⟨bb, off + j * 7 + 1, none⟩ = some (.int .i64 s.a) := hcs 1 (by omega)
        have m2 : wr.cell? ⟨bb, off + j * 7 + 2, none⟩ = some (.int .i64 s.b) := hcs 2 (by omega)
        have m3 : wr.cell? ⟨bb, off + j * 7 + 3, none⟩ = some (.int .i64 s.c) := hcs 3 (by omega)
        have m4 : wr.cell? ⟨bb, off + j * 7 + 4, none⟩ = some (.int .i64 s.o) := hcs 4 (by omega)
        have m5 : wr.cell? ⟨bb, off + j * 7 + 5, none⟩ = some (.int .i64 s.v) := hcs 5 (by omega)
        have m6 : wr.cell? ⟨bb, off + j * 7 + 6, none⟩ = some (.slice s.p s.l.length s.n) := hcs 6 (by omega)
        have hw := widsF_cons (by rw [← hdr.out]; exact hR.out.wid)
        obtain ⟨WX, hWX⟩ : ∃ WX, (wr.alloc (.cells #[.int .i64 s.k, .int .i64 s.a, .int .i64 s.b, .int .i64 s.c, .int .i64 s.o, .int .i64 s.v, .slice s.p s.l.length s.n] 43)) = WX := ⟨_, rfl⟩
        have hgX : Hid (Gr wr WX) := by show Gr _ _; rw [← hWX]; exact (Gr.refl _).alloc _
        have hbX : Hid (Below w1.heap.size w1 WX) := hR.out.bel.trans (hgX.out.below.mono hR.out.bel.size)
        obtain ⟨T, hT⟩ : ∃ T, tellE s (a.map Itm.z) (b.map Itm.z) S = T := ⟨_, rfl⟩
        have hC0 := tellV (sc := gc) hw.1 hR.out.ahd (Sts.gr ⟨hrwH.out, fun s hs => (hR.out.each s hs).1, hR.out.z⟩ hgX.out) (hbW.out.2.2.1.below hbX.out) (hbW.out.2.2.2.below hbX.out) ((hI.out.each s hsm.out).1.gr hgX.out)
        rw [hT] at hC0
        have hC : Hid _ := hC0
        have hTH : Hid (tellE s (a.map Itm.z) (b.map Itm.z) S = T) := hT
        have x0 : WX.cell? ⟨wr.heap.size, 0, none⟩ = some (.int .i64 s.k) := by rw [← hWX]; exact box1 (w := wr) (Gr.refl _) rfl
        have x1 : WX.cell? ⟨wr.heap.size, 1, none⟩ = some (.int .i64 s.a) := by rw [← hWX]; exact box1 (w := wr) (Gr.refl _) rfl
        have x2 : WX.cell? ⟨wr.heap.size, 2, none⟩ = some (.int .i64 s.b) := by rw [← hWX]; exact box1 (w := wr) (Gr.refl _) rfl
        have x3 : WX.cell? ⟨wr.heap.size, 3, none⟩ = some (.int .i64 s.c) := by rw [← hWX]; exact box1 (w := wr) (Gr.refl _) rfl
        have x4 : WX.cell? ⟨wr.heap.size, 4, none⟩ = some (.int .i64 s.o) := by rw [← hWX]; exact box1 (w := wr) (Gr.refl _) rfl
        have x5 : WX.cell? ⟨wr.heap.size, 5, none⟩ = some (.int .i64 s.v) := by rw [← hWX]; exact box1 (w := wr) (Gr.refl _) rfl
        have x6 : WX.cell? ⟨wr.heap.size, 6, none⟩ = some (.slice s.p s.l.length s.n) := by rw [← hWX]; exact box1 (w := wr) (Gr.refl _) rfl
        have z0 : WX.cell? ⟨wt0.heap.size, 0, none⟩ = some (.slice A a.length ca) := (hbX.out.cell (p := ⟨wt0.heap.size, 0, none⟩) hst1).trans s0
        have z1 : WX.cell? ⟨wt0.heap.size, 1, none⟩ = some (.slice B b.length cb) := (hbX.out.cell (p := ⟨wt0.heap.size, 1, none⟩) hst1).trans s1
        clear hC0 hcs hs hw hT
        cases hq : (T != 0)
        · have hT0 : Hid (tellE s (a.map Itm.z) (b.map Itm.z) S = 0) := by show _ = _; rw [hTH.out]; simpa using hq
          have hj8 : Hid (ss.length = j) := hR.out.len
          go_wp2_with (first | (go_at_call 18; (refine Calls.mono (show Calls _ _ _ _ _ from hC.out) ?_); rintro e w2 ⟨L, C, k, rfl, h1, h2, h3, h4⟩; have hTl : Hid (L.map Itm.z = tellF s (a.map Itm.z) (b.map Itm.z) S ∧ Lv w2 C k L ∧ Below WX.heap.size WX w2 ∧ NwT w2 k WX.heap.size C L) := ⟨h1, h2, h3, h4⟩; have hoX : Hid (OwnG encS 1 23 (w2.alloc (.cells #[.slice C L.length k] 23)) w1.heap.size (.slice GA ss.length gc) ss ∧ ss.length + 1 ≤ maxLen ∧ (ss.length + 1) * 24 ≤ 140737488355328 ∧ w1.heap.size ≤ (w2.alloc (.cells #[.slice C L.length k] 23)).heap.size) := ⟨((hR.out.own.gr hgX.out).below h3).gr ((Gr.refl _).alloc _), by have := hj8.out; unfold maxLen; omega, by have := hj8.out; omega, Nat.le_trans hbX.out.size (Nat.le_trans h3.size (by simp))⟩; clear h1 h2 h3 h4) | (at_builtin; refine wpList_append_s _ rfl (.tmp 46) (.tmp 48) rfl w1.heap.size (.slice GA ss.length gc) ss ⟨C, k, L⟩ ⟨w2.heap.size, 0, none⟩ 1 rfl rfl hoX.out.1 (rowNewS rfl ⟨C, k, L⟩ _) hoX.out.2.1 hoX.out.2.2.1 hoX.out.2.2.2 ?_; intro v3 w3 hown3 hg3 hloc3) | fail)
          have hfin : Hid (AInv w1 w3 (a.map Itm.z) (b.map Itm.z) q (j + 1) v3 (ss ++ [⟨C, k, L⟩]) (S ++ [tellF s (a.map Itm.z) (b.map Itm.z) S]) (ah ++ [widW s ah])) := hR.out.step hdr.out (ahdE_parts hQ.out.1).2.2.2.1 (ahdE_parts hQ.out.1).2.2.2.2 hT0.out hgX.out hTl.out.1 hTl.out.2.1 hTl.out.2.2.1 hTl.out.2.2.2 hown3 hg3 hloc3
          clear hown3 hg3 hloc3
          go_roundw
          case rel => exact ⟨j + 1, ss ++ [(⟨C, k, L⟩ : Sl)], S ++ [tellF s (a.map Itm.z) (b.map Itm.z) S], ah ++ [widW s ah], by omega, by go_num, hfin⟩
          case measure => simp [intOf]; omega
        · have hT0 : Hid (P = T ∧ plnF q (a.map Itm.z) (b.map Itm.z) = []) := by
            have hn : ¬ T = 0 := by simpa using hq
            have hp : P = T := by
              rw [hQ.out.2, ← hR.out.e, hdr.out]
              show (if tellE s (a.map Itm.z) (b.map Itm.z) S = 0 then _ else _) = _
              rw [if_neg (by rw [hTH.out]; exact hn), hTH.out]
            refine ⟨hp, ?_⟩
            unfold plnF; rw [if_neg (by rw [hH.out.2.2.2.2.1, hp]; exact hn)]
          go_wp2_with (go_at_call 18; (refine Calls.mono (show Calls _ _ _ _ _ from hC.out) ?_); rintro e w2 ⟨L, C, k, rfl, h1, h2, h3, h4⟩)
          go_ret2
          exact ⟨[], none, 0, by rw [hT0.out.1]; rfl, ⟨Or.inl rfl, fun s hs => (by cases hs), by rw [hT0.out.2]; rfl⟩, hbW.out.1.trans ((hbX.out.trans (h3.mono hbX.out.size)).mono hbW.out.1.size), NewS.none _ _⟩
      · have hltz : ¬ (j : Int) < (q.length : Int) := by omega
        have hNS : Hid (NewS wr w.heap.size GA gc ss) := ⟨hR.out.own.mono hbW.out.1.size, fun s hs => (hR.out.nw s hs).mono hbW.out.1.size, fun s0 t h => by
          obtain ⟨N, _, h2, h3⟩ := hR.out.sep s0 t h
          exact ⟨N, h2, h3⟩⟩
        have hfin : Hid (P = 0 ∧ Sts wr GA ss (plnF q (a.map Itm.z) (b.map Itm.z)) ∧ Below w.heap.size w wr) := by
          have hd : q.drop j = [] := List.drop_eq_nil_of_le (by omega)
          have he := hR.out.e
          have hf := hR.out.f
          rw [hd] at he hf
          have hP0 : P = 0 := by rw [hQ.out.2, ← he]; rfl
          refine ⟨hP0, ⟨hrwH.out, fun s hs => (hR.out.each s hs).1, ?_⟩, hbW.out.1.trans (hR.out.bel.mono hbW.out.1.size)⟩
          unfold plnF
          rw [if_pos (by rw [hH.out.2.2.2.2.1]; exact hP0), ← hf, hR.out.z]
          rfl
        go_wp2
        go_ret2
        exact ⟨ss, GA, gc, by rw [hfin.out.1]; rfl, hfin.out.2.1, hfin.out.2.2, hNS.out⟩
  · have hfin : Hid (E2 = P ∧ plnF q (a.map Itm.z) (b.map Itm.z) = []) := by
      have hn : ¬ E2 = 0 := by simpa using h1
      have hah : ahdE q (a.map Itm.z) (b.map Itm.z) = E2 := by rw [ahd_tbl, if_pos hE10.out]; exact hH.out.2.2.2.2.2
      have hp : P = E2 := by rw [← hH.out.2.2.2.2.1]; unfold plnE; rw [if_neg (by rw [hah]; exact hn)]; exact hah
      refine ⟨hp.symm, ?_⟩
      unfold plnF; rw [if_neg (by rw [hH.out.2.2.2.2.1, hp]; exact hn)]
    go_wp2
    go_ret2
    exact ⟨[], none, 0, by rw [← hfin.out.1]; rfl, ⟨Or.inl rfl, fun s hs => (by cases hs), by rw [hfin.out.2]; rfl⟩, hbY.out.1, NewS.none _ _⟩
theorem all_any (q : List Stp) (QA : Option Addr) (cq : Nat) (a b : List Itm) (A B : Option Addr) (ca cb : Nat) (w : World) (hl : q.length ≤ maxLen) (hq : Stps w QA q) (ha : Lv w A ca a) (hb : Lv w B cb b) :
    Calls Try.prog 6 #[.slice QA q.length cq, .slice A a.length ca, .slice B b.length cb] w fun e w' => ∃ (ss : List Sl) (C : Option Addr) (k : Nat), e = .returned (.tuple #[.slice C ss.length k, .int .i64 (plnE q (a.map Itm.z) (b.map Itm.z))]) ∧ Sts w' C ss (plnF q (a.map Itm.z) (b.map Itm.z)) ∧ Below w.heap.size w w' :=
  (all_new q QA cq a b A B ca cb w hl hq ha hb).mono fun _ _ ⟨ss, C, k, h1, h2, h3, _⟩ => ⟨ss, C, k, h1, h2, h3⟩
end Go.Proofs.Ytgmdjioobidadaa
