/-
  query.Parse: the query of a text; what it answers, to the line.
-/
import Derived.Test.YtoodkgmpggabdaaDoorQOwnS
namespace Go.Proofs.YtoodkgmpggabdaaDoor
open Go.RowKit Go.Sort

theorem rowNewQ {W : World} {n : Nat} (hn : W.heap.size = n) (s : Stp) (T : TypeId) : RowG encQ 7 (W.alloc (.cells #[.int .i64 s.k, .int .i64 s.a, .int .i64 s.b, .int .i64 s.c, .int .i64 s.o, .int .i64 s.v, .slice s.p s.l.length s.n] T)) (some ⟨n, 0, none⟩) [s] := by
  subst hn
  refine Or.inr ⟨W.heap.size, 0, rfl, by simp, fun j hj i hi => ?_⟩
  obtain rfl : j = 0 := by simp at hj; omega
  have hh : i = 0 ∨ i = 1 ∨ i = 2 ∨ i = 3 ∨ i = 4 ∨ i = 5 ∨ i = 6 := by omega
  rcases hh with rfl | rfl | rfl | rfl | rfl | rfl | rfl
  · exact box1 (w := W) (Gr.refl _) (j := 0) rfl
  · exact box1 (w := W) (Gr.refl _) (j := 1) rfl
  · exact box1 (w := W) (Gr.refl _) (j := 2) rfl
  · exact box1 (w := W) (Gr.refl _) (j := 3) rfl
  · exact box1 (w := W) (Gr.refl _) (j := 4) rfl
  · exact box1 (w := W) (Gr.refl _) (j := 5) rfl
  · exact box1 (w := W) (Gr.refl _) (j := 6) rfl
theorem NwQ.none (n : Nat) : NwQ n none [] := ⟨fun a ha => (by cases ha), fun s hs => (by cases hs)⟩
/-- How long a text is. -/
def strL : Value → Nat
  | .string b => b.size
  | _ => 0
theorem textP_cons {a r : List UInt8} (h : (10 : UInt8) ∉ a) : textP (a ++ 10 :: r) = match lineP a with
    | none => none
    | some s => (textP r).map (s :: ·) := by
  unfold textP
  rw [splitC_app _ _ h]
  cases e : splitC 10 r with
  | nil => exact absurd e (splitC_ne _ _)
  | cons y t =>
    rw [linesP]
    cases lineP a with
    | none => rfl
    | some s => cases linesP (y :: t) <;> rfl
/-- What is read so far, and what is left. -/
def Pre (x y : List UInt8) (q0 : List Stp) : Prop := textP x = (textP y).map (q0 ++ ·)
theorem Pre.next {x a r : List UInt8} {q0 : List Stp} {s : Stp} (h : Pre x (a ++ 10 :: r) q0) (ha : (10 : UInt8) ∉ a) (hs : lineP a = some s) : Pre x r (q0 ++ [s]) := by
  unfold Pre at h ⊢
  rw [h, textP_cons ha, hs]
  cases textP r <;> simp
/-- What Parse answers. -/
def Parsed (x : List UInt8) (q : List Stp) (er : Int) : Prop :=
  (er = 0 ∧ x.length ≤ 1024 ∧ (∃ q0, textP x = some q0 ∧ q.map clr = q0.map clr) ∧ errQ q = 0) ∨
  (er ≠ 0 ∧ q = [] ∧ (1024 < x.length ∨ textP x = none ∨ ∃ q0 q1, textP x = some q0 ∧ q1.map clr = q0.map clr ∧ errQ q1 ≠ 0))
/-- Which line of a text isn't one (0: each is). -/
def scnL : List (List UInt8) → Nat → Nat
  | [], _ => 0
  | [y], k => if y = [] then 0 else k
  | p :: r :: t, k => match lineP p with
    | none => k
    | some _ => scnL (r :: t) (k + 1)
theorem scnL_cons {p : List UInt8} {t : List (List UInt8)} (h : t ≠ []) {k : Nat} : scnL (p :: t) k = match lineP p with
    | none => k
    | some _ => scnL t (k + 1) := by
  cases t with
  | nil => exact absurd rfl h
  | cons r t => rfl
/-- What Parse answers, to the line. -/
def ReadX (x : List UInt8) (q : List Stp) (k er : Int) : Prop :=
  (1024 < x.length ∧ q = [] ∧ k = 0 ∧ er = 2) ∨
  (x.length ≤ 1024 ∧ scnL (splitC 10 x) 1 ≠ 0 ∧ q = [] ∧ k = (scnL (splitC 10 x) 1 : Nat) ∧ er = 3) ∨
  (x.length ≤ 1024 ∧ scnL (splitC 10 x) 1 = 0 ∧ ∃ q0 q1, textP x = some q0 ∧ q1.map clr = q0.map clr ∧ k = 0 ∧ er = errQ q1 ∧ (er = 0 → q = q1) ∧ (er ≠ 0 → q = []))
set_option maxRecDepth 100000 in
set_option maxHeartbeats 2000000 in
theorem parseN_any (x : List UInt8) (w : World) (hr : Reads w) (hx0 : x.length ≤ maxLen) : Calls Tryd.prog 4 #[.string ⟨x.toArray⟩] w fun e w' => (∃ A cap q k er, e = .returned (.tuple #[.slice A q.length cap, .int .i64 k, .int .i64 er]) ∧ 0 ≤ k ∧ Stps w' A q ∧ NwQ w.heap.size A q ∧ q.length ≤ 1024 ∧ ReadX x q k er) ∧ Below w.heap.size w w' := by
  have hx : x.length ≤ 9223372036854775807 := by unfold maxLen at hx0; exact hx0
  go_enter Tryd.func4, Tryd.ntmps4
  by_cases hL : 1024 < x.length
  · have hLz : (1024 : Int) < (x.length : Int) := by omega
    go_wp2
    go_ret3
    exact ⟨⟨none, 0, [], 0, 2, rfl, by decide, ⟨Or.inl rfl, fun s hs => by cases hs⟩, NwQ.none _, by simp, Or.inl ⟨hL, rfl, rfl, rfl⟩⟩, Below.refl _ _⟩
  have hLz : ¬ (1024 : Int) < (x.length : Int) := by omega
  go_wp2
  go_loopw [0, 5, 6] (fun s v i wr => ∃ (y : List UInt8) (q q0 : List Stp), s = .string ⟨y.toArray⟩ ∧ i = .int .i64 ((q.length : Int) + 1) ∧ q.length + y.length ≤ 1024 ∧ Hid (OwnS wr w.heap.size v q ∧ Below w.heap.size w wr ∧ q.map clr = q0.map clr ∧ Pre x y q0 ∧ scnL (splitC 10 x) 1 = scnL (splitC 10 y) (q.length + 1))) (fun s _ _ _ => strL s)
  case atStart => exact ⟨x, [], [], rfl, rfl, by simp; omega, OwnS.nil _ _, Below.refl _ _, rfl, by unfold Pre; cases textP x <;> rfl, rfl⟩
  case round =>
    obtain ⟨y, q, q0, rfl, rfl, hyl, hov⟩ := hrel
    by_cases hy : y = []
    · subst hy
      obtain ⟨A, cap, hvA, hA, hst⟩ := OwnS.stps hov.out.1
      subst hvA
      have hnw := OwnS.nw hov.out.1
      have hck := checkQ_any q A cap wr (by unfold maxLen; simp at hyl; omega) hst
      have hckH : Hid _ := hck
      have htx : Hid (textP x = some q0) := by
        have := hov.out.2.2.2.1
        unfold Pre at this
        show _ = _
        rw [this]
        simp [textP, splitC, linesP]
      have hsc : Hid (scnL (splitC 10 x) 1 = 0) := by show _ = _; rw [hov.out.2.2.2.2]; rfl
      have hmH : Hid (q.map clr = q0.map clr ∧ Stps wr A q ∧ Below w.heap.size w wr ∧ q.length ≤ 1024 ∧ NwQ w.heap.size A q) := ⟨hov.out.2.2.1, hst, hov.out.2.1, by simp at hyl; omega, hnw⟩
      clear hck hov hst hA hnw
      obtain ⟨E, hE⟩ : ∃ E, errQ q = E := ⟨_, rfl⟩
      rw [hE] at hckH
      go_wp2_with fail
      refine Calls.mono (show Calls _ _ _ _ _ from hckH.out) ?_
      rintro e w2 ⟨rfl, hb2⟩
      have hfin : Hid (Stps w2 A q ∧ Below w.heap.size w w2) := ⟨hmH.out.2.1.below hb2, hmH.out.2.2.1.trans (hb2.mono hmH.out.2.2.1.size)⟩
      clear hckH hb2
      by_cases hE0 : E = 0
      · subst hE0
        have hEH : Hid (errQ q = 0) := hE
        clear hE
        go_wp2
        go_ret3
        exact ⟨⟨A, cap, q, 0, 0, rfl, by decide, hfin.out.1, hmH.out.2.2.2.2, hmH.out.2.2.2.1, Or.inr (Or.inr ⟨by omega, hsc.out, q0, q, htx.out, hmH.out.1, rfl, hEH.out.symm, fun _ => rfl, fun h => absurd rfl h⟩)⟩, hfin.out.2⟩
      · have hEb : (E == 0) = false := by simpa using hE0
        have hEH : Hid (errQ q = E ∧ E ≠ 0) := ⟨hE, hE0⟩
        clear hE hE0
        go_wp2
        go_ret3
        exact ⟨⟨none, 0, [], 0, E, rfl, by decide, ⟨Or.inl rfl, fun s hs => by cases hs⟩, NwQ.none _, by simp, Or.inr (Or.inr ⟨by omega, hsc.out, q0, q, htx.out, hmH.out.1, rfl, hEH.out.1.symm, fun h => absurd h hEH.out.2, fun _ => rfl⟩)⟩, hfin.out.2⟩
    · have hyb : (y == []) = false := by simpa using hy
      have hcu := cut_any y 10 wr (hr.below hov.out.2.1) (by omega)
      have hcuH : Hid _ := hcu
      clear hcu
      go_wp2_with fail
      refine Calls.mono (show Calls _ _ _ _ _ from hcuH.out) ?_
      rintro e w2 ⟨⟨a, r, b, rfl, hab⟩, hg2⟩
      have hal : a.length ≤ y.length ∧ r.length ≤ y.length := by
        rcases hab with ⟨_, e, _⟩ | ⟨_, _, e, e2⟩
        · rw [e]; simp; omega
        · rw [e, e2]; simp
      have hb2 : Below w.heap.size w w2 := hov.out.2.1.trans (hg2.below.mono hov.out.2.1.size)
      have hpl := parseLine_any a w2 (hr.below hb2) (by omega)
      have hplH : Hid _ := hpl
      have hH2 : Hid (Below w.heap.size w w2 ∧ Gr wr w2) := ⟨hb2, hg2⟩
      have habH : Hid _ := hab
      clear hpl hcuH hb2 hg2 hab
      go_wp2_with fail
      refine Calls.mono (show Calls _ _ _ _ _ from hplH.out) ?_
      rintro e w3 ⟨t', rfl, hb3, hres⟩
      have hb3H : Hid (Below w.heap.size w w3) := hH2.out.1.trans (hb3.mono hH2.out.1.size)
      cases b with
      | false =>
        have hfin : Hid (scnL (splitC 10 x) 1 = q.length + 1) := by
          rcases habH.out with ⟨e, _⟩ | ⟨_, h1, _⟩
          · cases e
          · show _ = _
            rw [hov.out.2.2.2.2, splitC_one y h1]
            show (if y = [] then 0 else q.length + 1) = _
            rw [if_neg hy]
        clear hres hplH hov hb3
        go_wp2
        go_ret3
        exact ⟨⟨none, 0, [], _, _, rfl, by omega, ⟨Or.inl rfl, fun s hs => by cases hs⟩, NwQ.none _, by simp, Or.inr (Or.inl ⟨by omega, by rw [hfin.out]; omega, rfl, by rw [hfin.out]; push_cast; rfl, rfl⟩)⟩, hb3H.out.alloc hb3H.out.size _⟩
      | true =>
        obtain ⟨rfl, hna⟩ : y = a ++ 10 :: r ∧ (10 : UInt8) ∉ a := by
          rcases habH.out with ⟨_, h1, h2⟩ | ⟨e, _⟩
          · exact ⟨h1, h2⟩
          · cases e
        cases hla : lineP a with
        | none =>
          have hfin : Hid (scnL (splitC 10 x) 1 = q.length + 1) := by show _ = _; rw [hov.out.2.2.2.2, splitC_app _ _ hna, scnL_cons (splitC_ne _ _), hla]
          clear hres hplH hov hb3 hla habH
          go_wp2
          go_ret3
          exact ⟨⟨none, 0, [], _, _, rfl, by omega, ⟨Or.inl rfl, fun s hs => by cases hs⟩, NwQ.none _, by simp, Or.inr (Or.inl ⟨by omega, by rw [hfin.out]; omega, rfl, by rw [hfin.out]; push_cast; rfl, rfl⟩)⟩, hb3H.out.alloc hb3H.out.size _⟩
        | some s0 =>
          obtain ⟨hct, hht, hft⟩ := hres s0 hla
          have hpr : Hid (Pre x r (q0 ++ [s0]) ∧ (q ++ [t']).map clr = (q0 ++ [s0]).map clr) := ⟨hov.out.2.2.2.1.next hna hla, by rw [List.map_append, List.map_append, hov.out.2.2.1]; simp [hct]⟩
          have hscn : Hid (scnL (splitC 10 x) 1 = scnL (splitC 10 r) ((q ++ [t']).length + 1)) := by show _ = _; rw [hov.out.2.2.2.2, splitC_app _ _ hna, scnL_cons (splitC_ne _ _), hla]; simp
          have how : Hid (OwnS w3 w.heap.size u5 q ∧ ApartS w3 w.heap.size u5.ownBlock t') := ⟨(hov.out.1.gr hH2.out.2).below hb3, ⟨hht.1, hht.2.1, hht.2.2, fun a ha => ⟨Nat.le_trans hH2.out.1.size (hft a ha).1, (hft a ha).2, fun e => by
            have h1 := (hov.out.1.own.lt _ e).2
            have h2 := (hft a ha).1
            have h3 := hH2.out.2.size
            omega⟩⟩⟩
          have hln : q.length + 1 + r.length ≤ 1024 := by simp at hyl; omega
          clear hres hplH hov hb3 hla habH hct hht hft
          have hg5 : Gr w3 ((w3.alloc (.cells #[.int .i64 t'.k, .int .i64 t'.a, .int .i64 t'.b, .int .i64 t'.c, .int .i64 t'.o, .int .i64 t'.v, .slice t'.p t'.l.length t'.n] 32)).alloc (.cells #[.int .i64 t'.k, .int .i64 t'.a, .int .i64 t'.b, .int .i64 t'.c, .int .i64 t'.o, .int .i64 t'.v, .slice t'.p t'.l.length t'.n] 32)) := ((Gr.refl w3).alloc _).alloc _
          have hoX : Hid (OwnS ((w3.alloc (.cells #[.int .i64 t'.k, .int .i64 t'.a, .int .i64 t'.b, .int .i64 t'.c, .int .i64 t'.o, .int .i64 t'.v, .slice t'.p t'.l.length t'.n] 32)).alloc (.cells #[.int .i64 t'.k, .int .i64 t'.a, .int .i64 t'.b, .int .i64 t'.c, .int .i64 t'.o, .int .i64 t'.v, .slice t'.p t'.l.length t'.n] 32)) w.heap.size u5 q ∧ RowG encQ 7 ((w3.alloc (.cells #[.int .i64 t'.k, .int .i64 t'.a, .int .i64 t'.b, .int .i64 t'.c, .int .i64 t'.o, .int .i64 t'.v, .slice t'.p t'.l.length t'.n] 32)).alloc (.cells #[.int .i64 t'.k, .int .i64 t'.a, .int .i64 t'.b, .int .i64 t'.c, .int .i64 t'.o, .int .i64 t'.v, .slice t'.p t'.l.length t'.n] 32)) (some ⟨w3.heap.size + 1, 0, none⟩) [t'] ∧ ApartS ((w3.alloc (.cells #[.int .i64 t'.k, .int .i64 t'.a, .int .i64 t'.b, .int .i64 t'.c, .int .i64 t'.o, .int .i64 t'.v, .slice t'.p t'.l.length t'.n] 32)).alloc (.cells #[.int .i64 t'.k, .int .i64 t'.a, .int .i64 t'.b, .int .i64 t'.c, .int .i64 t'.o, .int .i64 t'.v, .slice t'.p t'.l.length t'.n] 32)) w.heap.size u5.ownBlock t' ∧ q.length + 1 ≤ maxLen ∧ (q.length + 1) * 72 ≤ 140737488355328 ∧ Below w.heap.size w ((w3.alloc (.cells #[.int .i64 t'.k, .int .i64 t'.a, .int .i64 t'.b, .int .i64 t'.c, .int .i64 t'.o, .int .i64 t'.v, .slice t'.p t'.l.length t'.n] 32)).alloc (.cells #[.int .i64 t'.k, .int .i64 t'.a, .int .i64 t'.b, .int .i64 t'.c, .int .i64 t'.o, .int .i64 t'.v, .slice t'.p t'.l.length t'.n] 32))) := ⟨how.out.1.gr hg5, rowNewQ (by simp) t' 32, how.out.2.below hg5.below, by unfold maxLen; omega, by omega, hb3H.out.trans (hg5.below.mono hb3H.out.size)⟩
          clear how hg5
          go_wp2_with (at_builtin; refine wpList_append_s2 _ rfl _ _ rfl w.heap.size u5 q t' ⟨w3.heap.size + 1, 0, none⟩ 1 rfl rfl hoX.out.1 hoX.out.2.1 hoX.out.2.2.1 hoX.out.2.2.2.1 hoX.out.2.2.2.2.1 hoX.out.2.2.2.2.2.size ?_; intro v7 w7 hown7 hb7)
          have hfin7 : Hid (OwnS w7 w.heap.size v7 (q ++ [t']) ∧ Below w.heap.size w w7) := ⟨hown7, hoX.out.2.2.2.2.2.trans hb7⟩
          clear hown7 hb7 hoX
          go_roundw
          case rel => exact ⟨r, q ++ [t'], q0 ++ [s0], rfl, by simp only [List.length_append, List.length_cons, List.length_nil]; go_num, by simp; omega, hfin7.out.1, hfin7.out.2, hpr.out.2, hpr.out.1, hscn.out⟩
          case measure => show r.toArray.size < (a ++ 10 :: r).toArray.size; simp; omega
/-- A text of which a line is none has no query. -/
theorem lines_scn : ∀ (l : List (List UInt8)) (k : Nat), scnL l k ≠ 0 → linesP l = none
  | [], _, h => absurd rfl h
  | [y], k, h => by
    rw [linesP]
    by_cases e : y = []
    · subst e; exact absurd rfl h
    · rw [if_neg e]
  | p :: r :: t, k, h => by
    rw [scnL_cons (by simp)] at h
    rw [linesP]
    cases e : lineP p with
    | none => rfl
    | some s =>
      rw [e] at h
      have h2 := lines_scn (r :: t) (k + 1) h
      rw [h2]
/-- .. a query of a text, and its error. -/
def ReadQ (x : List UInt8) (q : List Stp) (er : Int) : Prop := ∃ k, ReadX x q k er
theorem ReadX.parsed {x : List UInt8} {q : List Stp} {k er : Int} (h : ReadX x q k er) : Parsed x q er := by
  rcases h with ⟨h1, rfl, rfl, rfl⟩ | ⟨h1, h2, rfl, rfl, rfl⟩ | ⟨h1, h2, q0, q1, h3, h4, rfl, rfl, h5, h6⟩
  · exact Or.inr ⟨by decide, rfl, Or.inl h1⟩
  · exact Or.inr ⟨by decide, rfl, Or.inr (Or.inl (lines_scn _ _ h2))⟩
  · by_cases h0 : errQ q1 = 0
    · obtain rfl := h5 h0
      exact Or.inl ⟨h0, h1, ⟨q0, h3, h4⟩, h0⟩
    · exact Or.inr ⟨h0, h6 h0, Or.inr (Or.inr ⟨q0, q1, h3, h4, h0⟩)⟩
theorem ReadQ.parsed {x : List UInt8} {q : List Stp} {er : Int} (h : ReadQ x q er) : Parsed x q er := h.elim fun _ h => h.parsed
theorem parse_new (x : List UInt8) (w : World) (hr : Reads w) (hx0 : x.length ≤ maxLen) : Calls Tryd.prog 4 #[.string ⟨x.toArray⟩] w fun e w' => (∃ A cap q k er, e = .returned (.tuple #[.slice A q.length cap, .int .i64 k, .int .i64 er]) ∧ 0 ≤ k ∧ Stps w' A q ∧ NwQ w.heap.size A q ∧ q.length ≤ 1024 ∧ Parsed x q er) ∧ Below w.heap.size w w' :=
  (parseN_any x w hr hx0).mono fun _ _ ⟨⟨A, cap, q, k, er, h1, h2, h3, h4, h5, h7⟩, h6⟩ => ⟨⟨A, cap, q, k, er, h1, h2, h3, h4, h5, h7.parsed⟩, h6⟩
theorem parse_any (x : List UInt8) (w : World) (hr : Reads w) (hx0 : x.length ≤ maxLen) : Calls Tryd.prog 4 #[.string ⟨x.toArray⟩] w fun e w' => (∃ A cap q k er, e = .returned (.tuple #[.slice A q.length cap, .int .i64 k, .int .i64 er]) ∧ 0 ≤ k ∧ Stps w' A q ∧ q.length ≤ 1024 ∧ Parsed x q er) ∧ Below w.heap.size w w' :=
  (parse_new x w hr hx0).mono fun _ _ ⟨⟨A, cap, q, k, er, h1, h2, h3, _, h5⟩, h6⟩ => ⟨⟨A, cap, q, k, er, h1, h2, h3, h5⟩, h6⟩
theorem parseX_any (x : List UInt8) (w : World) (hr : Reads w) (hx0 : x.length ≤ maxLen) : Calls Tryd.prog 4 #[.string ⟨x.toArray⟩] w fun e w' => (∃ A cap q k er, e = .returned (.tuple #[.slice A q.length cap, .int .i64 k, .int .i64 er]) ∧ 0 ≤ k ∧ Stps w' A q ∧ q.length ≤ 1024 ∧ ReadX x q k er) ∧ Below w.heap.size w w' :=
  (parseN_any x w hr hx0).mono fun _ _ ⟨⟨A, cap, q, k, er, h1, h2, h3, _, h5⟩, h6⟩ => ⟨⟨A, cap, q, k, er, h1, h2, h3, h5⟩, h6⟩
end Go.Proofs.YtoodkgmpggabdaaDoor
