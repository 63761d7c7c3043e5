/-
  table.Since: what is to be merged with a table that has seen a context.
-/
import Derived.Test.YtjgefnipkaecgacTWo
import Derived.Test.YtjgefnipkaecgacTCells
import Derived.Test.YtjgefnipkaecgacMissMath
namespace Go.Proofs.Ytjgefnipkaecgac
open Go.RowKit Go.Sort

/-- The dot of a cell is one of the context's. -/
def knownP (c : Ctx) (x : Cel) : Bool := hasB c x.1
/-- The cells that the context hasn't. -/
def newsL (c : Ctx) (l : List Cel) : List Cel := l.filter fun x => !knownP c x
/-- The error that Since tells. -/
def sinceE (t : Tab) (c : Ctx) : Int := if errT t ≠ 0 then errT t else if errC c ≠ 0 then errC c else woE t.c (dotsOf (knownP c) t.e)
/-- The table that it tells. -/
def sinceT (t : Tab) (c : Ctx) : Tab := if sinceE t c = 0 then ⟨woC t.c (dotsOf (knownP c) t.e), newsL c t.e⟩ else ⟨zeroC, []⟩
theorem sinceT_no {t : Tab} {c : Ctx} {E : Int} (h : sinceE t c = E) (h0 : E ≠ 0) : sinceE t c = E ∧ sinceT t c = ⟨zeroC, []⟩ := ⟨h, by unfold sinceT; rw [h, if_neg h0]⟩

theorem newsL_take {c : Ctx} {l : List Cel} {k : Nat} (h : k < l.length) {x : Cel} (hx : l[k] = x) : newsL c (l.take (k + 1)) = newsL c (l.take k) ++ (if knownP c x then [] else [x]) := by
  unfold newsL
  rw [filter_take h hx]
  cases knownP c x <;> simp
theorem newsL_len (c : Ctx) (l : List Cel) : (newsL c l).length ≤ l.length := List.length_filter_le _ _

/-- The dots of a right table's cells are right. -/
theorem dotsOf_rightS {t : Tab} (h : errT t = 0) (p : Cel → Bool) : ∀ x ∈ dotsOf p t.e, rightB x = true := by
  intro x hx
  obtain ⟨y, hy, rfl⟩ := List.mem_map.1 hx
  exact has_right (can_of_err (errT_parts h).1) (errT_has h (List.mem_filter.1 hy).1)

/-- Two values own different blocks. -/
def Apart (v u : Value) : Prop := ∀ g, v.ownBlock = some g → u.ownBlock = some g → False
theorem Apart.symm {v u : Value} (h : Apart v u) : Apart u v := fun g h1 h2 => h g h2 h1
theorem Apart.ne {v u : Value} (h : Apart v u) : v.ownBlock = none ∨ v.ownBlock ≠ u.ownBlock := by
  cases hv : v.ownBlock with
  | none => exact Or.inl rfl
  | some g => exact Or.inr fun e => h g hv e.symm
theorem Apart.grown {v v' u : Value} {N : Nat} (h : Apart v u) (hv : v'.ownBlock = v.ownBlock ∨ v'.ownBlock = some N) (hu : ∀ g, u.ownBlock = some g → g < N) : Apart v' u := by
  intro g h1 h2
  rcases hv with e | e
  · exact h g (e ▸ h1) h2
  · rw [e] at h1
    have := hu g h2
    have := Option.some.inj h1
    omega

theorem wpList_append_cAt (w : World) {ops : Array Oper} {rest : List Oper} {o : Oper} {a : Act} {Q : Exit → Act → World → Prop} (hgd : o.guard = none) (s x : Operand)
    (ho : o.op = .call { callee := .builtin .append, args := #[s, x], argTypes := #[26, 26] })
    (base : Nat) (v : Value) (l m : List Cel) (ad : Addr) (cap : Nat) (hs : a.eval s = v) (hx : a.eval x = .slice (some ad) m.length cap) (hown : OwnC w base v l) (hr : RowC w (some ad) m)
    (hml : l.length + m.length ≤ maxLen) (hb : (l.length + m.length) * 40 ≤ 140737488355328) (hbase : base ≤ w.heap.size)
    (h : ∀ v' w', OwnC w' base v' (l ++ m) → w.grownBy w' v.ownBlock → (v'.ownBlock = v.ownBlock ∨ v'.ownBlock = some w.heap.size) → wpList Try.prog ops Q rest (a.put o.dst v') w') : wpList Try.prog ops Q (o :: rest) a w :=
  wpList_plain hgd fun K hK => by
    obtain ⟨i0, hi, hz0, hz1, hz2⟩ := info_parts Try.infoC
    obtain ⟨v', w', g1, g2, g3, _, g5⟩ := run_append_own_at (P := Try.prog) w base 26 o.type 64 i0 (.agg #[.int .i64 0, .int .i64 0, .int .i64 0, .int .i64 0, .int .i64 0]) 5 40 Try.underlying26 hi hz0 hz1 hz2 rfl (by omega) v l.length (flatG encC l) hown ad m.length cap (flatG encC m) (flatG_length encC_len m) (hr.cells encC_len (by omega)) (fun u hu => flatG_one encC_one u m hu) hml hb hbase
    have h2 : OwnC w' base v' (l ++ m) := by
      show w'.ownsRow base _ 5 v' (l ++ m).length (flatG encC (l ++ m))
      rw [List.length_append, flatG_append]
      exact g2
    unfold Oper.wp execOp
    simp only [ho, resolve, invoke, builtin, Sem.run_bind, Sem.run_pure, Result.andThen_ok, List.map_toArray, List.map_cons, List.map_nil, hs, hx, g1]
    exact hK _ _ (h v' w' h2 g3 g5)

/-- What Since holds from its first step on. -/
structure SinceAt (w W : World) (t : Tab) (c : Ctx) (A : Option Addr) (ca : Nat) (D : Option Addr) (cd : Nat) (B : Option Addr) (cb : Nat) : Prop where
  ta : TabAt W w.heap.size t A ca D cd
  tc : CtxAt W (w.heap.size + 1) c B cb
  res : ZTab W (w.heap.size + 1 + 1)
  hw : Below w.heap.size w W
theorem SinceAt.below {w W W' : World} {t : Tab} {c : Ctx} {A B D : Option Addr} {ca cb cd : Nat} (h : SinceAt w W t c A ca D cd B cb) (k : Below W.heap.size W W') : SinceAt w W' t c A ca D cd B cb :=
  ⟨h.ta.below k, h.tc.below k, h.res.below k, h.hw.trans (k.mono h.hw.size)⟩
theorem SinceAt.gr {w W W' : World} {t : Tab} {c : Ctx} {A B D : Option Addr} {ca cb cd : Nat} (h : SinceAt w W t c A ca D cd B cb) (k : Gr W W') : SinceAt w W' t c A ca D cd B cb := h.below k.below

set_option maxRecDepth 100000 in
set_option maxHeartbeats 2000000 in
theorem since_any (t : Tab) (c : Ctx) (A B D : Option Addr) (ca cb cd : Nat) (w : World) (htl : t.c.l.length ≤ maxLen) (hcl : c.l.length ≤ maxLen) (htel : t.e.length ≤ maxLen) (hra : Row w A t.c.l) (hrb : Row w B c.l) (hrd : RowC w D t.e) :
    Calls Try.prog 8 #[.agg #[.int .i64 t.c.c0, .int .i64 t.c.c1, .int .i64 t.c.c2, .int .i64 t.c.c3, .slice A t.c.l.length ca, .slice D t.e.length cd], .agg #[.int .i64 c.c0, .int .i64 c.c1, .int .i64 c.c2, .int .i64 c.c3, .slice B c.l.length cb]] w fun e w' => ∃ E ce F cf, e = .returned (.tuple #[.agg #[.int .i64 (sinceT t c).c.c0, .int .i64 (sinceT t c).c.c1, .int .i64 (sinceT t c).c.c2, .int .i64 (sinceT t c).c.c3, .slice E (sinceT t c).c.l.length ce, .slice F (sinceT t c).e.length cf], .int .i64 (sinceE t c)]) ∧ Row w' E (sinceT t c).c.l ∧ RowC w' F (sinceT t c).e ∧ (E = none → ce = 0) ∧ (F = none → cf = 0) ∧ Below w.heap.size w w' := by
  have hF0 : SinceAt w (((w.alloc (.cells #[.int .i64 t.c.c0, .int .i64 t.c.c1, .int .i64 t.c.c2, .int .i64 t.c.c3, .slice A t.c.l.length ca, .slice D t.e.length cd] 28)).alloc (.cells #[.int .i64 c.c0, .int .i64 c.c1, .int .i64 c.c2, .int .i64 c.c3, .slice B c.l.length cb] 25)).alloc (.cells #[.int .i64 0, .int .i64 0, .int .i64 0, .int .i64 0, .slice none 0 0, .slice none 0 0] 28)) t c A ca D cd B cb :=
    ⟨(TabAt.new 28 hra hrd rfl).gr (((Gr.refl _).alloc _).alloc _), (CtxAt.new 25 (hrb.gr ((Gr.refl _).alloc _)) (by simp)).gr ((Gr.refl _).alloc _), Six.new _ _ _ _ _ _ _ 28 (by simp), ((((Gr.refl w).alloc _).alloc _).alloc _).below⟩
  have hlH : Hid (t.c.l.length ≤ maxLen ∧ c.l.length ≤ maxLen ∧ t.e.length ≤ maxLen) := ⟨htl, hcl, htel⟩
  have hck := checkT_any t A ca D cd _ htl htel hF0.ta.row hF0.ta.rowC
  have hckH : Hid _ := hck
  clear hck htl hcl htel hra hrb hrd
  go_enter Try.func8, Try.ntmps8
  go_wp2_with fail
  refine Calls.mono (show Calls _ _ _ _ _ from hckH.out) ?_
  rintro e w1 ⟨rfl, hg1⟩
  clear hckH
  have hF1 := hF0.gr hg1
  clear hF0 hg1
  obtain ⟨E1, hE1⟩ : ∃ E, errT t = E := ⟨_, rfl⟩
  rw [hE1]
  by_cases h1 : E1 = 0
  · subst h1
    have heA : Hid (errT t = 0) := hE1
    clear hE1
    obtain ⟨b0, b1, b2, b3, b4, blt, brow⟩ := (show CtxAt _ _ _ _ _ from hF1.tc)
    have hck := check_any c B cb w1 hlH.out.2.1 brow
    have hckH : Hid _ := hck
    clear hck brow
    go_wp2_with fail
    refine Calls.mono (show Calls _ _ _ _ _ from hckH.out) ?_
    rintro e w2 ⟨rfl, hg2⟩
    clear hckH b0 b1 b2 b3 b4 blt
    have hF2 := hF1.gr hg2
    clear hF1 hg2
    obtain ⟨E2, hE2⟩ : ∃ E, errC c = E := ⟨_, rfl⟩
    rw [hE2]
    by_cases h2 : E2 = 0
    · subst h2
      have heB : Hid (errC c = 0) := hE2
      clear hE2
      have a5 := hF2.ta.k5
      have hel4 : t.e.length ≤ 400 := (errT_parts heA.out).2.1
      go_wp2
      clear a5
      go_loopw [8, 9, 29] (fun v u i wr => ∃ k : Nat, k ≤ t.e.length ∧ i = .int .i64 k ∧ OwnC wr w2.heap.size v (newsL c (t.e.take k)) ∧ Own wr w2.heap.size u (dotsOf (knownP c) (t.e.take k)) ∧ Apart v u ∧ Below w2.heap.size w2 wr) (fun _ _ i _ => t.e.length - (intOf i).toNat)
      case atStart => exact ⟨0, by omega, rfl, OwnG.nil _ _ _ _ _, Own.nil _ _, (fun g h => by cases h), Below.refl _ _⟩
      case round =>
        obtain ⟨k, hk, rfl, hov, hou, hap, hbel⟩ := hrel
        have hFR := hF2.below hbel
        have hsR : w2.heap.size ≤ wr.heap.size := hbel.size
        by_cases hlt : k < t.e.length
        · have hltz : (k : Int) < (t.e.length : Int) := by omega
          obtain ⟨bb, off, rfl, hbb, hcs⟩ := RowC.get hFR.ta.rowC hlt
          obtain ⟨x, hx⟩ : ∃ x, t.e[k] = x := ⟨_, rfl⟩
          obtain ⟨e0, e1, e2, e3, e4⟩ := hcs k hlt
          rw [hx] at e0 e1 e2 e3 e4
          have hst := newsL_take (c := c) hlt hx
          have hst' := dotsOf_take (p := knownP c) hlt hx
          clear hcs hx
          obtain ⟨M, HM⟩ : ∃ M, newsL c (t.e.take k) = M := ⟨_, rfl⟩
          have hMl : M.length ≤ 400 := by rw [← HM]; exact Nat.le_trans (newsL_len _ _) (by rw [List.length_take]; omega)
          obtain ⟨N, HN⟩ : ∃ N, dotsOf (knownP c) (t.e.take k) = N := ⟨_, rfl⟩
          have hNl : N.length ≤ 400 := by rw [← HN]; exact Nat.le_trans (dotsOf_len _ _) (by rw [List.length_take]; omega)
          rw [HM] at hov hst
          rw [HN] at hou hst'
          clear HM HN
          obtain ⟨A1, cap1, rfl, hA1, hrow1, hlt1⟩ := OwnG.row encC_len hov
          obtain ⟨A2, cap2, rfl, hA2, hrow2, hlt2⟩ := hou.row
          have hovH : Hid (OwnC wr w2.heap.size (.slice A1 M.length cap1) M) := hov
          have houH : Hid (Own wr w2.heap.size (.slice A2 N.length cap2) N) := hou
          have hapH : Hid (Apart (.slice A1 M.length cap1) (.slice A2 N.length cap2)) := hap
          have hbelH : Hid (Below w2.heap.size w2 wr) := hbel
          have hgX : Gr wr (wr.alloc (.cells #[.int .i64 x.1.1, .int .i64 x.1.2, .int .i64 x.2.1, .int .i64 x.2.2.1, .int .i64 x.2.2.2] 64)) := (Gr.refl _).alloc _
          have hxA := CelAt.new (w := wr) x 64 rfl
          have hFX := hFR.gr hgX
          obtain ⟨b0, b1, b2, b3, b4, blt, brow⟩ := (show CtxAt _ _ _ _ _ from hFX.tc)
          obtain ⟨x0, x1, x2, x3, x4, xlt⟩ := (show CelAt _ _ _ from hxA)
          have hha := has_any c B cb x.1 _ hlH.out.2.1 brow
          have hhaH : Hid _ := hha
          clear hov hou hap hbel hrow1 hrow2 hha hlt1 hlt2 hFR
          go_wp2_with fail
          refine Calls.mono (show Calls _ _ _ _ _ from hhaH.out) ?_
          rintro e w3 ⟨rfl, hg3⟩
          clear hhaH x0 x1 x2 x3 x4 b0 b1 b2 b3 b4
          have hgW : Gr wr w3 := hgX.trans hg3
          obtain ⟨x0, x1, x2, x3, x4, xlt3⟩ := (show CelAt _ _ _ from hxA.gr hg3)
          clear hFX hgX hg3 hxA xlt brow
          cases hq : hasB c x.1
          · have hst2 : Hid (newsL c (t.e.take (k + 1)) = M ++ [x]) := by show _ = _; rw [hst, if_neg (by simp [knownP, hq])]
            have hst3 : Hid (dotsOf (knownP c) (t.e.take (k + 1)) = N) := by show _ = _; rw [hst', if_neg (by simp [knownP, hq])]; simp
            have hbd : Hid (M.length + [x].length ≤ maxLen ∧ (M.length + [x].length) * 40 ≤ 140737488355328) := by show _ ∧ _; unfold maxLen; simp only [List.length_cons, List.length_nil]; omega
            clear hst hst'
            go_wp2_with (at_builtin; refine wpList_append_cAt _ rfl _ _ rfl w2.heap.size (.slice A1 M.length cap1) M [x] ⟨w3.heap.size, 0, none⟩ 1 rfl rfl ?ho ?hr hbd.out.1 hbd.out.2 ?hs ?_)
            case ho => exact hovH.out.gr (hgW.alloc _)
            case hr => exact rowNewCl rfl _ _
            case hs => have := hgW.size; simp; omega
            intro v1 w4 hown1 hgr1 hat1
            have hb3 : Hid (Below w2.heap.size w2 w4) := hbelH.out.trans (((hgW.alloc _).below.mono hsR).trans (OwnG.grown_below (hovH.out.gr (hgW.alloc _)) hgr1 (by have := hgW.size; simp; omega)))
            have hownH : Hid (OwnC w4 w2.heap.size v1 (M ++ [x])) := hown1
            have houX := houH.out.gr (hgW.alloc (.cells #[.int .i64 x.1.1, .int .i64 x.1.2, .int .i64 x.2.1, .int .i64 x.2.2.1, .int .i64 x.2.2.2] 64))
            have hou4 : Hid (Own w4 w2.heap.size (.slice A2 N.length cap2) N) := World.ownsRow.kept houX hgr1 hapH.out.symm.ne
            have hap4 : Hid (Apart v1 (.slice A2 N.length cap2)) := hapH.out.grown hat1 fun g hg => by have := (World.ownsRow.lt houX g hg).2; simpa using this
            clear hown1 hgr1 hat1 houX
            go_wp2
            go_roundw
            case rel => exact ⟨k + 1, by omega, by go_num, by rw [hst2.out]; exact hownH.out, by rw [hst3.out]; exact hou4.out, hap4.out, hb3.out⟩
            case measure => simp [intOf]; omega
          · have hst2 : Hid (newsL c (t.e.take (k + 1)) = M) := by show _ = _; rw [hst, if_pos (by simp [knownP, hq])]; simp
            have hst3 : Hid (dotsOf (knownP c) (t.e.take (k + 1)) = N ++ [x.1]) := by show _ = _; rw [hst', if_pos (by simp [knownP, hq])]
            have hbd : Hid ((N.length + [x.1].length) * 16 ≤ 140737488355328) := by show _ ≤ _; simp only [List.length_cons, List.length_nil]; omega
            clear hst hst'
            go_wp2_with (at_builtin; refine wpList_append_dots _ rfl _ _ rfl w2.heap.size (.slice A2 N.length cap2) N [x.1] (some ⟨w3.heap.size, 0, none⟩) 1 rfl rfl ?ho ?hr (fun h => by cases h) hbd.out ?hs ?_)
            case ho => exact houH.out.gr (hgW.alloc _)
            case hr => exact rowNew rfl x.1.1 x.1.2 _
            case hs => have := hgW.size; simp; omega
            intro v1 w4 hown1 hgr1 hat1
            have hb3 : Hid (Below w2.heap.size w2 w4) := hbelH.out.trans (((hgW.alloc _).below.mono hsR).trans (Own.grown_below (houH.out.gr (hgW.alloc _)) hgr1 (by have := hgW.size; simp; omega)))
            have hownH : Hid (Own w4 w2.heap.size v1 (N ++ [x.1])) := hown1
            have hovX := hovH.out.gr (hgW.alloc (.cells #[.int .i64 x.1.1, .int .i64 x.1.2] 62))
            have hov4 : Hid (OwnC w4 w2.heap.size (.slice A1 M.length cap1) M) := World.ownsRow.kept hovX hgr1 hapH.out.ne
            have hap4 : Hid (Apart (.slice A1 M.length cap1) v1) := (hapH.out.symm.grown hat1 fun g hg => by have := (World.ownsRow.lt hovX g hg).2; simpa using this).symm
            clear hown1 hgr1 hat1 hovX
            go_wp2
            go_roundw
            case rel => exact ⟨k + 1, by omega, by go_num, by rw [hst2.out]; exact hov4.out, by rw [hst3.out]; exact hownH.out, hap4.out, hb3.out⟩
            case measure => simp [intOf]; omega
        · have hltz : ¬ (k : Int) < (t.e.length : Int) := by omega
          have hke : t.e.take k = t.e := List.take_of_length_le (by omega)
          rw [hke] at hov hou
          obtain ⟨A1, cap1, rfl, hA1, hrow1, hlt1⟩ := OwnG.row encC_len hov
          obtain ⟨A2, cap2, rfl, hA2, hrow2, hlt2⟩ := hou.row
          obtain ⟨N, HN⟩ : ∃ N, dotsOf (knownP c) t.e = N := ⟨_, rfl⟩
          have hNl : N.length ≤ 400 := by rw [← HN]; exact Nat.le_trans (dotsOf_len _ _) hel4
          have hNr : ∀ x ∈ N, rightB x = true := by rw [← HN]; exact dotsOf_rightS heA.out _
          obtain ⟨M, HM⟩ : ∃ M, newsL c t.e = M := ⟨_, rfl⟩
          have hSE : Hid (sinceE t c = woE t.c N ∧ sinceT t c = if woE t.c N = 0 then ⟨woC t.c N, M⟩ else ⟨zeroC, []⟩) := by
            have h1 : sinceE t c = woE t.c N := by unfold sinceE; rw [heA.out, heB.out, HN]; simp
            exact ⟨h1, by unfold sinceT; rw [h1, HN, HM]⟩
          rw [HN] at hrow2 ⊢
          rw [HM] at hrow1 ⊢
          clear HN HM hke hov hou hap
          obtain ⟨a0, a1, a2, a3, a4, a5, alt, arow, arowC⟩ := (show TabAt _ _ _ _ _ _ _ from hFR.ta)
          have hwo := without_any t.c N A A2 ca cap2 wr hlH.out.1 hNl hNr arow hrow2
          have hwoH : Hid _ := hwo
          have hs2 := hF2.res.lt
          have hA1n : Hid (∀ x, A1 = some x → x.block ≠ w.heap.size + 1 + 1) := fun x hx => by have := (hlt1 x hx).1; omega
          clear hwo arow arowC alt hrow2 hNr
          go_wp2_with fail
          refine Calls.mono (show Calls _ _ _ _ _ from hwoH.out) ?_
          rintro e w4 ⟨C4, p4, rfl, hr4, hC4, hCb4, hb4⟩
          clear hwoH a0 a1 a2 a3 a4 a5
          have hF4 := hFR.below hb4
          have hrow4 := hrow1.below hb4
          have hsR2 := hFR.res.lt
          have hCn4 : Hid (∀ x, C4 = some x → x.block ≠ w.heap.size + 1 + 1) := fun x hx => by have := hCb4 x hx; omega
          clear hrow1 hCb4 hb4 hFR
          obtain ⟨J, hJ⟩ : ∃ J, woC t.c N = J := ⟨_, rfl⟩
          obtain ⟨E4, hE4⟩ : ∃ E, woE t.c N = E := ⟨_, rfl⟩
          rw [hJ] at hr4 hSE ⊢
          rw [hE4] at hSE ⊢
          clear hJ hE4
          have hgC : Gr w4 (w4.alloc (.cells #[.int .i64 J.c0, .int .i64 J.c1, .int .i64 J.c2, .int .i64 J.c3, .slice C4 J.l.length p4] 25)) := (Gr.refl _).alloc _
          have hF5 := hF4.gr hgC
          have hc5 : CtxAt (w4.alloc (.cells #[.int .i64 J.c0, .int .i64 J.c1, .int .i64 J.c2, .int .i64 J.c3, .slice C4 J.l.length p4] 25)) w4.heap.size J C4 p4 := CtxAt.new (c := J) 25 hr4 rfl
          have hr5 := hrow4.gr hgC
          clear hF4 hgC hr4 hrow4
          by_cases h4 : E4 = 0
          · subst h4
            have hfin : Hid (sinceE t c = 0 ∧ sinceT t c = ⟨J, M⟩) := ⟨hSE.out.1, by rw [hSE.out.2, if_pos rfl]⟩
            obtain ⟨z0, z1, z2, z3, z4, z5, zf, zlt⟩ := (show Six _ _ _ _ _ _ _ _ from hF5.res)
            obtain ⟨c0, c1, c2, c3, c4, clt, crow⟩ := (show CtxAt _ _ _ _ _ from hc5)
            have hbw : Hid (Below w.heap.size w _) := hF5.hw
            have hcrow : Hid (Row _ C4 J.l) := crow
            have hrMH : Hid (RowC _ A1 M) := hr5
            clear crow hr5 hSE
            go_upto_region 19 with fail
            generalize w4.alloc (.cells #[.int .i64 J.c0, .int .i64 J.c1, .int .i64 J.c2, .int .i64 J.c3, .slice C4 J.l.length p4] 25) = V at z0 z1 z2 z3 z4 z5 zf zlt c0 c1 c2 c3 c4 hbw hcrow hrMH ⊢
            go_wp2
            rw [hfin.out.1, hfin.out.2]
            have h1 := hCn4.out
            have h2 := hA1n.out
            exact bodyPost_ret (v := .tuple #[.agg #[.int .i64 J.c0, .int .i64 J.c1, .int .i64 J.c2, .int .i64 J.c3, .slice C4 J.l.length p4, .slice A1 M.length cap1], .int .i64 0]) (by simp [results, Try.results8, go_sem, z0, z1, z2, z3, z4, z5]) rfl ⟨C4, p4, A1, cap1, rfl, (((((hcrow.out.setCell _ h1).setCell _ h1).setCell _ h1).setCell _ h1).setCell _ h1).setCell _ h1, (((((hrMH.out.setCell _ h2).setCell _ h2).setCell _ h2).setCell _ h2).setCell _ h2).setCell _ h2, hC4, hA1, below_set6 hbw.out (by omega) _ _ _ _ _ _⟩
          · have hfin : Hid (sinceE t c = E4 ∧ sinceT t c = ⟨zeroC, []⟩) := ⟨hSE.out.1, by rw [hSE.out.2, if_neg h4]⟩
            have heb : (E4 != 0) = true := by simpa using h4
            clear h4 hSE
            obtain ⟨z0, z1, z2, z3, z4, z5, zf, zlt⟩ := (show Six _ _ _ _ _ _ _ _ from hF5.res)
            have hbw : Hid (Below w.heap.size w _) := hF5.hw
            go_upto_region 18 with fail
            generalize w4.alloc (.cells #[.int .i64 J.c0, .int .i64 J.c1, .int .i64 J.c2, .int .i64 J.c3, .slice C4 J.l.length p4] 25) = V at z0 z1 z2 z3 z4 z5 zf zlt hbw ⊢
            go_wp2
            rw [hfin.out.1, hfin.out.2]
            exact bodyPost_ret (v := .tuple #[.agg #[.int .i64 0, .int .i64 0, .int .i64 0, .int .i64 0, .slice none 0 0, .slice none 0 0], .int .i64 E4]) (by simp [results, Try.results8, go_sem, z0, z1, z2, z3, z4, z5]) rfl ⟨none, 0, none, 0, rfl, Or.inl rfl, Or.inl rfl, fun _ => rfl, fun _ => rfl, below_set6 hbw.out (by omega) _ _ _ _ _ _⟩
    · have hfin : Hid (sinceE t c = E2 ∧ sinceT t c = ⟨zeroC, []⟩) := sinceT_no (by unfold sinceE; rw [heA.out, hE2]; simp [h2]) h2
      have heb : (E2 != 0) = true := by simpa using h2
      clear h2 hE2
      obtain ⟨z0, z1, z2, z3, z4, z5, zf, zlt⟩ := (show Six _ _ _ _ _ _ _ _ from hF2.res)
      have hbw : Hid (Below w.heap.size w _) := hF2.hw
      go_wp2
      rw [hfin.out.1, hfin.out.2]
      exact bodyPost_ret (v := .tuple #[.agg #[.int .i64 0, .int .i64 0, .int .i64 0, .int .i64 0, .slice none 0 0, .slice none 0 0], .int .i64 E2]) (by simp [results, Try.results8, go_sem, z0, z1, z2, z3, z4, z5]) rfl ⟨none, 0, none, 0, rfl, Or.inl rfl, Or.inl rfl, fun _ => rfl, fun _ => rfl, below_set6 hbw.out (by omega) _ _ _ _ _ _⟩
  · have hfin : Hid (sinceE t c = E1 ∧ sinceT t c = ⟨zeroC, []⟩) := sinceT_no (by unfold sinceE; rw [hE1]; simp [h1]) h1
    have heb : (E1 != 0) = true := by simpa using h1
    clear h1 hE1
    obtain ⟨z0, z1, z2, z3, z4, z5, zf, zlt⟩ := (show Six _ _ _ _ _ _ _ _ from hF1.res)
    have hbw : Hid (Below w.heap.size w _) := hF1.hw
    go_wp2
    rw [hfin.out.1, hfin.out.2]
    exact bodyPost_ret (v := .tuple #[.agg #[.int .i64 0, .int .i64 0, .int .i64 0, .int .i64 0, .slice none 0 0, .slice none 0 0], .int .i64 E1]) (by simp [results, Try.results8, go_sem, z0, z1, z2, z3, z4, z5]) rfl ⟨none, 0, none, 0, rfl, Or.inl rfl, Or.inl rfl, fun _ => rfl, fun _ => rfl, below_set6 hbw.out (by omega) _ _ _ _ _ _⟩

end Go.Proofs.Ytjgefnipkaecgac
