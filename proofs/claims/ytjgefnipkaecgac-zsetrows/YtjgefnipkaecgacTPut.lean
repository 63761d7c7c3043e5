/-
  table.Put: the table that puts a value.
-/
import Derived.Test.YtjgefnipkaecgacTDel
import Derived.Test.YtjgefnipkaecgacNext
import Derived.Test.YtjgefnipkaecgacJoin
namespace Go.Proofs.Ytjgefnipkaecgac
open Go.RowKit Go.Sort

/-- The error that Put tells. -/
def putE (t : Tab) (n key col v : Int) : Int :=
  if errT t ≠ 0 then errT t else if okPlace key col v = false then 1 else if (nextA t.c n).2 ≠ 0 then (nextA t.c n).2
  else if makeE (dotsOf (fitP key col) t.e) ≠ 0 then makeE (dotsOf (fitP key col) t.e) else if makeE [(nextA t.c n).1] ≠ 0 then makeE [(nextA t.c n).1]
  else joinE (makeC (dotsOf (fitP key col) t.e)) (makeC [(nextA t.c n).1])
/-- The table that it tells. -/
def putT (t : Tab) (n key col v : Int) : Tab :=
  if putE t n key col v = 0 then ⟨joinC (makeC (dotsOf (fitP key col) t.e)) (makeC [(nextA t.c n).1]), [((nextA t.c n).1, key, col, v)]⟩ else ⟨zeroC, []⟩

/-- What Put holds from its first step on. -/
structure PutAt (w W : World) (t : Tab) (A : Option Addr) (ca : Nat) (D : Option Addr) (cd : Nat) (key col : Int) : Prop where
  tab : TabAt W w.heap.size t A ca D cd
  key : W.cell? ⟨w.heap.size + 1, 0, none⟩ = some (.int .i64 key)
  col : W.cell? ⟨w.heap.size + 1 + 1, 0, none⟩ = some (.int .i64 col)
  res : ZTab W (w.heap.size + 1 + 1 + 1)
  hw : Below w.heap.size w W
theorem PutAt.below {w W W' : World} {t : Tab} {A : Option Addr} {ca : Nat} {D : Option Addr} {cd : Nat} {key col : Int} (h : PutAt w W t A ca D cd key col) (k : Below W.heap.size W W') : PutAt w W' t A ca D cd key col :=
  ⟨h.tab.below k, (k.cell (p := ⟨w.heap.size + 1, 0, none⟩) (show w.heap.size + 1 < _ by have := h.res.lt; omega)).trans h.key, (k.cell (p := ⟨w.heap.size + 1 + 1, 0, none⟩) (show w.heap.size + 1 + 1 < _ by have := h.res.lt; omega)).trans h.col, h.res.below k, h.hw.trans (k.mono h.hw.size)⟩
theorem PutAt.gr {w W W' : World} {t : Tab} {A : Option Addr} {ca : Nat} {D : Option Addr} {cd : Nat} {key col : Int} (h : PutAt w W t A ca D cd key col) (k : Gr W W') : PutAt w W' t A ca D cd key col := h.below k.below

theorem rowNewC {W : World} {n : Nat} (hn : W.heap.size = n) (x : Cel) (T : TypeId) : RowC (W.alloc (.cells #[.int .i64 x.1.1, .int .i64 x.1.2, .int .i64 x.2.1, .int .i64 x.2.2.1, .int .i64 x.2.2.2] T)) (some ⟨n, 0, none⟩) [x] := by
  subst hn
  refine Or.inr ⟨W.heap.size, 0, rfl, by simp, fun j hj i hi => ?_⟩
  have hj' : j = 0 := by simp at hj; omega
  subst hj'
  have hb := fun (i : Nat) (v : Value) (h : (#[.int .i64 x.1.1, .int .i64 x.1.2, .int .i64 x.2.1, .int .i64 x.2.2.1, .int .i64 x.2.2.2] : Array Value)[i]? = some v) => box1 (w := W) (Gr.refl (W.alloc (.cells #[.int .i64 x.1.1, .int .i64 x.1.2, .int .i64 x.2.1, .int .i64 x.2.2.1, .int .i64 x.2.2.2] T))) (j := i) h
  have hi' : i = 0 ∨ i = 1 ∨ i = 2 ∨ i = 3 ∨ i = 4 := by omega
  rcases hi' with rfl | rfl | rfl | rfl | rfl
  · exact hb 0 _ rfl
  · exact hb 1 _ rfl
  · exact hb 2 _ rfl
  · exact hb 3 _ rfl
  · exact hb 4 _ rfl

/-- Block B may be written. -/
def Fz (W : World) (B : Nat) : Prop := B < W.heap.size ∧ ∀ j, W.frozen? ⟨B, j, none⟩ = false
theorem Fz.below {W W' : World} {B : Nat} (h : Fz W B) (k : Below W.heap.size W W') : Fz W' B := ⟨Nat.lt_of_lt_of_le h.1 k.size, fun j => (k.frozen (p := ⟨B, j, none⟩) h.1).trans (h.2 j)⟩
theorem Fz.gr {W W' : World} {B : Nat} (h : Fz W B) (k : Gr W W') : Fz W' B := h.below k.below
theorem Fz.new (W : World) (C1 : Array Value) (T1 : TypeId) : Fz (W.alloc (.cells C1 T1)) W.heap.size := ⟨by simp, fun j => box1f (Gr.refl _) j⟩

theorem make_one_g {W : World} {A : Addr} {N : Int × Int} (hr : Row W (some A) [N]) :
    Calls Try.prog 65 #[.slice (some A) 1 1] W fun e w' => ∃ C cp, e = .returned (.tuple #[.agg #[.int .i64 (makeC [N]).c0, .int .i64 (makeC [N]).c1, .int .i64 (makeC [N]).c2, .int .i64 (makeC [N]).c3, .slice C (makeC [N]).l.length cp], .int .i64 (makeE [N])]) ∧ Row w' C (makeC [N]).l ∧ (C = none → cp = 0) ∧ (∀ a, C = some a → W.heap.size ≤ a.block) ∧ Below W.heap.size W w' :=
  make_any [N] (some A) 1 W (by simp [maxLen]) (fun h => by cases h) hr

theorem makeC_len (l : List (Int × Int)) (h : l.length ≤ 400) : (makeC l).l.length ≤ maxLen := by
  refine Nat.le_trans (m := 400) ?_ (by decide)
  unfold makeC
  by_cases h0 : makeE l = 0
  · rw [if_pos h0]
    unfold foldS
    have := foldTo_len zeroC (srt l) (srt l).length
    rw [srt_length] at this ⊢
    have hz : zeroC.l.length = 0 := rfl
    omega
  · rw [if_neg h0]
    exact Nat.zero_le _

set_option maxRecDepth 100000 in
set_option maxHeartbeats 2000000 in
theorem put_new (t : Tab) (A : Option Addr) (ca : Nat) (D : Option Addr) (cd : Nat) (n key col v : Int) (w : World) (hl : t.c.l.length ≤ maxLen) (hel : t.e.length ≤ maxLen) (hr : Row w A t.c.l) (hd : RowC w D t.e) :
    Calls Try.prog 41 #[.agg #[.int .i64 t.c.c0, .int .i64 t.c.c1, .int .i64 t.c.c2, .int .i64 t.c.c3, .slice A t.c.l.length ca, .slice D t.e.length cd], .int .i64 n, .int .i64 key, .int .i64 col, .int .i64 v] w fun e w' => ∃ C cp D' cd', e = .returned (.tuple #[.agg #[.int .i64 (putT t n key col v).c.c0, .int .i64 (putT t n key col v).c.c1, .int .i64 (putT t n key col v).c.c2, .int .i64 (putT t n key col v).c.c3, .slice C (putT t n key col v).c.l.length cp, .slice D' (putT t n key col v).e.length cd'], .int .i64 (putE t n key col v)]) ∧ Row w' C (putT t n key col v).c.l ∧ RowC w' D' (putT t n key col v).e ∧ (C = none → cp = 0) ∧ (D' = none → cd' = 0) ∧ (∀ x, C = some x → w.heap.size ≤ x.block) ∧ (∀ x, D' = some x → w.heap.size ≤ x.block) ∧ Below w.heap.size w w' := by
  have hF0 : PutAt w ((((w.alloc (.cells #[.int .i64 t.c.c0, .int .i64 t.c.c1, .int .i64 t.c.c2, .int .i64 t.c.c3, .slice A t.c.l.length ca, .slice D t.e.length cd] 28)).alloc (.cells #[.int .i64 key] 3)).alloc (.cells #[.int .i64 col] 3)).alloc (.cells #[.int .i64 0, .int .i64 0, .int .i64 0, .int .i64 0, .slice none 0 0, .slice none 0 0] 28)) t A ca D cd key col :=
    ⟨(TabAt.new 28 hr hd rfl).gr ((((Gr.refl _).alloc _).alloc _).alloc _), box2 (((Gr.refl _).alloc _).alloc _) rfl, (by have h := box2 (w := w.alloc (.cells #[.int .i64 t.c.c0, .int .i64 t.c.c1, .int .i64 t.c.c2, .int .i64 t.c.c3, .slice A t.c.l.length ca, .slice D t.e.length cd] 28)) (C1 := #[.int .i64 key]) (T1 := 3) (C2 := #[.int .i64 col]) (T2 := 3) ((Gr.refl _).alloc (.cells #[.int .i64 0, .int .i64 0, .int .i64 0, .int .i64 0, .slice none 0 0, .slice none 0 0] 28)) (j := 0) rfl; rw [World.size_alloc] at h; exact h), Six.new _ _ _ _ _ _ _ 28 (by simp), (((((Gr.refl w).alloc _).alloc _).alloc _).alloc _).below⟩
  have hck := checkT_any t A ca D cd _ hl hel hF0.tab.row hF0.tab.rowC
  have hckH : Hid _ := hck
  have hlH : Hid (t.c.l.length ≤ maxLen) := hl
  clear hck hl
  go_enter Try.func41, Try.ntmps41
  go_wp2_with fail
  refine Calls.mono (show Calls _ _ _ _ _ from hckH.out) ?_
  rintro e w1 ⟨rfl, hg1⟩
  clear hckH
  have hF1 := hF0.gr hg1
  clear hF0 hg1
  obtain ⟨E1, hE1⟩ : ∃ E, errT t = E := ⟨_, rfl⟩
  rw [hE1]
  by_cases h1 : E1 = 0
  · subst h1
    have heH : Hid (errT t = 0) := hE1
    have hel4 : t.e.length ≤ 400 := (errT_parts hE1).2.1
    clear hE1
    cases hpl : okPlace key col v
    · have hfin : Hid (putE t n key col v = 1 ∧ putT t n key col v = ⟨zeroC, []⟩) := by
        have h1 : putE t n key col v = 1 := by simp [putE, heH.out, hpl]
        exact ⟨h1, by unfold putT; rw [h1]; rfl⟩
      obtain ⟨z0, z1, z2, z3, z4, z5, zf, zlt⟩ := (show Six _ _ _ _ _ _ _ _ from hF1.res)
      have hkk := hF1.key
      have hcc := hF1.col
      have hbw : Hid (Below w.heap.size w w1) := hF1.hw
      go_wp2_with (go_at_call 30; refine (isCell_g hpl _).mono ?_; rintro e w1 ⟨rfl, rfl⟩)
      rw [hfin.out.1, hfin.out.2]
      exact bodyPost_ret (v := .tuple #[.agg #[.int .i64 0, .int .i64 0, .int .i64 0, .int .i64 0, .slice none 0 0, .slice none 0 0], .int .i64 1]) (by simp [results, Try.results41, go_sem, z0, z1, z2, z3, z4, z5]) rfl ⟨none, 0, none, 0, rfl, Or.inl rfl, Or.inl rfl, fun _ => rfl, fun _ => rfl, (fun x hx => by cases hx), (fun x hx => by cases hx), below_set6 hbw.out (by omega) _ _ _ _ _ _⟩
    · obtain ⟨k0, k1, k2, k3, k4, k5, klt, krow, krowC⟩ := (show TabAt _ _ _ _ _ _ _ from hF1.tab)
      have hkk := hF1.key
      have hcc := hF1.col
      have hnx := next_any t.c A ca n w1 hlH.out krow
      have hnxH : Hid _ := hnx
      clear hnx
      go_wp2_with (first | (go_at_call 30; refine (isCell_g hpl _).mono ?_; rintro e w1 ⟨rfl, rfl⟩) | fail)
      refine Calls.mono (show Calls _ _ _ _ _ from hnxH.out) ?_
      rintro e w2 ⟨rfl, hg2⟩
      clear hnxH k0 k1 k2 k3 k4 k5 klt krow krowC hkk hcc
      have hF2 := hF1.gr hg2
      clear hF1 hg2
      obtain ⟨N, hN⟩ : ∃ N, (nextA t.c n).1 = N := ⟨_, rfl⟩
      obtain ⟨E2, hE2⟩ : ∃ E, (nextA t.c n).2 = E := ⟨_, rfl⟩
      rw [hN, hE2]
      have hNF : Hid ((nextA t.c n).1 = N ∧ (nextA t.c n).2 = E2) := ⟨hN, hE2⟩
      clear hN hE2
      go_upto_region 7 with fail
      have hF3 := hF2.gr ((Gr.refl _).alloc (.cells #[.int .i64 N.1, .int .i64 N.2] 62))
      have hn3 : DotAt (w2.alloc (.cells #[.int .i64 N.1, .int .i64 N.2] 62)) w2.heap.size N.1 N.2 := DotAt.new 62 rfl
      generalize w2.alloc (.cells #[.int .i64 N.1, .int .i64 N.2] 62) = w3 at hF3 hn3 ⊢
      generalize w2.heap.size = bN at hn3 ⊢
      clear hF2
      by_cases h2 : E2 = 0
      · subst h2
        have hP : Hid (putE t n key col v = if makeE (dotsOf (fitP key col) t.e) ≠ 0 then makeE (dotsOf (fitP key col) t.e) else if makeE [N] ≠ 0 then makeE [N] else joinE (makeC (dotsOf (fitP key col) t.e)) (makeC [N])) := by
          show putE t n key col v = _
          unfold putE
          rw [heH.out, hpl, hNF.out.1, hNF.out.2]
          rfl
        have hT : Hid (putT t n key col v = if putE t n key col v = 0 then ⟨joinC (makeC (dotsOf (fitP key col) t.e)) (makeC [N]), [(N, key, col, v)]⟩ else ⟨zeroC, []⟩) := by
          show putT t n key col v = _
          unfold putT
          rw [hNF.out.1]
        clear hNF
        obtain ⟨k0, k1, k2, k3, k4, k5, klt, krow, krowC⟩ := (show TabAt _ _ _ _ _ _ _ from hF3.tab)
        have hkk := hF3.key
        have hcc := hF3.col
        have hrl := hF3.res.lt
        have eg : ∀ args w, (callFunc 64 args).run Try.prog w = .ok (.enter 64 args) w := enters_of Try.func64 (by kernel_rfl) rfl
        have hco := contextOf_any (fitP key col) 64 #[.pointer (some ⟨w.heap.size + 1, 0, none⟩), .pointer (some ⟨w.heap.size + 1 + 1, 0, none⟩)] eg t.e D cd w3 hel4 krowC (fun W hW x => fitP_any key col (w.heap.size + 1) (w.heap.size + 1 + 1) x W (by have := hW.size; omega) (by have := hW.size; omega) ((hW.cell (p := ⟨w.heap.size + 1, 0, none⟩) (show w.heap.size + 1 < _ by omega)).trans hkk) ((hW.cell (p := ⟨w.heap.size + 1 + 1, 0, none⟩) (show w.heap.size + 1 + 1 < _ by omega)).trans hcc))
        have hcoH : Hid _ := hco
        have hFl : Hid ((makeC (dotsOf (fitP key col) t.e)).l.length ≤ maxLen) := makeC_len _ (Nat.le_trans (dotsOf_len _ _) hel4)
        have hGl : Hid ((makeC [N]).l.length ≤ maxLen) := makeC_len _ (by simp)
        clear hco
        go_wp2_with fail
        refine Calls.mono (show Calls _ _ _ _ _ from hcoH.out) ?_
        rintro e w4 ⟨C4, cp4, rfl, hr4, hC4, _, hb4⟩
        clear hcoH k0 k1 k2 k3 k4 k5 klt krow krowC hkk hcc hrl eg
        obtain ⟨F, hFF⟩ : ∃ F, makeC (dotsOf (fitP key col) t.e) = F := ⟨_, rfl⟩
        obtain ⟨E4, hE4⟩ : ∃ E, makeE (dotsOf (fitP key col) t.e) = E := ⟨_, rfl⟩
        rw [hFF] at hr4 hP hT hFl ⊢
        rw [hE4] at hP ⊢
        clear hFF hE4
        go_upto_region 10 with fail
        have hF5 := (hF3.below hb4).gr ((Gr.refl _).alloc (.cells #[.int .i64 F.c0, .int .i64 F.c1, .int .i64 F.c2, .int .i64 F.c3, .slice C4 F.l.length cp4] 25))
        have hn5 := (hn3.below hb4).gr ((Gr.refl _).alloc (.cells #[.int .i64 F.c0, .int .i64 F.c1, .int .i64 F.c2, .int .i64 F.c3, .slice C4 F.l.length cp4] 25))
        have hc5 : CtxAt (w4.alloc (.cells #[.int .i64 F.c0, .int .i64 F.c1, .int .i64 F.c2, .int .i64 F.c3, .slice C4 F.l.length cp4] 25)) w4.heap.size F C4 cp4 := CtxAt.new 25 hr4 rfl
        have hf5 : Fz (w4.alloc (.cells #[.int .i64 F.c0, .int .i64 F.c1, .int .i64 F.c2, .int .i64 F.c3, .slice C4 F.l.length cp4] 25)) w4.heap.size := Fz.new _ _ _
        have hbC : w.heap.size + 1 + 1 + 1 < w4.heap.size := by have := hF3.res.lt; have := hb4.size; omega
        generalize w4.alloc (.cells #[.int .i64 F.c0, .int .i64 F.c1, .int .i64 F.c2, .int .i64 F.c3, .slice C4 F.l.length cp4] 25) = w5 at hF5 hn5 hc5 hf5 ⊢
        have hbN : bN < w4.heap.size := by have := hn3.lt; have := hb4.size; omega
        clear hF3 hn3 hr4 hb4
        generalize w4.heap.size = bC at hc5 hf5 hbC hbN ⊢
        by_cases h4 : E4 = 0
        · subst h4
          obtain ⟨n0, n1, nlt⟩ := (show DotAt _ _ _ _ from hn5)
          go_wp2_with fail
          refine Calls.mono (show Calls _ _ _ _ _ from make_one_g (N := N) (rowNew rfl N.1 N.2 _)) ?_
          rintro e w6 ⟨C6, cp6, rfl, hr6, hC6, _, hb6⟩
          clear n0 n1 nlt
          have hF6 := (hF5.gr ((Gr.refl _).alloc _)).below hb6
          have hn6 := (hn5.gr ((Gr.refl _).alloc _)).below hb6
          have hc6 := (hc5.gr ((Gr.refl _).alloc _)).below hb6
          have hf6 := (hf5.gr ((Gr.refl _).alloc _)).below hb6
          clear hF5 hn5 hc5 hb6 hf5
          obtain ⟨G, hGG⟩ : ∃ G, makeC [N] = G := ⟨_, rfl⟩
          obtain ⟨E6, hE6⟩ : ∃ E, makeE [N] = E := ⟨_, rfl⟩
          rw [hGG] at hr6 hP hT hGl ⊢
          rw [hE6] at hP ⊢
          clear hGG hE6
          go_upto_region 13 with fail
          have hF7 := hF6.gr ((Gr.refl _).alloc (.cells #[.int .i64 G.c0, .int .i64 G.c1, .int .i64 G.c2, .int .i64 G.c3, .slice C6 G.l.length cp6] 25))
          have hn7 := hn6.gr ((Gr.refl _).alloc (.cells #[.int .i64 G.c0, .int .i64 G.c1, .int .i64 G.c2, .int .i64 G.c3, .slice C6 G.l.length cp6] 25))
          have hc7 := hc6.gr ((Gr.refl _).alloc (.cells #[.int .i64 G.c0, .int .i64 G.c1, .int .i64 G.c2, .int .i64 G.c3, .slice C6 G.l.length cp6] 25))
          have hf7 := hf6.gr ((Gr.refl _).alloc (.cells #[.int .i64 G.c0, .int .i64 G.c1, .int .i64 G.c2, .int .i64 G.c3, .slice C6 G.l.length cp6] 25))
          have hg7 : CtxAt (w6.alloc (.cells #[.int .i64 G.c0, .int .i64 G.c1, .int .i64 G.c2, .int .i64 G.c3, .slice C6 G.l.length cp6] 25)) w6.heap.size G C6 cp6 := CtxAt.new 25 hr6 rfl
          generalize w6.alloc (.cells #[.int .i64 G.c0, .int .i64 G.c1, .int .i64 G.c2, .int .i64 G.c3, .slice C6 G.l.length cp6] 25) = w7 at hF7 hn7 hc7 hg7 hf7 ⊢
          clear hF6 hn6 hc6 hr6 hf6
          generalize w6.heap.size = bG at hg7 ⊢
          by_cases h6 : E6 = 0
          · subst h6
            obtain ⟨c0, c1, c2, c3, c4, clt, crow⟩ := (show CtxAt _ _ _ _ _ from hc7)
            obtain ⟨g0, g1, g2, g3, g4, glt, grow'⟩ := (show CtxAt _ _ _ _ _ from hg7)
            have hjn := join_any F G C4 C6 cp4 cp6 w7 hFl.out hGl.out crow grow' hC4 hC6
            have hjnH : Hid _ := hjn
            clear hjn
            go_wp2_with fail
            refine Calls.mono (show Calls _ _ _ _ _ from hjnH.out) ?_
            rintro e w8 ⟨C8, cp8, rfl, hr8, hC8, hCb8, hb8⟩
            clear hjnH c0 c1 c2 c3 c4 clt crow g0 g1 g2 g3 g4 glt grow'
            obtain ⟨J, hJJ⟩ : ∃ J, joinC F G = J := ⟨_, rfl⟩
            obtain ⟨E8, hE8⟩ : ∃ E, joinE F G = E := ⟨_, rfl⟩
            rw [hJJ] at hr8 hT ⊢
            rw [hE8] at hP ⊢
            clear hJJ hE8
            have hF8 := hF7.below hb8
            have hn8 := hn7.below hb8
            have hc8 := hc7.below hb8
            have hc7l := hc7.lt
            have hf8 := hf7.below hb8
            clear hF7 hn7 hc7 hg7 hb8 hf7
            obtain ⟨c0, c1, c2, c3, c4, clt, crow⟩ := (show CtxAt _ _ _ _ _ from hc8)
            have hcz := hf8.2
            go_upto_region 16 with fail
            have hbV : Below bC w8 (((((w8.setCell ⟨bC, 0, none⟩ (.int .i64 J.c0)).setCell ⟨bC, 1, none⟩ (.int .i64 J.c1)).setCell ⟨bC, 2, none⟩ (.int .i64 J.c2)).setCell ⟨bC, 3, none⟩ (.int .i64 J.c3)).setCell ⟨bC, 4, none⟩ (.slice C8 J.l.length cp8)) := below_set5 (Below.refl _ _) (Nat.le_refl _) _ _ _ _ _
            have hc9 : CtxAt (((((w8.setCell ⟨bC, 0, none⟩ (.int .i64 J.c0)).setCell ⟨bC, 1, none⟩ (.int .i64 J.c1)).setCell ⟨bC, 2, none⟩ (.int .i64 J.c2)).setCell ⟨bC, 3, none⟩ (.int .i64 J.c3)).setCell ⟨bC, 4, none⟩ (.slice C8 J.l.length cp8)) bC J C8 cp8 := hc8.set hr8 (fun x hx => by have := hCb8 x hx; omega)
            have hz9 := hF8.res.belowB hbV hbC
            have hk9 := (hbV.cell (p := ⟨w.heap.size + 1, 0, none⟩) (show w.heap.size + 1 < bC by omega)).trans hF8.key
            have hl9 := (hbV.cell (p := ⟨w.heap.size + 1 + 1, 0, none⟩) (show w.heap.size + 1 + 1 < bC by omega)).trans hF8.col
            have hm9 := (hbV.cell (p := ⟨bN, 0, none⟩) hbN).trans hn8.k0
            have hn9 := (hbV.cell (p := ⟨bN, 1, none⟩) hbN).trans hn8.k1
            have hw9 : Below w.heap.size w (((((w8.setCell ⟨bC, 0, none⟩ (.int .i64 J.c0)).setCell ⟨bC, 1, none⟩ (.int .i64 J.c1)).setCell ⟨bC, 2, none⟩ (.int .i64 J.c2)).setCell ⟨bC, 3, none⟩ (.int .i64 J.c3)).setCell ⟨bC, 4, none⟩ (.slice C8 J.l.length cp8)) := hF8.hw.trans (hbV.mono (by omega))
            have hCw8 : Hid (∀ x, C8 = some x → w.heap.size ≤ x.block) := fun x hx => by have := hCb8 x hx; omega
            have hCn8 : Hid (∀ x, C8 = some x → x.block ≠ w.heap.size + 1 + 1 + 1) := fun x hx => by have := hCb8 x hx; omega
            generalize (((((w8.setCell ⟨bC, 0, none⟩ (.int .i64 J.c0)).setCell ⟨bC, 1, none⟩ (.int .i64 J.c1)).setCell ⟨bC, 2, none⟩ (.int .i64 J.c2)).setCell ⟨bC, 3, none⟩ (.int .i64 J.c3)).setCell ⟨bC, 4, none⟩ (.slice C8 J.l.length cp8)) = V at hc9 hz9 hk9 hl9 hm9 hn9 hw9 ⊢
            clear hF8 hn8 hc8 hf8 hcz c0 c1 c2 c3 c4 clt crow hbV hr8 hCb8 hc7l
            by_cases h8 : E8 = 0
            · subst h8
              have hfin : Hid (putE t n key col v = 0 ∧ putT t n key col v = ⟨J, [(N, key, col, v)]⟩) := by
                have h3 : putE t n key col v = 0 := by rw [hP.out]; simp
                exact ⟨h3, by rw [hT.out, h3, if_pos rfl]⟩
              obtain ⟨c0, c1, c2, c3, c4, clt, crow⟩ := (show CtxAt _ _ _ _ _ from hc9)
              obtain ⟨z0, z1, z2, z3, z4, z5, zf, zlt⟩ := (show Six _ _ _ _ _ _ _ _ from hz9)
              have hCn : ∀ a, C8 = some a → a.block ≠ w.heap.size + 1 + 1 + 1 := hCn8.out
              have hV := (hz9.set (.int .i64 J.c0) (.int .i64 J.c1) (.int .i64 J.c2) (.int .i64 J.c3) (.slice C8 J.l.length cp8) (.slice (some ⟨V.heap.size, 0, none⟩) 1 1)).gr ((Gr.refl _).alloc (.cells #[.int .i64 N.1, .int .i64 N.2, .int .i64 key, .int .i64 col, .int .i64 v] 64))
              have hrV : Row _ C8 J.l := (((((((crow.setCell (B := w.heap.size + 1 + 1 + 1) (j := 0) (.int .i64 J.c0) hCn).setCell (j := 1) (.int .i64 J.c1) hCn).setCell (j := 2) (.int .i64 J.c2) hCn).setCell (j := 3) (.int .i64 J.c3) hCn).setCell (j := 4) (.slice C8 J.l.length cp8) hCn).setCell (j := 5) (.slice (some ⟨V.heap.size, 0, none⟩) 1 1) hCn)).gr ((Gr.refl _).alloc (.cells #[.int .i64 N.1, .int .i64 N.2, .int .i64 key, .int .i64 col, .int .i64 v] 64))
              have hbV := (below_set6 hw9 (B := w.heap.size + 1 + 1 + 1) (by omega) (.int .i64 J.c0) (.int .i64 J.c1) (.int .i64 J.c2) (.int .i64 J.c3) (.slice C8 J.l.length cp8) (.slice (some ⟨V.heap.size, 0, none⟩) 1 1)).alloc (by simp; omega) (.cells #[.int .i64 N.1, .int .i64 N.2, .int .i64 key, .int .i64 col, .int .i64 v] 64)
              have hdV := rowNewC (W := (((((V.setCell ⟨w.heap.size + 1 + 1 + 1, 0, none⟩ (.int .i64 J.c0)).setCell ⟨w.heap.size + 1 + 1 + 1, 1, none⟩ (.int .i64 J.c1)).setCell ⟨w.heap.size + 1 + 1 + 1, 2, none⟩ (.int .i64 J.c2)).setCell ⟨w.heap.size + 1 + 1 + 1, 3, none⟩ (.int .i64 J.c3)).setCell ⟨w.heap.size + 1 + 1 + 1, 4, none⟩ (.slice C8 J.l.length cp8)).setCell ⟨w.heap.size + 1 + 1 + 1, 5, none⟩ (.slice (some ⟨V.heap.size, 0, none⟩) 1 1)) (n := V.heap.size) (by simp) (N, key, col, v) 64
              have hVw : Hid (w.heap.size ≤ V.heap.size) := hw9.size
              have hVH : Hid _ := hV
              have hbVH : Hid _ := hbV
              have hrVH : Hid _ := hrV
              have hdVH : Hid _ := hdV
              clear hV hbV hrV hdV hCn
              go_wp2
              obtain ⟨v0, v1, v2, v3, v4, v5, vf, vlt⟩ := (show Six _ _ _ _ _ _ _ _ from hVH.out)
              have hbV := hbVH.out
              have hrV := hrVH.out
              have hdV := hdVH.out
              rw [hfin.out.1, hfin.out.2]
              generalize World.alloc _ _ = X at v0 v1 v2 v3 v4 v5 hbV hrV hdV ⊢
              exact bodyPost_ret (v := .tuple #[.agg #[.int .i64 J.c0, .int .i64 J.c1, .int .i64 J.c2, .int .i64 J.c3, .slice C8 J.l.length cp8, .slice (some ⟨V.heap.size, 0, none⟩) 1 1], .int .i64 0]) (by simp [results, Try.results41, go_sem, v0, v1, v2, v3, v4, v5]) rfl ⟨C8, cp8, _, 1, rfl, hrV, hdV, hC8, fun h => (by cases h), hCw8.out, (fun x hx => by cases hx; have := hVw.out; exact this), hbV⟩
            · have hfin : Hid (putE t n key col v = E8 ∧ putT t n key col v = ⟨zeroC, []⟩) := by
                have h3 : putE t n key col v = E8 := by rw [hP.out]; simp
                exact ⟨h3, by rw [hT.out, h3, if_neg h8]⟩
              have heb : (E8 != 0) = true := by simpa using h8
              clear h8
              obtain ⟨z0, z1, z2, z3, z4, z5, zf, zlt⟩ := (show Six _ _ _ _ _ _ _ _ from hz9)
              have hbw : Hid (Below w.heap.size w _) := hw9
              go_wp2
              rw [hfin.out.1, hfin.out.2]
              exact bodyPost_ret (v := .tuple #[.agg #[.int .i64 0, .int .i64 0, .int .i64 0, .int .i64 0, .slice none 0 0, .slice none 0 0], .int .i64 E8]) (by simp [results, Try.results41, go_sem, z0, z1, z2, z3, z4, z5]) rfl ⟨none, 0, none, 0, rfl, Or.inl rfl, Or.inl rfl, fun _ => rfl, fun _ => rfl, (fun x hx => by cases hx), (fun x hx => by cases hx), below_set6 hbw.out (by omega) _ _ _ _ _ _⟩
          · have hfin : Hid (putE t n key col v = E6 ∧ putT t n key col v = ⟨zeroC, []⟩) := by
              have h3 : putE t n key col v = E6 := by rw [hP.out]; simp [h6]
              exact ⟨h3, by rw [hT.out, h3, if_neg h6]⟩
            have heb : (E6 != 0) = true := by simpa using h6
            clear h6
            obtain ⟨z0, z1, z2, z3, z4, z5, zf, zlt⟩ := (show Six _ _ _ _ _ _ _ _ from hF7.res)
            have hbw : Hid (Below w.heap.size w _) := hF7.hw
            go_wp2
            rw [hfin.out.1, hfin.out.2]
            exact bodyPost_ret (v := .tuple #[.agg #[.int .i64 0, .int .i64 0, .int .i64 0, .int .i64 0, .slice none 0 0, .slice none 0 0], .int .i64 E6]) (by simp [results, Try.results41, go_sem, z0, z1, z2, z3, z4, z5]) rfl ⟨none, 0, none, 0, rfl, Or.inl rfl, Or.inl rfl, fun _ => rfl, fun _ => rfl, (fun x hx => by cases hx), (fun x hx => by cases hx), below_set6 hbw.out (by omega) _ _ _ _ _ _⟩
        · have hfin : Hid (putE t n key col v = E4 ∧ putT t n key col v = ⟨zeroC, []⟩) := by
            have h3 : putE t n key col v = E4 := by rw [hP.out]; simp [h4]
            exact ⟨h3, by rw [hT.out, h3, if_neg h4]⟩
          have heb : (E4 != 0) = true := by simpa using h4
          clear h4
          obtain ⟨z0, z1, z2, z3, z4, z5, zf, zlt⟩ := (show Six _ _ _ _ _ _ _ _ from hF5.res)
          have hbw : Hid (Below w.heap.size w _) := hF5.hw
          go_wp2
          rw [hfin.out.1, hfin.out.2]
          exact bodyPost_ret (v := .tuple #[.agg #[.int .i64 0, .int .i64 0, .int .i64 0, .int .i64 0, .slice none 0 0, .slice none 0 0], .int .i64 E4]) (by simp [results, Try.results41, go_sem, z0, z1, z2, z3, z4, z5]) rfl ⟨none, 0, none, 0, rfl, Or.inl rfl, Or.inl rfl, fun _ => rfl, fun _ => rfl, (fun x hx => by cases hx), (fun x hx => by cases hx), below_set6 hbw.out (by omega) _ _ _ _ _ _⟩
      · have hfin : Hid (putE t n key col v = E2 ∧ putT t n key col v = ⟨zeroC, []⟩) := by
          have h3 : putE t n key col v = E2 := by unfold putE; rw [heH.out, hpl, hNF.out.2]; simp [h2]
          exact ⟨h3, by unfold putT; rw [h3, if_neg h2]⟩
        have heb : (E2 != 0) = true := by simpa using h2
        clear h2
        obtain ⟨z0, z1, z2, z3, z4, z5, zf, zlt⟩ := (show Six _ _ _ _ _ _ _ _ from hF3.res)
        have hbw : Hid (Below w.heap.size w _) := hF3.hw
        go_wp2
        rw [hfin.out.1, hfin.out.2]
        exact bodyPost_ret (v := .tuple #[.agg #[.int .i64 0, .int .i64 0, .int .i64 0, .int .i64 0, .slice none 0 0, .slice none 0 0], .int .i64 E2]) (by simp [results, Try.results41, go_sem, z0, z1, z2, z3, z4, z5]) rfl ⟨none, 0, none, 0, rfl, Or.inl rfl, Or.inl rfl, fun _ => rfl, fun _ => rfl, (fun x hx => by cases hx), (fun x hx => by cases hx), below_set6 hbw.out (by omega) _ _ _ _ _ _⟩
  · have hfin : Hid (putE t n key col v = E1 ∧ putT t n key col v = ⟨zeroC, []⟩) := by
      have h2 : putE t n key col v = E1 := by unfold putE; rw [hE1, if_pos h1]
      exact ⟨h2, by unfold putT; rw [h2, if_neg h1]⟩
    have heb : (E1 != 0) = true := by simpa using h1
    clear h1 hE1
    obtain ⟨z0, z1, z2, z3, z4, z5, zf, zlt⟩ := (show Six _ _ _ _ _ _ _ _ from hF1.res)
    have hbw : Hid (Below w.heap.size w w1) := hF1.hw
    go_wp2
    rw [hfin.out.1, hfin.out.2]
    exact bodyPost_ret (v := .tuple #[.agg #[.int .i64 0, .int .i64 0, .int .i64 0, .int .i64 0, .slice none 0 0, .slice none 0 0], .int .i64 E1]) (by simp [results, Try.results41, go_sem, z0, z1, z2, z3, z4, z5]) rfl ⟨none, 0, none, 0, rfl, Or.inl rfl, Or.inl rfl, fun _ => rfl, fun _ => rfl, (fun x hx => by cases hx), (fun x hx => by cases hx), below_set6 hbw.out (by omega) _ _ _ _ _ _⟩

theorem put_any (t : Tab) (A : Option Addr) (ca : Nat) (D : Option Addr) (cd : Nat) (n key col v : Int) (w : World) (hl : t.c.l.length ≤ maxLen) (hel : t.e.length ≤ maxLen) (hr : Row w A t.c.l) (hd : RowC w D t.e) :
    Calls Try.prog 41 #[.agg #[.int .i64 t.c.c0, .int .i64 t.c.c1, .int .i64 t.c.c2, .int .i64 t.c.c3, .slice A t.c.l.length ca, .slice D t.e.length cd], .int .i64 n, .int .i64 key, .int .i64 col, .int .i64 v] w fun e w' => ∃ C cp D' cd', e = .returned (.tuple #[.agg #[.int .i64 (putT t n key col v).c.c0, .int .i64 (putT t n key col v).c.c1, .int .i64 (putT t n key col v).c.c2, .int .i64 (putT t n key col v).c.c3, .slice C (putT t n key col v).c.l.length cp, .slice D' (putT t n key col v).e.length cd'], .int .i64 (putE t n key col v)]) ∧ Row w' C (putT t n key col v).c.l ∧ RowC w' D' (putT t n key col v).e ∧ (C = none → cp = 0) ∧ (D' = none → cd' = 0) ∧ Below w.heap.size w w' :=
  (put_new t A ca D cd n key col v w hl hel hr hd).mono fun _ _ ⟨C, cp, D', cd', h1, h2, h3, h4, h5, _, _, h8⟩ => ⟨C, cp, D', cd', h1, h2, h3, h4, h5, h8⟩

end Go.Proofs.Ytjgefnipkaecgac
