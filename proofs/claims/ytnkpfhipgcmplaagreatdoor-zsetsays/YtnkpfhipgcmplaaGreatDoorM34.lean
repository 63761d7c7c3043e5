/-
  viewref.once: numbers rising, each once.
  viewref.Values and viewref.Keys: the values and the keys of a table's cells, as the document says them.
-/
import Derived.Test.YtnkpfhipgcmplaaGreatDoorM08
namespace Go.Proofs.YtnkpfhipgcmplaaGreatDoor
open Go.RowKit Go.Sort Go.Shelf Go.Lib

theorem compact_last (d : Array Int) : ∀ m, (compactUpTo d (m + 1)).getLast? = some d[m]!
  | 0 => by simp [compactUpTo, keeps]
  | m + 1 => by
    have ih := compact_last d m
    rw [compactUpTo_succ]
    by_cases hk : keeps d (m + 1)
    · simp [hk]
    · rw [if_neg hk, List.append_nil, ih]
      have : d[m + 1]! = d[m]! := by
        simp [keeps] at hk
        exact hk
      rw [this]
theorem compact_pos (d : Array Int) (m : Nat) : 0 < (compactUpTo d (m + 1)).length := by
  have := compact_last d m
  cases h : compactUpTo d (m + 1) with
  | nil => rw [h] at this; cases this
  | cons x l => simp
theorem compact_lastAt (d : Array Int) (m : Nat) {k : Nat} (hk : (compactUpTo d (m + 1)).length = k + 1) : ∃ h : k < (compactUpTo d (m + 1)).length, (compactUpTo d (m + 1))[k] = d[m]! := by
  refine ⟨by omega, ?_⟩
  have := compact_last d m
  rw [List.getLast?_eq_getElem?, hk, Nat.add_sub_cancel, List.getElem?_eq_getElem (by omega)] at this
  exact Option.some.inj this

/-- The loop of once, m places on: the first cells hold what was kept, the cells from m on what they held. -/
structure OnceAt (W : World) (g : Nat) (d : List Int) (m : Nat) : Prop where
  head : ∀ j (h : j < (compactUpTo d.toArray m).length), W.cell? ⟨g, j, none⟩ = some (.int .i64 (compactUpTo d.toArray m)[j])
  rest : ∀ j (h : j < d.length), m ≤ j → W.cell? ⟨g, j, none⟩ = some (.int .i64 d[j])
  mid : ∀ j (_ : j < d.length), ∃ x : Int, W.cell? ⟨g, j, none⟩ = some (.int .i64 x)
  fz : ∀ j, j < d.length → W.frozen? ⟨g, j, none⟩ = false
  lt : g < W.heap.size
theorem OnceAt.gr {W W' : World} {g : Nat} {d : List Int} {m : Nat} (h : OnceAt W g d m) (k : Gr W W') : OnceAt W' g d m :=
  ⟨fun j hj => (k.cell (p := ⟨g, j, none⟩) h.lt).trans (h.head j hj), fun j hj hm => (k.cell (p := ⟨g, j, none⟩) h.lt).trans (h.rest j hj hm), fun j hj => by obtain ⟨x, hx⟩ := h.mid j hj; exact ⟨x, (k.cell (p := ⟨g, j, none⟩) h.lt).trans hx⟩, fun j hj => (k.below.frozen (p := ⟨g, j, none⟩) h.lt).trans (h.fz j hj), Nat.lt_of_lt_of_le h.lt k.size⟩
theorem OnceAt.start {W : World} {g : Nat} {d : List Int} (h : Holds (Value.int .i64) W g 0 d.toArray) (hg : g < W.heap.size) : OnceAt W g d 0 := by
  have hc : ∀ j (hj : j < d.length), W.cell? ⟨g, j, none⟩ = some (.int .i64 d[j]) := fun j hj => by
    have h0 := (h j (by simpa using hj)).1
    rw [Nat.zero_add] at h0
    have e : d.toArray[j]! = d[j] := by simp [hj]
    rw [e] at h0
    exact h0
  refine ⟨fun j hj => ?_, fun j hj _ => hc j hj, fun j hj => ⟨_, hc j hj⟩, fun j hj => ?_, hg⟩
  · simp [compactUpTo] at hj
  · have h0 := (h j (by simpa using hj)).2
    rw [Nat.zero_add] at h0
    exact h0
theorem OnceAt.skip {W : World} {g : Nat} {d : List Int} {m : Nat} (h : OnceAt W g d m) (hk : keeps d.toArray m = false) : OnceAt W g d (m + 1) := by
  have e : compactUpTo d.toArray (m + 1) = compactUpTo d.toArray m := by rw [compactUpTo_succ, hk]; simp
  refine ⟨fun j hj => ?_, fun j hj hm => h.rest j hj (by omega), h.mid, h.fz, h.lt⟩
  have hj' : j < (compactUpTo d.toArray m).length := by rw [← e]; exact hj
  have e2 : (compactUpTo d.toArray (m + 1))[j] = (compactUpTo d.toArray m)[j] := by simp only [e]
  rw [e2]
  exact h.head j hj'
theorem OnceAt.keep {W : World} {g : Nat} {d : List Int} {m : Nat} (h : OnceAt W g d m) (hm : m < d.length) (hk : keeps d.toArray m = true) {k : Nat} (hkl : (compactUpTo d.toArray m).length = k) : OnceAt (W.setCell ⟨g, k, none⟩ (.int .i64 d[m])) g d (m + 1) := by
  have e : compactUpTo d.toArray (m + 1) = compactUpTo d.toArray m ++ [d[m]] := by
    rw [compactUpTo_succ, hk]
    simp [hm]
  have hle := compactUpTo_le d.toArray m
  refine ⟨fun j hj => ?_, fun j hj hmj => ?_, fun j hj => ?_, fun j hj => ?_, by simpa [World.setCell] using h.lt⟩
  · have hjl : j < (compactUpTo d.toArray m ++ [d[m]]).length := by rw [← e]; exact hj
    have e2 : (compactUpTo d.toArray (m + 1))[j]'hj = (compactUpTo d.toArray m ++ [d[m]])[j]'hjl := by simp only [e]
    rw [e2]
    rw [List.length_append, List.length_singleton] at hjl
    by_cases hjk : j = k
    · subst hjk
      obtain ⟨x, hx⟩ := h.mid j (by omega)
      rw [cell_set hx, if_pos rfl]
      simp [hkl]
    · have hj' : j < (compactUpTo d.toArray m).length := by omega
      rw [cell_set (h.head j hj'), if_neg hjk, List.getElem_append_left hj']
  · rw [cell_set (h.rest j hj (by omega)), if_neg (by omega)]
  · obtain ⟨x, hx⟩ := h.mid j hj
    rw [cell_set hx]
    by_cases hjk : j = k
    · exact ⟨d[m], by rw [if_pos hjk]⟩
    · exact ⟨x, by rw [if_neg hjk]⟩
  · simp only [World.frozen?_setCell]; exact h.fz j hj

set_option maxRecDepth 100000 in
set_option maxHeartbeats 1000000 in
theorem once_any (l : List Int) (A : Option Addr) (cap : Nat) (w : World) (hr : RowI w A l) (hA : A = none → cap = 0) (hsz : l.length * 8 ≤ 140737488355328) :
    Calls Tryz.prog 71 #[.slice A l.length cap] w fun e w' => ∃ C cp, e = .returned (.slice C (onceL l).length cp) ∧ RowI w' C (onceL l) ∧ Below w.heap.size w w' := by
  have mixed : Tryz.prog.follows .mixedOrders = true := by kernel_rfl
  have hbd : Hid (([] : List Int).length + l.length ≤ maxLen ∧ (([] : List Int).length + l.length) * 8 ≤ 140737488355328) := by show _ ∧ _; unfold maxLen; simp only [List.length_nil]; omega
  go_enter Tryz.func71, Tryz.ntmps71
  go_wp2_with (at_builtin; refine wpList_append_i _ rfl _ _ rfl w.heap.size (.slice none 0 0) [] l A cap rfl rfl (OwnG.nil _ _ _ _ _) hr hA hbd.out.1 hbd.out.2 (Nat.le_refl _) ?_; intro v1 w1 hown1 hgr1)
  have hb1 : Below w.heap.size w w1 := below_none hgr1
  have hown : OwnI w1 w.heap.size v1 l := hown1
  obtain ⟨B, cb, rfl, hB, hrow, hcap, hlt, hfz⟩ := OwnG.full encI_len hown
  clear hown1 hgr1 hown
  by_cases h0 : l = []
  · subst h0
    have hz : onceL [] = [] := List.eq_nil_of_length_eq_zero (Nat.le_zero.1 (onceL_len []))
    have hfin : Hid (onceL [] = []) := hz
    clear hz
    refine Calls.mono (show Calls _ _ _ _ _ from sort_none _ _ _) ?_
    rintro e w2 ⟨rfl, rfl⟩
    go_wp2
    go_loopw [4, 5] (fun kv iv wr => kv = .int .i64 0 ∧ iv = .int .i64 0 ∧ wr = w2) (fun _ _ _ => 0)
    case atStart => exact ⟨rfl, rfl, rfl⟩
    case round =>
      obtain ⟨rfl, rfl, rfl⟩ := hrel
      go_wp2
      go_ret
      rw [hfin.out]
      exact ⟨B, cb, rfl, Or.inl rfl, hb1⟩
  · have hpos : 0 < l.length := List.length_pos_iff.2 h0
    obtain ⟨b, off, hAe, hb, _⟩ := hrow.at hpos
    subst hAe
    have h5 := hlt _ rfl
    obtain rfl : off = 0 := h5.2.2.1
    have hH := holdsI hrow (hfz _ rfl)
    have hs := sortI b cb l w1 hH hb (by omega)
    refine Calls.mono (show Calls _ _ _ _ _ from hs) ?_
    rintro e w2 ⟨rfl, hH2, hg2, hb2⟩
    have hbw2 : Below w.heap.size w w2 := hb1.trans (hb2 _ h5.1)
    have hon := OnceAt.start hH2 hg2
    have hlen : (l.mergeSort fun x y => decide (x ≤ y)).length = l.length := by simp
    have hone : Hid (onceL l = compactUpTo (l.mergeSort fun x y => decide (x ≤ y)).toArray l.length) := by show onceL l = _; unfold onceL compact; rw [hlen]
    obtain ⟨d, hd⟩ : ∃ d, (l.mergeSort fun x y => decide (x ≤ y)) = d := ⟨_, rfl⟩
    rw [hd] at hon hlen hone
    have hbg : w.heap.size ≤ b := h5.1
    clear hs hH hH2 hb2 hb1 hd h5 hrow hlt hfz hB h0
    have hlenH : Hid (d.length = l.length) := hlen
    have hcapz : (l.length : Int) ≤ (cb : Int) := by omega
    go_wp2
    go_loopw [4, 5] (fun kv iv wr => ∃ m : Nat, m ≤ l.length ∧ kv = .int .i64 ((compactUpTo d.toArray m).length : Nat) ∧ iv = .int .i64 m ∧ OnceAt wr b d m ∧ Below w.heap.size w wr) (fun _ iv _ => l.length - (intOf iv).toNat)
    case atStart => exact ⟨0, by omega, by simp [compactUpTo], rfl, hon, hbw2⟩
    case round =>
      obtain ⟨m, hm, rfl, rfl, hat, hbel⟩ := hrel
      have hKle := compactUpTo_le d.toArray m
      have hbs := hbel.size
      by_cases hlt : m < l.length
      · have hltz : (m : Int) < (l.length : Int) := by omega
        have hmd : m < d.length := by omega
        cases m with
        | zero =>
          have hK0 : (compactUpTo d.toArray 0).length = 0 := by simp [compactUpTo]
          have hkeep := hat.keep hmd (by simp [keeps]) hK0
          rw [hK0]
          obtain ⟨x, hx⟩ : ∃ x, d[0] = x := ⟨_, rfl⟩
          have hx1 : Hid ((compactUpTo d.toArray 1).length = 1) := by show _ = _; simp [compactUpTo, keeps]
          have c0 := hat.rest 0 hmd (Nat.le_refl _)
          rw [hx] at c0
          have cG := cell_grown (a := ⟨b, 0, none⟩) hat.lt c0
          have hatH : Hid (OnceAt wr b d 0) := hat
          have hxH : Hid (d[0] = x) := hx
          clear hkeep hat hon hx
          go_wp2
          refine wp_region_quiet_grown mixed (by kernel_rfl) ?_
          repeat (go_big_quiet_step (fail))
          refine wpQuiet_nil ?_
          rintro _ ⟨⟨nq, osq⟩, rfl⟩
          have hat3 := hatH.out.gr ⟨nq, osq, rfl⟩
          have hb3 : Below w.heap.size w (grow (wr.drewN nq) osq) := hbel.trans ((Gr.below ⟨nq, osq, rfl⟩).mono hbs)
          clear hatH cG c0
          generalize grow (wr.drewN nq) osq = w3 at hat3 hb3 ⊢
          have hk3 := hat3.keep hmd (by simp [keeps]) hK0
          rw [hxH.out] at hk3
          have c3 := hat3.rest 0 hmd (Nat.le_refl _)
          rw [hxH.out] at c3
          have f3 := hat3.fz 0 hmd
          have hk3H : Hid _ := hk3
          have hb4 : Hid (Below w.heap.size w (w3.setCell ⟨b, 0, none⟩ (.int .i64 x))) := hb3.setCell hbg _
          clear hk3 hat3
          go_wp2
          go_roundw
          case rel => exact ⟨1, by omega, by rw [hx1.out]; go_num, by go_num, hk3H.out, hb4.out⟩
          case measure => simp [intOf]; omega
        | succ m' =>
          have hpos := compact_pos d.toArray m'
          obtain ⟨k, hk⟩ : ∃ k, (compactUpTo d.toArray (m' + 1)).length = k + 1 := ⟨(compactUpTo d.toArray (m' + 1)).length - 1, by omega⟩
          obtain ⟨hkl, hlast⟩ := compact_lastAt d.toArray m' hk
          have hmd' : m' < d.length := by omega
          have e0 : d.toArray[m']! = d[m'] := by simp [hmd']
          have e1 : d.toArray[m' + 1]! = d[m' + 1] := by simp [hmd]
          rw [e0] at hlast
          obtain ⟨x, hx⟩ : ∃ x, d[m' + 1] = x := ⟨_, rfl⟩
          obtain ⟨y, hy⟩ : ∃ y, d[m'] = y := ⟨_, rfl⟩
          have hkp : keeps d.toArray (m' + 1) = !(x == y) := by
            unfold keeps
            rw [Nat.add_sub_cancel, e0, e1, hx, hy]
            by_cases h : x = y <;> simp [h]
          have cm := hat.rest (m' + 1) hmd (Nat.le_refl _)
          rw [hx] at cm
          have ck := hat.head k hkl
          rw [hlast, hy] at ck
          have cmG := cell_grown (a := ⟨b, m' + 1, none⟩) hat.lt cm
          have ckG := cell_grown (a := ⟨b, k, none⟩) hat.lt ck
          have hatH : Hid (OnceAt wr b d (m' + 1)) := hat
          have hxH : Hid (d[m' + 1] = x) := hx
          rw [hk] at hKle ⊢
          have hkH : Hid ((compactUpTo d.toArray (m' + 1)).length = k + 1) := hk
          have hkz : ((k + 1 : Nat) : Int) - 1 = (k : Int) := by omega
          have hkz2 : ((k + 1 : Nat) : Int) = (k : Int) + 1 := by omega
          have hmz2 : ((m' + 1 : Nat) : Int) = (m' : Int) + 1 := by omega
          have hklz : (k : Int) < (l.length : Int) := by omega
          have hk1z : (k : Int) + 1 < (l.length : Int) := by omega
          have hmlz : (m' : Int) + 1 < (l.length : Int) := by omega
          have hm0 : ((m' : Int) + 1 == 0) = false := beq_eq_false_iff_ne.2 (by omega)
          have hd1 : k + 1 < d.length := by omega
          clear hat hon hx hy e0 e1 hlast hk hpos hltz hkl
          cases hq : (x == y)
          · have hkp1 : Hid (keeps d.toArray (m' + 1) = true) := by show _ = true; rw [hkp, hq]; rfl
            clear hkp
            go_wp2
            refine wp_region_quiet_grown mixed (by kernel_rfl) ?_
            repeat (go_big_quiet_step (fail))
            refine wpQuiet_nil ?_
            rintro _ ⟨⟨nq, osq⟩, rfl⟩
            have hat3 := hatH.out.gr ⟨nq, osq, rfl⟩
            have hb3 : Below w.heap.size w (grow (wr.drewN nq) osq) := hbel.trans ((Gr.below ⟨nq, osq, rfl⟩).mono hbs)
            clear hatH cm ck cmG ckG
            generalize grow (wr.drewN nq) osq = w3 at hat3 hb3 ⊢
            have hk3 := hat3.keep hmd hkp1.out hkH.out
            rw [hxH.out] at hk3
            have c3 := hat3.rest (m' + 1) hmd (Nat.le_refl _)
            rw [hxH.out] at c3
            obtain ⟨z, cz⟩ := hat3.mid (k + 1) hd1
            have f3 := hat3.fz (k + 1) hd1
            have hk3H : Hid _ := hk3
            have hlen3 : Hid ((compactUpTo d.toArray (m' + 1 + 1)).length = k + 1 + 1) := by show _ = _; rw [compactUpTo_succ, hkp1.out, List.length_append, hkH.out]; rfl
            have hb4 : Hid (Below w.heap.size w (w3.setCell ⟨b, k + 1, none⟩ (.int .i64 x))) := hb3.setCell hbg _
            clear hk3 hat3
            go_wp2
            go_roundw
            case rel => exact ⟨m' + 1 + 1, by omega, by rw [hlen3.out]; go_num, by go_num, hk3H.out, hb4.out⟩
            case measure => simp [intOf]; omega
          · have hkp1 : Hid (keeps d.toArray (m' + 1) = false) := by show _ = false; rw [hkp, hq]; rfl
            clear hkp
            go_wp2
            refine wp_region_quiet_grown mixed (by kernel_rfl) ?_
            repeat (go_big_quiet_step (fail))
            refine wpQuiet_nil ?_
            rintro _ ⟨⟨nq, osq⟩, rfl⟩
            have hat3 := hatH.out.gr ⟨nq, osq, rfl⟩
            have hb3 : Hid (Below w.heap.size w (grow (wr.drewN nq) osq)) := hbel.trans ((Gr.below ⟨nq, osq, rfl⟩).mono hbs)
            have hk3H : Hid _ := hat3.skip hkp1.out
            have hlen3 : Hid ((compactUpTo d.toArray (m' + 1 + 1)).length = k + 1) := by show _ = _; rw [compactUpTo_succ, hkp1.out, List.length_append, hkH.out]; rfl
            clear hatH cm ck cmG ckG hat3
            go_wp2
            go_roundw
            case rel => exact ⟨m' + 1 + 1, by omega, by rw [hlen3.out], by go_num, hk3H.out, hb3.out⟩
            case measure => simp [intOf]; omega
      · have hltz : ¬ (m : Int) < (l.length : Int) := by omega
        obtain rfl : m = l.length := by omega
        obtain ⟨K, hK⟩ : ∃ K, (compactUpTo d.toArray l.length).length = K := ⟨_, rfl⟩
        have hKH : Hid (onceL l = compactUpTo d.toArray l.length ∧ (compactUpTo d.toArray l.length).length = K) := ⟨hone.out, hK⟩
        rw [hK] at hKle ⊢
        have hKz : (K : Int) ≤ (cb : Int) := by omega
        have hrow : RowI wr (some ⟨b, 0, none⟩) (onceL l) := by
          refine Or.inr ⟨b, 0, rfl, hat.lt, fun j hj i hi => ?_⟩
          obtain rfl : i = 0 := by omega
          have hj' : j < (compactUpTo d.toArray l.length).length := by rw [← hone.out]; exact hj
          have e : (onceL l)[j] = (compactUpTo d.toArray l.length)[j] := by simp only [hone.out]
          rw [e]
          have := hat.head j hj'
          simpa [encI] using this
        have hrowH : Hid _ := hrow
        clear hrow hat hon hK
        go_wp2
        go_ret
        refine ⟨some ⟨b, 0, none⟩, ⟨cb, ?_⟩, hrowH.out, hbel⟩
        rw [hKH.out.1, hKH.out.2]
        rfl

end Go.Proofs.YtnkpfhipgcmplaaGreatDoor

namespace Go.Proofs.YtnkpfhipgcmplaaGreatDoor
open Go.RowKit Go.Sort Go.Shelf Go.Lib

set_option maxRecDepth 100000 in
set_option maxHeartbeats 1000000 in
theorem rvalues_any (t : Tab) (A : Option Addr) (ca : Nat) (D : Option Addr) (cd : Nat) (key col : Int) (w : World) (hsz : t.e.length * 40 ≤ 140737488355328) (hr : Row w A t.c.l) (hd : RowC w D t.e) :
    Calls Tryz.prog 47 #[.agg #[.int .i64 t.c.c0, .int .i64 t.c.c1, .int .i64 t.c.c2, .int .i64 t.c.c3, .slice A t.c.l.length ca, .slice D t.e.length cd], .int .i64 key, .int .i64 col] w fun e w' => ∃ C cp, e = .returned (.slice C (onceL (valsOf key col t.e)).length cp) ∧ RowI w' C (onceL (valsOf key col t.e)) ∧ Below w.heap.size w w' := by
  have ht0 : TabAt (w.alloc (.cells #[.int .i64 t.c.c0, .int .i64 t.c.c1, .int .i64 t.c.c2, .int .i64 t.c.c3, .slice A t.c.l.length ca, .slice D t.e.length cd] 29)) w.heap.size t A ca D cd := TabAt.new 29 hr hd rfl
  have hbw0 : Below w.heap.size w (w.alloc (.cells #[.int .i64 t.c.c0, .int .i64 t.c.c1, .int .i64 t.c.c2, .int .i64 t.c.c3, .slice A t.c.l.length ca, .slice D t.e.length cd] 29)) := ((Gr.refl w).alloc _).below
  have k5 := ht0.k5
  go_enter Tryz.func47, Tryz.ntmps47
  go_wp2
  generalize w.alloc (.cells #[.int .i64 t.c.c0, .int .i64 t.c.c1, .int .i64 t.c.c2, .int .i64 t.c.c3, .slice A t.c.l.length ca, .slice D t.e.length cd] 29) = w0 at ht0 hbw0 k5 ⊢
  clear k5
  go_loopw [7, 8] (fun v i wr => ∃ k : Nat, k ≤ t.e.length ∧ i = .int .i64 k ∧ OwnI wr w0.heap.size v (valsOf key col (t.e.take k)) ∧ Below w0.heap.size w0 wr) (fun _ i _ => t.e.length - (intOf i).toNat)
  case atStart => exact ⟨0, by omega, rfl, OwnG.nil _ _ _ _ _, Below.refl _ _⟩
  case round =>
    obtain ⟨k, hk, rfl, hov, hbel⟩ := hrel
    obtain ⟨A1, cap1, rfl, hA1, hrow1, hlt1⟩ := OwnG.row encI_len hov
    have htR := ht0.below hbel
    have r5 := htR.k5
    have hsR : w0.heap.size ≤ wr.heap.size := hbel.size
    by_cases hlt : k < t.e.length
    · have hltz : (k : Int) < (t.e.length : Int) := by omega
      obtain ⟨bb, off, rfl, hb, hcs⟩ := RowC.get htR.rowC hlt
      obtain ⟨x, hx⟩ : ∃ x, t.e[k] = x := ⟨_, rfl⟩
      obtain ⟨e0, e1, e2, e3, e4⟩ := hcs k hlt
      rw [hx] at e0 e1 e2 e3 e4
      have hst := valsOf_take (key := key) (col := col) hlt hx
      clear hcs hx
      obtain ⟨M, HM⟩ : ∃ M, valsOf key col (t.e.take k) = M := ⟨_, rfl⟩
      have hMl : M.length ≤ t.e.length := by rw [← HM]; exact Nat.le_trans (valsOf_len _ _ _) (by rw [List.length_take]; omega)
      rw [HM] at hov hst hrow1 ⊢
      clear HM
      have hovH : Hid (OwnI wr w0.heap.size (.slice A1 M.length cap1) M) := hov
      have hbelH : Hid (Below w0.heap.size w0 wr) := hbel
      have hgX : Gr wr wr := Gr.refl _
      clear hov hbel hrow1
      by_cases hq : x.2.1 = key
      · have hqb : (x.2.1 == key) = true := by simpa using hq
        by_cases hq2 : x.2.2.1 = col
        · have hqb2 : (x.2.2.1 == col) = true := by simpa using hq2
          have hst2 : Hid (valsOf key col (t.e.take (k + 1)) = M ++ [x.2.2.2]) := by show _ = _; rw [hst, if_pos (by simp [fitP, hq, hq2])]
          have hbd : Hid (M.length + [x.2.2.2].length ≤ maxLen ∧ (M.length + [x.2.2.2].length) * 8 ≤ 140737488355328) := by show _ ∧ _; unfold maxLen; simp only [List.length_cons, List.length_nil]; omega
          clear hst hq hq2
          go_wp2_with (at_builtin; refine wpList_append_i _ rfl _ _ rfl w0.heap.size (.slice A1 M.length cap1) M [x.2.2.2] (some ⟨wr.heap.size, 0, none⟩) 1 rfl rfl ?ho ?hr (fun h => by cases h) hbd.out.1 hbd.out.2 ?hs ?_)
          case ho => exact hovH.out.gr (hgX.alloc _)
          case hr => exact rowNewI rfl _ _
          case hs => simp; omega
          intro v1 w3 hown1 hgr1
          have hb3 : Hid (Below w0.heap.size w0 w3) := hbelH.out.trans (((hgX.alloc _).below.mono hsR).trans (OwnG.grown_below (hovH.out.gr (hgX.alloc _)) hgr1 (by simp; omega)))
          have hownH : Hid (OwnI w3 w0.heap.size v1 (M ++ [x.2.2.2])) := hown1
          clear hown1 hgr1
          go_wp2
          go_roundw
          case rel => exact ⟨k + 1, by omega, by go_num, by rw [hst2.out]; exact hownH.out, hb3.out⟩
          case measure => simp [intOf]; omega
        · have hqb2 : (x.2.2.1 == col) = false := by simpa using hq2
          have hst2 : Hid (valsOf key col (t.e.take (k + 1)) = M) := by show _ = _; rw [hst, if_neg (by simp [fitP, hq2])]; simp
          clear hst hq hq2
          go_wp2
          go_roundw
          case rel => exact ⟨k + 1, by omega, by go_num, by rw [hst2.out]; exact hovH.out.gr hgX, hbelH.out.trans (hgX.below.mono hsR)⟩
          case measure => simp [intOf]; omega
      · have hqb : (x.2.1 == key) = false := by simpa using hq
        have hst2 : Hid (valsOf key col (t.e.take (k + 1)) = M) := by show _ = _; rw [hst, if_neg (by simp [fitP, hq])]; simp
        clear hst hq
        go_wp2
        go_roundw
        case rel => exact ⟨k + 1, by omega, by go_num, by rw [hst2.out]; exact hovH.out.gr hgX, hbelH.out.trans (hgX.below.mono hsR)⟩
        case measure => simp [intOf]; omega
    · have hltz : ¬ (k : Int) < (t.e.length : Int) := by omega
      have hke : t.e.take k = t.e := List.take_of_length_le (by omega)
      rw [hke] at hov hrow1 ⊢
      clear hke
      have hMl : (valsOf key col t.e).length ≤ t.e.length := valsOf_len _ _ _
      obtain ⟨M, HM⟩ : ∃ M, valsOf key col t.e = M := ⟨_, rfl⟩
      rw [HM] at hov hrow1 hMl ⊢
      have HMH : Hid (valsOf key col t.e = M) := HM
      clear HM
      have hro := once_any M A1 cap1 wr hrow1 hA1 (by omega)
      have hroH : Hid _ := hro
      have hbwR : Below w.heap.size w wr := hbw0.trans (hbel.mono hbw0.size)
      have hbs := hbw0.size
      clear hro hov hrow1
      go_wp2_with fail
      refine Calls.mono (show Calls _ _ _ _ _ from hroH.out) ?_
      rintro e w2 ⟨C, cp, rfl, hr2, hb2⟩
      clear hroH
      go_wp2
      go_ret
      rw [HMH.out]
      exact ⟨C, cp, rfl, hr2, hbwR.trans (hb2.mono hbwR.size)⟩

set_option maxRecDepth 100000 in
set_option maxHeartbeats 1000000 in
theorem rkeys_any (t : Tab) (A : Option Addr) (ca : Nat) (D : Option Addr) (cd : Nat) (w : World) (hsz : t.e.length * 40 ≤ 140737488355328) (hr : Row w A t.c.l) (hd : RowC w D t.e) :
    Calls Tryz.prog 46 #[.agg #[.int .i64 t.c.c0, .int .i64 t.c.c1, .int .i64 t.c.c2, .int .i64 t.c.c3, .slice A t.c.l.length ca, .slice D t.e.length cd]] w fun e w' => ∃ C cp, e = .returned (.slice C (onceL (keysOf t.e)).length cp) ∧ RowI w' C (onceL (keysOf t.e)) ∧ Below w.heap.size w w' := by
  have ht0 : TabAt (w.alloc (.cells #[.int .i64 t.c.c0, .int .i64 t.c.c1, .int .i64 t.c.c2, .int .i64 t.c.c3, .slice A t.c.l.length ca, .slice D t.e.length cd] 29)) w.heap.size t A ca D cd := TabAt.new 29 hr hd rfl
  have hbw0 : Below w.heap.size w (w.alloc (.cells #[.int .i64 t.c.c0, .int .i64 t.c.c1, .int .i64 t.c.c2, .int .i64 t.c.c3, .slice A t.c.l.length ca, .slice D t.e.length cd] 29)) := ((Gr.refl w).alloc _).below
  have k5 := ht0.k5
  go_enter Tryz.func46, Tryz.ntmps46
  go_wp2
  generalize w.alloc (.cells #[.int .i64 t.c.c0, .int .i64 t.c.c1, .int .i64 t.c.c2, .int .i64 t.c.c3, .slice A t.c.l.length ca, .slice D t.e.length cd] 29) = w0 at ht0 hbw0 k5 ⊢
  clear k5
  go_loopw [3, 4] (fun v i wr => ∃ k : Nat, k ≤ t.e.length ∧ i = .int .i64 k ∧ OwnI wr w0.heap.size v (keysOf (t.e.take k)) ∧ Below w0.heap.size w0 wr) (fun _ i _ => t.e.length - (intOf i).toNat)
  case atStart => exact ⟨0, by omega, rfl, OwnG.nil _ _ _ _ _, Below.refl _ _⟩
  case round =>
    obtain ⟨k, hk, rfl, hov, hbel⟩ := hrel
    obtain ⟨A1, cap1, rfl, hA1, hrow1, hlt1⟩ := OwnG.row encI_len hov
    have htR := ht0.below hbel
    have r5 := htR.k5
    have hsR : w0.heap.size ≤ wr.heap.size := hbel.size
    by_cases hlt : k < t.e.length
    · have hltz : (k : Int) < (t.e.length : Int) := by omega
      obtain ⟨bb, off, rfl, hb, hcs⟩ := RowC.get htR.rowC hlt
      obtain ⟨x, hx⟩ : ∃ x, t.e[k] = x := ⟨_, rfl⟩
      obtain ⟨e0, e1, e2, e3, e4⟩ := hcs k hlt
      rw [hx] at e0 e1 e2 e3 e4
      have hst := keysOf_take hlt hx
      clear hcs hx
      obtain ⟨M, HM⟩ : ∃ M, keysOf (t.e.take k) = M := ⟨_, rfl⟩
      have hMl : M.length ≤ t.e.length := by rw [← HM]; exact Nat.le_trans (keysOf_len _) (by rw [List.length_take]; omega)
      rw [HM] at hov hst hrow1 ⊢
      clear HM
      have hovH : Hid (OwnI wr w0.heap.size (.slice A1 M.length cap1) M) := hov
      have hbelH : Hid (Below w0.heap.size w0 wr) := hbel
      have hgX : Gr wr wr := Gr.refl _
      clear hov hbel hrow1
      have hst2 : Hid (keysOf (t.e.take (k + 1)) = M ++ [x.2.1]) := by show _ = _; rw [hst]
      have hbd : Hid (M.length + [x.2.1].length ≤ maxLen ∧ (M.length + [x.2.1].length) * 8 ≤ 140737488355328) := by show _ ∧ _; unfold maxLen; simp only [List.length_cons, List.length_nil]; omega
      clear hst
      go_wp2_with (at_builtin; refine wpList_append_i _ rfl _ _ rfl w0.heap.size (.slice A1 M.length cap1) M [x.2.1] (some ⟨wr.heap.size, 0, none⟩) 1 rfl rfl ?ho ?hr (fun h => by cases h) hbd.out.1 hbd.out.2 ?hs ?_)
      case ho => exact hovH.out.gr (hgX.alloc _)
      case hr => exact rowNewI rfl _ _
      case hs => simp; omega
      intro v1 w3 hown1 hgr1
      have hb3 : Hid (Below w0.heap.size w0 w3) := hbelH.out.trans (((hgX.alloc _).below.mono hsR).trans (OwnG.grown_below (hovH.out.gr (hgX.alloc _)) hgr1 (by simp; omega)))
      have hownH : Hid (OwnI w3 w0.heap.size v1 (M ++ [x.2.1])) := hown1
      clear hown1 hgr1
      go_wp2
      go_roundw
      case rel => exact ⟨k + 1, by omega, by go_num, by rw [hst2.out]; exact hownH.out, hb3.out⟩
      case measure => simp [intOf]; omega
    · have hltz : ¬ (k : Int) < (t.e.length : Int) := by omega
      have hke : t.e.take k = t.e := List.take_of_length_le (by omega)
      rw [hke] at hov hrow1 ⊢
      clear hke
      have hMl : (keysOf t.e).length ≤ t.e.length := keysOf_len _
      obtain ⟨M, HM⟩ : ∃ M, keysOf t.e = M := ⟨_, rfl⟩
      rw [HM] at hov hrow1 hMl ⊢
      have HMH : Hid (keysOf t.e = M) := HM
      clear HM
      have hro := once_any M A1 cap1 wr hrow1 hA1 (by omega)
      have hroH : Hid _ := hro
      have hbwR : Below w.heap.size w wr := hbw0.trans (hbel.mono hbw0.size)
      have hbs := hbw0.size
      clear hro hov hrow1
      go_wp2_with fail
      refine Calls.mono (show Calls _ _ _ _ _ from hroH.out) ?_
      rintro e w2 ⟨C, cp, rfl, hr2, hb2⟩
      clear hroH
      go_wp2
      go_ret
      rw [HMH.out]
      exact ⟨C, cp, rfl, hr2, hbwR.trans (hb2.mono hbwR.size)⟩

end Go.Proofs.YtnkpfhipgcmplaaGreatDoor
