/-
  Package rank's orders: closures that hold one another.
-/
import Derived.Test.YteobmedkngdnkaaDoorNLeaf
namespace Go.Proofs.YteobmedkngdnkaaDoor
open Go.RowKit Go.Sort

def colI (n : Int) : Int := if n < 0 then -n - 1 else n - 1
theorem colB_I (n : Int) : colB n = (colI n).toNat := rfl
/-- The value is the order by these columns. -/
def OrdF (w : World) : List Int → Value → Prop
  | [], v => v = .func (.func 28) #[] #[]
  | n :: t, v => ∃ (bc bs bn : Nat) (u : Value), v = .func (.func 41) #[] #[.pointer (some ⟨bc, 0, none⟩), .pointer (some ⟨bs, 0, none⟩), .pointer (some ⟨bn, 0, none⟩)] ∧ (bc < w.heap.size ∧ bs < w.heap.size ∧ bn < w.heap.size) ∧ w.cell? ⟨bc, 0, none⟩ = some (.int .i64 (colI n)) ∧ w.cell? ⟨bs, 0, none⟩ = some (.int .i64 (sgnB n)) ∧ w.cell? ⟨bn, 0, none⟩ = some u ∧ OrdF w t u
theorem OrdF.below {w w' : World} (q : Below w.heap.size w w') : ∀ {cs : List Int} {v : Value}, OrdF w cs v → OrdF w' cs v
  | [], _, h => h
  | _ :: _, _, ⟨bc, bs, bn, u, h1, ⟨l1, l2, l3⟩, h2, h3, h4, h5⟩ => ⟨bc, bs, bn, u, h1, ⟨Nat.lt_of_lt_of_le l1 q.size, Nat.lt_of_lt_of_le l2 q.size, Nat.lt_of_lt_of_le l3 q.size⟩, (q.cell (p := ⟨bc, 0, none⟩) l1).trans h2, (q.cell (p := ⟨bs, 0, none⟩) l2).trans h3, (q.cell (p := ⟨bn, 0, none⟩) l3).trans h4, OrdF.below q h5⟩
theorem OrdF.gr {w w' : World} (q : Gr w w') {cs : List Int} {v : Value} (h : OrdF w cs v) : OrdF w' cs v := OrdF.below q.below h
/-- Which function it is, and what it holds. -/
theorem OrdF.form {w : World} : ∀ {cs : List Int} {v : Value}, OrdF w cs v → ∃ F cb, v = .func (.func F) #[] cb ∧ ∀ args w, (callFunc F args).run Tryd.prog w = .ok (.enter F args) w
  | [], _, h => ⟨_, _, h, enters_of Tryd.func28 (by kernel_rfl) rfl⟩
  | _ :: _, _, ⟨_, _, _, _, h, _⟩ => ⟨_, _, h, enters_of Tryd.func41 (by kernel_rfl) rfl⟩

theorem box3a {w : World} {C1 C2 C3 : Array Value} {T1 T2 T3 : TypeId} {j : Nat} {v : Value} (hv : C1[j]? = some v) : (((w.alloc (.cells C1 T1)).alloc (.cells C2 T2)).alloc (.cells C3 T3)).cell? ⟨w.heap.size, j, none⟩ = some v := box1 (w := w) (((Gr.refl _).alloc _).alloc _) hv
theorem box3b {w : World} {C1 C2 C3 : Array Value} {T1 T2 T3 : TypeId} {j : Nat} {v : Value} (hv : C2[j]? = some v) : (((w.alloc (.cells C1 T1)).alloc (.cells C2 T2)).alloc (.cells C3 T3)).cell? ⟨w.heap.size + 1, j, none⟩ = some v := box2 (w := w) ((Gr.refl _).alloc _) hv
theorem box3c {w : World} {C1 C2 C3 : Array Value} {T1 T2 T3 : TypeId} {j : Nat} {v : Value} (hv : C3[j]? = some v) : (((w.alloc (.cells C1 T1)).alloc (.cells C2 T2)).alloc (.cells C3 T3)).cell? ⟨w.heap.size + 1 + 1, j, none⟩ = some v := by
  have := box2 (w := w.alloc (.cells C1 T1)) (Gr.refl _) (T1 := T2) (C1 := C2) (T2 := T3) hv
  simpa using this
theorem ordNew {w : World} {n : Int} {t : List Int} {u : Value} {c s : Int} (T1 T2 T3 : TypeId) (h : OrdF w t u) (hc : colI n = c) (hs : sgnB n = s) :
    OrdF (((w.alloc (.cells #[u] T1)).alloc (.cells #[.int .i64 c] T2)).alloc (.cells #[.int .i64 s] T3)) (n :: t) (.func (.func 41) #[] #[.pointer (some ⟨w.heap.size + 1, 0, none⟩), .pointer (some ⟨w.heap.size + 1 + 1, 0, none⟩), .pointer (some ⟨w.heap.size, 0, none⟩)]) :=
  ⟨_, _, _, u, rfl, ⟨by simp <;> omega, by simp, by simp <;> omega⟩, by rw [hc]; exact box3b rfl, by rw [hs]; exact box3c rfl, box3a rfl, h.gr ((((Gr.refl _).alloc _).alloc _).alloc _)⟩

set_option maxRecDepth 100000 in
set_option maxHeartbeats 1000000 in
theorem orderAt_any (n : Int) (t : List Int) (u : Value) (w : World) (hn : -1000 ≤ n ∧ n ≤ 1000) (h : OrdF w t u) :
    Calls Tryd.prog 29 #[.int .i64 n, u] w fun e w' => ∃ v, e = .returned v ∧ OrdF w' (n :: t) v ∧ Gr w w' := by
  obtain ⟨F, cb, rfl, _⟩ := h.form
  have hmf : ∀ (fn : Fn) (first cap : Array Value) (w : World), (Instr.makeFunc fn first cap).run Tryd.prog w = .ok (.func fn first cap) w := fun _ _ _ _ => rfl
  have hH : Hid (OrdF w t (.func (.func F) #[] cb)) := h
  clear h
  by_cases hlt : n < 0
  · have e1 : Hid (colI n = -n - 1 ∧ sgnB n = -1) := ⟨if_pos hlt, if_pos hlt⟩
    go_enter Tryd.func29, Tryd.ntmps29
    go_wp2
    go_ret
    exact ⟨_, rfl, ordNew _ _ _ hH.out e1.out.1 e1.out.2, (((Gr.refl _).alloc _).alloc _).alloc _⟩
  · have e1 : Hid (colI n = n - 1 ∧ sgnB n = 1) := ⟨if_neg hlt, if_neg hlt⟩
    go_enter Tryd.func29, Tryd.ntmps29
    go_wp2
    go_ret
    exact ⟨_, rfl, ordNew _ _ _ hH.out e1.out.1 e1.out.2, (((Gr.refl _).alloc _).alloc _).alloc _⟩

set_option maxRecDepth 100000 in
set_option maxHeartbeats 1000000 in
theorem orderBy_any (cs : List Int) (A : Option Addr) (cap : Nat) (w : World) (hl : cs.length ≤ 8) (hn : ∀ n ∈ cs, -1000 ≤ n ∧ n ≤ 1000) (hr : RowI w A cs) :
    Calls Tryd.prog 16 #[.slice A cs.length cap] w fun e w' => ∃ v, e = .returned v ∧ OrdF w' cs v ∧ Gr w w' := by
  have hH : Hid (RowI w A cs ∧ ∀ n ∈ cs, -1000 ≤ n ∧ n ≤ 1000) := ⟨hr, hn⟩
  clear hr hn
  go_enter Tryd.func16, Tryd.ntmps16
  go_wp2
  go_loopw [3, 4] (fun u i wr => ∃ k : Nat, k ≤ cs.length ∧ i = .int .i64 ((k : Int) - 1) ∧ Hid (OrdF wr (cs.drop k) u ∧ Gr w wr)) (fun _ i _ => (intOf i + 1).toNat)
  case atStart => exact ⟨cs.length, Nat.le_refl _, rfl, by rw [List.drop_length]; exact rfl, Gr.refl _⟩
  case round =>
    obtain ⟨k, hk, rfl, hR⟩ := hrel
    by_cases hlt : 0 < k
    · obtain ⟨m, rfl⟩ : ∃ m, k = m + 1 := ⟨k - 1, by omega⟩
      have hm : m < cs.length := by omega
      have hmz : (m : Int) < (cs.length : Int) := by omega
      have e1 : (((m + 1 : Nat) : Int) - 1) = (m : Int) := by omega
      obtain ⟨b, off, rfl, hb, hcs⟩ := (hH.out.1.gr hR.out.2).at hm
      have e0 := hcs m hm 0 (by omega)
      obtain ⟨n, hn⟩ : ∃ n, cs[m] = n := ⟨_, rfl⟩
      rw [hn] at e0
      have e2 : wr.cell? ⟨b, off + m, none⟩ = some (.int .i64 n) := by simpa [encI] using e0
      have hC0 := orderAt_any n (cs.drop (m + 1)) u3 wr (by rw [← hn]; exact hH.out.2 _ (List.getElem_mem hm)) hR.out.1
      have hC : Hid _ := hC0
      have hd : Hid (cs.drop m = n :: cs.drop (m + 1)) := by show _ = _; rw [List.drop_eq_getElem_cons hm, hn]
      have hg : Hid (Gr w wr) := hR.out.2
      rw [e1]
      clear hcs e0 hn hC0 hR
      go_wp2_with fail
      refine Calls.mono (show Calls _ _ _ _ _ from hC.out) ?_
      rintro e w1 ⟨v, rfl, h1, h2⟩
      have hfin : Hid (OrdF w1 (cs.drop m) v ∧ Gr w w1) := ⟨by rw [hd.out]; exact h1, hg.out.trans h2⟩
      clear hC h1 h2
      go_wp2
      go_roundw
      case rel => exact ⟨m, by omega, by go_num, hfin⟩
      case measure => simp [intOf] <;> omega
    · obtain rfl : k = 0 := by omega
      have hfin : Hid (OrdF wr cs u3 ∧ Gr w wr) := by have := hR.out; rwa [List.drop_zero] at this
      clear hR
      go_wp2
      go_ret
      exact ⟨u3, rfl, hfin.out⟩

theorem cmpG {x y r : Int} (h : cmpI x y = r) (w : World) : Calls Tryd.prog 42 #[.int .i64 x, .int .i64 y] w fun e w' => e = .returned (.int .i64 r) ∧ ∃ q os', w' = grow (w.drewN q) os' := by
  rw [← h]
  refine (cmp_any x y w).mono ?_
  rintro e w' ⟨h1, rfl⟩
  exact ⟨h1, Gr.refl _⟩
/-- A number of a row, in memory. -/
theorem rowI_col {w : World} {p : Option Addr} {r : List Int} {n : Int} (h : RowI w p r) (h0 : n ≠ 0) (hc : colB n < r.length) : ∃ (b off m : Nat), p = some ⟨b, off, none⟩ ∧ b < w.heap.size ∧ colI n = m ∧ m < r.length ∧ w.cell? ⟨b, off + m, none⟩ = some (.int .i64 (r.getD (colB n) 0)) := by
  obtain ⟨b, off, hp, hb, hcs⟩ := h.at hc
  refine ⟨b, off, colB n, hp, hb, ?_, hc, ?_⟩
  · unfold colB colI
    split <;> omega
  · have := hcs (colB n) hc 0 (by omega)
    simp only [Nat.mul_one, Nat.add_zero] at this
    rw [this, List.getD_eq_getElem?_getD, List.getElem?_eq_getElem hc]
    rfl

set_option maxRecDepth 100000 in
set_option maxHeartbeats 2000000 in
/-- The order by some columns, called. -/
theorem ordF_any (a b : List Int) (A B : Option Addr) (ca cb : Nat) (hal : a.length ≤ maxLen) (hbl : b.length ≤ maxLen) : ∀ (cs : List Int) (F : FuncId) (cap : Array Value) (w : World), OrdF w cs (.func (.func F) #[] cap) → RowI w A a → RowI w B b → (∀ n ∈ cs, n ≠ 0 ∧ colB n < a.length ∧ colB n < b.length) →
    Calls Tryd.prog F (#[.slice A a.length ca, .slice B b.length cb] ++ cap) w fun e w' => e = .returned (.int .i64 (cmpB cs a b)) ∧ ∃ q os', w' = grow (w.drewN q) os'
  | [], F, cap, w, h, ha, hb, _ => by
    have h' : Value.func (.func F) #[] cap = .func (.func 28) #[] #[] := h
    injection h' with h1 h2 h3
    injection h1 with h1
    subst h1 h3
    exact orderR_any a b A B ca cb w hal ha hb
  | n :: t, F, cap, w, h, ha, hb, hn => by
    obtain ⟨bc, bs, bn, u, h', hlt, c0, c1, c2, hO⟩ := h
    injection h' with h1 h2 h3
    injection h1 with h1
    subst h1 h3
    have mixed : Tryd.prog.follows .mixedOrders = true := by kernel_rfl
    obtain ⟨G, gc, rfl, eg⟩ := hO.form
    have IH : Hid (∀ W, Gr w W → Calls Tryd.prog G (#[.slice A a.length ca, .slice B b.length cb] ++ gc) W fun e w' => e = .returned (.int .i64 (cmpB t a b)) ∧ ∃ q os', w' = grow (W.drewN q) os') := fun W hg => ordF_any a b A B ca cb hal hbl t G gc W (hO.gr hg) (ha.gr hg) (hb.gr hg) (fun m hm => hn m (List.mem_cons_of_mem _ hm))
    obtain ⟨n0, na, nb⟩ := hn n (List.mem_cons_self ..)
    obtain ⟨b1, o1, m1, hA, l1, k1, j1, d1⟩ := rowI_col ha n0 na
    obtain ⟨b2, o2, m2, hB, l2, k2, j2, d2⟩ := rowI_col hb n0 nb
    obtain rfl : m1 = m2 := by omega
    rw [k1] at c0
    obtain ⟨x, hx⟩ : ∃ x, a.getD (colB n) 0 = x := ⟨_, rfl⟩
    obtain ⟨y, hy⟩ : ∃ y, b.getD (colB n) 0 = y := ⟨_, rfl⟩
    rw [hx] at d1
    rw [hy] at d2
    obtain ⟨r, hr⟩ : ∃ r, cmpI x y = r := ⟨_, rfl⟩
    obtain ⟨T, hT⟩ : ∃ T, cmpB t a b = T := ⟨_, rfl⟩
    obtain ⟨Z, hZ⟩ : ∃ Z, cmpB (n :: t) a b = Z := ⟨_, rfl⟩
    have hZe : Hid (Z = if r = 0 then T else sgnB n * r) := by show _ = _; rw [← hZ]; unfold cmpB; rw [hx, hy, hr, hT]
    have hsr : Hid ((sgnB n = -1 ∨ sgnB n = 1) ∧ (r = -1 ∨ r = 0 ∨ r = 1)) := ⟨by rcases sgnB_cases n with h | h <;> simp [h.1], by rcases cmpI_cases x y with h | h | h <;> rw [← hr, h.1] <;> simp⟩
    rw [hZ]
    rw [hT] at IH
    have hrH : Hid (cmpI x y = r) := hr
    obtain ⟨s, hs⟩ : ∃ s, sgnB n = s := ⟨_, rfl⟩
    rw [hs] at c1 hZe hsr
    subst hA hB
    have g0 := (Gr.refl w).cellG (a := ⟨bc, 0, none⟩) hlt.1 c0
    have g1 := (Gr.refl w).cellG (a := ⟨bs, 0, none⟩) hlt.2.1 c1
    have g2 := (Gr.refl w).cellG (a := ⟨bn, 0, none⟩) hlt.2.2 c2
    have g3 := (Gr.refl w).cellG (a := ⟨b1, o1 + m1, none⟩) l1 d1
    have g4 := (Gr.refl w).cellG (a := ⟨b2, o2 + m1, none⟩) l2 d2
    have q1 : (m1 : Int) < (a.length : Int) := by omega
    have q2 : (m1 : Int) < (b.length : Int) := by omega
    clear hO hr hx hy hT hZ hs ha hb hn k1 k2
    show Calls Tryd.prog 41 #[.slice (some ⟨b1, o1, none⟩) a.length ca, .slice (some ⟨b2, o2, none⟩) b.length cb, .pointer (some ⟨bc, 0, none⟩), .pointer (some ⟨bs, 0, none⟩), .pointer (some ⟨bn, 0, none⟩)] w _
    by_cases hr0 : r = 0
    · have hfin : Hid (T = Z) := by show _ = _; rw [hZe.out, if_pos hr0]
      subst hr0
      go_enter Tryd.func41, Tryd.ntmps41
      go_wp2_with fail
      refine wp_region_quiet_grown mixed (by kernel_rfl) ?_
      repeat (go_big_quiet_step ((go_at_call 42; refine Calls.grown_of (cmpG hrH.out _))))
      refine wpQuiet_nil ?_
      rintro _ ⟨⟨nq2, osq2⟩, rfl⟩
      go_wp2_with fail
      refine Calls.mono (IH.out _ ⟨nq2, osq2, rfl⟩) ?_
      rintro e w2 ⟨rfl, hg2⟩
      have hg : Hid (Gr w w2) := Gr.trans ⟨nq2, osq2, rfl⟩ hg2
      clear hg2
      go_wp2
      go_ret
      exact ⟨by rw [← hfin.out]; rfl, hg.out⟩
    · have hrb : (r != 0) = true := by simpa using hr0
      have hw : IntKind.i64.wrap (s * r) = s * r := by
        rcases hsr.out.1 with h | h <;> rcases hsr.out.2 with k | k | k <;> rw [h, k] <;> decide
      have hfin : Hid (s * r = Z) := by show _ = _; rw [hZe.out, if_neg hr0]
      go_enter Tryd.func41, Tryd.ntmps41
      go_wp2_with fail
      refine wp_region_quiet_grown mixed (by kernel_rfl) ?_
      repeat (go_big_quiet_step ((go_at_call 42; refine Calls.grown_of (cmpG hrH.out _))))
      refine wpQuiet_nil ?_
      rintro _ ⟨⟨nq2, osq2⟩, rfl⟩
      go_wp2
      go_ret
      exact ⟨by rw [← hfin.out]; rfl, nq2, osq2, rfl⟩
end Go.Proofs.YteobmedkngdnkaaDoor
