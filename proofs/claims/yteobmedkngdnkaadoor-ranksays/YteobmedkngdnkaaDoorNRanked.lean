/-
  viewref.Ranked: rows put in one by one.
-/
import Derived.Test.YteobmedkngdnkaaDoorNAhead
import Derived.Test.YteobmedkngdnkaaDoorNIns3
namespace Go.Proofs.YteobmedkngdnkaaDoor
open Go.RowKit Go.Sort

theorem insL_map {M : List Itm} {R : List (List Int)} {a m : Nat} {r : List Int} {y : Itm} (hy : y.r = r) (ha : a ≤ R.length) (hM : M.map Itm.r = R.take a ++ (List.replicate m r ++ R.drop a)) : (insL M a y).map Itm.r = R.take a ++ (List.replicate (m + 1) r ++ R.drop a) := by
  unfold insL
  rw [List.map_append, List.map_cons, List.map_take, List.map_drop, hM, hy]
  have e1 : (R.take a).length = a := by rw [List.length_take]; omega
  rw [List.take_left' e1, List.drop_left' e1, List.replicate_succ]
  rfl
theorem OwnR.ins {w w' : World} {base : Nat} {v v' : Value} {L : List Itm} {x : Itm} {i : Nat} (h : OwnR w base v L) (hx : OwnI w base x.v x.r) (ho : OwnG encW 1 23 w' base v' (insL L i x)) (hg : w.grownBy w' v.ownBlock) : OwnR w' base v' (insL L i x) := by
  refine ⟨ho, fun y hy => ?_⟩
  have hy' : y ∈ L ∨ y = x := by
    unfold insL at hy
    rcases List.mem_append.1 hy with k | k
    · exact Or.inl (List.mem_of_mem_take k)
    · rcases List.mem_cons.1 k with k | k
      · exact Or.inr k
      · exact Or.inl (List.mem_of_mem_drop k)
  rcases hy' with k | k
  · exact (h.each y k).keepN hg (ownN_ne (h.each y k) h.own (by decide))
  · rw [k]
    exact hx.keepN hg (ownN_ne hx h.own (by decide))
structure RInv (w wr : World) (v : Value) (L : List Itm) (cs : List Int) (l : List Zit) : Prop where
  own : OwnR wr w.heap.size v L
  perm : (L.map Itm.r).Perm (expL l)
  srt : (L.map Itm.r).Pairwise (leB cs)
  bel : Below w.heap.size w wr

set_option maxRecDepth 100000 in
set_option maxHeartbeats 4000000 in
theorem ranked_any (l : List Itm) (A : Option Addr) (cap : Nat) (cs : List Int) (CA : Option Addr) (cc : Nat) (most : Int) (w : World) (h : Lv w A cap l) (hc : RowI w CA cs) (hcl : cs.length ≤ maxLen) :
    Calls Tryd.prog 5 #[.slice A l.length cap, .slice CA cs.length cc, .int .i64 most] w fun e w' => ∃ (L : List Itm) (C : Option Addr) (k : Nat), e = .returned (.tuple #[.slice C L.length k, .int .i64 (rnkE (l.map Itm.z) cs most)]) ∧ RwR w' C L ∧ L.map Itm.r = rnkL (l.map Itm.z) cs most ∧ Below w.heap.size w w' := by
  have mixed : Tryd.prog.follows .mixedOrders = true := by kernel_rfl
  obtain ⟨E, hE⟩ : ∃ E, rnkE (l.map Itm.z) cs most = E := ⟨_, rfl⟩
  obtain ⟨R, hR⟩ : ∃ R, rnkL (l.map Itm.z) cs most = R := ⟨_, rfl⟩
  obtain ⟨D, hD⟩ : ∃ D, errZ (l.map Itm.z) = D := ⟨_, rfl⟩
  have hC0 := rset_any l A cap w h.len h.items
  rw [hD] at hC0
  rw [hE, hR]
  have hC : Hid _ := hC0
  have hEQ : Hid (E = if D = 0 then (if fitB (l.map Itm.z) = true then (if (colsB cs (widB (l.map Itm.z)) && inB most 0 400) = true then 0 else 1) else 5) else D) := by show _ = _; rw [← hE]; unfold rnkE; rw [hD]
  have hRQ : Hid (R = if E = 0 then (rowsB cs (l.map Itm.z)).take most.toNat else []) := by show _ = _; rw [← hR, ← hE]; rfl
  have hH : Hid (Lv w A cap l ∧ RowI w CA cs ∧ errZ (l.map Itm.z) = D) := ⟨h, hc, hD⟩
  have hnil : Hid (¬ E = 0 → ([] : List Itm).map Itm.r = R) := fun h0 => by rw [hRQ.out, if_neg h0]; rfl
  have hrn : Hid (∀ W, RwR W none []) := fun W => ⟨Or.inl rfl, fun x hx => by cases hx⟩
  unfold maxLen at hcl
  clear hC0 h hc hE hR hD
  go_enter Tryd.func5, Tryd.ntmps5
  go_wp2_with fail
  refine Calls.mono (show Calls _ _ _ _ _ from hC.out) ?_
  rintro e w1 ⟨rfl, hg1⟩
  have hg1H : Hid (Gr w w1) := hg1
  clear hC hg1
  by_cases hD0 : D = 0
  rotate_left
  focus
    have hDb : (D != 0) = true := by simpa using hD0
    have hfin : Hid (D = E ∧ ¬ E = 0) := by
      have : E = D := by rw [hEQ.out, if_neg hD0]
      exact ⟨this.symm, by rw [this]; exact hD0⟩
    clear hD0
    go_wp2
    go_ret2
    first | exact ⟨[], none, 0, by rw [hfin.out.1]; rfl, hrn.out _, hnil.out hfin.out.2, hg1H.out.below⟩ | exact ⟨[], none, ⟨0, by rw [hfin.out.1]; rfl⟩, hrn.out _, hnil.out hfin.out.2, hg1H.out.below⟩
  have hDb : (D != 0) = false := by simpa using hD0
  have hez : Hid (errZ (l.map Itm.z) = 0) := hH.out.2.2.trans hD0
  have hl4 : l.length ≤ 400 := by have := ((errZ_iff _).1 hez.out).1; simpa using this
  have hE2 : Hid (E = if fitB (l.map Itm.z) = true then (if (colsB cs (widB (l.map Itm.z)) && inB most 0 400) = true then 0 else 1) else 5) := by show _ = _; rw [hEQ.out, if_pos hD0]
  have hwide : Hid (∀ x ∈ l, x.r.length ≤ 8) := fun x hx => errZ_wide hez.out x.z (List.mem_map.2 ⟨x, hx, rfl⟩)
  clear hD0 hEQ
  go_wp2
  go_loopw [9, 10] (fun wd i wr => ∃ (k : Nat) (d : Nat), k ≤ l.length ∧ i = .int .i64 k ∧ wd = .int .i64 d ∧ d ≤ 8 ∧ Hid ((k = 0 → d = 8) ∧ (∀ h : 0 < k ∧ 0 < l.length, d = (l[0]'h.2).r.length) ∧ (∀ j (h : j < l.length), j < k → fitI l[j] ((l[0]'(by omega)).r.length) = true) ∧ Gr w wr)) (fun _ i _ => l.length - (intOf i).toNat)
  case atStart => exact ⟨0, 8, Nat.zero_le _, rfl, rfl, Nat.le_refl _, fun _ => rfl, fun h => absurd h.1 (by omega), fun j _ h => by omega, hg1H.out⟩
  case round =>
    rename World => wr0
    obtain ⟨k, d, hk, rfl, rfl, hd8, hL⟩ := hrel
    by_cases hlt : k < l.length
    · have hltz : (k : Int) < (l.length : Int) := by omega
      have hlz : (0 : Int) < (l.length : Int) := by omega
      obtain ⟨b, off, rfl, hb, hcs⟩ := (hH.out.1.items.gr hL.out.2.2.2).at hlt
      obtain ⟨x, hx⟩ : ∃ x, l[k] = x := ⟨_, rfl⟩
      obtain ⟨y, hy⟩ : ∃ y, l[0]'(by omega) = y := ⟨_, rfl⟩
      obtain ⟨e0, e1⟩ := hcs k hlt
      have f0' := (hcs 0 (by omega)).1
      rw [hx] at e0 e1
      rw [hy] at f0'
      have f0 : wr0.cell? ⟨b, off, none⟩ = some (.slice y.p y.r.length y.c) := by simpa using f0'
      have hxyH : Hid (l[k] = x ∧ l[0]'(by omega) = y ∧ Gr w wr0) := ⟨hx, hy, hL.out.2.2.2⟩
      have hy8 : y.r.length ≤ 8 := hwide.out y (by rw [← hy]; exact List.getElem_mem _)
      obtain ⟨ny, hny⟩ : ∃ n, y.r.length = n := ⟨_, rfl⟩
      obtain ⟨nx, hnx⟩ : ∃ n, x.r.length = n := ⟨_, rfl⟩
      have hnn : Hid (x.r.length = nx ∧ y.r.length = ny) := ⟨hnx, hny⟩
      rw [hny] at f0 hy8
      rw [hnx] at e0
      have hno : Hid (fitI x y.r.length = false → E = 5 ∧ ¬ E = 0) := fun hf => by
        have := fitB_no hlt hxyH.out.2.1 (by rw [hxyH.out.1]; exact hf)
        have e : E = 5 := by rw [hE2.out, this]; rfl
        exact ⟨e, by rw [e]; decide⟩
      have hok : Hid (fitI x y.r.length = true → (∀ j (h : j < l.length), j < k + 1 → fitI l[j] ((l[0]'(by omega)).r.length) = true)) := fun hf j hj hjk => by
        by_cases e : j = k
        · subst e; rw [hxyH.out.1, hxyH.out.2.1]; exact hf
        · exact hL.out.2.2.1 j hj (by omega)
      have hd0 : 0 < k → d = ny := fun h0 => by
        have := hL.out.2.1 ⟨h0, by omega⟩
        rw [this, ← hny]
        exact congrArg (fun z : Itm => z.r.length) hy
      obtain ⟨B, hB⟩ : ∃ B, inB x.n 0 400 = B := ⟨_, rfl⟩
      have hIn : Hid (∀ W, Calls Tryd.prog 18 #[.int .i64 x.n, .int .i64 0, .int .i64 400] W fun e w' => e = .returned (.bool B) ∧ w' = W) := fun W => inR_any hB W
      have hBH : Hid (inB x.n 0 400 = B) := hB
      clear hcs hx hy f0' hny hnx hB
      by_cases hk0 : k = 0
      · subst hk0
        have e0' : wr0.cell? ⟨b, off, none⟩ = some (.slice x.p nx x.c) := by simpa using e0
        have e1' : wr0.cell? ⟨b, off + 1, none⟩ = some (.int .i64 x.n) := by simpa using e1
        have hxy : nx = ny := by rw [← hnn.out.1, ← hnn.out.2, ← hxyH.out.1, ← hxyH.out.2.1]
        subst hxy
        clear e0 e1 hd0
        have e3 : Value.slice x.p nx x.c = Value.slice y.p nx y.c := by rw [e0'] at f0; exact Option.some.inj f0
        cases B
        · have hfin : Hid (E = 5 ∧ ¬ E = 0) := hno.out (by
            have := hBH.out
            unfold inB at this
            unfold fitI
            rw [this]; rfl)
          clear f0 e3
          go_wp2_with (go_at_call 18; refine Calls.mono (hIn.out _) ?_; rintro e w2 ⟨rfl, hw2⟩; subst w2)
          go_ret2
          first | exact ⟨[], none, 0, by rw [hfin.out.1]; rfl, hrn.out _, hnil.out hfin.out.2, hxyH.out.2.2.below⟩ | exact ⟨[], none, ⟨0, by rw [hfin.out.1]; rfl⟩, hrn.out _, hnil.out hfin.out.2, hxyH.out.2.2.below⟩
        · have hft := hok.out (by
            have := hBH.out
            unfold inB at this
            unfold fitI
            rw [this, hnn.out.1, hnn.out.2]; simp)
          have hftH : Hid ((∀ j (h : j < l.length), j < 0 + 1 → fitI l[j] ((l[0]'(by omega)).r.length) = true) ∧ (∀ h : 0 < l.length, nx = (l[0]'h).r.length)) := ⟨hft, fun h => by rw [hxyH.out.2.1, hnn.out.2]⟩
          clear hft f0 e3
          go_wp2_with (go_at_call 18; refine Calls.mono (hIn.out _) ?_; rintro e w2 ⟨rfl, hw2⟩; subst w2)
          go_roundw
          case rel => exact ⟨1, nx, by omega, by go_num, rfl, hy8, fun h => by omega, fun h => hftH.out.2 h.2, hftH.out.1, hxyH.out.2.2⟩
          case measure => simp [intOf]; omega
      · obtain rfl : d = ny := hd0 (by omega)
        clear hd0
        have hk0b : ((k : Int) == 0) = false := by simpa using hk0
        have hk0z : ¬ (k : Int) = 0 := by omega
        by_cases hxy : nx = d
        · subst hxy
          cases B
          · have hfin : Hid (E = 5 ∧ ¬ E = 0) := hno.out (by
              have := hBH.out
              unfold inB at this
              unfold fitI
              rw [this]; rfl)
            go_wp2_with (go_at_call 18; refine Calls.mono (hIn.out _) ?_; rintro e w2 ⟨rfl, hw2⟩; subst w2)
            go_ret2
            first | exact ⟨[], none, 0, by rw [hfin.out.1]; rfl, hrn.out _, hnil.out hfin.out.2, hxyH.out.2.2.below⟩ | exact ⟨[], none, ⟨0, by rw [hfin.out.1]; rfl⟩, hrn.out _, hnil.out hfin.out.2, hxyH.out.2.2.below⟩
          · have hft := hok.out (by
              have := hBH.out
              unfold inB at this
              unfold fitI
              rw [this, hnn.out.1, hnn.out.2]; simp)
            have hftH : Hid ((∀ j (h : j < l.length), j < k + 1 → fitI l[j] ((l[0]'(by omega)).r.length) = true) ∧ (∀ h : 0 < l.length, nx = (l[0]'h).r.length)) := ⟨hft, fun h => by rw [hxyH.out.2.1, hnn.out.2]⟩
            clear hft
            go_wp2_with (go_at_call 18; refine Calls.mono (hIn.out _) ?_; rintro e w2 ⟨rfl, hw2⟩; subst w2)
            go_roundw
            case rel => exact ⟨k + 1, nx, by omega, by go_num, rfl, hy8, fun h => by omega, fun h => hftH.out.2 h.2, hftH.out.1, hxyH.out.2.2⟩
            case measure => simp [intOf]; omega
        · have hxyz : ¬ (nx : Int) = (d : Int) := by omega
          have hxyb : ((nx : Int) != (d : Int)) = true := by simpa using hxyz
          have hfin : Hid (E = 5 ∧ ¬ E = 0) := hno.out (by unfold fitI; rw [hnn.out.1, hnn.out.2, decide_eq_false hxy]; simp)
          go_wp2
          go_ret2
          first | exact ⟨[], none, 0, by rw [hfin.out.1]; rfl, hrn.out _, hnil.out hfin.out.2, hxyH.out.2.2.below⟩ | exact ⟨[], none, ⟨0, by rw [hfin.out.1]; rfl⟩, hrn.out _, hnil.out hfin.out.2, hxyH.out.2.2.below⟩
    · have hltz : ¬ (k : Int) < (l.length : Int) := by omega
      obtain rfl : k = l.length := by omega
      have hfit : Hid (fitB (l.map Itm.z) = true) := fitB_yes fun j hj => hL.out.2.2.1 j hj hj
      have hwd : Hid (widB (l.map Itm.z) = (d : Int)) := by
        show _ = _
        cases l with
        | nil =>
          have := hL.out.1 rfl
          rw [this]; rfl
        | cons x t =>
          have := hL.out.2.1 ⟨by simp, by simp⟩
          rw [this]
          exact widN_cons x t
      have hgr : Hid (Gr w wr0) := hL.out.2.2.2
      have hE3 : Hid (E = if (colsB cs (d : Int) && inB most 0 400) = true then 0 else 1) := by show _ = _; rw [hE2.out, if_pos hfit.out, hwd.out]
      clear hL
      obtain ⟨B, hB⟩ : ∃ B, inB most 0 400 = B := ⟨_, rfl⟩
      have hIn : Hid (∀ W, Calls Tryd.prog 18 #[.int .i64 most, .int .i64 0, .int .i64 400] W fun e w' => e = .returned (.bool B) ∧ w' = W) := fun W => inR_any hB W
      have hBH : Hid (inB most 0 400 = B) := hB
      clear hB
      have hbad : Hid ((colsB cs (d : Int) && inB most 0 400) = false → E = 1 ∧ ¬ E = 0) := fun hf => by
        have e : E = 1 := by rw [hE3.out, hf]; rfl
        exact ⟨e, by rw [e]; decide⟩
      by_cases h8 : 8 < cs.length
      · have h8z : (8 : Int) < (cs.length : Int) := by omega
        have hfin : Hid (E = 1 ∧ ¬ E = 0) := hbad.out (by rw [colsB_long h8]; rfl)
        go_wp2
        go_ret2
        first | exact ⟨[], none, 0, by rw [hfin.out.1]; rfl, hrn.out _, hnil.out hfin.out.2, hgr.out.below⟩ | exact ⟨[], none, ⟨0, by rw [hfin.out.1]; rfl⟩, hrn.out _, hnil.out hfin.out.2, hgr.out.below⟩
      have h8z : ¬ (8 : Int) < (cs.length : Int) := by omega
      cases B
      · have hfin : Hid (E = 1 ∧ ¬ E = 0) := hbad.out (by rw [hBH.out]; simp)
        go_wp2_with (go_at_call 18; refine Calls.mono (hIn.out _) ?_; rintro e w2 ⟨rfl, hw2⟩; subst w2)
        go_ret2
        first | exact ⟨[], none, 0, by rw [hfin.out.1]; rfl, hrn.out _, hnil.out hfin.out.2, hgr.out.below⟩ | exact ⟨[], none, ⟨0, by rw [hfin.out.1]; rfl⟩, hrn.out _, hnil.out hfin.out.2, hgr.out.below⟩
      go_wp2_with (go_at_call 18; refine Calls.mono (hIn.out _) ?_; rintro e w2 ⟨rfl, hw2⟩; subst w2)
      clear hIn
      go_loopw [11] (fun i wr => ∃ k : Nat, k ≤ cs.length ∧ i = .int .i64 k ∧ Hid ((∀ j (h : j < cs.length), j < k → colOk cs[j] (d : Int) = true) ∧ Gr w wr)) (fun i _ => cs.length - (intOf i).toNat)
      case atStart => exact ⟨0, Nat.zero_le _, rfl, fun j _ h => by omega, hgr.out⟩
      case round =>
        rename World => wr1
        obtain ⟨k, hk1, rfl, hL1⟩ := hrel
        by_cases hlt1 : k < cs.length
        · have hltz1 : (k : Int) < (cs.length : Int) := by omega
          obtain ⟨b, off, rfl, hb, hcs⟩ := (hH.out.2.1.gr hL1.out.2).at hlt1
          have e0 := hcs k hlt1 0 (by omega)
          obtain ⟨n, hn⟩ : ∃ n, cs[k] = n := ⟨_, rfl⟩
          rw [hn] at e0
          have e1 : wr1.cell? ⟨b, off + k, none⟩ = some (.int .i64 n) := by simpa [encI] using e0
          have hnH : Hid (cs[k] = n) := hn
          obtain ⟨B2, hB2⟩ : ∃ B, inB n (-(d : Int)) (d : Int) = B := ⟨_, rfl⟩
          have hIn : Hid (∀ W, Calls Tryd.prog 18 #[.int .i64 n, .int .i64 (-(d : Int)), .int .i64 (d : Int)] W fun e w' => e = .returned (.bool B2) ∧ w' = W) := fun W => inR_any hB2 W
          have hB2H : Hid (inB n (-(d : Int)) (d : Int) = B2) := hB2
          have hneg : IntKind.i64.wrap (-(d : Int)) = -(d : Int) := by rw [IntKind.wrap_i64]; omega
          have hcok : Hid (colOk n (d : Int) = (decide (n ≠ 0) && B2)) := by show _ = _; rw [← hB2]; unfold colOk inB; rw [Bool.and_assoc]
          clear hcs e0 hn hB2
          by_cases hn0 : n = 0
          · subst hn0
            have hfin : Hid (E = 1 ∧ ¬ E = 0) := hbad.out (by rw [colsB_no hlt1 (by rw [hnH.out, hcok.out]; rfl)]; rfl)
            go_wp2
            go_ret2
            first | exact ⟨[], none, 0, by rw [hfin.out.1]; rfl, hrn.out _, hnil.out hfin.out.2, hL1.out.2.below⟩ | exact ⟨[], none, ⟨0, by rw [hfin.out.1]; rfl⟩, hrn.out _, hnil.out hfin.out.2, hL1.out.2.below⟩
          · have hn0b : (n == 0) = false := by simpa using hn0
            cases B2
            · have hfin : Hid (E = 1 ∧ ¬ E = 0) := hbad.out (by rw [colsB_no hlt1 (by rw [hnH.out, hcok.out]; simp)]; rfl)
              go_wp2_with (go_at_call 18; refine Calls.mono (hIn.out _) ?_; rintro e w2 ⟨rfl, hw2⟩; subst w2)
              go_ret2
              first | exact ⟨[], none, 0, by rw [hfin.out.1]; rfl, hrn.out _, hnil.out hfin.out.2, hL1.out.2.below⟩ | exact ⟨[], none, ⟨0, by rw [hfin.out.1]; rfl⟩, hrn.out _, hnil.out hfin.out.2, hL1.out.2.below⟩
            · have hok : Hid (∀ j (h : j < cs.length), j < k + 1 → colOk cs[j] (d : Int) = true) := fun j hj hjk => by
                by_cases e : j = k
                · subst e; rw [hnH.out, hcok.out]; simp [hn0]
                · exact hL1.out.1 j hj (by omega)
              have hg1 : Hid (Gr w wr1) := hL1.out.2
              clear hL1
              go_wp2_with (go_at_call 18; refine Calls.mono (hIn.out _) ?_; rintro e w2 ⟨rfl, hw2⟩; subst w2)
              go_roundw
              case rel => exact ⟨k + 1, by omega, by go_num, hok.out, hg1.out⟩
              case measure => simp [intOf]; omega
        · have hltz1 : ¬ (k : Int) < (cs.length : Int) := by omega
          obtain rfl : k = cs.length := by omega
          have hcols : Hid (colsB cs (d : Int) = true) := colsB_yes h8 fun j hj => hL1.out.1 j hj hj
          have hE0 : Hid (E = 0) := by show _ = _; rw [hE3.out, hcols.out, hBH.out]; rfl
          have hgr1 : Hid (Gr w wr1) := hL1.out.2
          have hm : 0 ≤ most ∧ most ≤ 400 := by have := hBH.out; simp only [inB, Bool.and_eq_true, decide_eq_true_eq] at this; exact this
          obtain ⟨mn, hmn⟩ : ∃ mn : Nat, most = (mn : Int) := ⟨most.toNat, by omega⟩
          subst hmn
          have hcin : Hid (∀ n ∈ cs, ∀ x ∈ l, n ≠ 0 ∧ -1000 ≤ n ∧ n ≤ 1000 ∧ colB n < x.r.length) := fun n hn x hx => by
            have h5 := cols_in hfit.out (by rw [hwd.out]; exact hcols.out) n hn x.z (List.mem_map.2 ⟨x, hx, rfl⟩)
            have h6 : x.z.1.length ≤ 8 := hwide.out x hx
            exact ⟨h5.1, by omega, by omega, h5.2.2.2⟩
          have hnb : Hid (∀ x ∈ l, 0 ≤ x.n ∧ x.n ≤ 400) := fun x hx => by
            have := fitB_parts hfit.out x.z (List.mem_map.2 ⟨x, hx, rfl⟩)
            exact ⟨this.1, this.2.1⟩
          clear hL1 hbad hE3 hE2
          go_wp2
          go_loopw [12, 13] (fun v i wr => ∃ (k : Nat) (L : List Itm), k ≤ l.length ∧ i = .int .i64 k ∧ Hid (RInv w wr v L cs ((l.take k).map Itm.z))) (fun _ i _ => l.length - (intOf i).toNat)
          case atStart => exact ⟨0, [], Nat.zero_le _, rfl, show RInv _ _ _ _ _ _ from ⟨OwnR.nil _ _, by simp [expL], List.Pairwise.nil, hgr1.out.below⟩⟩
          case round =>
            rename World => wr2
            obtain ⟨k, L, hk3, rfl, hR2⟩ := hrel
            have hLl : Hid (L.length ≤ 160000) := by
              have h1 := hR2.out.perm.length_eq
              rw [List.length_map] at h1
              have h2 := expL_small (l := (l.take k).map Itm.z) (by simp; omega) (fun x hx => by
                obtain ⟨y, hy, rfl⟩ := List.mem_map.1 hx
                exact (hnb.out y (List.mem_of_mem_take hy)).2)
              show _ ≤ _
              omega
            by_cases hlt3 : k < l.length
            · have hltz3 : (k : Int) < (l.length : Int) := by omega
              obtain ⟨x, hx⟩ : ∃ x, l[k] = x := ⟨_, rfl⟩
              have hxm : x ∈ l := by rw [← hx]; exact List.getElem_mem hlt3
              have hxH : Hid (l[k] = x) := hx
              have hxn := hnb.out x hxm
              obtain ⟨b, off, hAe, hb, hcs⟩ := hH.out.1.items.at hlt3
              have hcell : Hid (∀ W, Below w.heap.size w W → W.cell? ⟨b, off + k * 2, none⟩ = some (.slice x.p x.r.length x.c) ∧ W.cell? ⟨b, off + k * 2 + 1, none⟩ = some (.int .i64 x.n)) := fun W hW => by
                have := hcs k hlt3
                rw [hx] at this
                exact ⟨(hW.cell (p := ⟨b, off + k * 2, none⟩) hb).trans this.1, (hW.cell (p := ⟨b, off + k * 2 + 1, none⟩) hb).trans this.2⟩
              have hxw : Hid (RowI w x.p x.r ∧ (x.p = none → x.c = 0) ∧ x.r.length ≤ 8) := ⟨(hH.out.1.items.each x hxm).1, (hH.out.1.items.each x hxm).2.2, hwide.out x hxm⟩
              obtain ⟨v0, cv, hv12, hnc, hrd⟩ := hR2.out.own.read
              have hrdH : Hid (RwR wr2 v0 L) := hrd
              have hcx : Hid (∀ n ∈ cs, ∀ y ∈ L, n ≠ 0 ∧ -1000 ≤ n ∧ n ≤ 1000 ∧ colB n < x.r.length ∧ colB n < y.r.length) := fun n hn y hy => by
                have h1 := hcin.out n hn x hxm
                obtain ⟨z, hz, e, _⟩ := mem_expL (hR2.out.perm.mem_iff.1 (List.mem_map.2 ⟨y, hy, rfl⟩))
                obtain ⟨u, hu, rfl⟩ := List.mem_map.1 hz
                have h2 := hcin.out n hn u (List.mem_of_mem_take hu)
                exact ⟨h1.1, h1.2.1, h1.2.2.1, h1.2.2.2, by rw [← e]; exact h2.2.2.2⟩
              subst hv12 hAe
              clear hx hxm hcs hnc hrd
              go_wp2
              go_loopw [14] (fun u wr => ∃ a : Nat, a ≤ L.length ∧ u = .int .i64 a ∧ Hid ((∀ j (h : j < L.length), j < a → 0 ≤ cmpB cs x.r L[j].r) ∧ Gr wr2 wr)) (fun u _ => L.length - (intOf u).toNat)
              case atStart => exact ⟨0, Nat.zero_le _, rfl, fun j _ h => by omega, Gr.refl _⟩
              case round =>
                rename World => wr4
                obtain ⟨a, ha, rfl, hL4⟩ := hrel
                have hb4 : Hid (Below w.heap.size w wr4) := hR2.out.bel.trans (hL4.out.2.below.mono hR2.out.bel.size)
                obtain ⟨e4, e5⟩ := hcell.out wr4 hb4.out
                have hbw4 : b < wr4.heap.size := Nat.lt_of_lt_of_le hb hb4.out.size
                have g0 := (Gr.refl wr4).cellG (a := ⟨b, off + k * 2, none⟩) hbw4 e4
                have hL2 := hLl.out
                by_cases hal : a < L.length
                · have halz : (a : Int) < (L.length : Int) := by omega
                  obtain ⟨y, hy⟩ : ∃ y, L[a] = y := ⟨_, rfl⟩
                  obtain ⟨yb, yo, hv0, hyb, f0⟩ := (hrdH.out.gr hL4.out.2).at hal hy
                  have hym : y ∈ L := by rw [← hy]; exact List.getElem_mem hal
                  have g1 := (Gr.refl wr4).cellG (a := ⟨yb, yo + a, none⟩) hyb f0
                  have hye := hrdH.out.each y hym
                  obtain ⟨B3, hB3⟩ : ∃ B, ahdB cs x.r y.r = B := ⟨_, rfl⟩
                  have hAh : Hid (∀ n os, Calls Tryd.prog 19 #[.slice x.p x.r.length x.c, .slice y.p y.r.length y.c, .slice CA cs.length cc] (grow (wr4.drewN n) os) fun e w' => e = .returned (.bool B3) ∧ ∃ q os', w' = grow ((grow (wr4.drewN n) os).drewN q) os') := fun n os => by
                    rw [← hB3]
                    have hgz : Gr wr4 (grow (wr4.drewN n) os) := ⟨n, os, rfl⟩
                    exact ahead_any x.r y.r cs x.p y.p CA x.c y.c cc _ (by have := hxw.out.2.2; unfold maxLen; omega) (by omega) (fun n hn => hcx.out n hn y hym) ((hxw.out.1.below hb4.out).gr hgz) ((hye.1.gr hL4.out.2).gr hgz) ((hH.out.2.1.below hb4.out).gr hgz)
                  have hyH : Hid (L[a] = y ∧ ahdB cs x.r y.r = B3) := ⟨hy, hB3⟩
                  subst hv0
                  clear hy hym hye hB3 f0 e4 e5
                  cases B3
                  · have hlo : Hid (∀ j (h : j < L.length), j < a + 1 → 0 ≤ cmpB cs x.r L[j].r) := fun j hj hja => by
                      by_cases e : j = a
                      · subst e
                        rw [hyH.out.1]
                        have h5 := of_decide_eq_false hyH.out.2
                        omega
                      · exact hL4.out.1 j hj (by omega)
                    have hg4 : Hid (Gr wr2 wr4) := hL4.out.2
                    clear hL4
                    go_wp2_with fail
                    refine wp_region_quiet_grown mixed (by kernel_rfl) ?_
                    repeat (go_big_quiet_step (first | (go_at_call 19; refine Calls.grown_of (hAh.out _ _)) | fail))
                    refine wpQuiet_nil ?_
                    rintro _ ⟨⟨nq2, osq2⟩, rfl⟩
                    have hg5 : Hid (Gr wr2 (grow (wr4.drewN nq2) osq2)) := hg4.out.trans ⟨nq2, osq2, rfl⟩
                    go_wp2
                    go_roundw
                    case rel => exact ⟨a + 1, by omega, by go_num, hlo.out, hg5.out⟩
                    case measure => simp [intOf]; omega
                  · have hlo : Hid (∀ j (h : j < L.length), j < a → 0 ≤ cmpB cs x.r L[j].r) := hL4.out.1
                    have hup : Hid (∀ h : a < L.length, cmpB cs x.r L[a].r < 0) := fun h => by rw [hyH.out.1]; exact of_decide_eq_true hyH.out.2
                    have hg4 : Hid (Gr wr2 wr4) := hL4.out.2
                    clear hL4
                    go_wp2_with fail
                    refine wp_region_quiet_grown mixed (by kernel_rfl) ?_
                    repeat (go_big_quiet_step (first | (go_at_call 19; refine Calls.grown_of (hAh.out _ _)) | fail))
                    refine wpQuiet_nil ?_
                    rintro _ ⟨⟨nq2, osq2⟩, rfl⟩
                    have hg5 : Hid (Gr wr2 (grow (wr4.drewN nq2) osq2)) := hg4.out.trans ⟨nq2, osq2, rfl⟩
                    clear g0 g1 hAh hg4 hb4 hyb hbw4
                    generalize (grow (wr4.drewN nq2) osq2) = W5 at *
                    have hRl : Hid (a ≤ (L.map Itm.r).length ∧ (∀ j (h : j < (L.map Itm.r).length), j < a → 0 ≤ cmpB cs x.r (L.map Itm.r)[j]) ∧ (∀ h : a < (L.map Itm.r).length, cmpB cs x.r (L.map Itm.r)[a] < 0)) := ⟨by simp; omega, fun j hj hja => by rw [List.getElem_map]; exact hlo.out j (by simpa using hj) hja, fun hj => by rw [List.getElem_map]; exact hup.out (by simpa using hj)⟩
                    have hst5 : Hid (OwnR W5 w.heap.size (.slice (some ⟨yb, yo, none⟩) L.length cv) L ∧ Below w.heap.size w W5) := ⟨hR2.out.own.gr hg5.out, hR2.out.bel.trans (hg5.out.below.mono hR2.out.bel.size)⟩
                    clear hlo hup hg5
                    go_wp2
                    go_loopw [12, 15] (fun v m wr => ∃ (m' : Nat) (M : List Itm), (m' : Int) ≤ x.n ∧ m = .int .i64 m' ∧ Hid (OwnR wr w.heap.size v M ∧ M.map Itm.r = (L.map Itm.r).take a ++ (List.replicate m' x.r ++ (L.map Itm.r).drop a) ∧ Below w.heap.size w wr)) (fun _ m _ => x.n.toNat - (intOf m).toNat)
                    case atStart => exact ⟨0, L, hxn.1, rfl, hst5.out.1, by rw [List.replicate_zero, List.nil_append, List.take_append_drop], hst5.out.2⟩
                    case round =>
                      rename World => wr6
                      obtain ⟨m, M, hm5, rfl, hR6⟩ := hrel
                      obtain ⟨e6, e7⟩ := hcell.out wr6 hR6.out.2.2
                      by_cases hlt6 : (m : Int) < x.n
                      · have hMl : M.length ≤ 170000 := by
                          have := congrArg List.length hR6.out.2.1
                          simp only [List.length_map, List.length_append, List.length_take, List.length_replicate, List.length_drop] at this
                          have := hLl.out
                          omega
                        have hap : Hid (RowI wr6 x.p x.r ∧ (x.p = none → x.c = 0) ∧ ([] : List Int).length + x.r.length ≤ maxLen ∧ (([] : List Int).length + x.r.length) * 8 ≤ 140737488355328 ∧ w.heap.size ≤ wr6.heap.size) := ⟨hxw.out.1.below hR6.out.2.2, hxw.out.2.1, by have := hxw.out.2.2; unfold maxLen; simp; omega, by have := hxw.out.2.2; simp; omega, hR6.out.2.2.size⟩
                        obtain ⟨v1, cv1, hv1, _⟩ := OwnG.full encW_len hR6.out.1.own
                        subst hv1
                        go_wp2_with (at_builtin; refine wpList_append_i _ rfl (.const (.slice none 0 0)) (.tmp 122) rfl w.heap.size (.slice none 0 0) [] x.r x.p x.c rfl rfl (OwnG.nil _ _ _ _ _) hap.out.1 hap.out.2.1 hap.out.2.2.1 hap.out.2.2.2.1 hap.out.2.2.2.2 ?_)
                        intro v7 w7 hown7 hg7
                        have hb7 := below_none hg7
                        obtain ⟨C, c7, rfl, _⟩ := OwnG.full encI_len hown7
                        obtain ⟨W8, hW8⟩ : ∃ W8, (w7.alloc (.cells #[.slice C x.r.length c7] 23)) = W8 := ⟨_, rfl⟩
                        have hg8 : Gr w7 W8 := by rw [← hW8]; exact (Gr.refl _).alloc _
                        have hb68 := hb7.trans (hg8.below.mono hb7.size)
                        have hbw8 := hR6.out.2.2.trans (hb68.mono hR6.out.2.2.size)
                        have hX8 : Hid (OwnR W8 w.heap.size (.slice v1 M.length cv1) M ∧ OwnI W8 w.heap.size (.slice C x.r.length c7) x.r ∧ Below w.heap.size w W8) := ⟨hR6.out.1.below hb68, hown7.gr hg8, hbw8⟩
                        have hlt7 : ∀ b, (Value.slice v1 M.length cv1).ownBlock = some b → b < wr6.heap.size := fun b e => (World.ownsRow.lt hR6.out.1.own b e).2
                        have hI0 := ins_any M ⟨C, c7, x.r, 0⟩ (.slice v1 M.length cv1) a w7.heap.size w.heap.size W8 hX8.out.1.own (by
                          have h1 := congrArg List.length hR6.out.2.1
                          simp only [List.length_map, List.length_append, List.length_take, List.length_replicate, List.length_drop] at h1
                          have := hRl.out.1
                          simp at this
                          omega) (by omega) (by rw [← hW8]; exact heap_alloc_new w7 _) (fun e => by have := hlt7 _ e; have := hb7.size; omega) hbw8.size
                        have hI : Hid _ := hI0
                        clear hI0 hown7 hg7 hb7 hg8 hb68 hbw8 hap hlt7 e6 e7
                        go_wp2_with fail
                        clear hW8
                        refine Calls.mono (show Calls _ _ _ _ _ from hI.out) ?_
                        rintro e w9 ⟨v9, rfl, h1, h2⟩
                        have hfin : Hid (OwnR w9 w.heap.size v9 (insL M a ⟨C, c7, x.r, 0⟩) ∧ (insL M a ⟨C, c7, x.r, 0⟩).map Itm.r = (L.map Itm.r).take a ++ (List.replicate (m + 1) x.r ++ (L.map Itm.r).drop a) ∧ Below w.heap.size w w9) := ⟨hX8.out.1.ins hX8.out.2.1 h1 h2, insL_map rfl hRl.out.1 hR6.out.2.1, hX8.out.2.2.trans (hX8.out.1.own.grown_below h2 hX8.out.2.2.size)⟩
                        clear hI h1 h2
                        go_wp2
                        go_roundw
                        case rel => exact ⟨m + 1, insL M a ⟨C, c7, x.r, 0⟩, by omega, by go_num, hfin⟩
                        case measure => simp [intOf]; omega
                      · have hmx : (m : Int) = x.n := by omega
                        have hmt : x.n.toNat = m := by omega
                        have hfin : Hid (RInv w wr6 u12 M cs ((l.take (k + 1)).map Itm.z)) := by
                          have e : (l.take (k + 1)).map Itm.z = (l.take k).map Itm.z ++ [x.z] := by rw [List.take_succ_eq_append_getElem hlt3, List.map_append, hxH.out]; rfl
                          refine ⟨hR6.out.1, ?_, ?_, hR6.out.2.2⟩
                          · rw [e, hR6.out.2.1, ← hmt]
                            exact ins_perm (x := x.z) hR2.out.perm
                          · rw [hR6.out.2.1]
                            exact ins_sorted hR2.out.srt hRl.out.1 (fun j hj hja => by have := hRl.out.2.1 j hj hja; omega) hRl.out.2.2
                        clear hR6
                        go_wp2
                        go_roundw
                        case rel => exact ⟨k + 1, M, by omega, by go_num, hfin⟩
                        case measure => simp [intOf]; omega
                · have halz : ¬ (a : Int) < (L.length : Int) := by omega
                  have hald : decide ((a : Int) < (L.length : Int)) = false := decide_eq_false halz
                  have hlo : Hid (∀ j (h : j < L.length), j < a → 0 ≤ cmpB cs x.r L[j].r) := hL4.out.1
                  have hup : Hid (∀ h : a < L.length, cmpB cs x.r L[a].r < 0) := fun h => absurd h hal
                  have hg4 : Hid (Gr wr2 wr4) := hL4.out.2
                  clear hL4 e4 e5
                  go_wp2_with fail
                  refine wp_region_quiet_grown mixed (by kernel_rfl) ?_
                  repeat (go_big_quiet_step (fail))
                  refine wpQuiet_nil ?_
                  rintro _ ⟨⟨nq2, osq2⟩, rfl⟩
                  have hg5 : Hid (Gr wr2 (grow (wr4.drewN nq2) osq2)) := hg4.out.trans ⟨nq2, osq2, rfl⟩
                  clear g0 hg4 hb4 hbw4
                  generalize (grow (wr4.drewN nq2) osq2) = W5 at *
                  have hRl : Hid (a ≤ (L.map Itm.r).length ∧ (∀ j (h : j < (L.map Itm.r).length), j < a → 0 ≤ cmpB cs x.r (L.map Itm.r)[j]) ∧ (∀ h : a < (L.map Itm.r).length, cmpB cs x.r (L.map Itm.r)[a] < 0)) := ⟨by simp; omega, fun j hj hja => by rw [List.getElem_map]; exact hlo.out j (by simpa using hj) hja, fun hj => by rw [List.getElem_map]; exact hup.out (by simpa using hj)⟩
                  have hst5 : Hid (OwnR W5 w.heap.size (.slice v0 L.length cv) L ∧ Below w.heap.size w W5) := ⟨hR2.out.own.gr hg5.out, hR2.out.bel.trans (hg5.out.below.mono hR2.out.bel.size)⟩
                  clear hlo hup hg5
                  go_wp2
                  go_loopw [12, 15] (fun v m wr => ∃ (m' : Nat) (M : List Itm), (m' : Int) ≤ x.n ∧ m = .int .i64 m' ∧ Hid (OwnR wr w.heap.size v M ∧ M.map Itm.r = (L.map Itm.r).take a ++ (List.replicate m' x.r ++ (L.map Itm.r).drop a) ∧ Below w.heap.size w wr)) (fun _ m _ => x.n.toNat - (intOf m).toNat)
                  case atStart => exact ⟨0, L, hxn.1, rfl, hst5.out.1, by rw [List.replicate_zero, List.nil_append, List.take_append_drop], hst5.out.2⟩
                  case round =>
                    rename World => wr6
                    obtain ⟨m, M, hm5, rfl, hR6⟩ := hrel
                    obtain ⟨e6, e7⟩ := hcell.out wr6 hR6.out.2.2
                    by_cases hlt6 : (m : Int) < x.n
                    · have hMl : M.length ≤ 170000 := by
                        have := congrArg List.length hR6.out.2.1
                        simp only [List.length_map, List.length_append, List.length_take, List.length_replicate, List.length_drop] at this
                        have := hLl.out
                        omega
                      have hap : Hid (RowI wr6 x.p x.r ∧ (x.p = none → x.c = 0) ∧ ([] : List Int).length + x.r.length ≤ maxLen ∧ (([] : List Int).length + x.r.length) * 8 ≤ 140737488355328 ∧ w.heap.size ≤ wr6.heap.size) := ⟨hxw.out.1.below hR6.out.2.2, hxw.out.2.1, by have := hxw.out.2.2; unfold maxLen; simp; omega, by have := hxw.out.2.2; simp; omega, hR6.out.2.2.size⟩
                      obtain ⟨v1, cv1, hv1, _⟩ := OwnG.full encW_len hR6.out.1.own
                      subst hv1
                      go_wp2_with (at_builtin; refine wpList_append_i _ rfl (.const (.slice none 0 0)) (.tmp 122) rfl w.heap.size (.slice none 0 0) [] x.r x.p x.c rfl rfl (OwnG.nil _ _ _ _ _) hap.out.1 hap.out.2.1 hap.out.2.2.1 hap.out.2.2.2.1 hap.out.2.2.2.2 ?_)
                      intro v7 w7 hown7 hg7
                      have hb7 := below_none hg7
                      obtain ⟨C, c7, rfl, _⟩ := OwnG.full encI_len hown7
                      obtain ⟨W8, hW8⟩ : ∃ W8, (w7.alloc (.cells #[.slice C x.r.length c7] 23)) = W8 := ⟨_, rfl⟩
                      have hg8 : Gr w7 W8 := by rw [← hW8]; exact (Gr.refl _).alloc _
                      have hb68 := hb7.trans (hg8.below.mono hb7.size)
                      have hbw8 := hR6.out.2.2.trans (hb68.mono hR6.out.2.2.size)
                      have hX8 : Hid (OwnR W8 w.heap.size (.slice v1 M.length cv1) M ∧ OwnI W8 w.heap.size (.slice C x.r.length c7) x.r ∧ Below w.heap.size w W8) := ⟨hR6.out.1.below hb68, hown7.gr hg8, hbw8⟩
                      have hlt7 : ∀ b, (Value.slice v1 M.length cv1).ownBlock = some b → b < wr6.heap.size := fun b e => (World.ownsRow.lt hR6.out.1.own b e).2
                      have hI0 := ins_any M ⟨C, c7, x.r, 0⟩ (.slice v1 M.length cv1) a w7.heap.size w.heap.size W8 hX8.out.1.own (by
                        have h1 := congrArg List.length hR6.out.2.1
                        simp only [List.length_map, List.length_append, List.length_take, List.length_replicate, List.length_drop] at h1
                        have := hRl.out.1
                        simp at this
                        omega) (by omega) (by rw [← hW8]; exact heap_alloc_new w7 _) (fun e => by have := hlt7 _ e; have := hb7.size; omega) hbw8.size
                      have hI : Hid _ := hI0
                      clear hI0 hown7 hg7 hb7 hg8 hb68 hbw8 hap hlt7 e6 e7
                      go_wp2_with fail
                      clear hW8
                      refine Calls.mono (show Calls _ _ _ _ _ from hI.out) ?_
                      rintro e w9 ⟨v9, rfl, h1, h2⟩
                      have hfin : Hid (OwnR w9 w.heap.size v9 (insL M a ⟨C, c7, x.r, 0⟩) ∧ (insL M a ⟨C, c7, x.r, 0⟩).map Itm.r = (L.map Itm.r).take a ++ (List.replicate (m + 1) x.r ++ (L.map Itm.r).drop a) ∧ Below w.heap.size w w9) := ⟨hX8.out.1.ins hX8.out.2.1 h1 h2, insL_map rfl hRl.out.1 hR6.out.2.1, hX8.out.2.2.trans (hX8.out.1.own.grown_below h2 hX8.out.2.2.size)⟩
                      clear hI h1 h2
                      go_wp2
                      go_roundw
                      case rel => exact ⟨m + 1, insL M a ⟨C, c7, x.r, 0⟩, by omega, by go_num, hfin⟩
                      case measure => simp [intOf]; omega
                    · have hmx : (m : Int) = x.n := by omega
                      have hmt : x.n.toNat = m := by omega
                      have hfin : Hid (RInv w wr6 u12 M cs ((l.take (k + 1)).map Itm.z)) := by
                        have e : (l.take (k + 1)).map Itm.z = (l.take k).map Itm.z ++ [x.z] := by rw [List.take_succ_eq_append_getElem hlt3, List.map_append, hxH.out]; rfl
                        refine ⟨hR6.out.1, ?_, ?_, hR6.out.2.2⟩
                        · rw [e, hR6.out.2.1, ← hmt]
                          exact ins_perm (x := x.z) hR2.out.perm
                        · rw [hR6.out.2.1]
                          exact ins_sorted hR2.out.srt hRl.out.1 (fun j hj hja => by have := hRl.out.2.1 j hj hja; omega) hRl.out.2.2
                      clear hR6
                      go_wp2
                      go_roundw
                      case rel => exact ⟨k + 1, M, by omega, by go_num, hfin⟩
                      case measure => simp [intOf]; omega
            · have hltz3 : ¬ (k : Int) < (l.length : Int) := by omega
              have hke : l.take k = l := List.take_of_length_le (by omega)
              rw [hke] at hR2
              have hrows : Hid (L.map Itm.r = rowsB cs (l.map Itm.z)) := rowsB_is hR2.out.perm hR2.out.srt
              obtain ⟨v0, cv, hv12, hnc, hrd⟩ := hR2.out.own.read
              have hcv := hnc.cap
              have hmin : min (mn : Int) (L.length : Int) = ((min mn L.length : Nat) : Int) := by omega
              have hlen : Hid ((L.take (min mn L.length)).length = min mn L.length) := by show _ = _; rw [List.length_take]; omega
              have hfin : Hid (RwR wr2 v0 (L.take (min mn L.length)) ∧ (L.take (min mn L.length)).map Itm.r = R ∧ Below w.heap.size w wr2) := by
                refine ⟨hrd.take _, ?_, hR2.out.bel⟩
                rw [hRQ.out, if_pos hE0.out, List.map_take, hrows.out]
                have e1 : L.length = (rowsB cs (l.map Itm.z)).length := by rw [← hrows.out, List.length_map]
                rw [e1]
                have := List.take_eq_take_iff (l := rowsB cs (l.map Itm.z)) (i := min mn (rowsB cs (l.map Itm.z)).length) (j := mn)
                show _ = (rowsB cs (l.map Itm.z)).take (Int.toNat (mn : Int))
                rw [Int.toNat_natCast, this]
                omega
              obtain ⟨mm, hmm⟩ : ∃ mm, min mn L.length = mm := ⟨_, rfl⟩
              rw [hmm] at hmin hlen hfin
              have hmc : mm ≤ cv := by omega
              have hmcz : (mm : Int) ≤ (cv : Int) := by omega
              subst hv12
              clear hR2 hrd hnc hmm
              go_wp2
              go_ret2
              exact ⟨L.take mm, v0, ⟨cv, by rw [hlen.out, hE0.out]; rfl⟩, hfin.out⟩
end Go.Proofs.YteobmedkngdnkaaDoor
