/-
  viewref.Decoded's two closures: the next number, and how many there are.
-/
import Derived.Test.YtbhhpijidbhipaaWDec
import Derived.Test.YtbhhpijidbhipaaRTable
import Derived.Deep.RegionHeld
namespace Go.Proofs.Ytbhhpijidbhipaa
open Go.RowKit Go.Sort

theorem setCell_id {w : World} {b j : Nat} {v : Value} (h : w.cell? ⟨b, j, none⟩ = some v) : w.setCell ⟨b, j, none⟩ v = w := by
  unfold World.setCell
  congr 1
  apply Array.ext
  · simp
  · intro i h1 h2
    rw [Array.getElem_modify]
    split
    · rename_i hb
      have hb : b = i := hb
      subst hb
      unfold World.cell? at h
      rw [Array.getElem?_eq_getElem h2] at h
      revert h
      cases w.heap[b] with
      | cells c e f =>
        intro h
        have h : c[j]? = some v := by simpa using h
        simp
        apply Array.ext
        · simp
        · intro i g1 g2
          rw [Array.getElem_setIfInBounds]
          split
          · rename_i e
            subst e
            rw [Array.getElem?_eq_getElem g2] at h
            exact (Option.some.inj h).symm
          · rfl
      | _ => intro _; rfl
    · rfl

/-- The reader's three boxes: whether all is well, the text, where it stands. -/
structure RdAt (w : World) (bo bs ba : Nat) (x : List UInt8) (at_ : Nat) (ok : Bool) : Prop where
  o : w.cell? ⟨bo, 0, none⟩ = some (.bool ok)
  s : w.cell? ⟨bs, 0, none⟩ = some (.string ⟨x.toArray⟩)
  a : w.cell? ⟨ba, 0, none⟩ = some (.int .i64 at_)
  fo : w.frozen? ⟨bo, 0, none⟩ = false
  fa : w.frozen? ⟨ba, 0, none⟩ = false
  le : at_ ≤ x.length
theorem cut_at (x : List UInt8) (n : Nat) : (ByteArray.mk x.toArray).extract n x.length = ⟨(x.drop n).toArray⟩ := by
  apply ByteArray.ext
  rw [ByteArray.data_extract]
  simp [List.take_of_length_le]
theorem RdAt.put {w : World} {bo bs ba : Nat} {x : List UInt8} {at_ : Nat} {ok : Bool} (h : RdAt w bo bs ba x at_ ok) (h1 : bo ≠ ba) (h2 : bs ≠ bo) (h3 : bs ≠ ba) {m : Nat} (hm : m ≤ x.length) (q : Bool) : RdAt ((w.setCell ⟨bo, 0, none⟩ (.bool q)).setCell ⟨ba, 0, none⟩ (.int .i64 m)) bo bs ba x m q :=
  ⟨by rw [World.cell?_setCell_far _ _ _ _ (show ba ≠ bo from Ne.symm h1)]; exact World.cell?_setCell_same _ _ _ h.o,
   by rw [World.cell?_setCell_far _ _ _ _ (show ba ≠ bs from Ne.symm h3), World.cell?_setCell_far _ _ _ _ (show bo ≠ bs from Ne.symm h2)]; exact h.s,
   World.cell?_setCell_same _ _ _ (u := .int .i64 at_) (by rw [World.cell?_setCell_far _ _ _ _ (show bo ≠ ba from h1)]; exact h.a),
   by simp [h.fo], by simp [h.fa], hm⟩

set_option maxHeartbeats 2000000 in
theorem next_any (x : List UInt8) (at_ : Nat) (ok : Bool) (bo bs ba : Nat) (w : World) (hx : x.length ≤ maxLen) (hne : bo ≠ ba) (h : RdAt w bo bs ba x at_ ok) :
    Calls Try.prog 29 #[.pointer (some ⟨bo, 0, none⟩), .pointer (some ⟨bs, 0, none⟩), .pointer (some ⟨ba, 0, none⟩)] w fun e w' => e = .returned (.int .i64 (nxN (x.drop at_, ok))) ∧ ∃ k : Nat, at_ + k ≤ x.length ∧ nxS (x.drop at_, ok) = (x.drop (at_ + k), (nxS (x.drop at_, ok)).2) ∧ w' = (w.setCell ⟨bo, 0, none⟩ (.bool (nxS (x.drop at_, ok)).2)).setCell ⟨ba, 0, none⟩ (.int .i64 ((at_ + k : Nat) : Int)) := by
  obtain ⟨ho, hs, ha, fo, fa, hle⟩ := h
  unfold maxLen at hx
  cases ok with
  | false =>
    go_enter Try.func29, Try.ntmps29
    go_wp2
    go_ret
    refine ⟨rfl, 0, by omega, rfl, ?_⟩
    show _ = (w.setCell ⟨bo, 0, none⟩ (.bool false)).setCell ⟨ba, 0, none⟩ (.int .i64 ((at_ : Nat) : Int))
    rw [setCell_id ho]
  | true =>
    have hcut := cut_at x at_
    have hlez : (at_ : Int) ≤ (x.length : Int) := by omega
    have hyl : (x.drop at_).length = x.length - at_ := List.length_drop
    have hkl : readK (x.drop at_) ≤ x.length - at_ := by
      cases hb : readB (x.drop at_)
      · unfold readK; rw [hb]; simp
      · have := (readB_parts hb).2.2.2.1
        omega
    have hkb : decide (0 < readK (x.drop at_)) = readB (x.drop at_) := by
      cases hb : readB (x.drop at_)
      · unfold readK; rw [hb]; simp
      · have := (readB_parts hb).2.2.1
        simp; omega
    obtain ⟨n, hn⟩ : ∃ n, readN (x.drop at_) = n := ⟨_, rfl⟩
    obtain ⟨k, hk⟩ : ∃ k, readK (x.drop at_) = k := ⟨_, rfl⟩
    obtain ⟨q, hq⟩ : ∃ q, readB (x.drop at_) = q := ⟨_, rfl⟩
    have hC := fun w => rread_any (x.drop at_) w (by unfold maxLen; omega)
    rw [hk, hq] at hkb
    rw [hk] at hkl
    rw [hn, hk] at hC
    have hCH : Hid _ := hC
    have hfin : Hid (nxN (x.drop at_, true) = n ∧ nxS (x.drop at_, true) = ((x.drop at_).drop k, q)) := by
      refine ⟨hn, ?_⟩
      show ((x.drop at_).drop (readK (x.drop at_)), readB (x.drop at_)) = _
      rw [hk, hq]
    clear hC hn hk hq hyl
    go_enter Try.func29, Try.ntmps29
    go_wp2_with fail
    refine (hCH.out _).mono ?_
    rintro e w1 ⟨rfl, rfl⟩
    clear hCH hcut
    go_wp2
    go_ret
    rw [hfin.out.1, hfin.out.2]
    refine ⟨rfl, k, by omega, by rw [List.drop_drop], ?_⟩
    rfl

set_option maxHeartbeats 2000000 in
theorem many_any (x : List UInt8) (at_ : Nat) (ok : Bool) (bo bs ba bn : Nat) (w : World) (hx : x.length ≤ maxLen) (h1 : bo ≠ ba) (h2 : bs ≠ bo) (h3 : bs ≠ ba) (h : RdAt w bo bs ba x at_ ok) (hn : w.cell? ⟨bn, 0, none⟩ = some (.func (.func 29) #[] #[.pointer (some ⟨bo, 0, none⟩), .pointer (some ⟨bs, 0, none⟩), .pointer (some ⟨ba, 0, none⟩)])) :
    Calls Try.prog 31 #[.pointer (some ⟨bn, 0, none⟩), .pointer (some ⟨bo, 0, none⟩)] w fun e w' => e = .returned (.int .i64 (myN (x.drop at_, ok))) ∧ ∃ k : Nat, at_ + k ≤ x.length ∧ myS (x.drop at_, ok) = (x.drop (at_ + k), (myS (x.drop at_, ok)).2) ∧ w' = ((w.setCell ⟨bo, 0, none⟩ (.bool (nxS (x.drop at_, ok)).2)).setCell ⟨ba, 0, none⟩ (.int .i64 ((at_ + k : Nat) : Int))).setCell ⟨bo, 0, none⟩ (.bool (myS (x.drop at_, ok)).2) := by
  have hent : ∀ args w, (callFunc 29 args).run Try.prog w = .ok (.enter 29 args) w := enters_of Try.func29 (by kernel_rfl) rfl
  have hC := next_any x at_ ok bo bs ba w hx h1 h
  have hCH : Hid _ := hC
  have hH : Hid (RdAt w bo bs ba x at_ ok) := h
  clear hC h
  go_enter Try.func31, Try.ntmps31
  go_wp2_with fail
  refine Calls.mono (show Calls _ _ _ _ _ from hCH.out) ?_
  rintro e w1 ⟨rfl, k, hk, hS, rfl⟩
  clear hCH
  obtain ⟨q, hq⟩ : ∃ q, (nxS (x.drop at_, ok)).2 = q := ⟨_, rfl⟩
  obtain ⟨n, hnn⟩ : ∃ n, nxN (x.drop at_, ok) = n := ⟨_, rfl⟩
  obtain ⟨w1, hw1⟩ : ∃ w1, (w.setCell ⟨bo, 0, none⟩ (.bool q)).setCell ⟨ba, 0, none⟩ (.int .i64 ((at_ + k : Nat) : Int)) = w1 := ⟨_, rfl⟩
  have hR := hH.out.put h1 h2 h3 hk q
  rw [hq] at hS ⊢
  rw [hw1] at hR ⊢
  rw [hnn]
  obtain ⟨ho, hs, ha, fo, fa, hle⟩ := hR
  clear hs ha fa hle
  have hmy : Hid (myN (x.drop at_, ok) = (if q && inB n 0 400 then n else 0) ∧ myS (x.drop at_, ok) = (x.drop (at_ + k), q && inB n 0 400)) := by
    refine ⟨?_, ?_⟩
    · unfold myN; rw [hq, hnn]
    · unfold myS; rw [hq, hnn, hS]
  cases q with
  | false =>
    go_wp2
    go_ret
    rw [hmy.out.1, hmy.out.2]
    exact ⟨rfl, k, hk, rfl, by rw [hq, hw1]; rfl⟩
  | true =>
    cases hi : inB n 0 400 with
    | false =>
      go_wp2_with (go_at_call 21; refine (in_no hi _).mono ?_; rintro e w' ⟨rfl, rfl⟩)
      go_ret
      rw [hmy.out.1, hmy.out.2, hi]
      exact ⟨rfl, k, hk, rfl, by rw [hq, hw1]; rfl⟩
    | true =>
      go_wp2_with (go_at_call 21; refine (in_yes hi _).mono ?_; rintro e w' ⟨rfl, rfl⟩)
      go_ret
      rw [hmy.out.1, hmy.out.2, hi]
      exact ⟨rfl, k, hk, rfl, by rw [hq, hw1]; rfl⟩
end Go.Proofs.Ytbhhpijidbhipaa
