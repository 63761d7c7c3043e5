/-
  dot.Make: the context that has just the dots of a list.
-/
import Derived.Test.YtjgefnipkaecgacFold
import Derived.Test.YtjgefnipkaecgacRising
namespace Go.Proofs.Ytjgefnipkaecgac
open Go.RowKit Go.Sort

/-- No context. -/
def zeroC : Ctx := ⟨0, 0, 0, 0, []⟩
/-- The error that Make tells. -/
def makeE (l : List (Int × Int)) : Int := if 400 < l.length then 2 else if badL l = true then 5 else 0
/-- The context that fold makes of a clock and of dots, sorted. -/
def foldS (c : Ctx) (l : List (Int × Int)) : Ctx := foldTo c (srt l) (srt l).length
/-- The context that Make tells. -/
def makeC (l : List (Int × Int)) : Ctx := if makeE l = 0 then foldS zeroC l else zeroC

theorem srt_mem {l : List (Int × Int)} {x : Int × Int} (h : x ∈ srt l) : x ∈ l := by
  unfold srt at h
  exact (List.mergeSort_perm l _).mem_iff.1 h

set_option maxHeartbeats 2000000 in
theorem make_any (l : List (Int × Int)) (A : Option Addr) (cap : Nat) (w : World) (hl : l.length ≤ maxLen) (hA : A = none → cap = 0) (hr : Row w A l) :
    Calls Try.prog 65 #[.slice A l.length cap] w fun e w' => ∃ C cp, e = .returned (.tuple #[.agg #[.int .i64 (makeC l).c0, .int .i64 (makeC l).c1, .int .i64 (makeC l).c2, .int .i64 (makeC l).c3, .slice C (makeC l).l.length cp], .int .i64 (makeE l)]) ∧ Row w' C (makeC l).l ∧ (C = none → cp = 0) ∧ (∀ a, C = some a → w.heap.size ≤ a.block) ∧ Below w.heap.size w w' := by
  unfold maxLen at hl
  have hg0 := Gr.refl (w.alloc (.cells #[.int .i64 0, .int .i64 0, .int .i64 0, .int .i64 0, .slice none 0 0] 25))
  have r0 := box1 hg0 (j := 0) rfl
  have r1 := box1 hg0 (j := 1) rfl
  have r2 := box1 hg0 (j := 2) rfl
  have r3 := box1 hg0 (j := 3) rfl
  have r4 := box1 hg0 (j := 4) rfl
  have rf := fun j => box1f hg0 j
  by_cases h400 : 400 < l.length
  · have h400z : (400 : Int) < (l.length : Int) := by omega
    have hfin : Hid (makeE l = 2 ∧ makeC l = zeroC) := by
      have : makeE l = 2 := by simp [makeE, h400]
      exact ⟨this, by simp [makeC, this]⟩
    go_enter Try.func65, Try.ntmps65
    go_wp2
    rw [hfin.out.1, hfin.out.2]
    exact bodyPost_ret (v := .tuple #[.agg #[.int .i64 0, .int .i64 0, .int .i64 0, .int .i64 0, .slice none 0 0], .int .i64 2]) (by simp [results, Try.results65, go_sem]) rfl ⟨none, 0, rfl, Or.inl rfl, fun _ => rfl, (fun a ha => by cases ha), (Below.refl _ _).alloc (Nat.le_refl _) _⟩
  · have h400z : ¬ (400 : Int) < (l.length : Int) := by omega
    clear r0 r1 r2 r3 r4 rf hg0
    go_enter Try.func65, Try.ntmps65
    go_wp2
    go_loopw [12] (fun i wr => ∃ k : Nat, k ≤ l.length ∧ i = .int .i64 k ∧ Hid (∀ j (h : j < l.length), j < k → rightB l[j] = true) ∧ Gr (w.alloc (.cells #[.int .i64 0, .int .i64 0, .int .i64 0, .int .i64 0, .slice none 0 0] 25)) wr) (fun i _ => l.length - (intOf i).toNat)
    case atStart => exact ⟨0, Nat.zero_le _, rfl, fun j _ hj => absurd hj (Nat.not_lt_zero _), Gr.refl _⟩
    case round =>
      obtain ⟨k, hk, rfl, hno, hgr⟩ := hrel
      have r0 := box1 hgr (j := 0) rfl
      have r1 := box1 hgr (j := 1) rfl
      have r2 := box1 hgr (j := 2) rfl
      have r3 := box1 hgr (j := 3) rfl
      have r4 := box1 hgr (j := 4) rfl
      have rf := fun j => box1f hgr j
      by_cases hlt : k < l.length
      · have hltz : (k : Int) < (l.length : Int) := by omega
        obtain ⟨b, off, rfl, hb, hcs⟩ := (hr.gr (unbox hgr)).at hlt
        obtain ⟨x, y, hx⟩ : ∃ x y, l[k] = (x, y) := ⟨_, _, rfl⟩
        have e0 := (hcs k hlt).1
        have e1 := (hcs k hlt).2
        rw [hx] at e0 e1
        have hxH : Hid (l[k] = (x, y)) := hx
        clear hcs hx
        cases hq : rightB (x, y)
        · have hfin : Hid (makeE l = 5 ∧ makeC l = zeroC) := by
            have : makeE l = 5 := by simp [makeE, h400, badL_at hlt hxH.out hq]
            exact ⟨this, by simp [makeC, this]⟩
          go_wp2_with (go_at_call 50; refine (dright_g hq _).mono ?_; rintro e w1 ⟨rfl, hg1⟩; have hgA := (hgr.alloc (.cells #[.int .i64 x, .int .i64 y] 62)).trans hg1; have q0 := box1 hgA (j := 0) rfl; have q1 := box1 hgA (j := 1) rfl; have q2 := box1 hgA (j := 2) rfl; have q3 := box1 hgA (j := 3) rfl; have q4 := box1 hgA (j := 4) rfl; have qf := fun j => box1f hgA j)
          rw [hfin.out.1, hfin.out.2]
          exact bodyPost_ret (v := .tuple #[.agg #[.int .i64 0, .int .i64 0, .int .i64 0, .int .i64 0, .slice none 0 0], .int .i64 5]) (by simp [results, Try.results65, go_sem, q0, q1, q2, q3, q4]) rfl ⟨none, 0, rfl, Or.inl rfl, fun _ => rfl, (fun a ha => by cases ha), ((((((unbox hgA).below.setCell (by simp) _).setCell (by simp) _).setCell (by simp) _).setCell (by simp) _).setCell (by simp) _)⟩
        · go_wp2_with (go_at_call 50; refine (dright_g hq _).mono ?_; rintro e w1 ⟨rfl, hg1⟩)
          go_roundw
          case rel =>
            refine ⟨k + 1, by omega, by go_num, ?_, (hgr.alloc _).trans hg1⟩
            intro j hj hjk
            by_cases e : j = k
            · subst e; rw [hxH.out]; exact hq
            · exact hno j hj (by omega)
          case measure => simp [intOf]; omega
      · have hltz : ¬ (k : Int) < (l.length : Int) := by omega
        have hbad : badL l = false := badL_not fun j hj => hno j hj (by omega)
        have hfin : Hid (makeE l = 0 ∧ makeC l = foldS zeroC l) := by
          have : makeE l = 0 := by simp [makeE, h400, hbad]
          exact ⟨this, by simp [makeC, this]⟩
        have hall : Hid (∀ x ∈ srt l, rightB x = true) := fun x hx => badL_all hbad x (srt_mem hx)
        clear hbad r0 r1 r2 r3 r4 rf
        have hris := rising_any l [] A none cap 0 wr (hr.gr (unbox hgr)) (Or.inl rfl) hA (fun _ => rfl) (by omega) (by simp)
        simp only [List.length_nil, List.append_nil] at hris
        have hrisH : Hid _ := hris
        clear hris
        go_wp2_with fail
        refine Calls.mono (show Calls _ _ _ _ _ from hrisH.out) ?_
        rintro e w1 ⟨C1, cp1, rfl, hrow1, hb1⟩
        clear hrisH
        have hfold := fold_any zeroC (srt l) C1 cp1 w1 rfl (by decide) (by rw [srt_length]; omega) hall.out hrow1
        change Calls Try.prog 47 #[.agg #[.int .i64 0, .int .i64 0, .int .i64 0, .int .i64 0], .slice C1 (srt l).length cp1] w1 _ at hfold
        have hfoldH : Hid _ := hfold
        clear hfold
        go_wp2_with fail
        refine Calls.mono (show Calls _ _ _ _ _ from hfoldH.out) ?_
        rintro e w2 ⟨C2, cp2, rfl, hrow2, hC2, hCb, hb2⟩
        clear hfoldH
        obtain ⟨F, hF⟩ : ∃ F, foldTo zeroC (srt l) (srt l).length = F := ⟨_, rfl⟩
        rw [hF] at hrow2 ⊢
        have HF : Hid (foldS zeroC l = F) := hF
        clear hF
        have hsz := hgr.size
        simp only [World.size_alloc] at hsz
        have hb2' : Below (w.heap.size + 1) wr w2 := (hb1.mono (by omega)).trans (hb2.mono (by have := hb1.size; omega))
        have s0 := (hb2'.cell (p := ⟨w.heap.size, 0, none⟩) (by simp)).trans (box1 hgr (j := 0) rfl)
        have s1 := (hb2'.cell (p := ⟨w.heap.size, 1, none⟩) (by simp)).trans (box1 hgr (j := 1) rfl)
        have s2 := (hb2'.cell (p := ⟨w.heap.size, 2, none⟩) (by simp)).trans (box1 hgr (j := 2) rfl)
        have s3 := (hb2'.cell (p := ⟨w.heap.size, 3, none⟩) (by simp)).trans (box1 hgr (j := 3) rfl)
        have s4 := (hb2'.cell (p := ⟨w.heap.size, 4, none⟩) (by simp)).trans (box1 hgr (j := 4) rfl)
        have sf : ∀ j, w2.frozen? ⟨w.heap.size, j, none⟩ = false := fun j => (hb2'.frozen (p := ⟨w.heap.size, j, none⟩) (by simp)).trans (box1f hgr j)
        have hbw : Hid (Below w.heap.size w w2) := (unbox hgr).below.trans (hb2'.mono (by omega))
        have hCn : ∀ a, C2 = some a → a.block ≠ w.heap.size := fun a ha => by have := hCb a ha; have := hb1.size; omega
        have hw1 : w.heap.size ≤ w1.heap.size := by have := hb1.size; omega
        clear hb2' hb1 hb2
        go_wp2
        rw [hfin.out.1, hfin.out.2, HF.out]
        refine bodyPost_ret (v := .tuple #[.agg #[.int .i64 F.c0, .int .i64 F.c1, .int .i64 F.c2, .int .i64 F.c3, .slice C2 F.l.length cp2], .int .i64 0]) (by simp [results, Try.results65, go_sem, s0, s1, s2, s3, s4]) rfl ⟨C2, cp2, rfl, ?_, hC2, fun a ha => Nat.le_trans (by omega) (hCb a ha), ?_⟩
        · exact ((((hrow2.setCell _ hCn).setCell _ hCn).setCell _ hCn).setCell _ hCn).setCell _ hCn
        · exact ((((hbw.out.setCell (Nat.le_refl _) _).setCell (Nat.le_refl _) _).setCell (Nat.le_refl _) _).setCell (Nat.le_refl _) _).setCell (Nat.le_refl _) _

end Go.Proofs.Ytjgefnipkaecgac
