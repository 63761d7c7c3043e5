/-
  viewref.made of where.
  viewref.made of where.
  plain.pick.
-/
import Derived.Test.YtnkpfhipgcmplaaGreatDoorM17
import Derived.Test.YtnkpfhipgcmplaaGreatDoorM12
namespace Go.Proofs.YtnkpfhipgcmplaaGreatDoor
open Go.RowKit Go.Sort

set_option maxRecDepth 100000 in
set_option maxHeartbeats 1000000 in
theorem made22 (s : Stp) (a b : List Itm) (A B : Option Addr) (ca cb : Nat) (w : World) (hk : s.k = 2) (hl : a.length ≤ 400) (ha : Items w A a) (ho : s.o = 2) (hc : ∀ x ∈ a, inB s.c 0 ((x.r.length : Int) - 1) = true) :
    Calls Tryz.prog 56 #[.agg #[.int .i64 s.k, .int .i64 s.a, .int .i64 s.b, .int .i64 s.c, .int .i64 s.o, .int .i64 s.v, .slice s.p s.l.length s.n], .slice A a.length ca, .slice B b.length cb] w fun e w' => ∃ (L : List Itm) (C : Option Addr) (k : Nat), e = .returned (.slice C L.length k) ∧ L.map Itm.z = whereL (a.map Itm.z) s.c 2 s.v ∧ Items w' C L ∧ Below w.heap.size w w' := by
  have hS0 := StAt.new w s
  have hg0 : Gr w (w.alloc (.cells #[.int .i64 s.k, .int .i64 s.a, .int .i64 s.b, .int .i64 s.c, .int .i64 s.o, .int .i64 s.v, .slice s.p s.l.length s.n] 88)) := (Gr.refl w).alloc _
  obtain ⟨w1, hw1⟩ : ∃ w1, w.alloc (.cells #[.int .i64 s.k, .int .i64 s.a, .int .i64 s.b, .int .i64 s.c, .int .i64 s.o, .int .i64 s.v, .slice s.p s.l.length s.n] 88) = w1 := ⟨_, rfl⟩
  rw [hw1] at hS0 hg0
  obtain ⟨X, hX⟩ : ∃ X, w.heap.size = X := ⟨_, rfl⟩
  have hH : Hid (StAt w1 X s ∧ Gr w w1 ∧ Items w1 A a ∧ s.k = 2 ∧ w.heap.size = X ∧ s.o = 2 ∧ ∀ x ∈ a, inB s.c 0 ((x.r.length : Int) - 1) = true) := ⟨hX ▸ hS0, hg0, ha.gr hg0, hk, hX, ho, hc⟩
  clear hS0 hg0 ha hk ho hc
  go_enter Tryz.func56, Tryz.ntmps56
  go_wp2
  try rw [hw1]
  try rw [hX]
  clear hw1 hX
  go_loopw [7, 8, 9] (fun u v i wr => ∃ (k : Nat) (L : List Itm), k ≤ a.length ∧ i = .int .i64 k ∧ v = .slice none 0 0 ∧ Hid (L.length ≤ k ∧ L.map Itm.z = whereL ((a.take k).map Itm.z) s.c 2 s.v ∧ (∀ y ∈ L, y ∈ a) ∧ OwnG encT 2 66 wr w1.heap.size u L ∧ Below w1.heap.size w1 wr)) (fun _ _ i _ => a.length - (intOf i).toNat)
  case atStart => exact ⟨0, [], Nat.zero_le _, rfl, rfl, Nat.le_refl _, rfl, fun x hx => (by cases hx), OwnG.nil _ _ _ _ _, Below.refl _ _⟩
  case round =>
    obtain ⟨k, L, hk, rfl, rfl, hR⟩ := hrel
    have hSt : Hid (StAt wr X s) := hH.out.1.below hR.out.2.2.2.2
    by_cases hlt : k < a.length
    · have hltz : (k : Int) < (a.length : Int) := by omega
      have hI : Hid (Items wr A a) := hH.out.2.2.1.below hR.out.2.2.2.2
      obtain ⟨bb, off, rfl, hb, hcs⟩ := hI.out.at hlt
      obtain ⟨x, hx⟩ : ∃ x, a[k] = x := ⟨_, rfl⟩
      obtain ⟨e0, e1⟩ := hcs k hlt
      rw [hx] at e0 e1
      have hxm : x ∈ a := by rw [← hx]; exact List.getElem_mem hlt
      obtain ⟨rb, ro, cn, hp, hrb, hcn, hcl, hcell⟩ := rowI_atI (hI.out.each x hxm).1 (hH.out.2.2.2.2.2.2 x hxm)
      have hst : Hid (whereL ((a.take (k + 1)).map Itm.z) s.c 2 s.v = whereL ((a.take k).map Itm.z) s.c 2 s.v ++ (if toB (atI x.r s.c) 2 s.v = true then [x.z] else [])) := by show _ = _; rw [where_take hlt, hx]
      have hxH : Hid (x ∈ a) := hxm
      obtain ⟨nn, hnn⟩ : ∃ nn, atI x.r s.c = nn := ⟨_, rfl⟩
      rw [hnn] at hcell hst
      rw [hp] at e0
      have hgX : Hid (Gr wr (wr.alloc (.cells #[.slice (some ⟨rb, ro, none⟩) x.r.length x.c, .int .i64 x.n] 66))) := (Gr.refl _).alloc _
      have y0 : (wr.alloc (.cells #[.slice (some ⟨rb, ro, none⟩) x.r.length x.c, .int .i64 x.n] 66)).cell? ⟨rb, ro + cn, none⟩ = some (.int .i64 nn) := (hgX.out.cell (p := ⟨rb, ro + cn, none⟩) hrb).trans hcell
      have k0 : (wr.alloc (.cells #[.slice (some ⟨rb, ro, none⟩) x.r.length x.c, .int .i64 x.n] 66)).cell? ⟨X, 0, none⟩ = some (.int .i64 2) := by rw [hgX.out.cell (p := ⟨X, 0, none⟩) hSt.out.lt, hSt.out.c0, hH.out.2.2.2.1]
      have k3 : (wr.alloc (.cells #[.slice (some ⟨rb, ro, none⟩) x.r.length x.c, .int .i64 x.n] 66)).cell? ⟨X, 3, none⟩ = some (.int .i64 (cn : Int)) := by rw [hgX.out.cell (p := ⟨X, 3, none⟩) hSt.out.lt, hSt.out.c3, hcn]
      have k4 : (wr.alloc (.cells #[.slice (some ⟨rb, ro, none⟩) x.r.length x.c, .int .i64 x.n] 66)).cell? ⟨X, 4, none⟩ = some (.int .i64 2) := by rw [hgX.out.cell (p := ⟨X, 4, none⟩) hSt.out.lt, hSt.out.c4, hH.out.2.2.2.2.2.1]
      have k5 : (wr.alloc (.cells #[.slice (some ⟨rb, ro, none⟩) x.r.length x.c, .int .i64 x.n] 66)).cell? ⟨X, 5, none⟩ = some (.int .i64 s.v) := by rw [hgX.out.cell (p := ⟨X, 5, none⟩) hSt.out.lt, hSt.out.c5]
      have hcz : (cn : Int) < (x.r.length : Int) := by omega
      have hpH : Hid (x.p = some ⟨rb, ro, none⟩) := hp
      clear hcs hx hxm hnn hp hcell hcl hcn
      obtain ⟨tt, htt⟩ : ∃ tt, toB nn 2 s.v = tt := ⟨_, rfl⟩
      have httH : Hid (toB nn 2 s.v = tt) := htt
      clear htt
      cases tt
      · have hno : ¬ nn = s.v := by simpa [toB] using httH.out
        have hno2 : (nn == s.v) = false := beq_eq_false_iff_ne.2 hno
        have hfin : Hid (L.length ≤ k + 1 ∧ L.map Itm.z = whereL ((a.take (k + 1)).map Itm.z) s.c 2 s.v ∧ (∀ y ∈ L, y ∈ a) ∧ OwnG encT 2 66 (wr.alloc (.cells #[.slice (some ⟨rb, ro, none⟩) x.r.length x.c, .int .i64 x.n] 66)) w1.heap.size u7 L ∧ Below w1.heap.size w1 (wr.alloc (.cells #[.slice (some ⟨rb, ro, none⟩) x.r.length x.c, .int .i64 x.n] 66))) :=
          ⟨by have := hR.out.1; omega, by rw [hst.out, httH.out]; simpa using hR.out.2.1, hR.out.2.2.1, hR.out.2.2.2.1.gr hgX.out, hR.out.2.2.2.2.trans (hgX.out.below.mono hR.out.2.2.2.2.size)⟩
        go_wp2
        go_roundw
        case rel => exact ⟨k + 1, L, by omega, by go_num, rfl, hfin⟩
        case measure => simp [intOf]; omega
      · have hyes : nn = s.v := by simpa [toB] using httH.out
        have hyes2 : (nn == s.v) = true := beq_iff_eq.2 hyes
        have hoX : Hid (OwnG encT 2 66 ((wr.alloc (.cells #[.slice (some ⟨rb, ro, none⟩) x.r.length x.c, .int .i64 x.n] 66)).alloc (.cells #[.slice (some ⟨rb, ro, none⟩) x.r.length x.c, .int .i64 x.n] 66)) w1.heap.size u7 L ∧ RowG encT 2 ((wr.alloc (.cells #[.slice (some ⟨rb, ro, none⟩) x.r.length x.c, .int .i64 x.n] 66)).alloc (.cells #[.slice (some ⟨rb, ro, none⟩) x.r.length x.c, .int .i64 x.n] 66)) (some ⟨wr.heap.size + 1, 0, none⟩) [x] ∧ L.length + [x].length ≤ maxLen ∧ (L.length + [x].length) * 32 ≤ 140737488355328 ∧ Below w1.heap.size w1 ((wr.alloc (.cells #[.slice (some ⟨rb, ro, none⟩) x.r.length x.c, .int .i64 x.n] 66)).alloc (.cells #[.slice (some ⟨rb, ro, none⟩) x.r.length x.c, .int .i64 x.n] 66))) := by
          have hLk := hR.out.1
          have h1 : [x].length = 1 := rfl
          refine ⟨hR.out.2.2.2.1.gr (hgX.out.alloc _), ?_, by unfold maxLen; omega, by omega, hR.out.2.2.2.2.trans ((hgX.out.alloc _).below.mono hR.out.2.2.2.2.size)⟩
          rw [← hpH.out]
          exact rowNewT (by simp) x _
        go_wp2_with (at_builtin; refine wpList_append_ts _ rfl _ _ rfl w1.heap.size u7 L [x] (some ⟨wr.heap.size + 1, 0, none⟩) 1 rfl rfl hoX.out.1 hoX.out.2.1 (fun h => by cases h) hoX.out.2.2.1 hoX.out.2.2.2.1 hoX.out.2.2.2.2.size ?_; intro v3 w3 hown3 hg3)
        have hfin : Hid ((L ++ [x]).length ≤ k + 1 ∧ (L ++ [x]).map Itm.z = whereL ((a.take (k + 1)).map Itm.z) s.c 2 s.v ∧ (∀ y ∈ L ++ [x], y ∈ a) ∧ OwnG encT 2 66 w3 w1.heap.size v3 (L ++ [x]) ∧ Below w1.heap.size w1 w3) := by
          refine ⟨by have := hR.out.1; simp; omega, by rw [hst.out, httH.out, List.map_append, hR.out.2.1]; rfl, fun y hy => ?_, hown3, hoX.out.2.2.2.2.trans (hoX.out.1.grown_below hg3 hoX.out.2.2.2.2.size)⟩
          rcases List.mem_append.1 hy with h | h
          · exact hR.out.2.2.1 y h
          · rw [List.mem_singleton.1 h]; exact hxH.out
        clear hown3 hg3
        go_wp2
        go_roundw
        case rel => exact ⟨k + 1, L ++ [x], by omega, by go_num, rfl, hfin⟩
        case measure => simp [intOf]; omega
    · have hltz : ¬ (k : Int) < (a.length : Int) := by omega
      have hke : a.take k = a := List.take_of_length_le (by omega)
      have k0 : wr.cell? ⟨X, 0, none⟩ = some (.int .i64 2) := by rw [hSt.out.c0, hH.out.2.2.2.1]
      have hfin : Hid (L.map Itm.z = whereL (a.map Itm.z) s.c 2 s.v ∧ ∃ A2 cap2, u7 = .slice A2 L.length cap2 ∧ Items wr A2 L ∧ Below w.heap.size w wr) := by
        obtain ⟨A2, cap2, hv2, _, hit, _, _, _⟩ := OwnG.full encT_len hR.out.2.2.2.1
        refine ⟨by have := hR.out.2.1; rw [hke] at this; exact this, A2, cap2, hv2, ⟨hit, fun y hy => ?_⟩, hH.out.2.1.below.trans (hR.out.2.2.2.2.mono hH.out.2.1.below.size)⟩
        exact (hH.out.2.2.1.below hR.out.2.2.2.2).each y (hR.out.2.2.1 y hy)
      clear hke
      go_wp2_with fail
      refine Calls.mono (show Calls _ _ _ _ _ from onceN wr) ?_
      rintro e w4 ⟨C4, cp4, rfl, hb4⟩
      have hfin2 : Hid (L.map Itm.z = whereL (a.map Itm.z) s.c 2 s.v ∧ ∃ A2 cap2, u7 = .slice A2 L.length cap2 ∧ Items w4 A2 L ∧ Below w.heap.size w w4) := by
        obtain ⟨h1, A2, cap2, h2, h3, h4⟩ := hfin.out
        exact ⟨h1, A2, cap2, h2, h3.below hb4, h4.trans (hb4.mono h4.size)⟩
      clear hb4
      go_wp2
      obtain ⟨uu, huu⟩ : ∃ uu, u7 = uu := ⟨_, rfl⟩
      rw [huu] at hfin2
      go_loopw [7, 15] (fun u i wq => u = uu ∧ i = .int .i64 0 ∧ wq = w4) (fun _ _ _ => 0)
      case atStart => exact ⟨huu, rfl, rfl⟩
      case round =>
        obtain ⟨rfl, rfl, rfl⟩ := hrel
        obtain ⟨h1, A2, cap2, rfl, h3, h4⟩ := hfin2.out
        have hfin3 : Hid (L.map Itm.z = whereL (a.map Itm.z) s.c 2 s.v ∧ _ ∧ _) := ⟨h1, h3, h4⟩
        clear h1 h3 h4
        go_wp2
        go_ret
        exact ⟨L, A2, cap2, rfl, hfin3.out.1, hfin3.out.2.1, hfin3.out.2.2⟩
end Go.Proofs.YtnkpfhipgcmplaaGreatDoor

namespace Go.Proofs.YtnkpfhipgcmplaaGreatDoor
open Go.RowKit Go.Sort

set_option maxRecDepth 100000 in
set_option maxHeartbeats 1000000 in
theorem made23 (s : Stp) (a b : List Itm) (A B : Option Addr) (ca cb : Nat) (w : World) (hk : s.k = 2) (hl : a.length ≤ 400) (ha : Items w A a) (ho : s.o = 3) (hc : ∀ x ∈ a, inB s.c 0 ((x.r.length : Int) - 1) = true) :
    Calls Tryz.prog 56 #[.agg #[.int .i64 s.k, .int .i64 s.a, .int .i64 s.b, .int .i64 s.c, .int .i64 s.o, .int .i64 s.v, .slice s.p s.l.length s.n], .slice A a.length ca, .slice B b.length cb] w fun e w' => ∃ (L : List Itm) (C : Option Addr) (k : Nat), e = .returned (.slice C L.length k) ∧ L.map Itm.z = whereL (a.map Itm.z) s.c 3 s.v ∧ Items w' C L ∧ Below w.heap.size w w' := by
  have hS0 := StAt.new w s
  have hg0 : Gr w (w.alloc (.cells #[.int .i64 s.k, .int .i64 s.a, .int .i64 s.b, .int .i64 s.c, .int .i64 s.o, .int .i64 s.v, .slice s.p s.l.length s.n] 88)) := (Gr.refl w).alloc _
  obtain ⟨w1, hw1⟩ : ∃ w1, w.alloc (.cells #[.int .i64 s.k, .int .i64 s.a, .int .i64 s.b, .int .i64 s.c, .int .i64 s.o, .int .i64 s.v, .slice s.p s.l.length s.n] 88) = w1 := ⟨_, rfl⟩
  rw [hw1] at hS0 hg0
  obtain ⟨X, hX⟩ : ∃ X, w.heap.size = X := ⟨_, rfl⟩
  have hH : Hid (StAt w1 X s ∧ Gr w w1 ∧ Items w1 A a ∧ s.k = 2 ∧ w.heap.size = X ∧ s.o = 3 ∧ ∀ x ∈ a, inB s.c 0 ((x.r.length : Int) - 1) = true) := ⟨hX ▸ hS0, hg0, ha.gr hg0, hk, hX, ho, hc⟩
  clear hS0 hg0 ha hk ho hc
  go_enter Tryz.func56, Tryz.ntmps56
  go_wp2
  try rw [hw1]
  try rw [hX]
  clear hw1 hX
  go_loopw [7, 8, 9] (fun u v i wr => ∃ (k : Nat) (L : List Itm), k ≤ a.length ∧ i = .int .i64 k ∧ v = .slice none 0 0 ∧ Hid (L.length ≤ k ∧ L.map Itm.z = whereL ((a.take k).map Itm.z) s.c 3 s.v ∧ (∀ y ∈ L, y ∈ a) ∧ OwnG encT 2 66 wr w1.heap.size u L ∧ Below w1.heap.size w1 wr)) (fun _ _ i _ => a.length - (intOf i).toNat)
  case atStart => exact ⟨0, [], Nat.zero_le _, rfl, rfl, Nat.le_refl _, rfl, fun x hx => (by cases hx), OwnG.nil _ _ _ _ _, Below.refl _ _⟩
  case round =>
    obtain ⟨k, L, hk, rfl, rfl, hR⟩ := hrel
    have hSt : Hid (StAt wr X s) := hH.out.1.below hR.out.2.2.2.2
    by_cases hlt : k < a.length
    · have hltz : (k : Int) < (a.length : Int) := by omega
      have hI : Hid (Items wr A a) := hH.out.2.2.1.below hR.out.2.2.2.2
      obtain ⟨bb, off, rfl, hb, hcs⟩ := hI.out.at hlt
      obtain ⟨x, hx⟩ : ∃ x, a[k] = x := ⟨_, rfl⟩
      obtain ⟨e0, e1⟩ := hcs k hlt
      rw [hx] at e0 e1
      have hxm : x ∈ a := by rw [← hx]; exact List.getElem_mem hlt
      obtain ⟨rb, ro, cn, hp, hrb, hcn, hcl, hcell⟩ := rowI_atI (hI.out.each x hxm).1 (hH.out.2.2.2.2.2.2 x hxm)
      have hst : Hid (whereL ((a.take (k + 1)).map Itm.z) s.c 3 s.v = whereL ((a.take k).map Itm.z) s.c 3 s.v ++ (if toB (atI x.r s.c) 3 s.v = true then [x.z] else [])) := by show _ = _; rw [where_take hlt, hx]
      have hxH : Hid (x ∈ a) := hxm
      obtain ⟨nn, hnn⟩ : ∃ nn, atI x.r s.c = nn := ⟨_, rfl⟩
      rw [hnn] at hcell hst
      rw [hp] at e0
      have hgX : Hid (Gr wr (wr.alloc (.cells #[.slice (some ⟨rb, ro, none⟩) x.r.length x.c, .int .i64 x.n] 66))) := (Gr.refl _).alloc _
      have y0 : (wr.alloc (.cells #[.slice (some ⟨rb, ro, none⟩) x.r.length x.c, .int .i64 x.n] 66)).cell? ⟨rb, ro + cn, none⟩ = some (.int .i64 nn) := (hgX.out.cell (p := ⟨rb, ro + cn, none⟩) hrb).trans hcell
      have k0 : (wr.alloc (.cells #[.slice (some ⟨rb, ro, none⟩) x.r.length x.c, .int .i64 x.n] 66)).cell? ⟨X, 0, none⟩ = some (.int .i64 2) := by rw [hgX.out.cell (p := ⟨X, 0, none⟩) hSt.out.lt, hSt.out.c0, hH.out.2.2.2.1]
      have k3 : (wr.alloc (.cells #[.slice (some ⟨rb, ro, none⟩) x.r.length x.c, .int .i64 x.n] 66)).cell? ⟨X, 3, none⟩ = some (.int .i64 (cn : Int)) := by rw [hgX.out.cell (p := ⟨X, 3, none⟩) hSt.out.lt, hSt.out.c3, hcn]
      have k4 : (wr.alloc (.cells #[.slice (some ⟨rb, ro, none⟩) x.r.length x.c, .int .i64 x.n] 66)).cell? ⟨X, 4, none⟩ = some (.int .i64 3) := by rw [hgX.out.cell (p := ⟨X, 4, none⟩) hSt.out.lt, hSt.out.c4, hH.out.2.2.2.2.2.1]
      have k5 : (wr.alloc (.cells #[.slice (some ⟨rb, ro, none⟩) x.r.length x.c, .int .i64 x.n] 66)).cell? ⟨X, 5, none⟩ = some (.int .i64 s.v) := by rw [hgX.out.cell (p := ⟨X, 5, none⟩) hSt.out.lt, hSt.out.c5]
      have hcz : (cn : Int) < (x.r.length : Int) := by omega
      have hpH : Hid (x.p = some ⟨rb, ro, none⟩) := hp
      clear hcs hx hxm hnn hp hcell hcl hcn
      obtain ⟨tt, htt⟩ : ∃ tt, toB nn 3 s.v = tt := ⟨_, rfl⟩
      have httH : Hid (toB nn 3 s.v = tt) := htt
      clear htt
      cases tt
      · have hno : ¬ s.v < nn := by simpa [toB] using httH.out
        have hfin : Hid (L.length ≤ k + 1 ∧ L.map Itm.z = whereL ((a.take (k + 1)).map Itm.z) s.c 3 s.v ∧ (∀ y ∈ L, y ∈ a) ∧ OwnG encT 2 66 (wr.alloc (.cells #[.slice (some ⟨rb, ro, none⟩) x.r.length x.c, .int .i64 x.n] 66)) w1.heap.size u7 L ∧ Below w1.heap.size w1 (wr.alloc (.cells #[.slice (some ⟨rb, ro, none⟩) x.r.length x.c, .int .i64 x.n] 66))) :=
          ⟨by have := hR.out.1; omega, by rw [hst.out, httH.out]; simpa using hR.out.2.1, hR.out.2.2.1, hR.out.2.2.2.1.gr hgX.out, hR.out.2.2.2.2.trans (hgX.out.below.mono hR.out.2.2.2.2.size)⟩
        go_wp2
        go_roundw
        case rel => exact ⟨k + 1, L, by omega, by go_num, rfl, hfin⟩
        case measure => simp [intOf]; omega
      · have hyes : s.v < nn := by simpa [toB] using httH.out
        have hoX : Hid (OwnG encT 2 66 ((wr.alloc (.cells #[.slice (some ⟨rb, ro, none⟩) x.r.length x.c, .int .i64 x.n] 66)).alloc (.cells #[.slice (some ⟨rb, ro, none⟩) x.r.length x.c, .int .i64 x.n] 66)) w1.heap.size u7 L ∧ RowG encT 2 ((wr.alloc (.cells #[.slice (some ⟨rb, ro, none⟩) x.r.length x.c, .int .i64 x.n] 66)).alloc (.cells #[.slice (some ⟨rb, ro, none⟩) x.r.length x.c, .int .i64 x.n] 66)) (some ⟨wr.heap.size + 1, 0, none⟩) [x] ∧ L.length + [x].length ≤ maxLen ∧ (L.length + [x].length) * 32 ≤ 140737488355328 ∧ Below w1.heap.size w1 ((wr.alloc (.cells #[.slice (some ⟨rb, ro, none⟩) x.r.length x.c, .int .i64 x.n] 66)).alloc (.cells #[.slice (some ⟨rb, ro, none⟩) x.r.length x.c, .int .i64 x.n] 66))) := by
          have hLk := hR.out.1
          have h1 : [x].length = 1 := rfl
          refine ⟨hR.out.2.2.2.1.gr (hgX.out.alloc _), ?_, by unfold maxLen; omega, by omega, hR.out.2.2.2.2.trans ((hgX.out.alloc _).below.mono hR.out.2.2.2.2.size)⟩
          rw [← hpH.out]
          exact rowNewT (by simp) x _
        go_wp2_with (at_builtin; refine wpList_append_ts _ rfl _ _ rfl w1.heap.size u7 L [x] (some ⟨wr.heap.size + 1, 0, none⟩) 1 rfl rfl hoX.out.1 hoX.out.2.1 (fun h => by cases h) hoX.out.2.2.1 hoX.out.2.2.2.1 hoX.out.2.2.2.2.size ?_; intro v3 w3 hown3 hg3)
        have hfin : Hid ((L ++ [x]).length ≤ k + 1 ∧ (L ++ [x]).map Itm.z = whereL ((a.take (k + 1)).map Itm.z) s.c 3 s.v ∧ (∀ y ∈ L ++ [x], y ∈ a) ∧ OwnG encT 2 66 w3 w1.heap.size v3 (L ++ [x]) ∧ Below w1.heap.size w1 w3) := by
          refine ⟨by have := hR.out.1; simp; omega, by rw [hst.out, httH.out, List.map_append, hR.out.2.1]; rfl, fun y hy => ?_, hown3, hoX.out.2.2.2.2.trans (hoX.out.1.grown_below hg3 hoX.out.2.2.2.2.size)⟩
          rcases List.mem_append.1 hy with h | h
          · exact hR.out.2.2.1 y h
          · rw [List.mem_singleton.1 h]; exact hxH.out
        clear hown3 hg3
        go_wp2
        go_roundw
        case rel => exact ⟨k + 1, L ++ [x], by omega, by go_num, rfl, hfin⟩
        case measure => simp [intOf]; omega
    · have hltz : ¬ (k : Int) < (a.length : Int) := by omega
      have hke : a.take k = a := List.take_of_length_le (by omega)
      have k0 : wr.cell? ⟨X, 0, none⟩ = some (.int .i64 2) := by rw [hSt.out.c0, hH.out.2.2.2.1]
      have hfin : Hid (L.map Itm.z = whereL (a.map Itm.z) s.c 3 s.v ∧ ∃ A2 cap2, u7 = .slice A2 L.length cap2 ∧ Items wr A2 L ∧ Below w.heap.size w wr) := by
        obtain ⟨A2, cap2, hv2, _, hit, _, _, _⟩ := OwnG.full encT_len hR.out.2.2.2.1
        refine ⟨by have := hR.out.2.1; rw [hke] at this; exact this, A2, cap2, hv2, ⟨hit, fun y hy => ?_⟩, hH.out.2.1.below.trans (hR.out.2.2.2.2.mono hH.out.2.1.below.size)⟩
        exact (hH.out.2.2.1.below hR.out.2.2.2.2).each y (hR.out.2.2.1 y hy)
      clear hke
      go_wp2_with fail
      refine Calls.mono (show Calls _ _ _ _ _ from onceN wr) ?_
      rintro e w4 ⟨C4, cp4, rfl, hb4⟩
      have hfin2 : Hid (L.map Itm.z = whereL (a.map Itm.z) s.c 3 s.v ∧ ∃ A2 cap2, u7 = .slice A2 L.length cap2 ∧ Items w4 A2 L ∧ Below w.heap.size w w4) := by
        obtain ⟨h1, A2, cap2, h2, h3, h4⟩ := hfin.out
        exact ⟨h1, A2, cap2, h2, h3.below hb4, h4.trans (hb4.mono h4.size)⟩
      clear hb4
      go_wp2
      obtain ⟨uu, huu⟩ : ∃ uu, u7 = uu := ⟨_, rfl⟩
      rw [huu] at hfin2
      go_loopw [7, 15] (fun u i wq => u = uu ∧ i = .int .i64 0 ∧ wq = w4) (fun _ _ _ => 0)
      case atStart => exact ⟨huu, rfl, rfl⟩
      case round =>
        obtain ⟨rfl, rfl, rfl⟩ := hrel
        obtain ⟨h1, A2, cap2, rfl, h3, h4⟩ := hfin2.out
        have hfin3 : Hid (L.map Itm.z = whereL (a.map Itm.z) s.c 3 s.v ∧ _ ∧ _) := ⟨h1, h3, h4⟩
        clear h1 h3 h4
        go_wp2
        go_ret
        exact ⟨L, A2, cap2, rfl, hfin3.out.1, hfin3.out.2.1, hfin3.out.2.2⟩
end Go.Proofs.YtnkpfhipgcmplaaGreatDoor

namespace Go.Proofs.YtnkpfhipgcmplaaGreatDoor
open Go.RowKit Go.Sort

theorem pick_take {l : List Itm} {k : Nat} (h : k < l.length) (cols : List Int) : pickL ((l.take (k + 1)).map Itm.z) cols = pickL ((l.take k).map Itm.z) cols ++ [(pickR cols l[k].r, l[k].n)] := by
  rw [List.take_succ_eq_append_getElem h, List.map_append]
  unfold pickL
  rw [List.map_append]
  rfl
theorem pickR_take {cols : List Int} {m : Nat} (h : m < cols.length) (r : List Int) : pickR (cols.take (m + 1)) r = pickR (cols.take m) r ++ [atI r cols[m]] := by
  unfold pickR
  rw [List.take_succ_eq_append_getElem h, List.map_append]
  rfl

set_option maxRecDepth 100000 in
set_option maxHeartbeats 1000000 in
theorem pick_any (l : List Itm) (A B : Option Addr) (cap cb : Nat) (cols : List Int) (w : World) (hl : l.length ≤ 400) (hcl : cols.length ≤ 8) (hr : Items w A l) (hrc : RowI w B cols) (hc : ∀ x ∈ l, ∀ c ∈ cols, inB c 0 ((x.r.length : Int) - 1) = true) :
    Calls Tryz.prog 95 #[.slice A l.length cap, .slice B cols.length cb] w fun e w' => ∃ (L : List Itm) (C : Option Addr) (k : Nat), e = .returned (.slice C L.length k) ∧ L.map Itm.z = pickL (l.map Itm.z) cols ∧ Lv w' C k L ∧ L.length ≤ 400 ∧ Below w.heap.size w w' := by
  have hrH : Hid (Items w A l ∧ RowI w B cols) := ⟨hr, hrc⟩
  have hcH : Hid (∀ x ∈ l, ∀ c ∈ cols, inB c 0 ((x.r.length : Int) - 1) = true) := hc
  clear hr hc hrc
  go_enter Tryz.func95, Tryz.ntmps95
  go_wp2
  go_loopw [5, 13] (fun u i wr => ∃ (k : Nat) (L : List Itm), k ≤ l.length ∧ i = .int .i64 k ∧ Hid (L.length = k ∧ L.map Itm.z = pickL ((l.take k).map Itm.z) cols ∧ OwnT wr w.heap.size u L ∧ Below w.heap.size w wr)) (fun _ i _ => l.length - (intOf i).toNat)
  case atStart => exact ⟨0, [], Nat.zero_le _, rfl, rfl, rfl, OwnT.nil _ _, Below.refl _ _⟩
  case round =>
    obtain ⟨k, L, hk, rfl, hR⟩ := hrel
    by_cases hlt : k < l.length
    · have hltz : (k : Int) < (l.length : Int) := by omega
      have hI : Hid (Items wr A l ∧ RowI wr B cols) := ⟨hrH.out.1.below hR.out.2.2.2, hrH.out.2.below hR.out.2.2.2⟩
      obtain ⟨bb, off, rfl, hb, hcs⟩ := hI.out.1.at hlt
      obtain ⟨x, hx⟩ : ∃ x, l[k] = x := ⟨_, rfl⟩
      obtain ⟨e0, e1⟩ := hcs k hlt
      rw [hx] at e0 e1
      have hxm : Hid (x ∈ l) := by show _ ∈ _; rw [← hx]; exact List.getElem_mem hlt
      have hst : Hid (pickL ((l.take (k + 1)).map Itm.z) cols = pickL ((l.take k).map Itm.z) cols ++ [(pickR cols x.r, x.n)]) := by show _ = _; rw [pick_take hlt, hx]
      have hgX : Hid (Gr wr (wr.alloc (.cells #[.slice x.p x.r.length x.c, .int .i64 x.n] 66))) := (Gr.refl _).alloc _
      obtain ⟨wX, hwX⟩ : ∃ wX, (wr.alloc (.cells #[.slice x.p x.r.length x.c, .int .i64 x.n] 66)) = wX := ⟨_, rfl⟩
      have y0 : wX.cell? ⟨wr.heap.size, 0, none⟩ = some (.slice x.p x.r.length x.c) := by rw [← hwX]; exact box1 (Gr.refl _) rfl
      have y1 : wX.cell? ⟨wr.heap.size, 1, none⟩ = some (.int .i64 x.n) := by rw [← hwX]; exact box1 (Gr.refl _) rfl
      have hsX : wr.heap.size < wX.heap.size := by rw [← hwX]; simp
      rw [hwX] at hgX
      clear hcs hx
      go_wp2
      clear hwX
      obtain ⟨xb, hxb⟩ : ∃ xb, wr.heap.size = xb := ⟨_, rfl⟩
      have hRx : Hid (RowI wX x.p x.r ∧ RowI wX B cols ∧ xb = wr.heap.size) := ⟨(hI.out.1.each x hxm.out).1.gr hgX.out, hI.out.2.gr hgX.out, hxb.symm⟩
      rw [hxb] at y0 y1 hsX ⊢
      clear hxb e0 e1 hb
      have hO : Hid (OwnT wX w.heap.size u5 L ∧ Below w.heap.size w wX ∧ L.length = k ∧ L.map Itm.z = pickL ((l.take k).map Itm.z) cols) := ⟨hR.out.2.2.1.gr hgX.out, hR.out.2.2.2.trans (hgX.out.below.mono hR.out.2.2.2.size), hR.out.1, hR.out.2.1⟩
      have hcx : Hid (∀ c ∈ cols, inB c 0 ((x.r.length : Int) - 1) = true) := hcH.out x hxm.out
      clear hR hgX hI
      go_loopw [8, 19] (fun u i wi => ∃ m : Nat, m ≤ cols.length ∧ i = .int .i64 m ∧ Hid (OwnI wi wX.heap.size u (pickR (cols.take m) x.r) ∧ Below wX.heap.size wX wi)) (fun _ i _ => cols.length - (intOf i).toNat)
      case atStart => exact ⟨0, Nat.zero_le _, rfl, OwnG.nil _ _ _ _ _, Below.refl _ _⟩
      case round =>
        obtain ⟨m, hm, rfl, hS⟩ := hrel
        have z0 : wr.cell? ⟨xb, 0, none⟩ = some (.slice x.p x.r.length x.c) := (hS.out.2.cell (p := ⟨xb, 0, none⟩) hsX).trans y0
        have z1 : wr.cell? ⟨xb, 1, none⟩ = some (.int .i64 x.n) := (hS.out.2.cell (p := ⟨xb, 1, none⟩) hsX).trans y1
        have hlenP : (pickR (cols.take m) x.r).length ≤ 8 := by unfold pickR; simp; omega
        by_cases hlt2 : m < cols.length
        · have hltz2 : (m : Int) < (cols.length : Int) := by omega
          have hRw : Hid (RowI wr x.p x.r ∧ RowI wr B cols) := ⟨hRx.out.1.below hS.out.2, hRx.out.2.1.below hS.out.2⟩
          obtain ⟨b2, off2, rfl, hb2, hc2⟩ := hRw.out.2.at hlt2
          obtain ⟨c, hcc⟩ : ∃ c, cols[m] = c := ⟨_, rfl⟩
          have e2 : wr.cell? ⟨b2, off2 + m, none⟩ = some (.int .i64 c) := by
            have := hc2 m hlt2 0 (by omega)
            rw [hcc] at this
            simpa [encI] using this
          have hst2 : Hid (pickR (cols.take (m + 1)) x.r = pickR (cols.take m) x.r ++ [atI x.r c]) := by show _ = _; rw [pickR_take hlt2, hcc]
          obtain ⟨rb, ro, cn, hp, hrb, hcn, hcl2, hcell⟩ := rowI_atI hRw.out.1 (hcx.out c (by rw [← hcc]; exact List.getElem_mem hlt2))
          obtain ⟨nn, hnn⟩ : ∃ nn, atI x.r c = nn := ⟨_, rfl⟩
          rw [hnn] at hcell hst2
          rw [hp] at z0
          have hcz : (cn : Int) < (x.r.length : Int) := by omega
          obtain rfl := hcn
          clear hc2 hcc hp hnn hcl2
          have hoX : Hid (OwnI (wr.alloc (.cells #[.int .i64 nn] 3)) wX.heap.size u8 (pickR (cols.take m) x.r) ∧ RowI (wr.alloc (.cells #[.int .i64 nn] 3)) (some ⟨wr.heap.size, 0, none⟩) [nn] ∧ (pickR (cols.take m) x.r).length + [nn].length ≤ maxLen ∧ ((pickR (cols.take m) x.r).length + [nn].length) * 8 ≤ 140737488355328 ∧ Below wX.heap.size wX (wr.alloc (.cells #[.int .i64 nn] 3))) :=
            ⟨hS.out.1.gr ((Gr.refl _).alloc _), rowNewI rfl nn _, by unfold maxLen; simp; omega, by simp; omega, hS.out.2.alloc hS.out.2.size _⟩
          go_wp2_with (at_builtin; refine wpList_append_i _ rfl (.tmp 23) (.tmp 29) rfl wX.heap.size u8 (pickR (cols.take m) x.r) [nn] (some ⟨wr.heap.size, 0, none⟩) 1 rfl rfl hoX.out.1 hoX.out.2.1 (fun h => by cases h) hoX.out.2.2.1 hoX.out.2.2.2.1 hoX.out.2.2.2.2.size ?_; intro v3 w3 hown3 hg3)
          have hfin : Hid (OwnI w3 wX.heap.size v3 (pickR (cols.take (m + 1)) x.r) ∧ Below wX.heap.size wX w3) := ⟨by rw [hst2.out]; exact hown3, hoX.out.2.2.2.2.trans (hoX.out.1.grown_below hg3 hoX.out.2.2.2.2.size)⟩
          clear hown3 hg3
          go_roundw
          case rel => exact ⟨m + 1, by omega, by go_num, hfin.out⟩
          case measure => simp [intOf]; omega
        · have hltz2 : ¬ (m : Int) < (cols.length : Int) := by omega
          have hke : cols.take m = cols := List.take_of_length_le (by omega)
          rw [hke] at hS hlenP
          obtain ⟨C, cc, hv2, hn2, hit, hpl⟩ := hS.out.1.row encI_len
          obtain ⟨PR, hPR⟩ : ∃ PR, pickR cols x.r = PR := ⟨_, rfl⟩
          rw [hPR] at hst hS hv2 hit hlenP
          subst hv2
          have hbW : Hid (Below w.heap.size w wr ∧ w.heap.size ≤ wX.heap.size) := ⟨hO.out.2.1.trans (hS.out.2.mono hO.out.2.1.size), hO.out.2.1.size⟩
          have hoX : Hid (OwnT (wr.alloc (.cells #[.slice C PR.length cc, .int .i64 x.n] 66)) w.heap.size u5 L ∧ RowG encT 2 (wr.alloc (.cells #[.slice C PR.length cc, .int .i64 x.n] 66)) (some ⟨wr.heap.size, 0, none⟩) [⟨C, cc, PR, x.n⟩] ∧ Apart (wr.alloc (.cells #[.slice C PR.length cc, .int .i64 x.n] 66)) w.heap.size u5.ownBlock ⟨C, cc, PR, x.n⟩ ∧ L.length + 1 ≤ maxLen ∧ (L.length + 1) * 32 ≤ 140737488355328 ∧ Below w.heap.size w (wr.alloc (.cells #[.slice C PR.length cc, .int .i64 x.n] 66))) := by
            have hLk := hO.out.2.2.1
            refine ⟨(hO.out.1.below hS.out.2).gr ((Gr.refl _).alloc _), rowNewT rfl ⟨C, cc, PR, x.n⟩ _, ⟨hit.gr ((Gr.refl _).alloc _), Nat.le_trans hlenP (by decide), hn2, fun a ha => ⟨?_, ?_, ?_⟩⟩, by unfold maxLen; omega, by omega, hbW.out.1.alloc hbW.out.1.size _⟩
            · have h1 := (hpl a ha).1
              have h2 := hbW.out.2
              omega
            · have h1 := (hpl a ha).2
              simp; omega
            · intro e
              have h1 := (World.ownsRow.lt hO.out.1.own a.block e).2
              have h2 := (hpl a ha).1
              omega
          clear hke hit hn2 hpl hPR
          go_wp2_with (at_builtin; refine wpList_append_t _ rfl _ _ rfl w.heap.size u5 L ⟨C, cc, PR, x.n⟩ ⟨wr.heap.size, 0, none⟩ 1 rfl rfl hoX.out.1 hoX.out.2.1 hoX.out.2.2.1 hoX.out.2.2.2.1 hoX.out.2.2.2.2.1 hoX.out.2.2.2.2.2.size ?_; intro v3 w3 hown3 hg3)
          have hfin : Hid ((L ++ [(⟨C, cc, PR, x.n⟩ : Itm)]).length = k + 1 ∧ (L ++ [(⟨C, cc, PR, x.n⟩ : Itm)]).map Itm.z = pickL ((l.take (k + 1)).map Itm.z) cols ∧ OwnT w3 w.heap.size v3 (L ++ [⟨C, cc, PR, x.n⟩]) ∧ Below w.heap.size w w3) :=
            ⟨by have := hO.out.2.2.1; simp; omega, by rw [hst.out, List.map_append, hO.out.2.2.2]; rfl, hown3, hoX.out.2.2.2.2.2.trans hg3⟩
          clear hown3 hg3
          go_roundw
          case rel => exact ⟨k + 1, L ++ [(⟨C, cc, PR, x.n⟩ : Itm)], by omega, by go_num, hfin⟩
          case measure => simp [intOf]; omega
    · have hltz : ¬ (k : Int) < (l.length : Int) := by omega
      have hke : l.take k = l := List.take_of_length_le (by omega)
      obtain ⟨A2, cap2, hv2, hn2, hit, _⟩ := hR.out.2.2.1.items
      have hlL : L.length ≤ 400 := by have := hR.out.1; omega
      have hfin : Hid (L.map Itm.z = pickL (l.map Itm.z) cols ∧ Lv wr A2 cap2 L ∧ Below w.heap.size w wr) := ⟨by have := hR.out.2.1; rw [hke] at this; exact this, ⟨hit, hn2, by unfold maxLen; omega⟩, hR.out.2.2.2⟩
      subst hv2
      clear hke hit hn2
      go_wp2
      go_ret
      exact ⟨L, A2, cap2, rfl, hfin.out.1, hfin.out.2.1, hlL, hfin.out.2.2⟩
end Go.Proofs.YtnkpfhipgcmplaaGreatDoor
