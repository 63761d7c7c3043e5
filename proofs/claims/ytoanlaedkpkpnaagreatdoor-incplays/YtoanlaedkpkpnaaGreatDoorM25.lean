/-
  viewref.made of where.
  viewref.made of where.
  viewref.made of pick.
-/
import Derived.Test.YtoanlaedkpkpnaaGreatDoorM24
import Derived.Test.YtoanlaedkpkpnaaGreatDoorM12
import Derived.Deep.RegionHeld3
namespace Go.Proofs.YtoanlaedkpkpnaaGreatDoor
open Go.RowKit Go.Sort

set_option maxRecDepth 100000 in
set_option maxHeartbeats 1000000 in
theorem made22 (s : Stp) (a b : List Itm) (A B : Option Addr) (ca cb : Nat) (w : World) (hk : s.k = 2) (hl : a.length ≤ 400) (ha : Items w A a) (ho : s.o = 2) (hc : ∀ x ∈ a, inB s.c 0 ((x.r.length : Int) - 1) = true) :
    Calls Tryz.prog 37 #[.agg #[.int .i64 s.k, .int .i64 s.a, .int .i64 s.b, .int .i64 s.c, .int .i64 s.o, .int .i64 s.v, .slice s.p s.l.length s.n], .slice A a.length ca, .slice B b.length cb] w fun e w' => ∃ (L : List Itm) (C : Option Addr) (k : Nat), e = .returned (.slice C L.length k) ∧ L.map Itm.z = whereL (a.map Itm.z) s.c 2 s.v ∧ Items w' C L ∧ Below w.heap.size w w' := by
  have hS0 := StAt.new w s
  have hg0 : Gr w (w.alloc (.cells #[.int .i64 s.k, .int .i64 s.a, .int .i64 s.b, .int .i64 s.c, .int .i64 s.o, .int .i64 s.v, .slice s.p s.l.length s.n] 64)) := (Gr.refl w).alloc _
  obtain ⟨w1, hw1⟩ : ∃ w1, w.alloc (.cells #[.int .i64 s.k, .int .i64 s.a, .int .i64 s.b, .int .i64 s.c, .int .i64 s.o, .int .i64 s.v, .slice s.p s.l.length s.n] 64) = w1 := ⟨_, rfl⟩
  rw [hw1] at hS0 hg0
  obtain ⟨X, hX⟩ : ∃ X, w.heap.size = X := ⟨_, rfl⟩
  have hH : Hid (StAt w1 X s ∧ Gr w w1 ∧ Items w1 A a ∧ s.k = 2 ∧ w.heap.size = X ∧ s.o = 2 ∧ ∀ x ∈ a, inB s.c 0 ((x.r.length : Int) - 1) = true) := ⟨hX ▸ hS0, hg0, ha.gr hg0, hk, hX, ho, hc⟩
  clear hS0 hg0 ha hk ho hc
  go_enter Tryz.func37, Tryz.ntmps37
  go_wp2
  try rw [hw1]
  try rw [hX]
  clear hw1 hX
  go_loopw [7, 8, 9] (fun u v i wr => ∃ (k : Nat) (L : List Itm), k ≤ a.length ∧ i = .int .i64 k ∧ v = .slice none 0 0 ∧ Hid (L.length ≤ k ∧ L.map Itm.z = whereL ((a.take k).map Itm.z) s.c 2 s.v ∧ (∀ y ∈ L, y ∈ a) ∧ OwnG encT 2 59 wr w1.heap.size u L ∧ Below w1.heap.size w1 wr)) (fun _ _ i _ => a.length - (intOf i).toNat)
  case atStart => exact ⟨0, [], Nat.zero_le _, rfl, rfl, Nat.le_refl _, rfl, fun x hx => (by cases hx), OwnG.nil _ _ _ _ _, Below.refl _ _⟩
  case round =>
    obtain ⟨k, L, hk, rfl, rfl, hR⟩ := hrel
    have hSt : Hid (StAt wr X s) := hH.out.1.below hR.out.2.2.2.2
    by_cases hlt : k < a.length
    · have hltz : (k : Int) < (a.length : Int) := by omega
      have hI : Hid (Items wr A a) := hH.out.2.2.1.below hR.out.2.2.2.2
      obtain ⟨bb, off, rfl, hb, hcs⟩ := hI.out.at hlt
      obtain ⟨x, hx⟩ : ∃ x, a[k] = x := ⟨_, rfl⟩
      obtain ⟨e0, e1⟩ := hcs k hlt
      rw [hx] at e0 e1
      have hxm : x ∈ a := by rw [← hx]; exact List.getElem_mem hlt
      obtain ⟨rb, ro, cn, hp, hrb, hcn, hcl, hcell⟩ := rowI_atI (hI.out.each x hxm).1 (hH.out.2.2.2.2.2.2 x hxm)
      have hst : Hid (whereL ((a.take (k + 1)).map Itm.z) s.c 2 s.v = whereL ((a.take k).map Itm.z) s.c 2 s.v ++ (if toB (atI x.r s.c) 2 s.v = true then [x.z] else [])) := by show _ = _; rw [where_take hlt, hx]
      have hxH : Hid (x ∈ a) := hxm
      obtain ⟨nn, hnn⟩ : ∃ nn, atI x.r s.c = nn := ⟨_, rfl⟩
      rw [hnn] at hcell hst
      rw [hp] at e0
      have hgX : Hid (Gr wr (wr.alloc (.cells #[.slice (some ⟨rb, ro, none⟩) x.r.length x.c, .int .i64 x.n] 59))) := (Gr.refl _).alloc _
      have y0 : (wr.alloc (.cells #[.slice (some ⟨rb, ro, none⟩) x.r.length x.c, .int .i64 x.n] 59)).cell? ⟨rb, ro + cn, none⟩ = some (.int .i64 nn) := (hgX.out.cell (p := ⟨rb, ro + cn, none⟩) hrb).trans hcell
      have k0 : (wr.alloc (.cells #[.slice (some ⟨rb, ro, none⟩) x.r.length x.c, .int .i64 x.n] 59)).cell? ⟨X, 0, none⟩ = some (.int .i64 2) := by rw [hgX.out.cell (p := ⟨X, 0, none⟩) hSt.out.lt, hSt.out.c0, hH.out.2.2.2.1]
      have k3 : (wr.alloc (.cells #[.slice (some ⟨rb, ro, none⟩) x.r.length x.c, .int .i64 x.n] 59)).cell? ⟨X, 3, none⟩ = some (.int .i64 (cn : Int)) := by rw [hgX.out.cell (p := ⟨X, 3, none⟩) hSt.out.lt, hSt.out.c3, hcn]
      have k4 : (wr.alloc (.cells #[.slice (some ⟨rb, ro, none⟩) x.r.length x.c, .int .i64 x.n] 59)).cell? ⟨X, 4, none⟩ = some (.int .i64 2) := by rw [hgX.out.cell (p := ⟨X, 4, none⟩) hSt.out.lt, hSt.out.c4, hH.out.2.2.2.2.2.1]
      have k5 : (wr.alloc (.cells #[.slice (some ⟨rb, ro, none⟩) x.r.length x.c, .int .i64 x.n] 59)).cell? ⟨X, 5, none⟩ = some (.int .i64 s.v) := by rw [hgX.out.cell (p := ⟨X, 5, none⟩) hSt.out.lt, hSt.out.c5]
      have hcz : (cn : Int) < (x.r.length : Int) := by omega
      have hpH : Hid (x.p = some ⟨rb, ro, none⟩) := hp
      clear hcs hx hxm hnn hp hcell hcl hcn
      obtain ⟨tt, htt⟩ : ∃ tt, toB nn 2 s.v = tt := ⟨_, rfl⟩
      have httH : Hid (toB nn 2 s.v = tt) := htt
      clear htt
      cases tt
      · have hno : ¬ nn = s.v := by simpa [toB] using httH.out
        have hno2 : (nn == s.v) = false := beq_eq_false_iff_ne.2 hno
        have hfin : Hid (L.length ≤ k + 1 ∧ L.map Itm.z = whereL ((a.take (k + 1)).map Itm.z) s.c 2 s.v ∧ (∀ y ∈ L, y ∈ a) ∧ OwnG encT 2 59 (wr.alloc (.cells #[.slice (some ⟨rb, ro, none⟩) x.r.length x.c, .int .i64 x.n] 59)) w1.heap.size u7 L ∧ Below w1.heap.size w1 (wr.alloc (.cells #[.slice (some ⟨rb, ro, none⟩) x.r.length x.c, .int .i64 x.n] 59))) :=
          ⟨by have := hR.out.1; omega, by rw [hst.out, httH.out]; simpa using hR.out.2.1, hR.out.2.2.1, hR.out.2.2.2.1.gr hgX.out, hR.out.2.2.2.2.trans (hgX.out.below.mono hR.out.2.2.2.2.size)⟩
        go_wp2
        go_roundw
        case rel => exact ⟨k + 1, L, by omega, by go_num, rfl, hfin⟩
        case measure => simp [intOf]; omega
      · have hyes : nn = s.v := by simpa [toB] using httH.out
        have hyes2 : (nn == s.v) = true := beq_iff_eq.2 hyes
        have hoX : Hid (OwnG encT 2 59 ((wr.alloc (.cells #[.slice (some ⟨rb, ro, none⟩) x.r.length x.c, .int .i64 x.n] 59)).alloc (.cells #[.slice (some ⟨rb, ro, none⟩) x.r.length x.c, .int .i64 x.n] 59)) w1.heap.size u7 L ∧ RowG encT 2 ((wr.alloc (.cells #[.slice (some ⟨rb, ro, none⟩) x.r.length x.c, .int .i64 x.n] 59)).alloc (.cells #[.slice (some ⟨rb, ro, none⟩) x.r.length x.c, .int .i64 x.n] 59)) (some ⟨wr.heap.size + 1, 0, none⟩) [x] ∧ L.length + [x].length ≤ maxLen ∧ (L.length + [x].length) * 32 ≤ 140737488355328 ∧ Below w1.heap.size w1 ((wr.alloc (.cells #[.slice (some ⟨rb, ro, none⟩) x.r.length x.c, .int .i64 x.n] 59)).alloc (.cells #[.slice (some ⟨rb, ro, none⟩) x.r.length x.c, .int .i64 x.n] 59))) := by
          have hLk := hR.out.1
          have h1 : [x].length = 1 := rfl
          refine ⟨hR.out.2.2.2.1.gr (hgX.out.alloc _), ?_, by unfold maxLen; omega, by omega, hR.out.2.2.2.2.trans ((hgX.out.alloc _).below.mono hR.out.2.2.2.2.size)⟩
          rw [← hpH.out]
          exact rowNewT (by simp) x _
        go_wp2_with (at_builtin; refine wpList_append_ts _ rfl _ _ rfl w1.heap.size u7 L [x] (some ⟨wr.heap.size + 1, 0, none⟩) 1 rfl rfl hoX.out.1 hoX.out.2.1 (fun h => by cases h) hoX.out.2.2.1 hoX.out.2.2.2.1 hoX.out.2.2.2.2.size ?_; intro v3 w3 hown3 hg3)
        have hfin : Hid ((L ++ [x]).length ≤ k + 1 ∧ (L ++ [x]).map Itm.z = whereL ((a.take (k + 1)).map Itm.z) s.c 2 s.v ∧ (∀ y ∈ L ++ [x], y ∈ a) ∧ OwnG encT 2 59 w3 w1.heap.size v3 (L ++ [x]) ∧ Below w1.heap.size w1 w3) := by
          refine ⟨by have := hR.out.1; simp; omega, by rw [hst.out, httH.out, List.map_append, hR.out.2.1]; rfl, fun y hy => ?_, hown3, hoX.out.2.2.2.2.trans (hoX.out.1.grown_below hg3 hoX.out.2.2.2.2.size)⟩
          rcases List.mem_append.1 hy with h | h
          · exact hR.out.2.2.1 y h
          · rw [List.mem_singleton.1 h]; exact hxH.out
        clear hown3 hg3
        go_wp2
        go_roundw
        case rel => exact ⟨k + 1, L ++ [x], by omega, by go_num, rfl, hfin⟩
        case measure => simp [intOf]; omega
    · have hltz : ¬ (k : Int) < (a.length : Int) := by omega
      have hke : a.take k = a := List.take_of_length_le (by omega)
      have k0 : wr.cell? ⟨X, 0, none⟩ = some (.int .i64 2) := by rw [hSt.out.c0, hH.out.2.2.2.1]
      have hfin : Hid (L.map Itm.z = whereL (a.map Itm.z) s.c 2 s.v ∧ ∃ A2 cap2, u7 = .slice A2 L.length cap2 ∧ Items wr A2 L ∧ Below w.heap.size w wr) := by
        obtain ⟨A2, cap2, hv2, _, hit, _, _, _⟩ := OwnG.full encT_len hR.out.2.2.2.1
        refine ⟨by have := hR.out.2.1; rw [hke] at this; exact this, A2, cap2, hv2, ⟨hit, fun y hy => ?_⟩, hH.out.2.1.below.trans (hR.out.2.2.2.2.mono hH.out.2.1.below.size)⟩
        exact (hH.out.2.2.1.below hR.out.2.2.2.2).each y (hR.out.2.2.1 y hy)
      clear hke
      go_wp2_with fail
      refine Calls.mono (show Calls _ _ _ _ _ from onceN wr) ?_
      rintro e w4 ⟨C4, cp4, rfl, hb4⟩
      have hfin2 : Hid (L.map Itm.z = whereL (a.map Itm.z) s.c 2 s.v ∧ ∃ A2 cap2, u7 = .slice A2 L.length cap2 ∧ Items w4 A2 L ∧ Below w.heap.size w w4) := by
        obtain ⟨h1, A2, cap2, h2, h3, h4⟩ := hfin.out
        exact ⟨h1, A2, cap2, h2, h3.below hb4, h4.trans (hb4.mono h4.size)⟩
      clear hb4
      go_wp2
      obtain ⟨uu, huu⟩ : ∃ uu, u7 = uu := ⟨_, rfl⟩
      rw [huu] at hfin2
      go_loopw [7, 15] (fun u i wq => u = uu ∧ i = .int .i64 0 ∧ wq = w4) (fun _ _ _ => 0)
      case atStart => exact ⟨huu, rfl, rfl⟩
      case round =>
        obtain ⟨rfl, rfl, rfl⟩ := hrel
        obtain ⟨h1, A2, cap2, rfl, h3, h4⟩ := hfin2.out
        have hfin3 : Hid (L.map Itm.z = whereL (a.map Itm.z) s.c 2 s.v ∧ _ ∧ _) := ⟨h1, h3, h4⟩
        clear h1 h3 h4
        go_wp2
        go_ret
        exact ⟨L, A2, cap2, rfl, hfin3.out.1, hfin3.out.2.1, hfin3.out.2.2⟩
end Go.Proofs.YtoanlaedkpkpnaaGreatDoor

namespace Go.Proofs.YtoanlaedkpkpnaaGreatDoor
open Go.RowKit Go.Sort

set_option maxRecDepth 100000 in
set_option maxHeartbeats 1000000 in
theorem made23 (s : Stp) (a b : List Itm) (A B : Option Addr) (ca cb : Nat) (w : World) (hk : s.k = 2) (hl : a.length ≤ 400) (ha : Items w A a) (ho : s.o = 3) (hc : ∀ x ∈ a, inB s.c 0 ((x.r.length : Int) - 1) = true) :
    Calls Tryz.prog 37 #[.agg #[.int .i64 s.k, .int .i64 s.a, .int .i64 s.b, .int .i64 s.c, .int .i64 s.o, .int .i64 s.v, .slice s.p s.l.length s.n], .slice A a.length ca, .slice B b.length cb] w fun e w' => ∃ (L : List Itm) (C : Option Addr) (k : Nat), e = .returned (.slice C L.length k) ∧ L.map Itm.z = whereL (a.map Itm.z) s.c 3 s.v ∧ Items w' C L ∧ Below w.heap.size w w' := by
  have hS0 := StAt.new w s
  have hg0 : Gr w (w.alloc (.cells #[.int .i64 s.k, .int .i64 s.a, .int .i64 s.b, .int .i64 s.c, .int .i64 s.o, .int .i64 s.v, .slice s.p s.l.length s.n] 64)) := (Gr.refl w).alloc _
  obtain ⟨w1, hw1⟩ : ∃ w1, w.alloc (.cells #[.int .i64 s.k, .int .i64 s.a, .int .i64 s.b, .int .i64 s.c, .int .i64 s.o, .int .i64 s.v, .slice s.p s.l.length s.n] 64) = w1 := ⟨_, rfl⟩
  rw [hw1] at hS0 hg0
  obtain ⟨X, hX⟩ : ∃ X, w.heap.size = X := ⟨_, rfl⟩
  have hH : Hid (StAt w1 X s ∧ Gr w w1 ∧ Items w1 A a ∧ s.k = 2 ∧ w.heap.size = X ∧ s.o = 3 ∧ ∀ x ∈ a, inB s.c 0 ((x.r.length : Int) - 1) = true) := ⟨hX ▸ hS0, hg0, ha.gr hg0, hk, hX, ho, hc⟩
  clear hS0 hg0 ha hk ho hc
  go_enter Tryz.func37, Tryz.ntmps37
  go_wp2
  try rw [hw1]
  try rw [hX]
  clear hw1 hX
  go_loopw [7, 8, 9] (fun u v i wr => ∃ (k : Nat) (L : List Itm), k ≤ a.length ∧ i = .int .i64 k ∧ v = .slice none 0 0 ∧ Hid (L.length ≤ k ∧ L.map Itm.z = whereL ((a.take k).map Itm.z) s.c 3 s.v ∧ (∀ y ∈ L, y ∈ a) ∧ OwnG encT 2 59 wr w1.heap.size u L ∧ Below w1.heap.size w1 wr)) (fun _ _ i _ => a.length - (intOf i).toNat)
  case atStart => exact ⟨0, [], Nat.zero_le _, rfl, rfl, Nat.le_refl _, rfl, fun x hx => (by cases hx), OwnG.nil _ _ _ _ _, Below.refl _ _⟩
  case round =>
    obtain ⟨k, L, hk, rfl, rfl, hR⟩ := hrel
    have hSt : Hid (StAt wr X s) := hH.out.1.below hR.out.2.2.2.2
    by_cases hlt : k < a.length
    · have hltz : (k : Int) < (a.length : Int) := by omega
      have hI : Hid (Items wr A a) := hH.out.2.2.1.below hR.out.2.2.2.2
      obtain ⟨bb, off, rfl, hb, hcs⟩ := hI.out.at hlt
      obtain ⟨x, hx⟩ : ∃ x, a[k] = x := ⟨_, rfl⟩
      obtain ⟨e0, e1⟩ := hcs k hlt
      rw [hx] at e0 e1
      have hxm : x ∈ a := by rw [← hx]; exact List.getElem_mem hlt
      obtain ⟨rb, ro, cn, hp, hrb, hcn, hcl, hcell⟩ := rowI_atI (hI.out.each x hxm).1 (hH.out.2.2.2.2.2.2 x hxm)
      have hst : Hid (whereL ((a.take (k + 1)).map Itm.z) s.c 3 s.v = whereL ((a.take k).map Itm.z) s.c 3 s.v ++ (if toB (atI x.r s.c) 3 s.v = true then [x.z] else [])) := by show _ = _; rw [where_take hlt, hx]
      have hxH : Hid (x ∈ a) := hxm
      obtain ⟨nn, hnn⟩ : ∃ nn, atI x.r s.c = nn := ⟨_, rfl⟩
      rw [hnn] at hcell hst
      rw [hp] at e0
      have hgX : Hid (Gr wr (wr.alloc (.cells #[.slice (some ⟨rb, ro, none⟩) x.r.length x.c, .int .i64 x.n] 59))) := (Gr.refl _).alloc _
      have y0 : (wr.alloc (.cells #[.slice (some ⟨rb, ro, none⟩) x.r.length x.c, .int .i64 x.n] 59)).cell? ⟨rb, ro + cn, none⟩ = some (.int .i64 nn) := (hgX.out.cell (p := ⟨rb, ro + cn, none⟩) hrb).trans hcell
      have k0 : (wr.alloc (.cells #[.slice (some ⟨rb, ro, none⟩) x.r.length x.c, .int .i64 x.n] 59)).cell? ⟨X, 0, none⟩ = some (.int .i64 2) := by rw [hgX.out.cell (p := ⟨X, 0, none⟩) hSt.out.lt, hSt.out.c0, hH.out.2.2.2.1]
      have k3 : (wr.alloc (.cells #[.slice (some ⟨rb, ro, none⟩) x.r.length x.c, .int .i64 x.n] 59)).cell? ⟨X, 3, none⟩ = some (.int .i64 (cn : Int)) := by rw [hgX.out.cell (p := ⟨X, 3, none⟩) hSt.out.lt, hSt.out.c3, hcn]
      have k4 : (wr.alloc (.cells #[.slice (some ⟨rb, ro, none⟩) x.r.length x.c, .int .i64 x.n] 59)).cell? ⟨X, 4, none⟩ = some (.int .i64 3) := by rw [hgX.out.cell (p := ⟨X, 4, none⟩) hSt.out.lt, hSt.out.c4, hH.out.2.2.2.2.2.1]
      have k5 : (wr.alloc (.cells #[.slice (some ⟨rb, ro, none⟩) x.r.length x.c, .int .i64 x.n] 59)).cell? ⟨X, 5, none⟩ = some (.int .i64 s.v) := by rw [hgX.out.cell (p := ⟨X, 5, none⟩) hSt.out.lt, hSt.out.c5]
      have hcz : (cn : Int) < (x.r.length : Int) := by omega
      have hpH : Hid (x.p = some ⟨rb, ro, none⟩) := hp
      clear hcs hx hxm hnn hp hcell hcl hcn
      obtain ⟨tt, htt⟩ : ∃ tt, toB nn 3 s.v = tt := ⟨_, rfl⟩
      have httH : Hid (toB nn 3 s.v = tt) := htt
      clear htt
      cases tt
      · have hno : ¬ s.v < nn := by simpa [toB] using httH.out
        have hfin : Hid (L.length ≤ k + 1 ∧ L.map Itm.z = whereL ((a.take (k + 1)).map Itm.z) s.c 3 s.v ∧ (∀ y ∈ L, y ∈ a) ∧ OwnG encT 2 59 (wr.alloc (.cells #[.slice (some ⟨rb, ro, none⟩) x.r.length x.c, .int .i64 x.n] 59)) w1.heap.size u7 L ∧ Below w1.heap.size w1 (wr.alloc (.cells #[.slice (some ⟨rb, ro, none⟩) x.r.length x.c, .int .i64 x.n] 59))) :=
          ⟨by have := hR.out.1; omega, by rw [hst.out, httH.out]; simpa using hR.out.2.1, hR.out.2.2.1, hR.out.2.2.2.1.gr hgX.out, hR.out.2.2.2.2.trans (hgX.out.below.mono hR.out.2.2.2.2.size)⟩
        go_wp2
        go_roundw
        case rel => exact ⟨k + 1, L, by omega, by go_num, rfl, hfin⟩
        case measure => simp [intOf]; omega
      · have hyes : s.v < nn := by simpa [toB] using httH.out
        have hoX : Hid (OwnG encT 2 59 ((wr.alloc (.cells #[.slice (some ⟨rb, ro, none⟩) x.r.length x.c, .int .i64 x.n] 59)).alloc (.cells #[.slice (some ⟨rb, ro, none⟩) x.r.length x.c, .int .i64 x.n] 59)) w1.heap.size u7 L ∧ RowG encT 2 ((wr.alloc (.cells #[.slice (some ⟨rb, ro, none⟩) x.r.length x.c, .int .i64 x.n] 59)).alloc (.cells #[.slice (some ⟨rb, ro, none⟩) x.r.length x.c, .int .i64 x.n] 59)) (some ⟨wr.heap.size + 1, 0, none⟩) [x] ∧ L.length + [x].length ≤ maxLen ∧ (L.length + [x].length) * 32 ≤ 140737488355328 ∧ Below w1.heap.size w1 ((wr.alloc (.cells #[.slice (some ⟨rb, ro, none⟩) x.r.length x.c, .int .i64 x.n] 59)).alloc (.cells #[.slice (some ⟨rb, ro, none⟩) x.r.length x.c, .int .i64 x.n] 59))) := by
          have hLk := hR.out.1
          have h1 : [x].length = 1 := rfl
          refine ⟨hR.out.2.2.2.1.gr (hgX.out.alloc _), ?_, by unfold maxLen; omega, by omega, hR.out.2.2.2.2.trans ((hgX.out.alloc _).below.mono hR.out.2.2.2.2.size)⟩
          rw [← hpH.out]
          exact rowNewT (by simp) x _
        go_wp2_with (at_builtin; refine wpList_append_ts _ rfl _ _ rfl w1.heap.size u7 L [x] (some ⟨wr.heap.size + 1, 0, none⟩) 1 rfl rfl hoX.out.1 hoX.out.2.1 (fun h => by cases h) hoX.out.2.2.1 hoX.out.2.2.2.1 hoX.out.2.2.2.2.size ?_; intro v3 w3 hown3 hg3)
        have hfin : Hid ((L ++ [x]).length ≤ k + 1 ∧ (L ++ [x]).map Itm.z = whereL ((a.take (k + 1)).map Itm.z) s.c 3 s.v ∧ (∀ y ∈ L ++ [x], y ∈ a) ∧ OwnG encT 2 59 w3 w1.heap.size v3 (L ++ [x]) ∧ Below w1.heap.size w1 w3) := by
          refine ⟨by have := hR.out.1; simp; omega, by rw [hst.out, httH.out, List.map_append, hR.out.2.1]; rfl, fun y hy => ?_, hown3, hoX.out.2.2.2.2.trans (hoX.out.1.grown_below hg3 hoX.out.2.2.2.2.size)⟩
          rcases List.mem_append.1 hy with h | h
          · exact hR.out.2.2.1 y h
          · rw [List.mem_singleton.1 h]; exact hxH.out
        clear hown3 hg3
        go_wp2
        go_roundw
        case rel => exact ⟨k + 1, L ++ [x], by omega, by go_num, rfl, hfin⟩
        case measure => simp [intOf]; omega
    · have hltz : ¬ (k : Int) < (a.length : Int) := by omega
      have hke : a.take k = a := List.take_of_length_le (by omega)
      have k0 : wr.cell? ⟨X, 0, none⟩ = some (.int .i64 2) := by rw [hSt.out.c0, hH.out.2.2.2.1]
      have hfin : Hid (L.map Itm.z = whereL (a.map Itm.z) s.c 3 s.v ∧ ∃ A2 cap2, u7 = .slice A2 L.length cap2 ∧ Items wr A2 L ∧ Below w.heap.size w wr) := by
        obtain ⟨A2, cap2, hv2, _, hit, _, _, _⟩ := OwnG.full encT_len hR.out.2.2.2.1
        refine ⟨by have := hR.out.2.1; rw [hke] at this; exact this, A2, cap2, hv2, ⟨hit, fun y hy => ?_⟩, hH.out.2.1.below.trans (hR.out.2.2.2.2.mono hH.out.2.1.below.size)⟩
        exact (hH.out.2.2.1.below hR.out.2.2.2.2).each y (hR.out.2.2.1 y hy)
      clear hke
      go_wp2_with fail
      refine Calls.mono (show Calls _ _ _ _ _ from onceN wr) ?_
      rintro e w4 ⟨C4, cp4, rfl, hb4⟩
      have hfin2 : Hid (L.map Itm.z = whereL (a.map Itm.z) s.c 3 s.v ∧ ∃ A2 cap2, u7 = .slice A2 L.length cap2 ∧ Items w4 A2 L ∧ Below w.heap.size w w4) := by
        obtain ⟨h1, A2, cap2, h2, h3, h4⟩ := hfin.out
        exact ⟨h1, A2, cap2, h2, h3.below hb4, h4.trans (hb4.mono h4.size)⟩
      clear hb4
      go_wp2
      obtain ⟨uu, huu⟩ : ∃ uu, u7 = uu := ⟨_, rfl⟩
      rw [huu] at hfin2
      go_loopw [7, 15] (fun u i wq => u = uu ∧ i = .int .i64 0 ∧ wq = w4) (fun _ _ _ => 0)
      case atStart => exact ⟨huu, rfl, rfl⟩
      case round =>
        obtain ⟨rfl, rfl, rfl⟩ := hrel
        obtain ⟨h1, A2, cap2, rfl, h3, h4⟩ := hfin2.out
        have hfin3 : Hid (L.map Itm.z = whereL (a.map Itm.z) s.c 3 s.v ∧ _ ∧ _) := ⟨h1, h3, h4⟩
        clear h1 h3 h4
        go_wp2
        go_ret
        exact ⟨L, A2, cap2, rfl, hfin3.out.1, hfin3.out.2.1, hfin3.out.2.2⟩
end Go.Proofs.YtoanlaedkpkpnaaGreatDoor

namespace Go.Proofs.YtoanlaedkpkpnaaGreatDoor
open Go.RowKit Go.Sort Go.Maps

set_option maxRecDepth 100000 in
set_option maxHeartbeats 1000000 in
theorem made3 (s : Stp) (a b : List Itm) (A B : Option Addr) (ca cb : Nat) (w : World) (hk : s.k = 3) (hl : a.length ≤ 400) (ha : Items w A a) (hcl : s.l.length ≤ 8) (hrl : RowI w s.p s.l) (hc : ∀ x ∈ a, ∀ c ∈ s.l, inB c 0 ((x.r.length : Int) - 1) = true) :
    Calls Tryz.prog 37 #[.agg #[.int .i64 s.k, .int .i64 s.a, .int .i64 s.b, .int .i64 s.c, .int .i64 s.o, .int .i64 s.v, .slice s.p s.l.length s.n], .slice A a.length ca, .slice B b.length cb] w fun e w' => ∃ (L : List Itm) (C : Option Addr) (k : Nat), e = .returned (.slice C L.length k) ∧ L.map Itm.z = pickL (a.map Itm.z) s.l ∧ Items w' C L ∧ Below w.heap.size w w' := by
  have mixed : Tryz.prog.follows .mixedOrders = true := by kernel_rfl
  have hS0 := StAt.new w s
  have hg0 : Gr w (w.alloc (.cells #[.int .i64 s.k, .int .i64 s.a, .int .i64 s.b, .int .i64 s.c, .int .i64 s.o, .int .i64 s.v, .slice s.p s.l.length s.n] 64)) := (Gr.refl w).alloc _
  obtain ⟨w1, hw1⟩ : ∃ w1, w.alloc (.cells #[.int .i64 s.k, .int .i64 s.a, .int .i64 s.b, .int .i64 s.c, .int .i64 s.o, .int .i64 s.v, .slice s.p s.l.length s.n] 64) = w1 := ⟨_, rfl⟩
  rw [hw1] at hS0 hg0
  obtain ⟨X, hX⟩ : ∃ X, w.heap.size = X := ⟨_, rfl⟩
  have hH : Hid (StAt w1 X s ∧ Gr w w1 ∧ Items w1 A a ∧ s.k = 3 ∧ w.heap.size = X ∧ RowI w1 s.p s.l ∧ ∀ x ∈ a, ∀ c ∈ s.l, inB c 0 ((x.r.length : Int) - 1) = true) := ⟨hX ▸ hS0, hg0, ha.gr hg0, hk, hX, hrl.gr hg0, hc⟩
  clear hS0 hg0 ha hk hrl hc
  go_enter Tryz.func37, Tryz.ntmps37
  go_wp2
  try rw [hw1]
  try rw [hX]
  clear hw1 hX
  go_loopw [7, 8, 9] (fun u v i wr => ∃ (k : Nat) (L : List Itm), k ≤ a.length ∧ i = .int .i64 k ∧ v = .slice none 0 0 ∧ Hid (L.length = k ∧ L.map Itm.z = pickL ((a.take k).map Itm.z) s.l ∧ OwnT wr w1.heap.size u L ∧ Below w1.heap.size w1 wr)) (fun _ _ i _ => a.length - (intOf i).toNat)
  case atStart => exact ⟨0, [], Nat.zero_le _, rfl, rfl, rfl, rfl, OwnT.nil _ _, Below.refl _ _⟩
  case round =>
    obtain ⟨k, L, hk, rfl, rfl, hR⟩ := hrel
    have hSt : Hid (StAt wr X s) := hH.out.1.below hR.out.2.2.2
    by_cases hlt : k < a.length
    · have hltz : (k : Int) < (a.length : Int) := by omega
      have hI : Hid (Items wr A a ∧ RowI wr s.p s.l) := ⟨hH.out.2.2.1.below hR.out.2.2.2, hH.out.2.2.2.2.2.1.below hR.out.2.2.2⟩
      obtain ⟨bb, off, rfl, hb, hcs⟩ := hI.out.1.at hlt
      obtain ⟨x, hx⟩ : ∃ x, a[k] = x := ⟨_, rfl⟩
      obtain ⟨e0, e1⟩ := hcs k hlt
      rw [hx] at e0 e1
      have hxm : Hid (x ∈ a) := by show _ ∈ _; rw [← hx]; exact List.getElem_mem hlt
      have hst : Hid (pickL ((a.take (k + 1)).map Itm.z) s.l = pickL ((a.take k).map Itm.z) s.l ++ [(pickR s.l x.r, x.n)]) := by show _ = _; rw [pick_take hlt, hx]
      have hgX : Hid (Gr wr (wr.alloc (.cells #[.slice x.p x.r.length x.c, .int .i64 x.n] 59))) := (Gr.refl _).alloc _
      obtain ⟨wX, hwX⟩ : ∃ wX, (wr.alloc (.cells #[.slice x.p x.r.length x.c, .int .i64 x.n] 59)) = wX := ⟨_, rfl⟩
      have y0 : Hid (wX.cell? ⟨wr.heap.size, 0, none⟩ = some (.slice x.p x.r.length x.c) ∧ wX.cell? ⟨wr.heap.size, 1, none⟩ = some (.int .i64 x.n) ∧ wr.heap.size < wX.heap.size) := by rw [← hwX]; exact ⟨box1 (Gr.refl _) rfl, box1 (Gr.refl _) rfl, by simp⟩
      have k0 : wX.cell? ⟨X, 0, none⟩ = some (.int .i64 3) := by rw [← hwX, hgX.out.cell (p := ⟨X, 0, none⟩) hSt.out.lt, hSt.out.c0, hH.out.2.2.2.1]
      rw [hwX] at hgX
      clear hcs hx
      go_wp2
      clear hwX
      obtain ⟨xb, hxb⟩ : ∃ xb, wr.heap.size = xb := ⟨_, rfl⟩
      have hRx : Hid (RowI wX x.p x.r ∧ RowI wX s.p s.l ∧ StAt wX X s) := ⟨(hI.out.1.each x hxm.out).1.gr hgX.out, hI.out.2.gr hgX.out, hSt.out.below hgX.out.below⟩
      rw [hxb] at y0 ⊢
      clear hxb e0 e1 hb k0
      have hO : Hid (OwnT wX w1.heap.size u7 L ∧ Below w1.heap.size w1 wX ∧ L.length = k ∧ L.map Itm.z = pickL ((a.take k).map Itm.z) s.l) := ⟨hR.out.2.2.1.gr hgX.out, hR.out.2.2.2.trans (hgX.out.below.mono hR.out.2.2.2.size), hR.out.1, hR.out.2.1⟩
      have hcx : Hid (∀ c ∈ s.l, inB c 0 ((x.r.length : Int) - 1) = true) := hH.out.2.2.2.2.2.2 x hxm.out
      clear hR hgX hI hSt
      go_loopw [12, 13] (fun u i wi => ∃ m : Nat, m ≤ s.l.length ∧ i = .int .i64 m ∧ Hid (OwnI wi wX.heap.size u (pickR (s.l.take m) x.r) ∧ Below wX.heap.size wX wi)) (fun _ i _ => s.l.length - (intOf i).toNat)
      case atStart => exact ⟨0, Nat.zero_le _, rfl, OwnG.nil _ _ _ _ _, Below.refl _ _⟩
      case round =>
        rename World => wi
        obtain ⟨m, hm, rfl, hS⟩ := hrel
        have hlenP : (pickR (s.l.take m) x.r).length ≤ 8 := by unfold pickR; simp; omega
        have z6 : wi.cell? ⟨X, 6, none⟩ = some (.slice s.p s.l.length s.n) := (hRx.out.2.2.below hS.out.2).c6
        by_cases hlt2 : m < s.l.length
        · have hltz2 : (m : Int) < (s.l.length : Int) := by omega
          obtain ⟨b2, off2, hsp, hb2, hc2⟩ := hRx.out.2.1.at hlt2
          obtain ⟨c, hcc⟩ : ∃ c, s.l[m] = c := ⟨_, rfl⟩
          have e2 : wX.cell? ⟨b2, off2 + m, none⟩ = some (.int .i64 c) := by
            have := hc2 m hlt2 0 (by omega)
            rw [hcc] at this
            simpa [encI] using this
          have hst2 : Hid (pickR (s.l.take (m + 1)) x.r = pickR (s.l.take m) x.r ++ [atI x.r c]) := by show _ = _; rw [pickR_take hlt2, hcc]
          obtain ⟨rb, ro, cn, hp, hrb, hcn, hcl2, hcell⟩ := rowI_atI hRx.out.1 (hcx.out c (by rw [← hcc]; exact List.getElem_mem hlt2))
          obtain ⟨nn, hnn⟩ : ∃ nn, atI x.r c = nn := ⟨_, rfl⟩
          rw [hnn] at hcell hst2
          have hcz : (cn : Int) < (x.r.length : Int) := by omega
          obtain rfl := hcn
          have hKB : Hid (∀ W', Below wX.heap.size wX W' → (fun w' => w'.cell? ⟨xb, 0, none⟩ = some (.slice (some ⟨rb, ro, none⟩) x.r.length x.c) ∧ w'.cell? ⟨X, 6, none⟩ = some (.slice (some ⟨b2, off2, none⟩) s.l.length s.n) ∧ w'.cell? ⟨b2, off2 + m, none⟩ = some (.int .i64 cn) ∧ w'.cell? ⟨rb, ro + cn, none⟩ = some (.int .i64 nn)) W') := fun W' h => ⟨by rw [h.cell (p := ⟨xb, 0, none⟩) y0.out.2.2, y0.out.1, hp], by rw [h.cell (p := ⟨X, 6, none⟩) hRx.out.2.2.lt, hRx.out.2.2.c6, hsp], (h.cell (p := ⟨b2, off2 + m, none⟩) hb2).trans e2, (h.cell (p := ⟨rb, ro + cn, none⟩) hrb).trans hcell⟩
          rw [hsp] at z6
          clear hc2 hcc hp hnn hcl2 hcell e2 hsp hb2 hrb
          have hgD : Hid (Gr wi wi.drew) := (Gr.refl _).drew
          have hKeep : Hid (∀ W', Gr wi W' → (fun w' => w'.cell? ⟨xb, 0, none⟩ = some (.slice (some ⟨rb, ro, none⟩) x.r.length x.c) ∧ w'.cell? ⟨X, 6, none⟩ = some (.slice (some ⟨b2, off2, none⟩) s.l.length s.n) ∧ w'.cell? ⟨b2, off2 + m, none⟩ = some (.int .i64 cn) ∧ w'.cell? ⟨rb, ro + cn, none⟩ = some (.int .i64 nn)) W') := fun W' h => hKB.out W' (hS.out.2.trans (h.below.mono hS.out.2.size))
          have hoX : Hid (OwnI (wi.drew.alloc (.cells #[.int .i64 nn] 3)) wX.heap.size u12 (pickR (s.l.take m) x.r) ∧ RowI (wi.drew.alloc (.cells #[.int .i64 nn] 3)) (some ⟨wi.drew.heap.size, 0, none⟩) [nn] ∧ (pickR (s.l.take m) x.r).length + [nn].length ≤ maxLen ∧ ((pickR (s.l.take m) x.r).length + [nn].length) * 8 ≤ 140737488355328 ∧ Below wX.heap.size wX (wi.drew.alloc (.cells #[.int .i64 nn] 3))) := by
            have hg : Gr wi (wi.drew.alloc (.cells #[.int .i64 nn] 3)) := hgD.out.alloc _
            have h1 : [nn].length = 1 := rfl
            exact ⟨hS.out.1.gr hg, rowNewI rfl nn _, by unfold maxLen; omega, by omega, hS.out.2.trans (hg.below.mono hS.out.2.size)⟩
          have hKeep2 : Hid (∀ W', (wi.drew.alloc (.cells #[.int .i64 nn] 3)).grownBy W' u12.ownBlock → (fun w' => w'.cell? ⟨xb, 0, none⟩ = some (.slice (some ⟨rb, ro, none⟩) x.r.length x.c) ∧ w'.cell? ⟨X, 6, none⟩ = some (.slice (some ⟨b2, off2, none⟩) s.l.length s.n) ∧ w'.cell? ⟨b2, off2 + m, none⟩ = some (.int .i64 cn) ∧ w'.cell? ⟨rb, ro + cn, none⟩ = some (.int .i64 nn)) W') := fun W' h => hKB.out W' (hoX.out.2.2.2.2.trans (hoX.out.1.grown_below h hoX.out.2.2.2.2.size))
          go_wp2
          refine wp_region_noPanic ?_
          refine wp_region_held_drew (S := (fun w' => w'.cell? ⟨xb, 0, none⟩ = some (.slice (some ⟨rb, ro, none⟩) x.r.length x.c) ∧ w'.cell? ⟨X, 6, none⟩ = some (.slice (some ⟨b2, off2, none⟩) s.l.length s.n) ∧ w'.cell? ⟨b2, off2 + m, none⟩ = some (.int .i64 cn) ∧ w'.cell? ⟨rb, ro + cn, none⟩ = some (.int .i64 nn))) (by kernel_rfl) (hKeep.out _ hgD.out) (fun hHeld => ?_)
          refine wpAnyH_take (i := 0) (oi := ?ois1) (v := ?vs1) ?hops1 ?hss1 ?hfs1 ?hrs1 ?hQs1 ?hys1 (by assumption) ?rests1
          case hops1 => (simp only [List.getElem?_toArray, List.getElem?_cons_zero]; rfl)
          case hss1 => kernel_rfl
          case hfs1 => kernel_rfl
          case hrs1 => kernel_rfl
          case hQs1 => exact fun _ _ _ h => h
          case hys1 => (refine Or.inl ⟨by rfl, ?_⟩; intro w hSw; (try dsimp only at hSw); go_simp <;> with_reducible rfl)
          try simp only [Act.put, List.setIfInBounds_toArray, List.set_cons_zero, List.set_cons_succ]
          refine wpAnyH_take (i := 1) (oi := ?ois2) (v := ?vs2) ?hops2 ?hss2 ?hfs2 ?hrs2 ?hQs2 ?hys2 (by assumption) ?rests2
          case hops2 => (simp only [List.getElem?_toArray, List.getElem?_cons_zero, List.getElem?_cons_succ]; rfl)
          case hss2 => kernel_rfl
          case hfs2 => kernel_rfl
          case hrs2 => kernel_rfl
          case hQs2 => exact fun _ _ _ h => h
          case hys2 => (refine Or.inl ⟨by rfl, ?_⟩; intro w hSw; (try dsimp only at hSw); go_simp <;> with_reducible rfl)
          try simp only [Act.put, List.setIfInBounds_toArray, List.set_cons_zero, List.set_cons_succ]
          refine wpAnyH_take (i := 2) (oi := ?ois3) (v := ?vs3) ?hops3 ?hss3 ?hfs3 ?hrs3 ?hQs3 ?hys3 (by assumption) ?rests3
          case hops3 => (simp only [List.getElem?_toArray, List.getElem?_cons_zero, List.getElem?_cons_succ]; rfl)
          case hss3 => kernel_rfl
          case hfs3 => kernel_rfl
          case hrs3 => kernel_rfl
          case hQs3 => exact fun _ _ _ h => h
          case hys3 => (refine Or.inl ⟨by rfl, ?_⟩; intro w hSw; (try dsimp only at hSw); go_simp <;> with_reducible rfl)
          try simp only [Act.put, List.setIfInBounds_toArray, List.set_cons_zero, List.set_cons_succ]
          refine wpAnyH_take (i := 3) (oi := ?ois4) (v := ?vs4) ?hops4 ?hss4 ?hfs4 ?hrs4 ?hQs4 ?hys4 (by assumption) ?rests4
          case hops4 => (simp only [List.getElem?_toArray, List.getElem?_cons_zero, List.getElem?_cons_succ]; rfl)
          case hss4 => kernel_rfl
          case hfs4 => kernel_rfl
          case hrs4 => kernel_rfl
          case hQs4 => exact fun _ _ _ h => h
          case hys4 => (refine Or.inl ⟨by rfl, ?_⟩; intro w hSw; (try dsimp only at hSw); go_simp <;> with_reducible rfl)
          try simp only [Act.put, List.setIfInBounds_toArray, List.set_cons_zero, List.set_cons_succ]
          refine wpAnyH_take (i := 4) (oi := ?ois5) (v := ?vs5) ?hops5 ?hss5 ?hfs5 ?hrs5 ?hQs5 ?hys5 (by assumption) ?rests5
          case hops5 => (simp only [List.getElem?_toArray, List.getElem?_cons_zero, List.getElem?_cons_succ]; rfl)
          case hss5 => kernel_rfl
          case hfs5 => kernel_rfl
          case hrs5 => kernel_rfl
          case hQs5 => exact fun _ _ _ h => h
          case hys5 => (refine Or.inl ⟨by rfl, ?_⟩; intro w hSw; (try dsimp only at hSw); go_simp <;> with_reducible rfl)
          try simp only [Act.put, List.setIfInBounds_toArray, List.set_cons_zero, List.set_cons_succ]
          refine wpAnyH_take (i := 5) (oi := ?ois6) (v := ?vs6) ?hops6 ?hss6 ?hfs6 ?hrs6 ?hQs6 ?hys6 (by assumption) ?rests6
          case hops6 => (simp only [List.getElem?_toArray, List.getElem?_cons_zero, List.getElem?_cons_succ]; rfl)
          case hss6 => kernel_rfl
          case hfs6 => kernel_rfl
          case hrs6 => kernel_rfl
          case hQs6 => exact fun _ _ _ h => h
          case hys6 => (refine Or.inl ⟨by rfl, ?_⟩; intro w hSw; (try dsimp only at hSw); go_simp <;> with_reducible rfl)
          try simp only [Act.put, List.setIfInBounds_toArray, List.set_cons_zero, List.set_cons_succ]
          refine wpAnyH_take (i := 6) (oi := ?ois7) (v := ?vs7) ?hops7 ?hss7 ?hfs7 ?hrs7 ?hQs7 ?hys7 (by assumption) ?rests7
          case hops7 => (simp only [List.getElem?_toArray, List.getElem?_cons_zero, List.getElem?_cons_succ]; rfl)
          case hss7 => kernel_rfl
          case hfs7 => kernel_rfl
          case hrs7 => kernel_rfl
          case hQs7 => exact fun _ _ _ h => h
          case hys7 => (refine Or.inl ⟨by rfl, ?_⟩; intro w hSw; (try dsimp only at hSw); go_simp <;> with_reducible rfl)
          try simp only [Act.put, List.setIfInBounds_toArray, List.set_cons_zero, List.set_cons_succ]
          refine wpAnyH_take (i := 7) (oi := ?ois8) (v := ?vs8) ?hops8 ?hss8 ?hfs8 ?hrs8 ?hQs8 ?hys8 (by assumption) ?rests8
          case hops8 => (simp only [List.getElem?_toArray, List.getElem?_cons_zero, List.getElem?_cons_succ]; rfl)
          case hss8 => kernel_rfl
          case hfs8 => kernel_rfl
          case hrs8 => kernel_rfl
          case hQs8 => exact fun _ _ _ h => h
          case hys8 => (refine Or.inl ⟨by rfl, ?_⟩; intro w hSw; (try dsimp only at hSw); go_simp <;> with_reducible rfl)
          try simp only [Act.put, List.setIfInBounds_toArray, List.set_cons_zero, List.set_cons_succ]
          refine wpAnyH_take (i := 8) (oi := ?ois9) (v := ?vs9) ?hops9 ?hss9 ?hfs9 ?hrs9 ?hQs9 ?hys9 (by assumption) ?rests9
          case hops9 => (simp only [List.getElem?_toArray, List.getElem?_cons_zero, List.getElem?_cons_succ]; rfl)
          case hss9 => kernel_rfl
          case hfs9 => kernel_rfl
          case hrs9 => kernel_rfl
          case hQs9 => exact fun _ _ _ h => h
          case hys9 => (refine Or.inl ⟨by rfl, ?_⟩; intro w hSw; (try dsimp only at hSw); go_simp <;> with_reducible rfl)
          try simp only [Act.put, List.setIfInBounds_toArray, List.set_cons_zero, List.set_cons_succ]
          refine wpAnyH_take (i := 9) (oi := ?ois10) (v := ?vs10) ?hops10 ?hss10 ?hfs10 ?hrs10 ?hQs10 ?hys10 (by assumption) ?rests10
          case hops10 => (simp only [List.getElem?_toArray, List.getElem?_cons_zero, List.getElem?_cons_succ]; rfl)
          case hss10 => kernel_rfl
          case hfs10 => kernel_rfl
          case hrs10 => kernel_rfl
          case hQs10 => exact fun _ _ _ h => h
          case hys10 => (refine Or.inl ⟨by rfl, ?_⟩; intro w hSw; (try dsimp only at hSw); go_simp <;> with_reducible rfl)
          try simp only [Act.put, List.setIfInBounds_toArray, List.set_cons_zero, List.set_cons_succ]
          refine wpAnyH_ready (rs := [10]) (by kernel_rfl) (by simp) ?_
          refine AllReadyH.cons (o := ?ois11) ?hops11 (fun K hK => ?steps11) ?mores11
          case hops11 => (simp only [List.getElem?_toArray, List.getElem?_cons_zero, List.getElem?_cons_succ]; rfl)
          case mores11 => exact AllReadyH.nil
          go_simp
          refine hK.out _ _ ?_ (fun hHeld => ?_)
          · (try dsimp only); first | with_reducible exact hKeep.out _ hgD.out | exact hKeep.out _ (hgD.out.alloc _) | with_reducible exact hKeep.out _ (hgD.out.alloc _) | exact hk4.out
          clear hK K
          try simp only [Act.put, List.setIfInBounds_toArray, List.set_cons_zero, List.set_cons_succ]
          refine wpAnyH_ready (rs := [11]) (by kernel_rfl) (by simp) ?_
          refine AllReadyH.cons (o := ?ois12) ?hops12 (fun K hK => ?steps12) ?mores12
          case hops12 => (simp only [List.getElem?_toArray, List.getElem?_cons_zero, List.getElem?_cons_succ]; rfl)
          case mores12 => exact AllReadyH.nil
          (refine step_append_i2 _ rfl (.tmp 92) (.tmp 102) rfl wX.heap.size u12 (pickR (s.l.take m) x.r) [nn] (some ⟨wi.drew.heap.size, 0, none⟩) 1 rfl rfl hoX.out.1 hoX.out.2.1 (fun h => by cases h) hoX.out.2.2.1 hoX.out.2.2.2.1 hoX.out.2.2.2.2.size ?_; intro v4 w4 hown4 hgb4; have hk4 : Hid ((fun w' => w'.cell? ⟨xb, 0, none⟩ = some (.slice (some ⟨rb, ro, none⟩) x.r.length x.c) ∧ w'.cell? ⟨X, 6, none⟩ = some (.slice (some ⟨b2, off2, none⟩) s.l.length s.n) ∧ w'.cell? ⟨b2, off2 + m, none⟩ = some (.int .i64 cn) ∧ w'.cell? ⟨rb, ro + cn, none⟩ = some (.int .i64 nn)) w4) := hKeep2.out w4 hgb4; have hfin : Hid (OwnI w4 wX.heap.size v4 (pickR (s.l.take (m + 1)) x.r) ∧ Below wX.heap.size wX w4) := ⟨by rw [hst2.out]; exact hown4, hoX.out.2.2.2.2.trans (hoX.out.1.grown_below hgb4 hoX.out.2.2.2.2.size)⟩; clear hown4 hgb4)
          refine hK.out _ _ ?_ (fun hHeld => ?_)
          · (try dsimp only); first | with_reducible exact hKeep.out _ hgD.out | exact hKeep.out _ (hgD.out.alloc _) | with_reducible exact hKeep.out _ (hgD.out.alloc _) | exact hk4.out
          clear hK K
          try simp only [Act.put, List.setIfInBounds_toArray, List.set_cons_zero, List.set_cons_succ]
          refine wpAnyH_take (i := 12) (oi := ?ois13) (v := ?vs13) ?hops13 ?hss13 ?hfs13 ?hrs13 ?hQs13 ?hys13 (by assumption) ?rests13
          case hops13 => (simp only [List.getElem?_toArray, List.getElem?_cons_zero, List.getElem?_cons_succ]; rfl)
          case hss13 => kernel_rfl
          case hfs13 => kernel_rfl
          case hrs13 => kernel_rfl
          case hQs13 => exact fun _ _ _ h => h
          case hys13 => (refine Or.inl ⟨by rfl, ?_⟩; intro w hSw; (try dsimp only at hSw); go_simp <;> with_reducible rfl)
          try simp only [Act.put, List.setIfInBounds_toArray, List.set_cons_zero, List.set_cons_succ]
          refine wpAnyH_done (by kernel_rfl) ?_ _
          refine NoPanic.normal ?_
          go_wp2
          go_roundw
          case rel => exact ⟨m + 1, by omega, by go_num, hfin⟩
          case measure => simp [intOf]; omega
        · have hltz2 : ¬ (m : Int) < (s.l.length : Int) := by omega
          have hke : s.l.take m = s.l := List.take_of_length_le (by omega)
          rw [hke] at hS hlenP
          have z1 : wi.cell? ⟨xb, 1, none⟩ = some (.int .i64 x.n) := (hS.out.2.cell (p := ⟨xb, 1, none⟩) y0.out.2.2).trans y0.out.2.1
          obtain ⟨C, cc, hv2, hn2, hit, hpl⟩ := hS.out.1.row encI_len
          obtain ⟨PR, hPR⟩ : ∃ PR, pickR s.l x.r = PR := ⟨_, rfl⟩
          rw [hPR] at hst hS hv2 hit hlenP
          subst hv2
          have hbW : Hid (Below w1.heap.size w1 wi ∧ w1.heap.size ≤ wX.heap.size) := ⟨hO.out.2.1.trans (hS.out.2.mono hO.out.2.1.size), hO.out.2.1.size⟩
          have hoX : Hid (OwnT (wi.alloc (.cells #[.slice C PR.length cc, .int .i64 x.n] 59)) w1.heap.size u7 L ∧ RowG encT 2 (wi.alloc (.cells #[.slice C PR.length cc, .int .i64 x.n] 59)) (some ⟨wi.heap.size, 0, none⟩) [⟨C, cc, PR, x.n⟩] ∧ Apart (wi.alloc (.cells #[.slice C PR.length cc, .int .i64 x.n] 59)) w1.heap.size u7.ownBlock ⟨C, cc, PR, x.n⟩ ∧ L.length + 1 ≤ maxLen ∧ (L.length + 1) * 32 ≤ 140737488355328 ∧ Below w1.heap.size w1 (wi.alloc (.cells #[.slice C PR.length cc, .int .i64 x.n] 59))) := by
            have hLk := hO.out.2.2.1
            refine ⟨(hO.out.1.below hS.out.2).gr ((Gr.refl _).alloc _), rowNewT rfl ⟨C, cc, PR, x.n⟩ _, ⟨hit.gr ((Gr.refl _).alloc _), Nat.le_trans hlenP (by decide), hn2, fun a ha => ⟨?_, ?_, ?_⟩⟩, by unfold maxLen; omega, by omega, hbW.out.1.alloc hbW.out.1.size _⟩
            · have h1 := (hpl a ha).1
              have h2 := hbW.out.2
              omega
            · have h1 := (hpl a ha).2
              simp; omega
            · intro e
              have h1 := (World.ownsRow.lt hO.out.1.own a.block e).2
              have h2 := (hpl a ha).1
              omega
          clear hke hit hn2 hpl hPR
          go_wp2_with (at_builtin; refine wpList_append_t _ rfl _ _ rfl w1.heap.size u7 L ⟨C, cc, PR, x.n⟩ ⟨wi.heap.size, 0, none⟩ 1 rfl rfl hoX.out.1 hoX.out.2.1 hoX.out.2.2.1 hoX.out.2.2.2.1 hoX.out.2.2.2.2.1 hoX.out.2.2.2.2.2.size ?_; intro v3 w3 hown3 hg3)
          have hfin : Hid ((L ++ [(⟨C, cc, PR, x.n⟩ : Itm)]).length = k + 1 ∧ (L ++ [(⟨C, cc, PR, x.n⟩ : Itm)]).map Itm.z = pickL ((a.take (k + 1)).map Itm.z) s.l ∧ OwnT w3 w1.heap.size v3 (L ++ [⟨C, cc, PR, x.n⟩]) ∧ Below w1.heap.size w1 w3) :=
            ⟨by have := hO.out.2.2.1; simp; omega, by rw [hst.out, List.map_append, hO.out.2.2.2]; rfl, hown3, hoX.out.2.2.2.2.2.trans hg3⟩
          clear hown3 hg3
          go_wp2
          go_roundw
          case rel => exact ⟨k + 1, L ++ [(⟨C, cc, PR, x.n⟩ : Itm)], by omega, by go_num, rfl, hfin⟩
          case measure => simp [intOf]; omega
    · have hltz : ¬ (k : Int) < (a.length : Int) := by omega
      have hke : a.take k = a := List.take_of_length_le (by omega)
      have k0 : wr.cell? ⟨X, 0, none⟩ = some (.int .i64 3) := by rw [hSt.out.c0, hH.out.2.2.2.1]
      have hfin : Hid (L.map Itm.z = pickL (a.map Itm.z) s.l ∧ ∃ A2 cap2, u7 = .slice A2 L.length cap2 ∧ Items wr A2 L ∧ Below w.heap.size w wr) := by
        obtain ⟨A2, cap2, hv2, _, hit, _⟩ := hR.out.2.2.1.items
        exact ⟨by have := hR.out.2.1; rw [hke] at this; exact this, A2, cap2, hv2, hit, hH.out.2.1.below.trans (hR.out.2.2.2.mono hH.out.2.1.below.size)⟩
      clear hke
      go_wp2_with fail
      refine Calls.mono (show Calls _ _ _ _ _ from onceN wr) ?_
      rintro e w4 ⟨C4, cp4, rfl, hb4⟩
      have hfin2 : Hid (L.map Itm.z = pickL (a.map Itm.z) s.l ∧ ∃ A2 cap2, u7 = .slice A2 L.length cap2 ∧ Items w4 A2 L ∧ Below w.heap.size w w4) := by
        obtain ⟨h1, A2, cap2, h2, h3, h4⟩ := hfin.out
        exact ⟨h1, A2, cap2, h2, h3.below hb4, h4.trans (hb4.mono h4.size)⟩
      clear hb4
      go_wp2
      obtain ⟨uu, huu⟩ : ∃ uu, u7 = uu := ⟨_, rfl⟩
      rw [huu] at hfin2
      go_loopw [7, 15] (fun u i wq => u = uu ∧ i = .int .i64 0 ∧ wq = w4) (fun _ _ _ => 0)
      case atStart => exact ⟨huu, rfl, rfl⟩
      case round =>
        obtain ⟨rfl, rfl, rfl⟩ := hrel
        obtain ⟨h1, A2, cap2, rfl, h3, h4⟩ := hfin2.out
        have hfin3 : Hid (L.map Itm.z = pickL (a.map Itm.z) s.l ∧ _ ∧ _) := ⟨h1, h3, h4⟩
        clear h1 h3 h4
        go_wp2
        go_ret
        exact ⟨L, A2, cap2, rfl, hfin3.out.1, hfin3.out.2.1, hfin3.out.2.2⟩
end Go.Proofs.YtoanlaedkpkpnaaGreatDoor
