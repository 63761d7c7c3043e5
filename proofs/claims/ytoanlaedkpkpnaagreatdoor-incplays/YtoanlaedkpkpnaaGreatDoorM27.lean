/-
  viewref.made of count.
  viewref.made of sum.
  viewref.Made, Norm, Add, Minus.
-/
import Derived.Test.YtoanlaedkpkpnaaGreatDoorM24
import Derived.Test.YtoanlaedkpkpnaaGreatDoorM11
import Derived.Test.YtoanlaedkpkpnaaGreatDoorM22
namespace Go.Proofs.YtoanlaedkpkpnaaGreatDoor
open Go.RowKit Go.Sort

theorem ofK_take {l : List Itm} {k : Nat} (h : k < l.length) (c key : Int) : ofK ((l.take (k + 1)).map Itm.z) c key = ofK ((l.take k).map Itm.z) c key ++ (if atI l[k].r c = key then [l[k].z] else []) := by
  rw [List.take_succ_eq_append_getElem h, List.map_append]
  unfold ofK
  rw [List.filter_append]
  congr 1
  by_cases e : atI l[k].r c = key
  · rw [if_pos e]; simp [Itm.z, e]
  · rw [if_neg e]; simp [Itm.z, e]
theorem sumZ_bound {l : List Zit} {v : Int} (h : ∀ x ∈ l, okR x.1 = true ∧ okW x.2 = true) : -((l.length : Int) * 1125899906842624) ≤ sumAtL v l ∧ sumAtL v l ≤ (l.length : Int) * 1125899906842624 := by
  induction l with
  | nil => simp [sumAtL]
  | cons x l ih =>
    have h1 := ih fun y hy => h y (List.mem_cons_of_mem _ hy)
    have h2 := at_mul (x := ⟨none, 0, x.1, x.2⟩) (v := v) (h x (List.mem_cons_self ..))
    simp only at h2
    simp only [sumAtL, List.length_cons]
    omega
theorem ofK_ok {a : List Itm} {m : Nat} {c key : Int} (h : ∀ x ∈ a, okR x.r = true ∧ okW x.n = true) : (∀ x ∈ ofK ((a.take m).map Itm.z) c key, okR x.1 = true ∧ okW x.2 = true) ∧ (ofK ((a.take m).map Itm.z) c key).length ≤ a.length := by
  refine ⟨fun x hx => ?_, ?_⟩
  · obtain ⟨y, hy, rfl⟩ := List.mem_map.1 (List.mem_filter.1 hx).1
    exact h y (List.mem_of_mem_take hy)
  · have h1 := List.length_filter_le (fun y : Zit => decide (atI y.1 c = key)) ((a.take m).map Itm.z)
    unfold ofK
    rw [List.length_map, List.length_take] at h1
    omega
theorem keyL_itm (a : List Itm) (c : Int) : keyL (a.map Itm.z) c = onceL (a.map fun y => atI y.r c) := by
  unfold keyL
  rw [List.map_map]
  rfl
theorem fm_take {l : List Int} {k : Nat} (h : k < l.length) (f : Int → Option Zit) : (l.take (k + 1)).filterMap f = (l.take k).filterMap f ++ (f l[k]).toList := by
  rw [List.take_succ_eq_append_getElem h, List.filterMap_append]
  congr 1

set_option maxRecDepth 100000 in
set_option maxHeartbeats 1000000 in
theorem made8 (s : Stp) (a b : List Itm) (A B : Option Addr) (ca cb : Nat) (w : World) (hk : s.k = 8) (hl : a.length ≤ 400) (ha : Items w A a) (hc : ∀ x ∈ a, inB s.c 0 ((x.r.length : Int) - 1) = true) (hv : ∀ x ∈ a, inB s.v 0 ((x.r.length : Int) - 1) = true) (hok : ∀ x ∈ a, okR x.r = true ∧ okW x.n = true) :
    Calls Tryz.prog 37 #[.agg #[.int .i64 s.k, .int .i64 s.a, .int .i64 s.b, .int .i64 s.c, .int .i64 s.o, .int .i64 s.v, .slice s.p s.l.length s.n], .slice A a.length ca, .slice B b.length cb] w fun e w' => ∃ (L : List Itm) (C : Option Addr) (k : Nat), e = .returned (.slice C L.length k) ∧ L.map Itm.z = ((keyL (a.map Itm.z) s.c).filterMap (fun key => cntG (key, ofK (a.map Itm.z) s.c key))) ∧ Items w' C L ∧ Below w.heap.size w w' := by
  have hS0 := StAt.new w s
  have hg0 : Gr w (w.alloc (.cells #[.int .i64 s.k, .int .i64 s.a, .int .i64 s.b, .int .i64 s.c, .int .i64 s.o, .int .i64 s.v, .slice s.p s.l.length s.n] 64)) := (Gr.refl w).alloc _
  obtain ⟨w1, hw1⟩ : ∃ w1, w.alloc (.cells #[.int .i64 s.k, .int .i64 s.a, .int .i64 s.b, .int .i64 s.c, .int .i64 s.o, .int .i64 s.v, .slice s.p s.l.length s.n] 64) = w1 := ⟨_, rfl⟩
  rw [hw1] at hS0 hg0
  obtain ⟨X, hX⟩ : ∃ X, w.heap.size = X := ⟨_, rfl⟩
  have hH : Hid (StAt w1 X s ∧ Gr w w1 ∧ Items w1 A a ∧ s.k = 8 ∧ w.heap.size = X ∧ (∀ x ∈ a, inB s.c 0 ((x.r.length : Int) - 1) = true) ∧ (∀ x ∈ a, inB s.v 0 ((x.r.length : Int) - 1) = true) ∧ ∀ x ∈ a, okR x.r = true ∧ okW x.n = true) := ⟨hX ▸ hS0, hg0, ha.gr hg0, hk, hX, hc, hv, hok⟩
  clear hS0 hg0 ha hk hc hv hok
  go_enter Tryz.func37, Tryz.ntmps37
  go_wp2
  try rw [hw1]
  try rw [hX]
  clear hw1 hX
  go_loopw [7, 8, 9] (fun u v i wr => ∃ (k : Nat), k ≤ a.length ∧ i = .int .i64 k ∧ u = .slice none 0 0 ∧ Hid (OwnI wr w1.heap.size v ((a.take k).map (fun y : Itm => atI y.r s.c)) ∧ Below w1.heap.size w1 wr)) (fun _ _ i _ => a.length - (intOf i).toNat)
  case atStart => exact ⟨0, Nat.zero_le _, rfl, rfl, OwnG.nil _ _ _ _ _, Below.refl _ _⟩
  case round =>
    obtain ⟨k, hk, rfl, rfl, hR⟩ := hrel
    have hSt : Hid (StAt wr X s) := hH.out.1.below hR.out.2
    by_cases hlt : k < a.length
    · have hltz : (k : Int) < (a.length : Int) := by omega
      have hI : Hid (Items wr A a) := hH.out.2.2.1.below hR.out.2
      obtain ⟨bb, off, rfl, hb, hcs⟩ := hI.out.at hlt
      obtain ⟨x, hx⟩ : ∃ x, a[k] = x := ⟨_, rfl⟩
      obtain ⟨e0, e1⟩ := hcs k hlt
      rw [hx] at e0 e1
      have hxm : x ∈ a := by rw [← hx]; exact List.getElem_mem hlt
      obtain ⟨rb, ro, cn, hp, hrb, hcn, hcl, hcell⟩ := rowI_atI (hI.out.each x hxm).1 (hH.out.2.2.2.2.2.1 x hxm)
      have hst : Hid ((a.take (k + 1)).map (fun y : Itm => atI y.r s.c) = (a.take k).map (fun y : Itm => atI y.r s.c) ++ [atI x.r s.c]) := by show _ = _; rw [List.take_succ_eq_append_getElem hlt, hx, List.map_append]; rfl
      obtain ⟨nn, hnn⟩ : ∃ nn, atI x.r s.c = nn := ⟨_, rfl⟩
      rw [hnn] at hcell hst
      rw [hp] at e0
      have hgX : Hid (Gr wr (wr.alloc (.cells #[.slice (some ⟨rb, ro, none⟩) x.r.length x.c, .int .i64 x.n] 59))) := (Gr.refl _).alloc _
      have y0 : (wr.alloc (.cells #[.slice (some ⟨rb, ro, none⟩) x.r.length x.c, .int .i64 x.n] 59)).cell? ⟨rb, ro + cn, none⟩ = some (.int .i64 nn) := (hgX.out.cell (p := ⟨rb, ro + cn, none⟩) hrb).trans hcell
      have k0 : (wr.alloc (.cells #[.slice (some ⟨rb, ro, none⟩) x.r.length x.c, .int .i64 x.n] 59)).cell? ⟨X, 0, none⟩ = some (.int .i64 8) := by rw [hgX.out.cell (p := ⟨X, 0, none⟩) hSt.out.lt, hSt.out.c0, hH.out.2.2.2.1]
      have k3 : (wr.alloc (.cells #[.slice (some ⟨rb, ro, none⟩) x.r.length x.c, .int .i64 x.n] 59)).cell? ⟨X, 3, none⟩ = some (.int .i64 (cn : Int)) := by rw [hgX.out.cell (p := ⟨X, 3, none⟩) hSt.out.lt, hSt.out.c3, hcn]
      have hcz : (cn : Int) < (x.r.length : Int) := by omega
      clear hcs hx hxm hnn hp hcell hcl hcn
      have hoX : Hid (OwnI ((wr.alloc (.cells #[.slice (some ⟨rb, ro, none⟩) x.r.length x.c, .int .i64 x.n] 59)).alloc (.cells #[.int .i64 nn] 3)) w1.heap.size u8 ((a.take k).map (fun y : Itm => atI y.r s.c)) ∧ RowI ((wr.alloc (.cells #[.slice (some ⟨rb, ro, none⟩) x.r.length x.c, .int .i64 x.n] 59)).alloc (.cells #[.int .i64 nn] 3)) (some ⟨wr.heap.size + 1, 0, none⟩) [nn] ∧ ((a.take k).map (fun y : Itm => atI y.r s.c)).length + [nn].length ≤ maxLen ∧ (((a.take k).map (fun y : Itm => atI y.r s.c)).length + [nn].length) * 8 ≤ 140737488355328 ∧ Below w1.heap.size w1 ((wr.alloc (.cells #[.slice (some ⟨rb, ro, none⟩) x.r.length x.c, .int .i64 x.n] 59)).alloc (.cells #[.int .i64 nn] 3))) := by
        have hLk : ((a.take k).map (fun y : Itm => atI y.r s.c)).length ≤ 400 := by rw [List.length_map, List.length_take]; omega
        have h1 : [nn].length = 1 := rfl
        exact ⟨hR.out.1.gr (hgX.out.alloc _), rowNewI (by simp) nn _, by unfold maxLen; omega, by omega, hR.out.2.trans ((hgX.out.alloc _).below.mono hR.out.2.size)⟩
      go_wp2_with (at_builtin; refine wpList_append_i _ rfl (.tmp 31) (.tmp 38) rfl w1.heap.size u8 ((a.take k).map (fun y : Itm => atI y.r s.c)) [nn] (some ⟨wr.heap.size + 1, 0, none⟩) 1 rfl rfl hoX.out.1 hoX.out.2.1 (fun h => by cases h) hoX.out.2.2.1 hoX.out.2.2.2.1 hoX.out.2.2.2.2.size ?_; intro v3 w3 hown3 hg3)
      have hfin : Hid (OwnI w3 w1.heap.size v3 ((a.take (k + 1)).map (fun y : Itm => atI y.r s.c)) ∧ Below w1.heap.size w1 w3) := ⟨by rw [hst.out]; exact hown3, hoX.out.2.2.2.2.trans (hoX.out.1.grown_below hg3 hoX.out.2.2.2.2.size)⟩
      clear hown3 hg3
      go_wp2
      go_roundw
      case rel => exact ⟨k + 1, by omega, by go_num, rfl, hfin⟩
      case measure => simp [intOf]; omega
    · have hltz : ¬ (k : Int) < (a.length : Int) := by omega
      have hke : a.take k = a := List.take_of_length_le (by omega)
      rw [hke] at hR
      have k0 : wr.cell? ⟨X, 0, none⟩ = some (.int .i64 8) := by rw [hSt.out.c0, hH.out.2.2.2.1]
      obtain ⟨KA, kc, hv2, hn2, hit, _⟩ := hR.out.1.row encI_len
      obtain ⟨kl, hkl⟩ : ∃ kl, a.map (fun y : Itm => atI y.r s.c) = kl := ⟨_, rfl⟩
      rw [hkl] at hv2 hit hR
      have hkll : kl.length ≤ 400 := by rw [← hkl, List.length_map]; exact hl
      subst hv2
      have ho0 := once_any kl KA kc wr hit hn2 (by omega)
      have hoH : Hid _ := ho0
      have hklH : Hid (a.map (fun y : Itm => atI y.r s.c) = kl) := hkl
      clear hke ho0 hit hn2 hkl
      go_wp2_with fail
      refine Calls.mono (show Calls _ _ _ _ _ from hoH.out) ?_
      rintro e w4 ⟨C4, cp4, rfl, hrk, hb4⟩
      obtain ⟨ks, hks⟩ : ∃ ks, onceL kl = ks := ⟨_, rfl⟩
      have hksl : ks.length ≤ 400 := by rw [← hks]; have := onceL_len kl; omega
      have h14 : Below w1.heap.size w1 w4 := hR.out.2.trans (hb4.mono hR.out.2.size)
      have hW : Hid (keyL (a.map Itm.z) s.c = ks ∧ RowI w4 C4 ks ∧ Below w1.heap.size w1 w4 ∧ StAt w4 X s ∧ Items w4 A a) := ⟨by rw [keyL_itm, hklH.out, hks], by rw [← hks]; exact hrk, h14, hH.out.1.below h14, hH.out.2.2.1.below h14⟩
      rw [hks]
      clear hoH hrk hb4 h14 hks hklH hR hSt k0
      go_wp2
      go_loopw [7, 15] (fun u i wr => ∃ (k : Nat) (L : List Itm), k ≤ ks.length ∧ i = .int .i64 k ∧ Hid (L.length ≤ k ∧ L.map Itm.z = (ks.take k).filterMap (fun key => cntG (key, ofK (a.map Itm.z) s.c key)) ∧ OwnT wr w4.heap.size u L ∧ Below w4.heap.size w4 wr)) (fun _ i _ => ks.length - (intOf i).toNat)
      case atStart => exact ⟨0, [], Nat.zero_le _, rfl, Nat.le_refl _, rfl, OwnT.nil _ _, Below.refl _ _⟩
      case round =>
        rename World => wq
        obtain ⟨k, L, hk, rfl, hR⟩ := hrel
        by_cases hlt : k < ks.length
        · have hltz : (k : Int) < (ks.length : Int) := by omega
          obtain ⟨key, hkey⟩ : ∃ key, ks[k] = key := ⟨_, rfl⟩
          obtain ⟨kb, ko, hC4, hkb, hkc⟩ := hW.out.2.1.at hlt
          subst hC4
          have hkc2 : Hid (w4.cell? ⟨kb, ko + k, none⟩ = some (.int .i64 key) ∧ kb < w4.heap.size) := by
            have := hkc k hlt 0 (by omega)
            rw [hkey] at this
            exact ⟨by simpa [encI] using this, hkb⟩
          have hst : Hid ((ks.take (k + 1)).filterMap (fun key => cntG (key, ofK (a.map Itm.z) s.c key)) = (ks.take k).filterMap (fun key => cntG (key, ofK (a.map Itm.z) s.c key)) ++ (cntG (key, ofK (a.map Itm.z) s.c key)).toList) := by show _ = _; rw [fm_take hlt, hkey]
          clear hkc hkey hkb
          go_wp2
          go_loopw [16, 17, 18] (fun n su i wi => ∃ m : Nat, m ≤ a.length ∧ i = .int .i64 m ∧ n = .int .i64 (timesL (ofK ((a.take m).map Itm.z) s.c key)) ∧ su = .int .i64 (sumAtL s.v (ofK ((a.take m).map Itm.z) s.c key)) ∧ Hid (Gr wq wi)) (fun _ _ i _ => a.length - (intOf i).toNat)
          case atStart => exact ⟨0, Nat.zero_le _, rfl, rfl, rfl, Gr.refl _⟩
          case round =>
            rename World => wi
            obtain ⟨m, hm, rfl, rfl, rfl, hg⟩ := hrel
            have hb4i : Hid (Below w4.heap.size w4 wi) := hR.out.2.2.2.trans (hg.out.below.mono hR.out.2.2.2.size)
            have ek : wi.cell? ⟨kb, ko + k, none⟩ = some (.int .i64 key) := (hb4i.out.cell (p := ⟨kb, ko + k, none⟩) hkc2.out.2).trans hkc2.out.1
            have k0 : wi.cell? ⟨X, 0, none⟩ = some (.int .i64 8) := by rw [(hW.out.2.2.2.1.below hb4i.out).c0, hH.out.2.2.2.1]
            by_cases hlt2 : m < a.length
            · have hltz2 : (m : Int) < (a.length : Int) := by omega
              have hI : Hid (Items wi A a) := hW.out.2.2.2.2.below hb4i.out
              obtain ⟨bb, off, rfl, hb, hcs⟩ := hI.out.at hlt2
              obtain ⟨x, hx⟩ : ∃ x, a[m] = x := ⟨_, rfl⟩
              obtain ⟨e0, e1⟩ := hcs m hlt2
              rw [hx] at e0 e1
              have hxm : x ∈ a := by rw [← hx]; exact List.getElem_mem hlt2
              obtain ⟨rb, ro, cn, hp, hrb, hcn, hcl, hcell⟩ := rowI_atI (hI.out.each x hxm).1 (hH.out.2.2.2.2.2.1 x hxm)
              obtain ⟨rb2, ro2, vn, hp2, hrb2, hvn, hvl, hcell2⟩ := rowI_atI (hI.out.each x hxm).1 (hH.out.2.2.2.2.2.2.1 x hxm)
              obtain ⟨rfl, rfl⟩ : rb2 = rb ∧ ro2 = ro := by rw [hp] at hp2; injection hp2 with h; injection h with h1 h2; exact ⟨h1.symm, h2.symm⟩
              have k3 : wi.cell? ⟨X, 3, none⟩ = some (.int .i64 (cn : Int)) := by rw [(hW.out.2.2.2.1.below hb4i.out).c3, hcn]
              have k5 : wi.cell? ⟨X, 5, none⟩ = some (.int .i64 (vn : Int)) := by rw [(hW.out.2.2.2.1.below hb4i.out).c5, hvn]
              have hst2 : Hid (ofK ((a.take (m + 1)).map Itm.z) s.c key = ofK ((a.take m).map Itm.z) s.c key ++ (if atI x.r s.c = key then [x.z] else [])) := by show _ = _; rw [ofK_take hlt2, hx]
              obtain ⟨O, hO⟩ : ∃ O, ofK ((a.take m).map Itm.z) s.c key = O := ⟨_, rfl⟩
              have hOk := ofK_ok (m := m) (c := s.c) (key := key) hH.out.2.2.2.2.2.2.2
              rw [hO] at hst2 hOk
              have hbt := timesL_bound (l := O) fun y hy => (hOk.1 y hy).2
              have hbs := sumZ_bound (l := O) (v := s.v) hOk.1
              have hbx := at_mul (v := s.v) (hH.out.2.2.2.2.2.2.2 x hxm)
              have hbn := (hH.out.2.2.2.2.2.2.2 x hxm).2
              simp only [okW, inB, Bool.and_eq_true, decide_eq_true_eq] at hbn
              have hOl := hOk.2
              obtain ⟨nn, hnn⟩ : ∃ nn, atI x.r s.c = nn := ⟨_, rfl⟩
              obtain ⟨vv, hvv⟩ : ∃ vv, atI x.r s.v = vv := ⟨_, rfl⟩
              rw [hnn] at hcell hst2
              rw [hvv] at hcell2 hbx
              rw [hp] at e0
              rw [hO]
              obtain ⟨T1, hT1⟩ : ∃ T1, timesL O = T1 := ⟨_, rfl⟩
              obtain ⟨T2, hT2⟩ : ∃ T2, sumAtL s.v O = T2 := ⟨_, rfl⟩
              rw [hT1] at hbt ⊢
              rw [hT2] at hbs ⊢
              rw [Int.mul_comm] at hbx
              obtain ⟨M, hM⟩ : ∃ M, x.n * vv = M := ⟨_, rfl⟩
              have hw1 : IntKind.i64.wrap (x.n * vv) = M := by rw [IntKind.wrap_i64]; omega
              rw [hM] at hbx
              have hw2 : IntKind.i64.wrap (T2 + M) = T2 + M := by rw [IntKind.wrap_i64]; omega
              have hw3 : IntKind.i64.wrap (T1 + x.n) = T1 + x.n := by rw [IntKind.wrap_i64]; omega
              have hcz : (cn : Int) < (x.r.length : Int) := by omega
              have hvz : (vn : Int) < (x.r.length : Int) := by omega
              have hfy : Hid (nn = key → timesL (ofK ((a.take (m + 1)).map Itm.z) s.c key) = T1 + x.n ∧ sumAtL s.v (ofK ((a.take (m + 1)).map Itm.z) s.c key) = T2 + M) := fun e => by
                rw [hst2.out, if_pos e, timesL_append, sumAtL_append, hT1, hT2]
                refine ⟨by simp [timesL, Itm.z], ?_⟩
                have : sumAtL s.v [x.z] = atI x.r s.v * x.n := by simp [sumAtL, Itm.z]
                rw [this, hvv, Int.mul_comm, hM]
              have hfn : Hid (nn ≠ key → timesL (ofK ((a.take (m + 1)).map Itm.z) s.c key) = T1 ∧ sumAtL s.v (ofK ((a.take (m + 1)).map Itm.z) s.c key) = T2) := fun e => by
                rw [hst2.out, if_neg e, List.append_nil, hT1, hT2]
                exact ⟨rfl, rfl⟩
              clear hcs hx hxm hnn hvv hp hp2 hcl hvl hcn hvn hO hOk hOl hbt hbs hbx hbn hT1 hT2 hM hst2 hrb hrb2
              by_cases hq : nn = key
              · have hq2 : (nn == key) = true := beq_iff_eq.2 hq
                have hf := hfy.out hq
                have hfH : Hid _ := hf
                clear hf hfy hfn
                go_wp2
                go_quiet (fail)
                go_wp2
                go_quiet (fail)
                go_wp2
                go_roundw
                case rel => exact ⟨m + 1, by omega, by go_num, by rw [hfH.out.1], by rw [hfH.out.2], by first | exact hg.out.trans (gr_drewN _ _) | exact (hg.out.trans (gr_drewN _ _)).trans (gr_drewN _ _)⟩
                case measure => simp [intOf]; omega
              · have hq2 : (nn == key) = false := beq_eq_false_iff_ne.2 hq
                have hf := hfn.out hq
                have hfH : Hid _ := hf
                clear hf hfy hfn hw1 hw2 hw3
                go_wp2
                go_quiet (fail)
                go_wp2
                go_roundw
                case rel => exact ⟨m + 1, by omega, by go_num, by rw [hfH.out.1], by rw [hfH.out.2], hg.out.trans (gr_drewN _ _)⟩
                case measure => simp [intOf]; omega
            · have hltz2 : ¬ (m : Int) < (a.length : Int) := by omega
              have hke : a.take m = a := List.take_of_length_le (by omega)
              rw [hke]
              obtain ⟨O, hO⟩ : ∃ O, ofK (a.map Itm.z) s.c key = O := ⟨_, rfl⟩
              have hOH : Hid (ofK (a.map Itm.z) s.c key = O) := hO
              rw [hO]
              obtain ⟨n1, hn1⟩ : ∃ n1, timesL O = n1 := ⟨_, rfl⟩
              obtain ⟨s1, hs1⟩ : ∃ s1, sumAtL s.v O = s1 := ⟨_, rfl⟩
              have hF0 : Hid (n1 = 0 → cntG (key, ofK (a.map Itm.z) s.c key) = none) := fun e => by rw [hOH.out]; unfold cntG; rw [if_pos (show timesL O = 0 by rw [hn1, e])]
              have hF1 : Hid (n1 ≠ 0 → cntG (key, ofK (a.map Itm.z) s.c key) = some ([key, n1], 1)) := fun e => by rw [hOH.out]; unfold cntG; rw [if_neg (show ¬ timesL O = 0 by rw [hn1]; exact e)]; simp only [hn1]
              rw [hn1, hs1]
              clear hke hO hn1 hs1
              have hbW : Hid (OwnT wi w4.heap.size u7 L ∧ Below w4.heap.size w4 wi) := ⟨hR.out.2.2.1.gr hg.out, hb4i.out⟩
              by_cases hz : n1 = 0
              · have hfin : Hid (L.length ≤ k + 1 ∧ L.map Itm.z = (ks.take (k + 1)).filterMap (fun key => cntG (key, ofK (a.map Itm.z) s.c key)) ∧ OwnT wi w4.heap.size u7 L ∧ Below w4.heap.size w4 wi) := ⟨by have := hR.out.1; omega, by rw [hst.out, hF0.out hz, hR.out.2.1]; simp, hbW.out⟩
                subst hz
                clear hF0 hF1
                go_wp2
                go_roundw
                case rel => exact ⟨k + 1, L, by omega, by go_num, hfin⟩
                case measure => simp [intOf]; omega
              · have hz2 : (n1 == 0) = false := beq_eq_false_iff_ne.2 hz
                have hF1' : Hid (cntG (key, ofK (a.map Itm.z) s.c key) = some ([key, n1], 1)) := hF1.out hz
                have hoX : Hid (OwnT ((wi.alloc (.cells #[.int .i64 key, .int .i64 n1] 3)).alloc (.cells #[.slice (some ⟨wi.heap.size, 0, none⟩) 2 2, .int .i64 1] 59)) w4.heap.size u7 L ∧ RowG encT 2 ((wi.alloc (.cells #[.int .i64 key, .int .i64 n1] 3)).alloc (.cells #[.slice (some ⟨wi.heap.size, 0, none⟩) 2 2, .int .i64 1] 59)) (some ⟨wi.heap.size + 1, 0, none⟩) [(⟨some ⟨wi.heap.size, 0, none⟩, 2, [key, n1], 1⟩ : Itm)] ∧ Apart ((wi.alloc (.cells #[.int .i64 key, .int .i64 n1] 3)).alloc (.cells #[.slice (some ⟨wi.heap.size, 0, none⟩) 2 2, .int .i64 1] 59)) w4.heap.size u7.ownBlock (⟨some ⟨wi.heap.size, 0, none⟩, 2, [key, n1], 1⟩ : Itm) ∧ L.length + 1 ≤ maxLen ∧ (L.length + 1) * 32 ≤ 140737488355328 ∧ Below w4.heap.size w4 ((wi.alloc (.cells #[.int .i64 key, .int .i64 n1] 3)).alloc (.cells #[.slice (some ⟨wi.heap.size, 0, none⟩) 2 2, .int .i64 1] 59))) := by
                  have hLk := hR.out.1
                  have hs4 := hbW.out.2.size
                  have hg2 : Gr wi ((wi.alloc (.cells #[.int .i64 key, .int .i64 n1] 3)).alloc (.cells #[.slice (some ⟨wi.heap.size, 0, none⟩) 2 2, .int .i64 1] 59)) := ((Gr.refl _).alloc _).alloc _
                  refine ⟨hbW.out.1.gr hg2, rowNewT (by simp) (⟨some ⟨wi.heap.size, 0, none⟩, 2, [key, n1], 1⟩ : Itm) _, ⟨(rowNew2 rfl key n1 _).gr ((Gr.refl _).alloc _), by show 2 ≤ maxLen; decide, (fun h => by cases h), fun ad ha => ⟨?_, ?_, ?_⟩⟩, by unfold maxLen; omega, by omega, hbW.out.2.trans (hg2.below.mono hbW.out.2.size)⟩
                  · cases ha; exact hs4
                  · cases ha; simp; omega
                  · cases ha
                    intro e
                    exact absurd (World.ownsRow.lt hbW.out.1.own _ e).2 (Nat.lt_irrefl _)
                clear hF0 hF1
                go_wp2_with (at_builtin; refine wpList_append_t _ rfl (.tmp 245) (.tmp 253) rfl w4.heap.size u7 L (⟨some ⟨wi.heap.size, 0, none⟩, 2, [key, n1], 1⟩ : Itm) ⟨wi.heap.size + 1, 0, none⟩ 1 rfl rfl hoX.out.1 hoX.out.2.1 hoX.out.2.2.1 hoX.out.2.2.2.1 hoX.out.2.2.2.2.1 hoX.out.2.2.2.2.2.size ?_; intro v8 w8 hown8 hb8)
                have hfin : Hid ((L ++ [(⟨some ⟨wi.heap.size, 0, none⟩, 2, [key, n1], 1⟩ : Itm)]).length ≤ k + 1 ∧ (L ++ [(⟨some ⟨wi.heap.size, 0, none⟩, 2, [key, n1], 1⟩ : Itm)]).map Itm.z = (ks.take (k + 1)).filterMap (fun key => cntG (key, ofK (a.map Itm.z) s.c key)) ∧ OwnT w8 w4.heap.size v8 (L ++ [(⟨some ⟨wi.heap.size, 0, none⟩, 2, [key, n1], 1⟩ : Itm)]) ∧ Below w4.heap.size w4 w8) := ⟨by have := hR.out.1; simp; omega, by rw [hst.out, hF1'.out, List.map_append, hR.out.2.1]; rfl, hown8, hoX.out.2.2.2.2.2.trans hb8⟩
                clear hown8 hb8
                go_wp2
                go_roundw
                case rel => exact ⟨k + 1, L ++ [(⟨some ⟨wi.heap.size, 0, none⟩, 2, [key, n1], 1⟩ : Itm)], by omega, by go_num, hfin⟩
                case measure => simp [intOf]; omega
        · have hltz : ¬ (k : Int) < (ks.length : Int) := by omega
          have hke : ks.take k = ks := List.take_of_length_le (by omega)
          obtain ⟨A2, cap2, hv2, _, hit, _⟩ := hR.out.2.2.1.items
          have hfin : Hid (L.map Itm.z = ((keyL (a.map Itm.z) s.c).filterMap (fun key => cntG (key, ofK (a.map Itm.z) s.c key))) ∧ Items wq A2 L ∧ Below w.heap.size w wq) := by
            have h1 := hR.out.2.1
            rw [hke, ← hW.out.1] at h1
            have h3 := hW.out.2.2.1.trans (hR.out.2.2.2.mono hW.out.2.2.1.size)
            exact ⟨h1, hit, hH.out.2.1.below.trans (h3.mono hH.out.2.1.below.size)⟩
          subst hv2
          clear hke hit
          go_wp2
          go_ret
          first | exact ⟨L, A2, cap2, rfl, hfin.out⟩ | exact ⟨L, A2, ⟨cap2, rfl⟩, hfin.out⟩
end Go.Proofs.YtoanlaedkpkpnaaGreatDoor

namespace Go.Proofs.YtoanlaedkpkpnaaGreatDoor
open Go.RowKit Go.Sort

set_option maxRecDepth 100000 in
set_option maxHeartbeats 1000000 in
theorem made9 (s : Stp) (a b : List Itm) (A B : Option Addr) (ca cb : Nat) (w : World) (hk : s.k = 9) (hl : a.length ≤ 400) (ha : Items w A a) (hc : ∀ x ∈ a, inB s.c 0 ((x.r.length : Int) - 1) = true) (hv : ∀ x ∈ a, inB s.v 0 ((x.r.length : Int) - 1) = true) (hok : ∀ x ∈ a, okR x.r = true ∧ okW x.n = true) :
    Calls Tryz.prog 37 #[.agg #[.int .i64 s.k, .int .i64 s.a, .int .i64 s.b, .int .i64 s.c, .int .i64 s.o, .int .i64 s.v, .slice s.p s.l.length s.n], .slice A a.length ca, .slice B b.length cb] w fun e w' => ∃ (L : List Itm) (C : Option Addr) (k : Nat), e = .returned (.slice C L.length k) ∧ L.map Itm.z = ((keyL (a.map Itm.z) s.c).filterMap (fun key => sumG s.v (key, ofK (a.map Itm.z) s.c key))) ∧ Items w' C L ∧ Below w.heap.size w w' := by
  have hS0 := StAt.new w s
  have hg0 : Gr w (w.alloc (.cells #[.int .i64 s.k, .int .i64 s.a, .int .i64 s.b, .int .i64 s.c, .int .i64 s.o, .int .i64 s.v, .slice s.p s.l.length s.n] 64)) := (Gr.refl w).alloc _
  obtain ⟨w1, hw1⟩ : ∃ w1, w.alloc (.cells #[.int .i64 s.k, .int .i64 s.a, .int .i64 s.b, .int .i64 s.c, .int .i64 s.o, .int .i64 s.v, .slice s.p s.l.length s.n] 64) = w1 := ⟨_, rfl⟩
  rw [hw1] at hS0 hg0
  obtain ⟨X, hX⟩ : ∃ X, w.heap.size = X := ⟨_, rfl⟩
  have hH : Hid (StAt w1 X s ∧ Gr w w1 ∧ Items w1 A a ∧ s.k = 9 ∧ w.heap.size = X ∧ (∀ x ∈ a, inB s.c 0 ((x.r.length : Int) - 1) = true) ∧ (∀ x ∈ a, inB s.v 0 ((x.r.length : Int) - 1) = true) ∧ ∀ x ∈ a, okR x.r = true ∧ okW x.n = true) := ⟨hX ▸ hS0, hg0, ha.gr hg0, hk, hX, hc, hv, hok⟩
  clear hS0 hg0 ha hk hc hv hok
  go_enter Tryz.func37, Tryz.ntmps37
  go_wp2
  try rw [hw1]
  try rw [hX]
  clear hw1 hX
  go_loopw [7, 8, 9] (fun u v i wr => ∃ (k : Nat), k ≤ a.length ∧ i = .int .i64 k ∧ u = .slice none 0 0 ∧ Hid (OwnI wr w1.heap.size v ((a.take k).map (fun y : Itm => atI y.r s.c)) ∧ Below w1.heap.size w1 wr)) (fun _ _ i _ => a.length - (intOf i).toNat)
  case atStart => exact ⟨0, Nat.zero_le _, rfl, rfl, OwnG.nil _ _ _ _ _, Below.refl _ _⟩
  case round =>
    obtain ⟨k, hk, rfl, rfl, hR⟩ := hrel
    have hSt : Hid (StAt wr X s) := hH.out.1.below hR.out.2
    by_cases hlt : k < a.length
    · have hltz : (k : Int) < (a.length : Int) := by omega
      have hI : Hid (Items wr A a) := hH.out.2.2.1.below hR.out.2
      obtain ⟨bb, off, rfl, hb, hcs⟩ := hI.out.at hlt
      obtain ⟨x, hx⟩ : ∃ x, a[k] = x := ⟨_, rfl⟩
      obtain ⟨e0, e1⟩ := hcs k hlt
      rw [hx] at e0 e1
      have hxm : x ∈ a := by rw [← hx]; exact List.getElem_mem hlt
      obtain ⟨rb, ro, cn, hp, hrb, hcn, hcl, hcell⟩ := rowI_atI (hI.out.each x hxm).1 (hH.out.2.2.2.2.2.1 x hxm)
      have hst : Hid ((a.take (k + 1)).map (fun y : Itm => atI y.r s.c) = (a.take k).map (fun y : Itm => atI y.r s.c) ++ [atI x.r s.c]) := by show _ = _; rw [List.take_succ_eq_append_getElem hlt, hx, List.map_append]; rfl
      obtain ⟨nn, hnn⟩ : ∃ nn, atI x.r s.c = nn := ⟨_, rfl⟩
      rw [hnn] at hcell hst
      rw [hp] at e0
      have hgX : Hid (Gr wr (wr.alloc (.cells #[.slice (some ⟨rb, ro, none⟩) x.r.length x.c, .int .i64 x.n] 59))) := (Gr.refl _).alloc _
      have y0 : (wr.alloc (.cells #[.slice (some ⟨rb, ro, none⟩) x.r.length x.c, .int .i64 x.n] 59)).cell? ⟨rb, ro + cn, none⟩ = some (.int .i64 nn) := (hgX.out.cell (p := ⟨rb, ro + cn, none⟩) hrb).trans hcell
      have k0 : (wr.alloc (.cells #[.slice (some ⟨rb, ro, none⟩) x.r.length x.c, .int .i64 x.n] 59)).cell? ⟨X, 0, none⟩ = some (.int .i64 9) := by rw [hgX.out.cell (p := ⟨X, 0, none⟩) hSt.out.lt, hSt.out.c0, hH.out.2.2.2.1]
      have k3 : (wr.alloc (.cells #[.slice (some ⟨rb, ro, none⟩) x.r.length x.c, .int .i64 x.n] 59)).cell? ⟨X, 3, none⟩ = some (.int .i64 (cn : Int)) := by rw [hgX.out.cell (p := ⟨X, 3, none⟩) hSt.out.lt, hSt.out.c3, hcn]
      have hcz : (cn : Int) < (x.r.length : Int) := by omega
      clear hcs hx hxm hnn hp hcell hcl hcn
      have hoX : Hid (OwnI ((wr.alloc (.cells #[.slice (some ⟨rb, ro, none⟩) x.r.length x.c, .int .i64 x.n] 59)).alloc (.cells #[.int .i64 nn] 3)) w1.heap.size u8 ((a.take k).map (fun y : Itm => atI y.r s.c)) ∧ RowI ((wr.alloc (.cells #[.slice (some ⟨rb, ro, none⟩) x.r.length x.c, .int .i64 x.n] 59)).alloc (.cells #[.int .i64 nn] 3)) (some ⟨wr.heap.size + 1, 0, none⟩) [nn] ∧ ((a.take k).map (fun y : Itm => atI y.r s.c)).length + [nn].length ≤ maxLen ∧ (((a.take k).map (fun y : Itm => atI y.r s.c)).length + [nn].length) * 8 ≤ 140737488355328 ∧ Below w1.heap.size w1 ((wr.alloc (.cells #[.slice (some ⟨rb, ro, none⟩) x.r.length x.c, .int .i64 x.n] 59)).alloc (.cells #[.int .i64 nn] 3))) := by
        have hLk : ((a.take k).map (fun y : Itm => atI y.r s.c)).length ≤ 400 := by rw [List.length_map, List.length_take]; omega
        have h1 : [nn].length = 1 := rfl
        exact ⟨hR.out.1.gr (hgX.out.alloc _), rowNewI (by simp) nn _, by unfold maxLen; omega, by omega, hR.out.2.trans ((hgX.out.alloc _).below.mono hR.out.2.size)⟩
      go_wp2_with (at_builtin; refine wpList_append_i _ rfl (.tmp 31) (.tmp 38) rfl w1.heap.size u8 ((a.take k).map (fun y : Itm => atI y.r s.c)) [nn] (some ⟨wr.heap.size + 1, 0, none⟩) 1 rfl rfl hoX.out.1 hoX.out.2.1 (fun h => by cases h) hoX.out.2.2.1 hoX.out.2.2.2.1 hoX.out.2.2.2.2.size ?_; intro v3 w3 hown3 hg3)
      have hfin : Hid (OwnI w3 w1.heap.size v3 ((a.take (k + 1)).map (fun y : Itm => atI y.r s.c)) ∧ Below w1.heap.size w1 w3) := ⟨by rw [hst.out]; exact hown3, hoX.out.2.2.2.2.trans (hoX.out.1.grown_below hg3 hoX.out.2.2.2.2.size)⟩
      clear hown3 hg3
      go_wp2
      go_roundw
      case rel => exact ⟨k + 1, by omega, by go_num, rfl, hfin⟩
      case measure => simp [intOf]; omega
    · have hltz : ¬ (k : Int) < (a.length : Int) := by omega
      have hke : a.take k = a := List.take_of_length_le (by omega)
      rw [hke] at hR
      have k0 : wr.cell? ⟨X, 0, none⟩ = some (.int .i64 9) := by rw [hSt.out.c0, hH.out.2.2.2.1]
      obtain ⟨KA, kc, hv2, hn2, hit, _⟩ := hR.out.1.row encI_len
      obtain ⟨kl, hkl⟩ : ∃ kl, a.map (fun y : Itm => atI y.r s.c) = kl := ⟨_, rfl⟩
      rw [hkl] at hv2 hit hR
      have hkll : kl.length ≤ 400 := by rw [← hkl, List.length_map]; exact hl
      subst hv2
      have ho0 := once_any kl KA kc wr hit hn2 (by omega)
      have hoH : Hid _ := ho0
      have hklH : Hid (a.map (fun y : Itm => atI y.r s.c) = kl) := hkl
      clear hke ho0 hit hn2 hkl
      go_wp2_with fail
      refine Calls.mono (show Calls _ _ _ _ _ from hoH.out) ?_
      rintro e w4 ⟨C4, cp4, rfl, hrk, hb4⟩
      obtain ⟨ks, hks⟩ : ∃ ks, onceL kl = ks := ⟨_, rfl⟩
      have hksl : ks.length ≤ 400 := by rw [← hks]; have := onceL_len kl; omega
      have h14 : Below w1.heap.size w1 w4 := hR.out.2.trans (hb4.mono hR.out.2.size)
      have hW : Hid (keyL (a.map Itm.z) s.c = ks ∧ RowI w4 C4 ks ∧ Below w1.heap.size w1 w4 ∧ StAt w4 X s ∧ Items w4 A a) := ⟨by rw [keyL_itm, hklH.out, hks], by rw [← hks]; exact hrk, h14, hH.out.1.below h14, hH.out.2.2.1.below h14⟩
      rw [hks]
      clear hoH hrk hb4 h14 hks hklH hR hSt k0
      go_wp2
      go_loopw [7, 15] (fun u i wr => ∃ (k : Nat) (L : List Itm), k ≤ ks.length ∧ i = .int .i64 k ∧ Hid (L.length ≤ k ∧ L.map Itm.z = (ks.take k).filterMap (fun key => sumG s.v (key, ofK (a.map Itm.z) s.c key)) ∧ OwnT wr w4.heap.size u L ∧ Below w4.heap.size w4 wr)) (fun _ i _ => ks.length - (intOf i).toNat)
      case atStart => exact ⟨0, [], Nat.zero_le _, rfl, Nat.le_refl _, rfl, OwnT.nil _ _, Below.refl _ _⟩
      case round =>
        rename World => wq
        obtain ⟨k, L, hk, rfl, hR⟩ := hrel
        by_cases hlt : k < ks.length
        · have hltz : (k : Int) < (ks.length : Int) := by omega
          obtain ⟨key, hkey⟩ : ∃ key, ks[k] = key := ⟨_, rfl⟩
          obtain ⟨kb, ko, hC4, hkb, hkc⟩ := hW.out.2.1.at hlt
          subst hC4
          have hkc2 : Hid (w4.cell? ⟨kb, ko + k, none⟩ = some (.int .i64 key) ∧ kb < w4.heap.size) := by
            have := hkc k hlt 0 (by omega)
            rw [hkey] at this
            exact ⟨by simpa [encI] using this, hkb⟩
          have hst : Hid ((ks.take (k + 1)).filterMap (fun key => sumG s.v (key, ofK (a.map Itm.z) s.c key)) = (ks.take k).filterMap (fun key => sumG s.v (key, ofK (a.map Itm.z) s.c key)) ++ (sumG s.v (key, ofK (a.map Itm.z) s.c key)).toList) := by show _ = _; rw [fm_take hlt, hkey]
          clear hkc hkey hkb
          go_wp2
          go_loopw [16, 17, 18] (fun n su i wi => ∃ m : Nat, m ≤ a.length ∧ i = .int .i64 m ∧ n = .int .i64 (timesL (ofK ((a.take m).map Itm.z) s.c key)) ∧ su = .int .i64 (sumAtL s.v (ofK ((a.take m).map Itm.z) s.c key)) ∧ Hid (Gr wq wi)) (fun _ _ i _ => a.length - (intOf i).toNat)
          case atStart => exact ⟨0, Nat.zero_le _, rfl, rfl, rfl, Gr.refl _⟩
          case round =>
            rename World => wi
            obtain ⟨m, hm, rfl, rfl, rfl, hg⟩ := hrel
            have hb4i : Hid (Below w4.heap.size w4 wi) := hR.out.2.2.2.trans (hg.out.below.mono hR.out.2.2.2.size)
            have ek : wi.cell? ⟨kb, ko + k, none⟩ = some (.int .i64 key) := (hb4i.out.cell (p := ⟨kb, ko + k, none⟩) hkc2.out.2).trans hkc2.out.1
            have k0 : wi.cell? ⟨X, 0, none⟩ = some (.int .i64 9) := by rw [(hW.out.2.2.2.1.below hb4i.out).c0, hH.out.2.2.2.1]
            by_cases hlt2 : m < a.length
            · have hltz2 : (m : Int) < (a.length : Int) := by omega
              have hI : Hid (Items wi A a) := hW.out.2.2.2.2.below hb4i.out
              obtain ⟨bb, off, rfl, hb, hcs⟩ := hI.out.at hlt2
              obtain ⟨x, hx⟩ : ∃ x, a[m] = x := ⟨_, rfl⟩
              obtain ⟨e0, e1⟩ := hcs m hlt2
              rw [hx] at e0 e1
              have hxm : x ∈ a := by rw [← hx]; exact List.getElem_mem hlt2
              obtain ⟨rb, ro, cn, hp, hrb, hcn, hcl, hcell⟩ := rowI_atI (hI.out.each x hxm).1 (hH.out.2.2.2.2.2.1 x hxm)
              obtain ⟨rb2, ro2, vn, hp2, hrb2, hvn, hvl, hcell2⟩ := rowI_atI (hI.out.each x hxm).1 (hH.out.2.2.2.2.2.2.1 x hxm)
              obtain ⟨rfl, rfl⟩ : rb2 = rb ∧ ro2 = ro := by rw [hp] at hp2; injection hp2 with h; injection h with h1 h2; exact ⟨h1.symm, h2.symm⟩
              have k3 : wi.cell? ⟨X, 3, none⟩ = some (.int .i64 (cn : Int)) := by rw [(hW.out.2.2.2.1.below hb4i.out).c3, hcn]
              have k5 : wi.cell? ⟨X, 5, none⟩ = some (.int .i64 (vn : Int)) := by rw [(hW.out.2.2.2.1.below hb4i.out).c5, hvn]
              have hst2 : Hid (ofK ((a.take (m + 1)).map Itm.z) s.c key = ofK ((a.take m).map Itm.z) s.c key ++ (if atI x.r s.c = key then [x.z] else [])) := by show _ = _; rw [ofK_take hlt2, hx]
              obtain ⟨O, hO⟩ : ∃ O, ofK ((a.take m).map Itm.z) s.c key = O := ⟨_, rfl⟩
              have hOk := ofK_ok (m := m) (c := s.c) (key := key) hH.out.2.2.2.2.2.2.2
              rw [hO] at hst2 hOk
              have hbt := timesL_bound (l := O) fun y hy => (hOk.1 y hy).2
              have hbs := sumZ_bound (l := O) (v := s.v) hOk.1
              have hbx := at_mul (v := s.v) (hH.out.2.2.2.2.2.2.2 x hxm)
              have hbn := (hH.out.2.2.2.2.2.2.2 x hxm).2
              simp only [okW, inB, Bool.and_eq_true, decide_eq_true_eq] at hbn
              have hOl := hOk.2
              obtain ⟨nn, hnn⟩ : ∃ nn, atI x.r s.c = nn := ⟨_, rfl⟩
              obtain ⟨vv, hvv⟩ : ∃ vv, atI x.r s.v = vv := ⟨_, rfl⟩
              rw [hnn] at hcell hst2
              rw [hvv] at hcell2 hbx
              rw [hp] at e0
              rw [hO]
              obtain ⟨T1, hT1⟩ : ∃ T1, timesL O = T1 := ⟨_, rfl⟩
              obtain ⟨T2, hT2⟩ : ∃ T2, sumAtL s.v O = T2 := ⟨_, rfl⟩
              rw [hT1] at hbt ⊢
              rw [hT2] at hbs ⊢
              rw [Int.mul_comm] at hbx
              obtain ⟨M, hM⟩ : ∃ M, x.n * vv = M := ⟨_, rfl⟩
              have hw1 : IntKind.i64.wrap (x.n * vv) = M := by rw [IntKind.wrap_i64]; omega
              rw [hM] at hbx
              have hw2 : IntKind.i64.wrap (T2 + M) = T2 + M := by rw [IntKind.wrap_i64]; omega
              have hw3 : IntKind.i64.wrap (T1 + x.n) = T1 + x.n := by rw [IntKind.wrap_i64]; omega
              have hcz : (cn : Int) < (x.r.length : Int) := by omega
              have hvz : (vn : Int) < (x.r.length : Int) := by omega
              have hfy : Hid (nn = key → timesL (ofK ((a.take (m + 1)).map Itm.z) s.c key) = T1 + x.n ∧ sumAtL s.v (ofK ((a.take (m + 1)).map Itm.z) s.c key) = T2 + M) := fun e => by
                rw [hst2.out, if_pos e, timesL_append, sumAtL_append, hT1, hT2]
                refine ⟨by simp [timesL, Itm.z], ?_⟩
                have : sumAtL s.v [x.z] = atI x.r s.v * x.n := by simp [sumAtL, Itm.z]
                rw [this, hvv, Int.mul_comm, hM]
              have hfn : Hid (nn ≠ key → timesL (ofK ((a.take (m + 1)).map Itm.z) s.c key) = T1 ∧ sumAtL s.v (ofK ((a.take (m + 1)).map Itm.z) s.c key) = T2) := fun e => by
                rw [hst2.out, if_neg e, List.append_nil, hT1, hT2]
                exact ⟨rfl, rfl⟩
              clear hcs hx hxm hnn hvv hp hp2 hcl hvl hcn hvn hO hOk hOl hbt hbs hbx hbn hT1 hT2 hM hst2 hrb hrb2
              by_cases hq : nn = key
              · have hq2 : (nn == key) = true := beq_iff_eq.2 hq
                have hf := hfy.out hq
                have hfH : Hid _ := hf
                clear hf hfy hfn
                go_wp2
                go_quiet (fail)
                go_wp2
                go_quiet (fail)
                go_wp2
                go_roundw
                case rel => exact ⟨m + 1, by omega, by go_num, by rw [hfH.out.1], by rw [hfH.out.2], by first | exact hg.out.trans (gr_drewN _ _) | exact (hg.out.trans (gr_drewN _ _)).trans (gr_drewN _ _)⟩
                case measure => simp [intOf]; omega
              · have hq2 : (nn == key) = false := beq_eq_false_iff_ne.2 hq
                have hf := hfn.out hq
                have hfH : Hid _ := hf
                clear hf hfy hfn hw1 hw2 hw3
                go_wp2
                go_quiet (fail)
                go_wp2
                go_roundw
                case rel => exact ⟨m + 1, by omega, by go_num, by rw [hfH.out.1], by rw [hfH.out.2], hg.out.trans (gr_drewN _ _)⟩
                case measure => simp [intOf]; omega
            · have hltz2 : ¬ (m : Int) < (a.length : Int) := by omega
              have hke : a.take m = a := List.take_of_length_le (by omega)
              rw [hke]
              obtain ⟨O, hO⟩ : ∃ O, ofK (a.map Itm.z) s.c key = O := ⟨_, rfl⟩
              have hOH : Hid (ofK (a.map Itm.z) s.c key = O) := hO
              rw [hO]
              obtain ⟨n1, hn1⟩ : ∃ n1, timesL O = n1 := ⟨_, rfl⟩
              obtain ⟨s1, hs1⟩ : ∃ s1, sumAtL s.v O = s1 := ⟨_, rfl⟩
              have hF0 : Hid (n1 = 0 → sumG s.v (key, ofK (a.map Itm.z) s.c key) = none) := fun e => by rw [hOH.out]; unfold sumG; rw [if_pos (show timesL O = 0 by rw [hn1, e])]
              have hF1 : Hid (n1 ≠ 0 → sumG s.v (key, ofK (a.map Itm.z) s.c key) = some ([key, s1], 1)) := fun e => by rw [hOH.out]; unfold sumG; rw [if_neg (show ¬ timesL O = 0 by rw [hn1]; exact e)]; simp only [hs1]
              rw [hn1, hs1]
              clear hke hO hn1 hs1
              have hbW : Hid (OwnT wi w4.heap.size u7 L ∧ Below w4.heap.size w4 wi) := ⟨hR.out.2.2.1.gr hg.out, hb4i.out⟩
              by_cases hz : n1 = 0
              · have hfin : Hid (L.length ≤ k + 1 ∧ L.map Itm.z = (ks.take (k + 1)).filterMap (fun key => sumG s.v (key, ofK (a.map Itm.z) s.c key)) ∧ OwnT wi w4.heap.size u7 L ∧ Below w4.heap.size w4 wi) := ⟨by have := hR.out.1; omega, by rw [hst.out, hF0.out hz, hR.out.2.1]; simp, hbW.out⟩
                subst hz
                clear hF0 hF1
                go_wp2
                go_roundw
                case rel => exact ⟨k + 1, L, by omega, by go_num, hfin⟩
                case measure => simp [intOf]; omega
              · have hz2 : (n1 == 0) = false := beq_eq_false_iff_ne.2 hz
                have hF1' : Hid (sumG s.v (key, ofK (a.map Itm.z) s.c key) = some ([key, s1], 1)) := hF1.out hz
                have hoX : Hid (OwnT ((wi.alloc (.cells #[.int .i64 key, .int .i64 s1] 3)).alloc (.cells #[.slice (some ⟨wi.heap.size, 0, none⟩) 2 2, .int .i64 1] 59)) w4.heap.size u7 L ∧ RowG encT 2 ((wi.alloc (.cells #[.int .i64 key, .int .i64 s1] 3)).alloc (.cells #[.slice (some ⟨wi.heap.size, 0, none⟩) 2 2, .int .i64 1] 59)) (some ⟨wi.heap.size + 1, 0, none⟩) [(⟨some ⟨wi.heap.size, 0, none⟩, 2, [key, s1], 1⟩ : Itm)] ∧ Apart ((wi.alloc (.cells #[.int .i64 key, .int .i64 s1] 3)).alloc (.cells #[.slice (some ⟨wi.heap.size, 0, none⟩) 2 2, .int .i64 1] 59)) w4.heap.size u7.ownBlock (⟨some ⟨wi.heap.size, 0, none⟩, 2, [key, s1], 1⟩ : Itm) ∧ L.length + 1 ≤ maxLen ∧ (L.length + 1) * 32 ≤ 140737488355328 ∧ Below w4.heap.size w4 ((wi.alloc (.cells #[.int .i64 key, .int .i64 s1] 3)).alloc (.cells #[.slice (some ⟨wi.heap.size, 0, none⟩) 2 2, .int .i64 1] 59))) := by
                  have hLk := hR.out.1
                  have hs4 := hbW.out.2.size
                  have hg2 : Gr wi ((wi.alloc (.cells #[.int .i64 key, .int .i64 s1] 3)).alloc (.cells #[.slice (some ⟨wi.heap.size, 0, none⟩) 2 2, .int .i64 1] 59)) := ((Gr.refl _).alloc _).alloc _
                  refine ⟨hbW.out.1.gr hg2, rowNewT (by simp) (⟨some ⟨wi.heap.size, 0, none⟩, 2, [key, s1], 1⟩ : Itm) _, ⟨(rowNew2 rfl key s1 _).gr ((Gr.refl _).alloc _), by show 2 ≤ maxLen; decide, (fun h => by cases h), fun ad ha => ⟨?_, ?_, ?_⟩⟩, by unfold maxLen; omega, by omega, hbW.out.2.trans (hg2.below.mono hbW.out.2.size)⟩
                  · cases ha; exact hs4
                  · cases ha; simp; omega
                  · cases ha
                    intro e
                    exact absurd (World.ownsRow.lt hbW.out.1.own _ e).2 (Nat.lt_irrefl _)
                clear hF0 hF1
                go_wp2_with (at_builtin; refine wpList_append_t _ rfl (.tmp 245) (.tmp 253) rfl w4.heap.size u7 L (⟨some ⟨wi.heap.size, 0, none⟩, 2, [key, s1], 1⟩ : Itm) ⟨wi.heap.size + 1, 0, none⟩ 1 rfl rfl hoX.out.1 hoX.out.2.1 hoX.out.2.2.1 hoX.out.2.2.2.1 hoX.out.2.2.2.2.1 hoX.out.2.2.2.2.2.size ?_; intro v8 w8 hown8 hb8)
                have hfin : Hid ((L ++ [(⟨some ⟨wi.heap.size, 0, none⟩, 2, [key, s1], 1⟩ : Itm)]).length ≤ k + 1 ∧ (L ++ [(⟨some ⟨wi.heap.size, 0, none⟩, 2, [key, s1], 1⟩ : Itm)]).map Itm.z = (ks.take (k + 1)).filterMap (fun key => sumG s.v (key, ofK (a.map Itm.z) s.c key)) ∧ OwnT w8 w4.heap.size v8 (L ++ [(⟨some ⟨wi.heap.size, 0, none⟩, 2, [key, s1], 1⟩ : Itm)]) ∧ Below w4.heap.size w4 w8) := ⟨by have := hR.out.1; simp; omega, by rw [hst.out, hF1'.out, List.map_append, hR.out.2.1]; rfl, hown8, hoX.out.2.2.2.2.2.trans hb8⟩
                clear hown8 hb8
                go_wp2
                go_roundw
                case rel => exact ⟨k + 1, L ++ [(⟨some ⟨wi.heap.size, 0, none⟩, 2, [key, s1], 1⟩ : Itm)], by omega, by go_num, hfin⟩
                case measure => simp [intOf]; omega
        · have hltz : ¬ (k : Int) < (ks.length : Int) := by omega
          have hke : ks.take k = ks := List.take_of_length_le (by omega)
          obtain ⟨A2, cap2, hv2, _, hit, _⟩ := hR.out.2.2.1.items
          have hfin : Hid (L.map Itm.z = ((keyL (a.map Itm.z) s.c).filterMap (fun key => sumG s.v (key, ofK (a.map Itm.z) s.c key))) ∧ Items wq A2 L ∧ Below w.heap.size w wq) := by
            have h1 := hR.out.2.1
            rw [hke, ← hW.out.1] at h1
            have h3 := hW.out.2.2.1.trans (hR.out.2.2.2.mono hW.out.2.2.1.size)
            exact ⟨h1, hit, hH.out.2.1.below.trans (h3.mono hH.out.2.1.below.size)⟩
          subst hv2
          clear hke hit
          go_wp2
          go_ret
          first | exact ⟨L, A2, cap2, rfl, hfin.out⟩ | exact ⟨L, A2, ⟨cap2, rfl⟩, hfin.out⟩
end Go.Proofs.YtoanlaedkpkpnaaGreatDoor

namespace Go.Proofs.YtoanlaedkpkpnaaGreatDoor
open Go.RowKit Go.Sort Go.Maps

/-- Is an item right but for nought? -/
def okJ (x : Itm) : Bool := okR x.r && okW x.n
theorem madE_bad {m : List Zit} {L : List Itm} (hL : L.map Itm.z = totL m) {k : Nat} (hk : k < L.length) (h : okJ L[k] = false) : madE m = 5 ∧ madL m = [] := by
  have e : madE m = 5 := by
    unfold madE
    rw [if_neg]
    intro ha
    rw [← hL] at ha
    have := List.all_eq_true.1 ha L[k].z (List.mem_map.2 ⟨L[k], List.getElem_mem hk, rfl⟩)
    have h2 : okJ L[k] = true := this
    rw [h] at h2; cases h2
  exact ⟨e, by unfold madL; rw [e]; rfl⟩
theorem madE_good {m : List Zit} {L : List Itm} (hL : L.map Itm.z = totL m) (h : ∀ k (hk : k < L.length), okJ L[k] = true) : madE m = (if 400 < L.length then 2 else 0) ∧ (¬ 400 < L.length → madL m = L.map Itm.z) ∧ (400 < L.length → madL m = []) := by
  have hlen : (totL m).length = L.length := by rw [← hL, List.length_map]
  have e : madE m = if 400 < L.length then 2 else 0 := by
    unfold madE
    rw [if_pos, hlen]
    rw [← hL, List.all_eq_true]
    intro x hx
    obtain ⟨y, hy, rfl⟩ := List.mem_map.1 hx
    obtain ⟨k, hk, rfl⟩ := List.mem_iff_getElem.1 hy
    exact h k hk
  refine ⟨e, fun h4 => ?_, fun h4 => ?_⟩
  · unfold madL
    rw [e, if_neg h4, if_pos rfl, hL]
  · unfold madL
    rw [e, if_pos h4]; rfl

set_option maxRecDepth 100000 in
set_option maxHeartbeats 2000000 in
theorem rmade_any (l : List Itm) (A : Option Addr) (c : Nat) (w : World) (hl : Wd l) (hr : Items w A l) (ht : Tens w) :
    Calls Tryz.prog 36 #[.slice A l.length c] w fun e w' => ∃ (L : List Itm) (C : Option Addr) (k : Nat), e = .returned (.tuple #[.slice C L.length k, .int .i64 (madE (l.map Itm.z))]) ∧ L.map Itm.z = madL (l.map Itm.z) ∧ Lv w' C k L ∧ Below w.heap.size w w' ∧ NewT w.heap.size C L := by
  have hT0 := rtot_any l A c w hl hr ht
  have hT : Hid _ := hT0
  have hlen := hl.len
  clear hT0 hl hr ht
  go_enter Tryz.func36, Tryz.ntmps36
  go_wp2_with fail
  refine Calls.mono (show Calls _ _ _ _ _ from hT.out) ?_
  rintro e w1 ⟨L, C, ck, rfl, t1, t2, t3, t4, t5⟩
  have hH : Hid (L.map Itm.z = totL (l.map Itm.z) ∧ Items w1 C L ∧ NilC C L.length ck ∧ Below w.heap.size w w1 ∧ NewT w.heap.size C L) := ⟨t1, t2, t3, t4, t5⟩
  have hLl : L.length ≤ 400000 := by
    have h1 := totL_len (l.map Itm.z)
    rw [← t1] at h1
    simp at h1
    omega
  clear hT t1 t2 t3 t4 t5
  go_wp2
  go_loopw [4] (fun i wr => ∃ k : Nat, k ≤ L.length ∧ i = .int .i64 k ∧ Hid ((∀ j (h : j < L.length), j < k → okJ L[j] = true) ∧ Gr w1 wr)) (fun i _ => L.length - (intOf i).toNat)
  case atStart => exact ⟨0, Nat.zero_le _, rfl, fun j _ h => by omega, Gr.refl _⟩
  case round =>
    obtain ⟨k, hk, rfl, hR⟩ := hrel
    by_cases hlt : k < L.length
    · have hltz : (k : Int) < (L.length : Int) := by omega
      have hI : Hid (Items wr C L) := hH.out.2.1.gr hR.out.2
      obtain ⟨bb, off, rfl, hb, hcs⟩ := hI.out.at hlt
      obtain ⟨x, hx⟩ : ∃ x, L[k] = x := ⟨_, rfl⟩
      obtain ⟨e0, e1⟩ := hcs k hlt
      rw [hx] at e0 e1
      have hxe := hI.out.each x (by rw [← hx]; exact List.getElem_mem hlt)
      obtain ⟨B1, hB1⟩ : ∃ B, okR x.r = B := ⟨_, rfl⟩
      obtain ⟨B2, hB2⟩ : ∃ B, okW x.n = B := ⟨_, rfl⟩
      have hC0 := rrow_any x.r x.p x.c wr hxe.2.1 hxe.1
      rw [hB1] at hC0
      have hC : Hid _ := hC0
      have hbadH : Hid ((B1 && B2) = false → madE (l.map Itm.z) = 5 ∧ madL (l.map Itm.z) = []) := fun h => madE_bad hH.out.1 hlt (by rw [hx]; unfold okJ; rw [hB1, hB2]; exact h)
      have hgoodH : Hid ((B1 && B2) = true → ∀ j (h : j < L.length), j < k + 1 → okJ L[j] = true) := fun h j hj hjk => by
        by_cases e : j = k
        · subst e; rw [hx]; unfold okJ; rw [hB1, hB2]; exact h
        · exact hR.out.1 j hj (by omega)
      have hI2 : Hid (∀ W, Calls Tryz.prog 30 #[.int .i64 x.n, .int .i64 (-1048576), .int .i64 1048576] W fun e w' => e = .returned (.bool B2) ∧ w' = W) := fun W => inR_any hB2 W
      clear hC0 hcs hx hxe hB1 hB2
      go_wp2_with fail
      refine Calls.mono (show Calls _ _ _ _ _ from hC.out) ?_
      rintro e w2 ⟨rfl, hg2⟩
      have g1 : w2.cell? ⟨bb, off + k * 2 + 1, none⟩ = some (.int .i64 x.n) := (hg2.cell (p := ⟨bb, off + k * 2 + 1, none⟩) hb).trans e1
      have hg2H : Hid (Gr w1 w2) := hR.out.2.trans hg2
      clear hC hg2
      cases B1
      · have hfin : Hid (madE (l.map Itm.z) = 5 ∧ madL (l.map Itm.z) = []) := hbadH.out rfl
        go_wp2
        go_ret2
        exact ⟨[], none, 0, by rw [hfin.out.1]; rfl, by rw [hfin.out.2]; rfl, ⟨⟨Or.inl rfl, fun x hx => (by cases hx)⟩, fun _ => rfl, Nat.zero_le _⟩, hH.out.2.2.2.1.trans (hg2H.out.below.mono hH.out.2.2.2.1.size), NewT.none _⟩
      · cases B2
        · have hfin : Hid (madE (l.map Itm.z) = 5 ∧ madL (l.map Itm.z) = []) := hbadH.out rfl
          go_wp2_with (go_at_call 30; (refine Calls.mono (hI2.out _) ?_); rintro e w' ⟨rfl, hw'⟩; subst w')
          go_ret2
          exact ⟨[], none, 0, by rw [hfin.out.1]; rfl, by rw [hfin.out.2]; rfl, ⟨⟨Or.inl rfl, fun x hx => (by cases hx)⟩, fun _ => rfl, Nat.zero_le _⟩, hH.out.2.2.2.1.trans (hg2H.out.below.mono hH.out.2.2.2.1.size), NewT.none _⟩
        · have hfin : Hid ((∀ j (h : j < L.length), j < k + 1 → okJ L[j] = true) ∧ Gr w1 w2) := ⟨hgoodH.out rfl, hg2H.out⟩
          go_wp2_with (go_at_call 30; (refine Calls.mono (hI2.out _) ?_); rintro e w' ⟨rfl, hw'⟩; subst w')
          go_roundw
          case rel => exact ⟨k + 1, by omega, by go_num, hfin⟩
          case measure => simp [intOf]; omega
    · have hltz : ¬ (k : Int) < (L.length : Int) := by omega
      obtain ⟨m1, m2, m3⟩ := madE_good hH.out.1 (fun j hj => hR.out.1 j hj (by omega))
      have hB : Hid (Below w.heap.size w wr) := hH.out.2.2.2.1.trans (hR.out.2.below.mono hH.out.2.2.2.1.size)
      by_cases h4 : 400 < L.length
      · have h4z : (400 : Int) < (L.length : Int) := by omega
        have hfin : Hid (madE (l.map Itm.z) = 2 ∧ madL (l.map Itm.z) = []) := ⟨by rw [m1, if_pos h4], m3 h4⟩
        clear m1 m2 m3
        go_wp2
        go_ret2
        exact ⟨[], none, 0, by rw [hfin.out.1]; rfl, by rw [hfin.out.2]; rfl, ⟨⟨Or.inl rfl, fun x hx => (by cases hx)⟩, fun _ => rfl, Nat.zero_le _⟩, hB.out, NewT.none _⟩
      · have h4z : ¬ (400 : Int) < (L.length : Int) := by omega
        have hfin : Hid (madE (l.map Itm.z) = 0 ∧ madL (l.map Itm.z) = L.map Itm.z) := ⟨by rw [m1, if_neg h4], m2 h4⟩
        clear m1 m2 m3
        go_wp2
        go_ret2
        exact ⟨L, C, ck, by rw [hfin.out.1]; rfl, hfin.out.2.symm, ⟨hH.out.2.1.gr hR.out.2, hH.out.2.2.1, by unfold maxLen; omega⟩, hB.out, hH.out.2.2.2.2⟩

set_option maxRecDepth 100000 in
set_option maxHeartbeats 2000000 in
theorem radd_any (a b : List Itm) (A B : Option Addr) (ca cb : Nat) (w : World) (ha : Lv w A ca a) (hb : Lv w B cb b) (ht : Tens w) :
    Calls Tryz.prog 20 #[.slice A a.length ca, .slice B b.length cb] w fun e w' => ∃ (L : List Itm) (C : Option Addr) (k : Nat), e = .returned (.tuple #[.slice C L.length k, .int .i64 (addE (a.map Itm.z) (b.map Itm.z))]) ∧ L.map Itm.z = addL (a.map Itm.z) (b.map Itm.z) ∧ Lv w' C k L ∧ Below w.heap.size w w' := by
  obtain ⟨E, hE⟩ : ∃ E, errZ (a.map Itm.z) = E := ⟨_, rfl⟩
  obtain ⟨F, hF⟩ : ∃ F, errZ (b.map Itm.z) = F := ⟨_, rfl⟩
  have hC0 := rset_any a A ca w ha.len ha.items
  rw [hE] at hC0
  have hC : Hid _ := hC0
  have hH : Hid (Lv w A ca a ∧ Lv w B cb b ∧ Tens w ∧ errZ (a.map Itm.z) = E ∧ errZ (b.map Itm.z) = F) := ⟨ha, hb, ht, hE, hF⟩
  clear hC0 ha hb ht hE hF
  go_enter Tryz.func20, Tryz.ntmps20
  go_wp2_with fail
  refine Calls.mono (show Calls _ _ _ _ _ from hC.out) ?_
  rintro e w1 ⟨rfl, hg1⟩
  have hg1H : Hid (Gr w w1) := hg1
  clear hC hg1
  cases hq : (E != 0)
  rotate_left
  focus
    have hfin : Hid (addE (a.map Itm.z) (b.map Itm.z) = E ∧ addL (a.map Itm.z) (b.map Itm.z) = []) := by
      have := addE_a (b := b.map Itm.z) (show errZ (a.map Itm.z) ≠ 0 by rw [hH.out.2.2.2.1]; simpa using hq)
      rw [hH.out.2.2.2.1] at this
      exact this
    go_wp2
    go_ret2
    exact ⟨[], none, 0, by rw [hfin.out.1]; rfl, by rw [hfin.out.2]; rfl, ⟨⟨Or.inl rfl, fun x hx => (by cases hx)⟩, fun _ => rfl, Nat.zero_le _⟩, hg1H.out.below⟩
  have hE0 : Hid (errZ (a.map Itm.z) = 0) := by show _ = _; rw [hH.out.2.2.2.1]; simpa using hq
  have hC0 := rset_any b B cb w1 hH.out.2.1.len (hH.out.2.1.items.gr hg1H.out)
  rw [hH.out.2.2.2.2] at hC0
  have hC : Hid _ := hC0
  clear hC0
  go_wp2_with fail
  refine Calls.mono (show Calls _ _ _ _ _ from hC.out) ?_
  rintro e w2 ⟨rfl, hg2⟩
  have hg2H : Hid (Gr w w2) := hg1H.out.trans hg2
  clear hC hg2
  cases hq2 : (F != 0)
  rotate_left
  focus
    have hfin : Hid (addE (a.map Itm.z) (b.map Itm.z) = F ∧ addL (a.map Itm.z) (b.map Itm.z) = []) := by
      have := addE_b (b := b.map Itm.z) hE0.out (by rw [hH.out.2.2.2.2]; simpa using hq2)
      rw [hH.out.2.2.2.2] at this
      exact this
    go_wp2
    go_ret2
    exact ⟨[], none, 0, by rw [hfin.out.1]; rfl, by rw [hfin.out.2]; rfl, ⟨⟨Or.inl rfl, fun x hx => (by cases hx)⟩, fun _ => rfl, Nat.zero_le _⟩, hg2H.out.below⟩
  have hF0 : Hid (errZ (b.map Itm.z) = 0) := by show _ = _; rw [hH.out.2.2.2.2]; simpa using hq2
  have hal : a.length ≤ 400 := (errZ_okW hE0.out).1
  have hbl : b.length ≤ 400 := (errZ_okW hF0.out).1
  have hX : Hid (Lv w2 A ca a ∧ Lv w2 B cb b ∧ Tens w2) := ⟨hH.out.1.gr hg2H.out, hH.out.2.1.gr hg2H.out, hH.out.2.2.1.gr hg2H.out⟩
  have hap : Hid (RowG encT 2 w2 A a ∧ (A = none → ca = 0) ∧ ([] : List Itm).length + a.length ≤ maxLen ∧ (([] : List Itm).length + a.length) * 32 ≤ 140737488355328) := ⟨hX.out.1.items.row, hX.out.1.nil, by unfold maxLen; simp; omega, by simp; omega⟩
  have hap2 : Hid (∀ v6 w6, OwnG encT 2 59 w6 w2.heap.size v6 ([] ++ a) → w2.grownBy w6 (Value.slice none 0 0).ownBlock → RowG encT 2 w6 B b ∧ (B = none → cb = 0) ∧ ([] ++ a).length + b.length ≤ maxLen ∧ (([] ++ a).length + b.length) * 32 ≤ 140737488355328 ∧ w2.heap.size ≤ w6.heap.size) := fun v6 w6 _ hg => ⟨hX.out.2.1.items.row.below (below_none hg), hX.out.2.1.nil, by unfold maxLen; simp; omega, by simp; omega, (below_none hg).size⟩
  go_wp2_with (first | (at_builtin; refine wpList_append_ts _ rfl (.const (.slice none 0 0)) (.tmp 18) rfl w2.heap.size (.slice none 0 0) [] a A ca rfl rfl (OwnG.nil _ _ _ _ _) hap.out.1 hap.out.2.1 hap.out.2.2.1 hap.out.2.2.2 (Nat.le_refl _) ?_; intro v6 w6 hown6 hgr6; have hO6 : Hid (OwnG encT 2 59 w6 w2.heap.size v6 ([] ++ a) ∧ w2.grownBy w6 (Value.slice none 0 0).ownBlock) := ⟨hown6, hgr6⟩; clear hown6 hgr6) | (at_builtin; refine wpList_append_ts _ rfl (.tmp 19) (.tmp 20) rfl w2.heap.size v6 ([] ++ a) b B cb rfl rfl hO6.out.1 (hap2.out v6 w6 hO6.out.1 hO6.out.2).1 (hap2.out v6 w6 hO6.out.1 hO6.out.2).2.1 (hap2.out v6 w6 hO6.out.1 hO6.out.2).2.2.1 (hap2.out v6 w6 hO6.out.1 hO6.out.2).2.2.2.1 (hap2.out v6 w6 hO6.out.1 hO6.out.2).2.2.2.2 ?_; intro v7 w7 hown7 hgr7) | fail)
  obtain ⟨C7, c7, hv7, hC7, hrow7, _, _, _⟩ := OwnG.full encT_len hown7
  have hb57 : Below w2.heap.size w2 w7 := (below_none hO6.out.2).trans (OwnG.grown_below hO6.out.1 hgr7 (below_none hO6.out.2).size)
  rw [List.nil_append] at hrow7 hv7
  have hI7 : Items w7 C7 (a ++ b) := ⟨hrow7, fun x hx => by
    rcases List.mem_append.1 hx with k | k
    · exact (hX.out.1.below hb57).items.each x k
    · exact (hX.out.2.1.below hb57).items.each x k⟩
  have hM0 := rmade_any (a ++ b) C7 c7 w7 (wd_sets hE0.out hF0.out) hI7 (hX.out.2.2.below hb57)
  rw [List.map_append, ← (add_made hE0.out hF0.out).1, ← (add_made hE0.out hF0.out).2] at hM0
  have hM : Hid _ := hM0
  have hb7H : Hid (Below w.heap.size w w7) := hg2H.out.below.trans (hb57.mono hg2H.out.size)
  subst hv7
  clear hM0 hI7 hrow7 hC7 hb57 hown7 hgr7
  refine Calls.mono (show Calls _ _ _ _ _ from hM.out) ?_
  rintro e w8 ⟨L, C, ck, rfl, t1, t2, t3, _⟩
  have hfin : Hid (L.map Itm.z = addL (a.map Itm.z) (b.map Itm.z) ∧ Lv w8 C ck L ∧ Below w.heap.size w w8) := ⟨t1, t2, hb7H.out.trans (t3.mono hb7H.out.size)⟩
  clear hM t1 t2 t3
  go_wp2
  go_ret2
  exact ⟨L, C, ck, rfl, hfin.out⟩
end Go.Proofs.YtoanlaedkpkpnaaGreatDoor
