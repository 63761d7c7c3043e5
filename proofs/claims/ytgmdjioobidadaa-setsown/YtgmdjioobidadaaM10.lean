/-
  zset.total: the set in which each row is as often as in all lists together.
  Sets with weights are a group.
-/
import Derived.Test.YtgmdjioobidadaaM07
import Derived.Test.YtgmdjioobidadaaM08
import Derived.Test.YtgmdjioobidadaaM09
import Derived.Deep.RegionHeld3
namespace Go.Proofs.Ytgmdjioobidadaa
open Go.RowKit Go.Sort

theorem map_getZ {S : List Itm} {k : Nat} (h : k < S.length) : (S.map Itm.z)[k]'(by simpa using h) = S[k].z := by simp

set_option maxRecDepth 100000 in
set_option maxHeartbeats 4000000 in
theorem total_new (ss : List Sl) (B : Option Addr) (cb : Nat) (w : World) (hrow : RowG encS 1 w B ss) (hlen : ss.length ≤ 2)
    (hss : ∀ s ∈ ss, Items w s.A s.l ∧ (s.A = none → s.cap = 0) ∧ s.l.length ≤ 400 ∧ ∀ x ∈ s.l, okW x.n = true ∧ x.r.length ≤ 8) :
    Calls Try.prog 20 #[.slice B ss.length cb] w fun e w' => ∃ (L : List Itm) (C : Option Addr) (c : Nat), e = .returned (.tuple #[.slice C L.length c, .int .i64 (totE ((ss.flatMap (·.l)).map Itm.z))]) ∧ L.map Itm.z = totR ((ss.flatMap (·.l)).map Itm.z) ∧ Items w' C L ∧ NilC C L.length c ∧ Below w.heap.size w w' ∧ NwT w' c w.heap.size C L := by
  have mixed : Try.prog.follows .mixedOrders = true := by kernel_rfl
  have hcon := concat_any ss B cb w hrow hlen (fun s hs => ⟨(hss s hs).1.row, (hss s hs).2.1, (hss s hs).2.2.1⟩)
  have hconH : Hid _ := hcon
  clear hcon
  have heach : Hid (∀ x ∈ ss.flatMap (·.l), RowI w x.p x.r ∧ x.r.length ≤ maxLen ∧ (x.p = none → x.c = 0) ∧ okW x.n = true ∧ x.r.length ≤ 8) := fun x hx => by
    obtain ⟨s, hs, hx⟩ := List.mem_flatMap.1 hx
    have h := (hss s hs).1.each x hx
    exact ⟨h.1, h.2.1, h.2.2, (hss s hs).2.2.2 x hx⟩
  have hlenA : Hid ((ss.flatMap (·.l)).length ≤ 800) := flat_len hlen fun s hs => (hss s hs).2.2.1
  obtain ⟨all, hall⟩ : ∃ all, ss.flatMap (·.l) = all := ⟨_, rfl⟩
  rw [hall] at hconH heach hlenA ⊢
  clear hall hrow hss hlen
  go_enter Try.func20, Try.ntmps20
  go_wp2_with fail
  refine Calls.mono (show Calls _ _ _ _ _ from hconH.out) ?_
  rintro e w1 ⟨v, rfl, hown, hb1⟩
  clear hconH
  have hso := sortOwnT 41 (enters_of Try.func41 (by kernel_rfl) rfl) cmpT_any w.heap.size v all w1 hown hb1.size (fun x hx => by
    have h := heach.out x hx
    exact ⟨h.1.below hb1, h.2.1, h.2.2.1, fun a ha hr => h.1.lt a ha hr⟩) (by have := hlenA.out; omega)
  have hsoH : Hid _ := hso
  clear hso
  go_wp2_with fail
  refine Calls.mono (show Calls _ _ _ _ _ from hsoH.out) ?_
  rintro e w2 ⟨rfl, ⟨S, A, cap, hv, hperm, hsort, hit, hA⟩, hb2⟩
  subst hv
  clear hsoH hown
  have hSH : Hid (Items w2 A S ∧ (A = none → cap = 0) ∧ S.Perm all ∧ Sorted (S.map Itm.z) ∧ (∀ x ∈ S.map Itm.z, okW x.2 = true ∧ x.1.length ≤ 8) ∧ Below w.heap.size w w2) := ⟨hit, hA, hperm, hsort, fun x hx => by
    obtain ⟨y, hy, rfl⟩ := List.mem_map.1 hx
    exact (heach.out y (hperm.mem_iff.1 hy)).2.2.2, hb1.trans hb2⟩
  have hSl : S.length ≤ 800 := by rw [hperm.length_eq]; exact hlenA.out
  clear hit hA hperm hsort hb1 hb2 heach hlenA
  go_wp2
  go_loopw [5, 6] (fun v i wr => ∃ (k : Nat) (L : List Itm), k ≤ S.length ∧ i = .int .i64 k ∧ Hid (Upto (S.map Itm.z) k (L.map Itm.z)) ∧ Hid (OwnT wr w2.heap.size v L ∧ Below w2.heap.size w2 wr) ∧ Hid (RoomL wr L)) (fun _ i _ => S.length - (intOf i).toNat)
  case atStart => exact ⟨0, [], by omega, rfl, Upto.zero _, ⟨OwnT.nil _ _, Below.refl _ _⟩, fun x hx => by cases hx⟩
  case round =>
    rename World => w3
    obtain ⟨k, L, hk, rfl, hup, hov, hrm⟩ := hrel
    by_cases hlt : k < S.length
    · have hltz : (k : Int) < (S.length : Int) := by omega
      have hI : Hid (Items w3 A S) := hSH.out.1.below hov.out.2
      obtain ⟨bb, off, rfl, hb, hcs⟩ := hI.out.at hlt
      obtain ⟨x, hx⟩ : ∃ x, S[k] = x := ⟨_, rfl⟩
      obtain ⟨e0, e1⟩ := hcs k hlt
      rw [hx] at e0 e1
      have hcsH : Hid (∀ j (h : j < S.length), _) := hcs
      have hkz : Hid (∃ h : k < (S.map Itm.z).length, ((S.map Itm.z)[k]).1 = x.r) := ⟨by simpa using hlt, by rw [map_getZ hlt, hx]; rfl⟩
      have hxr : Hid (RowI w3 x.p x.r ∧ x.r.length ≤ maxLen ∧ (x.p = none → x.c = 0)) := hI.out.each x (by rw [← hx]; exact List.getElem_mem hlt)
      have hx8 : Hid (x.r.length ≤ 8) := (hSH.out.2.2.2.2.1 x.z (List.mem_map.2 ⟨x, by rw [← hx]; exact List.getElem_mem hlt, rfl⟩)).2
      have h0 : Hid (wt ((S.map Itm.z).take k) x.r = 0) := by
        show _ = _
        have := hup.out.first (show k < (S.map Itm.z).length by simpa using hlt)
        rw [map_getZ hlt, hx] at this
        exact this
      clear hcs hx
      go_wp2
      go_loopw [6, 8] (fun i n wr => ∃ j : Nat, k ≤ j ∧ j ≤ S.length ∧ i = .int .i64 j ∧ n = .int .i64 (wt ((S.map Itm.z).take j) x.r) ∧ Hid (Run (S.map Itm.z) x.r k j) ∧ Gr w3 wr) (fun i _ _ => S.length - (intOf i).toNat)
      case atStart => exact ⟨k, Nat.le_refl _, hk, rfl, by rw [h0.out], fun m _ h1 h2 => by omega, Gr.refl _⟩
      case round =>
        rename World => w4
        obtain ⟨j, hkj, hjS, rfl, rfl, hrun, hgr⟩ := hrel
        have hrunH : Hid (Run (S.map Itm.z) x.r k j) := hrun
        obtain ⟨N, hN⟩ : ∃ N, wt ((S.map Itm.z).take j) x.r = N := ⟨_, rfl⟩
        rw [hN]
        have hNH : Hid (wt ((S.map Itm.z).take j) x.r = N) := hN
        have hNb : -838860800 ≤ N ∧ N ≤ 838860800 := by
          have h1 := wt_bound (l := (S.map Itm.z).take j) (fun y hy => (hSH.out.2.2.2.2.1 y (List.mem_of_mem_take hy)).1) x.r
          rw [hN] at h1
          have h2 : ((S.map Itm.z).take j).length ≤ 800 := by simp; omega
          omega
        clear hrun hN
        by_cases hgo : ∃ h : j < S.length, cmpL x.r S[j].r = 0
        · obtain ⟨hlt2, hc⟩ := hgo
          have hlt2z : (j : Int) < (S.length : Int) := by omega
          obtain ⟨y, hy⟩ : ∃ y, S[j] = y := ⟨_, rfl⟩
          obtain ⟨f0, f1⟩ := hcsH.out j hlt2
          rw [hy] at f0 f1 hc
          have g0 : w4.cell? ⟨bb, off + j * 2, none⟩ = some (.slice y.p y.r.length y.c) := (hgr.below.cell (p := ⟨bb, off + j * 2, none⟩) hb).trans f0
          have g1 : w4.cell? ⟨bb, off + j * 2 + 1, none⟩ = some (.int .i64 y.n) := (hgr.below.cell (p := ⟨bb, off + j * 2 + 1, none⟩) hb).trans f1
          have hyr := hI.out.each y (by rw [← hy]; exact List.getElem_mem hlt2)
          have hod := orderR_any x.r y.r x.p y.p x.c y.c w4 hxr.out.2.1 (hxr.out.1.gr hgr) (hyr.1.gr hgr)
          rw [hc] at hod
          have hodH : Hid _ := hod
          have hyw : Hid (okW y.n = true) := (hSH.out.2.2.2.2.1 y.z (List.mem_map.2 ⟨y, by rw [← hy]; exact List.getElem_mem hlt2, rfl⟩)).1
          have hst : Hid (wt ((S.map Itm.z).take (j + 1)) x.r = N + y.n ∧ Run (S.map Itm.z) x.r k (j + 1)) := by
            have hjz : j < (S.map Itm.z).length := by simpa using hlt2
            have hyx : y.r = x.r := (cmpL_eq _ _ hc).symm
            refine ⟨?_, fun m hm h1 h2 => ?_⟩
            · rw [wt_take_succ hjz, hNH.out, map_getZ hlt2, hy]
              show N + (if y.r = x.r then y.n else 0) = _
              rw [if_pos hyx]
            · by_cases e : m = j
              · subst e; rw [map_getZ hlt2, hy]; exact hyx
              · exact hrunH.out m hm h1 (by omega)
          have hwr : IntKind.i64.wrap (N + y.n) = N + y.n := by
            have h := hyw.out
            simp only [okW, inB, Bool.and_eq_true, decide_eq_true_eq] at h
            rw [IntKind.wrap_i64]; omega
          clear hod f0 f1 hy hyr hc
          go_wp2_with fail
          refine Calls.mono (show Calls _ _ _ _ _ from hodH.out) ?_
          rintro e w5 ⟨rfl, hg5⟩
          have q1 : w5.cell? ⟨bb, off + j * 2 + 1, none⟩ = some (.int .i64 y.n) := (hg5.below.cell (p := ⟨bb, off + j * 2 + 1, none⟩) (Nat.lt_of_lt_of_le hb hgr.size)).trans g1
          clear hodH g0 g1
          go_wp2
          go_roundw
          case rel => exact ⟨j + 1, by omega, by omega, by go_num, by rw [hst.out.1], hst.out.2, hgr.trans hg5⟩
          case measure => simp [intOf]; omega
        · have hex : Hid (∀ h : j < (S.map Itm.z).length, cmpL x.r ((S.map Itm.z)[j]).1 ≠ 0) := fun h e => hgo ⟨by simpa using h, by rw [map_getZ (by simpa using h)] at e; exact e⟩
          have hkj' : k < j := by
            by_cases e : k = j
            · subst e
              obtain ⟨h1, h2⟩ := hkz.out
              exact absurd (by rw [h2, cmpL_self]) (hex.out h1)
            · omega
          clear hgo
          have hjz : k < (S.map Itm.z).length := by simpa using hlt
          have hnext : Hid ((okW N = false → totE (all.map Itm.z) = 5) ∧ (N = 0 → Upto (S.map Itm.z) j (L.map Itm.z)) ∧ (okW N = true → N ≠ 0 → Upto (S.map Itm.z) j (L.map Itm.z ++ [(x.r, N)]))) := by
            obtain ⟨h1, h2⟩ := hkz.out
            have hr := hrunH.out
            have he := hex.out
            have hn := hNH.out
            rw [← h2] at hr he hn
            refine ⟨fun hw => ?_, fun hw => ?_, fun hw hz => ?_⟩
            · exact (totE_bad _).2 ((Sorted.perm_bad (hSH.out.2.2.1.map Itm.z)).1 (run_bad hSH.out.2.2.2.1 h1 hkj' he (by rw [hn]; exact hw)))
            · exact run_zero hSH.out.2.2.2.1 hup.out h1 hkj' hr he (by rw [hn]; exact hw)
            · have := run_more hSH.out.2.2.2.1 hup.out h1 hkj' hr he (by rw [hn]; exact hw) (by rw [hn]; exact hz)
              rw [hn, h2] at this
              exact this
          clear hjz hNb
          by_cases hlt2 : j < S.length
          rotate_left
          focus
            have hlt2z : ¬ (j : Int) < (S.length : Int) := by omega
            have hgr5 : Hid (Gr w3 w4) := hgr
            obtain ⟨w5, rfl⟩ : ∃ W, W = w4 := ⟨_, rfl⟩
            clear hgr
            go_wp2_with fail
          rotate_left
          focus
            have hlt2z : (j : Int) < (S.length : Int) := by omega
            obtain ⟨y, hy⟩ : ∃ y, S[j] = y := ⟨_, rfl⟩
            obtain ⟨f0, f1⟩ := hcsH.out j hlt2
            rw [hy] at f0 f1
            have g0 : w4.cell? ⟨bb, off + j * 2, none⟩ = some (.slice y.p y.r.length y.c) := (hgr.below.cell (p := ⟨bb, off + j * 2, none⟩) hb).trans f0
            have hyr := hI.out.each y (by rw [← hy]; exact List.getElem_mem hlt2)
            obtain ⟨c, hc⟩ : ∃ c, cmpL x.r y.r = c := ⟨_, rfl⟩
            have hc0 : ¬ c = 0 := fun e => by
              have := hex.out (by simpa using hlt2)
              rw [map_getZ hlt2, hy] at this
              exact this (by rw [← e, ← hc]; rfl)
            have hod := orderR_any x.r y.r x.p y.p x.c y.c w4 hxr.out.2.1 (hxr.out.1.gr hgr) (hyr.1.gr hgr)
            rw [hc] at hod
            have hodH : Hid _ := hod
            clear hod f0 f1 hy hyr hc
            go_wp2_with fail
            refine Calls.mono (show Calls _ _ _ _ _ from hodH.out) ?_
            rintro e w5 ⟨rfl, hg5⟩
            have hgr5 : Hid (Gr w3 w5) := hgr.trans hg5
            clear hodH g0 hgr hg5
            go_wp2_with fail
          all_goals
            refine Calls.mono (isWeight_any N w5) ?_
            rintro e w6 ⟨rfl, rfl⟩
            cases hwb : okW N
            · have hbad : Hid (totE (all.map Itm.z) = 5) := hnext.out.1 hwb
              have hbw : Hid (Below w.heap.size w w6) := hSH.out.2.2.2.2.2.trans ((hov.out.2.trans (hgr5.out.below.mono hov.out.2.size)).mono hSH.out.2.2.2.2.2.size)
              go_wp2
              go_ret2
              exact ⟨[], none, 0, by rw [hbad.out]; rfl, by rw [totR_bad hbad.out]; rfl, ⟨Or.inl rfl, fun x hx => by cases hx⟩, fun _ => rfl, hbw.out, NwT.none _ _⟩
            · cases hn0 : (N != 0)
              · have hup2 : Hid (Upto (S.map Itm.z) j (L.map Itm.z)) := hnext.out.2.1 (by simpa using hn0)
                have hov2 : Hid (OwnT w6 w2.heap.size u5 L ∧ Below w2.heap.size w2 w6) := ⟨hov.out.1.gr hgr5.out, hov.out.2.trans (hgr5.out.below.mono hov.out.2.size)⟩
                go_wp2
                go_roundw
                case rel => exact ⟨j, L, by omega, rfl, hup2, hov2, hrm.out.below hgr5.out.below⟩
                case measure => simp [intOf]; omega
              · have hup2 : Hid (Upto (S.map Itm.z) j (L.map Itm.z ++ [(x.r, N)])) := hnext.out.2.2 hwb (by simpa using hn0)
                have hov2 : Hid (OwnT w6 w2.heap.size u5 L ∧ Below w2.heap.size w2 w6) := ⟨hov.out.1.gr hgr5.out, hov.out.2.trans (hgr5.out.below.mono hov.out.2.size)⟩
                have hcp := copyRow_new x.r x.p x.c w6 (by have := hx8.out; omega) hxr.out.2.2 (hxr.out.1.gr hgr5.out)
                have hcpH : Hid _ := hcp
                clear hcp
                go_wp2_with fail
                refine Calls.mono (show Calls _ _ _ _ _ from hcpH.out) ?_
                rintro e w7 ⟨C, c, rfl, hrw, hnl, hnw, hbl, hri⟩
                clear hcpH
                have hwX : Below w6.heap.size w6 (w7.alloc (.cells #[.slice C x.r.length c, .int .i64 N] 45)) := hbl.alloc hbl.size _
                have hoX : Hid (OwnT (w7.alloc (.cells #[.slice C x.r.length c, .int .i64 N] 45)) w2.heap.size u5 L ∧ Apart (w7.alloc (.cells #[.slice C x.r.length c, .int .i64 N] 45)) w2.heap.size u5.ownBlock ⟨C, c, x.r, N⟩ ∧ (L.length + 1 ≤ maxLen ∧ (L.length + 1) * 32 ≤ 140737488355328) ∧ w2.heap.size ≤ (w7.alloc (.cells #[.slice C x.r.length c, .int .i64 N] 45)).heap.size ∧ Below w2.heap.size w2 (w7.alloc (.cells #[.slice C x.r.length c, .int .i64 N] 45))) := by
                  have hsz := hov2.out.2.size
                  have hLl : L.length ≤ k := by have := hup.out.len; simpa using this
                  have hbX := hov2.out.2.trans (hwX.mono hsz)
                  refine ⟨hov2.out.1.below hwX, ⟨hrw.gr ((Gr.refl _).alloc _), Nat.le_trans hx8.out (by decide), hnl, fun a ha => ⟨?_, ?_, ?_⟩⟩, ⟨?_, ?_⟩, hbX.size, hbX⟩
                  · have h1 := (hnw a ha).1; omega
                  · have h1 := (hnw a ha).2; simp; omega
                  · intro e
                    have h1 := (World.ownsRow.lt hov2.out.1.own a.block e).2
                    have h2 := (hnw a ha).1
                    omega
                  · unfold maxLen; omega
                  · omega
                have hrmX : Hid (RoomL (w7.alloc (.cells #[.slice C x.r.length c, .int .i64 N] 45)) (L ++ [⟨C, c, x.r, N⟩])) := by
                  intro z hz
                  rcases List.mem_append.1 hz with hz | hz
                  · exact ((hrm.out.below hgr5.out.below).below hwX) z hz
                  · rw [List.mem_singleton.1 hz]
                    exact ⟨hri.1.below ((Gr.refl _).alloc _).below, hri.2⟩
                clear hrw hnl hnw hbl hwX hri
                go_wp2_with (at_builtin; refine wpList_append_tg _ rfl (.tmp 50) (.tmp 55) rfl w2.heap.size u5 L ⟨C, c, x.r, N⟩ ⟨w7.heap.size, 0, none⟩ 1 rfl rfl hoX.out.1 (rowNewT rfl ⟨C, c, x.r, N⟩ 45) hoX.out.2.1 hoX.out.2.2.1.1 hoX.out.2.2.1.2 hoX.out.2.2.2.1 ?_; intro v8 w8 hown8 hb8 hgb8)
                have hov3 : Hid (OwnT w8 w2.heap.size v8 (L ++ [⟨C, c, x.r, N⟩]) ∧ Below w2.heap.size w2 w8) := ⟨hown8, hoX.out.2.2.2.2.trans hb8⟩
                have hrm3 : Hid (RoomL w8 (L ++ [⟨C, c, x.r, N⟩])) := hrmX.out.grown hgb8 (hoX.out.1.own.typed (by decide))
                clear hown8 hb8 hgb8
                go_roundw
                case rel => exact ⟨j, L ++ [⟨C, c, x.r, N⟩], by omega, rfl, by rw [List.map_append]; exact hup2, hov3, hrm3⟩
                case measure => simp [intOf]; omega
    · have hltz : ¬ (k : Int) < (S.length : Int) := by omega
      have hfin : Hid (totE (all.map Itm.z) = 0 ∧ L.map Itm.z = totR (all.map Itm.z)) := by
        have h1 := hup.out.done (by simp; omega)
        have hp := hSH.out.2.2.1.map Itm.z
        have h2 := totE_ok (fun h => h1.2 ((Sorted.perm_bad hp).2 h))
        refine ⟨h2, ?_⟩
        rw [totR_ok h2]
        exact (h1.1.perm hp).eq
      obtain ⟨A2, cap2, hv2, hn2, hit, hnw⟩ := hov.out.1.items
      have hNw0 : NewT w.heap.size A2 L := ⟨fun a ha => Nat.le_trans hSH.out.2.2.2.2.2.size (hnw a ha).1, fun x hx a ha => Nat.le_trans hSH.out.2.2.2.2.2.size ((hov.out.1.each x hx).own a ha).1⟩
      have hNw : Hid (NwT w3 cap2 w.heap.size A2 L) := ⟨hNw0, by have := hov.out.1.own; rw [hv2] at this; exact this.roomA, hrm.out⟩
      have hfin2 : Hid (Items w3 A2 L ∧ NilC A2 L.length cap2 ∧ Below w.heap.size w w3) := ⟨hit, hn2, hSH.out.2.2.2.2.2.trans (hov.out.2.mono hSH.out.2.2.2.2.2.size)⟩
      subst hv2
      clear hit hn2 hov hnw hNw0
      go_wp2
      go_ret2
      exact ⟨L, A2, cap2, by rw [hfin.out.1]; rfl, hfin.out.2, hfin2.out.1, hfin2.out.2.1, hfin2.out.2.2, hNw.out⟩
theorem total_any (ss : List Sl) (B : Option Addr) (cb : Nat) (w : World) (hrow : RowG encS 1 w B ss) (hlen : ss.length ≤ 2)
    (hss : ∀ s ∈ ss, Items w s.A s.l ∧ (s.A = none → s.cap = 0) ∧ s.l.length ≤ 400 ∧ ∀ x ∈ s.l, okW x.n = true ∧ x.r.length ≤ 8) :
    Calls Try.prog 20 #[.slice B ss.length cb] w fun e w' => ∃ (L : List Itm) (C : Option Addr) (c : Nat), e = .returned (.tuple #[.slice C L.length c, .int .i64 (totE ((ss.flatMap (·.l)).map Itm.z))]) ∧ L.map Itm.z = totR ((ss.flatMap (·.l)).map Itm.z) ∧ Items w' C L ∧ NilC C L.length c ∧ Below w.heap.size w w' := by
  refine (total_new ss B cb w hrow hlen hss).mono ?_
  rintro e w' ⟨L, C, c, h1, h2, h3, h4, h5, _⟩
  exact ⟨L, C, c, h1, h2, h3, h4, h5⟩

theorem rowS1 {w : World} {A : Option Addr} {ca : Nat} {a : List Itm} (T : TypeId) : RowG encS 1 (w.alloc (.cells #[.slice A a.length ca] T)) (some ⟨w.heap.size, 0, none⟩) [⟨A, ca, a⟩] := by
  refine Or.inr ⟨w.heap.size, 0, rfl, by simp, fun j hj i hi => ?_⟩
  obtain rfl : i = 0 := by omega
  obtain rfl : j = 0 := by simp at hj; omega
  exact box1 (Gr.refl _) (j := 0) rfl
theorem rowS2 {w : World} {A B : Option Addr} {ca cb : Nat} {a b : List Itm} (T : TypeId) : RowG encS 1 (w.alloc (.cells #[.slice A a.length ca, .slice B b.length cb] T)) (some ⟨w.heap.size, 0, none⟩) [⟨A, ca, a⟩, ⟨B, cb, b⟩] := by
  refine Or.inr ⟨w.heap.size, 0, rfl, by simp, fun j hj i hi => ?_⟩
  obtain rfl : i = 0 := by omega
  have hj' : j = 0 ∨ j = 1 := by simp at hj; omega
  rcases hj' with rfl | rfl
  · exact box1 (Gr.refl _) (j := 0) rfl
  · exact box1 (Gr.refl _) (j := 1) rfl
/-- total of one list. -/
theorem total_one (a : List Itm) (A : Option Addr) (ca : Nat) (w : World) (hA : A = none → ca = 0) (hI : Items w A a) (hl : a.length ≤ 400) (hx : ∀ x ∈ a, okW x.n = true ∧ x.r.length ≤ 8) :
    Calls Try.prog 20 #[.slice (some ⟨w.heap.size, 0, none⟩) 1 1] (w.alloc (.cells #[.slice A a.length ca] 23)) fun e w' => ∃ (L : List Itm) (C : Option Addr) (c : Nat), e = .returned (.tuple #[.slice C L.length c, .int .i64 (totE (a.map Itm.z))]) ∧ L.map Itm.z = totR (a.map Itm.z) ∧ Items w' C L ∧ NilC C L.length c ∧ Below w.heap.size w w' := by
  have hg : Gr w (w.alloc (.cells #[.slice A a.length ca] 23)) := (Gr.refl _).alloc _
  have h := total_any [⟨A, ca, a⟩] (some ⟨w.heap.size, 0, none⟩) 1 _ (rowS1 23) (by simp) (fun s hs => by
    obtain rfl : s = _ := List.mem_singleton.1 hs
    exact ⟨hI.gr hg, hA, hl, hx⟩)
  have e1 : ([⟨A, ca, a⟩] : List Sl).flatMap (·.l) = a := by simp
  rw [e1] at h
  refine h.mono ?_
  rintro e w' ⟨L, C, c, h1, h2, h3, h4, h5⟩
  exact ⟨L, C, c, h1, h2, h3, h4, hg.below.trans (h5.mono hg.size)⟩
theorem total_one_new (a : List Itm) (A : Option Addr) (ca : Nat) (w : World) (hA : A = none → ca = 0) (hI : Items w A a) (hl : a.length ≤ 400) (hx : ∀ x ∈ a, okW x.n = true ∧ x.r.length ≤ 8) :
    Calls Try.prog 20 #[.slice (some ⟨w.heap.size, 0, none⟩) 1 1] (w.alloc (.cells #[.slice A a.length ca] 23)) fun e w' => ∃ (L : List Itm) (C : Option Addr) (c : Nat), e = .returned (.tuple #[.slice C L.length c, .int .i64 (totE (a.map Itm.z))]) ∧ L.map Itm.z = totR (a.map Itm.z) ∧ Items w' C L ∧ NilC C L.length c ∧ Below w.heap.size w w' ∧ NwT w' c w.heap.size C L := by
  have hg : Gr w (w.alloc (.cells #[.slice A a.length ca] 23)) := (Gr.refl _).alloc _
  have h := total_new [⟨A, ca, a⟩] (some ⟨w.heap.size, 0, none⟩) 1 _ (rowS1 23) (by simp) (fun s hs => by
    obtain rfl : s = _ := List.mem_singleton.1 hs
    exact ⟨hI.gr hg, hA, hl, hx⟩)
  have e1 : ([⟨A, ca, a⟩] : List Sl).flatMap (·.l) = a := by simp
  rw [e1] at h
  refine h.mono ?_
  rintro e w' ⟨L, C, c, h1, h2, h3, h4, h5, h6⟩
  exact ⟨L, C, c, h1, h2, h3, h4, hg.below.trans (h5.mono hg.size), h6.mono hg.size⟩

/-- total of two lists. -/
theorem total_two (a b : List Itm) (A B : Option Addr) (ca cb : Nat) (w : World) (hA : A = none → ca = 0) (hB : B = none → cb = 0) (hI : Items w A a) (hJ : Items w B b) (hl : a.length ≤ 400) (hm : b.length ≤ 400) (hx : ∀ x ∈ a, okW x.n = true ∧ x.r.length ≤ 8) (hy : ∀ x ∈ b, okW x.n = true ∧ x.r.length ≤ 8) :
    Calls Try.prog 20 #[.slice (some ⟨w.heap.size, 0, none⟩) 2 2] (w.alloc (.cells #[.slice A a.length ca, .slice B b.length cb] 23)) fun e w' => ∃ (L : List Itm) (C : Option Addr) (c : Nat), e = .returned (.tuple #[.slice C L.length c, .int .i64 (totE (a.map Itm.z ++ b.map Itm.z))]) ∧ L.map Itm.z = totR (a.map Itm.z ++ b.map Itm.z) ∧ Items w' C L ∧ NilC C L.length c ∧ Below w.heap.size w w' := by
  have hg : Gr w (w.alloc (.cells #[.slice A a.length ca, .slice B b.length cb] 23)) := (Gr.refl _).alloc _
  have h := total_any [⟨A, ca, a⟩, ⟨B, cb, b⟩] (some ⟨w.heap.size, 0, none⟩) 2 _ (rowS2 23) (by simp) (fun s hs => by
    rcases List.mem_cons.1 hs with e | e
    · subst e; exact ⟨hI.gr hg, hA, hl, hx⟩
    · obtain rfl : s = _ := List.mem_singleton.1 e
      exact ⟨hJ.gr hg, hB, hm, hy⟩)
  have e1 : ([⟨A, ca, a⟩, ⟨B, cb, b⟩] : List Sl).flatMap (·.l) = a ++ b := by simp
  rw [e1, List.map_append] at h
  refine h.mono ?_
  rintro e w' ⟨L, C, c, h1, h2, h3, h4, h5⟩
  exact ⟨L, C, c, h1, h2, h3, h4, hg.below.trans (h5.mono hg.size)⟩
theorem total_two_new (a b : List Itm) (A B : Option Addr) (ca cb : Nat) (w : World) (hA : A = none → ca = 0) (hB : B = none → cb = 0) (hI : Items w A a) (hJ : Items w B b) (hl : a.length ≤ 400) (hm : b.length ≤ 400) (hx : ∀ x ∈ a, okW x.n = true ∧ x.r.length ≤ 8) (hy : ∀ x ∈ b, okW x.n = true ∧ x.r.length ≤ 8) :
    Calls Try.prog 20 #[.slice (some ⟨w.heap.size, 0, none⟩) 2 2] (w.alloc (.cells #[.slice A a.length ca, .slice B b.length cb] 23)) fun e w' => ∃ (L : List Itm) (C : Option Addr) (c : Nat), e = .returned (.tuple #[.slice C L.length c, .int .i64 (totE (a.map Itm.z ++ b.map Itm.z))]) ∧ L.map Itm.z = totR (a.map Itm.z ++ b.map Itm.z) ∧ Items w' C L ∧ NilC C L.length c ∧ Below w.heap.size w w' ∧ NwT w' c w.heap.size C L := by
  have hg : Gr w (w.alloc (.cells #[.slice A a.length ca, .slice B b.length cb] 23)) := (Gr.refl _).alloc _
  have h := total_new [⟨A, ca, a⟩, ⟨B, cb, b⟩] (some ⟨w.heap.size, 0, none⟩) 2 _ (rowS2 23) (by simp) (fun s hs => by
    rcases List.mem_cons.1 hs with e | e
    · subst e; exact ⟨hI.gr hg, hA, hl, hx⟩
    · obtain rfl : s = _ := List.mem_singleton.1 e
      exact ⟨hJ.gr hg, hB, hm, hy⟩)
  have e1 : ([⟨A, ca, a⟩, ⟨B, cb, b⟩] : List Sl).flatMap (·.l) = a ++ b := by simp
  rw [e1, List.map_append] at h
  refine h.mono ?_
  rintro e w' ⟨L, C, c, h1, h2, h3, h4, h5, h6⟩
  exact ⟨L, C, c, h1, h2, h3, h4, hg.below.trans (h5.mono hg.size), h6.mono hg.size⟩

end Go.Proofs.Ytgmdjioobidadaa

namespace Go.Proofs.Ytgmdjioobidadaa

theorem insZ_len {x : Zit} : ∀ {S : List Zit}, (insZ x S).length ≤ S.length + 1
  | [] => by
    unfold insZ
    by_cases e : x.2 = 0
    · rw [if_pos e]; simp
    · rw [if_neg e]; simp
  | y :: t => by
    unfold insZ
    by_cases h1 : cmpL x.1 y.1 < 0
    · rw [if_pos h1]
      by_cases e : x.2 = 0
      · rw [if_pos e]; simp
      · rw [if_neg e]; simp
    · rw [if_neg h1]
      by_cases h2 : cmpL x.1 y.1 = 0
      · rw [if_pos h2]
        by_cases e : x.2 + y.2 = 0
        · rw [if_pos e]; simp; omega
        · rw [if_neg e]; simp
      · rw [if_neg h2]
        have := @insZ_len x t
        simp; omega
theorem totL_len : ∀ l : List Zit, (totL l).length ≤ l.length
  | [] => by simp [totL]
  | x :: t => by
    have h1 := totL_len t
    have h2 := @insZ_len x (totL t)
    show (insZ x (totL t)).length ≤ _
    simp; omega
theorem normE_parts {l : List Zit} (h : normE l = 0) : l.length ≤ 400 ∧ (∀ x ∈ l, okR x.1 = true ∧ okW x.2 = true) ∧ totE l = 0 := by
  unfold normE at h
  by_cases h4 : 400 < l.length
  · rw [if_pos h4] at h; cases h
  · rw [if_neg h4] at h
    by_cases ha : l.all (fun x => okR x.1 && okW x.2) = true
    · rw [if_pos ha] at h
      exact ⟨by omega, fun x hx => by simpa using List.all_eq_true.1 ha x hx, h⟩
    · rw [if_neg ha] at h; cases h
theorem norm_ok {l : List Zit} (h : normE l = 0) : normL l = totL l ∧ errZ (totL l) = 0 := by
  have p := normE_parts h
  refine ⟨by unfold normL; rw [if_pos h], (errZ_iff _).2 ⟨Nat.le_trans (totL_len l) p.1, ?_, (totL_is l).rise⟩⟩
  exact (totL_is l).okZ (totE_zero p.2.2) fun x hx => (p.2.1 x hx).1
theorem tot_none (a : List Zit) : totL (a ++ a.map fun x => (x.1, -x.2)) = [] := by
  refine totL_same (m := []) fun r => ?_
  rw [wt_append, wt_neg]
  show wt a r + -wt a r = 0
  omega
theorem add_neg {a : List Zit} (h : errZ a = 0) : addE a (a.map fun x => (x.1, -x.2)) = 0 ∧ addL a (a.map fun x => (x.1, -x.2)) = [] := by
  have e : addE a (a.map fun x => (x.1, -x.2)) = 0 := by
    unfold addE
    rw [if_pos h, if_pos (negL_ok h)]
    unfold totE
    rw [tot_none a]; rfl
  exact ⟨e, by unfold addL; rw [if_pos e, tot_none a]⟩
theorem add_comm {a b : List Zit} (h : addE a b = 0) : addE b a = 0 ∧ addL a b = addL b a := by
  have hs : ∀ r, wt (b ++ a) r = wt (a ++ b) r := fun r => by rw [wt_append, wt_append]; omega
  have e : addE b a = 0 := by
    unfold addE at h ⊢
    by_cases ha : errZ a = 0
    · rw [if_pos ha] at h
      by_cases hb : errZ b = 0
      · rw [if_pos hb] at h
        rw [if_pos hb, if_pos ha, totE_same hs, totL_same hs]; exact h
      · rw [if_neg hb] at h; exact absurd h hb
    · rw [if_neg ha] at h; exact absurd h ha
  refine ⟨e, ?_⟩
  unfold addL
  rw [if_pos h, if_pos e, totL_same hs]
theorem add_is {a b : List Zit} (h : addE a b = 0) : addL a b = totL (a ++ b) := by unfold addL; rw [if_pos h]
theorem add_assoc {a b c : List Zit} (h1 : addE a b = 0) (h2 : addE b c = 0) (h : addE (addL a b) c = addE a (addL b c)) : addL (addL a b) c = addL a (addL b c) := by
  have hs : ∀ r, wt (addL a b ++ c) r = wt (a ++ addL b c) r := fun r => by
    rw [add_is h1, add_is h2, wt_append, wt_append, (totL_is _).same, (totL_is _).same, wt_append, wt_append]; omega
  have e : ∀ x y, addL x y = if addE x y = 0 then totL (x ++ y) else [] := fun _ _ => rfl
  rw [e (addL a b) c, e a (addL b c), h, totL_same hs]

end Go.Proofs.Ytgmdjioobidadaa
