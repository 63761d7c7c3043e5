/-
  viewref.made of join.
  viewref.made of union.
  viewref.made of minus.
-/
import Derived.Test.YtoanlaedkpkpnaaGreatDoorM24
import Derived.Test.YtoanlaedkpkpnaaGreatDoorM13
import Derived.Deep.RegionHeld3
namespace Go.Proofs.YtoanlaedkpkpnaaGreatDoor
open Go.RowKit Go.Sort Go.Maps

theorem step_append_t5 (w : World) {ops : Array Oper} {o : Oper} {a : Act} {K : Act → World → Prop} {Q : Exit → Act → World → Prop} {E : Prop} (hgd : o.guard = none) (s z : Operand)
    (ho : o.op = .call { callee := .builtin .append, args := #[s, z], argTypes := #[30, 30] })
    (base : Nat) (v : Value) (l : List Itm) (x : Itm) (A : Addr) (cap : Nat) (hs : a.eval s = v) (hz : a.eval z = .slice (some A) 1 cap) (hown : OwnT w base v l) (hr : RowG encT 2 w (some A) [x]) (hx : Apart w base v.ownBlock x)
    (hml : l.length + 1 ≤ maxLen) (hb : (l.length + 1) * 32 ≤ 140737488355328) (hbase : base ≤ w.heap.size)
    (h : ∀ v' w', OwnT w' base v' (l ++ [x]) → Below base w w' → w.grownBy w' v.ownBlock → (v'.ownBlock = v.ownBlock ∨ v'.ownBlock = some w.heap.size) → K (a.put o.dst v') w') :
    if Region.wanted o (yielded ops a.tmps) = true then Oper.wp Tryz.prog o a w K Q else E := by
  refine step_append_l w hgd s z ho base v l x A cap hs hz hown.own hr hml hb hbase fun v' w' h2 h3 h5 => ?_
  refine h v' w' ⟨h2, fun y hy => ?_⟩ (OwnG.grown_below hown.own h3 hbase) h3 h5
  rcases List.mem_append.1 hy with k | k
  · exact (hown.each y k).grown h3 h5
  · have : y = x := by simpa using k
    subst this
    exact hx.grown h3 h5
theorem cell_other {w w' : World} {row : Option Nat} {X j : Nat} (h : w.grownBy w' row) (hl : X < w.heap.size) (hX : row ≠ some X) : w'.cell? ⟨X, j, none⟩ = w.cell? ⟨X, j, none⟩ := World.cell?_of_block (a := ⟨X, j, none⟩) (h.block X hl (fun e => hX e.symm))
theorem fil_take {l : List Itm} {m : Nat} (h : m < l.length) (v nn : Int) : ((l.take (m + 1)).map Itm.z).filter (fun z : Zit => decide (atI z.1 v = nn)) = ((l.take m).map Itm.z).filter (fun z : Zit => decide (atI z.1 v = nn)) ++ (if atI l[m].r v = nn then [l[m].z] else []) := by
  rw [List.take_succ_eq_append_getElem h, List.map_append, List.filter_append]
  congr 1
  by_cases e : atI l[m].r v = nn
  · rw [if_pos e]; simp [Itm.z, e]
  · rw [if_neg e]; simp [Itm.z, e]
theorem prs_append (x : Zit) (l m : List Zit) : prs x (l ++ m) = prs x l ++ prs x m := by unfold prs; exact List.map_append ..
theorem join_new {w1 wj w6 : World} {u : Value} {L : List Itm} {C : Option Addr} {cc : Nat} {r : List Int} {P : Int} {N : Nat} (hN : r.length = N) (h1 : Below w1.heap.size w1 wj) (hown : OwnT wj w1.heap.size u L) (hj : Below wj.heap.size wj w6) (hr : RowI w6 C r) (hn : C = none → cc = 0) (hpl : ∀ ad, C = some ad → wj.heap.size ≤ ad.block ∧ ad.block < w6.heap.size) (hl : r.length ≤ 16) (hL : L.length ≤ 160400) :
    OwnT (w6.alloc (.cells #[.slice C N cc, .int .i64 P] 59)) w1.heap.size u L ∧ RowG encT 2 (w6.alloc (.cells #[.slice C N cc, .int .i64 P] 59)) (some ⟨w6.heap.size, 0, none⟩) [(⟨C, cc, r, P⟩ : Itm)] ∧ Apart (w6.alloc (.cells #[.slice C N cc, .int .i64 P] 59)) w1.heap.size u.ownBlock (⟨C, cc, r, P⟩ : Itm) ∧ L.length + 1 ≤ maxLen ∧ (L.length + 1) * 32 ≤ 140737488355328 ∧ Below w1.heap.size w1 (w6.alloc (.cells #[.slice C N cc, .int .i64 P] 59)) := by
  subst hN
  have h16 := h1.trans (hj.mono h1.size)
  have hs := h1.size
  refine ⟨(hown.below hj).gr ((Gr.refl _).alloc _), rowNewT rfl (⟨C, cc, r, P⟩ : Itm) _, ⟨hr.gr ((Gr.refl _).alloc _), Nat.le_trans hl (by decide), hn, fun ad ha => ⟨?_, ?_, ?_⟩⟩, by unfold maxLen; omega, by omega, h16.alloc h16.size _⟩
  · have := (hpl ad ha).1; omega
  · have := (hpl ad ha).2; simp; omega
  · intro e
    have h2 := (World.ownsRow.lt hown.own ad.block e).2
    have h3 := (hpl ad ha).1
    omega
theorem mul_bound2 {x y : Int} (hx : -1048576 ≤ x ∧ x ≤ 1048576) (hy : -1048576 ≤ y ∧ y ≤ 1048576) : -1125899906842624 ≤ x * y ∧ x * y ≤ 1125899906842624 := mul_bound ⟨by omega, by omega⟩ hy

set_option maxRecDepth 100000 in
set_option maxHeartbeats 1000000 in
theorem made4 (s : Stp) (a b : List Itm) (A B : Option Addr) (ca cb : Nat) (w : World) (hk : s.k = 4) (hl : a.length ≤ 400) (ha : Items w A a) (hbl : b.length ≤ 400) (hB : Items w B b) (hc : ∀ x ∈ a, inB s.c 0 ((x.r.length : Int) - 1) = true) (hv : ∀ x ∈ b, inB s.v 0 ((x.r.length : Int) - 1) = true) (hoa : ∀ x ∈ a, okR x.r = true ∧ okW x.n = true) (hob : ∀ x ∈ b, okR x.r = true ∧ okW x.n = true) :
    Calls Tryz.prog 37 #[.agg #[.int .i64 s.k, .int .i64 s.a, .int .i64 s.b, .int .i64 s.c, .int .i64 s.o, .int .i64 s.v, .slice s.p s.l.length s.n], .slice A a.length ca, .slice B b.length cb] w fun e w' => ∃ (L : List Itm) (C : Option Addr) (k : Nat), e = .returned (.slice C L.length k) ∧ L.map Itm.z = pairL (a.map Itm.z) (b.map Itm.z) s.c s.v ∧ Items w' C L ∧ Below w.heap.size w w' := by
  have mixed : Tryz.prog.follows .mixedOrders = true := by kernel_rfl
  have hS0 := StAt.new w s
  have hg0 : Gr w (w.alloc (.cells #[.int .i64 s.k, .int .i64 s.a, .int .i64 s.b, .int .i64 s.c, .int .i64 s.o, .int .i64 s.v, .slice s.p s.l.length s.n] 64)) := (Gr.refl w).alloc _
  obtain ⟨w1, hw1⟩ : ∃ w1, w.alloc (.cells #[.int .i64 s.k, .int .i64 s.a, .int .i64 s.b, .int .i64 s.c, .int .i64 s.o, .int .i64 s.v, .slice s.p s.l.length s.n] 64) = w1 := ⟨_, rfl⟩
  rw [hw1] at hS0 hg0
  obtain ⟨X, hX⟩ : ∃ X, w.heap.size = X := ⟨_, rfl⟩
  have hH : Hid (StAt w1 X s ∧ Gr w w1 ∧ Items w1 A a ∧ s.k = 4 ∧ w.heap.size = X ∧ Items w1 B b ∧ (∀ x ∈ a, inB s.c 0 ((x.r.length : Int) - 1) = true) ∧ (∀ x ∈ b, inB s.v 0 ((x.r.length : Int) - 1) = true) ∧ (∀ x ∈ a, okR x.r = true ∧ okW x.n = true) ∧ ∀ x ∈ b, okR x.r = true ∧ okW x.n = true) := ⟨hX ▸ hS0, hg0, ha.gr hg0, hk, hX, hB.gr hg0, hc, hv, hoa, hob⟩
  clear hS0 hg0 ha hk hB hc hv hoa hob
  go_enter Tryz.func37, Tryz.ntmps37
  go_wp2
  try rw [hw1]
  try rw [hX]
  clear hw1 hX
  go_loopw [7, 8, 9] (fun u v i wr => ∃ (k : Nat) (L : List Itm), k ≤ a.length ∧ i = .int .i64 k ∧ v = .slice none 0 0 ∧ Hid (L.length ≤ k * 400 ∧ L.map Itm.z = pairL ((a.take k).map Itm.z) (b.map Itm.z) s.c s.v ∧ OwnT wr w1.heap.size u L ∧ Below w1.heap.size w1 wr)) (fun _ _ i _ => a.length - (intOf i).toNat)
  case atStart => exact ⟨0, [], Nat.zero_le _, rfl, rfl, by show 0 ≤ _; omega, rfl, OwnT.nil _ _, Below.refl _ _⟩
  case round =>
    obtain ⟨k, L, hk, rfl, rfl, hR⟩ := hrel
    have hSt : Hid (StAt wr X s) := hH.out.1.below hR.out.2.2.2
    by_cases hlt : k < a.length
    · have hltz : (k : Int) < (a.length : Int) := by omega
      obtain ⟨bb, off, rfl, hb, hcs⟩ := hH.out.2.2.1.at hlt
      obtain ⟨x, hx⟩ : ∃ x, a[k] = x := ⟨_, rfl⟩
      obtain ⟨e0, e1⟩ := hcs k hlt
      rw [hx] at e0 e1
      have hxm : x ∈ a := by rw [← hx]; exact List.getElem_mem hlt
      obtain ⟨rb, ro, cn, hp, hrb, hcn, hcl, hcell⟩ := rowI_atI (hH.out.2.2.1.each x hxm).1 (hH.out.2.2.2.2.2.2.1 x hxm)
      have hst : Hid (pairL ((a.take (k + 1)).map Itm.z) (b.map Itm.z) s.c s.v = pairL ((a.take k).map Itm.z) (b.map Itm.z) s.c s.v ++ prs x.z ((b.map Itm.z).filter fun z => decide (atI z.1 s.v = atI x.r s.c))) := by show _ = _; rw [pair_take hlt, hx]
      obtain ⟨nn, hnn⟩ : ∃ nn, atI x.r s.c = nn := ⟨_, rfl⟩
      rw [hnn] at hcell hst
      rw [hp] at e0
      have f0 : wr.cell? ⟨bb, off + k * 2, none⟩ = some (.slice (some ⟨rb, ro, none⟩) x.r.length x.c) := (hR.out.2.2.2.cell (p := ⟨bb, off + k * 2, none⟩) hb).trans e0
      have f1 : wr.cell? ⟨bb, off + k * 2 + 1, none⟩ = some (.int .i64 x.n) := (hR.out.2.2.2.cell (p := ⟨bb, off + k * 2 + 1, none⟩) hb).trans e1
      have hxH : Hid (okR x.r = true ∧ okW x.n = true ∧ w1.cell? ⟨rb, ro + cn, none⟩ = some (.int .i64 nn) ∧ rb < w1.heap.size ∧ RowI w1 (some ⟨rb, ro, none⟩) x.r ∧ s.c = cn ∧ (x.p = none → x.c = 0)) := ⟨(hH.out.2.2.2.2.2.2.2.2.1 x hxm).1, (hH.out.2.2.2.2.2.2.2.2.1 x hxm).2, hcell, hrb, by rw [← hp]; exact (hH.out.2.2.1.each x hxm).1, hcn, (hH.out.2.2.1.each x hxm).2.2⟩
      have hcz : (cn : Int) < (x.r.length : Int) := by omega
      have hgX : Hid (Gr wr (wr.alloc (.cells #[.slice (some ⟨rb, ro, none⟩) x.r.length x.c, .int .i64 x.n] 59))) := (Gr.refl _).alloc _
      obtain ⟨wX, hwX⟩ : ∃ wX, (wr.alloc (.cells #[.slice (some ⟨rb, ro, none⟩) x.r.length x.c, .int .i64 x.n] 59)) = wX := ⟨_, rfl⟩
      have y0 : Hid (wX.cell? ⟨wr.heap.size, 0, none⟩ = some (.slice (some ⟨rb, ro, none⟩) x.r.length x.c) ∧ wX.cell? ⟨wr.heap.size, 1, none⟩ = some (.int .i64 x.n) ∧ wr.heap.size < wX.heap.size) := by rw [← hwX]; exact ⟨box1 (Gr.refl _) rfl, box1 (Gr.refl _) rfl, by simp⟩
      have k0 : wX.cell? ⟨X, 0, none⟩ = some (.int .i64 4) := by rw [← hwX, hgX.out.cell (p := ⟨X, 0, none⟩) hSt.out.lt, hSt.out.c0, hH.out.2.2.2.1]
      rw [hwX] at hgX
      have hb400 : b.length ≤ 400 := hbl
      clear hcs hx hxm hnn hp hcell hcl hcn e0 e1 hb hrb
      go_wp2
      clear hwX
      obtain ⟨xb, hxb⟩ : ∃ xb, wr.heap.size = xb := ⟨_, rfl⟩
      have hne : Hid (u7.ownBlock ≠ some xb) := fun e => by have := (World.ownsRow.lt hR.out.2.2.1.own _ e).2; omega
      rw [hxb] at y0 ⊢
      clear hxb f0 f1 k0
      have hO : Hid (L.length ≤ k * 400 + 0 ∧ L.map Itm.z = pairL ((a.take k).map Itm.z) (b.map Itm.z) s.c s.v ++ prs x.z (((b.take (0)).map Itm.z).filter fun z : Zit => decide (atI z.1 s.v = nn)) ∧ OwnT wX w1.heap.size u7 L ∧ Below w1.heap.size w1 wX ∧ wX.cell? ⟨xb, 0, none⟩ = some (.slice (some ⟨rb, ro, none⟩) x.r.length x.c) ∧ wX.cell? ⟨xb, 1, none⟩ = some (.int .i64 x.n) ∧ xb < wX.heap.size ∧ u7.ownBlock ≠ some xb) := ⟨by have := hR.out.1; omega, by rw [hR.out.2.1]; simp [prs], hR.out.2.2.1.gr hgX.out, hR.out.2.2.2.trans (hgX.out.below.mono hR.out.2.2.2.size), y0.out.1, y0.out.2.1, y0.out.2.2, hne.out⟩
      clear hR hgX hSt hne y0
      go_loopw [7, 14] (fun u i wi => ∃ (m : Nat) (L : List Itm), m ≤ b.length ∧ i = .int .i64 m ∧ Hid (L.length ≤ k * 400 + m ∧ L.map Itm.z = pairL ((a.take k).map Itm.z) (b.map Itm.z) s.c s.v ++ prs x.z (((b.take (m)).map Itm.z).filter fun z : Zit => decide (atI z.1 s.v = nn)) ∧ OwnT wi w1.heap.size u L ∧ Below w1.heap.size w1 wi ∧ wi.cell? ⟨xb, 0, none⟩ = some (.slice (some ⟨rb, ro, none⟩) x.r.length x.c) ∧ wi.cell? ⟨xb, 1, none⟩ = some (.int .i64 x.n) ∧ xb < wi.heap.size ∧ u.ownBlock ≠ some xb)) (fun _ i _ => b.length - (intOf i).toNat)
      case atStart => exact ⟨0, L, Nat.zero_le _, rfl, hO⟩
      case round =>
        rename World => wi
        clear hO
        obtain ⟨m, L, hm, rfl, hR⟩ := hrel
        have hSt : Hid (StAt wi X s) := hH.out.1.below hR.out.2.2.2.1
        by_cases hlt2 : m < b.length
        · have hltz2 : (m : Int) < (b.length : Int) := by omega
          obtain ⟨yb, yo, rfl, hyb, hcs⟩ := hH.out.2.2.2.2.2.1.at hlt2
          obtain ⟨y, hy⟩ : ∃ y, b[m] = y := ⟨_, rfl⟩
          obtain ⟨e0, e1⟩ := hcs m hlt2
          rw [hy] at e0 e1
          have hym : y ∈ b := by rw [← hy]; exact List.getElem_mem hlt2
          obtain ⟨qb, qo, vn, hp, hqb, hvn, hvl, hcell⟩ := rowI_atI (hH.out.2.2.2.2.2.1.each y hym).1 (hH.out.2.2.2.2.2.2.2.1 y hym)
          have hst2 : Hid (((b.take (m + 1)).map Itm.z).filter (fun z : Zit => decide (atI z.1 s.v = nn)) = ((b.take m).map Itm.z).filter (fun z : Zit => decide (atI z.1 s.v = nn)) ++ (if atI y.r s.v = nn then [y.z] else [])) := by show _ = _; rw [fil_take hlt2, hy]
          obtain ⟨vv, hvv⟩ : ∃ vv, atI y.r s.v = vv := ⟨_, rfl⟩
          rw [hvv] at hcell hst2
          rw [hp] at e0
          have hyH : Hid (okR y.r = true ∧ okW y.n = true ∧ RowI w1 (some ⟨qb, qo, none⟩) y.r ∧ (y.p = none → y.c = 0)) := ⟨(hH.out.2.2.2.2.2.2.2.2.2 y hym).1, (hH.out.2.2.2.2.2.2.2.2.2 y hym).2, by rw [← hp]; exact (hH.out.2.2.2.2.2.1.each y hym).1, (hH.out.2.2.2.2.2.1.each y hym).2.2⟩
          have g0 : wi.cell? ⟨yb, yo + m * 2, none⟩ = some (.slice (some ⟨qb, qo, none⟩) y.r.length y.c) := (hR.out.2.2.2.1.cell (p := ⟨yb, yo + m * 2, none⟩) hyb).trans e0
          have g1 : wi.cell? ⟨yb, yo + m * 2 + 1, none⟩ = some (.int .i64 y.n) := (hR.out.2.2.2.1.cell (p := ⟨yb, yo + m * 2 + 1, none⟩) hyb).trans e1
          have g2 : wi.cell? ⟨qb, qo + vn, none⟩ = some (.int .i64 vv) := (hR.out.2.2.2.1.cell (p := ⟨qb, qo + vn, none⟩) hqb).trans hcell
          have g3 : wi.cell? ⟨rb, ro + cn, none⟩ = some (.int .i64 nn) := (hR.out.2.2.2.1.cell (p := ⟨rb, ro + cn, none⟩) hxH.out.2.2.2.1).trans hxH.out.2.2.1
          have g4 : wi.cell? ⟨xb, 0, none⟩ = some (.slice (some ⟨rb, ro, none⟩) x.r.length x.c) := hR.out.2.2.2.2.1
          have g5 : wi.cell? ⟨xb, 1, none⟩ = some (.int .i64 x.n) := hR.out.2.2.2.2.2.1
          have k3 : wi.cell? ⟨X, 3, none⟩ = some (.int .i64 (cn : Int)) := by rw [hSt.out.c3, hxH.out.2.2.2.2.2.1]
          have k5 : wi.cell? ⟨X, 5, none⟩ = some (.int .i64 (vn : Int)) := by rw [hSt.out.c5, hvn]
          have hvz : (vn : Int) < (y.r.length : Int) := by omega
          have hybH : Hid (yb < w1.heap.size) := hyb
          clear hcs hy hym hp hcell hvl hvn e0 e1 hyb hqb hvv
          by_cases hq : nn = vv
          · have hq2 : (nn == vv) = true := beq_iff_eq.2 hq
            have hmz : Hid (m * 2 + 1 < b.length * 2) := by show _ < _; omega
            go_wp2
            go_quiet (fail)
            go_wp2
            generalize hwj : World.drewN wi _ = wj
            have hgj : Hid (Gr wi wj) := by show Gr wi wj; rw [← hwj]; exact gr_drewN _ _
            clear hwj
            have hBj : Hid (Below w1.heap.size w1 wj ∧ OwnT wj w1.heap.size u7 L ∧ wi.heap.size ≤ wj.heap.size ∧ w1.heap.size ≤ wj.heap.size) := by
              have h := hR.out.2.2.2.1.trans (hgj.out.below.mono hR.out.2.2.2.1.size)
              exact ⟨h, hR.out.2.2.1.gr hgj.out, hgj.out.below.size, h.size⟩
            have hKB : Hid (∀ W', Below wj.heap.size wj W' → (fun w' => w'.cell? ⟨xb, 0, none⟩ = some (.slice (some ⟨rb, ro, none⟩) x.r.length x.c) ∧ w'.cell? ⟨xb, 1, none⟩ = some (.int .i64 x.n) ∧ w'.cell? ⟨yb, yo + m * 2, none⟩ = some (.slice (some ⟨qb, qo, none⟩) y.r.length y.c) ∧ w'.cell? ⟨yb, yo + m * 2 + 1, none⟩ = some (.int .i64 y.n)) W') := fun W' h => by
              have h2 := hgj.out.below.trans (h.mono hgj.out.below.size)
              have hyl : yb < wi.heap.size := Nat.lt_of_lt_of_le hybH.out hR.out.2.2.2.1.size
              exact ⟨(h2.cell (p := ⟨xb, 0, none⟩) hR.out.2.2.2.2.2.2.1).trans g4, (h2.cell (p := ⟨xb, 1, none⟩) hR.out.2.2.2.2.2.2.1).trans g5, (h2.cell (p := ⟨yb, yo + m * 2, none⟩) hyl).trans g0, (h2.cell (p := ⟨yb, yo + m * 2 + 1, none⟩) hyl).trans g1⟩
            have hgD : Hid (Gr wj wj.drew) := (Gr.refl _).drew
            have hKeep : Hid (∀ W', Gr wj W' → (fun w' => w'.cell? ⟨xb, 0, none⟩ = some (.slice (some ⟨rb, ro, none⟩) x.r.length x.c) ∧ w'.cell? ⟨xb, 1, none⟩ = some (.int .i64 x.n) ∧ w'.cell? ⟨yb, yo + m * 2, none⟩ = some (.slice (some ⟨qb, qo, none⟩) y.r.length y.c) ∧ w'.cell? ⟨yb, yo + m * 2 + 1, none⟩ = some (.int .i64 y.n)) W') := fun W' h => hKB.out W' h.below
            have hxl : x.r.length ≤ 8 := by have h := hxH.out.1; simp only [okR, Bool.and_eq_true, decide_eq_true_eq] at h; exact h.1
            have hyl : y.r.length ≤ 8 := by have h := hyH.out.1; simp only [okR, Bool.and_eq_true, decide_eq_true_eq] at h; exact h.1
            have hbx := hxH.out.2.1
            have hby := hyH.out.2.1
            simp only [okW, inB, Bool.and_eq_true, decide_eq_true_eq] at hbx hby
            have hml := mul_bound2 hbx hby
            obtain ⟨P, hP⟩ : ∃ P, x.n * y.n = P := ⟨_, rfl⟩
            rw [hP] at hml
            have hw1 : IntKind.i64.wrap (x.n * y.n) = P := by rw [hP, IntKind.wrap_i64]; omega
            have hPH : Hid (x.n * y.n = P) := hP
            have hlenH : Hid (x.r.length ≤ 8 ∧ y.r.length ≤ 8 ∧ L.length ≤ 160400) := ⟨hxl, hyl, by have h1 := hR.out.1; have h2 : k * 400 ≤ 400 * 400 := Nat.mul_le_mul_right 400 (by omega); omega⟩
            have hrx : Hid (RowI wj.drew (some ⟨rb, ro, none⟩) x.r) := hxH.out.2.2.2.2.1.below (hBj.out.1.trans (hgD.out.below.mono hBj.out.1.size))
            clear hbx hby hml hP hxl hyl g0 g1 g2 g3 g4 g5 k3 k5
            refine wp_region_noPanic ?_
            refine wp_region_held_drew (S := (fun w' => w'.cell? ⟨xb, 0, none⟩ = some (.slice (some ⟨rb, ro, none⟩) x.r.length x.c) ∧ w'.cell? ⟨xb, 1, none⟩ = some (.int .i64 x.n) ∧ w'.cell? ⟨yb, yo + m * 2, none⟩ = some (.slice (some ⟨qb, qo, none⟩) y.r.length y.c) ∧ w'.cell? ⟨yb, yo + m * 2 + 1, none⟩ = some (.int .i64 y.n))) (by kernel_rfl) (hKeep.out _ hgD.out) (fun hHeld => ?_)
            refine wpAnyH_take (i := 0) (oi := ?ois1) (v := ?vs1) ?hops1 ?hss1 ?hfs1 ?hrs1 ?hQs1 ?hys1 (by assumption) ?rests1
            case hops1 => (simp only [List.getElem?_toArray, List.getElem?_cons_zero]; rfl)
            case hss1 => kernel_rfl
            case hfs1 => kernel_rfl
            case hrs1 => kernel_rfl
            case hQs1 => exact fun _ _ _ h => h
            case hys1 => (refine Or.inl ⟨by rfl, ?_⟩; intro w hSw; (try dsimp only at hSw); go_simp <;> with_reducible rfl)
            try simp only [Act.put, List.setIfInBounds_toArray, List.set_cons_zero, List.set_cons_succ]
            refine wpAnyH_take (i := 1) (oi := ?ois2) (v := ?vs2) ?hops2 ?hss2 ?hfs2 ?hrs2 ?hQs2 ?hys2 (by assumption) ?rests2
            case hops2 => (simp only [List.getElem?_toArray, List.getElem?_cons_zero, List.getElem?_cons_succ]; rfl)
            case hss2 => kernel_rfl
            case hfs2 => kernel_rfl
            case hrs2 => kernel_rfl
            case hQs2 => exact fun _ _ _ h => h
            case hys2 => (refine Or.inl ⟨by rfl, ?_⟩; intro w hSw; (try dsimp only at hSw); go_simp <;> with_reducible rfl)
            try simp only [Act.put, List.setIfInBounds_toArray, List.set_cons_zero, List.set_cons_succ]
            refine wpAnyH_take (i := 2) (oi := ?ois3) (v := ?vs3) ?hops3 ?hss3 ?hfs3 ?hrs3 ?hQs3 ?hys3 (by assumption) ?rests3
            case hops3 => (simp only [List.getElem?_toArray, List.getElem?_cons_zero, List.getElem?_cons_succ]; rfl)
            case hss3 => kernel_rfl
            case hfs3 => kernel_rfl
            case hrs3 => kernel_rfl
            case hQs3 => exact fun _ _ _ h => h
            case hys3 => (refine Or.inl ⟨by rfl, ?_⟩; intro w hSw; (try dsimp only at hSw); go_simp <;> with_reducible rfl)
            try simp only [Act.put, List.setIfInBounds_toArray, List.set_cons_zero, List.set_cons_succ]
            refine wpAnyH_take (i := 4) (oi := ?ois4) (v := ?vs4) ?hops4 ?hss4 ?hfs4 ?hrs4 ?hQs4 ?hys4 (by assumption) ?rests4
            case hops4 => (simp only [List.getElem?_toArray, List.getElem?_cons_zero, List.getElem?_cons_succ]; rfl)
            case hss4 => kernel_rfl
            case hfs4 => kernel_rfl
            case hrs4 => kernel_rfl
            case hQs4 => exact fun _ _ _ h => h
            case hys4 => (refine Or.inl ⟨by rfl, ?_⟩; intro w hSw; (try dsimp only at hSw); go_simp <;> with_reducible rfl)
            try simp only [Act.put, List.setIfInBounds_toArray, List.set_cons_zero, List.set_cons_succ]
            refine wpAnyH_take (i := 5) (oi := ?ois5) (v := ?vs5) ?hops5 ?hss5 ?hfs5 ?hrs5 ?hQs5 ?hys5 (by assumption) ?rests5
            case hops5 => (simp only [List.getElem?_toArray, List.getElem?_cons_zero, List.getElem?_cons_succ]; rfl)
            case hss5 => kernel_rfl
            case hfs5 => kernel_rfl
            case hrs5 => kernel_rfl
            case hQs5 => exact fun _ _ _ h => h
            case hys5 => (refine Or.inl ⟨by rfl, ?_⟩; intro w hSw; (try dsimp only at hSw); go_simp <;> with_reducible rfl)
            try simp only [Act.put, List.setIfInBounds_toArray, List.set_cons_zero, List.set_cons_succ]
            refine wpAnyH_take (i := 6) (oi := ?ois6) (v := ?vs6) ?hops6 ?hss6 ?hfs6 ?hrs6 ?hQs6 ?hys6 (by assumption) ?rests6
            case hops6 => (simp only [List.getElem?_toArray, List.getElem?_cons_zero, List.getElem?_cons_succ]; rfl)
            case hss6 => kernel_rfl
            case hfs6 => kernel_rfl
            case hrs6 => kernel_rfl
            case hQs6 => exact fun _ _ _ h => h
            case hys6 => (refine Or.inl ⟨by rfl, ?_⟩; intro w hSw; (try dsimp only at hSw); go_simp <;> with_reducible rfl)
            try simp only [Act.put, List.setIfInBounds_toArray, List.set_cons_zero, List.set_cons_succ]
            refine wpAnyH_take (i := 7) (oi := ?ois7) (v := ?vs7) ?hops7 ?hss7 ?hfs7 ?hrs7 ?hQs7 ?hys7 (by assumption) ?rests7
            case hops7 => (simp only [List.getElem?_toArray, List.getElem?_cons_zero, List.getElem?_cons_succ]; rfl)
            case hss7 => kernel_rfl
            case hfs7 => kernel_rfl
            case hrs7 => kernel_rfl
            case hQs7 => exact fun _ _ _ h => h
            case hys7 => (refine Or.inl ⟨by rfl, ?_⟩; intro w hSw; (try dsimp only at hSw); go_simp <;> with_reducible rfl)
            try simp only [Act.put, List.setIfInBounds_toArray, List.set_cons_zero, List.set_cons_succ]
            refine wpAnyH_take (i := 8) (oi := ?ois8) (v := ?vs8) ?hops8 ?hss8 ?hfs8 ?hrs8 ?hQs8 ?hys8 (by assumption) ?rests8
            case hops8 => (simp only [List.getElem?_toArray, List.getElem?_cons_zero, List.getElem?_cons_succ]; rfl)
            case hss8 => kernel_rfl
            case hfs8 => kernel_rfl
            case hrs8 => kernel_rfl
            case hQs8 => exact fun _ _ _ h => h
            case hys8 => (refine Or.inl ⟨by rfl, ?_⟩; intro w hSw; (try dsimp only at hSw); go_simp <;> with_reducible rfl)
            try simp only [Act.put, List.setIfInBounds_toArray, List.set_cons_zero, List.set_cons_succ]
            refine wpAnyH_take (i := 10) (oi := ?ois9) (v := ?vs9) ?hops9 ?hss9 ?hfs9 ?hrs9 ?hQs9 ?hys9 (by assumption) ?rests9
            case hops9 => (simp only [List.getElem?_toArray, List.getElem?_cons_zero, List.getElem?_cons_succ]; rfl)
            case hss9 => kernel_rfl
            case hfs9 => kernel_rfl
            case hrs9 => kernel_rfl
            case hQs9 => exact fun _ _ _ h => h
            case hys9 => (refine Or.inl ⟨by rfl, ?_⟩; intro w hSw; (try dsimp only at hSw); go_simp <;> with_reducible rfl)
            try simp only [Act.put, List.setIfInBounds_toArray, List.set_cons_zero, List.set_cons_succ]
            refine wpAnyH_take (i := 11) (oi := ?ois10) (v := ?vs10) ?hops10 ?hss10 ?hfs10 ?hrs10 ?hQs10 ?hys10 (by assumption) ?rests10
            case hops10 => (simp only [List.getElem?_toArray, List.getElem?_cons_zero, List.getElem?_cons_succ]; rfl)
            case hss10 => kernel_rfl
            case hfs10 => kernel_rfl
            case hrs10 => kernel_rfl
            case hQs10 => exact fun _ _ _ h => h
            case hys10 => (refine Or.inl ⟨by rfl, ?_⟩; intro w hSw; (try dsimp only at hSw); go_simp <;> with_reducible rfl)
            try simp only [Act.put, List.setIfInBounds_toArray, List.set_cons_zero, List.set_cons_succ]
            refine wpAnyH_take (i := 12) (oi := ?ois11) (v := ?vs11) ?hops11 ?hss11 ?hfs11 ?hrs11 ?hQs11 ?hys11 (by assumption) ?rests11
            case hops11 => (simp only [List.getElem?_toArray, List.getElem?_cons_zero, List.getElem?_cons_succ]; rfl)
            case hss11 => kernel_rfl
            case hfs11 => kernel_rfl
            case hrs11 => kernel_rfl
            case hQs11 => exact fun _ _ _ h => h
            case hys11 => (refine Or.inl ⟨by rfl, ?_⟩; intro w hSw; (try dsimp only at hSw); go_simp <;> with_reducible rfl)
            try simp only [Act.put, List.setIfInBounds_toArray, List.set_cons_zero, List.set_cons_succ]
            refine wpAnyH_take (i := 13) (oi := ?ois12) (v := ?vs12) ?hops12 ?hss12 ?hfs12 ?hrs12 ?hQs12 ?hys12 (by assumption) ?rests12
            case hops12 => (simp only [List.getElem?_toArray, List.getElem?_cons_zero, List.getElem?_cons_succ]; rfl)
            case hss12 => kernel_rfl
            case hfs12 => kernel_rfl
            case hrs12 => kernel_rfl
            case hQs12 => exact fun _ _ _ h => h
            case hys12 => (refine Or.inl ⟨by rfl, ?_⟩; intro w hSw; (try dsimp only at hSw); go_simp <;> with_reducible rfl)
            try simp only [Act.put, List.setIfInBounds_toArray, List.set_cons_zero, List.set_cons_succ]
            refine wpAnyH_take (i := 14) (oi := ?ois13) (v := ?vs13) ?hops13 ?hss13 ?hfs13 ?hrs13 ?hQs13 ?hys13 (by assumption) ?rests13
            case hops13 => (simp only [List.getElem?_toArray, List.getElem?_cons_zero, List.getElem?_cons_succ]; rfl)
            case hss13 => kernel_rfl
            case hfs13 => kernel_rfl
            case hrs13 => kernel_rfl
            case hQs13 => exact fun _ _ _ h => h
            case hys13 => (refine Or.inl ⟨by rfl, ?_⟩; intro w hSw; (try dsimp only at hSw); go_simp <;> with_reducible rfl)
            try simp only [Act.put, List.setIfInBounds_toArray, List.set_cons_zero, List.set_cons_succ]
            refine wpAnyH_take (i := 15) (oi := ?ois14) (v := ?vs14) ?hops14 ?hss14 ?hfs14 ?hrs14 ?hQs14 ?hys14 (by assumption) ?rests14
            case hops14 => (simp only [List.getElem?_toArray, List.getElem?_cons_zero, List.getElem?_cons_succ]; rfl)
            case hss14 => kernel_rfl
            case hfs14 => kernel_rfl
            case hrs14 => kernel_rfl
            case hQs14 => exact fun _ _ _ h => h
            case hys14 => (refine Or.inl ⟨by rfl, ?_⟩; intro w hSw; (try dsimp only at hSw); go_simp <;> with_reducible rfl)
            try simp only [Act.put, List.setIfInBounds_toArray, List.set_cons_zero, List.set_cons_succ]
            refine wpAnyH_take (i := 16) (oi := ?ois15) (v := ?vs15) ?hops15 ?hss15 ?hfs15 ?hrs15 ?hQs15 ?hys15 (by assumption) ?rests15
            case hops15 => (simp only [List.getElem?_toArray, List.getElem?_cons_zero, List.getElem?_cons_succ]; rfl)
            case hss15 => kernel_rfl
            case hfs15 => kernel_rfl
            case hrs15 => kernel_rfl
            case hQs15 => exact fun _ _ _ h => h
            case hys15 => (refine Or.inl ⟨by rfl, ?_⟩; intro w hSw; (try dsimp only at hSw); go_simp <;> with_reducible rfl)
            try simp only [Act.put, List.setIfInBounds_toArray, List.set_cons_zero, List.set_cons_succ]
            refine wpAnyH_take (i := 17) (oi := ?ois16) (v := ?vs16) ?hops16 ?hss16 ?hfs16 ?hrs16 ?hQs16 ?hys16 (by assumption) ?rests16
            case hops16 => (simp only [List.getElem?_toArray, List.getElem?_cons_zero, List.getElem?_cons_succ]; rfl)
            case hss16 => kernel_rfl
            case hfs16 => kernel_rfl
            case hrs16 => kernel_rfl
            case hQs16 => exact fun _ _ _ h => h
            case hys16 => (refine Or.inl ⟨by rfl, ?_⟩; intro w hSw; (try dsimp only at hSw); go_simp <;> with_reducible rfl)
            try simp only [Act.put, List.setIfInBounds_toArray, List.set_cons_zero, List.set_cons_succ]
            refine wpAnyH_ready (rs := [3]) (by kernel_rfl) (by simp) ?_
            refine AllReadyH.cons (o := ?ois17) ?hops17 (fun K hK => ?steps17) ?mores17
            case hops17 => (simp only [List.getElem?_toArray, List.getElem?_cons_zero, List.getElem?_cons_succ]; rfl)
            case mores17 => exact AllReadyH.nil
            (refine step_append_i2 _ rfl _ (.tmp 137) rfl wj.drew.heap.size (.slice none 0 0) [] x.r (some ⟨rb, ro, none⟩) x.c rfl rfl (OwnG.nil _ _ _ _ _) hrx.out (fun h => by cases h) (by have := hlenH.out.1; unfold maxLen; simp only [List.length_nil]; omega) (by have := hlenH.out.1; simp only [List.length_nil]; omega) (Nat.le_refl _) ?_; intro v5 w5 hown5 hgb5; have hb5 : Hid (Below wj.drew.heap.size wj.drew w5 ∧ OwnI w5 wj.drew.heap.size v5 x.r) := ⟨(OwnG.nil encI 1 3 wj.drew wj.drew.heap.size).grown_below hgb5 (Nat.le_refl _), hown5⟩; have hj5 : Hid (Below wj.heap.size wj w5) := hgD.out.below.trans (hb5.out.1.mono hgD.out.below.size); have hk5 : Hid ((fun w' => w'.cell? ⟨xb, 0, none⟩ = some (.slice (some ⟨rb, ro, none⟩) x.r.length x.c) ∧ w'.cell? ⟨xb, 1, none⟩ = some (.int .i64 x.n) ∧ w'.cell? ⟨yb, yo + m * 2, none⟩ = some (.slice (some ⟨qb, qo, none⟩) y.r.length y.c) ∧ w'.cell? ⟨yb, yo + m * 2 + 1, none⟩ = some (.int .i64 y.n)) w5) := hKB.out _ hj5.out; have hry : Hid (RowI w5 (some ⟨qb, qo, none⟩) y.r) := hyH.out.2.2.1.below (hBj.out.1.trans (hj5.out.mono hBj.out.2.2.2)); clear hown5 hgb5)
            refine hK.out _ _ ?_ (fun hHeld => ?_)
            · (try dsimp only); first | with_reducible exact hKeep.out _ hgD.out | exact hKeep.out _ hgD.out | exact hk7.out | exact hk6.out.2 | exact hk6.out.1 | exact hk5.out
            clear hK K
            try simp only [Act.put, List.setIfInBounds_toArray, List.set_cons_zero, List.set_cons_succ]
            refine wpAnyH_ready (rs := [9]) (by kernel_rfl) (by simp) ?_
            refine AllReadyH.cons (o := ?ois18) ?hops18 (fun K hK => ?steps18) ?mores18
            case hops18 => (simp only [List.getElem?_toArray, List.getElem?_cons_zero, List.getElem?_cons_succ]; rfl)
            case mores18 => exact AllReadyH.nil
            (refine step_append_i2 _ rfl (.tmp 138) (.tmp 143) rfl wj.drew.heap.size v5 x.r y.r (some ⟨qb, qo, none⟩) y.c rfl rfl hb5.out.2 hry.out (fun h => by cases h) (by have := hlenH.out; unfold maxLen; omega) (by have := hlenH.out; omega) hb5.out.1.size ?_; intro v6 w6 hown6 hgb6; have hj6 : Hid (Below wj.heap.size wj w6) := hj5.out.trans ((hb5.out.2.grown_below hgb6 hb5.out.1.size).mono (by show wj.heap.size ≤ wj.drew.heap.size; exact hgD.out.below.size)); obtain ⟨C, cc, hv6, hn6, hit6, hpl6⟩ := hown6.row encI_len; subst hv6; have hn6H : Hid ((C = none → cc = 0) ∧ RowI w6 C (x.r ++ y.r) ∧ ∀ ad, C = some ad → wj.drew.heap.size ≤ ad.block ∧ ad.block < w6.heap.size) := ⟨hn6, hit6, hpl6⟩; have hk6 : Hid ((fun w' => w'.cell? ⟨xb, 0, none⟩ = some (.slice (some ⟨rb, ro, none⟩) x.r.length x.c) ∧ w'.cell? ⟨xb, 1, none⟩ = some (.int .i64 x.n) ∧ w'.cell? ⟨yb, yo + m * 2, none⟩ = some (.slice (some ⟨qb, qo, none⟩) y.r.length y.c) ∧ w'.cell? ⟨yb, yo + m * 2 + 1, none⟩ = some (.int .i64 y.n)) w6 ∧ (fun w' => w'.cell? ⟨xb, 0, none⟩ = some (.slice (some ⟨rb, ro, none⟩) x.r.length x.c) ∧ w'.cell? ⟨xb, 1, none⟩ = some (.int .i64 x.n) ∧ w'.cell? ⟨yb, yo + m * 2, none⟩ = some (.slice (some ⟨qb, qo, none⟩) y.r.length y.c) ∧ w'.cell? ⟨yb, yo + m * 2 + 1, none⟩ = some (.int .i64 y.n)) (w6.alloc (.cells #[.slice C (x.r.length + y.r.length) cc, .int .i64 P] 59))) := ⟨hKB.out _ hj6.out, hKB.out _ (hj6.out.alloc hj6.out.size _)⟩; have hoX : Hid (OwnT (w6.alloc (.cells #[.slice C (x.r.length + y.r.length) cc, .int .i64 P] 59)) w1.heap.size u7 L ∧ RowG encT 2 (w6.alloc (.cells #[.slice C (x.r.length + y.r.length) cc, .int .i64 P] 59)) (some ⟨w6.heap.size, 0, none⟩) [(⟨C, cc, x.r ++ y.r, P⟩ : Itm)] ∧ Apart (w6.alloc (.cells #[.slice C (x.r.length + y.r.length) cc, .int .i64 P] 59)) w1.heap.size u7.ownBlock (⟨C, cc, x.r ++ y.r, P⟩ : Itm) ∧ L.length + 1 ≤ maxLen ∧ (L.length + 1) * 32 ≤ 140737488355328 ∧ Below w1.heap.size w1 (w6.alloc (.cells #[.slice C (x.r.length + y.r.length) cc, .int .i64 P] 59))) := join_new List.length_append hBj.out.1 hBj.out.2.1 hj6.out hn6H.out.2.1 hn6H.out.1 (fun ad h => ⟨Nat.le_trans hgD.out.below.size (hn6H.out.2.2 ad h).1, (hn6H.out.2.2 ad h).2⟩) (by have := hlenH.out; rw [List.length_append]; omega) hlenH.out.2.2; clear hown6 hgb6 hn6 hit6 hpl6)
            refine hK.out _ _ ?_ (fun hHeld => ?_)
            · (try dsimp only); first | with_reducible exact hKeep.out _ hgD.out | exact hKeep.out _ hgD.out | exact hk7.out | exact hk6.out.2 | exact hk6.out.1 | exact hk5.out
            clear hK K
            try simp only [Act.put, List.setIfInBounds_toArray, List.set_cons_zero, List.set_cons_succ]
            refine wpAnyH_take (i := 18) (oi := ?ois19) (v := ?vs19) ?hops19 ?hss19 ?hfs19 ?hrs19 ?hQs19 ?hys19 (by assumption) ?rests19
            case hops19 => (simp only [List.getElem?_toArray, List.getElem?_cons_zero, List.getElem?_cons_succ]; rfl)
            case hss19 => kernel_rfl
            case hfs19 => kernel_rfl
            case hrs19 => kernel_rfl
            case hQs19 => exact fun _ _ _ h => h
            case hys19 => (refine Or.inl ⟨by rfl, ?_⟩; intro w hSw; (try dsimp only at hSw); go_simp <;> with_reducible rfl)
            try simp only [Act.put, List.setIfInBounds_toArray, List.set_cons_zero, List.set_cons_succ]
            refine wpAnyH_ready (rs := [19]) (by kernel_rfl) (by simp) ?_
            refine AllReadyH.cons (o := ?ois20) ?hops20 (fun K hK => ?steps20) ?mores20
            case hops20 => (simp only [List.getElem?_toArray, List.getElem?_cons_zero, List.getElem?_cons_succ]; rfl)
            case mores20 => exact AllReadyH.nil
            go_simp
            refine hK.out _ _ ?_ (fun hHeld => ?_)
            · (try dsimp only); first | with_reducible exact hKeep.out _ hgD.out | exact hKeep.out _ hgD.out | exact hk7.out | exact hk6.out.2 | exact hk6.out.1 | exact hk5.out
            clear hK K
            try simp only [Act.put, List.setIfInBounds_toArray, List.set_cons_zero, List.set_cons_succ]
            refine wpAnyH_ready (rs := [20]) (by kernel_rfl) (by simp) ?_
            refine AllReadyH.cons (o := ?ois21) ?hops21 (fun K hK => ?steps21) ?mores21
            case hops21 => (simp only [List.getElem?_toArray, List.getElem?_cons_zero, List.getElem?_cons_succ]; rfl)
            case mores21 => exact AllReadyH.nil
            (refine step_append_t5 _ rfl (.tmp 135) (.tmp 154) rfl w1.heap.size u7 L (⟨C, cc, x.r ++ y.r, P⟩ : Itm) ⟨w6.heap.size, 0, none⟩ 1 rfl rfl hoX.out.1 hoX.out.2.1 hoX.out.2.2.1 hoX.out.2.2.2.1 hoX.out.2.2.2.2.1 hoX.out.2.2.2.2.2.size ?_; intro v7 w7 hown7 hbl7 hgb7 hob7; have hxs : Hid (xb < (w6.alloc (.cells #[.slice C (x.r.length + y.r.length) cc, .int .i64 P] 59)).heap.size ∧ xb < w6.heap.size) := by { have h1 := hR.out.2.2.2.2.2.2.1; have h2 := hj6.out.size; have h3 := hBj.out.2.2.1; refine ⟨?_, by omega⟩; simp; omega }; have hk7 : Hid ((fun w' => w'.cell? ⟨xb, 0, none⟩ = some (.slice (some ⟨rb, ro, none⟩) x.r.length x.c) ∧ w'.cell? ⟨xb, 1, none⟩ = some (.int .i64 x.n) ∧ w'.cell? ⟨yb, yo + m * 2, none⟩ = some (.slice (some ⟨qb, qo, none⟩) y.r.length y.c) ∧ w'.cell? ⟨yb, yo + m * 2 + 1, none⟩ = some (.int .i64 y.n)) w7) := ⟨(cell_other hgb7 hxs.out.1 hR.out.2.2.2.2.2.2.2).trans hk6.out.2.1, (cell_other hgb7 hxs.out.1 hR.out.2.2.2.2.2.2.2).trans hk6.out.2.2.1, (hbl7.cell (p := ⟨yb, yo + m * 2, none⟩) hybH.out).trans hk6.out.2.2.2.1, (hbl7.cell (p := ⟨yb, yo + m * 2 + 1, none⟩) hybH.out).trans hk6.out.2.2.2.2⟩; have hfin : Hid ((L ++ [(⟨C, cc, x.r ++ y.r, P⟩ : Itm)]).length ≤ k * 400 + m + 1 ∧ (L ++ [(⟨C, cc, x.r ++ y.r, P⟩ : Itm)]).map Itm.z = pairL ((a.take k).map Itm.z) (b.map Itm.z) s.c s.v ++ prs x.z (((b.take (m + 1)).map Itm.z).filter fun z : Zit => decide (atI z.1 s.v = nn)) ∧ OwnT w7 w1.heap.size v7 (L ++ [(⟨C, cc, x.r ++ y.r, P⟩ : Itm)]) ∧ Below w1.heap.size w1 w7 ∧ w7.cell? ⟨xb, 0, none⟩ = some (.slice (some ⟨rb, ro, none⟩) x.r.length x.c) ∧ w7.cell? ⟨xb, 1, none⟩ = some (.int .i64 x.n) ∧ xb < w7.heap.size ∧ v7.ownBlock ≠ some xb) := ⟨by have := hR.out.1; rw [List.length_append]; simp only [List.length_singleton]; omega, by rw [hst2.out, if_pos hq.symm, prs_append, List.map_append, hR.out.2.1, List.append_assoc]; simp [prs, Itm.z, hPH.out], hown7, hoX.out.2.2.2.2.2.trans hbl7, hk7.out.1, hk7.out.2.1, Nat.lt_of_lt_of_le hxs.out.1 hgb7.size, by rcases hob7 with e | e <;> rw [e]; exact hR.out.2.2.2.2.2.2.2; intro e2; injection e2 with e2; have := hxs.out.2; simp at e2; omega⟩; clear hown7 hbl7 hgb7 hob7)
            refine hK.out _ _ ?_ (fun hHeld => ?_)
            · (try dsimp only); first | with_reducible exact hKeep.out _ hgD.out | exact hKeep.out _ hgD.out | exact hk7.out | exact hk6.out.2 | exact hk6.out.1 | exact hk5.out
            clear hK K
            try simp only [Act.put, List.setIfInBounds_toArray, List.set_cons_zero, List.set_cons_succ]
            refine wpAnyH_take (i := 21) (oi := ?ois22) (v := ?vs22) ?hops22 ?hss22 ?hfs22 ?hrs22 ?hQs22 ?hys22 (by assumption) ?rests22
            case hops22 => (simp only [List.getElem?_toArray, List.getElem?_cons_zero, List.getElem?_cons_succ]; rfl)
            case hss22 => kernel_rfl
            case hfs22 => kernel_rfl
            case hrs22 => kernel_rfl
            case hQs22 => exact fun _ _ _ h => h
            case hys22 => (refine Or.inl ⟨by rfl, ?_⟩; intro w hSw; (try dsimp only at hSw); go_simp <;> with_reducible rfl)
            try simp only [Act.put, List.setIfInBounds_toArray, List.set_cons_zero, List.set_cons_succ]
            refine wpAnyH_done (by kernel_rfl) ?_ _
            refine NoPanic.normal ?_
            go_wp2
            go_roundw
            case rel => exact ⟨m + 1, L ++ [(⟨C, cc, x.r ++ y.r, P⟩ : Itm)], by omega, by go_num, hfin⟩
            case measure => simp [intOf]; omega
          · have hq2 : (nn == vv) = false := beq_eq_false_iff_ne.2 hq
            have hfil : Hid (((b.take (m + 1)).map Itm.z).filter (fun z : Zit => decide (atI z.1 s.v = nn)) = ((b.take m).map Itm.z).filter (fun z : Zit => decide (atI z.1 s.v = nn))) := by show _ = _; rw [hst2.out, if_neg (fun e => hq e.symm), List.append_nil]
            have hfinG : Hid (∀ W, Gr wi W → (L.length ≤ k * 400 + m + 1 ∧ L.map Itm.z = pairL ((a.take k).map Itm.z) (b.map Itm.z) s.c s.v ++ prs x.z (((b.take (m + 1)).map Itm.z).filter fun z : Zit => decide (atI z.1 s.v = nn)) ∧ OwnT W w1.heap.size u7 L ∧ Below w1.heap.size w1 W ∧ W.cell? ⟨xb, 0, none⟩ = some (.slice (some ⟨rb, ro, none⟩) x.r.length x.c) ∧ W.cell? ⟨xb, 1, none⟩ = some (.int .i64 x.n) ∧ xb < W.heap.size ∧ u7.ownBlock ≠ some xb)) := fun W hg => ⟨by have := hR.out.1; omega, by rw [hfil.out]; exact hR.out.2.1, hR.out.2.2.1.gr hg, hR.out.2.2.2.1.trans (hg.below.mono hR.out.2.2.2.1.size), (hg.cell (p := ⟨xb, 0, none⟩) hR.out.2.2.2.2.2.2.1).trans hR.out.2.2.2.2.1, (hg.cell (p := ⟨xb, 1, none⟩) hR.out.2.2.2.2.2.2.1).trans hR.out.2.2.2.2.2.1, Nat.lt_of_lt_of_le hR.out.2.2.2.2.2.2.1 hg.below.size, hR.out.2.2.2.2.2.2.2⟩
            go_wp2
            go_quiet (fail)
            go_wp2
            go_roundw
            case rel => exact ⟨m + 1, L, by omega, by go_num, hfinG.out _ (gr_drewN _ _)⟩
            case measure => simp [intOf]; omega
        · have hltz2 : ¬ (m : Int) < (b.length : Int) := by omega
          have hke : b.take m = b := List.take_of_length_le (by omega)
          have hfin : Hid (L.length ≤ (k + 1) * 400 ∧ L.map Itm.z = pairL ((a.take (k + 1)).map Itm.z) (b.map Itm.z) s.c s.v ∧ OwnT wi w1.heap.size u7 L ∧ Below w1.heap.size w1 wi) := by
            have h1 := hR.out.1
            have h2 := hR.out.2.1
            rw [hke] at h2
            exact ⟨by rw [Nat.succ_mul]; omega, by rw [hst.out]; exact h2, hR.out.2.2.1, hR.out.2.2.2.1⟩
          clear hke
          go_wp2
          go_roundw
          case rel => exact ⟨k + 1, L, by omega, by go_num, rfl, hfin⟩
          case measure => simp [intOf]; omega
    · have hltz : ¬ (k : Int) < (a.length : Int) := by omega
      have hke : a.take k = a := List.take_of_length_le (by omega)
      have k0 : wr.cell? ⟨X, 0, none⟩ = some (.int .i64 4) := by rw [hSt.out.c0, hH.out.2.2.2.1]
      have hfin : Hid (L.map Itm.z = pairL (a.map Itm.z) (b.map Itm.z) s.c s.v ∧ ∃ A2 cap2, u7 = .slice A2 L.length cap2 ∧ Items wr A2 L ∧ Below w.heap.size w wr) := by
        obtain ⟨A2, cap2, hv2, _, hit, _⟩ := hR.out.2.2.1.items
        exact ⟨by have := hR.out.2.1; rw [hke] at this; exact this, A2, cap2, hv2, hit, hH.out.2.1.below.trans (hR.out.2.2.2.mono hH.out.2.1.below.size)⟩
      clear hke
      go_wp2_with fail
      refine Calls.mono (show Calls _ _ _ _ _ from onceN wr) ?_
      rintro e w4 ⟨C4, cp4, rfl, hb4⟩
      have hfin2 : Hid (L.map Itm.z = pairL (a.map Itm.z) (b.map Itm.z) s.c s.v ∧ ∃ A2 cap2, u7 = .slice A2 L.length cap2 ∧ Items w4 A2 L ∧ Below w.heap.size w w4) := by
        obtain ⟨h1, A2, cap2, h2, h3, h4⟩ := hfin.out
        exact ⟨h1, A2, cap2, h2, h3.below hb4, h4.trans (hb4.mono h4.size)⟩
      clear hb4
      go_wp2
      obtain ⟨uu, huu⟩ : ∃ uu, u7 = uu := ⟨_, rfl⟩
      rw [huu] at hfin2
      go_loopw [7, 15] (fun u i wq => u = uu ∧ i = .int .i64 0 ∧ wq = w4) (fun _ _ _ => 0)
      case atStart => exact ⟨huu, rfl, rfl⟩
      case round =>
        obtain ⟨rfl, rfl, rfl⟩ := hrel
        obtain ⟨h1, A2, cap2, rfl, h3, h4⟩ := hfin2.out
        have hfin3 : Hid (L.map Itm.z = pairL (a.map Itm.z) (b.map Itm.z) s.c s.v ∧ _ ∧ _) := ⟨h1, h3, h4⟩
        clear h1 h3 h4
        go_wp2
        go_ret
        exact ⟨L, A2, cap2, rfl, hfin3.out.1, hfin3.out.2.1, hfin3.out.2.2⟩
end Go.Proofs.YtoanlaedkpkpnaaGreatDoor

namespace Go.Proofs.YtoanlaedkpkpnaaGreatDoor
open Go.RowKit Go.Sort

set_option maxRecDepth 100000 in
set_option maxHeartbeats 1000000 in
theorem made5 (s : Stp) (a b : List Itm) (A B : Option Addr) (ca cb : Nat) (w : World) (hk : s.k = 5) (hl : a.length ≤ 400) (ha : Items w A a) (hB : Lv w B cb b) (hbl : b.length ≤ 400) :
    Calls Tryz.prog 37 #[.agg #[.int .i64 s.k, .int .i64 s.a, .int .i64 s.b, .int .i64 s.c, .int .i64 s.o, .int .i64 s.v, .slice s.p s.l.length s.n], .slice A a.length ca, .slice B b.length cb] w fun e w' => ∃ (L : List Itm) (C : Option Addr) (k : Nat), e = .returned (.slice C L.length k) ∧ L.map Itm.z = a.map Itm.z ++ b.map Itm.z ∧ Items w' C L ∧ Below w.heap.size w w' := by
  have hS0 := StAt.new w s
  have hg0 : Gr w (w.alloc (.cells #[.int .i64 s.k, .int .i64 s.a, .int .i64 s.b, .int .i64 s.c, .int .i64 s.o, .int .i64 s.v, .slice s.p s.l.length s.n] 64)) := (Gr.refl w).alloc _
  obtain ⟨w1, hw1⟩ : ∃ w1, w.alloc (.cells #[.int .i64 s.k, .int .i64 s.a, .int .i64 s.b, .int .i64 s.c, .int .i64 s.o, .int .i64 s.v, .slice s.p s.l.length s.n] 64) = w1 := ⟨_, rfl⟩
  rw [hw1] at hS0 hg0
  obtain ⟨X, hX⟩ : ∃ X, w.heap.size = X := ⟨_, rfl⟩
  have hH : Hid (StAt w1 X s ∧ Gr w w1 ∧ Items w1 A a ∧ s.k = 5 ∧ w.heap.size = X ∧ Lv w1 B cb b) := ⟨hX ▸ hS0, hg0, ha.gr hg0, hk, hX, hB.gr hg0⟩
  clear hS0 hg0 ha hk hB
  go_enter Tryz.func37, Tryz.ntmps37
  go_wp2
  try rw [hw1]
  try rw [hX]
  clear hw1 hX
  go_loopw [7, 8, 9] (fun u v i wr => ∃ (k : Nat), k ≤ a.length ∧ i = .int .i64 k ∧ v = .slice none 0 0 ∧ Hid (OwnG encT 2 59 wr w1.heap.size u (a.take k) ∧ Below w1.heap.size w1 wr)) (fun _ _ i _ => a.length - (intOf i).toNat)
  case atStart => exact ⟨0, Nat.zero_le _, rfl, rfl, OwnG.nil _ _ _ _ _, Below.refl _ _⟩
  case round =>
    obtain ⟨k, hk, rfl, rfl, hR⟩ := hrel
    have hSt : Hid (StAt wr X s) := hH.out.1.below hR.out.2
    by_cases hlt : k < a.length
    · have hltz : (k : Int) < (a.length : Int) := by omega
      have hI : Hid (Items wr A a) := hH.out.2.2.1.below hR.out.2
      obtain ⟨bb, off, rfl, hb, hcs⟩ := hI.out.at hlt
      obtain ⟨x, hx⟩ : ∃ x, a[k] = x := ⟨_, rfl⟩
      obtain ⟨e0, e1⟩ := hcs k hlt
      rw [hx] at e0 e1
      have hst : Hid (a.take (k + 1) = a.take k ++ [x]) := by show _ = _; rw [List.take_succ_eq_append_getElem hlt, hx]
      have hgX : Hid (Gr wr (wr.alloc (.cells #[.slice x.p x.r.length x.c, .int .i64 x.n] 59))) := (Gr.refl _).alloc _
      have k0 : (wr.alloc (.cells #[.slice x.p x.r.length x.c, .int .i64 x.n] 59)).cell? ⟨X, 0, none⟩ = some (.int .i64 5) := by rw [hgX.out.cell (p := ⟨X, 0, none⟩) hSt.out.lt, hSt.out.c0, hH.out.2.2.2.1]
      clear hcs hx
      have hoX : Hid (OwnG encT 2 59 ((wr.alloc (.cells #[.slice x.p x.r.length x.c, .int .i64 x.n] 59)).alloc (.cells #[.slice x.p x.r.length x.c, .int .i64 x.n] 59)) w1.heap.size u7 (a.take k) ∧ RowG encT 2 ((wr.alloc (.cells #[.slice x.p x.r.length x.c, .int .i64 x.n] 59)).alloc (.cells #[.slice x.p x.r.length x.c, .int .i64 x.n] 59)) (some ⟨wr.heap.size + 1, 0, none⟩) [x] ∧ (a.take k).length + [x].length ≤ maxLen ∧ ((a.take k).length + [x].length) * 32 ≤ 140737488355328 ∧ Below w1.heap.size w1 ((wr.alloc (.cells #[.slice x.p x.r.length x.c, .int .i64 x.n] 59)).alloc (.cells #[.slice x.p x.r.length x.c, .int .i64 x.n] 59))) := by
        have hLk : (a.take k).length ≤ 400 := by rw [List.length_take]; omega
        have h1 : [x].length = 1 := rfl
        exact ⟨hR.out.1.gr (hgX.out.alloc _), rowNewT (by simp) x _, by unfold maxLen; omega, by omega, hR.out.2.trans ((hgX.out.alloc _).below.mono hR.out.2.size)⟩
      go_wp2_with (at_builtin; refine wpList_append_ts _ rfl _ _ rfl w1.heap.size u7 (a.take k) [x] (some ⟨wr.heap.size + 1, 0, none⟩) 1 rfl rfl hoX.out.1 hoX.out.2.1 (fun h => by cases h) hoX.out.2.2.1 hoX.out.2.2.2.1 hoX.out.2.2.2.2.size ?_; intro v3 w3 hown3 hg3)
      have hfin : Hid (OwnG encT 2 59 w3 w1.heap.size v3 (a.take (k + 1)) ∧ Below w1.heap.size w1 w3) := ⟨by rw [hst.out]; exact hown3, hoX.out.2.2.2.2.trans (hoX.out.1.grown_below hg3 hoX.out.2.2.2.2.size)⟩
      clear hown3 hg3
      go_wp2
      go_roundw
      case rel => exact ⟨k + 1, by omega, by go_num, rfl, hfin⟩
      case measure => simp [intOf]; omega
    · have hltz : ¬ (k : Int) < (a.length : Int) := by omega
      have hke : a.take k = a := List.take_of_length_le (by omega)
      rw [hke] at hR
      have k0 : wr.cell? ⟨X, 0, none⟩ = some (.int .i64 5) := by rw [hSt.out.c0, hH.out.2.2.2.1]
      have hB : Hid (Lv wr B cb b) := hH.out.2.2.2.2.2.below hR.out.2
      clear hke
      have hsz : Hid (a.length + b.length ≤ maxLen ∧ (a.length + b.length) * 32 ≤ 140737488355328) := ⟨by unfold maxLen; omega, by omega⟩
      go_wp2_with (at_builtin; refine wpList_append_ts _ rfl _ _ rfl w1.heap.size u7 a b B cb rfl rfl hR.out.1 hB.out.items.row hB.out.nil hsz.out.1 hsz.out.2 hR.out.2.size ?_; intro v3 w3 hown3 hg3)
      have hfin : Hid ((a ++ b).map Itm.z = a.map Itm.z ++ b.map Itm.z ∧ ∃ A2 cap2, v3 = .slice A2 (a ++ b).length cap2 ∧ Items w3 A2 (a ++ b) ∧ Below w.heap.size w w3) := by
        obtain ⟨A2, cap2, hv2, _, hit, _, _, _⟩ := OwnG.full encT_len hown3
        have hb3 := hR.out.1.grown_below hg3 hR.out.2.size
        have hb13 := hR.out.2.trans hb3
        refine ⟨List.map_append .., A2, cap2, hv2, ⟨hit, fun y hy => ?_⟩, hH.out.2.1.below.trans (hb13.mono hH.out.2.1.below.size)⟩
        rcases List.mem_append.1 hy with h | h
        · exact (hH.out.2.2.1.below hb13).each y h
        · exact (hH.out.2.2.2.2.2.below hb13).items.each y h
      clear hown3 hg3
      refine Calls.mono (show Calls _ _ _ _ _ from onceN w3) ?_
      rintro e w4 ⟨C4, cp4, rfl, hb4⟩
      have hfin2 : Hid ((a ++ b).map Itm.z = a.map Itm.z ++ b.map Itm.z ∧ ∃ A2 cap2, v3 = .slice A2 (a ++ b).length cap2 ∧ Items w4 A2 (a ++ b) ∧ Below w.heap.size w w4) := by
        obtain ⟨h1, A2, cap2, h2, h3, h4⟩ := hfin.out
        exact ⟨h1, A2, cap2, h2, h3.below hb4, h4.trans (hb4.mono h4.size)⟩
      clear hb4
      go_wp2
      obtain ⟨uu, huu⟩ : ∃ uu, v3 = uu := ⟨_, rfl⟩
      rw [huu] at hfin2
      go_loopw [7, 15] (fun u i wq => u = uu ∧ i = .int .i64 0 ∧ wq = w4) (fun _ _ _ => 0)
      case atStart => exact ⟨huu, rfl, rfl⟩
      case round =>
        obtain ⟨rfl, rfl, rfl⟩ := hrel
        obtain ⟨h1, A2, cap2, rfl, h3, h4⟩ := hfin2.out
        have hfin3 : Hid ((a ++ b).map Itm.z = a.map Itm.z ++ b.map Itm.z ∧ _ ∧ _) := ⟨h1, h3, h4⟩
        clear h1 h3 h4
        go_wp2
        go_ret
        exact ⟨(a ++ b), A2, cap2, rfl, hfin3.out.1, hfin3.out.2.1, hfin3.out.2.2⟩
end Go.Proofs.YtoanlaedkpkpnaaGreatDoor

namespace Go.Proofs.YtoanlaedkpkpnaaGreatDoor
open Go.RowKit Go.Sort

set_option maxRecDepth 100000 in
set_option maxHeartbeats 1000000 in
theorem made6 (s : Stp) (a b : List Itm) (A B : Option Addr) (ca cb : Nat) (w : World) (hk : s.k = 6) (hl : a.length ≤ 400) (ha : Items w A a) (hB : Lv w B cb b) (hbl : b.length ≤ 400) (hbw : ∀ x ∈ b, okW x.n = true) :
    Calls Tryz.prog 37 #[.agg #[.int .i64 s.k, .int .i64 s.a, .int .i64 s.b, .int .i64 s.c, .int .i64 s.o, .int .i64 s.v, .slice s.p s.l.length s.n], .slice A a.length ca, .slice B b.length cb] w fun e w' => ∃ (L : List Itm) (C : Option Addr) (k : Nat), e = .returned (.slice C L.length k) ∧ L.map Itm.z = a.map Itm.z ++ negP (b.map Itm.z) ∧ Items w' C L ∧ Below w.heap.size w w' := by
  have hS0 := StAt.new w s
  have hg0 : Gr w (w.alloc (.cells #[.int .i64 s.k, .int .i64 s.a, .int .i64 s.b, .int .i64 s.c, .int .i64 s.o, .int .i64 s.v, .slice s.p s.l.length s.n] 64)) := (Gr.refl w).alloc _
  obtain ⟨w1, hw1⟩ : ∃ w1, w.alloc (.cells #[.int .i64 s.k, .int .i64 s.a, .int .i64 s.b, .int .i64 s.c, .int .i64 s.o, .int .i64 s.v, .slice s.p s.l.length s.n] 64) = w1 := ⟨_, rfl⟩
  rw [hw1] at hS0 hg0
  obtain ⟨X, hX⟩ : ∃ X, w.heap.size = X := ⟨_, rfl⟩
  have hH : Hid (StAt w1 X s ∧ Gr w w1 ∧ Items w1 A a ∧ s.k = 6 ∧ w.heap.size = X ∧ Lv w1 B cb b ∧ ∀ x ∈ b, okW x.n = true) := ⟨hX ▸ hS0, hg0, ha.gr hg0, hk, hX, hB.gr hg0, hbw⟩
  clear hS0 hg0 ha hk hB hbw
  go_enter Tryz.func37, Tryz.ntmps37
  go_wp2
  try rw [hw1]
  try rw [hX]
  clear hw1 hX
  go_loopw [7, 8, 9] (fun u v i wr => ∃ (k : Nat), k ≤ a.length ∧ i = .int .i64 k ∧ v = .slice none 0 0 ∧ Hid (OwnG encT 2 59 wr w1.heap.size u (a.take k) ∧ Below w1.heap.size w1 wr)) (fun _ _ i _ => a.length - (intOf i).toNat)
  case atStart => exact ⟨0, Nat.zero_le _, rfl, rfl, OwnG.nil _ _ _ _ _, Below.refl _ _⟩
  case round =>
    obtain ⟨k, hk, rfl, rfl, hR⟩ := hrel
    have hSt : Hid (StAt wr X s) := hH.out.1.below hR.out.2
    by_cases hlt : k < a.length
    · have hltz : (k : Int) < (a.length : Int) := by omega
      have hI : Hid (Items wr A a) := hH.out.2.2.1.below hR.out.2
      obtain ⟨bb, off, rfl, hb, hcs⟩ := hI.out.at hlt
      obtain ⟨x, hx⟩ : ∃ x, a[k] = x := ⟨_, rfl⟩
      obtain ⟨e0, e1⟩ := hcs k hlt
      rw [hx] at e0 e1
      have hst : Hid (a.take (k + 1) = a.take k ++ [x]) := by show _ = _; rw [List.take_succ_eq_append_getElem hlt, hx]
      have hgX : Hid (Gr wr (wr.alloc (.cells #[.slice x.p x.r.length x.c, .int .i64 x.n] 59))) := (Gr.refl _).alloc _
      have k0 : (wr.alloc (.cells #[.slice x.p x.r.length x.c, .int .i64 x.n] 59)).cell? ⟨X, 0, none⟩ = some (.int .i64 6) := by rw [hgX.out.cell (p := ⟨X, 0, none⟩) hSt.out.lt, hSt.out.c0, hH.out.2.2.2.1]
      clear hcs hx
      have hoX : Hid (OwnG encT 2 59 ((wr.alloc (.cells #[.slice x.p x.r.length x.c, .int .i64 x.n] 59)).alloc (.cells #[.slice x.p x.r.length x.c, .int .i64 x.n] 59)) w1.heap.size u7 (a.take k) ∧ RowG encT 2 ((wr.alloc (.cells #[.slice x.p x.r.length x.c, .int .i64 x.n] 59)).alloc (.cells #[.slice x.p x.r.length x.c, .int .i64 x.n] 59)) (some ⟨wr.heap.size + 1, 0, none⟩) [x] ∧ (a.take k).length + [x].length ≤ maxLen ∧ ((a.take k).length + [x].length) * 32 ≤ 140737488355328 ∧ Below w1.heap.size w1 ((wr.alloc (.cells #[.slice x.p x.r.length x.c, .int .i64 x.n] 59)).alloc (.cells #[.slice x.p x.r.length x.c, .int .i64 x.n] 59))) := by
        have hLk : (a.take k).length ≤ 400 := by rw [List.length_take]; omega
        have h1 : [x].length = 1 := rfl
        exact ⟨hR.out.1.gr (hgX.out.alloc _), rowNewT (by simp) x _, by unfold maxLen; omega, by omega, hR.out.2.trans ((hgX.out.alloc _).below.mono hR.out.2.size)⟩
      go_wp2_with (at_builtin; refine wpList_append_ts _ rfl _ _ rfl w1.heap.size u7 (a.take k) [x] (some ⟨wr.heap.size + 1, 0, none⟩) 1 rfl rfl hoX.out.1 hoX.out.2.1 (fun h => by cases h) hoX.out.2.2.1 hoX.out.2.2.2.1 hoX.out.2.2.2.2.size ?_; intro v3 w3 hown3 hg3)
      have hfin : Hid (OwnG encT 2 59 w3 w1.heap.size v3 (a.take (k + 1)) ∧ Below w1.heap.size w1 w3) := ⟨by rw [hst.out]; exact hown3, hoX.out.2.2.2.2.trans (hoX.out.1.grown_below hg3 hoX.out.2.2.2.2.size)⟩
      clear hown3 hg3
      go_wp2
      go_roundw
      case rel => exact ⟨k + 1, by omega, by go_num, rfl, hfin⟩
      case measure => simp [intOf]; omega
    · have hltz : ¬ (k : Int) < (a.length : Int) := by omega
      have hke : a.take k = a := List.take_of_length_le (by omega)
      rw [hke] at hR
      have k0 : wr.cell? ⟨X, 0, none⟩ = some (.int .i64 6) := by rw [hSt.out.c0, hH.out.2.2.2.1]
      have hB : Hid (Lv wr B cb b) := hH.out.2.2.2.2.2.1.below hR.out.2
      clear hke
      have hm0 := rminusX b B cb wr hbl hH.out.2.2.2.2.2.2 hB.out.items
      have hm : Hid _ := hm0
      clear hm0
      go_wp2_with fail
      refine Calls.mono (show Calls _ _ _ _ _ from hm.out) ?_
      rintro e w2 ⟨M, MC, mk, rfl, hMz, hMl, hMb, hMs⟩
      have hM : Hid (M.map Itm.z = negP (b.map Itm.z) ∧ Lv w2 MC mk M ∧ Below w1.heap.size w1 w2 ∧ OwnG encT 2 59 w2 w1.heap.size u7 a) := ⟨hMz, hMl, hR.out.2.trans (hMb.mono hR.out.2.size), hR.out.1.below hMb⟩
      have hMsH : Hid (∀ y ∈ M, ∃ x ∈ b, y = ⟨x.p, x.c, x.r, -x.n⟩) := hMs
      have hsz : Hid (a.length + M.length ≤ maxLen ∧ (a.length + M.length) * 32 ≤ 140737488355328) := by
        have h1 := congrArg List.length hMz
        unfold negP at h1
        simp only [List.length_map] at h1
        exact ⟨by unfold maxLen; omega, by omega⟩
      clear hm hMz hMl hMb hMs
      go_wp2_with (at_builtin; refine wpList_append_ts _ rfl _ _ rfl w1.heap.size u7 a M MC mk rfl rfl hM.out.2.2.2 hM.out.2.1.items.row hM.out.2.1.nil hsz.out.1 hsz.out.2 hM.out.2.2.1.size ?_; intro v3 w3 hown3 hg3)
      have hfin : Hid ((a ++ M).map Itm.z = a.map Itm.z ++ negP (b.map Itm.z) ∧ ∃ A2 cap2, v3 = .slice A2 (a ++ M).length cap2 ∧ Items w3 A2 (a ++ M) ∧ Below w.heap.size w w3) := by
        obtain ⟨A2, cap2, hv2, _, hit, _, _, _⟩ := OwnG.full encT_len hown3
        have hb3 := hM.out.2.2.2.grown_below hg3 hM.out.2.2.1.size
        have hb13 := hM.out.2.2.1.trans hb3
        refine ⟨by rw [List.map_append, hM.out.1], A2, cap2, hv2, ⟨hit, fun y hy => ?_⟩, hH.out.2.1.below.trans (hb13.mono hH.out.2.1.below.size)⟩
        rcases List.mem_append.1 hy with h | h
        · exact (hH.out.2.2.1.below hb13).each y h
        · obtain ⟨x, hx, rfl⟩ := hMsH.out y h
          exact (hH.out.2.2.2.2.2.1.below hb13).items.each x hx
      clear hown3 hg3
      refine Calls.mono (show Calls _ _ _ _ _ from onceN w3) ?_
      rintro e w4 ⟨C4, cp4, rfl, hb4⟩
      have hfin2 : Hid ((a ++ M).map Itm.z = a.map Itm.z ++ negP (b.map Itm.z) ∧ ∃ A2 cap2, v3 = .slice A2 (a ++ M).length cap2 ∧ Items w4 A2 (a ++ M) ∧ Below w.heap.size w w4) := by
        obtain ⟨h1, A2, cap2, h2, h3, h4⟩ := hfin.out
        exact ⟨h1, A2, cap2, h2, h3.below hb4, h4.trans (hb4.mono h4.size)⟩
      clear hb4
      go_wp2
      obtain ⟨uu, huu⟩ : ∃ uu, v3 = uu := ⟨_, rfl⟩
      rw [huu] at hfin2
      go_loopw [7, 15] (fun u i wq => u = uu ∧ i = .int .i64 0 ∧ wq = w4) (fun _ _ _ => 0)
      case atStart => exact ⟨huu, rfl, rfl⟩
      case round =>
        obtain ⟨rfl, rfl, rfl⟩ := hrel
        obtain ⟨h1, A2, cap2, rfl, h3, h4⟩ := hfin2.out
        have hfin3 : Hid ((a ++ M).map Itm.z = a.map Itm.z ++ negP (b.map Itm.z) ∧ _ ∧ _) := ⟨h1, h3, h4⟩
        clear h1 h3 h4
        go_wp2
        go_ret
        exact ⟨(a ++ M), A2, cap2, rfl, hfin3.out.1, hfin3.out.2.1, hfin3.out.2.2⟩
end Go.Proofs.YtoanlaedkpkpnaaGreatDoor
