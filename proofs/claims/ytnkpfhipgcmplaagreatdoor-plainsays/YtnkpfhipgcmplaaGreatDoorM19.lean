/-
  viewref.made of pick.
  plain.join.
  viewref.made of join.
-/
import Derived.Test.YtnkpfhipgcmplaaGreatDoorM17
import Derived.Test.YtnkpfhipgcmplaaGreatDoorM18
import Derived.Deep.RegionHeld3
import Derived.Test.YtnkpfhipgcmplaaGreatDoorM15
namespace Go.Proofs.YtnkpfhipgcmplaaGreatDoor
open Go.RowKit Go.Sort Go.Maps

set_option maxRecDepth 100000 in
set_option maxHeartbeats 1000000 in
theorem made3 (s : Stp) (a b : List Itm) (A B : Option Addr) (ca cb : Nat) (w : World) (hk : s.k = 3) (hl : a.length ≤ 400) (ha : Items w A a) (hcl : s.l.length ≤ 8) (hrl : RowI w s.p s.l) (hc : ∀ x ∈ a, ∀ c ∈ s.l, inB c 0 ((x.r.length : Int) - 1) = true) :
    Calls Tryz.prog 56 #[.agg #[.int .i64 s.k, .int .i64 s.a, .int .i64 s.b, .int .i64 s.c, .int .i64 s.o, .int .i64 s.v, .slice s.p s.l.length s.n], .slice A a.length ca, .slice B b.length cb] w fun e w' => ∃ (L : List Itm) (C : Option Addr) (k : Nat), e = .returned (.slice C L.length k) ∧ L.map Itm.z = pickL (a.map Itm.z) s.l ∧ Items w' C L ∧ Below w.heap.size w w' := by
  have mixed : Tryz.prog.follows .mixedOrders = true := by kernel_rfl
  have hS0 := StAt.new w s
  have hg0 : Gr w (w.alloc (.cells #[.int .i64 s.k, .int .i64 s.a, .int .i64 s.b, .int .i64 s.c, .int .i64 s.o, .int .i64 s.v, .slice s.p s.l.length s.n] 88)) := (Gr.refl w).alloc _
  obtain ⟨w1, hw1⟩ : ∃ w1, w.alloc (.cells #[.int .i64 s.k, .int .i64 s.a, .int .i64 s.b, .int .i64 s.c, .int .i64 s.o, .int .i64 s.v, .slice s.p s.l.length s.n] 88) = w1 := ⟨_, rfl⟩
  rw [hw1] at hS0 hg0
  obtain ⟨X, hX⟩ : ∃ X, w.heap.size = X := ⟨_, rfl⟩
  have hH : Hid (StAt w1 X s ∧ Gr w w1 ∧ Items w1 A a ∧ s.k = 3 ∧ w.heap.size = X ∧ RowI w1 s.p s.l ∧ ∀ x ∈ a, ∀ c ∈ s.l, inB c 0 ((x.r.length : Int) - 1) = true) := ⟨hX ▸ hS0, hg0, ha.gr hg0, hk, hX, hrl.gr hg0, hc⟩
  clear hS0 hg0 ha hk hrl hc
  go_enter Tryz.func56, Tryz.ntmps56
  go_wp2
  try rw [hw1]
  try rw [hX]
  clear hw1 hX
  go_loopw [7, 8, 9] (fun u v i wr => ∃ (k : Nat) (L : List Itm), k ≤ a.length ∧ i = .int .i64 k ∧ v = .slice none 0 0 ∧ Hid (L.length = k ∧ L.map Itm.z = pickL ((a.take k).map Itm.z) s.l ∧ OwnT wr w1.heap.size u L ∧ Below w1.heap.size w1 wr)) (fun _ _ i _ => a.length - (intOf i).toNat)
  case atStart => exact ⟨0, [], Nat.zero_le _, rfl, rfl, rfl, rfl, OwnT.nil _ _, Below.refl _ _⟩
  case round =>
    obtain ⟨k, L, hk, rfl, rfl, hR⟩ := hrel
    have hSt : Hid (StAt wr X s) := hH.out.1.below hR.out.2.2.2
    by_cases hlt : k < a.length
    · have hltz : (k : Int) < (a.length : Int) := by omega
      have hI : Hid (Items wr A a ∧ RowI wr s.p s.l) := ⟨hH.out.2.2.1.below hR.out.2.2.2, hH.out.2.2.2.2.2.1.below hR.out.2.2.2⟩
      obtain ⟨bb, off, rfl, hb, hcs⟩ := hI.out.1.at hlt
      obtain ⟨x, hx⟩ : ∃ x, a[k] = x := ⟨_, rfl⟩
      obtain ⟨e0, e1⟩ := hcs k hlt
      rw [hx] at e0 e1
      have hxm : Hid (x ∈ a) := by show _ ∈ _; rw [← hx]; exact List.getElem_mem hlt
      have hst : Hid (pickL ((a.take (k + 1)).map Itm.z) s.l = pickL ((a.take k).map Itm.z) s.l ++ [(pickR s.l x.r, x.n)]) := by show _ = _; rw [pick_take hlt, hx]
      have hgX : Hid (Gr wr (wr.alloc (.cells #[.slice x.p x.r.length x.c, .int .i64 x.n] 66))) := (Gr.refl _).alloc _
      obtain ⟨wX, hwX⟩ : ∃ wX, (wr.alloc (.cells #[.slice x.p x.r.length x.c, .int .i64 x.n] 66)) = wX := ⟨_, rfl⟩
      have y0 : Hid (wX.cell? ⟨wr.heap.size, 0, none⟩ = some (.slice x.p x.r.length x.c) ∧ wX.cell? ⟨wr.heap.size, 1, none⟩ = some (.int .i64 x.n) ∧ wr.heap.size < wX.heap.size) := by rw [← hwX]; exact ⟨box1 (Gr.refl _) rfl, box1 (Gr.refl _) rfl, by simp⟩
      have k0 : wX.cell? ⟨X, 0, none⟩ = some (.int .i64 3) := by rw [← hwX, hgX.out.cell (p := ⟨X, 0, none⟩) hSt.out.lt, hSt.out.c0, hH.out.2.2.2.1]
      rw [hwX] at hgX
      clear hcs hx
      go_wp2
      clear hwX
      obtain ⟨xb, hxb⟩ : ∃ xb, wr.heap.size = xb := ⟨_, rfl⟩
      have hRx : Hid (RowI wX x.p x.r ∧ RowI wX s.p s.l ∧ StAt wX X s) := ⟨(hI.out.1.each x hxm.out).1.gr hgX.out, hI.out.2.gr hgX.out, hSt.out.below hgX.out.below⟩
      rw [hxb] at y0 ⊢
      clear hxb e0 e1 hb k0
      have hO : Hid (OwnT wX w1.heap.size u7 L ∧ Below w1.heap.size w1 wX ∧ L.length = k ∧ L.map Itm.z = pickL ((a.take k).map Itm.z) s.l) := ⟨hR.out.2.2.1.gr hgX.out, hR.out.2.2.2.trans (hgX.out.below.mono hR.out.2.2.2.size), hR.out.1, hR.out.2.1⟩
      have hcx : Hid (∀ c ∈ s.l, inB c 0 ((x.r.length : Int) - 1) = true) := hH.out.2.2.2.2.2.2 x hxm.out
      clear hR hgX hI hSt
      go_loopw [12, 13] (fun u i wi => ∃ m : Nat, m ≤ s.l.length ∧ i = .int .i64 m ∧ Hid (OwnI wi wX.heap.size u (pickR (s.l.take m) x.r) ∧ Below wX.heap.size wX wi)) (fun _ i _ => s.l.length - (intOf i).toNat)
      case atStart => exact ⟨0, Nat.zero_le _, rfl, OwnG.nil _ _ _ _ _, Below.refl _ _⟩
      case round =>
        rename World => wi
        obtain ⟨m, hm, rfl, hS⟩ := hrel
        have hlenP : (pickR (s.l.take m) x.r).length ≤ 8 := by unfold pickR; simp; omega
        have z6 : wi.cell? ⟨X, 6, none⟩ = some (.slice s.p s.l.length s.n) := (hRx.out.2.2.below hS.out.2).c6
        by_cases hlt2 : m < s.l.length
        · have hltz2 : (m : Int) < (s.l.length : Int) := by omega
          obtain ⟨b2, off2, hsp, hb2, hc2⟩ := hRx.out.2.1.at hlt2
          obtain ⟨c, hcc⟩ : ∃ c, s.l[m] = c := ⟨_, rfl⟩
          have e2 : wX.cell? ⟨b2, off2 + m, none⟩ = some (.int .i64 c) := by
            have := hc2 m hlt2 0 (by omega)
            rw [hcc] at this
            simpa [encI] using this
          have hst2 : Hid (pickR (s.l.take (m + 1)) x.r = pickR (s.l.take m) x.r ++ [atI x.r c]) := by show _ = _; rw [pickR_take hlt2, hcc]
          obtain ⟨rb, ro, cn, hp, hrb, hcn, hcl2, hcell⟩ := rowI_atI hRx.out.1 (hcx.out c (by rw [← hcc]; exact List.getElem_mem hlt2))
          obtain ⟨nn, hnn⟩ : ∃ nn, atI x.r c = nn := ⟨_, rfl⟩
          rw [hnn] at hcell hst2
          have hcz : (cn : Int) < (x.r.length : Int) := by omega
          obtain rfl := hcn
          have hKB : Hid (∀ W', Below wX.heap.size wX W' → (fun w' => w'.cell? ⟨xb, 0, none⟩ = some (.slice (some ⟨rb, ro, none⟩) x.r.length x.c) ∧ w'.cell? ⟨X, 6, none⟩ = some (.slice (some ⟨b2, off2, none⟩) s.l.length s.n) ∧ w'.cell? ⟨b2, off2 + m, none⟩ = some (.int .i64 cn) ∧ w'.cell? ⟨rb, ro + cn, none⟩ = some (.int .i64 nn)) W') := fun W' h => ⟨by rw [h.cell (p := ⟨xb, 0, none⟩) y0.out.2.2, y0.out.1, hp], by rw [h.cell (p := ⟨X, 6, none⟩) hRx.out.2.2.lt, hRx.out.2.2.c6, hsp], (h.cell (p := ⟨b2, off2 + m, none⟩) hb2).trans e2, (h.cell (p := ⟨rb, ro + cn, none⟩) hrb).trans hcell⟩
          rw [hsp] at z6
          clear hc2 hcc hp hnn hcl2 hcell e2 hsp hb2 hrb
          have hgD : Hid (Gr wi wi.drew) := (Gr.refl _).drew
          have hKeep : Hid (∀ W', Gr wi W' → (fun w' => w'.cell? ⟨xb, 0, none⟩ = some (.slice (some ⟨rb, ro, none⟩) x.r.length x.c) ∧ w'.cell? ⟨X, 6, none⟩ = some (.slice (some ⟨b2, off2, none⟩) s.l.length s.n) ∧ w'.cell? ⟨b2, off2 + m, none⟩ = some (.int .i64 cn) ∧ w'.cell? ⟨rb, ro + cn, none⟩ = some (.int .i64 nn)) W') := fun W' h => hKB.out W' (hS.out.2.trans (h.below.mono hS.out.2.size))
          have hoX : Hid (OwnI (wi.drew.alloc (.cells #[.int .i64 nn] 3)) wX.heap.size u12 (pickR (s.l.take m) x.r) ∧ RowI (wi.drew.alloc (.cells #[.int .i64 nn] 3)) (some ⟨wi.drew.heap.size, 0, none⟩) [nn] ∧ (pickR (s.l.take m) x.r).length + [nn].length ≤ maxLen ∧ ((pickR (s.l.take m) x.r).length + [nn].length) * 8 ≤ 140737488355328 ∧ Below wX.heap.size wX (wi.drew.alloc (.cells #[.int .i64 nn] 3))) := by
            have hg : Gr wi (wi.drew.alloc (.cells #[.int .i64 nn] 3)) := hgD.out.alloc _
            have h1 : [nn].length = 1 := rfl
            exact ⟨hS.out.1.gr hg, rowNewI rfl nn _, by unfold maxLen; omega, by omega, hS.out.2.trans (hg.below.mono hS.out.2.size)⟩
          have hKeep2 : Hid (∀ W', (wi.drew.alloc (.cells #[.int .i64 nn] 3)).grownBy W' u12.ownBlock → (fun w' => w'.cell? ⟨xb, 0, none⟩ = some (.slice (some ⟨rb, ro, none⟩) x.r.length x.c) ∧ w'.cell? ⟨X, 6, none⟩ = some (.slice (some ⟨b2, off2, none⟩) s.l.length s.n) ∧ w'.cell? ⟨b2, off2 + m, none⟩ = some (.int .i64 cn) ∧ w'.cell? ⟨rb, ro + cn, none⟩ = some (.int .i64 nn)) W') := fun W' h => hKB.out W' (hoX.out.2.2.2.2.trans (hoX.out.1.grown_below h hoX.out.2.2.2.2.size))
          go_wp2
          refine wp_region_noPanic ?_
          refine wp_region_held_drew (S := (fun w' => w'.cell? ⟨xb, 0, none⟩ = some (.slice (some ⟨rb, ro, none⟩) x.r.length x.c) ∧ w'.cell? ⟨X, 6, none⟩ = some (.slice (some ⟨b2, off2, none⟩) s.l.length s.n) ∧ w'.cell? ⟨b2, off2 + m, none⟩ = some (.int .i64 cn) ∧ w'.cell? ⟨rb, ro + cn, none⟩ = some (.int .i64 nn))) (by kernel_rfl) (hKeep.out _ hgD.out) (fun hHeld => ?_)
          refine wpAnyH_take (i := 0) (oi := ?ois1) (v := ?vs1) ?hops1 ?hss1 ?hfs1 ?hrs1 ?hQs1 ?hys1 (by assumption) ?rests1
          case hops1 => (simp only [List.getElem?_toArray, List.getElem?_cons_zero]; rfl)
          case hss1 => kernel_rfl
          case hfs1 => kernel_rfl
          case hrs1 => kernel_rfl
          case hQs1 => exact fun _ _ _ h => h
          case hys1 => (refine Or.inl ⟨by rfl, ?_⟩; intro w hSw; (try dsimp only at hSw); go_simp <;> with_reducible rfl)
          try simp only [Act.put, List.setIfInBounds_toArray, List.set_cons_zero, List.set_cons_succ]
          refine wpAnyH_take (i := 1) (oi := ?ois2) (v := ?vs2) ?hops2 ?hss2 ?hfs2 ?hrs2 ?hQs2 ?hys2 (by assumption) ?rests2
          case hops2 => (simp only [List.getElem?_toArray, List.getElem?_cons_zero, List.getElem?_cons_succ]; rfl)
          case hss2 => kernel_rfl
          case hfs2 => kernel_rfl
          case hrs2 => kernel_rfl
          case hQs2 => exact fun _ _ _ h => h
          case hys2 => (refine Or.inl ⟨by rfl, ?_⟩; intro w hSw; (try dsimp only at hSw); go_simp <;> with_reducible rfl)
          try simp only [Act.put, List.setIfInBounds_toArray, List.set_cons_zero, List.set_cons_succ]
          refine wpAnyH_take (i := 2) (oi := ?ois3) (v := ?vs3) ?hops3 ?hss3 ?hfs3 ?hrs3 ?hQs3 ?hys3 (by assumption) ?rests3
          case hops3 => (simp only [List.getElem?_toArray, List.getElem?_cons_zero, List.getElem?_cons_succ]; rfl)
          case hss3 => kernel_rfl
          case hfs3 => kernel_rfl
          case hrs3 => kernel_rfl
          case hQs3 => exact fun _ _ _ h => h
          case hys3 => (refine Or.inl ⟨by rfl, ?_⟩; intro w hSw; (try dsimp only at hSw); go_simp <;> with_reducible rfl)
          try simp only [Act.put, List.setIfInBounds_toArray, List.set_cons_zero, List.set_cons_succ]
          refine wpAnyH_take (i := 3) (oi := ?ois4) (v := ?vs4) ?hops4 ?hss4 ?hfs4 ?hrs4 ?hQs4 ?hys4 (by assumption) ?rests4
          case hops4 => (simp only [List.getElem?_toArray, List.getElem?_cons_zero, List.getElem?_cons_succ]; rfl)
          case hss4 => kernel_rfl
          case hfs4 => kernel_rfl
          case hrs4 => kernel_rfl
          case hQs4 => exact fun _ _ _ h => h
          case hys4 => (refine Or.inl ⟨by rfl, ?_⟩; intro w hSw; (try dsimp only at hSw); go_simp <;> with_reducible rfl)
          try simp only [Act.put, List.setIfInBounds_toArray, List.set_cons_zero, List.set_cons_succ]
          refine wpAnyH_take (i := 4) (oi := ?ois5) (v := ?vs5) ?hops5 ?hss5 ?hfs5 ?hrs5 ?hQs5 ?hys5 (by assumption) ?rests5
          case hops5 => (simp only [List.getElem?_toArray, List.getElem?_cons_zero, List.getElem?_cons_succ]; rfl)
          case hss5 => kernel_rfl
          case hfs5 => kernel_rfl
          case hrs5 => kernel_rfl
          case hQs5 => exact fun _ _ _ h => h
          case hys5 => (refine Or.inl ⟨by rfl, ?_⟩; intro w hSw; (try dsimp only at hSw); go_simp <;> with_reducible rfl)
          try simp only [Act.put, List.setIfInBounds_toArray, List.set_cons_zero, List.set_cons_succ]
          refine wpAnyH_take (i := 5) (oi := ?ois6) (v := ?vs6) ?hops6 ?hss6 ?hfs6 ?hrs6 ?hQs6 ?hys6 (by assumption) ?rests6
          case hops6 => (simp only [List.getElem?_toArray, List.getElem?_cons_zero, List.getElem?_cons_succ]; rfl)
          case hss6 => kernel_rfl
          case hfs6 => kernel_rfl
          case hrs6 => kernel_rfl
          case hQs6 => exact fun _ _ _ h => h
          case hys6 => (refine Or.inl ⟨by rfl, ?_⟩; intro w hSw; (try dsimp only at hSw); go_simp <;> with_reducible rfl)
          try simp only [Act.put, List.setIfInBounds_toArray, List.set_cons_zero, List.set_cons_succ]
          refine wpAnyH_take (i := 6) (oi := ?ois7) (v := ?vs7) ?hops7 ?hss7 ?hfs7 ?hrs7 ?hQs7 ?hys7 (by assumption) ?rests7
          case hops7 => (simp only [List.getElem?_toArray, List.getElem?_cons_zero, List.getElem?_cons_succ]; rfl)
          case hss7 => kernel_rfl
          case hfs7 => kernel_rfl
          case hrs7 => kernel_rfl
          case hQs7 => exact fun _ _ _ h => h
          case hys7 => (refine Or.inl ⟨by rfl, ?_⟩; intro w hSw; (try dsimp only at hSw); go_simp <;> with_reducible rfl)
          try simp only [Act.put, List.setIfInBounds_toArray, List.set_cons_zero, List.set_cons_succ]
          refine wpAnyH_take (i := 7) (oi := ?ois8) (v := ?vs8) ?hops8 ?hss8 ?hfs8 ?hrs8 ?hQs8 ?hys8 (by assumption) ?rests8
          case hops8 => (simp only [List.getElem?_toArray, List.getElem?_cons_zero, List.getElem?_cons_succ]; rfl)
          case hss8 => kernel_rfl
          case hfs8 => kernel_rfl
          case hrs8 => kernel_rfl
          case hQs8 => exact fun _ _ _ h => h
          case hys8 => (refine Or.inl ⟨by rfl, ?_⟩; intro w hSw; (try dsimp only at hSw); go_simp <;> with_reducible rfl)
          try simp only [Act.put, List.setIfInBounds_toArray, List.set_cons_zero, List.set_cons_succ]
          refine wpAnyH_take (i := 8) (oi := ?ois9) (v := ?vs9) ?hops9 ?hss9 ?hfs9 ?hrs9 ?hQs9 ?hys9 (by assumption) ?rests9
          case hops9 => (simp only [List.getElem?_toArray, List.getElem?_cons_zero, List.getElem?_cons_succ]; rfl)
          case hss9 => kernel_rfl
          case hfs9 => kernel_rfl
          case hrs9 => kernel_rfl
          case hQs9 => exact fun _ _ _ h => h
          case hys9 => (refine Or.inl ⟨by rfl, ?_⟩; intro w hSw; (try dsimp only at hSw); go_simp <;> with_reducible rfl)
          try simp only [Act.put, List.setIfInBounds_toArray, List.set_cons_zero, List.set_cons_succ]
          refine wpAnyH_take (i := 9) (oi := ?ois10) (v := ?vs10) ?hops10 ?hss10 ?hfs10 ?hrs10 ?hQs10 ?hys10 (by assumption) ?rests10
          case hops10 => (simp only [List.getElem?_toArray, List.getElem?_cons_zero, List.getElem?_cons_succ]; rfl)
          case hss10 => kernel_rfl
          case hfs10 => kernel_rfl
          case hrs10 => kernel_rfl
          case hQs10 => exact fun _ _ _ h => h
          case hys10 => (refine Or.inl ⟨by rfl, ?_⟩; intro w hSw; (try dsimp only at hSw); go_simp <;> with_reducible rfl)
          try simp only [Act.put, List.setIfInBounds_toArray, List.set_cons_zero, List.set_cons_succ]
          refine wpAnyH_ready (rs := [10]) (by kernel_rfl) (by simp) ?_
          refine AllReadyH.cons (o := ?ois11) ?hops11 (fun K hK => ?steps11) ?mores11
          case hops11 => (simp only [List.getElem?_toArray, List.getElem?_cons_zero, List.getElem?_cons_succ]; rfl)
          case mores11 => exact AllReadyH.nil
          go_simp
          refine hK.out _ _ ?_ (fun hHeld => ?_)
          · (try dsimp only); first | with_reducible exact hKeep.out _ hgD.out | exact hKeep.out _ (hgD.out.alloc _) | with_reducible exact hKeep.out _ (hgD.out.alloc _) | exact hk4.out
          clear hK K
          try simp only [Act.put, List.setIfInBounds_toArray, List.set_cons_zero, List.set_cons_succ]
          refine wpAnyH_ready (rs := [11]) (by kernel_rfl) (by simp) ?_
          refine AllReadyH.cons (o := ?ois12) ?hops12 (fun K hK => ?steps12) ?mores12
          case hops12 => (simp only [List.getElem?_toArray, List.getElem?_cons_zero, List.getElem?_cons_succ]; rfl)
          case mores12 => exact AllReadyH.nil
          (refine step_append_i2 _ rfl (.tmp 92) (.tmp 102) rfl wX.heap.size u12 (pickR (s.l.take m) x.r) [nn] (some ⟨wi.drew.heap.size, 0, none⟩) 1 rfl rfl hoX.out.1 hoX.out.2.1 (fun h => by cases h) hoX.out.2.2.1 hoX.out.2.2.2.1 hoX.out.2.2.2.2.size ?_; intro v4 w4 hown4 hgb4; have hk4 : Hid ((fun w' => w'.cell? ⟨xb, 0, none⟩ = some (.slice (some ⟨rb, ro, none⟩) x.r.length x.c) ∧ w'.cell? ⟨X, 6, none⟩ = some (.slice (some ⟨b2, off2, none⟩) s.l.length s.n) ∧ w'.cell? ⟨b2, off2 + m, none⟩ = some (.int .i64 cn) ∧ w'.cell? ⟨rb, ro + cn, none⟩ = some (.int .i64 nn)) w4) := hKeep2.out w4 hgb4; have hfin : Hid (OwnI w4 wX.heap.size v4 (pickR (s.l.take (m + 1)) x.r) ∧ Below wX.heap.size wX w4) := ⟨by rw [hst2.out]; exact hown4, hoX.out.2.2.2.2.trans (hoX.out.1.grown_below hgb4 hoX.out.2.2.2.2.size)⟩; clear hown4 hgb4)
          refine hK.out _ _ ?_ (fun hHeld => ?_)
          · (try dsimp only); first | with_reducible exact hKeep.out _ hgD.out | exact hKeep.out _ (hgD.out.alloc _) | with_reducible exact hKeep.out _ (hgD.out.alloc _) | exact hk4.out
          clear hK K
          try simp only [Act.put, List.setIfInBounds_toArray, List.set_cons_zero, List.set_cons_succ]
          refine wpAnyH_take (i := 12) (oi := ?ois13) (v := ?vs13) ?hops13 ?hss13 ?hfs13 ?hrs13 ?hQs13 ?hys13 (by assumption) ?rests13
          case hops13 => (simp only [List.getElem?_toArray, List.getElem?_cons_zero, List.getElem?_cons_succ]; rfl)
          case hss13 => kernel_rfl
          case hfs13 => kernel_rfl
          case hrs13 => kernel_rfl
          case hQs13 => exact fun _ _ _ h => h
          case hys13 => (refine Or.inl ⟨by rfl, ?_⟩; intro w hSw; (try dsimp only at hSw); go_simp <;> with_reducible rfl)
          try simp only [Act.put, List.setIfInBounds_toArray, List.set_cons_zero, List.set_cons_succ]
          refine wpAnyH_done (by kernel_rfl) ?_ _
          refine NoPanic.normal ?_
          go_wp2
          go_roundw
          case rel => exact ⟨m + 1, by omega, by go_num, hfin⟩
          case measure => simp [intOf]; omega
        · have hltz2 : ¬ (m : Int) < (s.l.length : Int) := by omega
          have hke : s.l.take m = s.l := List.take_of_length_le (by omega)
          rw [hke] at hS hlenP
          have z1 : wi.cell? ⟨xb, 1, none⟩ = some (.int .i64 x.n) := (hS.out.2.cell (p := ⟨xb, 1, none⟩) y0.out.2.2).trans y0.out.2.1
          obtain ⟨C, cc, hv2, hn2, hit, hpl⟩ := hS.out.1.row encI_len
          obtain ⟨PR, hPR⟩ : ∃ PR, pickR s.l x.r = PR := ⟨_, rfl⟩
          rw [hPR] at hst hS hv2 hit hlenP
          subst hv2
          have hbW : Hid (Below w1.heap.size w1 wi ∧ w1.heap.size ≤ wX.heap.size) := ⟨hO.out.2.1.trans (hS.out.2.mono hO.out.2.1.size), hO.out.2.1.size⟩
          have hoX : Hid (OwnT (wi.alloc (.cells #[.slice C PR.length cc, .int .i64 x.n] 66)) w1.heap.size u7 L ∧ RowG encT 2 (wi.alloc (.cells #[.slice C PR.length cc, .int .i64 x.n] 66)) (some ⟨wi.heap.size, 0, none⟩) [⟨C, cc, PR, x.n⟩] ∧ Apart (wi.alloc (.cells #[.slice C PR.length cc, .int .i64 x.n] 66)) w1.heap.size u7.ownBlock ⟨C, cc, PR, x.n⟩ ∧ L.length + 1 ≤ maxLen ∧ (L.length + 1) * 32 ≤ 140737488355328 ∧ Below w1.heap.size w1 (wi.alloc (.cells #[.slice C PR.length cc, .int .i64 x.n] 66))) := by
            have hLk := hO.out.2.2.1
            refine ⟨(hO.out.1.below hS.out.2).gr ((Gr.refl _).alloc _), rowNewT rfl ⟨C, cc, PR, x.n⟩ _, ⟨hit.gr ((Gr.refl _).alloc _), Nat.le_trans hlenP (by decide), hn2, fun a ha => ⟨?_, ?_, ?_⟩⟩, by unfold maxLen; omega, by omega, hbW.out.1.alloc hbW.out.1.size _⟩
            · have h1 := (hpl a ha).1
              have h2 := hbW.out.2
              omega
            · have h1 := (hpl a ha).2
              simp; omega
            · intro e
              have h1 := (World.ownsRow.lt hO.out.1.own a.block e).2
              have h2 := (hpl a ha).1
              omega
          clear hke hit hn2 hpl hPR
          go_wp2_with (at_builtin; refine wpList_append_t _ rfl _ _ rfl w1.heap.size u7 L ⟨C, cc, PR, x.n⟩ ⟨wi.heap.size, 0, none⟩ 1 rfl rfl hoX.out.1 hoX.out.2.1 hoX.out.2.2.1 hoX.out.2.2.2.1 hoX.out.2.2.2.2.1 hoX.out.2.2.2.2.2.size ?_; intro v3 w3 hown3 hg3)
          have hfin : Hid ((L ++ [(⟨C, cc, PR, x.n⟩ : Itm)]).length = k + 1 ∧ (L ++ [(⟨C, cc, PR, x.n⟩ : Itm)]).map Itm.z = pickL ((a.take (k + 1)).map Itm.z) s.l ∧ OwnT w3 w1.heap.size v3 (L ++ [⟨C, cc, PR, x.n⟩]) ∧ Below w1.heap.size w1 w3) :=
            ⟨by have := hO.out.2.2.1; simp; omega, by rw [hst.out, List.map_append, hO.out.2.2.2]; rfl, hown3, hoX.out.2.2.2.2.2.trans hg3⟩
          clear hown3 hg3
          go_wp2
          go_roundw
          case rel => exact ⟨k + 1, L ++ [(⟨C, cc, PR, x.n⟩ : Itm)], by omega, by go_num, rfl, hfin⟩
          case measure => simp [intOf]; omega
    · have hltz : ¬ (k : Int) < (a.length : Int) := by omega
      have hke : a.take k = a := List.take_of_length_le (by omega)
      have k0 : wr.cell? ⟨X, 0, none⟩ = some (.int .i64 3) := by rw [hSt.out.c0, hH.out.2.2.2.1]
      have hfin : Hid (L.map Itm.z = pickL (a.map Itm.z) s.l ∧ ∃ A2 cap2, u7 = .slice A2 L.length cap2 ∧ Items wr A2 L ∧ Below w.heap.size w wr) := by
        obtain ⟨A2, cap2, hv2, _, hit, _⟩ := hR.out.2.2.1.items
        exact ⟨by have := hR.out.2.1; rw [hke] at this; exact this, A2, cap2, hv2, hit, hH.out.2.1.below.trans (hR.out.2.2.2.mono hH.out.2.1.below.size)⟩
      clear hke
      go_wp2_with fail
      refine Calls.mono (show Calls _ _ _ _ _ from onceN wr) ?_
      rintro e w4 ⟨C4, cp4, rfl, hb4⟩
      have hfin2 : Hid (L.map Itm.z = pickL (a.map Itm.z) s.l ∧ ∃ A2 cap2, u7 = .slice A2 L.length cap2 ∧ Items w4 A2 L ∧ Below w.heap.size w w4) := by
        obtain ⟨h1, A2, cap2, h2, h3, h4⟩ := hfin.out
        exact ⟨h1, A2, cap2, h2, h3.below hb4, h4.trans (hb4.mono h4.size)⟩
      clear hb4
      go_wp2
      obtain ⟨uu, huu⟩ : ∃ uu, u7 = uu := ⟨_, rfl⟩
      rw [huu] at hfin2
      go_loopw [7, 15] (fun u i wq => u = uu ∧ i = .int .i64 0 ∧ wq = w4) (fun _ _ _ => 0)
      case atStart => exact ⟨huu, rfl, rfl⟩
      case round =>
        obtain ⟨rfl, rfl, rfl⟩ := hrel
        obtain ⟨h1, A2, cap2, rfl, h3, h4⟩ := hfin2.out
        have hfin3 : Hid (L.map Itm.z = pickL (a.map Itm.z) s.l ∧ _ ∧ _) := ⟨h1, h3, h4⟩
        clear h1 h3 h4
        go_wp2
        go_ret
        exact ⟨L, A2, cap2, rfl, hfin3.out.1, hfin3.out.2.1, hfin3.out.2.2⟩
end Go.Proofs.YtnkpfhipgcmplaaGreatDoor

namespace Go.Proofs.YtnkpfhipgcmplaaGreatDoor
open Go.RowKit Go.Sort Go.Maps

theorem ownsMap_below {w w' : World} {H : Type} {k : TypeId} {R : Value → Option (DataW H × List MemPlace)} {b n : Nat} {D : DataW H} (h : w.ownsMap Tryz.prog k R b n D) (q : Below w.heap.size w w') : w'.ownsMap Tryz.prog k R b n D :=
  h.kept (row := none) ⟨q.os, q.tape, q.output, q.size, fun j hj _ => q.block j hj⟩ (by simp)
/-- What is told of pairs so far. -/
def Some401 (L : List Itm) (P : List Zit) : Prop := L.map Itm.z = P.take 401 ∧ P.all (fun x => okW x.2) = true

theorem some_more {M : List Itm} {Q : List Zit} (h : Some401 M Q) (hM : M.length ≤ 400) {y : Itm} (hy : okW y.n = true) : Some401 (M ++ [y]) (Q ++ [y.z]) := by
  have hl : Q.length ≤ 400 := by
    have := congrArg List.length h.1
    simp only [List.length_map, List.length_take] at this
    omega
  refine ⟨?_, ?_⟩
  · rw [List.map_append, h.1, List.take_of_length_le (by omega), List.take_of_length_le (by simp; omega)]
    rfl
  · rw [List.all_append, h.2]
    simpa [Itm.z] using hy
theorem some_full {M : List Itm} {Q : List Zit} (h : Some401 M Q) (hM : ¬ M.length ≤ 400) {y : Zit} (hy : okW y.2 = true) : Some401 M (Q ++ [y]) := by
  have hl : 401 ≤ Q.length := by
    have := congrArg List.length h.1
    simp only [List.length_map, List.length_take] at this
    omega
  refine ⟨?_, ?_⟩
  · rw [h.1, List.take_append_of_le_length hl]
  · rw [List.all_append, h.2]
    simpa using hy
theorem wpList_append_t5 (w : World) {ops : Array Oper} {rest : List Oper} {o : Oper} {a : Act} {Q : Exit → Act → World → Prop} (hgd : o.guard = none) (s z : Operand)
    (ho : o.op = .call { callee := .builtin .append, args := #[s, z], argTypes := #[22, 22] })
    (base : Nat) (v : Value) (l : List Itm) (x : Itm) (A : Addr) (cap : Nat) (hs : a.eval s = v) (hz : a.eval z = .slice (some A) 1 cap) (hown : OwnT w base v l) (hr : RowG encT 2 w (some A) [x]) (hx : Apart w base v.ownBlock x)
    (hml : l.length + 1 ≤ maxLen) (hb : (l.length + 1) * 32 ≤ 140737488355328) (hbase : base ≤ w.heap.size)
    (h : ∀ v' w', OwnT w' base v' (l ++ [x]) → Below base w w' → w.grownBy w' v.ownBlock → (v'.ownBlock = v.ownBlock ∨ v'.ownBlock = some w.heap.size) → wpList Tryz.prog ops Q rest (a.put o.dst v') w') : wpList Tryz.prog ops Q (o :: rest) a w :=
  wpList_plain hgd fun _ hK => by
    obtain ⟨i0, hi, hz0, hz1, hz2⟩ := info_parts Tryz.infoT
    obtain ⟨v', w', g1, g2, g3, _, g5⟩ := run_append_own_at (P := Tryz.prog) w base 22 o.type 66 i0 (.agg #[.slice none 0 0, .int .i64 0]) 2 32 Tryz.underlying22 hi hz0 hz1 hz2 rfl (by omega) v l.length (flatG encT l) hown.own A 1 cap (flatG encT [x]) (flatG_length encT_len [x]) (hr.cells encT_len (by omega)) (fun u hu => flatG_one encT_one u [x] hu) hml hb hbase
    have h2 : OwnT w' base v' (l ++ [x]) := by
      refine ⟨?_, fun y hy => ?_⟩
      · show w'.ownsRow base _ 2 v' (l ++ [x]).length (flatG encT (l ++ [x]))
        rw [List.length_append, flatG_append]
        exact g2
      · rcases List.mem_append.1 hy with k | k
        · exact (hown.each y k).grown g3 g5
        · have : y = x := by simpa using k
          subst this
          exact hx.grown g3 g5
    unfold Oper.wp execOp
    simp only [ho, resolve, invoke, builtin, Sem.run_bind, Sem.run_pure, Result.andThen_ok, List.map_toArray, List.map_cons, List.map_nil, hs, hz, g1]
    exact hK _ _ (h v' w' h2 (OwnG.grown_below hown.own g3 hbase) g3 g5)

set_option maxRecDepth 100000 in
set_option maxHeartbeats 2000000 in
theorem join_any (a b : List Itm) (A B : Option Addr) (ca cb : Nat) (c v : Int) (w : World) (hal : a.length ≤ 400) (hbl : b.length ≤ 400) (ha : Lv w A ca a) (hb : Lv w B cb b) (hc : ∀ x ∈ a, inB c 0 ((x.r.length : Int) - 1) = true) (hv : ∀ x ∈ b, inB v 0 ((x.r.length : Int) - 1) = true) (hoa : ∀ x ∈ a, okR x.r = true ∧ okW x.n = true) (hob : ∀ x ∈ b, okR x.r = true ∧ okW x.n = true) :
    Calls Tryz.prog 74 #[.slice A a.length ca, .slice B b.length cb, .int .i64 c, .int .i64 v] w fun e w' => ∃ (L : List Itm) (C : Option Addr) (k : Nat), e = .returned (.tuple #[.slice C L.length k, .int .i64 (joinE (a.map Itm.z) (b.map Itm.z) c v)]) ∧ L.map Itm.z = joinF (a.map Itm.z) (b.map Itm.z) c v ∧ Lv w' C k L ∧ Below w.heap.size w w' ∧ NewT w.heap.size C L := by
  have hH : Hid (Lv w A ca a ∧ Lv w B cb b ∧ (∀ x ∈ a, inB c 0 ((x.r.length : Int) - 1) = true) ∧ (∀ x ∈ a, okR x.r = true ∧ okW x.n = true) ∧ (∀ x ∈ b, okR x.r = true ∧ okW x.n = true)) := ⟨ha, hb, hc, hoa, hob⟩
  have hG0 := groups_any b B cb v w hbl hb.items hv (fun x hx => (hob x hx).1)
  have hG : Hid _ := hG0
  obtain ⟨E, hE⟩ : ∃ E, joinE (a.map Itm.z) (b.map Itm.z) c v = E := ⟨_, rfl⟩
  have hEH : Hid (joinE (a.map Itm.z) (b.map Itm.z) c v = E) := hE
  rw [hE]
  clear hG0 ha hb hc hv hoa hob hE
  go_enter Tryz.func74, Tryz.ntmps74
  go_wp2_with fail
  refine Calls.mono (show Calls _ _ _ _ _ from hG.out) ?_
  rintro e w1 ⟨gs, vv, D, rfl, hR0⟩
  have hR : Hid (GInv w w1 b v b.length vv gs D) := hR0
  obtain ⟨GA, gcap, hvv, _, hrow, _⟩ := hR.out.gps.own.row encP_len
  have hrw : Hid (RowG encP 2 w1 GA gs) := hrow
  subst hvv
  clear hR0 hrow hG
  have hinv : Hid (GInvL v (gs.map Grp.z) (b.map Itm.z)) := by
    show GInvL _ _ _
    have := grpL_inv (b.map Itm.z) v
    rw [← List.take_length (l := b), ← hR.out.z, List.take_length] at this
    exact this
  go_wp2
  go_loopw [12, 28] (fun u i wr => ∃ (k : Nat) (L : List Itm), k ≤ a.length ∧ i = .int .i64 k ∧ Hid (Some401 L (pairL ((a.take k).map Itm.z) (b.map Itm.z) c v) ∧ L.length ≤ 401 ∧ OwnT wr w1.heap.size u L ∧ Below w1.heap.size w1 wr)) (fun _ i _ => a.length - (intOf i).toNat)
  case atStart => exact ⟨0, [], Nat.zero_le _, rfl, ⟨rfl, rfl⟩, by simp, OwnT.nil _ _, Below.refl _ _⟩
  case round =>
    obtain ⟨k, L, hk, rfl, hS⟩ := hrel
    by_cases hlt : k < a.length
    · have hltz : (k : Int) < (a.length : Int) := by omega
      have hI : Hid (Items wr A a) := (hH.out.1.items.below hR.out.bel).below hS.out.2.2.2
      obtain ⟨bb, off, rfl, hb, hcs⟩ := hI.out.at hlt
      obtain ⟨x, hx⟩ : ∃ x, a[k] = x := ⟨_, rfl⟩
      obtain ⟨e0, e1⟩ := hcs k hlt
      rw [hx] at e0 e1
      have hxm : x ∈ a := by rw [← hx]; exact List.getElem_mem hlt
      obtain ⟨rb, ro, cn, hp, hrb, hcn, hcl, hcell⟩ := rowI_atI (hI.out.each x hxm).1 (hH.out.2.2.1 x hxm)
      have hst : Hid (pairL ((a.take (k + 1)).map Itm.z) (b.map Itm.z) c v = pairL ((a.take k).map Itm.z) (b.map Itm.z) c v ++ prs x.z ((b.map Itm.z).filter fun y => decide (atI y.1 v = atI x.r c))) := by show _ = _; rw [pair_take hlt, hx]
      have hxH : Hid (x ∈ a) := hxm
      obtain ⟨nn, hnn⟩ : ∃ nn, atI x.r c = nn := ⟨_, rfl⟩
      have hkey : keyOf Tryz.prog 3 (.int .i64 nn) = some (.int .i64 nn) := keyOf_int_mk Tryz.underlying3 (by rw [← hnn]; exact wfN (okN_at (hH.out.2.2.2.1 x hxm).1))
      rw [hnn] at hcell hst
      rw [hp] at e0
      obtain ⟨WX, hWX⟩ : ∃ WX, (wr.alloc (.cells #[.slice (some ⟨rb, ro, none⟩) x.r.length x.c, .int .i64 x.n] 66)) = WX := ⟨_, rfl⟩
      have hgX : Hid (Gr wr WX) := by show Gr _ _; rw [← hWX]; exact (Gr.refl _).alloc _
      have hbX : Hid (Below w1.heap.size w1 WX) := hS.out.2.2.2.trans (hgX.out.below.mono hS.out.2.2.2.size)
      have y0 : WX.cell? ⟨rb, ro + cn, none⟩ = some (.int .i64 nn) := (hgX.out.below.cell (p := ⟨rb, ro + cn, none⟩) hrb).trans hcell
      have x0 : WX.cell? ⟨wr.heap.size, 0, none⟩ = some (.slice (some ⟨rb, ro, none⟩) x.r.length x.c) := by rw [← hWX]; exact box1 (Gr.refl _) rfl
      have x1 : WX.cell? ⟨wr.heap.size, 1, none⟩ = some (.int .i64 x.n) := by rw [← hWX]; exact box1 (Gr.refl _) rfl
      have hsX : wr.heap.size < WX.heap.size := by rw [← hWX]; simp
      have hcz : (cn : Int) < (x.r.length : Int) := by omega
      have hpH : Hid (x.p = some ⟨rb, ro, none⟩ ∧ RowI WX x.p x.r) := ⟨hp, (hI.out.each x hxm).1.gr hgX.out⟩
      obtain rfl := hcn
      clear hcs hx hxm hnn hp hcell hcl
      have hmp : Hid (WX.ownsMap Tryz.prog 3 (plainElem Tryz.prog 3) w.heap.size b.length D) := ownsMap_below hR.out.map hbX.out
      cases hhas : Maps.has D (.int .i64 nn)
      · have hno : Hid ((b.map Itm.z).filter (fun y => decide (atI y.1 v = nn)) = []) := by
          show _ = _
          rw [List.filter_eq_nil_iff]
          intro y hy e
          obtain ⟨g, hg, e2⟩ := hinv.out.all y hy
          obtain ⟨g', hg', rfl⟩ := List.mem_map.1 hg
          have h1 := hR.out.plc.has nn
          rw [hhas] at h1
          have := List.any_eq_false.1 h1.symm g' hg'
          simp at this
          exact this (e2.trans (by simpa using e))
        have hfin : Hid (Some401 L (pairL ((a.take (k + 1)).map Itm.z) (b.map Itm.z) cn v) ∧ L.length ≤ 401 ∧ OwnT WX w1.heap.size u12 L ∧ Below w1.heap.size w1 WX) := ⟨by rw [hst.out, hno.out]; simpa [prs] using hS.out.1, hS.out.2.1, hS.out.2.2.1.gr hgX.out, hbX.out⟩
        go_wp2_with (first
          | (at_lookup; refine wpList_lookup_own_ok_int _ rfl _ _ 123 rfl 3 3 .i64 lawI Tryz.underlying123 Tryz.underlying3 (zeroI _) w.heap.size b.length _ rfl hmp.out _ _ rfl hkey ?_; intro c' hat' hwc)
          | fail)
        go_roundw
        case rel => exact ⟨k + 1, L, by omega, by go_num, hfin⟩
        case measure => simp [intOf]; omega
      · obtain ⟨i, hi_, hin, hatB⟩ := hR.out.plc.find hhas
        have hatH : Hid (D.atKey (.int .i64 nn) (.lit (.int .i64 0)) = .lit (.int .i64 i)) := hatB
        obtain ⟨G, gof, hGA, hGb, hgc⟩ := hrw.out.at hi_
        subst hGA
        obtain ⟨g, hg⟩ : ∃ g, gs[i] = g := ⟨_, rfl⟩
        have g1 : WX.cell? ⟨G, gof + i * 2 + 1, none⟩ = some (.slice g.p g.l.length g.c) := by
          have := hgc i hi_ 1 (by omega)
          rw [hg] at this
          exact (hbX.out.cell (p := ⟨G, gof + i * 2 + 1, none⟩) hGb).trans (by simpa [encP, Grp.v] using this)
        have hiz : (i : Int) < (gs.length : Int) := by omega
        have hgm : Hid (g ∈ gs) := by show _ ∈ _; rw [← hg]; exact List.getElem_mem hi_
        have hgl : Hid (g.l.map Itm.z = (b.map Itm.z).filter fun y => decide (atI y.1 v = nn)) := by
          have := hinv.out.pick g.z (List.mem_map.2 ⟨g, hgm.out, rfl⟩)
          have hn : g.z.1 = nn := by rw [← hin, hg]; rfl
          rw [hn] at this
          exact this
        have hg4 : g.l.length ≤ 400 := Nat.le_trans (hR.out.sub g hgm.out).1 hbl
        clear hgc hg hi_ hin hatB
        go_wp2_with (first
          | (at_lookup; refine wpList_lookup_own_ok_int _ rfl _ _ 123 rfl 3 3 .i64 lawI Tryz.underlying123 Tryz.underlying3 (zeroI _) w.heap.size b.length _ rfl hmp.out _ _ rfl hkey ?_; intro c' hat' hwc; (obtain rfl : c' = (i : Int) := by (rw [hatH.out] at hat'; cases hat'; rfl)))
          | fail)
        obtain ⟨xb, hxb⟩ : ∃ xb, wr.heap.size = xb := ⟨_, rfl⟩
        have hub : Hid (∀ b, u12.ownBlock = some b → b ≠ xb) := fun b hb e => by have := (World.ownsRow.lt hS.out.2.2.1.own b hb).2; omega
        obtain ⟨P, hP⟩ : ∃ P, pairL ((a.take k).map Itm.z) (b.map Itm.z) cn v = P := ⟨_, rfl⟩
        have hO : Hid (Some401 L P ∧ L.length ≤ 401 ∧ OwnT WX w1.heap.size u12 L ∧ pairL ((a.take (k + 1)).map Itm.z) (b.map Itm.z) cn v = P ++ prs x.z (g.l.map Itm.z)) := ⟨by rw [← hP]; exact hS.out.1, hS.out.2.1, hS.out.2.2.1.gr hgX.out, by rw [hst.out, hP, hgl.out]⟩
        have hxW : Hid (okR x.r = true ∧ okW x.n = true) := hH.out.2.2.2.1 x hxH.out
        rw [hxb] at x0 x1 hsX ⊢
        clear hmp hhas hat' hwc hkey y0 hS hst hgX hxb hWX hI
        go_loopw [12, 50] (fun u i wi => ∃ (m : Nat) (M : List Itm), m ≤ g.l.length ∧ i = .int .i64 m ∧ Hid (Some401 M (P ++ prs x.z ((g.l.take m).map Itm.z)) ∧ M.length ≤ 401 ∧ OwnT wi w1.heap.size u M ∧ Below w1.heap.size w1 wi ∧ (∀ b, u.ownBlock = some b → b ≠ xb) ∧ wi.cell? ⟨xb, 0, none⟩ = some (.slice (some ⟨rb, ro, none⟩) x.r.length x.c) ∧ wi.cell? ⟨xb, 1, none⟩ = some (.int .i64 x.n) ∧ xb < wi.heap.size)) (fun _ i _ => g.l.length - (intOf i).toNat)
        case atStart => exact ⟨0, L, Nat.zero_le _, rfl, by simpa [prs] using hO.out.1, hO.out.2.1, hO.out.2.2.1, hbX.out, hub.out, x0, x1, hsX⟩
        case round =>
          obtain ⟨m, M, hm, rfl, hJ⟩ := hrel
          by_cases hlt2 : m < g.l.length
          · have hltz2 : (m : Int) < (g.l.length : Int) := by omega
            have hIy : Hid (Items wr g.p g.l) := hR.out.items hH.out.2.1.items hJ.out.2.2.2.1 hgm.out
            obtain ⟨yb, yof, hyp, hyb, hycs⟩ := hIy.out.at hlt2
            obtain ⟨y, hy⟩ : ∃ y, g.l[m] = y := ⟨_, rfl⟩
            obtain ⟨e2, e3⟩ := hycs m hlt2
            rw [hy] at e2 e3
            have hym : Hid (y ∈ g.l) := by show _ ∈ _; rw [← hy]; exact List.getElem_mem hlt2
            have hyW : Hid (okR y.r = true ∧ okW y.n = true) := hH.out.2.2.2.2 y ((hR.out.sub g hgm.out).2 y hym.out)
            have hst2 : Hid (P ++ prs x.z ((g.l.take (m + 1)).map Itm.z) = (P ++ prs x.z ((g.l.take m).map Itm.z)) ++ [(x.r ++ y.r, x.n * y.n)]) := by show _ = _; rw [prs_take hlt2, hy, List.append_assoc]; rfl
            have hbad : Hid (okW (x.n * y.n) = false → E = 5 ∧ joinF (a.map Itm.z) (b.map Itm.z) cn v = []) := fun hn => by
              have hin : ((x.r ++ y.r, x.n * y.n) : Zit) ∈ pairL (a.map Itm.z) (b.map Itm.z) cn v := by
                refine pair_sub (k := k + 1) _ _ _ ?_
                rw [hO.out.2.2.2]
                exact List.mem_append.2 (Or.inr (List.mem_map.2 ⟨y.z, List.mem_map.2 ⟨y, hym.out, rfl⟩, rfl⟩))
              have hE5 : joinE (a.map Itm.z) (b.map Itm.z) cn v = 5 := by
                unfold joinE
                rw [if_neg]
                intro h
                have := List.all_eq_true.1 h _ hin
                rw [hn] at this
                cases this
              exact ⟨by rw [← hEH.out, hE5], by unfold joinF; rw [if_neg (by rw [hE5]; decide)]⟩
            have hmb : -1125899906842624 ≤ x.n * y.n ∧ x.n * y.n ≤ 1125899906842624 := by
              have h1 := hxW.out.2
              have h2 := hyW.out.2
              simp only [okW, inB, Bool.and_eq_true, decide_eq_true_eq] at h1 h2
              exact mul_bound (x := x.n) (y := y.n) ⟨by omega, by omega⟩ h2
            have hw1 : IntKind.i64.wrap (x.n * y.n) = x.n * y.n := by rw [IntKind.wrap_i64]; omega
            obtain ⟨WY, hWY⟩ : ∃ WY, (wr.alloc (.cells #[.slice y.p y.r.length y.c, .int .i64 y.n] 66)) = WY := ⟨_, rfl⟩
            have hgY : Hid (Gr wr WY) := by show Gr _ _; rw [← hWY]; exact (Gr.refl _).alloc _
            have z0 : WY.cell? ⟨wr.heap.size, 0, none⟩ = some (.slice y.p y.r.length y.c) := by rw [← hWY]; exact box1 (Gr.refl _) rfl
            have z1 : WY.cell? ⟨wr.heap.size, 1, none⟩ = some (.int .i64 y.n) := by rw [← hWY]; exact box1 (Gr.refl _) rfl
            have hsY : wr.heap.size < WY.heap.size := by rw [← hWY]; simp
            have k0 : WY.cell? ⟨xb, 0, none⟩ = some (.slice (some ⟨rb, ro, none⟩) x.r.length x.c) := (hgY.out.below.cell (p := ⟨xb, 0, none⟩) hJ.out.2.2.2.2.2.2.2).trans hJ.out.2.2.2.2.2.1
            have k1 : WY.cell? ⟨xb, 1, none⟩ = some (.int .i64 x.n) := (hgY.out.below.cell (p := ⟨xb, 1, none⟩) hJ.out.2.2.2.2.2.2.2).trans hJ.out.2.2.2.2.2.2.1
            have hbY : Hid (Below w1.heap.size w1 WY) := hJ.out.2.2.2.1.trans (hgY.out.below.mono hJ.out.2.2.2.1.size)
            have hB5 : Hid (Below w.heap.size w WY) := hR.out.bel.trans (hbY.out.mono hR.out.bel.size)
            obtain ⟨N, hN⟩ : ∃ N, x.n * y.n = N := ⟨_, rfl⟩
            rw [hN] at hw1 hst2 hbad hmb
            have hNH : Hid (x.n * y.n = N) := hN
            rw [hyp]
            clear hycs hy
            by_cases hn1 : N < -1048576
            · have hfin : Hid (E = 5 ∧ joinF (a.map Itm.z) (b.map Itm.z) cn v = []) := hbad.out (by simp [okW, inB]; omega)
              go_wp2
              go_ret2
              exact ⟨[], none, 0, by rw [hfin.out.1]; rfl, by rw [hfin.out.2]; rfl, ⟨⟨Or.inl rfl, fun x hx => (by cases hx)⟩, fun _ => rfl, Nat.zero_le _⟩, hB5.out, NewT.none _⟩
            · by_cases hn2 : 1048576 < N
              · have hfin : Hid (E = 5 ∧ joinF (a.map Itm.z) (b.map Itm.z) cn v = []) := hbad.out (by simp [okW, inB]; omega)
                go_wp2
                go_ret2
                exact ⟨[], none, 0, by rw [hfin.out.1]; rfl, by rw [hfin.out.2]; rfl, ⟨⟨Or.inl rfl, fun x hx => (by cases hx)⟩, fun _ => rfl, Nat.zero_le _⟩, hB5.out, NewT.none _⟩
              · have hNok : Hid (okW N = true) := by show _ = _; simp [okW, inB]; omega
                obtain ⟨MA, mc, hmu, hmn, _, _⟩ := hJ.out.2.2.1.items
                subst hmu
                by_cases hfull : M.length ≤ 400
                · have hfz : (M.length : Int) ≤ 400 := by omega
                  obtain ⟨R, hRR⟩ : ∃ R, x.r ++ y.r = R := ⟨_, rfl⟩
                  have hx8 : x.r.length ≤ 8 := by have := hxW.out.1; simp only [okR, Bool.and_eq_true, decide_eq_true_eq] at this; exact this.1
                  have hy8 : y.r.length ≤ 8 := by have := hyW.out.1; simp only [okR, Bool.and_eq_true, decide_eq_true_eq] at this; exact this.1
                  have hcall0 := both_any x.r y.r (some ⟨rb, ro, none⟩) y.p x.c y.c WY hx8 hy8 (fun h => by cases h) (hIy.out.each y hym.out).2.2 (by rw [← hpH.out.1]; exact (((hH.out.1.items.each x hxH.out).1.below hB5.out))) ((hIy.out.each y hym.out).1.gr hgY.out)
                  rw [hRR] at hcall0 hst2
                  have hcall : Hid _ := hcall0
                  have hR16 : Hid (R.length ≤ 16) := by show _ ≤ _; rw [← hRR]; simp; omega
                  clear hcall0 hRR hx8 hy8
                  go_wp2_with fail
                  refine Calls.mono (show Calls _ _ _ _ _ from hcall.out) ?_
                  rintro e w3 ⟨C, c2, rfl, r1, r2, r3, r4⟩
                  have hb3 : Hid (Below WY.heap.size WY w3 ∧ Below w1.heap.size w1 w3) := ⟨r4, hbY.out.trans (r4.mono hbY.out.size)⟩
                  have hoX : Hid (OwnT (w3.alloc (.cells #[.slice C R.length c2, .int .i64 N] 66)) w1.heap.size (.slice MA M.length mc) M ∧ RowG encT 2 (w3.alloc (.cells #[.slice C R.length c2, .int .i64 N] 66)) (some ⟨w3.heap.size, 0, none⟩) [(⟨C, c2, R, N⟩ : Itm)] ∧ Apart (w3.alloc (.cells #[.slice C R.length c2, .int .i64 N] 66)) w1.heap.size (Value.slice MA M.length mc).ownBlock (⟨C, c2, R, N⟩ : Itm) ∧ M.length + 1 ≤ maxLen ∧ (M.length + 1) * 32 ≤ 140737488355328 ∧ Below w1.heap.size w1 (w3.alloc (.cells #[.slice C R.length c2, .int .i64 N] 66))) := by
                    have h16 := hR16.out
                    refine ⟨((hJ.out.2.2.1.gr hgY.out).below r4).gr ((Gr.refl _).alloc _), rowNewT rfl (⟨C, c2, R, N⟩ : Itm) _, ⟨r1.gr ((Gr.refl _).alloc _), Nat.le_trans h16 (by decide), r2, fun ad had => ⟨?_, ?_, ?_⟩⟩, by unfold maxLen; omega, by omega, hb3.out.2.alloc hb3.out.2.size _⟩
                    · have h1 := (r3 ad had).1
                      have h2 := hbY.out.size
                      omega
                    · have h1 := (r3 ad had).2
                      simp; omega
                    · intro e
                      have h1 := (World.ownsRow.lt hJ.out.2.2.1.own ad.block e).2
                      have h2 := (r3 ad had).1
                      omega
                  have c0 : (w3.alloc (.cells #[.slice C R.length c2, .int .i64 N] 66)).cell? ⟨xb, 0, none⟩ = some (.slice (some ⟨rb, ro, none⟩) x.r.length x.c) := (((r4.trans (((Gr.refl w3).alloc _).below.mono r4.size)).cell (p := ⟨xb, 0, none⟩) (Nat.lt_of_lt_of_le hJ.out.2.2.2.2.2.2.2 hgY.out.size)).trans k0)
                  have c1 : (w3.alloc (.cells #[.slice C R.length c2, .int .i64 N] 66)).cell? ⟨xb, 1, none⟩ = some (.int .i64 x.n) := (((r4.trans (((Gr.refl w3).alloc _).below.mono r4.size)).cell (p := ⟨xb, 1, none⟩) (Nat.lt_of_lt_of_le hJ.out.2.2.2.2.2.2.2 hgY.out.size)).trans k1)
                  have hxl3 : xb < (w3.alloc (.cells #[.slice C R.length c2, .int .i64 N] 66)).heap.size := Nat.lt_of_lt_of_le hJ.out.2.2.2.2.2.2.2 (Nat.le_trans hgY.out.size (Nat.le_trans r4.size (by simp)))
                  have hcH : Hid ((w3.alloc (.cells #[.slice C R.length c2, .int .i64 N] 66)).cell? ⟨xb, 0, none⟩ = some (.slice (some ⟨rb, ro, none⟩) x.r.length x.c) ∧ (w3.alloc (.cells #[.slice C R.length c2, .int .i64 N] 66)).cell? ⟨xb, 1, none⟩ = some (.int .i64 x.n) ∧ xb < (w3.alloc (.cells #[.slice C R.length c2, .int .i64 N] 66)).heap.size) := ⟨c0, c1, hxl3⟩
                  have q1 : w3.cell? ⟨wr.heap.size, 1, none⟩ = some (.int .i64 y.n) := (r4.cell (p := ⟨wr.heap.size, 1, none⟩) hsY).trans z1
                  clear r1 r2 r3 r4 hcall c0 c1 hxl3
                  go_wp2_with (at_builtin; refine wpList_append_t5 _ rfl _ _ rfl w1.heap.size (.slice MA M.length mc) M (⟨C, c2, R, N⟩ : Itm) ⟨w3.heap.size, 0, none⟩ 1 rfl rfl hoX.out.1 hoX.out.2.1 hoX.out.2.2.1 hoX.out.2.2.2.1 hoX.out.2.2.2.2.1 hoX.out.2.2.2.2.2.size ?_; intro v4 w4 hown4 hb4 hg4' hloc4)
                  have hfin : Hid (Some401 (M ++ [(⟨C, c2, R, N⟩ : Itm)]) (P ++ prs x.z ((g.l.take (m + 1)).map Itm.z)) ∧ (M ++ [(⟨C, c2, R, N⟩ : Itm)]).length ≤ 401 ∧ OwnT w4 w1.heap.size v4 (M ++ [(⟨C, c2, R, N⟩ : Itm)]) ∧ Below w1.heap.size w1 w4 ∧ (∀ b, v4.ownBlock = some b → b ≠ xb) ∧ w4.cell? ⟨xb, 0, none⟩ = some (.slice (some ⟨rb, ro, none⟩) x.r.length x.c) ∧ w4.cell? ⟨xb, 1, none⟩ = some (.int .i64 x.n) ∧ xb < w4.heap.size) := by
                    have hne : some xb ≠ (Value.slice MA M.length mc).ownBlock := fun e => hJ.out.2.2.2.2.1 xb e.symm rfl
                    refine ⟨by rw [hst2.out]; exact some_more (y := (⟨C, c2, R, N⟩ : Itm)) hJ.out.1 hfull hNok.out, by simp; omega, hown4, hoX.out.2.2.2.2.2.trans hb4, fun bl hbl' => ?_, (World.cell?_of_block (a := ⟨xb, 0, none⟩) (hg4'.block _ hcH.out.2.2 hne)).trans hcH.out.1, (World.cell?_of_block (a := ⟨xb, 1, none⟩) (hg4'.block _ hcH.out.2.2 hne)).trans hcH.out.2.1, Nat.lt_of_lt_of_le hcH.out.2.2 hg4'.size⟩
                    rcases hloc4 with e | e
                    · rw [e] at hbl'; exact hJ.out.2.2.2.2.1 bl hbl'
                    · rw [e] at hbl'
                      have h1 := hcH.out.2.2
                      intro e2
                      simp at hbl' h1
                      omega
                  clear hown4 hb4 hg4' hloc4
                  go_roundw
                  case rel => exact ⟨m + 1, M ++ [(⟨C, c2, R, N⟩ : Itm)], by omega, by go_num, hfin⟩
                  case measure => simp [intOf]; omega
                · have hfz : ¬ (M.length : Int) ≤ 400 := by omega
                  have hfin : Hid (Some401 M (P ++ prs x.z ((g.l.take (m + 1)).map Itm.z)) ∧ M.length ≤ 401 ∧ OwnT WY w1.heap.size (.slice MA M.length mc) M ∧ Below w1.heap.size w1 WY ∧ (∀ b, (Value.slice MA M.length mc).ownBlock = some b → b ≠ xb) ∧ WY.cell? ⟨xb, 0, none⟩ = some (.slice (some ⟨rb, ro, none⟩) x.r.length x.c) ∧ WY.cell? ⟨xb, 1, none⟩ = some (.int .i64 x.n) ∧ xb < WY.heap.size) := ⟨by rw [hst2.out]; exact some_full hJ.out.1 hfull hNok.out, hJ.out.2.1, hJ.out.2.2.1.gr hgY.out, hbY.out, hJ.out.2.2.2.2.1, k0, k1, Nat.lt_of_lt_of_le hJ.out.2.2.2.2.2.2.2 hgY.out.size⟩
                  go_wp2
                  go_roundw
                  case rel => exact ⟨m + 1, M, by omega, by go_num, hfin⟩
                  case measure => simp [intOf]; omega
          · have hltz2 : ¬ (m : Int) < (g.l.length : Int) := by omega
            have hfin : Hid (Some401 M (pairL ((a.take (k + 1)).map Itm.z) (b.map Itm.z) cn v) ∧ M.length ≤ 401 ∧ OwnT wr w1.heap.size u12 M ∧ Below w1.heap.size w1 wr) := ⟨by
              have := hJ.out.1
              rw [List.take_of_length_le (by omega)] at this
              rw [hO.out.2.2.2]; exact this, hJ.out.2.1, hJ.out.2.2.1, hJ.out.2.2.2.1⟩
            go_wp2
            go_roundw
            case rel => exact ⟨k + 1, M, by omega, by go_num, hfin⟩
            case measure => simp [intOf]; omega
    · have hltz : ¬ (k : Int) < (a.length : Int) := by omega
      obtain ⟨A2, cap2, hv2, hn2, hit, _⟩ := hS.out.2.2.1.items
      have hall : Hid (L.map Itm.z = (pairL (a.map Itm.z) (b.map Itm.z) c v).take 401 ∧ joinE (a.map Itm.z) (b.map Itm.z) c v = normE ((pairL (a.map Itm.z) (b.map Itm.z) c v).take 401)) := by
        have h1 := hS.out.1
        rw [List.take_of_length_le (by omega)] at h1
        exact ⟨h1.1, by unfold joinE; rw [if_pos h1.2]⟩
      have hN0 := normVn (W := wr) (A := A2) (c := cap2) (l := L) ⟨hit, hn2, by have := hS.out.2.1; unfold maxLen; omega⟩ hall.out.1
      have hN : Hid _ := hN0
      have hBw : Hid (Below w.heap.size w wr) := hR.out.bel.trans (hS.out.2.2.2.mono hR.out.bel.size)
      have hEn : Hid (normE ((pairL (a.map Itm.z) (b.map Itm.z) c v).take 401) = E) := by show _ = _; rw [← hall.out.2, hEH.out]
      subst hv2
      clear hit hn2 hN0
      go_wp2_with fail
      refine Calls.mono (show Calls _ _ _ _ _ from hN.out) ?_
      rintro e w2 ⟨L2, C2, k2, rfl, h1, h2, h3, h4⟩
      rw [hEn.out]
      have hfin : Hid (L2.map Itm.z = joinF (a.map Itm.z) (b.map Itm.z) c v ∧ Lv w2 C2 k2 L2 ∧ Below w.heap.size w w2 ∧ NewT w.heap.size C2 L2) := by
        refine ⟨?_, h2, hBw.out.trans (h3.mono hBw.out.size), h4.mono hBw.out.size⟩
        rw [h1]
        unfold joinF
        rw [hall.out.2]
        by_cases e : normE ((pairL (a.map Itm.z) (b.map Itm.z) c v).take 401) = 0
        · rw [if_pos e]
        · rw [if_neg e]; exact normL_no e
      clear h1 h2 h3 h4 hN
      go_wp2
      go_ret2
      exact ⟨L2, C2, k2, rfl, hfin.out.1, hfin.out.2.1, hfin.out.2.2.1, hfin.out.2.2.2⟩
end Go.Proofs.YtnkpfhipgcmplaaGreatDoor

namespace Go.Proofs.YtnkpfhipgcmplaaGreatDoor
open Go.RowKit Go.Sort Go.Maps

theorem step_append_t5 (w : World) {ops : Array Oper} {o : Oper} {a : Act} {K : Act → World → Prop} {Q : Exit → Act → World → Prop} {E : Prop} (hgd : o.guard = none) (s z : Operand)
    (ho : o.op = .call { callee := .builtin .append, args := #[s, z], argTypes := #[22, 22] })
    (base : Nat) (v : Value) (l : List Itm) (x : Itm) (A : Addr) (cap : Nat) (hs : a.eval s = v) (hz : a.eval z = .slice (some A) 1 cap) (hown : OwnT w base v l) (hr : RowG encT 2 w (some A) [x]) (hx : Apart w base v.ownBlock x)
    (hml : l.length + 1 ≤ maxLen) (hb : (l.length + 1) * 32 ≤ 140737488355328) (hbase : base ≤ w.heap.size)
    (h : ∀ v' w', OwnT w' base v' (l ++ [x]) → Below base w w' → w.grownBy w' v.ownBlock → (v'.ownBlock = v.ownBlock ∨ v'.ownBlock = some w.heap.size) → K (a.put o.dst v') w') :
    if Region.wanted o (yielded ops a.tmps) = true then Oper.wp Tryz.prog o a w K Q else E := by
  refine step_append_l w hgd s z ho base v l x A cap hs hz hown.own hr hml hb hbase fun v' w' h2 h3 h5 => ?_
  refine h v' w' ⟨h2, fun y hy => ?_⟩ (OwnG.grown_below hown.own h3 hbase) h3 h5
  rcases List.mem_append.1 hy with k | k
  · exact (hown.each y k).grown h3 h5
  · have : y = x := by simpa using k
    subst this
    exact hx.grown h3 h5
theorem cell_other {w w' : World} {row : Option Nat} {X j : Nat} (h : w.grownBy w' row) (hl : X < w.heap.size) (hX : row ≠ some X) : w'.cell? ⟨X, j, none⟩ = w.cell? ⟨X, j, none⟩ := World.cell?_of_block (a := ⟨X, j, none⟩) (h.block X hl (fun e => hX e.symm))
theorem fil_take {l : List Itm} {m : Nat} (h : m < l.length) (v nn : Int) : ((l.take (m + 1)).map Itm.z).filter (fun z : Zit => decide (atI z.1 v = nn)) = ((l.take m).map Itm.z).filter (fun z : Zit => decide (atI z.1 v = nn)) ++ (if atI l[m].r v = nn then [l[m].z] else []) := by
  rw [List.take_succ_eq_append_getElem h, List.map_append, List.filter_append]
  congr 1
  by_cases e : atI l[m].r v = nn
  · rw [if_pos e]; simp [Itm.z, e]
  · rw [if_neg e]; simp [Itm.z, e]
theorem prs_append (x : Zit) (l m : List Zit) : prs x (l ++ m) = prs x l ++ prs x m := by unfold prs; exact List.map_append ..
theorem join_new {w1 wj w6 : World} {u : Value} {L : List Itm} {C : Option Addr} {cc : Nat} {r : List Int} {P : Int} {N : Nat} (hN : r.length = N) (h1 : Below w1.heap.size w1 wj) (hown : OwnT wj w1.heap.size u L) (hj : Below wj.heap.size wj w6) (hr : RowI w6 C r) (hn : C = none → cc = 0) (hpl : ∀ ad, C = some ad → wj.heap.size ≤ ad.block ∧ ad.block < w6.heap.size) (hl : r.length ≤ 16) (hL : L.length ≤ 160400) :
    OwnT (w6.alloc (.cells #[.slice C N cc, .int .i64 P] 66)) w1.heap.size u L ∧ RowG encT 2 (w6.alloc (.cells #[.slice C N cc, .int .i64 P] 66)) (some ⟨w6.heap.size, 0, none⟩) [(⟨C, cc, r, P⟩ : Itm)] ∧ Apart (w6.alloc (.cells #[.slice C N cc, .int .i64 P] 66)) w1.heap.size u.ownBlock (⟨C, cc, r, P⟩ : Itm) ∧ L.length + 1 ≤ maxLen ∧ (L.length + 1) * 32 ≤ 140737488355328 ∧ Below w1.heap.size w1 (w6.alloc (.cells #[.slice C N cc, .int .i64 P] 66)) := by
  subst hN
  have h16 := h1.trans (hj.mono h1.size)
  have hs := h1.size
  refine ⟨(hown.below hj).gr ((Gr.refl _).alloc _), rowNewT rfl (⟨C, cc, r, P⟩ : Itm) _, ⟨hr.gr ((Gr.refl _).alloc _), Nat.le_trans hl (by decide), hn, fun ad ha => ⟨?_, ?_, ?_⟩⟩, by unfold maxLen; omega, by omega, h16.alloc h16.size _⟩
  · have := (hpl ad ha).1; omega
  · have := (hpl ad ha).2; simp; omega
  · intro e
    have h2 := (World.ownsRow.lt hown.own ad.block e).2
    have h3 := (hpl ad ha).1
    omega
theorem mul_bound2 {x y : Int} (hx : -1048576 ≤ x ∧ x ≤ 1048576) (hy : -1048576 ≤ y ∧ y ≤ 1048576) : -1125899906842624 ≤ x * y ∧ x * y ≤ 1125899906842624 := mul_bound ⟨by omega, by omega⟩ hy

set_option maxRecDepth 100000 in
set_option maxHeartbeats 1000000 in
theorem made4 (s : Stp) (a b : List Itm) (A B : Option Addr) (ca cb : Nat) (w : World) (hk : s.k = 4) (hl : a.length ≤ 400) (ha : Items w A a) (hbl : b.length ≤ 400) (hB : Items w B b) (hc : ∀ x ∈ a, inB s.c 0 ((x.r.length : Int) - 1) = true) (hv : ∀ x ∈ b, inB s.v 0 ((x.r.length : Int) - 1) = true) (hoa : ∀ x ∈ a, okR x.r = true ∧ okW x.n = true) (hob : ∀ x ∈ b, okR x.r = true ∧ okW x.n = true) :
    Calls Tryz.prog 56 #[.agg #[.int .i64 s.k, .int .i64 s.a, .int .i64 s.b, .int .i64 s.c, .int .i64 s.o, .int .i64 s.v, .slice s.p s.l.length s.n], .slice A a.length ca, .slice B b.length cb] w fun e w' => ∃ (L : List Itm) (C : Option Addr) (k : Nat), e = .returned (.slice C L.length k) ∧ L.map Itm.z = pairL (a.map Itm.z) (b.map Itm.z) s.c s.v ∧ Items w' C L ∧ Below w.heap.size w w' := by
  have mixed : Tryz.prog.follows .mixedOrders = true := by kernel_rfl
  have hS0 := StAt.new w s
  have hg0 : Gr w (w.alloc (.cells #[.int .i64 s.k, .int .i64 s.a, .int .i64 s.b, .int .i64 s.c, .int .i64 s.o, .int .i64 s.v, .slice s.p s.l.length s.n] 88)) := (Gr.refl w).alloc _
  obtain ⟨w1, hw1⟩ : ∃ w1, w.alloc (.cells #[.int .i64 s.k, .int .i64 s.a, .int .i64 s.b, .int .i64 s.c, .int .i64 s.o, .int .i64 s.v, .slice s.p s.l.length s.n] 88) = w1 := ⟨_, rfl⟩
  rw [hw1] at hS0 hg0
  obtain ⟨X, hX⟩ : ∃ X, w.heap.size = X := ⟨_, rfl⟩
  have hH : Hid (StAt w1 X s ∧ Gr w w1 ∧ Items w1 A a ∧ s.k = 4 ∧ w.heap.size = X ∧ Items w1 B b ∧ (∀ x ∈ a, inB s.c 0 ((x.r.length : Int) - 1) = true) ∧ (∀ x ∈ b, inB s.v 0 ((x.r.length : Int) - 1) = true) ∧ (∀ x ∈ a, okR x.r = true ∧ okW x.n = true) ∧ ∀ x ∈ b, okR x.r = true ∧ okW x.n = true) := ⟨hX ▸ hS0, hg0, ha.gr hg0, hk, hX, hB.gr hg0, hc, hv, hoa, hob⟩
  clear hS0 hg0 ha hk hB hc hv hoa hob
  go_enter Tryz.func56, Tryz.ntmps56
  go_wp2
  try rw [hw1]
  try rw [hX]
  clear hw1 hX
  go_loopw [7, 8, 9] (fun u v i wr => ∃ (k : Nat) (L : List Itm), k ≤ a.length ∧ i = .int .i64 k ∧ v = .slice none 0 0 ∧ Hid (L.length ≤ k * 400 ∧ L.map Itm.z = pairL ((a.take k).map Itm.z) (b.map Itm.z) s.c s.v ∧ OwnT wr w1.heap.size u L ∧ Below w1.heap.size w1 wr)) (fun _ _ i _ => a.length - (intOf i).toNat)
  case atStart => exact ⟨0, [], Nat.zero_le _, rfl, rfl, by show 0 ≤ _; omega, rfl, OwnT.nil _ _, Below.refl _ _⟩
  case round =>
    obtain ⟨k, L, hk, rfl, rfl, hR⟩ := hrel
    have hSt : Hid (StAt wr X s) := hH.out.1.below hR.out.2.2.2
    by_cases hlt : k < a.length
    · have hltz : (k : Int) < (a.length : Int) := by omega
      obtain ⟨bb, off, rfl, hb, hcs⟩ := hH.out.2.2.1.at hlt
      obtain ⟨x, hx⟩ : ∃ x, a[k] = x := ⟨_, rfl⟩
      obtain ⟨e0, e1⟩ := hcs k hlt
      rw [hx] at e0 e1
      have hxm : x ∈ a := by rw [← hx]; exact List.getElem_mem hlt
      obtain ⟨rb, ro, cn, hp, hrb, hcn, hcl, hcell⟩ := rowI_atI (hH.out.2.2.1.each x hxm).1 (hH.out.2.2.2.2.2.2.1 x hxm)
      have hst : Hid (pairL ((a.take (k + 1)).map Itm.z) (b.map Itm.z) s.c s.v = pairL ((a.take k).map Itm.z) (b.map Itm.z) s.c s.v ++ prs x.z ((b.map Itm.z).filter fun z => decide (atI z.1 s.v = atI x.r s.c))) := by show _ = _; rw [pair_take hlt, hx]
      obtain ⟨nn, hnn⟩ : ∃ nn, atI x.r s.c = nn := ⟨_, rfl⟩
      rw [hnn] at hcell hst
      rw [hp] at e0
      have f0 : wr.cell? ⟨bb, off + k * 2, none⟩ = some (.slice (some ⟨rb, ro, none⟩) x.r.length x.c) := (hR.out.2.2.2.cell (p := ⟨bb, off + k * 2, none⟩) hb).trans e0
      have f1 : wr.cell? ⟨bb, off + k * 2 + 1, none⟩ = some (.int .i64 x.n) := (hR.out.2.2.2.cell (p := ⟨bb, off + k * 2 + 1, none⟩) hb).trans e1
      have hxH : Hid (okR x.r = true ∧ okW x.n = true ∧ w1.cell? ⟨rb, ro + cn, none⟩ = some (.int .i64 nn) ∧ rb < w1.heap.size ∧ RowI w1 (some ⟨rb, ro, none⟩) x.r ∧ s.c = cn ∧ (x.p = none → x.c = 0)) := ⟨(hH.out.2.2.2.2.2.2.2.2.1 x hxm).1, (hH.out.2.2.2.2.2.2.2.2.1 x hxm).2, hcell, hrb, by rw [← hp]; exact (hH.out.2.2.1.each x hxm).1, hcn, (hH.out.2.2.1.each x hxm).2.2⟩
      have hcz : (cn : Int) < (x.r.length : Int) := by omega
      have hgX : Hid (Gr wr (wr.alloc (.cells #[.slice (some ⟨rb, ro, none⟩) x.r.length x.c, .int .i64 x.n] 66))) := (Gr.refl _).alloc _
      obtain ⟨wX, hwX⟩ : ∃ wX, (wr.alloc (.cells #[.slice (some ⟨rb, ro, none⟩) x.r.length x.c, .int .i64 x.n] 66)) = wX := ⟨_, rfl⟩
      have y0 : Hid (wX.cell? ⟨wr.heap.size, 0, none⟩ = some (.slice (some ⟨rb, ro, none⟩) x.r.length x.c) ∧ wX.cell? ⟨wr.heap.size, 1, none⟩ = some (.int .i64 x.n) ∧ wr.heap.size < wX.heap.size) := by rw [← hwX]; exact ⟨box1 (Gr.refl _) rfl, box1 (Gr.refl _) rfl, by simp⟩
      have k0 : wX.cell? ⟨X, 0, none⟩ = some (.int .i64 4) := by rw [← hwX, hgX.out.cell (p := ⟨X, 0, none⟩) hSt.out.lt, hSt.out.c0, hH.out.2.2.2.1]
      rw [hwX] at hgX
      have hb400 : b.length ≤ 400 := hbl
      clear hcs hx hxm hnn hp hcell hcl hcn e0 e1 hb hrb
      go_wp2
      clear hwX
      obtain ⟨xb, hxb⟩ : ∃ xb, wr.heap.size = xb := ⟨_, rfl⟩
      have hne : Hid (u7.ownBlock ≠ some xb) := fun e => by have := (World.ownsRow.lt hR.out.2.2.1.own _ e).2; omega
      rw [hxb] at y0 ⊢
      clear hxb f0 f1 k0
      have hO : Hid (L.length ≤ k * 400 + 0 ∧ L.map Itm.z = pairL ((a.take k).map Itm.z) (b.map Itm.z) s.c s.v ++ prs x.z (((b.take (0)).map Itm.z).filter fun z : Zit => decide (atI z.1 s.v = nn)) ∧ OwnT wX w1.heap.size u7 L ∧ Below w1.heap.size w1 wX ∧ wX.cell? ⟨xb, 0, none⟩ = some (.slice (some ⟨rb, ro, none⟩) x.r.length x.c) ∧ wX.cell? ⟨xb, 1, none⟩ = some (.int .i64 x.n) ∧ xb < wX.heap.size ∧ u7.ownBlock ≠ some xb) := ⟨by have := hR.out.1; omega, by rw [hR.out.2.1]; simp [prs], hR.out.2.2.1.gr hgX.out, hR.out.2.2.2.trans (hgX.out.below.mono hR.out.2.2.2.size), y0.out.1, y0.out.2.1, y0.out.2.2, hne.out⟩
      clear hR hgX hSt hne y0
      go_loopw [7, 14] (fun u i wi => ∃ (m : Nat) (L : List Itm), m ≤ b.length ∧ i = .int .i64 m ∧ Hid (L.length ≤ k * 400 + m ∧ L.map Itm.z = pairL ((a.take k).map Itm.z) (b.map Itm.z) s.c s.v ++ prs x.z (((b.take (m)).map Itm.z).filter fun z : Zit => decide (atI z.1 s.v = nn)) ∧ OwnT wi w1.heap.size u L ∧ Below w1.heap.size w1 wi ∧ wi.cell? ⟨xb, 0, none⟩ = some (.slice (some ⟨rb, ro, none⟩) x.r.length x.c) ∧ wi.cell? ⟨xb, 1, none⟩ = some (.int .i64 x.n) ∧ xb < wi.heap.size ∧ u.ownBlock ≠ some xb)) (fun _ i _ => b.length - (intOf i).toNat)
      case atStart => exact ⟨0, L, Nat.zero_le _, rfl, hO⟩
      case round =>
        rename World => wi
        clear hO
        obtain ⟨m, L, hm, rfl, hR⟩ := hrel
        have hSt : Hid (StAt wi X s) := hH.out.1.below hR.out.2.2.2.1
        by_cases hlt2 : m < b.length
        · have hltz2 : (m : Int) < (b.length : Int) := by omega
          obtain ⟨yb, yo, rfl, hyb, hcs⟩ := hH.out.2.2.2.2.2.1.at hlt2
          obtain ⟨y, hy⟩ : ∃ y, b[m] = y := ⟨_, rfl⟩
          obtain ⟨e0, e1⟩ := hcs m hlt2
          rw [hy] at e0 e1
          have hym : y ∈ b := by rw [← hy]; exact List.getElem_mem hlt2
          obtain ⟨qb, qo, vn, hp, hqb, hvn, hvl, hcell⟩ := rowI_atI (hH.out.2.2.2.2.2.1.each y hym).1 (hH.out.2.2.2.2.2.2.2.1 y hym)
          have hst2 : Hid (((b.take (m + 1)).map Itm.z).filter (fun z : Zit => decide (atI z.1 s.v = nn)) = ((b.take m).map Itm.z).filter (fun z : Zit => decide (atI z.1 s.v = nn)) ++ (if atI y.r s.v = nn then [y.z] else [])) := by show _ = _; rw [fil_take hlt2, hy]
          obtain ⟨vv, hvv⟩ : ∃ vv, atI y.r s.v = vv := ⟨_, rfl⟩
          rw [hvv] at hcell hst2
          rw [hp] at e0
          have hyH : Hid (okR y.r = true ∧ okW y.n = true ∧ RowI w1 (some ⟨qb, qo, none⟩) y.r ∧ (y.p = none → y.c = 0)) := ⟨(hH.out.2.2.2.2.2.2.2.2.2 y hym).1, (hH.out.2.2.2.2.2.2.2.2.2 y hym).2, by rw [← hp]; exact (hH.out.2.2.2.2.2.1.each y hym).1, (hH.out.2.2.2.2.2.1.each y hym).2.2⟩
          have g0 : wi.cell? ⟨yb, yo + m * 2, none⟩ = some (.slice (some ⟨qb, qo, none⟩) y.r.length y.c) := (hR.out.2.2.2.1.cell (p := ⟨yb, yo + m * 2, none⟩) hyb).trans e0
          have g1 : wi.cell? ⟨yb, yo + m * 2 + 1, none⟩ = some (.int .i64 y.n) := (hR.out.2.2.2.1.cell (p := ⟨yb, yo + m * 2 + 1, none⟩) hyb).trans e1
          have g2 : wi.cell? ⟨qb, qo + vn, none⟩ = some (.int .i64 vv) := (hR.out.2.2.2.1.cell (p := ⟨qb, qo + vn, none⟩) hqb).trans hcell
          have g3 : wi.cell? ⟨rb, ro + cn, none⟩ = some (.int .i64 nn) := (hR.out.2.2.2.1.cell (p := ⟨rb, ro + cn, none⟩) hxH.out.2.2.2.1).trans hxH.out.2.2.1
          have g4 : wi.cell? ⟨xb, 0, none⟩ = some (.slice (some ⟨rb, ro, none⟩) x.r.length x.c) := hR.out.2.2.2.2.1
          have g5 : wi.cell? ⟨xb, 1, none⟩ = some (.int .i64 x.n) := hR.out.2.2.2.2.2.1
          have k3 : wi.cell? ⟨X, 3, none⟩ = some (.int .i64 (cn : Int)) := by rw [hSt.out.c3, hxH.out.2.2.2.2.2.1]
          have k5 : wi.cell? ⟨X, 5, none⟩ = some (.int .i64 (vn : Int)) := by rw [hSt.out.c5, hvn]
          have hvz : (vn : Int) < (y.r.length : Int) := by omega
          have hybH : Hid (yb < w1.heap.size) := hyb
          clear hcs hy hym hp hcell hvl hvn e0 e1 hyb hqb hvv
          by_cases hq : nn = vv
          · have hq2 : (nn == vv) = true := beq_iff_eq.2 hq
            have hmz : Hid (m * 2 + 1 < b.length * 2) := by show _ < _; omega
            go_wp2
            go_quiet (fail)
            go_wp2
            generalize hwj : World.drewN wi _ = wj
            have hgj : Hid (Gr wi wj) := by show Gr wi wj; rw [← hwj]; exact gr_drewN _ _
            clear hwj
            have hBj : Hid (Below w1.heap.size w1 wj ∧ OwnT wj w1.heap.size u7 L ∧ wi.heap.size ≤ wj.heap.size ∧ w1.heap.size ≤ wj.heap.size) := by
              have h := hR.out.2.2.2.1.trans (hgj.out.below.mono hR.out.2.2.2.1.size)
              exact ⟨h, hR.out.2.2.1.gr hgj.out, hgj.out.below.size, h.size⟩
            have hKB : Hid (∀ W', Below wj.heap.size wj W' → (fun w' => w'.cell? ⟨xb, 0, none⟩ = some (.slice (some ⟨rb, ro, none⟩) x.r.length x.c) ∧ w'.cell? ⟨xb, 1, none⟩ = some (.int .i64 x.n) ∧ w'.cell? ⟨yb, yo + m * 2, none⟩ = some (.slice (some ⟨qb, qo, none⟩) y.r.length y.c) ∧ w'.cell? ⟨yb, yo + m * 2 + 1, none⟩ = some (.int .i64 y.n)) W') := fun W' h => by
              have h2 := hgj.out.below.trans (h.mono hgj.out.below.size)
              have hyl : yb < wi.heap.size := Nat.lt_of_lt_of_le hybH.out hR.out.2.2.2.1.size
              exact ⟨(h2.cell (p := ⟨xb, 0, none⟩) hR.out.2.2.2.2.2.2.1).trans g4, (h2.cell (p := ⟨xb, 1, none⟩) hR.out.2.2.2.2.2.2.1).trans g5, (h2.cell (p := ⟨yb, yo + m * 2, none⟩) hyl).trans g0, (h2.cell (p := ⟨yb, yo + m * 2 + 1, none⟩) hyl).trans g1⟩
            have hgD : Hid (Gr wj wj.drew) := (Gr.refl _).drew
            have hKeep : Hid (∀ W', Gr wj W' → (fun w' => w'.cell? ⟨xb, 0, none⟩ = some (.slice (some ⟨rb, ro, none⟩) x.r.length x.c) ∧ w'.cell? ⟨xb, 1, none⟩ = some (.int .i64 x.n) ∧ w'.cell? ⟨yb, yo + m * 2, none⟩ = some (.slice (some ⟨qb, qo, none⟩) y.r.length y.c) ∧ w'.cell? ⟨yb, yo + m * 2 + 1, none⟩ = some (.int .i64 y.n)) W') := fun W' h => hKB.out W' h.below
            have hxl : x.r.length ≤ 8 := by have h := hxH.out.1; simp only [okR, Bool.and_eq_true, decide_eq_true_eq] at h; exact h.1
            have hyl : y.r.length ≤ 8 := by have h := hyH.out.1; simp only [okR, Bool.and_eq_true, decide_eq_true_eq] at h; exact h.1
            have hbx := hxH.out.2.1
            have hby := hyH.out.2.1
            simp only [okW, inB, Bool.and_eq_true, decide_eq_true_eq] at hbx hby
            have hml := mul_bound2 hbx hby
            obtain ⟨P, hP⟩ : ∃ P, x.n * y.n = P := ⟨_, rfl⟩
            rw [hP] at hml
            have hw1 : IntKind.i64.wrap (x.n * y.n) = P := by rw [hP, IntKind.wrap_i64]; omega
            have hPH : Hid (x.n * y.n = P) := hP
            have hlenH : Hid (x.r.length ≤ 8 ∧ y.r.length ≤ 8 ∧ L.length ≤ 160400) := ⟨hxl, hyl, by have h1 := hR.out.1; have h2 : k * 400 ≤ 400 * 400 := Nat.mul_le_mul_right 400 (by omega); omega⟩
            have hrx : Hid (RowI wj.drew (some ⟨rb, ro, none⟩) x.r) := hxH.out.2.2.2.2.1.below (hBj.out.1.trans (hgD.out.below.mono hBj.out.1.size))
            clear hbx hby hml hP hxl hyl g0 g1 g2 g3 g4 g5 k3 k5
            refine wp_region_noPanic ?_
            refine wp_region_held_drew (S := (fun w' => w'.cell? ⟨xb, 0, none⟩ = some (.slice (some ⟨rb, ro, none⟩) x.r.length x.c) ∧ w'.cell? ⟨xb, 1, none⟩ = some (.int .i64 x.n) ∧ w'.cell? ⟨yb, yo + m * 2, none⟩ = some (.slice (some ⟨qb, qo, none⟩) y.r.length y.c) ∧ w'.cell? ⟨yb, yo + m * 2 + 1, none⟩ = some (.int .i64 y.n))) (by kernel_rfl) (hKeep.out _ hgD.out) (fun hHeld => ?_)
            refine wpAnyH_take (i := 0) (oi := ?ois1) (v := ?vs1) ?hops1 ?hss1 ?hfs1 ?hrs1 ?hQs1 ?hys1 (by assumption) ?rests1
            case hops1 => (simp only [List.getElem?_toArray, List.getElem?_cons_zero]; rfl)
            case hss1 => kernel_rfl
            case hfs1 => kernel_rfl
            case hrs1 => kernel_rfl
            case hQs1 => exact fun _ _ _ h => h
            case hys1 => (refine Or.inl ⟨by rfl, ?_⟩; intro w hSw; (try dsimp only at hSw); go_simp <;> with_reducible rfl)
            try simp only [Act.put, List.setIfInBounds_toArray, List.set_cons_zero, List.set_cons_succ]
            refine wpAnyH_take (i := 1) (oi := ?ois2) (v := ?vs2) ?hops2 ?hss2 ?hfs2 ?hrs2 ?hQs2 ?hys2 (by assumption) ?rests2
            case hops2 => (simp only [List.getElem?_toArray, List.getElem?_cons_zero, List.getElem?_cons_succ]; rfl)
            case hss2 => kernel_rfl
            case hfs2 => kernel_rfl
            case hrs2 => kernel_rfl
            case hQs2 => exact fun _ _ _ h => h
            case hys2 => (refine Or.inl ⟨by rfl, ?_⟩; intro w hSw; (try dsimp only at hSw); go_simp <;> with_reducible rfl)
            try simp only [Act.put, List.setIfInBounds_toArray, List.set_cons_zero, List.set_cons_succ]
            refine wpAnyH_take (i := 2) (oi := ?ois3) (v := ?vs3) ?hops3 ?hss3 ?hfs3 ?hrs3 ?hQs3 ?hys3 (by assumption) ?rests3
            case hops3 => (simp only [List.getElem?_toArray, List.getElem?_cons_zero, List.getElem?_cons_succ]; rfl)
            case hss3 => kernel_rfl
            case hfs3 => kernel_rfl
            case hrs3 => kernel_rfl
            case hQs3 => exact fun _ _ _ h => h
            case hys3 => (refine Or.inl ⟨by rfl, ?_⟩; intro w hSw; (try dsimp only at hSw); go_simp <;> with_reducible rfl)
            try simp only [Act.put, List.setIfInBounds_toArray, List.set_cons_zero, List.set_cons_succ]
            refine wpAnyH_take (i := 4) (oi := ?ois4) (v := ?vs4) ?hops4 ?hss4 ?hfs4 ?hrs4 ?hQs4 ?hys4 (by assumption) ?rests4
            case hops4 => (simp only [List.getElem?_toArray, List.getElem?_cons_zero, List.getElem?_cons_succ]; rfl)
            case hss4 => kernel_rfl
            case hfs4 => kernel_rfl
            case hrs4 => kernel_rfl
            case hQs4 => exact fun _ _ _ h => h
            case hys4 => (refine Or.inl ⟨by rfl, ?_⟩; intro w hSw; (try dsimp only at hSw); go_simp <;> with_reducible rfl)
            try simp only [Act.put, List.setIfInBounds_toArray, List.set_cons_zero, List.set_cons_succ]
            refine wpAnyH_take (i := 5) (oi := ?ois5) (v := ?vs5) ?hops5 ?hss5 ?hfs5 ?hrs5 ?hQs5 ?hys5 (by assumption) ?rests5
            case hops5 => (simp only [List.getElem?_toArray, List.getElem?_cons_zero, List.getElem?_cons_succ]; rfl)
            case hss5 => kernel_rfl
            case hfs5 => kernel_rfl
            case hrs5 => kernel_rfl
            case hQs5 => exact fun _ _ _ h => h
            case hys5 => (refine Or.inl ⟨by rfl, ?_⟩; intro w hSw; (try dsimp only at hSw); go_simp <;> with_reducible rfl)
            try simp only [Act.put, List.setIfInBounds_toArray, List.set_cons_zero, List.set_cons_succ]
            refine wpAnyH_take (i := 6) (oi := ?ois6) (v := ?vs6) ?hops6 ?hss6 ?hfs6 ?hrs6 ?hQs6 ?hys6 (by assumption) ?rests6
            case hops6 => (simp only [List.getElem?_toArray, List.getElem?_cons_zero, List.getElem?_cons_succ]; rfl)
            case hss6 => kernel_rfl
            case hfs6 => kernel_rfl
            case hrs6 => kernel_rfl
            case hQs6 => exact fun _ _ _ h => h
            case hys6 => (refine Or.inl ⟨by rfl, ?_⟩; intro w hSw; (try dsimp only at hSw); go_simp <;> with_reducible rfl)
            try simp only [Act.put, List.setIfInBounds_toArray, List.set_cons_zero, List.set_cons_succ]
            refine wpAnyH_take (i := 7) (oi := ?ois7) (v := ?vs7) ?hops7 ?hss7 ?hfs7 ?hrs7 ?hQs7 ?hys7 (by assumption) ?rests7
            case hops7 => (simp only [List.getElem?_toArray, List.getElem?_cons_zero, List.getElem?_cons_succ]; rfl)
            case hss7 => kernel_rfl
            case hfs7 => kernel_rfl
            case hrs7 => kernel_rfl
            case hQs7 => exact fun _ _ _ h => h
            case hys7 => (refine Or.inl ⟨by rfl, ?_⟩; intro w hSw; (try dsimp only at hSw); go_simp <;> with_reducible rfl)
            try simp only [Act.put, List.setIfInBounds_toArray, List.set_cons_zero, List.set_cons_succ]
            refine wpAnyH_take (i := 8) (oi := ?ois8) (v := ?vs8) ?hops8 ?hss8 ?hfs8 ?hrs8 ?hQs8 ?hys8 (by assumption) ?rests8
            case hops8 => (simp only [List.getElem?_toArray, List.getElem?_cons_zero, List.getElem?_cons_succ]; rfl)
            case hss8 => kernel_rfl
            case hfs8 => kernel_rfl
            case hrs8 => kernel_rfl
            case hQs8 => exact fun _ _ _ h => h
            case hys8 => (refine Or.inl ⟨by rfl, ?_⟩; intro w hSw; (try dsimp only at hSw); go_simp <;> with_reducible rfl)
            try simp only [Act.put, List.setIfInBounds_toArray, List.set_cons_zero, List.set_cons_succ]
            refine wpAnyH_take (i := 10) (oi := ?ois9) (v := ?vs9) ?hops9 ?hss9 ?hfs9 ?hrs9 ?hQs9 ?hys9 (by assumption) ?rests9
            case hops9 => (simp only [List.getElem?_toArray, List.getElem?_cons_zero, List.getElem?_cons_succ]; rfl)
            case hss9 => kernel_rfl
            case hfs9 => kernel_rfl
            case hrs9 => kernel_rfl
            case hQs9 => exact fun _ _ _ h => h
            case hys9 => (refine Or.inl ⟨by rfl, ?_⟩; intro w hSw; (try dsimp only at hSw); go_simp <;> with_reducible rfl)
            try simp only [Act.put, List.setIfInBounds_toArray, List.set_cons_zero, List.set_cons_succ]
            refine wpAnyH_take (i := 11) (oi := ?ois10) (v := ?vs10) ?hops10 ?hss10 ?hfs10 ?hrs10 ?hQs10 ?hys10 (by assumption) ?rests10
            case hops10 => (simp only [List.getElem?_toArray, List.getElem?_cons_zero, List.getElem?_cons_succ]; rfl)
            case hss10 => kernel_rfl
            case hfs10 => kernel_rfl
            case hrs10 => kernel_rfl
            case hQs10 => exact fun _ _ _ h => h
            case hys10 => (refine Or.inl ⟨by rfl, ?_⟩; intro w hSw; (try dsimp only at hSw); go_simp <;> with_reducible rfl)
            try simp only [Act.put, List.setIfInBounds_toArray, List.set_cons_zero, List.set_cons_succ]
            refine wpAnyH_take (i := 12) (oi := ?ois11) (v := ?vs11) ?hops11 ?hss11 ?hfs11 ?hrs11 ?hQs11 ?hys11 (by assumption) ?rests11
            case hops11 => (simp only [List.getElem?_toArray, List.getElem?_cons_zero, List.getElem?_cons_succ]; rfl)
            case hss11 => kernel_rfl
            case hfs11 => kernel_rfl
            case hrs11 => kernel_rfl
            case hQs11 => exact fun _ _ _ h => h
            case hys11 => (refine Or.inl ⟨by rfl, ?_⟩; intro w hSw; (try dsimp only at hSw); go_simp <;> with_reducible rfl)
            try simp only [Act.put, List.setIfInBounds_toArray, List.set_cons_zero, List.set_cons_succ]
            refine wpAnyH_take (i := 13) (oi := ?ois12) (v := ?vs12) ?hops12 ?hss12 ?hfs12 ?hrs12 ?hQs12 ?hys12 (by assumption) ?rests12
            case hops12 => (simp only [List.getElem?_toArray, List.getElem?_cons_zero, List.getElem?_cons_succ]; rfl)
            case hss12 => kernel_rfl
            case hfs12 => kernel_rfl
            case hrs12 => kernel_rfl
            case hQs12 => exact fun _ _ _ h => h
            case hys12 => (refine Or.inl ⟨by rfl, ?_⟩; intro w hSw; (try dsimp only at hSw); go_simp <;> with_reducible rfl)
            try simp only [Act.put, List.setIfInBounds_toArray, List.set_cons_zero, List.set_cons_succ]
            refine wpAnyH_take (i := 14) (oi := ?ois13) (v := ?vs13) ?hops13 ?hss13 ?hfs13 ?hrs13 ?hQs13 ?hys13 (by assumption) ?rests13
            case hops13 => (simp only [List.getElem?_toArray, List.getElem?_cons_zero, List.getElem?_cons_succ]; rfl)
            case hss13 => kernel_rfl
            case hfs13 => kernel_rfl
            case hrs13 => kernel_rfl
            case hQs13 => exact fun _ _ _ h => h
            case hys13 => (refine Or.inl ⟨by rfl, ?_⟩; intro w hSw; (try dsimp only at hSw); go_simp <;> with_reducible rfl)
            try simp only [Act.put, List.setIfInBounds_toArray, List.set_cons_zero, List.set_cons_succ]
            refine wpAnyH_take (i := 15) (oi := ?ois14) (v := ?vs14) ?hops14 ?hss14 ?hfs14 ?hrs14 ?hQs14 ?hys14 (by assumption) ?rests14
            case hops14 => (simp only [List.getElem?_toArray, List.getElem?_cons_zero, List.getElem?_cons_succ]; rfl)
            case hss14 => kernel_rfl
            case hfs14 => kernel_rfl
            case hrs14 => kernel_rfl
            case hQs14 => exact fun _ _ _ h => h
            case hys14 => (refine Or.inl ⟨by rfl, ?_⟩; intro w hSw; (try dsimp only at hSw); go_simp <;> with_reducible rfl)
            try simp only [Act.put, List.setIfInBounds_toArray, List.set_cons_zero, List.set_cons_succ]
            refine wpAnyH_take (i := 16) (oi := ?ois15) (v := ?vs15) ?hops15 ?hss15 ?hfs15 ?hrs15 ?hQs15 ?hys15 (by assumption) ?rests15
            case hops15 => (simp only [List.getElem?_toArray, List.getElem?_cons_zero, List.getElem?_cons_succ]; rfl)
            case hss15 => kernel_rfl
            case hfs15 => kernel_rfl
            case hrs15 => kernel_rfl
            case hQs15 => exact fun _ _ _ h => h
            case hys15 => (refine Or.inl ⟨by rfl, ?_⟩; intro w hSw; (try dsimp only at hSw); go_simp <;> with_reducible rfl)
            try simp only [Act.put, List.setIfInBounds_toArray, List.set_cons_zero, List.set_cons_succ]
            refine wpAnyH_take (i := 17) (oi := ?ois16) (v := ?vs16) ?hops16 ?hss16 ?hfs16 ?hrs16 ?hQs16 ?hys16 (by assumption) ?rests16
            case hops16 => (simp only [List.getElem?_toArray, List.getElem?_cons_zero, List.getElem?_cons_succ]; rfl)
            case hss16 => kernel_rfl
            case hfs16 => kernel_rfl
            case hrs16 => kernel_rfl
            case hQs16 => exact fun _ _ _ h => h
            case hys16 => (refine Or.inl ⟨by rfl, ?_⟩; intro w hSw; (try dsimp only at hSw); go_simp <;> with_reducible rfl)
            try simp only [Act.put, List.setIfInBounds_toArray, List.set_cons_zero, List.set_cons_succ]
            refine wpAnyH_ready (rs := [3]) (by kernel_rfl) (by simp) ?_
            refine AllReadyH.cons (o := ?ois17) ?hops17 (fun K hK => ?steps17) ?mores17
            case hops17 => (simp only [List.getElem?_toArray, List.getElem?_cons_zero, List.getElem?_cons_succ]; rfl)
            case mores17 => exact AllReadyH.nil
            (refine step_append_i2 _ rfl _ (.tmp 137) rfl wj.drew.heap.size (.slice none 0 0) [] x.r (some ⟨rb, ro, none⟩) x.c rfl rfl (OwnG.nil _ _ _ _ _) hrx.out (fun h => by cases h) (by have := hlenH.out.1; unfold maxLen; simp only [List.length_nil]; omega) (by have := hlenH.out.1; simp only [List.length_nil]; omega) (Nat.le_refl _) ?_; intro v5 w5 hown5 hgb5; have hb5 : Hid (Below wj.drew.heap.size wj.drew w5 ∧ OwnI w5 wj.drew.heap.size v5 x.r) := ⟨(OwnG.nil encI 1 3 wj.drew wj.drew.heap.size).grown_below hgb5 (Nat.le_refl _), hown5⟩; have hj5 : Hid (Below wj.heap.size wj w5) := hgD.out.below.trans (hb5.out.1.mono hgD.out.below.size); have hk5 : Hid ((fun w' => w'.cell? ⟨xb, 0, none⟩ = some (.slice (some ⟨rb, ro, none⟩) x.r.length x.c) ∧ w'.cell? ⟨xb, 1, none⟩ = some (.int .i64 x.n) ∧ w'.cell? ⟨yb, yo + m * 2, none⟩ = some (.slice (some ⟨qb, qo, none⟩) y.r.length y.c) ∧ w'.cell? ⟨yb, yo + m * 2 + 1, none⟩ = some (.int .i64 y.n)) w5) := hKB.out _ hj5.out; have hry : Hid (RowI w5 (some ⟨qb, qo, none⟩) y.r) := hyH.out.2.2.1.below (hBj.out.1.trans (hj5.out.mono hBj.out.2.2.2)); clear hown5 hgb5)
            refine hK.out _ _ ?_ (fun hHeld => ?_)
            · (try dsimp only); first | with_reducible exact hKeep.out _ hgD.out | exact hKeep.out _ hgD.out | exact hk7.out | exact hk6.out.2 | exact hk6.out.1 | exact hk5.out
            clear hK K
            try simp only [Act.put, List.setIfInBounds_toArray, List.set_cons_zero, List.set_cons_succ]
            refine wpAnyH_ready (rs := [9]) (by kernel_rfl) (by simp) ?_
            refine AllReadyH.cons (o := ?ois18) ?hops18 (fun K hK => ?steps18) ?mores18
            case hops18 => (simp only [List.getElem?_toArray, List.getElem?_cons_zero, List.getElem?_cons_succ]; rfl)
            case mores18 => exact AllReadyH.nil
            (refine step_append_i2 _ rfl (.tmp 138) (.tmp 143) rfl wj.drew.heap.size v5 x.r y.r (some ⟨qb, qo, none⟩) y.c rfl rfl hb5.out.2 hry.out (fun h => by cases h) (by have := hlenH.out; unfold maxLen; omega) (by have := hlenH.out; omega) hb5.out.1.size ?_; intro v6 w6 hown6 hgb6; have hj6 : Hid (Below wj.heap.size wj w6) := hj5.out.trans ((hb5.out.2.grown_below hgb6 hb5.out.1.size).mono (by show wj.heap.size ≤ wj.drew.heap.size; exact hgD.out.below.size)); obtain ⟨C, cc, hv6, hn6, hit6, hpl6⟩ := hown6.row encI_len; subst hv6; have hn6H : Hid ((C = none → cc = 0) ∧ RowI w6 C (x.r ++ y.r) ∧ ∀ ad, C = some ad → wj.drew.heap.size ≤ ad.block ∧ ad.block < w6.heap.size) := ⟨hn6, hit6, hpl6⟩; have hk6 : Hid ((fun w' => w'.cell? ⟨xb, 0, none⟩ = some (.slice (some ⟨rb, ro, none⟩) x.r.length x.c) ∧ w'.cell? ⟨xb, 1, none⟩ = some (.int .i64 x.n) ∧ w'.cell? ⟨yb, yo + m * 2, none⟩ = some (.slice (some ⟨qb, qo, none⟩) y.r.length y.c) ∧ w'.cell? ⟨yb, yo + m * 2 + 1, none⟩ = some (.int .i64 y.n)) w6 ∧ (fun w' => w'.cell? ⟨xb, 0, none⟩ = some (.slice (some ⟨rb, ro, none⟩) x.r.length x.c) ∧ w'.cell? ⟨xb, 1, none⟩ = some (.int .i64 x.n) ∧ w'.cell? ⟨yb, yo + m * 2, none⟩ = some (.slice (some ⟨qb, qo, none⟩) y.r.length y.c) ∧ w'.cell? ⟨yb, yo + m * 2 + 1, none⟩ = some (.int .i64 y.n)) (w6.alloc (.cells #[.slice C (x.r.length + y.r.length) cc, .int .i64 P] 66))) := ⟨hKB.out _ hj6.out, hKB.out _ (hj6.out.alloc hj6.out.size _)⟩; have hoX : Hid (OwnT (w6.alloc (.cells #[.slice C (x.r.length + y.r.length) cc, .int .i64 P] 66)) w1.heap.size u7 L ∧ RowG encT 2 (w6.alloc (.cells #[.slice C (x.r.length + y.r.length) cc, .int .i64 P] 66)) (some ⟨w6.heap.size, 0, none⟩) [(⟨C, cc, x.r ++ y.r, P⟩ : Itm)] ∧ Apart (w6.alloc (.cells #[.slice C (x.r.length + y.r.length) cc, .int .i64 P] 66)) w1.heap.size u7.ownBlock (⟨C, cc, x.r ++ y.r, P⟩ : Itm) ∧ L.length + 1 ≤ maxLen ∧ (L.length + 1) * 32 ≤ 140737488355328 ∧ Below w1.heap.size w1 (w6.alloc (.cells #[.slice C (x.r.length + y.r.length) cc, .int .i64 P] 66))) := join_new List.length_append hBj.out.1 hBj.out.2.1 hj6.out hn6H.out.2.1 hn6H.out.1 (fun ad h => ⟨Nat.le_trans hgD.out.below.size (hn6H.out.2.2 ad h).1, (hn6H.out.2.2 ad h).2⟩) (by have := hlenH.out; rw [List.length_append]; omega) hlenH.out.2.2; clear hown6 hgb6 hn6 hit6 hpl6)
            refine hK.out _ _ ?_ (fun hHeld => ?_)
            · (try dsimp only); first | with_reducible exact hKeep.out _ hgD.out | exact hKeep.out _ hgD.out | exact hk7.out | exact hk6.out.2 | exact hk6.out.1 | exact hk5.out
            clear hK K
            try simp only [Act.put, List.setIfInBounds_toArray, List.set_cons_zero, List.set_cons_succ]
            refine wpAnyH_take (i := 18) (oi := ?ois19) (v := ?vs19) ?hops19 ?hss19 ?hfs19 ?hrs19 ?hQs19 ?hys19 (by assumption) ?rests19
            case hops19 => (simp only [List.getElem?_toArray, List.getElem?_cons_zero, List.getElem?_cons_succ]; rfl)
            case hss19 => kernel_rfl
            case hfs19 => kernel_rfl
            case hrs19 => kernel_rfl
            case hQs19 => exact fun _ _ _ h => h
            case hys19 => (refine Or.inl ⟨by rfl, ?_⟩; intro w hSw; (try dsimp only at hSw); go_simp <;> with_reducible rfl)
            try simp only [Act.put, List.setIfInBounds_toArray, List.set_cons_zero, List.set_cons_succ]
            refine wpAnyH_ready (rs := [19]) (by kernel_rfl) (by simp) ?_
            refine AllReadyH.cons (o := ?ois20) ?hops20 (fun K hK => ?steps20) ?mores20
            case hops20 => (simp only [List.getElem?_toArray, List.getElem?_cons_zero, List.getElem?_cons_succ]; rfl)
            case mores20 => exact AllReadyH.nil
            go_simp
            refine hK.out _ _ ?_ (fun hHeld => ?_)
            · (try dsimp only); first | with_reducible exact hKeep.out _ hgD.out | exact hKeep.out _ hgD.out | exact hk7.out | exact hk6.out.2 | exact hk6.out.1 | exact hk5.out
            clear hK K
            try simp only [Act.put, List.setIfInBounds_toArray, List.set_cons_zero, List.set_cons_succ]
            refine wpAnyH_ready (rs := [20]) (by kernel_rfl) (by simp) ?_
            refine AllReadyH.cons (o := ?ois21) ?hops21 (fun K hK => ?steps21) ?mores21
            case hops21 => (simp only [List.getElem?_toArray, List.getElem?_cons_zero, List.getElem?_cons_succ]; rfl)
            case mores21 => exact AllReadyH.nil
            (refine step_append_t5 _ rfl (.tmp 135) (.tmp 154) rfl w1.heap.size u7 L (⟨C, cc, x.r ++ y.r, P⟩ : Itm) ⟨w6.heap.size, 0, none⟩ 1 rfl rfl hoX.out.1 hoX.out.2.1 hoX.out.2.2.1 hoX.out.2.2.2.1 hoX.out.2.2.2.2.1 hoX.out.2.2.2.2.2.size ?_; intro v7 w7 hown7 hbl7 hgb7 hob7; have hxs : Hid (xb < (w6.alloc (.cells #[.slice C (x.r.length + y.r.length) cc, .int .i64 P] 66)).heap.size ∧ xb < w6.heap.size) := by { have h1 := hR.out.2.2.2.2.2.2.1; have h2 := hj6.out.size; have h3 := hBj.out.2.2.1; refine ⟨?_, by omega⟩; simp; omega }; have hk7 : Hid ((fun w' => w'.cell? ⟨xb, 0, none⟩ = some (.slice (some ⟨rb, ro, none⟩) x.r.length x.c) ∧ w'.cell? ⟨xb, 1, none⟩ = some (.int .i64 x.n) ∧ w'.cell? ⟨yb, yo + m * 2, none⟩ = some (.slice (some ⟨qb, qo, none⟩) y.r.length y.c) ∧ w'.cell? ⟨yb, yo + m * 2 + 1, none⟩ = some (.int .i64 y.n)) w7) := ⟨(cell_other hgb7 hxs.out.1 hR.out.2.2.2.2.2.2.2).trans hk6.out.2.1, (cell_other hgb7 hxs.out.1 hR.out.2.2.2.2.2.2.2).trans hk6.out.2.2.1, (hbl7.cell (p := ⟨yb, yo + m * 2, none⟩) hybH.out).trans hk6.out.2.2.2.1, (hbl7.cell (p := ⟨yb, yo + m * 2 + 1, none⟩) hybH.out).trans hk6.out.2.2.2.2⟩; have hfin : Hid ((L ++ [(⟨C, cc, x.r ++ y.r, P⟩ : Itm)]).length ≤ k * 400 + m + 1 ∧ (L ++ [(⟨C, cc, x.r ++ y.r, P⟩ : Itm)]).map Itm.z = pairL ((a.take k).map Itm.z) (b.map Itm.z) s.c s.v ++ prs x.z (((b.take (m + 1)).map Itm.z).filter fun z : Zit => decide (atI z.1 s.v = nn)) ∧ OwnT w7 w1.heap.size v7 (L ++ [(⟨C, cc, x.r ++ y.r, P⟩ : Itm)]) ∧ Below w1.heap.size w1 w7 ∧ w7.cell? ⟨xb, 0, none⟩ = some (.slice (some ⟨rb, ro, none⟩) x.r.length x.c) ∧ w7.cell? ⟨xb, 1, none⟩ = some (.int .i64 x.n) ∧ xb < w7.heap.size ∧ v7.ownBlock ≠ some xb) := ⟨by have := hR.out.1; rw [List.length_append]; simp only [List.length_singleton]; omega, by rw [hst2.out, if_pos hq.symm, prs_append, List.map_append, hR.out.2.1, List.append_assoc]; simp [prs, Itm.z, hPH.out], hown7, hoX.out.2.2.2.2.2.trans hbl7, hk7.out.1, hk7.out.2.1, Nat.lt_of_lt_of_le hxs.out.1 hgb7.size, by rcases hob7 with e | e <;> rw [e]; exact hR.out.2.2.2.2.2.2.2; intro e2; injection e2 with e2; have := hxs.out.2; simp at e2; omega⟩; clear hown7 hbl7 hgb7 hob7)
            refine hK.out _ _ ?_ (fun hHeld => ?_)
            · (try dsimp only); first | with_reducible exact hKeep.out _ hgD.out | exact hKeep.out _ hgD.out | exact hk7.out | exact hk6.out.2 | exact hk6.out.1 | exact hk5.out
            clear hK K
            try simp only [Act.put, List.setIfInBounds_toArray, List.set_cons_zero, List.set_cons_succ]
            refine wpAnyH_take (i := 21) (oi := ?ois22) (v := ?vs22) ?hops22 ?hss22 ?hfs22 ?hrs22 ?hQs22 ?hys22 (by assumption) ?rests22
            case hops22 => (simp only [List.getElem?_toArray, List.getElem?_cons_zero, List.getElem?_cons_succ]; rfl)
            case hss22 => kernel_rfl
            case hfs22 => kernel_rfl
            case hrs22 => kernel_rfl
            case hQs22 => exact fun _ _ _ h => h
            case hys22 => (refine Or.inl ⟨by rfl, ?_⟩; intro w hSw; (try dsimp only at hSw); go_simp <;> with_reducible rfl)
            try simp only [Act.put, List.setIfInBounds_toArray, List.set_cons_zero, List.set_cons_succ]
            refine wpAnyH_done (by kernel_rfl) ?_ _
            refine NoPanic.normal ?_
            go_wp2
            go_roundw
            case rel => exact ⟨m + 1, L ++ [(⟨C, cc, x.r ++ y.r, P⟩ : Itm)], by omega, by go_num, hfin⟩
            case measure => simp [intOf]; omega
          · have hq2 : (nn == vv) = false := beq_eq_false_iff_ne.2 hq
            have hfil : Hid (((b.take (m + 1)).map Itm.z).filter (fun z : Zit => decide (atI z.1 s.v = nn)) = ((b.take m).map Itm.z).filter (fun z : Zit => decide (atI z.1 s.v = nn))) := by show _ = _; rw [hst2.out, if_neg (fun e => hq e.symm), List.append_nil]
            have hfinG : Hid (∀ W, Gr wi W → (L.length ≤ k * 400 + m + 1 ∧ L.map Itm.z = pairL ((a.take k).map Itm.z) (b.map Itm.z) s.c s.v ++ prs x.z (((b.take (m + 1)).map Itm.z).filter fun z : Zit => decide (atI z.1 s.v = nn)) ∧ OwnT W w1.heap.size u7 L ∧ Below w1.heap.size w1 W ∧ W.cell? ⟨xb, 0, none⟩ = some (.slice (some ⟨rb, ro, none⟩) x.r.length x.c) ∧ W.cell? ⟨xb, 1, none⟩ = some (.int .i64 x.n) ∧ xb < W.heap.size ∧ u7.ownBlock ≠ some xb)) := fun W hg => ⟨by have := hR.out.1; omega, by rw [hfil.out]; exact hR.out.2.1, hR.out.2.2.1.gr hg, hR.out.2.2.2.1.trans (hg.below.mono hR.out.2.2.2.1.size), (hg.cell (p := ⟨xb, 0, none⟩) hR.out.2.2.2.2.2.2.1).trans hR.out.2.2.2.2.1, (hg.cell (p := ⟨xb, 1, none⟩) hR.out.2.2.2.2.2.2.1).trans hR.out.2.2.2.2.2.1, Nat.lt_of_lt_of_le hR.out.2.2.2.2.2.2.1 hg.below.size, hR.out.2.2.2.2.2.2.2⟩
            go_wp2
            go_quiet (fail)
            go_wp2
            go_roundw
            case rel => exact ⟨m + 1, L, by omega, by go_num, hfinG.out _ (gr_drewN _ _)⟩
            case measure => simp [intOf]; omega
        · have hltz2 : ¬ (m : Int) < (b.length : Int) := by omega
          have hke : b.take m = b := List.take_of_length_le (by omega)
          have hfin : Hid (L.length ≤ (k + 1) * 400 ∧ L.map Itm.z = pairL ((a.take (k + 1)).map Itm.z) (b.map Itm.z) s.c s.v ∧ OwnT wi w1.heap.size u7 L ∧ Below w1.heap.size w1 wi) := by
            have h1 := hR.out.1
            have h2 := hR.out.2.1
            rw [hke] at h2
            exact ⟨by rw [Nat.succ_mul]; omega, by rw [hst.out]; exact h2, hR.out.2.2.1, hR.out.2.2.2.1⟩
          clear hke
          go_wp2
          go_roundw
          case rel => exact ⟨k + 1, L, by omega, by go_num, rfl, hfin⟩
          case measure => simp [intOf]; omega
    · have hltz : ¬ (k : Int) < (a.length : Int) := by omega
      have hke : a.take k = a := List.take_of_length_le (by omega)
      have k0 : wr.cell? ⟨X, 0, none⟩ = some (.int .i64 4) := by rw [hSt.out.c0, hH.out.2.2.2.1]
      have hfin : Hid (L.map Itm.z = pairL (a.map Itm.z) (b.map Itm.z) s.c s.v ∧ ∃ A2 cap2, u7 = .slice A2 L.length cap2 ∧ Items wr A2 L ∧ Below w.heap.size w wr) := by
        obtain ⟨A2, cap2, hv2, _, hit, _⟩ := hR.out.2.2.1.items
        exact ⟨by have := hR.out.2.1; rw [hke] at this; exact this, A2, cap2, hv2, hit, hH.out.2.1.below.trans (hR.out.2.2.2.mono hH.out.2.1.below.size)⟩
      clear hke
      go_wp2_with fail
      refine Calls.mono (show Calls _ _ _ _ _ from onceN wr) ?_
      rintro e w4 ⟨C4, cp4, rfl, hb4⟩
      have hfin2 : Hid (L.map Itm.z = pairL (a.map Itm.z) (b.map Itm.z) s.c s.v ∧ ∃ A2 cap2, u7 = .slice A2 L.length cap2 ∧ Items w4 A2 L ∧ Below w.heap.size w w4) := by
        obtain ⟨h1, A2, cap2, h2, h3, h4⟩ := hfin.out
        exact ⟨h1, A2, cap2, h2, h3.below hb4, h4.trans (hb4.mono h4.size)⟩
      clear hb4
      go_wp2
      obtain ⟨uu, huu⟩ : ∃ uu, u7 = uu := ⟨_, rfl⟩
      rw [huu] at hfin2
      go_loopw [7, 15] (fun u i wq => u = uu ∧ i = .int .i64 0 ∧ wq = w4) (fun _ _ _ => 0)
      case atStart => exact ⟨huu, rfl, rfl⟩
      case round =>
        obtain ⟨rfl, rfl, rfl⟩ := hrel
        obtain ⟨h1, A2, cap2, rfl, h3, h4⟩ := hfin2.out
        have hfin3 : Hid (L.map Itm.z = pairL (a.map Itm.z) (b.map Itm.z) s.c s.v ∧ _ ∧ _) := ⟨h1, h3, h4⟩
        clear h1 h3 h4
        go_wp2
        go_ret
        exact ⟨L, A2, cap2, rfl, hfin3.out.1, hfin3.out.2.1, hfin3.out.2.2⟩
end Go.Proofs.YtnkpfhipgcmplaaGreatDoor
