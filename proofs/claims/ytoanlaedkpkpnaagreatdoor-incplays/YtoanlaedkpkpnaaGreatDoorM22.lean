/-
  viewref.Total: each row with its N in all, in order.
  viewref.row and viewref.Set: what the document takes for a row, for a set.
  What viewref.Made, Norm and Add answer, on plain lists.
-/
import Derived.Test.YtoanlaedkpkpnaaGreatDoorM21
import Derived.Test.YtoanlaedkpkpnaaGreatDoorM05
import Derived.Test.YtoanlaedkpkpnaaGreatDoorM04
import Derived.StringKeys
import Derived.Deep.RegionHeld3
import Derived.Test.YtoanlaedkpkpnaaGreatDoorM20
import Derived.Test.YtoanlaedkpkpnaaGreatDoorM08
namespace Go.Proofs.YtoanlaedkpkpnaaGreatDoor
open Go.RowKit Go.Sort Go.Maps

theorem Tryz.infoR : (Tryz.prog.info? 46).map (fun i => (i.zero, i.size, i.bytes)) = some (some (.slice none 0 0), 1, 24) := by kernel_rfl
theorem wpList_append_r (w : World) {ops : Array Oper} {rest : List Oper} {o : Oper} {a : Act} {Q : Exit → Act → World → Prop} (hgd : o.guard = none) (s x : Operand)
    (ho : o.op = .call { callee := .builtin .append, args := #[s, x], argTypes := #[76, 76] })
    (base : Nat) (v : Value) (l m : List Itm) (A : Option Addr) (cap : Nat) (hs : a.eval s = v) (hx : a.eval x = .slice A m.length cap) (hown : OwnG encR 1 46 w base v l) (hr : RowG encR 1 w A m) (hA : A = none → cap = 0)
    (hml : l.length + m.length ≤ maxLen) (hb : (l.length + m.length) * 24 ≤ 140737488355328) (hbase : base ≤ w.heap.size)
    (h : ∀ v' w', OwnG encR 1 46 w' base v' (l ++ m) → w.grownBy w' v.ownBlock → wpList Tryz.prog ops Q rest (a.put o.dst v') w') : wpList Tryz.prog ops Q (o :: rest) a w :=
  wpList_plain hgd fun _ hK => wp_append_g encR_len encR_one (by omega) 76 Tryz.underlying76 (.slice none 0 0) 24 Tryz.infoR rfl w s x ho base v l m A cap hs hx hown hr hA hml hb hbase fun v' w' h2 h3 => hK _ _ (h v' w' h2 h3)
theorem lawS : Keyed Tryz.prog 9 := string_keyed Tryz.underlying9
/-- What may be summed up. -/
structure Wd (l : List Itm) : Prop where
  len : l.length ≤ 400000
  row : ∀ x ∈ l, x.r.length ≤ 100 ∧ ∀ n ∈ x.r, I64 n
  wgt : ∀ x ∈ l, -2199023255552 ≤ x.n ∧ x.n ≤ 2199023255552
theorem Wd.bnd {l m : List Itm} (h : Wd l) (hm : ∀ x ∈ m, x ∈ l) (hl : m.length ≤ l.length) (r : List Int) : -879609302220800000 ≤ wt (m.map Itm.z) r ∧ wt (m.map Itm.z) r ≤ 879609302220800000 := by
  have := wt_bnd (B := 2199023255552) (by omega) (l := m.map Itm.z) (fun y hy => by
    obtain ⟨x, hx, rfl⟩ := List.mem_map.1 hy
    exact h.wgt x (hm x hx)) r
  have h1 := h.len
  simp at this
  omega
theorem map_below {H : Type} {w w' : World} {t e : TypeId} {b n : Nat} {D : DataW H} (h : w.ownsMap Tryz.prog t (plainElem Tryz.prog e) b n D) (k : Below w.heap.size w w') : w'.ownsMap Tryz.prog t (plainElem Tryz.prog e) b n D := h.kept (row := none) ⟨k.os, k.tape, k.output, k.size, fun j hj _ => k.block j hj⟩ (by simp)
/-- What the first loop keeps. -/
structure SInv (w wr : World) (l : List Itm) (k : Nat) (D : DataW Unit) : Prop where
  map : wr.ownsMap Tryz.prog 9 (plainElem Tryz.prog 3) w.heap.size k D
  sums : Sums D ((l.take k).map Itm.z)
  bel : Below w.heap.size w wr
  size : w.heap.size < wr.heap.size

theorem rowNewR {W : World} {n : Nat} (hn : W.heap.size = n) (x : Itm) (T : TypeId) : RowG encR 1 (W.alloc (.cells #[.slice x.p x.r.length x.c] T)) (some ⟨n, 0, none⟩) [x] := by
  subst hn
  refine Or.inr ⟨W.heap.size, 0, rfl, by simp, fun j hj i hi => ?_⟩
  obtain rfl : j = 0 := by simp at hj; omega
  obtain rfl : i = 0 := by omega
  exact box1 (w := W) (Gr.refl _) (j := 0) rfl
/-- slices.SortFunc at rows that are one's own. -/
theorem sortOwnR (base : Nat) (v : Value) (l : List Itm) (w : World) (hown : OwnG encR 1 46 w base v l) (hb : base ≤ w.heap.size) (he : ∀ x ∈ l, RowI w x.p x.r ∧ x.r.length ≤ maxLen ∧ (∀ a, x.p = some a → x.r ≠ [] → a.block < base)) (hsz : l.length < 4611686018427387904) :
    Calls Tryz.prog 39 #[v, .func (.func 40) #[] #[]] w fun e w' => e = .returned (.tuple #[]) ∧ (∃ (S : List Itm) (A : Option Addr) (cap : Nat), v = .slice A S.length cap ∧ S.Perm l ∧ Sorted (S.map Itm.z) ∧ RowG encR 1 w' A S ∧ (A = none → cap = 0)) ∧ Below base w w' := by
  obtain ⟨A, cap, rfl, hA, hrow, hcap, hlt, hfz⟩ := OwnG.full encR_len hown
  by_cases h0 : l = []
  · subst h0
    have hcon := AnyF.slices_SortFunc_none (P := Tryz.prog) { Tryz.sortRow with } A cap (.func (.func 40) #[] #[]) w
    change Calls Tryz.prog 39 _ _ _ at hcon
    refine hcon.mono ?_
    rintro e w' ⟨hee, rfl⟩
    exact ⟨hee, ⟨[], A, cap, rfl, List.Perm.refl _, List.Pairwise.nil, Or.inl rfl, hA⟩, Below.refl _ _⟩
  · have hpos : 0 < l.length := List.length_pos_iff.2 h0
    obtain ⟨b, off, hAe, hbb, _⟩ := hrow.at hpos
    subst hAe
    have h5 := hlt _ rfl
    obtain rfl : off = 0 := h5.2.2.1
    refine (sortRows b cap l w h0 hrow (hfz _ rfl) hbb (fun x hx => ?_) hsz).mono ?_
    · have h6 := he x hx
      refine ⟨h6.1, h6.2.1, fun a ha hr => ?_⟩
      have h7 := h6.2.2 a ha hr
      have h8 : base ≤ b := h5.1
      omega
    · rintro e w' ⟨he, ⟨S, hp, hs, hr⟩, hg⟩
      exact ⟨he, ⟨S, _, cap, by rw [hp.length_eq], hp, hs, hr, hA⟩, (Below.refl base w).grown hg hb (fun k e => by injection e with e; have := h5.1; simp only at this; omega)⟩

theorem step_append_i2 (w : World) {ops : Array Oper} {o : Oper} {a : Act} {K : Act → World → Prop} {Q : Exit → Act → World → Prop} {E : Prop} (hgd : o.guard = none) (s x : Operand)
    (ho : o.op = .call { callee := .builtin .append, args := #[s, x], argTypes := #[46, 46] })
    (base : Nat) (v : Value) (l m : List Int) (A : Option Addr) (cap : Nat) (hs : a.eval s = v) (hx : a.eval x = .slice A m.length cap) (hown : OwnG encI 1 3 w base v l) (hr : RowG encI 1 w A m) (hA : A = none → cap = 0)
    (hml : l.length + m.length ≤ maxLen) (hb : (l.length + m.length) * 8 ≤ 140737488355328) (hbase : base ≤ w.heap.size)
    (h : ∀ v' w', OwnG encI 1 3 w' base v' (l ++ m) → w.grownBy w' v.ownBlock → K (a.put o.dst v') w') :
    if Region.wanted o (yielded ops a.tmps) = true then Oper.wp Tryz.prog o a w K Q else E := by
  have hw : Region.wanted o (yielded ops a.tmps) = true := by simp [Region.wanted, hgd]
  rw [if_pos hw]
  exact wp_append_g encI_len encI_one (by omega) 46 Tryz.underlying46 (.int .i64 0) 8 Tryz.infoI rfl w s x ho base v l m A cap hs hx hown hr hA hml hb hbase h

set_option maxRecDepth 100000 in
set_option maxHeartbeats 4000000 in
theorem rtot_any (l : List Itm) (A : Option Addr) (c : Nat) (w : World) (hl : Wd l) (hr : Items w A l) (ht : Tens w) :
    Calls Tryz.prog 22 #[.slice A l.length c] w fun e w' => ∃ (L : List Itm) (C : Option Addr) (k : Nat), e = .returned (.slice C L.length k) ∧ L.map Itm.z = totL (l.map Itm.z) ∧ Items w' C L ∧ NilC C L.length k ∧ Below w.heap.size w w' ∧ NewT w.heap.size C L := by
  have mixed : Tryz.prog.follows .mixedOrders = true := by kernel_rfl
  have hlen := hl.len
  have hH : Hid (Items w A l ∧ Tens w ∧ Wd l) := ⟨hr, ht, hl⟩
  clear hr ht hl
  have hmm := @run_makeMap Tryz.prog
  go_enter Tryz.func22, Tryz.ntmps22
  go_wp2
  go_loopw [4] (fun i wr => ∃ (k : Nat) (D : DataW Unit), k ≤ l.length ∧ i = .int .i64 k ∧ Hid (SInv w wr l k D)) (fun i _ => l.length - (intOf i).toNat)
  case atStart => exact ⟨0, .map [], Nat.zero_le _, rfl, show SInv _ _ _ _ _ from ⟨World.ownsMap_made _ _ _ _, Sums.nil, (Below.refl _ _).alloc (Nat.le_refl _) _, by simp⟩⟩
  case round =>
    obtain ⟨k, D, hk, rfl, hR⟩ := hrel
    by_cases hlt : k < l.length
    · have hltz : (k : Int) < (l.length : Int) := by omega
      have hI : Hid (Items wr A l) := hH.out.1.below hR.out.bel
      obtain ⟨bb, off, rfl, hb, hcs⟩ := hI.out.at hlt
      obtain ⟨x, hx⟩ : ∃ x, l[k] = x := ⟨_, rfl⟩
      obtain ⟨e0, e1⟩ := hcs k hlt
      rw [hx] at e0 e1
      have hxm : x ∈ l := by rw [← hx]; exact List.getElem_mem hlt
      have htk : Hid ((l.take (k + 1)).map Itm.z = (l.take k).map Itm.z ++ [x.z]) := by show _ = _; rw [List.take_succ_eq_append_getElem hlt, hx, List.map_append]; rfl
      obtain ⟨N, hN⟩ : ∃ N, wt ((l.take k).map Itm.z) x.r = N := ⟨_, rfl⟩
      have hNb := hH.out.2.2.bnd (m := l.take k) (fun y hy => List.mem_of_mem_take hy) (by simp; omega) x.r
      rw [hN] at hNb
      have hxw := hH.out.2.2.wgt x hxm
      obtain ⟨T, hT⟩ : ∃ T, N + x.n = T := ⟨_, rfl⟩
      have hwr : IntKind.i64.wrap (N + x.n) = T := by rw [IntKind.wrap_i64]; omega
      have hwl : (Lit.int .i64 T).wf = true := WalkArith.wf_i64 ⟨by omega, by omega⟩
      obtain ⟨NM, hNM⟩ : ∃ NM : ByteArray, NM = ⟨(nmL x.r).toArray⟩ := ⟨_, rfl⟩
      have hxr := hH.out.2.2.row x hxm
      have hnl : (nmL x.r).length ≤ 2200 := by have := nmL_len hxr.2; omega
      have hkey : Hid (keyOf Tryz.prog 9 (.string NM) = some (.string (nmL x.r))) := by
        show _ = _
        rw [WideMaps.keyOf_string_mk Tryz.underlying9 (by rw [hNM]; simp [ByteArray.size, maxLen]; omega), hNM]
      have hN0 : Hid (∀ W, Gr wr W → Calls Tryz.prog 38 #[.slice x.p x.r.length x.c] W fun e w' => e = .returned (.string NM) ∧ Gr W w') := fun W h => by
        rw [hNM]
        exact name_any x.r x.p x.c W hxr.1 hxr.2 ((hI.out.each x hxm).1.gr h) ((hH.out.2.1.below hR.out.bel).gr h)
      have hAt : Hid (D.atKey (.string (nmL x.r)) (.lit (.int .i64 0)) = .lit (.int .i64 N) ∧ N + x.n = T) := ⟨by rw [hR.out.sums.at', hN], hT⟩
      have hNT : Hid (wt ((l.take k).map Itm.z) x.r = N) := hN
      have hcell : Hid (∀ W, Gr wr W → W.cell? ⟨bb, off + k * 2, none⟩ = some (.slice x.p x.r.length x.c) ∧ W.cell? ⟨bb, off + k * 2 + 1, none⟩ = some (.int .i64 x.n)) := fun W h => ⟨(h.cell (p := ⟨bb, off + k * 2, none⟩) hb).trans e0, (h.cell (p := ⟨bb, off + k * 2 + 1, none⟩) hb).trans e1⟩
      have hUp : Hid (∀ W, Gr wr W → (Instr.lookup 74 (.map (some w.heap.size)) (.string NM) false).run Tryz.prog W = .ok (.int .i64 N) W ∧ ∃ W', (Instr.mapUpdate 74 (.map (some w.heap.size)) (.string NM) (.int .i64 T)).run Tryz.prog W = .ok () W' ∧ SInv w W' l (k + 1) (D.put (.string (nmL x.r)) (.lit (.int .i64 T)))) := fun W h => by
        have hm := map_below hR.out.map h.below
        obtain ⟨c, h1, h2, _⟩ := hm.lookup_int lawS Tryz.underlying74 Tryz.underlying3 (by kernel_rfl) hkey.out
        rw [hAt.out.1] at h2
        obtain rfl : N = c := by cases h2; rfl
        refine ⟨h1, ?_⟩
        obtain ⟨W', u1, u2, u3⟩ := hm.update lawS Tryz.underlying74 (by unfold maxLen; omega) hkey.out (plainElem_int Tryz.underlying3 hwl)
        refine ⟨W', u1, u2, ?_, ?_, ?_⟩
        · rw [htk.out]
          have := hR.out.sums.more x.z
          rw [show wt ((l.take k).map Itm.z) x.z.1 = N from hNT.out, show x.z.2 = x.n from rfl, hAt.out.2] at this
          exact this
        · exact (hR.out.bel.trans (h.below.mono hR.out.bel.size)).grown u3 (Nat.le_trans hR.out.bel.size h.size) (fun j e => by injection e with e; omega)
        · exact Nat.lt_of_lt_of_le hR.out.size (Nat.le_trans h.size u3.size)
      have hin : (0 : Int) ≤ (k : Int) := by omega
      clear hcs hx hxm hN hNb hxw hT hwl hNM hxr hnl
      go_wp2
      go_region_with (go_at_call 38; refine Calls.mono (hN0.out _ (Gr.refl _).drew) ?_; rintro e w2 ⟨rfl, hg2⟩; have hg2' : Gr wr w2 := (Gr.refl wr).drew.trans hg2; obtain ⟨q0, q1⟩ := hcell.out w2 hg2'; obtain ⟨q2, W3, q3, hS3⟩ := hUp.out w2 hg2'; have hS3H : Hid _ := hS3; clear hS3 hg2')
      all_goals
        go_wp2
        go_roundw
        case rel => exact ⟨k + 1, _, by omega, by go_num, hS3H⟩
        case measure => simp [intOf]; omega
    · have hltz : ¬ (k : Int) < (l.length : Int) := by omega
      have hS1 : Hid (SInv w wr l l.length D) := by
        have h1 := hR.out
        obtain rfl : k = l.length := by omega
        exact h1
      clear hR
      go_wp2
      obtain ⟨w1, hw1⟩ : ∃ W, wr = W := ⟨_, rfl⟩
      rw [hw1] at hS1 ⊢
      clear hw1
      go_loopw [5, 6] (fun u i wr => ∃ j : Nat, j ≤ l.length ∧ i = .int .i64 j ∧ Hid (OwnG encR 1 46 wr w1.heap.size u (l.take j) ∧ Below w1.heap.size w1 wr)) (fun _ i _ => l.length - (intOf i).toNat)
      case atStart => exact ⟨0, Nat.zero_le _, rfl, OwnG.nil _ _ _ _ _, Below.refl _ _⟩
      case round =>
        obtain ⟨j, hj, rfl, hR2⟩ := hrel
        by_cases hlt : j < l.length
        · have hltz : (j : Int) < (l.length : Int) := by omega
          have hI : Hid (Items wr A l) := (hH.out.1.below hS1.out.bel).below hR2.out.2
          obtain ⟨bb, off, rfl, hb, hcs⟩ := hI.out.at hlt
          obtain ⟨x, hx⟩ : ∃ x, l[j] = x := ⟨_, rfl⟩
          obtain ⟨e0, e1⟩ := hcs j hlt
          rw [hx] at e0 e1
          have htk : Hid (l.take (j + 1) = l.take j ++ [x]) := by show _ = _; rw [List.take_succ_eq_append_getElem hlt, hx]
          clear hcs hx e1
          have hoX : Hid (OwnG encR 1 46 (wr.alloc (.cells #[.slice x.p x.r.length x.c] 46)) w1.heap.size u5 (l.take j) ∧ RowG encR 1 (wr.alloc (.cells #[.slice x.p x.r.length x.c] 46)) (some ⟨wr.heap.size, 0, none⟩) [x] ∧ (l.take j).length + [x].length ≤ maxLen ∧ ((l.take j).length + [x].length) * 24 ≤ 140737488355328 ∧ Below w1.heap.size w1 (wr.alloc (.cells #[.slice x.p x.r.length x.c] 46))) := by
            refine ⟨hR2.out.1.gr ((Gr.refl _).alloc _), rowNewR rfl x _, by unfold maxLen; simp; omega, by simp; omega, hR2.out.2.alloc hR2.out.2.size _⟩
          go_wp2_with (at_builtin; refine wpList_append_r _ rfl _ _ rfl w1.heap.size u5 (l.take j) [x] (some ⟨wr.heap.size, 0, none⟩) 1 rfl rfl hoX.out.1 hoX.out.2.1 (fun h => by cases h) hoX.out.2.2.1 hoX.out.2.2.2.1 hoX.out.2.2.2.2.size ?_; intro v3 w3 hown3 hg3)
          have hfin : Hid (OwnG encR 1 46 w3 w1.heap.size v3 (l.take (j + 1)) ∧ Below w1.heap.size w1 w3) := ⟨by rw [htk.out]; exact hown3, hoX.out.2.2.2.2.trans (hoX.out.1.grown_below hg3 hoX.out.2.2.2.2.size)⟩
          clear hown3 hg3
          go_wp2
          go_roundw
          case rel => exact ⟨j + 1, by omega, by go_num, hfin⟩
          case measure => simp [intOf]; omega
        · have hltz : ¬ (j : Int) < (l.length : Int) := by omega
          have hO : Hid (OwnG encR 1 46 wr w1.heap.size u5 l ∧ Below w1.heap.size w1 wr) := by
            have h1 := hR2.out
            rw [List.take_of_length_le (by omega)] at h1
            exact h1
          clear hR2
          have hSo0 := sortOwnR w1.heap.size u5 l wr hO.out.1 hO.out.2.size (fun x hx => by
            have h := (hH.out.1.below hS1.out.bel).each x hx
            exact ⟨h.1.below hO.out.2, h.2.1, fun a ha hr => h.1.lt a ha hr⟩) (by omega)
          have hSo : Hid _ := hSo0
          clear hSo0
          go_wp2_with fail
          refine Calls.mono (show Calls _ _ _ _ _ from hSo.out) ?_
          rintro e w2 ⟨rfl, ⟨S, G, cap, hv, hperm, hsort, hrow, hG⟩, hb2⟩
          subst hv
          have hS : Hid (S.Perm l ∧ Sorted (S.map Itm.z) ∧ RowG encR 1 w2 G S ∧ SInv w w2 l l.length D ∧ Items w2 A l ∧ Tens w2) := by
            have hb12 := hO.out.2.trans hb2
            have hbw := hS1.out.bel.trans (hb12.mono hS1.out.bel.size)
            exact ⟨hperm, hsort, hrow, ⟨map_below hS1.out.map hb12, hS1.out.sums, hbw, Nat.lt_of_lt_of_le hS1.out.size hb12.size⟩, hH.out.1.below hbw, hH.out.2.1.below hbw⟩
          have hSl : S.length = l.length := hperm.length_eq
          clear hSo hperm hsort hrow hG hb2 hO hS1
          have hSlH : Hid (S.length = l.length) := hSl
          have hS4 : S.length ≤ 400000 := by omega
          clear hSl
          go_wp2
          go_loopw [7, 8] (fun u i wr => ∃ (j : Nat) (L : List Itm), j ≤ S.length ∧ i = .int .i64 j ∧ Hid (UpR (l.map Itm.z) (S.map Itm.z) j (L.map Itm.z) ∧ OwnT wr w2.heap.size u L ∧ Below w2.heap.size w2 wr)) (fun _ i _ => S.length - (intOf i).toNat)
          case atStart => exact ⟨0, [], Nat.zero_le _, rfl, UpR.zero _ _, OwnT.nil _ _, Below.refl _ _⟩
          case round =>
            obtain ⟨j, L, hj, rfl, hR⟩ := hrel
            by_cases hlt : j < S.length
            · have hltz : (j : Int) < (S.length : Int) := by omega
              obtain ⟨g, off, rfl, hg, hcs⟩ := (hS.out.2.2.1.below hR.out.2.2).at hlt
              obtain ⟨x, hx⟩ : ∃ x, S[j] = x := ⟨_, rfl⟩
              have e0 : wr.cell? ⟨g, off + j, none⟩ = some (.slice x.p x.r.length x.c) := by
                have := hcs j hlt 0 (by omega)
                rw [hx] at this
                simpa [encR] using this
              have hxl : x ∈ l := hS.out.1.mem_iff.1 (by rw [← hx]; exact List.getElem_mem hlt)
              have hxr := hH.out.2.2.row x hxl
              have hxI := (hS.out.2.2.2.2.1.below hR.out.2.2).each x hxl
              obtain ⟨N, hN⟩ : ∃ N, wt (l.map Itm.z) x.r = N := ⟨_, rfl⟩
              obtain ⟨NM, hNM⟩ : ∃ NM : ByteArray, NM = ⟨(nmL x.r).toArray⟩ := ⟨_, rfl⟩
              have hnl : (nmL x.r).length ≤ 2200 := by have := nmL_len hxr.2; omega
              have hkey : keyOf Tryz.prog 9 (.string NM) = some (.string (nmL x.r)) := by
                rw [WideMaps.keyOf_string_mk Tryz.underlying9 (by rw [hNM]; simp [ByteArray.size, maxLen]; omega), hNM]
              have hNm : Hid (∀ W, Below wr.heap.size wr W → Calls Tryz.prog 38 #[.slice x.p x.r.length x.c] W fun e w' => e = .returned (.string NM) ∧ Gr W w') := fun W h => by
                rw [hNM]
                exact name_any x.r x.p x.c W hxr.1 hxr.2 (hxI.1.below h) ((hS.out.2.2.2.2.2.below hR.out.2.2).below h)
              have hLk : Hid (∀ W, Below wr.heap.size wr W → (Instr.lookup 74 (.map (some w.heap.size)) (.string NM) false).run Tryz.prog W = .ok (.int .i64 N) W) := fun W h => by
                have hm := map_below (map_below hS.out.2.2.2.1.map hR.out.2.2) h
                obtain ⟨c, h1, h2, _⟩ := hm.lookup_int lawS Tryz.underlying74 Tryz.underlying3 (by kernel_rfl) hkey
                have h3 := hS.out.2.2.2.1.sums.at' x.r
                rw [List.take_of_length_le (Nat.le_refl _), hN] at h3
                rw [h3] at h2
                obtain rfl : N = c := by cases h2; rfl
                exact h1
              have hjz : j < (S.map Itm.z).length := by simpa using hlt
              have hzx : ((S.map Itm.z)[j]).1 = x.r := by rw [List.getElem_map, hx]; rfl
              have hdupH : Hid (∀ (_ : 0 < j) (y : Itm), S[j - 1]'(by omega) = y → cmpL y.r x.r = 0 → UpR (l.map Itm.z) (S.map Itm.z) (j + 1) (L.map Itm.z)) := fun h0 y hy hc => by
                refine hR.out.1.dup hjz (dup_has hjz h0 ?_)
                rw [hzx, List.getElem_map, hy]; exact hc
              have hnoneH : Hid (N = 0 → UpR (l.map Itm.z) (S.map Itm.z) (j + 1) (L.map Itm.z)) := fun h => hR.out.1.none hjz (by rw [hzx, hN]; exact h)
              have hmoreH : Hid ((j = 0 ∨ ∃ (_ : 0 < j) (y : Itm), S[j - 1]'(by omega) = y ∧ cmpL y.r x.r ≠ 0) → N ≠ 0 → UpR (l.map Itm.z) (S.map Itm.z) (j + 1) (L.map Itm.z ++ [(x.r, N)])) := fun h h0 => by
                have := hR.out.1.more hjz (ahead_lt hS.out.2.1 hjz (by
                  rcases h with h | ⟨h1, y, hy, hc⟩
                  · exact Or.inl h
                  · exact Or.inr ⟨h1, by rw [hzx, List.getElem_map, hy]; exact hc⟩)) (by rw [hzx, hN]; exact h0)
                rw [hzx, hN] at this
                exact this
              have hxc : Hid (RowI wr x.p x.r ∧ (x.p = none → x.c = 0) ∧ x.r.length ≤ 100) := ⟨hxI.1, hxI.2.2, hxr.1⟩
              have g0 := (Gr.refl wr).cellG hg e0
              have hLg : ∀ n os, (Instr.lookup 74 (.map (some w.heap.size)) (.string NM) false).run Tryz.prog (grow (wr.drewN n) os) = .ok (.int .i64 N) (grow (wr.drewN n) os) := fun n os => hLk.out _ (show Gr wr _ from ⟨n, os, rfl⟩).below
              have hNg : Hid (∀ n os, Calls Tryz.prog 38 #[.slice x.p x.r.length x.c] (grow (wr.drewN n) os) fun e w' => e = .returned (.string NM) ∧ ∃ q os', w' = grow ((grow (wr.drewN n) os).drewN q) os') := fun n os => hNm.out _ (show Gr wr _ from ⟨n, os, rfl⟩).below
              have hH3 : Hid (OwnT wr w2.heap.size u7 L ∧ Below w2.heap.size w2 wr ∧ L.length ≤ j) := ⟨hR.out.2.1, hR.out.2.2, by have := hR.out.1.len; simpa using this⟩
              have hkeyH : Hid (keyOf Tryz.prog 9 (.string NM) = some (.string (nmL x.r))) := hkey
              have hNH : Hid (wt (l.map Itm.z) x.r = N) := hN
              clear hxl hxr hxI hN hNM hnl hkey hjz hzx
              have hgo : Hid (∀ (h : j = 0 ∨ ∃ (_ : 0 < j) (y : Itm), S[j - 1]'(by omega) = y ∧ cmpL y.r x.r ≠ 0), True) := fun _ => trivial
              clear hgo
              by_cases hj0 : j = 0
              · have hmore2 : Hid (N ≠ 0 → UpR (l.map Itm.z) (S.map Itm.z) (j + 1) (L.map Itm.z ++ [(x.r, N)])) := hmoreH.out (Or.inl hj0)
                clear hdupH hmoreH hcs hx
                subst hj0
                have e0 : wr.cell? ⟨g, off, none⟩ = some (.slice x.p x.r.length x.c) := by simpa using e0
                have g0 := (Gr.refl wr).cellG hg e0
                cases hNb : (N == 0)
                · have hN0 : N ≠ 0 := by simpa using hNb
                  have hup : Hid (UpR (l.map Itm.z) (S.map Itm.z) (0 + 1) (L.map Itm.z ++ [(x.r, N)])) := hmore2.out hN0
                  clear hmore2 hnoneH hN0
                  go_wp2
                  refine wp_region_quiet_grown mixed (by kernel_rfl) ?_
                  repeat (go_big_quiet_step (first | (go_at_call 38; refine Calls.grown_of (hNg.out _ _))))
                  refine wpQuiet_nil ?_
                  rintro _ ⟨⟨nq, osq⟩, rfl⟩
                  have hgq : Hid (Gr wr (grow (wr.drewN nq) osq)) := ⟨nq, osq, rfl⟩
                  obtain ⟨w5, hw5⟩ : ∃ W, grow (wr.drewN nq) osq = W := ⟨_, rfl⟩
                  rw [hw5] at hgq ⊢
                  clear hw5
                  go_wp2
                  have hKeep : Hid (∀ W', Below w5.heap.size w5 W' → (fun w' => w'.cell? ⟨g, off, none⟩ = some (.slice x.p x.r.length x.c) ∧ (Instr.lookup 74 (.map (some w.heap.size)) (.string NM) false).run Tryz.prog w' = .ok (.int .i64 N) w') W') := fun W' h => by
                    have h1 := hgq.out.below.trans (h.mono hgq.out.size)
                    exact ⟨(h1.cell (p := ⟨g, off, none⟩) hg).trans e0, hLk.out _ h1⟩
                  have hB5 : Hid (Below w5.heap.size w5 w5.drew) := (Gr.refl w5).drew.below
                  have hap : Hid (∀ W, Below w5.heap.size w5 W → RowI W x.p x.r ∧ (x.p = none → x.c = 0) ∧ 0 + x.r.length ≤ maxLen ∧ (0 + x.r.length) * 8 ≤ 140737488355328) := fun W h => ⟨hxc.out.1.below (hgq.out.below.trans (h.mono hgq.out.size)), hxc.out.2.1, by have := hxc.out.2.2; unfold maxLen; omega, by have := hxc.out.2.2; omega⟩
                  have hNm5 : Hid (∀ W, Below w5.heap.size w5 W → Calls Tryz.prog 38 #[.slice x.p x.r.length x.c] W fun e w' => e = .returned (.string NM) ∧ Gr W w') := fun W h => hNm.out W (hgq.out.below.trans (h.mono hgq.out.size))
                  have hoF : Hid (∀ W C c, Below w5.heap.size w5 W → RowI W C x.r → (C = none → c = 0) → (∀ a, C = some a → w5.heap.size ≤ a.block ∧ a.block < W.heap.size) → OwnT (W.alloc (.cells #[.slice C x.r.length c, .int .i64 N] 59)) w2.heap.size u7 L ∧ Apart (W.alloc (.cells #[.slice C x.r.length c, .int .i64 N] 59)) w2.heap.size u7.ownBlock ⟨C, c, x.r, N⟩ ∧ L.length + 1 ≤ maxLen ∧ (L.length + 1) * 32 ≤ 140737488355328 ∧ Below w2.heap.size w2 (W.alloc (.cells #[.slice C x.r.length c, .int .i64 N] 59))) := fun W C c h hrow hC hlt => by
                    have hA := h.alloc h.size (.cells #[.slice C x.r.length c, .int .i64 N] 59)
                    have hA2 := hgq.out.below.trans (hA.mono hgq.out.size)
                    have hlj := hH3.out.2.2
                    refine ⟨hH3.out.1.below hA2, ⟨hrow.gr ((Gr.refl _).alloc _), by have := hxc.out.2.2; show x.r.length ≤ _; unfold maxLen; omega, hC, fun a ha => ⟨?_, ?_, ?_⟩⟩, by unfold maxLen; omega, by omega, hH3.out.2.1.trans (hA2.mono hH3.out.2.1.size)⟩
                    · have h1 := (hlt a ha).1; have h2 := hgq.out.size; have h3 := hH3.out.2.1.size; omega
                    · have h1 := (hlt a ha).2; simp; omega
                    · intro e
                      have h1 := (hlt a ha).1
                      have h2 := (World.ownsRow.lt hH3.out.1.own a.block e).2
                      have h3 := hgq.out.size
                      omega
                  have hKeep2 : Hid (∀ W C c W', Below w5.heap.size w5 W → (W.alloc (.cells #[.slice C x.r.length c, .int .i64 N] 59)).grownBy W' u7.ownBlock → Below w2.heap.size w2 (W.alloc (.cells #[.slice C x.r.length c, .int .i64 N] 59)) → (fun w' => w'.cell? ⟨g, off, none⟩ = some (.slice x.p x.r.length x.c) ∧ (Instr.lookup 74 (.map (some w.heap.size)) (.string NM) false).run Tryz.prog w' = .ok (.int .i64 N) w') W') := fun W C c W' h hg' _ => by
                    have hA := h.alloc h.size (.cells #[.slice C x.r.length c, .int .i64 N] 59)
                    have hA2 := hgq.out.below.trans (hA.mono hgq.out.size)
                    have hbb : Below w2.heap.size (W.alloc (.cells #[.slice C x.r.length c, .int .i64 N] 59)) W' := OwnG.grown_below (hH3.out.1.below hA2).own hg' (Nat.le_trans hH3.out.2.1.size hA2.size)
                    have hb2 : Below w2.heap.size w2 W' := (hH3.out.2.1.trans (hA2.mono hH3.out.2.1.size)).trans hbb
                    obtain ⟨b0, o0, hb0, hlt0, hc0⟩ := hS.out.2.2.1.at hlt
                    cases hb0
                    refine ⟨?_, ?_⟩
                    · have h1 := hb2.cell (p := ⟨g, off, none⟩) hlt0
                      have h2 := hH3.out.2.1.cell (p := ⟨g, off, none⟩) hlt0
                      exact (h1.trans h2.symm).trans e0
                    · have hm := map_below hS.out.2.2.2.1.map hb2
                      obtain ⟨c', h1, h2, _⟩ := hm.lookup_int lawS Tryz.underlying74 Tryz.underlying3 (by kernel_rfl) hkeyH.out
                      have h3 := hS.out.2.2.2.1.sums.at' x.r
                      rw [List.take_of_length_le (Nat.le_refl _), hNH.out] at h3
                      rw [h3] at h2
                      obtain rfl : N = c' := by cases h2; rfl
                      exact h1
                  refine wp_region_noPanic ?_
                  refine wp_region_held_drew (S := (fun w' => w'.cell? ⟨g, off, none⟩ = some (.slice x.p x.r.length x.c) ∧ (Instr.lookup 74 (.map (some w.heap.size)) (.string NM) false).run Tryz.prog w' = .ok (.int .i64 N) w')) (by kernel_rfl) (hKeep.out _ hB5.out) (fun hHeld => ?_)
                  refine wpAnyH_take (i := 0) (oi := ?ois1) (v := ?vs1) ?hops1 ?hss1 ?hfs1 ?hrs1 ?hQs1 ?hys1 (by assumption) ?rests1
                  case hops1 => (simp only [List.getElem?_toArray, List.getElem?_cons_zero]; rfl)
                  case hss1 => kernel_rfl
                  case hfs1 => kernel_rfl
                  case hrs1 => kernel_rfl
                  case hQs1 => exact fun _ _ _ h => h
                  case hys1 => (refine Or.inl ⟨by rfl, ?_⟩; intro w hSw; (try dsimp only at hSw); go_simp <;> with_reducible rfl)
                  try simp only [Act.put, List.setIfInBounds_toArray, List.set_cons_zero, List.set_cons_succ]
                  refine wpAnyH_take (i := 1) (oi := ?ois2) (v := ?vs2) ?hops2 ?hss2 ?hfs2 ?hrs2 ?hQs2 ?hys2 (by assumption) ?rests2
                  case hops2 => (simp only [List.getElem?_toArray, List.getElem?_cons_zero, List.getElem?_cons_succ]; rfl)
                  case hss2 => kernel_rfl
                  case hfs2 => kernel_rfl
                  case hrs2 => kernel_rfl
                  case hQs2 => exact fun _ _ _ h => h
                  case hys2 => (refine Or.inl ⟨by rfl, ?_⟩; intro w hSw; (try dsimp only at hSw); go_simp <;> with_reducible rfl)
                  try simp only [Act.put, List.setIfInBounds_toArray, List.set_cons_zero, List.set_cons_succ]
                  refine wpAnyH_take (i := 2) (oi := ?ois3) (v := ?vs3) ?hops3 ?hss3 ?hfs3 ?hrs3 ?hQs3 ?hys3 (by assumption) ?rests3
                  case hops3 => (simp only [List.getElem?_toArray, List.getElem?_cons_zero, List.getElem?_cons_succ]; rfl)
                  case hss3 => kernel_rfl
                  case hfs3 => kernel_rfl
                  case hrs3 => kernel_rfl
                  case hQs3 => exact fun _ _ _ h => h
                  case hys3 => (refine Or.inl ⟨by rfl, ?_⟩; intro w hSw; (try dsimp only at hSw); go_simp <;> with_reducible rfl)
                  try simp only [Act.put, List.setIfInBounds_toArray, List.set_cons_zero, List.set_cons_succ]
                  refine wpAnyH_take (i := 3) (oi := ?ois4) (v := ?vs4) ?hops4 ?hss4 ?hfs4 ?hrs4 ?hQs4 ?hys4 (by assumption) ?rests4
                  case hops4 => (simp only [List.getElem?_toArray, List.getElem?_cons_zero, List.getElem?_cons_succ]; rfl)
                  case hss4 => kernel_rfl
                  case hfs4 => kernel_rfl
                  case hrs4 => kernel_rfl
                  case hQs4 => exact fun _ _ _ h => h
                  case hys4 => (refine Or.inl ⟨by rfl, ?_⟩; intro w hSw; (try dsimp only at hSw); go_simp <;> with_reducible rfl)
                  try simp only [Act.put, List.setIfInBounds_toArray, List.set_cons_zero, List.set_cons_succ]
                  refine wpAnyH_take (i := 4) (oi := ?ois5) (v := ?vs5) ?hops5 ?hss5 ?hfs5 ?hrs5 ?hQs5 ?hys5 (by assumption) ?rests5
                  case hops5 => (simp only [List.getElem?_toArray, List.getElem?_cons_zero, List.getElem?_cons_succ]; rfl)
                  case hss5 => kernel_rfl
                  case hfs5 => kernel_rfl
                  case hrs5 => kernel_rfl
                  case hQs5 => exact fun _ _ _ h => h
                  case hys5 => (refine Or.inl ⟨by rfl, ?_⟩; intro w hSw; (try dsimp only at hSw); go_simp <;> with_reducible rfl)
                  try simp only [Act.put, List.setIfInBounds_toArray, List.set_cons_zero, List.set_cons_succ]
                  refine wpAnyH_take (i := 6) (oi := ?ois6) (v := ?vs6) ?hops6 ?hss6 ?hfs6 ?hrs6 ?hQs6 ?hys6 (by assumption) ?rests6
                  case hops6 => (simp only [List.getElem?_toArray, List.getElem?_cons_zero, List.getElem?_cons_succ]; rfl)
                  case hss6 => kernel_rfl
                  case hfs6 => kernel_rfl
                  case hrs6 => kernel_rfl
                  case hQs6 => exact fun _ _ _ h => h
                  case hys6 => (refine Or.inl ⟨by rfl, ?_⟩; intro w hSw; (try dsimp only at hSw); go_simp <;> with_reducible rfl)
                  try simp only [Act.put, List.setIfInBounds_toArray, List.set_cons_zero, List.set_cons_succ]
                  refine wpAnyH_take (i := 7) (oi := ?ois7) (v := ?vs7) ?hops7 ?hss7 ?hfs7 ?hrs7 ?hQs7 ?hys7 (by assumption) ?rests7
                  case hops7 => (simp only [List.getElem?_toArray, List.getElem?_cons_zero, List.getElem?_cons_succ]; rfl)
                  case hss7 => kernel_rfl
                  case hfs7 => kernel_rfl
                  case hrs7 => kernel_rfl
                  case hQs7 => exact fun _ _ _ h => h
                  case hys7 => (refine Or.inl ⟨by rfl, ?_⟩; intro w hSw; (try dsimp only at hSw); go_simp <;> with_reducible rfl)
                  try simp only [Act.put, List.setIfInBounds_toArray, List.set_cons_zero, List.set_cons_succ]
                  refine wpAnyH_take (i := 8) (oi := ?ois8) (v := ?vs8) ?hops8 ?hss8 ?hfs8 ?hrs8 ?hQs8 ?hys8 (by assumption) ?rests8
                  case hops8 => (simp only [List.getElem?_toArray, List.getElem?_cons_zero, List.getElem?_cons_succ]; rfl)
                  case hss8 => kernel_rfl
                  case hfs8 => kernel_rfl
                  case hrs8 => kernel_rfl
                  case hQs8 => exact fun _ _ _ h => h
                  case hys8 => (refine Or.inl ⟨by rfl, ?_⟩; intro w hSw; (try dsimp only at hSw); go_simp <;> with_reducible rfl)
                  try simp only [Act.put, List.setIfInBounds_toArray, List.set_cons_zero, List.set_cons_succ]
                  refine wpAnyH_take (i := 9) (oi := ?ois9) (v := ?vs9) ?hops9 ?hss9 ?hfs9 ?hrs9 ?hQs9 ?hys9 (by assumption) ?rests9
                  case hops9 => (simp only [List.getElem?_toArray, List.getElem?_cons_zero, List.getElem?_cons_succ]; rfl)
                  case hss9 => kernel_rfl
                  case hfs9 => kernel_rfl
                  case hrs9 => kernel_rfl
                  case hQs9 => exact fun _ _ _ h => h
                  case hys9 => (refine Or.inl ⟨by rfl, ?_⟩; intro w hSw; (try dsimp only at hSw); go_simp <;> with_reducible rfl)
                  try simp only [Act.put, List.setIfInBounds_toArray, List.set_cons_zero, List.set_cons_succ]
                  refine wpAnyH_take (i := 10) (oi := ?ois10) (v := ?vs10) ?hops10 ?hss10 ?hfs10 ?hrs10 ?hQs10 ?hys10 (by assumption) ?rests10
                  case hops10 => (simp only [List.getElem?_toArray, List.getElem?_cons_zero, List.getElem?_cons_succ]; rfl)
                  case hss10 => kernel_rfl
                  case hfs10 => kernel_rfl
                  case hrs10 => kernel_rfl
                  case hQs10 => exact fun _ _ _ h => h
                  case hys10 => (refine Or.inl ⟨by rfl, ?_⟩; intro w hSw; (try dsimp only at hSw); go_simp <;> with_reducible rfl)
                  try simp only [Act.put, List.setIfInBounds_toArray, List.set_cons_zero, List.set_cons_succ]
                  refine wpAnyH_ready (rs := [5]) (by kernel_rfl) (by simp) ?_
                  refine AllReadyH.cons (o := ?ois11) ?hops11 (fun K hK => ?steps11) ?mores11
                  case hops11 => (simp only [List.getElem?_toArray, List.getElem?_cons_zero, List.getElem?_cons_succ]; rfl)
                  case mores11 => exact AllReadyH.nil
                  (refine step_append_i2 _ rfl (.const (.slice none 0 0)) (.tmp 81) rfl w5.drew.heap.size (.slice none 0 0) [] x.r x.p x.c rfl rfl (OwnG.nil _ _ _ _ _) (hap.out _ hB5.out).1 (hap.out _ hB5.out).2.1 (hap.out _ hB5.out).2.2.1 (hap.out _ hB5.out).2.2.2 (Nat.le_refl _) ?_; intro v7 w7 hown7 hgr7; obtain ⟨C, c7, rfl, hC, hrow, hlt7⟩ := OwnG.row encI_len hown7; have hb7 : Below w5.drew.heap.size w5.drew w7 := below_none hgr7; have hB7 : Hid (Below w5.heap.size w5 w7) := hB5.out.trans (hb7.mono hB5.out.size); have hC7 : Hid (RowI w7 C x.r ∧ (C = none → c7 = 0) ∧ ∀ a, C = some a → w5.heap.size ≤ a.block ∧ a.block < w7.heap.size) := ⟨by simpa using hrow, hC, fun a ha => ⟨Nat.le_trans hB5.out.size (hlt7 a ha).1, (hlt7 a ha).2⟩⟩; clear hown7 hgr7 hC hrow hlt7 hb7)
                  refine hK.out _ _ ?_ (fun hHeld => ?_)
                  · (try dsimp only); first | with_reducible exact hKeep.out _ hB5.out | with_reducible exact hKeep.out _ hB6.out | with_reducible exact hKeep.out _ hB7.out | with_reducible exact hKeep.out _ (hB6.out.alloc hB6.out.size _) | with_reducible exact hKeep.out _ (hB7.out.alloc hB7.out.size _) | exact hk8.out
                  clear hK K
                  try simp only [Act.put, List.setIfInBounds_toArray, List.set_cons_zero, List.set_cons_succ]
                  refine wpAnyH_ready (rs := [11]) (by kernel_rfl) (by simp) ?_
                  refine AllReadyH.cons (o := ?ois12) ?hops12 (fun K hK => ?steps12) ?mores12
                  case hops12 => (simp only [List.getElem?_toArray, List.getElem?_cons_zero, List.getElem?_cons_succ]; rfl)
                  case mores12 => exact AllReadyH.nil
                  go_simp
                  (go_at_call 38; (refine Calls.mono (hNm5.out _ hB7.out) ?_); rintro e w6 ⟨rfl, hq6⟩; have hB6 : Hid (Below w5.heap.size w5 w6) := hB7.out.trans (hq6.below.mono hB7.out.size); have hC6 : Hid (RowI w6 C x.r ∧ (C = none → c7 = 0) ∧ ∀ a, C = some a → w5.heap.size ≤ a.block ∧ a.block < w6.heap.size) := ⟨hC7.out.1.gr hq6, hC7.out.2.1, fun a ha => ⟨(hC7.out.2.2 a ha).1, Nat.lt_of_lt_of_le (hC7.out.2.2 a ha).2 hq6.size⟩⟩; clear hq6)
                  first | (go_wp2_with fail) | skip
                  refine hK.out _ _ ?_ (fun hHeld => ?_)
                  · (try dsimp only); first | with_reducible exact hKeep.out _ hB5.out | with_reducible exact hKeep.out _ hB6.out | with_reducible exact hKeep.out _ hB7.out | with_reducible exact hKeep.out _ (hB6.out.alloc hB6.out.size _) | with_reducible exact hKeep.out _ (hB7.out.alloc hB7.out.size _) | exact hk8.out
                  clear hK K
                  try simp only [Act.put, List.setIfInBounds_toArray, List.set_cons_zero, List.set_cons_succ]
                  refine wpAnyH_take (i := 12) (oi := ?ois13) (v := ?vs13) ?hops13 ?hss13 ?hfs13 ?hrs13 ?hQs13 ?hys13 (by assumption) ?rests13
                  case hops13 => (simp only [List.getElem?_toArray, List.getElem?_cons_zero, List.getElem?_cons_succ]; rfl)
                  case hss13 => kernel_rfl
                  case hfs13 => kernel_rfl
                  case hrs13 => kernel_rfl
                  case hQs13 => exact fun _ _ _ h => h
                  case hys13 => (refine Or.inl ⟨by rfl, ?_⟩; intro w hSw; (try dsimp only at hSw); go_simp <;> with_reducible rfl)
                  try simp only [Act.put, List.setIfInBounds_toArray, List.set_cons_zero, List.set_cons_succ]
                  refine wpAnyH_take (i := 13) (oi := ?ois14) (v := ?vs14) ?hops14 ?hss14 ?hfs14 ?hrs14 ?hQs14 ?hys14 (by assumption) ?rests14
                  case hops14 => (simp only [List.getElem?_toArray, List.getElem?_cons_zero, List.getElem?_cons_succ]; rfl)
                  case hss14 => kernel_rfl
                  case hfs14 => kernel_rfl
                  case hrs14 => kernel_rfl
                  case hQs14 => exact fun _ _ _ h => h
                  case hys14 => (refine Or.inl ⟨by rfl, ?_⟩; intro w hSw; (try dsimp only at hSw); go_simp <;> with_reducible rfl)
                  try simp only [Act.put, List.setIfInBounds_toArray, List.set_cons_zero, List.set_cons_succ]
                  refine wpAnyH_ready (rs := [14]) (by kernel_rfl) (by simp) ?_
                  refine AllReadyH.cons (o := ?ois15) ?hops15 (fun K hK => ?steps15) ?mores15
                  case hops15 => (simp only [List.getElem?_toArray, List.getElem?_cons_zero, List.getElem?_cons_succ]; rfl)
                  case mores15 => exact AllReadyH.nil
                  go_simp
                  refine hK.out _ _ ?_ (fun hHeld => ?_)
                  · (try dsimp only); first | with_reducible exact hKeep.out _ hB5.out | with_reducible exact hKeep.out _ hB6.out | with_reducible exact hKeep.out _ hB7.out | with_reducible exact hKeep.out _ (hB6.out.alloc hB6.out.size _) | with_reducible exact hKeep.out _ (hB7.out.alloc hB7.out.size _) | exact hk8.out
                  clear hK K
                  try simp only [Act.put, List.setIfInBounds_toArray, List.set_cons_zero, List.set_cons_succ]
                  refine wpAnyH_ready (rs := [15]) (by kernel_rfl) (by simp) ?_
                  refine AllReadyH.cons (o := ?ois16) ?hops16 (fun K hK => ?steps16) ?mores16
                  case hops16 => (simp only [List.getElem?_toArray, List.getElem?_cons_zero, List.getElem?_cons_succ]; rfl)
                  case mores16 => exact AllReadyH.nil
                  (have hoX := hoF.out w6 C c7 hB6.out hC6.out.1 hC6.out.2.1 hC6.out.2.2; refine step_append_t _ rfl (.tmp 77) (.tmp 91) rfl w2.heap.size u7 L ⟨C, c7, x.r, N⟩ ⟨w6.heap.size, 0, none⟩ 1 rfl rfl hoX.1 (rowNewT rfl (⟨C, c7, x.r, N⟩ : Itm) 59) hoX.2.1 hoX.2.2.1 hoX.2.2.2.1 hoX.2.2.2.2.size ?_; intro v8 w8 hown8 hb8 hgb8; have hk8 : Hid ((fun w' => w'.cell? ⟨g, off, none⟩ = some (.slice x.p x.r.length x.c) ∧ (Instr.lookup 74 (.map (some w.heap.size)) (.string NM) false).run Tryz.prog w' = .ok (.int .i64 N) w') w8) := hKeep2.out w6 C c7 w8 hB6.out hgb8 hoX.2.2.2.2; have hfin : Hid (UpR (l.map Itm.z) (S.map Itm.z) (0 + 1) ((L ++ [(⟨C, c7, x.r, N⟩ : Itm)]).map Itm.z) ∧ OwnT w8 w2.heap.size v8 (L ++ [(⟨C, c7, x.r, N⟩ : Itm)]) ∧ Below w2.heap.size w2 w8) := ⟨by rw [List.map_append]; exact hup.out, hown8, hoX.2.2.2.2.trans hb8⟩; clear hown8 hb8 hgb8 hoX)
                  refine hK.out _ _ ?_ (fun hHeld => ?_)
                  · (try dsimp only); first | with_reducible exact hKeep.out _ hB5.out | with_reducible exact hKeep.out _ hB6.out | with_reducible exact hKeep.out _ hB7.out | with_reducible exact hKeep.out _ (hB6.out.alloc hB6.out.size _) | with_reducible exact hKeep.out _ (hB7.out.alloc hB7.out.size _) | exact hk8.out
                  clear hK K
                  try simp only [Act.put, List.setIfInBounds_toArray, List.set_cons_zero, List.set_cons_succ]
                  refine wpAnyH_take (i := 16) (oi := ?ois17) (v := ?vs17) ?hops17 ?hss17 ?hfs17 ?hrs17 ?hQs17 ?hys17 (by assumption) ?rests17
                  case hops17 => (simp only [List.getElem?_toArray, List.getElem?_cons_zero, List.getElem?_cons_succ]; rfl)
                  case hss17 => kernel_rfl
                  case hfs17 => kernel_rfl
                  case hrs17 => kernel_rfl
                  case hQs17 => exact fun _ _ _ h => h
                  case hys17 => (refine Or.inl ⟨by rfl, ?_⟩; intro w hSw; (try dsimp only at hSw); go_simp <;> with_reducible rfl)
                  try simp only [Act.put, List.setIfInBounds_toArray, List.set_cons_zero, List.set_cons_succ]
                  refine wpAnyH_done (by kernel_rfl) ?_ _
                  refine NoPanic.normal ?_
                  go_wp2
                  go_roundw
                  case rel => exact ⟨0 + 1, L ++ [(⟨C, c7, x.r, N⟩ : Itm)], by omega, by go_num, hfin⟩
                  case measure => simp [intOf]; omega
                · have hup : Hid (UpR (l.map Itm.z) (S.map Itm.z) (0 + 1) (L.map Itm.z)) := hnoneH.out (by simpa using hNb)
                  clear hmore2 hnoneH
                  go_wp2
                  refine wp_region_quiet_grown mixed (by kernel_rfl) ?_
                  repeat (go_big_quiet_step (first | (go_at_call 38; refine Calls.grown_of (hNg.out _ _))))
                  refine wpQuiet_nil ?_
                  rintro _ ⟨⟨nq, osq⟩, rfl⟩
                  have hfin : Hid (UpR (l.map Itm.z) (S.map Itm.z) (0 + 1) (L.map Itm.z) ∧ OwnT (grow (wr.drewN nq) osq) w2.heap.size u7 L ∧ Below w2.heap.size w2 (grow (wr.drewN nq) osq)) := ⟨hup.out, hH3.out.1.gr ⟨nq, osq, rfl⟩, hH3.out.2.1.trans ((show Gr wr _ from ⟨nq, osq, rfl⟩).below.mono hH3.out.2.1.size)⟩
                  go_wp2
                  go_roundw
                  case rel => exact ⟨0 + 1, L, by omega, by go_num, hfin⟩
                  case measure => simp [intOf]; omega
              · have hj0z : (0 : Int) < (j : Int) := by omega
                obtain ⟨m, hm⟩ : ∃ m : Nat, j = m + 1 := ⟨j - 1, by omega⟩
                have hml : m < S.length := by omega
                obtain ⟨y, hy⟩ : ∃ y, S[m] = y := ⟨_, rfl⟩
                have e1 : wr.cell? ⟨g, off + m, none⟩ = some (.slice y.p y.r.length y.c) := by
                  have := hcs m hml 0 (by omega)
                  rw [hy] at this
                  simpa [encR] using this
                have g1 := (Gr.refl wr).cellG hg e1
                have hyl : y ∈ l := hS.out.1.mem_iff.1 (by rw [← hy]; exact List.getElem_mem hml)
                have hyI := (hS.out.2.2.2.2.1.below hR.out.2.2).each y hyl
                obtain ⟨cc, hcc⟩ : ∃ cc, cmpL y.r x.r = cc := ⟨_, rfl⟩
                have hOg : Hid (∀ n os, Calls Tryz.prog 40 #[.slice y.p y.r.length y.c, .slice x.p x.r.length x.c] (grow (wr.drewN n) os) fun e w' => e = .returned (.int .i64 cc) ∧ ∃ q os', w' = grow ((grow (wr.drewN n) os).drewN q) os') := fun n os => by
                  rw [← hcc]
                  exact orderD_any y.r x.r y.p x.p y.c x.c _ hyI.2.1 (hyI.1.gr ⟨n, os, rfl⟩) (hxc.out.1.gr ⟨n, os, rfl⟩)
                have hy' : S[j - 1]'(by omega) = y := by simp only [hm]; exact hy
                have hjm : IntKind.i64.wrap ((j : Int) - 1) = (m : Int) := by rw [IntKind.wrap_i64]; omega
                have hjm2 : wrap64 ((j : Int) - 1) = (m : Int) := by unfold wrap64; omega
                have hjd1 : decide ((0 : Int) < (j : Int)) = true := decide_eq_true hj0z
                have hjd2 : decide (0 < j) = true := decide_eq_true (by omega)
                have hj0n : 0 < j := by omega
                have hmz : (m : Int) < (S.length : Int) := by omega
                have hm0 : (0 : Int) ≤ (m : Int) := by omega
                cases hcb : (cc == 0)
                · have hmore2 : Hid (N ≠ 0 → UpR (l.map Itm.z) (S.map Itm.z) (j + 1) (L.map Itm.z ++ [(x.r, N)])) := hmoreH.out (Or.inr ⟨by omega, y, hy', by rw [hcc]; simpa using hcb⟩)
                  clear hdupH hmoreH hcs hx hy hyl hyI hy' hcc hm hj0
                  cases hNb : (N == 0)
                  · have hN0 : N ≠ 0 := by simpa using hNb
                    have hup : Hid (UpR (l.map Itm.z) (S.map Itm.z) (j + 1) (L.map Itm.z ++ [(x.r, N)])) := hmore2.out hN0
                    clear hmore2 hnoneH hN0
                    go_wp2
                    refine wp_region_quiet_grown mixed (by kernel_rfl) ?_
                    repeat (go_big_quiet_step (first | (go_at_call 40; refine Calls.grown_of (hOg.out _ _)) | (go_at_call 38; refine Calls.grown_of (hNg.out _ _))))
                    refine wpQuiet_nil ?_
                    rintro _ ⟨⟨nq, osq⟩, rfl⟩
                    have hgq : Hid (Gr wr (grow (wr.drewN nq) osq)) := ⟨nq, osq, rfl⟩
                    obtain ⟨w5, hw5⟩ : ∃ W, grow (wr.drewN nq) osq = W := ⟨_, rfl⟩
                    rw [hw5] at hgq ⊢
                    clear hw5
                    go_wp2
                    have hKeep : Hid (∀ W', Below w5.heap.size w5 W' → (fun w' => w'.cell? ⟨g, off + j, none⟩ = some (.slice x.p x.r.length x.c) ∧ (Instr.lookup 74 (.map (some w.heap.size)) (.string NM) false).run Tryz.prog w' = .ok (.int .i64 N) w') W') := fun W' h => by
                      have h1 := hgq.out.below.trans (h.mono hgq.out.size)
                      exact ⟨(h1.cell (p := ⟨g, off + j, none⟩) hg).trans e0, hLk.out _ h1⟩
                    have hB5 : Hid (Below w5.heap.size w5 w5.drew) := (Gr.refl w5).drew.below
                    have hap : Hid (∀ W, Below w5.heap.size w5 W → RowI W x.p x.r ∧ (x.p = none → x.c = 0) ∧ 0 + x.r.length ≤ maxLen ∧ (0 + x.r.length) * 8 ≤ 140737488355328) := fun W h => ⟨hxc.out.1.below (hgq.out.below.trans (h.mono hgq.out.size)), hxc.out.2.1, by have := hxc.out.2.2; unfold maxLen; omega, by have := hxc.out.2.2; omega⟩
                    have hNm5 : Hid (∀ W, Below w5.heap.size w5 W → Calls Tryz.prog 38 #[.slice x.p x.r.length x.c] W fun e w' => e = .returned (.string NM) ∧ Gr W w') := fun W h => hNm.out W (hgq.out.below.trans (h.mono hgq.out.size))
                    have hoF : Hid (∀ W C c, Below w5.heap.size w5 W → RowI W C x.r → (C = none → c = 0) → (∀ a, C = some a → w5.heap.size ≤ a.block ∧ a.block < W.heap.size) → OwnT (W.alloc (.cells #[.slice C x.r.length c, .int .i64 N] 59)) w2.heap.size u7 L ∧ Apart (W.alloc (.cells #[.slice C x.r.length c, .int .i64 N] 59)) w2.heap.size u7.ownBlock ⟨C, c, x.r, N⟩ ∧ L.length + 1 ≤ maxLen ∧ (L.length + 1) * 32 ≤ 140737488355328 ∧ Below w2.heap.size w2 (W.alloc (.cells #[.slice C x.r.length c, .int .i64 N] 59))) := fun W C c h hrow hC hlt => by
                      have hA := h.alloc h.size (.cells #[.slice C x.r.length c, .int .i64 N] 59)
                      have hA2 := hgq.out.below.trans (hA.mono hgq.out.size)
                      have hlj := hH3.out.2.2
                      refine ⟨hH3.out.1.below hA2, ⟨hrow.gr ((Gr.refl _).alloc _), by have := hxc.out.2.2; show x.r.length ≤ _; unfold maxLen; omega, hC, fun a ha => ⟨?_, ?_, ?_⟩⟩, by unfold maxLen; omega, by omega, hH3.out.2.1.trans (hA2.mono hH3.out.2.1.size)⟩
                      · have h1 := (hlt a ha).1; have h2 := hgq.out.size; have h3 := hH3.out.2.1.size; omega
                      · have h1 := (hlt a ha).2; simp; omega
                      · intro e
                        have h1 := (hlt a ha).1
                        have h2 := (World.ownsRow.lt hH3.out.1.own a.block e).2
                        have h3 := hgq.out.size
                        omega
                    have hKeep2 : Hid (∀ W C c W', Below w5.heap.size w5 W → (W.alloc (.cells #[.slice C x.r.length c, .int .i64 N] 59)).grownBy W' u7.ownBlock → Below w2.heap.size w2 (W.alloc (.cells #[.slice C x.r.length c, .int .i64 N] 59)) → (fun w' => w'.cell? ⟨g, off + j, none⟩ = some (.slice x.p x.r.length x.c) ∧ (Instr.lookup 74 (.map (some w.heap.size)) (.string NM) false).run Tryz.prog w' = .ok (.int .i64 N) w') W') := fun W C c W' h hg' _ => by
                      have hA := h.alloc h.size (.cells #[.slice C x.r.length c, .int .i64 N] 59)
                      have hA2 := hgq.out.below.trans (hA.mono hgq.out.size)
                      have hbb : Below w2.heap.size (W.alloc (.cells #[.slice C x.r.length c, .int .i64 N] 59)) W' := OwnG.grown_below (hH3.out.1.below hA2).own hg' (Nat.le_trans hH3.out.2.1.size hA2.size)
                      have hb2 : Below w2.heap.size w2 W' := (hH3.out.2.1.trans (hA2.mono hH3.out.2.1.size)).trans hbb
                      obtain ⟨b0, o0, hb0, hlt0, hc0⟩ := hS.out.2.2.1.at hlt
                      cases hb0
                      refine ⟨?_, ?_⟩
                      · have h1 := hb2.cell (p := ⟨g, off + j, none⟩) hlt0
                        have h2 := hH3.out.2.1.cell (p := ⟨g, off + j, none⟩) hlt0
                        exact (h1.trans h2.symm).trans e0
                      · have hm := map_below hS.out.2.2.2.1.map hb2
                        obtain ⟨c', h1, h2, _⟩ := hm.lookup_int lawS Tryz.underlying74 Tryz.underlying3 (by kernel_rfl) hkeyH.out
                        have h3 := hS.out.2.2.2.1.sums.at' x.r
                        rw [List.take_of_length_le (Nat.le_refl _), hNH.out] at h3
                        rw [h3] at h2
                        obtain rfl : N = c' := by cases h2; rfl
                        exact h1
                    refine wp_region_noPanic ?_
                    refine wp_region_held_drew (S := (fun w' => w'.cell? ⟨g, off + j, none⟩ = some (.slice x.p x.r.length x.c) ∧ (Instr.lookup 74 (.map (some w.heap.size)) (.string NM) false).run Tryz.prog w' = .ok (.int .i64 N) w')) (by kernel_rfl) (hKeep.out _ hB5.out) (fun hHeld => ?_)
                    refine wpAnyH_take (i := 0) (oi := ?oit1) (v := ?vt1) ?hopt1 ?hst1 ?hft1 ?hrt1 ?hQt1 ?hyt1 (by assumption) ?restt1
                    case hopt1 => (simp only [List.getElem?_toArray, List.getElem?_cons_zero]; rfl)
                    case hst1 => kernel_rfl
                    case hft1 => kernel_rfl
                    case hrt1 => kernel_rfl
                    case hQt1 => exact fun _ _ _ h => h
                    case hyt1 => (refine Or.inl ⟨by rfl, ?_⟩; intro w hSw; (try dsimp only at hSw); go_simp <;> with_reducible rfl)
                    try simp only [Act.put, List.setIfInBounds_toArray, List.set_cons_zero, List.set_cons_succ]
                    refine wpAnyH_take (i := 1) (oi := ?oit2) (v := ?vt2) ?hopt2 ?hst2 ?hft2 ?hrt2 ?hQt2 ?hyt2 (by assumption) ?restt2
                    case hopt2 => (simp only [List.getElem?_toArray, List.getElem?_cons_zero, List.getElem?_cons_succ]; rfl)
                    case hst2 => kernel_rfl
                    case hft2 => kernel_rfl
                    case hrt2 => kernel_rfl
                    case hQt2 => exact fun _ _ _ h => h
                    case hyt2 => (refine Or.inl ⟨by rfl, ?_⟩; intro w hSw; (try dsimp only at hSw); go_simp <;> with_reducible rfl)
                    try simp only [Act.put, List.setIfInBounds_toArray, List.set_cons_zero, List.set_cons_succ]
                    refine wpAnyH_take (i := 2) (oi := ?oit3) (v := ?vt3) ?hopt3 ?hst3 ?hft3 ?hrt3 ?hQt3 ?hyt3 (by assumption) ?restt3
                    case hopt3 => (simp only [List.getElem?_toArray, List.getElem?_cons_zero, List.getElem?_cons_succ]; rfl)
                    case hst3 => kernel_rfl
                    case hft3 => kernel_rfl
                    case hrt3 => kernel_rfl
                    case hQt3 => exact fun _ _ _ h => h
                    case hyt3 => (refine Or.inl ⟨by rfl, ?_⟩; intro w hSw; (try dsimp only at hSw); go_simp <;> with_reducible rfl)
                    try simp only [Act.put, List.setIfInBounds_toArray, List.set_cons_zero, List.set_cons_succ]
                    refine wpAnyH_take (i := 3) (oi := ?oit4) (v := ?vt4) ?hopt4 ?hst4 ?hft4 ?hrt4 ?hQt4 ?hyt4 (by assumption) ?restt4
                    case hopt4 => (simp only [List.getElem?_toArray, List.getElem?_cons_zero, List.getElem?_cons_succ]; rfl)
                    case hst4 => kernel_rfl
                    case hft4 => kernel_rfl
                    case hrt4 => kernel_rfl
                    case hQt4 => exact fun _ _ _ h => h
                    case hyt4 => (refine Or.inl ⟨by rfl, ?_⟩; intro w hSw; (try dsimp only at hSw); go_simp <;> with_reducible rfl)
                    try simp only [Act.put, List.setIfInBounds_toArray, List.set_cons_zero, List.set_cons_succ]
                    refine wpAnyH_take (i := 4) (oi := ?oit5) (v := ?vt5) ?hopt5 ?hst5 ?hft5 ?hrt5 ?hQt5 ?hyt5 (by assumption) ?restt5
                    case hopt5 => (simp only [List.getElem?_toArray, List.getElem?_cons_zero, List.getElem?_cons_succ]; rfl)
                    case hst5 => kernel_rfl
                    case hft5 => kernel_rfl
                    case hrt5 => kernel_rfl
                    case hQt5 => exact fun _ _ _ h => h
                    case hyt5 => (refine Or.inl ⟨by rfl, ?_⟩; intro w hSw; (try dsimp only at hSw); go_simp <;> with_reducible rfl)
                    try simp only [Act.put, List.setIfInBounds_toArray, List.set_cons_zero, List.set_cons_succ]
                    refine wpAnyH_take (i := 6) (oi := ?oit6) (v := ?vt6) ?hopt6 ?hst6 ?hft6 ?hrt6 ?hQt6 ?hyt6 (by assumption) ?restt6
                    case hopt6 => (simp only [List.getElem?_toArray, List.getElem?_cons_zero, List.getElem?_cons_succ]; rfl)
                    case hst6 => kernel_rfl
                    case hft6 => kernel_rfl
                    case hrt6 => kernel_rfl
                    case hQt6 => exact fun _ _ _ h => h
                    case hyt6 => (refine Or.inl ⟨by rfl, ?_⟩; intro w hSw; (try dsimp only at hSw); go_simp <;> with_reducible rfl)
                    try simp only [Act.put, List.setIfInBounds_toArray, List.set_cons_zero, List.set_cons_succ]
                    refine wpAnyH_take (i := 7) (oi := ?oit7) (v := ?vt7) ?hopt7 ?hst7 ?hft7 ?hrt7 ?hQt7 ?hyt7 (by assumption) ?restt7
                    case hopt7 => (simp only [List.getElem?_toArray, List.getElem?_cons_zero, List.getElem?_cons_succ]; rfl)
                    case hst7 => kernel_rfl
                    case hft7 => kernel_rfl
                    case hrt7 => kernel_rfl
                    case hQt7 => exact fun _ _ _ h => h
                    case hyt7 => (refine Or.inl ⟨by rfl, ?_⟩; intro w hSw; (try dsimp only at hSw); go_simp <;> with_reducible rfl)
                    try simp only [Act.put, List.setIfInBounds_toArray, List.set_cons_zero, List.set_cons_succ]
                    refine wpAnyH_take (i := 8) (oi := ?oit8) (v := ?vt8) ?hopt8 ?hst8 ?hft8 ?hrt8 ?hQt8 ?hyt8 (by assumption) ?restt8
                    case hopt8 => (simp only [List.getElem?_toArray, List.getElem?_cons_zero, List.getElem?_cons_succ]; rfl)
                    case hst8 => kernel_rfl
                    case hft8 => kernel_rfl
                    case hrt8 => kernel_rfl
                    case hQt8 => exact fun _ _ _ h => h
                    case hyt8 => (refine Or.inl ⟨by rfl, ?_⟩; intro w hSw; (try dsimp only at hSw); go_simp <;> with_reducible rfl)
                    try simp only [Act.put, List.setIfInBounds_toArray, List.set_cons_zero, List.set_cons_succ]
                    refine wpAnyH_take (i := 9) (oi := ?oit9) (v := ?vt9) ?hopt9 ?hst9 ?hft9 ?hrt9 ?hQt9 ?hyt9 (by assumption) ?restt9
                    case hopt9 => (simp only [List.getElem?_toArray, List.getElem?_cons_zero, List.getElem?_cons_succ]; rfl)
                    case hst9 => kernel_rfl
                    case hft9 => kernel_rfl
                    case hrt9 => kernel_rfl
                    case hQt9 => exact fun _ _ _ h => h
                    case hyt9 => (refine Or.inl ⟨by rfl, ?_⟩; intro w hSw; (try dsimp only at hSw); go_simp <;> with_reducible rfl)
                    try simp only [Act.put, List.setIfInBounds_toArray, List.set_cons_zero, List.set_cons_succ]
                    refine wpAnyH_take (i := 10) (oi := ?oit10) (v := ?vt10) ?hopt10 ?hst10 ?hft10 ?hrt10 ?hQt10 ?hyt10 (by assumption) ?restt10
                    case hopt10 => (simp only [List.getElem?_toArray, List.getElem?_cons_zero, List.getElem?_cons_succ]; rfl)
                    case hst10 => kernel_rfl
                    case hft10 => kernel_rfl
                    case hrt10 => kernel_rfl
                    case hQt10 => exact fun _ _ _ h => h
                    case hyt10 => (refine Or.inl ⟨by rfl, ?_⟩; intro w hSw; (try dsimp only at hSw); go_simp <;> with_reducible rfl)
                    try simp only [Act.put, List.setIfInBounds_toArray, List.set_cons_zero, List.set_cons_succ]
                    refine wpAnyH_ready (rs := [5]) (by kernel_rfl) (by simp) ?_
                    refine AllReadyH.cons (o := ?oit11) ?hopt11 (fun K hK => ?stept11) ?moret11
                    case hopt11 => (simp only [List.getElem?_toArray, List.getElem?_cons_zero, List.getElem?_cons_succ]; rfl)
                    case moret11 => exact AllReadyH.nil
                    (refine step_append_i2 _ rfl (.const (.slice none 0 0)) (.tmp 81) rfl w5.drew.heap.size (.slice none 0 0) [] x.r x.p x.c rfl rfl (OwnG.nil _ _ _ _ _) (hap.out _ hB5.out).1 (hap.out _ hB5.out).2.1 (hap.out _ hB5.out).2.2.1 (hap.out _ hB5.out).2.2.2 (Nat.le_refl _) ?_; intro v7 w7 hown7 hgr7; obtain ⟨C, c7, rfl, hC, hrow, hlt7⟩ := OwnG.row encI_len hown7; have hb7 : Below w5.drew.heap.size w5.drew w7 := below_none hgr7; have hB7 : Hid (Below w5.heap.size w5 w7) := hB5.out.trans (hb7.mono hB5.out.size); have hC7 : Hid (RowI w7 C x.r ∧ (C = none → c7 = 0) ∧ ∀ a, C = some a → w5.heap.size ≤ a.block ∧ a.block < w7.heap.size) := ⟨by simpa using hrow, hC, fun a ha => ⟨Nat.le_trans hB5.out.size (hlt7 a ha).1, (hlt7 a ha).2⟩⟩; clear hown7 hgr7 hC hrow hlt7 hb7)
                    refine hK.out _ _ ?_ (fun hHeld => ?_)
                    · (try dsimp only); first | with_reducible exact hKeep.out _ hB5.out | with_reducible exact hKeep.out _ hB6.out | with_reducible exact hKeep.out _ hB7.out | with_reducible exact hKeep.out _ (hB6.out.alloc hB6.out.size _) | with_reducible exact hKeep.out _ (hB7.out.alloc hB7.out.size _) | exact hk8.out
                    clear hK K
                    try simp only [Act.put, List.setIfInBounds_toArray, List.set_cons_zero, List.set_cons_succ]
                    refine wpAnyH_ready (rs := [11]) (by kernel_rfl) (by simp) ?_
                    refine AllReadyH.cons (o := ?oit12) ?hopt12 (fun K hK => ?stept12) ?moret12
                    case hopt12 => (simp only [List.getElem?_toArray, List.getElem?_cons_zero, List.getElem?_cons_succ]; rfl)
                    case moret12 => exact AllReadyH.nil
                    go_simp
                    (go_at_call 38; (refine Calls.mono (hNm5.out _ hB7.out) ?_); rintro e w6 ⟨rfl, hq6⟩; have hB6 : Hid (Below w5.heap.size w5 w6) := hB7.out.trans (hq6.below.mono hB7.out.size); have hC6 : Hid (RowI w6 C x.r ∧ (C = none → c7 = 0) ∧ ∀ a, C = some a → w5.heap.size ≤ a.block ∧ a.block < w6.heap.size) := ⟨hC7.out.1.gr hq6, hC7.out.2.1, fun a ha => ⟨(hC7.out.2.2 a ha).1, Nat.lt_of_lt_of_le (hC7.out.2.2 a ha).2 hq6.size⟩⟩; clear hq6)
                    first | (go_wp2_with fail) | skip
                    refine hK.out _ _ ?_ (fun hHeld => ?_)
                    · (try dsimp only); first | with_reducible exact hKeep.out _ hB5.out | with_reducible exact hKeep.out _ hB6.out | with_reducible exact hKeep.out _ hB7.out | with_reducible exact hKeep.out _ (hB6.out.alloc hB6.out.size _) | with_reducible exact hKeep.out _ (hB7.out.alloc hB7.out.size _) | exact hk8.out
                    clear hK K
                    try simp only [Act.put, List.setIfInBounds_toArray, List.set_cons_zero, List.set_cons_succ]
                    refine wpAnyH_take (i := 12) (oi := ?oit13) (v := ?vt13) ?hopt13 ?hst13 ?hft13 ?hrt13 ?hQt13 ?hyt13 (by assumption) ?restt13
                    case hopt13 => (simp only [List.getElem?_toArray, List.getElem?_cons_zero, List.getElem?_cons_succ]; rfl)
                    case hst13 => kernel_rfl
                    case hft13 => kernel_rfl
                    case hrt13 => kernel_rfl
                    case hQt13 => exact fun _ _ _ h => h
                    case hyt13 => (refine Or.inl ⟨by rfl, ?_⟩; intro w hSw; (try dsimp only at hSw); go_simp <;> with_reducible rfl)
                    try simp only [Act.put, List.setIfInBounds_toArray, List.set_cons_zero, List.set_cons_succ]
                    refine wpAnyH_take (i := 13) (oi := ?oit14) (v := ?vt14) ?hopt14 ?hst14 ?hft14 ?hrt14 ?hQt14 ?hyt14 (by assumption) ?restt14
                    case hopt14 => (simp only [List.getElem?_toArray, List.getElem?_cons_zero, List.getElem?_cons_succ]; rfl)
                    case hst14 => kernel_rfl
                    case hft14 => kernel_rfl
                    case hrt14 => kernel_rfl
                    case hQt14 => exact fun _ _ _ h => h
                    case hyt14 => (refine Or.inl ⟨by rfl, ?_⟩; intro w hSw; (try dsimp only at hSw); go_simp <;> with_reducible rfl)
                    try simp only [Act.put, List.setIfInBounds_toArray, List.set_cons_zero, List.set_cons_succ]
                    refine wpAnyH_ready (rs := [14]) (by kernel_rfl) (by simp) ?_
                    refine AllReadyH.cons (o := ?oit15) ?hopt15 (fun K hK => ?stept15) ?moret15
                    case hopt15 => (simp only [List.getElem?_toArray, List.getElem?_cons_zero, List.getElem?_cons_succ]; rfl)
                    case moret15 => exact AllReadyH.nil
                    go_simp
                    refine hK.out _ _ ?_ (fun hHeld => ?_)
                    · (try dsimp only); first | with_reducible exact hKeep.out _ hB5.out | with_reducible exact hKeep.out _ hB6.out | with_reducible exact hKeep.out _ hB7.out | with_reducible exact hKeep.out _ (hB6.out.alloc hB6.out.size _) | with_reducible exact hKeep.out _ (hB7.out.alloc hB7.out.size _) | exact hk8.out
                    clear hK K
                    try simp only [Act.put, List.setIfInBounds_toArray, List.set_cons_zero, List.set_cons_succ]
                    refine wpAnyH_ready (rs := [15]) (by kernel_rfl) (by simp) ?_
                    refine AllReadyH.cons (o := ?oit16) ?hopt16 (fun K hK => ?stept16) ?moret16
                    case hopt16 => (simp only [List.getElem?_toArray, List.getElem?_cons_zero, List.getElem?_cons_succ]; rfl)
                    case moret16 => exact AllReadyH.nil
                    (have hoX := hoF.out w6 C c7 hB6.out hC6.out.1 hC6.out.2.1 hC6.out.2.2; refine step_append_t _ rfl (.tmp 77) (.tmp 91) rfl w2.heap.size u7 L ⟨C, c7, x.r, N⟩ ⟨w6.heap.size, 0, none⟩ 1 rfl rfl hoX.1 (rowNewT rfl (⟨C, c7, x.r, N⟩ : Itm) 59) hoX.2.1 hoX.2.2.1 hoX.2.2.2.1 hoX.2.2.2.2.size ?_; intro v8 w8 hown8 hb8 hgb8; have hk8 : Hid ((fun w' => w'.cell? ⟨g, off + j, none⟩ = some (.slice x.p x.r.length x.c) ∧ (Instr.lookup 74 (.map (some w.heap.size)) (.string NM) false).run Tryz.prog w' = .ok (.int .i64 N) w') w8) := hKeep2.out w6 C c7 w8 hB6.out hgb8 hoX.2.2.2.2; have hfin : Hid (UpR (l.map Itm.z) (S.map Itm.z) (j + 1) ((L ++ [(⟨C, c7, x.r, N⟩ : Itm)]).map Itm.z) ∧ OwnT w8 w2.heap.size v8 (L ++ [(⟨C, c7, x.r, N⟩ : Itm)]) ∧ Below w2.heap.size w2 w8) := ⟨by rw [List.map_append]; exact hup.out, hown8, hoX.2.2.2.2.trans hb8⟩; clear hown8 hb8 hgb8 hoX)
                    refine hK.out _ _ ?_ (fun hHeld => ?_)
                    · (try dsimp only); first | with_reducible exact hKeep.out _ hB5.out | with_reducible exact hKeep.out _ hB6.out | with_reducible exact hKeep.out _ hB7.out | with_reducible exact hKeep.out _ (hB6.out.alloc hB6.out.size _) | with_reducible exact hKeep.out _ (hB7.out.alloc hB7.out.size _) | exact hk8.out
                    clear hK K
                    try simp only [Act.put, List.setIfInBounds_toArray, List.set_cons_zero, List.set_cons_succ]
                    refine wpAnyH_take (i := 16) (oi := ?oit17) (v := ?vt17) ?hopt17 ?hst17 ?hft17 ?hrt17 ?hQt17 ?hyt17 (by assumption) ?restt17
                    case hopt17 => (simp only [List.getElem?_toArray, List.getElem?_cons_zero, List.getElem?_cons_succ]; rfl)
                    case hst17 => kernel_rfl
                    case hft17 => kernel_rfl
                    case hrt17 => kernel_rfl
                    case hQt17 => exact fun _ _ _ h => h
                    case hyt17 => (refine Or.inl ⟨by rfl, ?_⟩; intro w hSw; (try dsimp only at hSw); go_simp <;> with_reducible rfl)
                    try simp only [Act.put, List.setIfInBounds_toArray, List.set_cons_zero, List.set_cons_succ]
                    refine wpAnyH_done (by kernel_rfl) ?_ _
                    refine NoPanic.normal ?_
                    go_wp2
                    go_roundw
                    case rel => exact ⟨j + 1, L ++ [(⟨C, c7, x.r, N⟩ : Itm)], by omega, by go_num, hfin⟩
                    case measure => simp [intOf]; omega
                  · have hup : Hid (UpR (l.map Itm.z) (S.map Itm.z) (j + 1) (L.map Itm.z)) := hnoneH.out (by simpa using hNb)
                    clear hmore2 hnoneH
                    go_wp2
                    refine wp_region_quiet_grown mixed (by kernel_rfl) ?_
                    repeat (go_big_quiet_step (first | (go_at_call 40; refine Calls.grown_of (hOg.out _ _)) | (go_at_call 38; refine Calls.grown_of (hNg.out _ _))))
                    refine wpQuiet_nil ?_
                    rintro _ ⟨⟨nq, osq⟩, rfl⟩
                    have hfin : Hid (UpR (l.map Itm.z) (S.map Itm.z) (j + 1) (L.map Itm.z) ∧ OwnT (grow (wr.drewN nq) osq) w2.heap.size u7 L ∧ Below w2.heap.size w2 (grow (wr.drewN nq) osq)) := ⟨hup.out, hH3.out.1.gr ⟨nq, osq, rfl⟩, hH3.out.2.1.trans ((show Gr wr _ from ⟨nq, osq, rfl⟩).below.mono hH3.out.2.1.size)⟩
                    go_wp2
                    go_roundw
                    case rel => exact ⟨j + 1, L, by omega, by go_num, hfin⟩
                    case measure => simp [intOf]; omega
                · have hup : Hid (UpR (l.map Itm.z) (S.map Itm.z) (j + 1) (L.map Itm.z)) := hdupH.out (by omega) y hy' (by rw [hcc]; simpa using hcb)
                  have hcc0 : cc = 0 := by simpa using hcb
                  clear hdupH hmoreH hcs hx hy hyl hyI hy' hcc hnoneH hm hj0
                  go_wp2
                  refine wp_region_quiet_grown mixed (by kernel_rfl) ?_
                  repeat (go_big_quiet_step (first | (go_at_call 40; refine Calls.grown_of (hOg.out _ _)) | (go_at_call 38; refine Calls.grown_of (hNg.out _ _))))
                  refine wpQuiet_nil ?_
                  rintro _ ⟨⟨nq, osq⟩, rfl⟩
                  have hfin : Hid (UpR (l.map Itm.z) (S.map Itm.z) (j + 1) (L.map Itm.z) ∧ OwnT (grow (wr.drewN nq) osq) w2.heap.size u7 L ∧ Below w2.heap.size w2 (grow (wr.drewN nq) osq)) := ⟨hup.out, hH3.out.1.gr ⟨nq, osq, rfl⟩, hH3.out.2.1.trans ((show Gr wr _ from ⟨nq, osq, rfl⟩).below.mono hH3.out.2.1.size)⟩
                  go_wp2
                  go_roundw
                  case rel => exact ⟨j + 1, L, by omega, by go_num, hfin⟩
                  case measure => simp [intOf]; omega
            · have hltz : ¬ (j : Int) < (S.length : Int) := by omega
              obtain ⟨A2, cap2, hv2, hn2, hit, hnw⟩ := hR.out.2.1.items
              have hfin : Hid (L.map Itm.z = totL (l.map Itm.z) ∧ Items wr A2 L ∧ NilC A2 L.length cap2 ∧ Below w.heap.size w wr ∧ NewT w.heap.size A2 L) := by
                have hbw := hS.out.2.2.2.1.bel
                refine ⟨hR.out.1.done (by simp; omega) (hS.out.1.map Itm.z), hit, hn2, hbw.trans (hR.out.2.2.mono hbw.size), ⟨fun a ha => Nat.le_trans hbw.size (hnw a ha).1, fun x hx a ha => Nat.le_trans hbw.size ((hR.out.2.1.each x hx).own a ha).1⟩⟩
              subst hv2
              clear hit hn2 hnw
              go_wp2
              go_ret
              exact ⟨L, A2, cap2, rfl, hfin.out⟩
end Go.Proofs.YtoanlaedkpkpnaaGreatDoor

namespace Go.Proofs.YtoanlaedkpkpnaaGreatDoor
open Go.RowKit Go.Sort

set_option maxHeartbeats 400000 in
theorem inR_any {n lo hi : Int} {r : Bool} (h : inB n lo hi = r) (w : World) : Calls Tryz.prog 30 #[.int .i64 n, .int .i64 lo, .int .i64 hi] w fun e w' => e = .returned (.bool r) ∧ w' = w := by
  subst h
  by_cases h1 : lo ≤ n
  · by_cases h2 : n ≤ hi
    · have e : inB n lo hi = true := by simp [inB, h1, h2]
      rw [e]
      go_enter Tryz.func30, Tryz.ntmps30
      go_wp2
      go_ret
      exact ⟨rfl, rfl⟩
    · have e : inB n lo hi = false := by simp [inB, h2]
      rw [e]
      go_enter Tryz.func30, Tryz.ntmps30
      go_wp2
      go_ret
      exact ⟨by simp <;> omega, rfl⟩
  · have e : inB n lo hi = false := by simp [inB, h1]
    rw [e]
    go_enter Tryz.func30, Tryz.ntmps30
    go_wp2
    go_ret
    exact ⟨by simp <;> omega, rfl⟩
def rowB (l : List Int) (k : Nat) : Bool := decide (l.length ≤ 8) && (l.take k).all okN
theorem rowB_succ {l : List Int} {k : Nat} (h : k < l.length) {x : Int} (hx : l[k] = x) : rowB l (k + 1) = (rowB l k && okN x) := by
  unfold rowB
  rw [List.take_succ_eq_append_getElem h, List.all_append, hx]
  simp [Bool.and_assoc]
theorem rowB_end {l : List Int} {k : Nat} (h : l.length ≤ k) : rowB l k = okR l := by
  unfold rowB okR
  rw [List.take_of_length_le h]
set_option maxRecDepth 100000 in
set_option maxHeartbeats 1000000 in
theorem rrow_any (l : List Int) (A : Option Addr) (c : Nat) (w : World) (hl : l.length ≤ maxLen) (hr : RowI w A l) :
    Calls Tryz.prog 50 #[.slice A l.length c] w fun e w' => e = .returned (.bool (okR l)) ∧ Gr w w' := by
  unfold maxLen at hl
  have hrH : Hid (RowI w A l) := hr
  clear hr
  obtain ⟨B0, hB0⟩ : ∃ B, decide ((l.length : Int) ≤ 8) = B := ⟨_, rfl⟩
  have hB0H : Hid (rowB l 0 = B0) := by
    show _ = _
    rw [← hB0]
    unfold rowB
    rw [List.take_zero, List.all_nil, Bool.and_true, decide_eq_decide]
    constructor <;> intro h <;> omega
  go_enter Tryz.func50, Tryz.ntmps50
  go_wp2
  go_loopw [3, 4] (fun v i wr => ∃ (k : Nat) (B : Bool), k ≤ l.length ∧ i = .int .i64 k ∧ v = .bool B ∧ Hid (rowB l k = B ∧ Gr w wr)) (fun _ i _ => l.length - (intOf i).toNat)
  case atStart => exact ⟨0, B0, Nat.zero_le _, rfl, by simp [← hB0], hB0H.out, Gr.refl _⟩
  case round =>
    obtain ⟨k, B, hk, rfl, rfl, hR⟩ := hrel
    by_cases hlt : k < l.length
    · have hltz : (k : Int) < (l.length : Int) := by omega
      obtain ⟨bb, off, rfl, hb, hcs⟩ := (hrH.out.gr hR.out.2).at hlt
      obtain ⟨x, hx⟩ : ∃ x, l[k] = x := ⟨_, rfl⟩
      have e0 : wr.cell? ⟨bb, off + k, none⟩ = some (.int .i64 x) := by
        have := hcs k hlt 0 (by omega)
        rw [hx] at this
        simpa [encI] using this
      have hs := rowB_succ hlt hx
      rw [hR.out.1] at hs
      clear hcs hx
      cases B
      · have hfin : Hid (rowB l (k + 1) = false ∧ Gr w wr) := ⟨by rw [hs]; rfl, hR.out.2⟩
        clear hs
        go_wp2
        go_roundw
        case rel => exact ⟨k + 1, false, by omega, by go_num, rfl, hfin⟩
        case measure => simp [intOf]; omega
      · obtain ⟨B2, hB2⟩ : ∃ B2, okN x = B2 := ⟨_, rfl⟩
        have hfin : Hid (rowB l (k + 1) = B2 ∧ Gr w wr) := ⟨by rw [hs, hB2]; rfl, hR.out.2⟩
        have hI0 := inR_any (n := x) (lo := -1073741824) (hi := 1073741824) hB2 wr
        have hI : Hid _ := hI0
        clear hs hI0 hB2
        go_wp2_with fail
        refine Calls.mono (show Calls _ _ _ _ _ from hI.out) ?_
        rintro e w' ⟨rfl, hw'⟩
        subst w'
        clear hI
        go_wp2
        go_roundw
        case rel => exact ⟨k + 1, B2, by omega, by go_num, rfl, hfin⟩
        case measure => simp [intOf]; omega
    · have hltz : ¬ (k : Int) < (l.length : Int) := by omega
      have hfin : Hid (okR l = B) := by show _ = _; rw [← rowB_end (show l.length ≤ k by omega)]; exact hR.out.1
      go_wp2
      go_ret
      exact ⟨by rw [hfin.out]; rfl, hR.out.2⟩
theorem cmpL_minus {a b : List Int} : (cmpL a b = -1) ↔ cmpL a b < 0 := by
  have : ∀ a b : List Int, cmpL a b = -1 ∨ cmpL a b = 0 ∨ cmpL a b = 1 := by
    intro a
    induction a with
    | nil => intro b; cases b <;> simp [cmpL]
    | cons x a ih =>
      intro b
      cases b with
      | nil => simp [cmpL]
      | cons y b =>
        have h1 := cmpI_cases x y
        show (if cmpI x y = 0 then cmpL a b else cmpI x y) = -1 ∨ _
        have hh : cmpL (x :: a) (y :: b) = if cmpI x y = 0 then cmpL a b else cmpI x y := rfl
        rw [hh]
        by_cases e : cmpI x y = 0
        · rw [if_pos e]; exact ih b
        · rw [if_neg e]; omega
  have := this a b
  omega
set_option maxRecDepth 100000 in
set_option maxHeartbeats 2000000 in
theorem rset_any (l : List Itm) (A : Option Addr) (c : Nat) (w : World) (hl : l.length ≤ maxLen) (hr : Items w A l) :
    Calls Tryz.prog 35 #[.slice A l.length c] w fun e w' => e = .returned (.int .i64 (errZ (l.map Itm.z))) ∧ Gr w w' := by
  have mixed : Tryz.prog.follows .mixedOrders = true := by kernel_rfl
  unfold maxLen at hl
  have hrH : Hid (Items w A l) := hr
  clear hr
  by_cases h4 : 400 < l.length
  · have e : errZ (l.map Itm.z) = 2 := by unfold errZ; rw [if_pos (by simpa using h4)]
    rw [e]; clear e
    have h4z : (400 : Int) < (l.length : Int) := by omega
    go_enter Tryz.func35, Tryz.ntmps35
    go_wp2
    go_ret
    exact ⟨rfl, Gr.refl _⟩
  · have h4z : ¬ (400 : Int) < (l.length : Int) := by omega
    go_enter Tryz.func35, Tryz.ntmps35
    go_wp2
    go_loopw [3] (fun i wr => ∃ k : Nat, k ≤ l.length ∧ i = .int .i64 k ∧ Hid (∀ j, j < k → okI l j = true) ∧ Hid (Gr w wr)) (fun i _ => l.length - (intOf i).toNat)
    case atStart => exact ⟨0, by omega, rfl, fun j h => by omega, Gr.refl _⟩
    case round =>
      obtain ⟨k, hk, rfl, hall, hgr⟩ := hrel
      by_cases hlt : k < l.length
      · have hltz : (k : Int) < (l.length : Int) := by omega
        have hI : Hid (Items wr A l) := hrH.out.gr hgr.out
        obtain ⟨b, off, rfl, hb, hcs⟩ := hI.out.at hlt
        obtain ⟨x, hx⟩ : ∃ x, l[k] = x := ⟨_, rfl⟩
        obtain ⟨e0, e1⟩ := hcs k hlt
        rw [hx] at e0 e1
        have hxe := hI.out.each x (by rw [← hx]; exact List.getElem_mem hlt)
        have g0 := (Gr.refl wr).cellG hb e0
        have g1 := (Gr.refl wr).cellG hb e1
        obtain ⟨B1, hB1⟩ : ∃ B, okR x.r = B := ⟨_, rfl⟩
        obtain ⟨B2, hB2⟩ : ∃ B, okW x.n = B := ⟨_, rfl⟩
        have hRg : Hid (∀ n os, Calls Tryz.prog 50 #[.slice x.p x.r.length x.c] (grow (wr.drewN n) os) fun e w' => e = .returned (.bool B1) ∧ ∃ q os', w' = grow ((grow (wr.drewN n) os).drewN q) os') := fun n os => by
          rw [← hB1]
          exact rrow_any x.r x.p x.c _ hxe.2.1 (hxe.1.gr ⟨n, os, rfl⟩)
        have hIg : Hid (∀ n os, Calls Tryz.prog 30 #[.int .i64 x.n, .int .i64 (-1048576), .int .i64 1048576] (grow (wr.drewN n) os) fun e w' => e = .returned (.bool B2) ∧ ∃ q os', w' = grow ((grow (wr.drewN n) os).drewN q) os') := fun n os => (inR_any hB2 _).mono fun e w' h => ⟨h.1, by rw [h.2]; exact Gr.refl _⟩
        have hbadH : Hid (okI l k = false → errZ (l.map Itm.z) = 5) := fun h => errZ_form h4 hlt h
        have hz : Hid (okZ x.z = (B1 && B2 && decide (x.n ≠ 0))) := by show _ = _; unfold okZ Itm.z; rw [hB1, hB2]
        have hgoodH : Hid (okI l k = true → ∀ j, j < k + 1 → okI l j = true) := fun h j hj => by
          by_cases e : j = k
          · rw [e]; exact h
          · exact hall.out j (by omega)
        have hk0 : Hid (k = 0 → okI l k = okZ x.z) := fun e => by subst e; exact okI_zero hlt hx
        have hk1 : Hid (∀ (m : Nat) (hm : k = m + 1) (y : Itm), l[m]'(by omega) = y → okI l k = (okZ x.z && decide (cmpL y.r x.r < 0))) := fun m hm y hy => by subst hm; exact okI_succ hlt hx hy
        have hxok : Hid (okZ x.z = false → okI l k = false) := fun h => by
          cases k with
          | zero => rw [hk0.out rfl]; exact h
          | succ m => rw [hk1.out m rfl (l[m]'(by omega)) rfl, h]; rfl
        have hxrH : Hid (RowI wr x.p x.r ∧ x.r.length ≤ maxLen) := ⟨hxe.1, hxe.2.1⟩
        clear hxe hB1 hB2
        cases B1
        · have hfin : Hid (errZ (l.map Itm.z) = 5) := hbadH.out (hxok.out (by rw [hz.out]; rfl))
          clear hcs hx hk1
          go_wp2
          refine wp_region_quiet_grown mixed (by kernel_rfl) ?_
          repeat (go_big_quiet_step (first | (go_at_call 50; refine Calls.grown_of (hRg.out _ _)) | (go_at_call 30; refine Calls.grown_of (hIg.out _ _))))
          refine wpQuiet_nil ?_
          rintro _ ⟨⟨nq, osq⟩, rfl⟩
          go_wp2
          go_ret
          exact ⟨by rw [hfin.out]; rfl, hgr.out.trans ⟨nq, osq, rfl⟩⟩
        · by_cases hn0 : x.n = 0
          · have hfin : Hid (errZ (l.map Itm.z) = 5) := hbadH.out (hxok.out (by rw [hz.out]; simp [hn0]))
            have hnb : (x.n == 0) = true := by simpa using hn0
            clear hcs hx hk1 hn0
            go_wp2
            refine wp_region_quiet_grown mixed (by kernel_rfl) ?_
            repeat (go_big_quiet_step (first | (go_at_call 50; refine Calls.grown_of (hRg.out _ _)) | (go_at_call 30; refine Calls.grown_of (hIg.out _ _))))
            refine wpQuiet_nil ?_
            rintro _ ⟨⟨nq, osq⟩, rfl⟩
            go_wp2
            go_ret
            exact ⟨by rw [hfin.out]; rfl, hgr.out.trans ⟨nq, osq, rfl⟩⟩
          · have hnb : (x.n == 0) = false := by simpa using hn0
            cases B2
            · have hfin : Hid (errZ (l.map Itm.z) = 5) := hbadH.out (hxok.out (by rw [hz.out]; rfl))
              clear hcs hx hk1 hn0
              go_wp2
              refine wp_region_quiet_grown mixed (by kernel_rfl) ?_
              repeat (go_big_quiet_step (first | (go_at_call 50; refine Calls.grown_of (hRg.out _ _)) | (go_at_call 30; refine Calls.grown_of (hIg.out _ _))))
              refine wpQuiet_nil ?_
              rintro _ ⟨⟨nq, osq⟩, rfl⟩
              go_wp2
              go_ret
              exact ⟨by rw [hfin.out]; rfl, hgr.out.trans ⟨nq, osq, rfl⟩⟩
            · have hzt : okZ x.z = true := by rw [hz.out]; simp [hn0]
              by_cases hj0 : k = 0
              · have hfin : Hid (∀ j, j < k + 1 → okI l j = true) := hgoodH.out (by rw [hk0.out hj0]; exact hzt)
                clear hcs hx hk1 hn0 hzt
                subst hj0
                have e0 : wr.cell? ⟨b, off, none⟩ = some (.slice x.p x.r.length x.c) := by simpa using e0
                have e1 : wr.cell? ⟨b, off + 1, none⟩ = some (.int .i64 x.n) := by simpa using e1
                have g0 := (Gr.refl wr).cellG hb e0
                have g1 := (Gr.refl wr).cellG hb e1
                go_wp2
                refine wp_region_quiet_grown mixed (by kernel_rfl) ?_
                repeat (go_big_quiet_step (first | (go_at_call 50; refine Calls.grown_of (hRg.out _ _)) | (go_at_call 30; refine Calls.grown_of (hIg.out _ _))))
                refine wpQuiet_nil ?_
                rintro _ ⟨⟨nq, osq⟩, rfl⟩
                have hfg : Hid (Gr w (grow (wr.drewN nq) osq)) := hgr.out.trans ⟨nq, osq, rfl⟩
                go_wp2
                go_roundw
                case rel => exact ⟨0 + 1, by omega, by go_num, hfin, hfg⟩
                case measure => simp [intOf]; omega
              · obtain ⟨m, hm⟩ : ∃ m : Nat, k = m + 1 := ⟨k - 1, by omega⟩
                have hml : m < l.length := by omega
                obtain ⟨y, hy⟩ : ∃ y, l[m] = y := ⟨_, rfl⟩
                obtain ⟨f0, _⟩ := hcs m hml
                rw [hy] at f0
                have g2 := (Gr.refl wr).cellG hb f0
                have hye := hI.out.each y (by rw [← hy]; exact List.getElem_mem hml)
                obtain ⟨cc, hcc⟩ : ∃ cc, cmpL y.r x.r = cc := ⟨_, rfl⟩
                have hOg : Hid (∀ n os, Calls Tryz.prog 40 #[.slice y.p y.r.length y.c, .slice x.p x.r.length x.c] (grow (wr.drewN n) os) fun e w' => e = .returned (.int .i64 cc) ∧ ∃ q os', w' = grow ((grow (wr.drewN n) os).drewN q) os') := fun n os => by
                  rw [← hcc]
                  exact orderD_any y.r x.r y.p x.p y.c x.c _ hye.2.1 (hye.1.gr ⟨n, os, rfl⟩) (hxrH.out.1.gr ⟨n, os, rfl⟩)
                have hoki : Hid (okI l k = decide (cc = -1)) := by
                  show _ = _
                  rw [hk1.out m hm y hy, hzt, Bool.true_and, ← hcc, decide_eq_decide]
                  exact cmpL_minus.symm
                have hj0z : (0 : Int) < (k : Int) := by omega
                have hjd1 : decide ((0 : Int) < (k : Int)) = true := decide_eq_true hj0z
                have hjd2 : decide (0 < k) = true := decide_eq_true (by omega)
                have hj0n : 0 < k := by omega
                have hjm : IntKind.i64.wrap ((k : Int) - 1) = (m : Int) := by rw [IntKind.wrap_i64]; omega
                have hjm2 : wrap64 ((k : Int) - 1) = (m : Int) := by unfold wrap64; omega
                have hmz : (m : Int) < (l.length : Int) := by omega
                have hm0 : (0 : Int) ≤ (m : Int) := by omega
                clear hcs hx hk1 hn0 hzt hm hj0 hy hye hcc
                cases hcb : (cc != -1)
                · have hfin : Hid (∀ j, j < k + 1 → okI l j = true) := hgoodH.out (by rw [hoki.out]; simpa using hcb)
                  go_wp2
                  refine wp_region_quiet_grown mixed (by kernel_rfl) ?_
                  repeat (go_big_quiet_step (first | (go_at_call 50; refine Calls.grown_of (hRg.out _ _)) | (go_at_call 30; refine Calls.grown_of (hIg.out _ _)) | (go_at_call 40; refine Calls.grown_of (hOg.out _ _))))
                  refine wpQuiet_nil ?_
                  rintro _ ⟨⟨nq, osq⟩, rfl⟩
                  have hfg : Hid (Gr w (grow (wr.drewN nq) osq)) := hgr.out.trans ⟨nq, osq, rfl⟩
                  go_wp2
                  go_roundw
                  case rel => exact ⟨k + 1, by omega, by go_num, hfin, hfg⟩
                  case measure => simp [intOf]; omega
                · have hfin : Hid (errZ (l.map Itm.z) = 5) := hbadH.out (by rw [hoki.out]; simpa using hcb)
                  go_wp2
                  refine wp_region_quiet_grown mixed (by kernel_rfl) ?_
                  repeat (go_big_quiet_step (first | (go_at_call 50; refine Calls.grown_of (hRg.out _ _)) | (go_at_call 30; refine Calls.grown_of (hIg.out _ _)) | (go_at_call 40; refine Calls.grown_of (hOg.out _ _))))
                  refine wpQuiet_nil ?_
                  rintro _ ⟨⟨nq, osq⟩, rfl⟩
                  go_wp2
                  go_ret
                  exact ⟨by rw [hfin.out]; rfl, hgr.out.trans ⟨nq, osq, rfl⟩⟩
      · have hltz : ¬ (k : Int) < (l.length : Int) := by omega
        have hfin : Hid (errZ (l.map Itm.z) = 0) := errZ_ok h4 (fun j hj => hall.out j (by omega))
        go_wp2
        go_ret
        exact ⟨by rw [hfin.out]; rfl, hgr.out⟩
end Go.Proofs.YtoanlaedkpkpnaaGreatDoor

namespace Go.Proofs.YtoanlaedkpkpnaaGreatDoor
open Go.RowKit Go.Sort

/-- The first item that may not stand in a set, or too many. -/
def madE (m : List Zit) : Int := if (totL m).all (fun x => okR x.1 && okW x.2) = true then (if 400 < (totL m).length then 2 else 0) else 5
def madL (m : List Zit) : List Zit := if madE m = 0 then totL m else []
theorem tot_rows {m : List Zit} (h : ∀ x ∈ m, okR x.1 = true) : ∀ x ∈ totL m, okR x.1 = true := fun x hx => by
  obtain ⟨y, hy, e⟩ := (totL_is m).row hx
  rw [← e]; exact h y hy
theorem madE_tot {m : List Zit} (h : ∀ x ∈ m, okR x.1 = true) : madE m = if totE m = 0 then (if 400 < (totL m).length then 2 else 0) else 5 := by
  have hr := tot_rows h
  unfold madE totE
  by_cases e : (totL m).all (fun x => okW x.2) = true
  · rw [if_pos (show (if (totL m).all (fun x => okW x.2) = true then (0 : Int) else 5) = 0 by rw [if_pos e]), if_pos]
    rw [List.all_eq_true] at e ⊢
    intro x hx
    rw [hr x hx, e x hx]; rfl
  · rw [if_neg (show ¬ (if (totL m).all (fun x => okW x.2) = true then (0 : Int) else 5) = 0 by rw [if_neg e]; decide), if_neg]
    intro k
    apply e
    rw [List.all_eq_true] at k ⊢
    intro x hx
    have := k x hx
    simp only [Bool.and_eq_true] at this
    exact this.2
theorem totE_05 (m : List Zit) : totE m = 0 ∨ totE m = 5 := by
  unfold totE
  split
  · exact Or.inl rfl
  · exact Or.inr rfl
theorem norm_made {m : List Zit} (h4 : ¬ 400 < m.length) (h : ∀ x ∈ m, okR x.1 = true ∧ okW x.2 = true) : normE m = madE m ∧ normL m = madL m := by
  have e1 : normE m = totE m := by
    unfold normE
    rw [if_neg h4, if_pos]
    rw [List.all_eq_true]
    intro x hx
    rw [(h x hx).1, (h x hx).2]; rfl
  have e2 : madE m = totE m := by
    rw [madE_tot fun x hx => (h x hx).1]
    rcases totE_05 m with k | k
    · rw [if_pos k, if_neg (by have := totL_len m; omega), k]
    · rw [if_neg (by rw [k]; decide), k]
  refine ⟨by rw [e1, e2], ?_⟩
  unfold normL madL
  rw [e1, e2]
theorem add_made {a b : List Zit} (ha : errZ a = 0) (hb : errZ b = 0) : addE a b = madE (a ++ b) ∧ addL a b = madL (a ++ b) := by
  have h1 := (errZ_iff a).1 ha
  have h2 := (errZ_iff b).1 hb
  have e : addE a b = madE (a ++ b) := by
    rw [madE_tot fun x hx => by
      rcases List.mem_append.1 hx with k | k
      · exact (okZ_parts (h1.2.1 x k)).1
      · exact (okZ_parts (h2.2.1 x k)).1]
    unfold addE
    rw [if_pos ha, if_pos hb]
    rcases totE_05 (a ++ b) with k | k
    · rw [if_pos k, if_pos k]
    · rw [if_neg (by rw [k]; decide), if_neg (by rw [k]; decide), k]
  refine ⟨e, ?_⟩
  unfold addL madL
  rw [e]
theorem madL_len (m : List Zit) : (madL m).length ≤ 400 := by
  unfold madL
  by_cases h : madE m = 0
  · rw [if_pos h]
    unfold madE at h
    by_cases k : (totL m).all (fun x => okR x.1 && okW x.2) = true
    · rw [if_pos k] at h
      by_cases k2 : 400 < (totL m).length
      · rw [if_pos k2] at h; cases h
      · omega
    · rw [if_neg k] at h; cases h
  · rw [if_neg h]; simp
theorem wd_sets {a b : List Itm} (ha : errZ (a.map Itm.z) = 0) (hb : errZ (b.map Itm.z) = 0) : Wd (a ++ b) := by
  have h1 := (errZ_iff _).1 ha
  have h2 := (errZ_iff _).1 hb
  have key : ∀ x ∈ a ++ b, okR x.r = true ∧ okW x.n = true := fun x hx => by
    rcases List.mem_append.1 hx with k | k
    · have := okZ_parts (h1.2.1 x.z (List.mem_map.2 ⟨x, k, rfl⟩)); exact ⟨this.1, this.2.1⟩
    · have := okZ_parts (h2.2.1 x.z (List.mem_map.2 ⟨x, k, rfl⟩)); exact ⟨this.1, this.2.1⟩
  refine ⟨by have := h1.1; have := h2.1; simp at *; omega, fun x hx => ?_, fun x hx => ?_⟩
  · have h := (key x hx).1
    simp only [okR, Bool.and_eq_true, decide_eq_true_eq] at h
    refine ⟨by omega, fun n hn => ?_⟩
    have := List.all_eq_true.1 h.2 n hn
    simp only [okN, inB, Bool.and_eq_true, decide_eq_true_eq] at this
    exact ⟨by omega, by omega⟩
  · have h := (key x hx).2
    simp only [okW, inB, Bool.and_eq_true, decide_eq_true_eq] at h
    omega
theorem wd_norm {l : List Itm} (h4 : ¬ 400 < l.length) (h : ∀ x ∈ l, okR x.r = true ∧ okW x.n = true) : Wd l := by
  refine ⟨by omega, fun x hx => ?_, fun x hx => ?_⟩
  · have h := (h x hx).1
    simp only [okR, Bool.and_eq_true, decide_eq_true_eq] at h
    refine ⟨by omega, fun n hn => ?_⟩
    have := List.all_eq_true.1 h.2 n hn
    simp only [okN, inB, Bool.and_eq_true, decide_eq_true_eq] at this
    exact ⟨by omega, by omega⟩
  · have h := (h x hx).2
    simp only [okW, inB, Bool.and_eq_true, decide_eq_true_eq] at h
    omega
end Go.Proofs.YtoanlaedkpkpnaaGreatDoor
