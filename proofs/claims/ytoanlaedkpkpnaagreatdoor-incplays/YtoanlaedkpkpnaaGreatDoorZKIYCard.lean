/-
  Proved: whatever list of steps and list of meals are handed in, IncPlays returns true (a view does what the program's second telling does, meal by meal), and each argument reads afterwards as it read before; the listed package variables (the library's tables) start as the program's text lays them, and the card ties that to the text.
-/
import Derived.Test.YtoanlaedkpkpnaaGreatDoorM30
import Derived.Test.YtoanlaedkpkpnaaGreatDoorM31
import Derived.Test.YtoanlaedkpkpnaaGreatDoorM08
import Derived.Test.YtoanlaedkpkpnaaGreatDoorCards
import Derived.Test.YtoanlaedkpkpnaaGreatDoorTie
import Derived.LaidMore
import Derived.Stop.Joined
import Derived.SevenTiedAt
import Derived.HandedShaped
import Derived.Lay
namespace Go.Proofs.YtoanlaedkpkpnaaGreatDoor
open Go.ChangeShapes Go.WideShapes Go.ChangeAt Go.RowKit Go.Deep

set_option maxRecDepth 100000 in
theorem open_meals {H : Type} {enc : TypeId × Value → H} {W : World} {r : Reach} {b0 : Nat} {v : Value} {d : DataW H} {p : List MemPlace} (hv : Value.okWide Tryz.prog W r b0 23 v) (h : DataW.Trod enc Tryz.prog W 0 (fun _ => true) true 23 v d p) :
    ∃ A cap l, v = .slice A (l : List Fd).length cap ∧ Meals W A l ∧ l.length ≤ maxLen := by
  obtain ⟨aL, lenL, capL, rfl⟩ := okWide_slice Tryz.underlying23 hv
  obtain ⟨fuel, hf⟩ := h
  rcases open_slice Tryz.underlying23 hf with ⟨hcs, _⟩ | ⟨a, len, cap, m, n, D, Pl, hcs, _, hl, hm, hmm, hx, hi⟩
  · simp [Value.cells] at hcs
    obtain ⟨rfl, rfl, rfl⟩ := hcs
    exact ⟨none, 0, [], rfl, ⟨Or.inl rfl, fun x hx => by cases hx⟩, by simp⟩
  · simp [Value.cells] at hcs
    obtain ⟨rfl, rfl, rfl⟩ := hcs
    have c2 : Tryz.prog.cellsOf 35 = 2 := by kernel_rfl
    have hlm : lenL ≤ m := by rw [hmm]; simp; exact hl
    haveI : Inhabited Fd := ⟨⟨none, 0, [], none, 0, []⟩⟩
    obtain ⟨Z, hZ⟩ := choose_lt (α := Fd) (n := lenL) (p := fun i z => (∀ j, j < 2 → W.cell? (a.add (i * 2 + j)) = (encF z)[j]?) ∧ Lv W z.A z.ca z.a ∧ Lv W z.B z.cb z.b) (fun i hi' => by
      obtain ⟨cs', h1, h2⟩ := hi i (by omega)
      rw [c2] at h1
      obtain ⟨_, hlen, hcell⟩ := World.cells?_some h1
      match cs', hlen with
      | [u0, u1], _ =>
        obtain ⟨A, ca, x, B, cb, y, e0, e1, ⟨x1, x2, x3⟩, ⟨y1, y2, y3⟩⟩ := open_foodT h2
        refine ⟨⟨A, ca, x, B, cb, y⟩, fun j hj => ?_, ⟨x2, x1, x3⟩, ⟨y2, y1, y3⟩⟩
        have := hcell j (by omega)
        rw [add_add] at this
        rw [this, e0, e1]
        rfl)
    refine ⟨some a, capL, (List.range lenL).map Z, by simp, ⟨?_, fun x hx => ?_⟩, by simp; omega⟩
    · by_cases h0 : lenL = 0
      · exact Or.inl (by rw [h0]; rfl)
      · have hc0 := (hZ 0 (by omega)).1 0 (by omega)
        obtain ⟨b, off, spot⟩ := a
        have hc1 : W.cell? (Addr.add ⟨b, off, spot⟩ (0 * 2 + 0)) = some (.slice (Z 0).A (Z 0).a.length (Z 0).ca) := hc0
        have hspot : spot = none := by simpa [Addr.add] using World.cell?_spot hc1
        subst hspot
        refine Or.inr ⟨b, off, rfl, ?_, fun j hj i hi5 => ?_⟩
        · have := World.block_lt_of_cell? W _ hc1
          simpa [Addr.add_lit] using this
        · have hj' : j < lenL := by simpa using hj
          have := (hZ j hj').1 i hi5
          simp only [Addr.add_lit, ← Nat.add_assoc] at this
          simpa using this
    · obtain ⟨i, hi', rfl⟩ := List.mem_map.1 hx
      exact (hZ i (by simpa using hi')).2

theorem tTens : ((Tryz.prog.globalNamed "internal/strconv.uint64pow10").bind fun g => (Tryz.prog.globals[g]?).map (·.type)) = some 164 := by kernel_rfl
theorem tens_list {H : Type} : (Rows.laid_internal_strconv_uint64pow10 : DataW H) = Lib.tabData .u64 Lib.pow10Tab := rfl
set_option maxRecDepth 100000 in
theorem of_laid {W : World} (h : laidMetH Tryz.prog Rows.incPlaysRow.laid W) : Tens W := by
  rw [MakeChecks.laidMetH_plain _ _ _ (by kernel_rfl)] at h
  obtain ⟨ps, ⟨g0, t0, cs0, f0, p0, q0, hg0, ht0, hv0, hd0, ⟨g1, t1, cs1, f1, p1, q1, hg1, ht1, hv1, hd1, ⟨g2, t2, cs2, f2, p2, q2, hg2, ht2, hv2, hd2, _, _⟩, _⟩, _⟩, _, _⟩ := h
  have hT := tTens
  rw [hg2] at hT
  obtain rfl := Option.some.inj (ht2.symm.trans hT)
  rw [tens_list] at hd2
  have := Lib.cells_of_tab Tryz.underlying164 Tryz.underlying111 (by kernel_rfl) (by kernel_rfl) hd2
  show W.var? Tryz.prog _ = some _
  rw [hv2, ← this]

set_option maxRecDepth 100000 in
theorem incPlays_lifted (os : Os) (started : os.Started) (H : Type) (enc : TypeId × Value → H) :
    ReturnsInHanded {} Tryz.checked os 3 .any (fun w args => (Rows.incPlaysSpec.pre enc Tryz.prog Tryz.f3 [] false w args ∧ laidMetH Tryz.prog Rows.incPlaysRow.laid w) ∧ sizedMet enc Tryz.prog Tryz.f3 (OpenSpec.ofChange Rows.incPlaysSpec) false w args)
      (Rows.incPlaysSpec.post enc Tryz.prog Tryz.f3 false true false false) := by
  refine returnsInHanded_of_change_and (C := Tryz.checked) (X := fun w _ => laidMetH Tryz.prog Rows.incPlaysRow.laid w) (fun _ _ _ hh h => h.of_heap hh) ownK started (by kernel_rfl) Tryz.func3
    (ChangeSpec.witness_shaped (enc := enc) (C := Tryz.checked) (os := os) (X := fun w _ => laidMetH Tryz.prog Rows.incPlaysRow.laid w) false (World.laidAll Tryz.prog os Rows.incPlaysRow.laid) #[.slice none 0 0, .slice none 0 0] 8 rfl (World.shaped_of_ZipB (by kernel_rfl) (by kernel_rfl)) (by kernel_rfl) (by kernel_rfl) (by kernel_rfl) (by rw [MakeChecks.laidMetH_plain _ _ _ (by kernel_rfl)]; exact laidMet_laidAll _ (by kernel_rfl) (by kernel_rfl))) ?_
  intro W base args ds gs before hval0 hW _ _ hL _
  have hval : ∀ (j : Nat) t v, Tryz.f3.params[j]? = some t → args[j]? = some v → Value.okWide Tryz.prog W .any base t v := hval0
  have hW' := hW
  obtain ⟨p, q, hA0, hV, rfl, hfz, hnd⟩ := hW
  have hA : DataW.TrodAll enc Tryz.prog W 0 (fun _ => true) true Tryz.f3.params.toList args.toList ds p := hA0
  rw [Tryz.params3] at hA hval
  obtain ⟨v0, vs0, d0, ds0, p0, q0, hargs, rfl, rfl, h0, r0⟩ := trodAll_cons hA
  obtain ⟨v1, vs1, d1, ds1, p1, q1, rfl, rfl, rfl, h1, r1⟩ := trodAll_cons r0
  obtain ⟨rfl, rfl, rfl⟩ := trodAll_nil r1
  obtain rfl : args = #[v0, v1] := by cases args; simp_all
  obtain ⟨rfl, rfl⟩ := trodVars_none hV
  have lt0 : ∀ x ∈ p0, x.block < W.heap.size := by obtain ⟨m, hm⟩ := h0; exact DataW.trod_lt m _ _ _ hm
  have lt1 : ∀ x ∈ p1, x.block < W.heap.size := by obtain ⟨m, hm⟩ := h1; exact DataW.trod_lt m _ _ _ hm
  have k0 := h0
  have k1 := h1
  obtain ⟨A, cap, l, rfl, hA', hst, hll⟩ := open_steps (hval 0 22 v0 rfl rfl) h0
  obtain ⟨B, cb, m, rfl, hme, hml⟩ := open_meals (hval 1 23 v1 rfl rfl) h1
  clear hA0 hval0
  refine (iplays_any l A cap m B cb W hll hml hst hme (of_laid hL)).mono fun e W' ⟨he, bel⟩ => ?_
  subst he
  exact ⟨_, rfl, _, _, _, [], _, [], hW', trodAll_mk1 (shut_bool Tryz.underlying4 _),
    (trodAll_cons_mk (Below.trod laidAll (by kernel_rfl) (of_decide_eq_true (by kernel_rfl)) k0 bel lt0)
      (trodAll_cons_mk (Below.trod laidAll (by kernel_rfl) (of_decide_eq_true (by kernel_rfl)) k1 bel lt1) trodAll_mk0)), rfl, bel.frame _, fun h => by cases h⟩

theorem incPlays_row : Rows.IncPlaysSaid :=
  OpenClaim.holds_of_wide 3 Tryz.f3 rfl rfl rfl rfl rfl rfl rfl ⟨rfl, rfl, rfl, rfl, rfl⟩ rfl rfl rfl rfl rfl (by kernel_rfl) Tryz.func3 (by kernel_rfl)
    (of_decide_eq_true (by kernel_rfl)) (by unfold Func.isWrapper; first | (rw [if_pos (by decide +kernel)]; kernel_rfl) | (rw [if_neg (by decide +kernel)]; exact ⟨rfl, rfl⟩))
    (fun os started H enc _ => incPlays_lifted os started H enc)

theorem incPlays_card : Rows.IncPlaysCardSaid :=
  Claim7.holds_tied_plain_at .later [] Rows.incPlaysCard.laidKinds true Rows.incPlaysCard.stood.harness false
    incPlays_row (fun _ h => by cases h) (by kernel_rfl) (fun _ h => by cases h) incPlays_row_tie rfl ⟨rfl, rfl⟩ (by kernel_rfl) rfl
    (fun f fn hf hfn => by
      obtain rfl : f = 3 := Option.some.inj ((show Tryz.prog.funcNamed Rows.incPlaysRow.func = some 3 by kernel_rfl).symm.trans hf) |>.symm
      obtain rfl : fn = Tryz.f3 := (Option.some.inj (Tryz.func3.symm.trans hfn)).symm
      exact ⟨by kernel_rfl, fun j t ht => by
        rw [Tryz.params3] at ht
        have hm : t ∈ [22, 23] := by simpa using Array.mem_of_getElem? ht
        have hall : ([22, 23].all fun u => !Tryz.prog.wantsStandIn u) = true := by kernel_rfl
        exact (show Tryz.prog.wantsStandIn t = false by simpa using List.all_eq_true.1 hall t hm)⟩)
    (by kernel_rfl)

#print axioms incPlays_card
end Go.Proofs.YtoanlaedkpkpnaaGreatDoor
