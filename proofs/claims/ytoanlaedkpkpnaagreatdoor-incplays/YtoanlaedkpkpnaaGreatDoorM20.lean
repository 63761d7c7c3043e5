/-
  strconv.Itoa: the text of a number.
  viewref.name: the name of a row; names of two rows are one only where the rows are.
  viewref.Order: the document's order of two rows.
-/
import Derived.Test.YtoanlaedkpkpnaaGreatDoorM16
import Derived.Test.YtoanlaedkpkpnaaGreatDoorM19
import Derived.Shelf.Unicode.PredsPay
import Derived.Lib.ItoaLen
import Derived.Test.YtoanlaedkpkpnaaGreatDoorM01
import Derived.Test.YtoanlaedkpkpnaaGreatDoorM02
namespace Go.Proofs.YtoanlaedkpkpnaaGreatDoor
open Go.RowKit Go.Sort

/-- The library's powers of ten lie as they are laid. -/
def Tens (w : World) : Prop := Lib.TabIs Tryz.prog w "internal/strconv.uint64pow10" .u64 Lib.pow10Tab
theorem Tens.below {w w' : World} (h : Tens w) (k : Below w.heap.size w w') : Tens w' := by
  have hs : (Tryz.prog.globalNamed "internal/strconv.uint64pow10").isSome = true := by kernel_rfl
  obtain ⟨g, hg⟩ := Option.isSome_iff_exists.1 hs
  exact TabIs_below hg h k
theorem Tens.gr {w w' : World} (h : Tens w) (k : Gr w w') : Tens w' := h.below k.below
theorem itoa_any {n : Int} (h : Small n) {w : World} (ht : Tens w) : Calls Tryz.prog 52 #[.int .i64 n] w fun e w' => e = .returned (.string ⟨(Lib.itoa n).toArray⟩) ∧ Gr w w' := by
  have hc := Any.strconv_Itoa Tryz.lays171 n (by have := h.1; omega) (by have := h.2; omega) w ht
  change Calls Tryz.prog 52 _ _ _ at hc
  exact hc
theorem itoa_len {n : Int} (h : Small n) : (Lib.itoa n).length ≤ 21 := Lib.itoa_length_le n (by have := h.1; omega) (by have := h.2; omega)
end Go.Proofs.YtoanlaedkpkpnaaGreatDoor

namespace Go.Proofs.YtoanlaedkpkpnaaGreatDoor
open Go.RowKit Go.Sort

/-- A number that an int holds. -/
def I64 (n : Int) : Prop := -9223372036854775808 ≤ n ∧ n ≤ 9223372036854775807
theorem itoa_wide2 {n : Int} (h : I64 n) {w : World} (ht : Tens w) : Calls Tryz.prog 52 #[.int .i64 n] w fun e w' => e = .returned (.string ⟨(Lib.itoa n).toArray⟩) ∧ Gr w w' := by
  have hc := Any.strconv_Itoa Tryz.lays171 n h.1 h.2 w ht
  change Calls Tryz.prog 52 _ _ _ at hc
  exact hc
theorem itoa_len2 {n : Int} (h : I64 n) : (Lib.itoa n).length ≤ 21 := Lib.itoa_length_le n (by have := h.1; omega) (by have := h.2; omega)
/-- The name of a row. -/
def nmL (r : List Int) : List UInt8 := r.flatMap fun x => Lib.itoa x ++ [44]
theorem nmL_take {r : List Int} {k : Nat} (h : k < r.length) : nmL (r.take (k + 1)) = nmL (r.take k) ++ (Lib.itoa r[k] ++ [44]) := by
  unfold nmL
  rw [List.take_succ_eq_append_getElem h, List.flatMap_append, List.flatMap_cons, List.flatMap_nil, List.append_nil]
theorem nmL_len : ∀ {r : List Int}, (∀ x ∈ r, I64 x) → (nmL r).length ≤ r.length * 22
  | [], _ => by simp [nmL]
  | x :: r, h => by
    have h1 := nmL_len (r := r) fun y hy => h y (List.mem_cons_of_mem _ hy)
    have h2 := itoa_len2 (h x (List.mem_cons_self ..))
    have e : nmL (x :: r) = Lib.itoa x ++ [44] ++ nmL r := by simp [nmL]
    rw [e]
    simp only [List.length_append, List.length_cons, List.length_nil]
    omega
theorem cut_comma : ∀ {x y u v : List UInt8}, (44 : UInt8) ∉ x → (44 : UInt8) ∉ y → x ++ 44 :: u = y ++ 44 :: v → x = y ∧ u = v
  | [], [], u, v, _, _, h => by simp at h; exact ⟨rfl, h⟩
  | [], b :: y, u, v, _, hy, h => by
    simp at h
    exact absurd (by rw [h.1]; simp) hy
  | a :: x, [], u, v, hx, _, h => by
    simp at h
    exact absurd (by rw [← h.1]; simp) hx
  | a :: x, b :: y, u, v, hx, hy, h => by
    simp only [List.cons_append, List.cons.injEq] at h
    obtain ⟨h1, h2⟩ := cut_comma (fun e => hx (List.mem_cons_of_mem _ e)) (fun e => hy (List.mem_cons_of_mem _ e)) h.2
    exact ⟨by rw [h.1, h1], h2⟩
/-- Digits alone, or a sign. -/
theorem dec_free (u : Nat) : (44 : UInt8) ∉ Lib.decDigits u := by
  induction u using Nat.strongRecOn with
  | ind u ih =>
    intro hb
    rw [Lib.decDigits] at hb
    have dg : ∀ d, d < 10 → (44 : UInt8) ≠ UInt8.ofNat (48 + d) := fun d hd e => by
      have := congrArg UInt8.toNat e
      rw [UInt8.toNat_ofNat'] at this
      have h44 : (44 : UInt8).toNat = 44 := rfl
      omega
    split at hb
    · next h => exact dg u h (List.mem_singleton.1 hb)
    · next h =>
      rcases List.mem_append.1 hb with hb | hb
      · exact ih (u / 10) (by omega) hb
      · exact dg _ (Nat.mod_lt _ (by decide)) (List.mem_singleton.1 hb)
theorem itoa_comma (n : Int) : (44 : UInt8) ∉ Lib.itoa n := by
  unfold Lib.itoa
  split
  · intro h
    rcases List.mem_cons.1 h with e | e
    · exact absurd e (by decide)
    · exact dec_free _ e
  · exact dec_free _
theorem dec_ne (u : Nat) : Lib.decDigits u ≠ [] := by
  rw [Lib.decDigits]
  split <;> simp
theorem dec_val (u : Nat) : (Lib.decDigits u).foldl (fun n b => n * 10 + (b.toNat - 48)) 0 = u := by
  induction u using Nat.strongRecOn with
  | ind u ih =>
    have dg : ∀ d, d < 10 → (UInt8.ofNat (48 + d)).toNat - 48 = d := fun d hd => by rw [UInt8.toNat_ofNat']; omega
    rw [Lib.decDigits]
    split
    · next h => simp only [List.foldl_cons, List.foldl_nil]; rw [dg u h]; omega
    · next h =>
      rw [List.foldl_append, ih (u / 10) (by omega)]
      simp only [List.foldl_cons, List.foldl_nil]
      rw [dg _ (Nat.mod_lt _ (by decide))]
      omega
theorem dec_head (u : Nat) : ∀ b t, Lib.decDigits u = b :: t → b ≠ 45 := by
  intro b t h e
  have hd : ∀ c ∈ Lib.decDigits u, c ≠ 45 := by
    clear h
    induction u using Nat.strongRecOn with
    | ind u ih =>
      intro c hc
      rw [Lib.decDigits] at hc
      have dg : ∀ d, d < 10 → UInt8.ofNat (48 + d) ≠ 45 := fun d hd e => by
        have := congrArg UInt8.toNat e
        rw [UInt8.toNat_ofNat'] at this
        have h45 : (45 : UInt8).toNat = 45 := rfl
        omega
      split at hc
      · next h => rw [List.mem_singleton.1 hc]; exact dg u h
      · next h =>
        rcases List.mem_append.1 hc with hc | hc
        · exact ih (u / 10) (by omega) c hc
        · rw [List.mem_singleton.1 hc]; exact dg _ (Nat.mod_lt _ (by decide))
  exact hd b (by rw [h]; simp) e
theorem itoa_inj {m n : Int} (h : Lib.itoa m = Lib.itoa n) : m = n := by
  unfold Lib.itoa at h
  have dv : ∀ u v : Nat, Lib.decDigits u = Lib.decDigits v → u = v := fun u v e => by rw [← dec_val u, ← dec_val v, e]
  split at h
  · next hm =>
    split at h
    · next hn =>
      have := dv _ _ (List.cons.inj h).2
      omega
    · next hn =>
      exfalso
      exact dec_head _ _ _ h.symm rfl
  · next hm =>
    split at h
    · next hn =>
      exfalso
      exact dec_head _ _ _ h rfl
    · next hn =>
      have := dv _ _ h
      omega
theorem nmL_inj : ∀ {a b : List Int}, nmL a = nmL b → a = b
  | [], [], _ => rfl
  | [], y :: b, h => by
    have := congrArg List.length h
    simp [nmL] at this
  | x :: a, [], h => by
    have := congrArg List.length h
    simp [nmL] at this
  | x :: a, y :: b, h => by
    have e : ∀ (z : Int) (c : List Int), nmL (z :: c) = Lib.itoa z ++ 44 :: nmL c := fun z c => by simp [nmL]
    rw [e, e] at h
    obtain ⟨h1, h2⟩ := cut_comma (itoa_comma x) (itoa_comma y) h
    rw [itoa_inj h1, nmL_inj h2]
theorem addB2 {x y : List UInt8} {a b c : ByteArray} (hc : c = ⟨(x ++ y).toArray⟩) (ha : a = ⟨x.toArray⟩) (hb : b = ⟨y.toArray⟩) (h : x.length + y.length ≤ 9000000000000000000) : ∀ w, (Op.stringOp .add a b).run Tryz.prog w = .ok (.string c) w := fun w => by
  subst hc ha hb
  rw [run_string_add_sum w _ _ (by simp [ByteArray.size]; omega), ByteArray.mk_append_mk]

set_option maxRecDepth 100000 in
set_option maxHeartbeats 1000000 in
theorem name_any (r : List Int) (A : Option Addr) (c : Nat) (w : World) (hl : r.length ≤ 100) (hs : ∀ x ∈ r, I64 x) (hr : RowI w A r) (ht : Tens w) :
    Calls Tryz.prog 38 #[.slice A r.length c] w fun e w' => e = .returned (.string ⟨(nmL r).toArray⟩) ∧ Gr w w' := by
  have hH : Hid (RowI w A r ∧ Tens w ∧ ∀ x ∈ r, I64 x) := ⟨hr, ht, hs⟩
  clear hr ht hs
  go_enter Tryz.func38, Tryz.ntmps38
  go_wp2
  go_loopw [3, 4] (fun v i wr => ∃ (k : Nat) (B : ByteArray), k ≤ r.length ∧ i = .int .i64 k ∧ v = .string B ∧ Hid (B = ⟨(nmL (r.take k)).toArray⟩ ∧ Gr w wr)) (fun _ i _ => r.length - (intOf i).toNat)
  case atStart => exact ⟨0, ⟨#[]⟩, Nat.zero_le _, rfl, rfl, rfl, Gr.refl _⟩
  case round =>
    obtain ⟨k, B, hk, rfl, rfl, hR⟩ := hrel
    by_cases hlt : k < r.length
    · have hltz : (k : Int) < (r.length : Int) := by omega
      obtain ⟨bb, off, rfl, hb, hcs⟩ := (hH.out.1.gr hR.out.2).at hlt
      obtain ⟨n, hn⟩ : ∃ n, r[k] = n := ⟨_, rfl⟩
      have e0 : wr.cell? ⟨bb, off + k, none⟩ = some (.int .i64 n) := by
        have := hcs k hlt 0 (by omega)
        rw [hn] at this
        simpa [encI] using this
      have hsm : I64 n := hH.out.2.2 n (by rw [← hn]; exact List.getElem_mem hlt)
      have htk : Hid (nmL (r.take (k + 1)) = nmL (r.take k) ++ (Lib.itoa n ++ [44])) := by show _ = _; rw [nmL_take hlt, hn]
      have hlen : (nmL (r.take k)).length ≤ 2200 := by
        have := nmL_len (r := r.take k) fun x hx => hH.out.2.2 x (List.mem_of_mem_take hx)
        simp at this
        omega
      have hil := itoa_len2 hsm
      obtain ⟨I, hI⟩ : ∃ I : ByteArray, I = ⟨(Lib.itoa n).toArray⟩ := ⟨_, rfl⟩
      obtain ⟨J, hJ⟩ : ∃ J : ByteArray, J = ⟨(Lib.itoa n ++ [44]).toArray⟩ := ⟨_, rfl⟩
      obtain ⟨B', hB'⟩ : ∃ B' : ByteArray, B' = ⟨(nmL (r.take k) ++ (Lib.itoa n ++ [44])).toArray⟩ := ⟨_, rfl⟩
      have s1 : ∀ w, (Op.stringOp .add I ⟨#[44]⟩).run Tryz.prog w = .ok (.string J) w := addB2 (x := Lib.itoa n) (y := [44]) hJ hI rfl (by simp; omega)
      have s2 : ∀ w, (Op.stringOp .add B J).run Tryz.prog w = .ok (.string B') w := addB2 hB' hR.out.1 hJ (by simp; omega)
      have hC0 := itoa_wide2 hsm (hH.out.2.1.gr hR.out.2)
      rw [← hI] at hC0
      have hC : Hid _ := hC0
      have hfB : Hid (B' = ⟨(nmL (r.take (k + 1))).toArray⟩) := by show _ = _; rw [htk.out]; exact hB'
      clear hC0 hI hJ hB' hn hsm hcs hil hlen
      go_wp2_with fail
      refine Calls.mono (show Calls _ _ _ _ _ from hC.out) ?_
      rintro e w2 ⟨rfl, hg2⟩
      have hfin : Hid (B' = ⟨(nmL (r.take (k + 1))).toArray⟩ ∧ Gr w w2) := ⟨hfB.out, hR.out.2.trans hg2⟩
      clear hC hg2
      go_wp2
      go_roundw
      case rel => exact ⟨k + 1, B', by omega, by go_num, rfl, hfin⟩
      case measure => simp [intOf]; omega
    · have hltz : ¬ (k : Int) < (r.length : Int) := by omega
      have hfin : Hid (B = ⟨(nmL r).toArray⟩) := by
        have := hR.out.1
        rw [List.take_of_length_le (by omega)] at this
        exact this
      go_wp2
      go_ret
      exact ⟨by rw [hfin.out]; rfl, hR.out.2⟩
end Go.Proofs.YtoanlaedkpkpnaaGreatDoor

namespace Go.Proofs.YtoanlaedkpkpnaaGreatDoor
open Go.RowKit Go.Sort

theorem cmpL_short {a b : List Int} {k : Nat} (h1 : k = a.length) (h2 : k < b.length) (h : ∀ j (h1 : j < a.length) (h2 : j < b.length), j < k → cmpI a[j] b[j] = 0) : cmpL a b = -1 := by
  have := cmpL_end (a := a) (b := b) (by omega) (fun j h3 h4 _ => h j h3 h4 (by omega))
  rw [this, if_pos (by omega)]
theorem cmpL_same {a b : List Int} {k : Nat} (h1 : k = a.length) (h2 : k = b.length) (h : ∀ j (h1 : j < a.length) (h2 : j < b.length), j < k → cmpI a[j] b[j] = 0) : cmpL a b = 0 := by
  have := cmpL_end (a := a) (b := b) (by omega) (fun j h3 h4 _ => h j h3 h4 (by omega))
  rw [this, if_neg (by omega)]
set_option maxRecDepth 100000 in
set_option maxHeartbeats 1000000 in
theorem orderD_any (a b : List Int) (A B : Option Addr) (ca cb : Nat) (w : World) (hal : a.length ≤ maxLen) (hra : RowI w A a) (hrb : RowI w B b) :
    Calls Tryz.prog 40 #[.slice A a.length ca, .slice B b.length cb] w fun e w' => e = .returned (.int .i64 (cmpL a b)) ∧ Gr w w' := by
  have mixed : Tryz.prog.follows .mixedOrders = true := by kernel_rfl
  unfold maxLen at hal
  have hH : Hid (RowI w A a ∧ RowI w B b) := ⟨hra, hrb⟩
  clear hra hrb
  go_enter Tryz.func40, Tryz.ntmps40
  go_wp2
  go_loopw [5] (fun i wr => ∃ k : Nat, k ≤ a.length ∧ k ≤ b.length ∧ i = .int .i64 k ∧ Hid (∀ j (h1 : j < a.length) (h2 : j < b.length), j < k → cmpI a[j] b[j] = 0) ∧ Hid (Gr w wr)) (fun i _ => a.length - (intOf i).toNat)
  case atStart => exact ⟨0, Nat.zero_le _, Nat.zero_le _, rfl, fun j _ _ hj => absurd hj (Nat.not_lt_zero _), Gr.refl _⟩
  case round =>
    obtain ⟨k, hk, hk2, rfl, hno, hgr⟩ := hrel
    by_cases hlt : k < a.length
    · have hltz : (k : Int) < (a.length : Int) := by omega
      by_cases hlt2 : k < b.length
      · have hlt2z : (k : Int) < (b.length : Int) := by omega
        obtain ⟨bb, off, rfl, hb, hcs⟩ := (hH.out.1.gr hgr.out).at hlt
        obtain ⟨x, hx⟩ : ∃ y, a[k] = y := ⟨_, rfl⟩
        have e1 : wr.cell? ⟨bb, off + k, none⟩ = some (.int .i64 x) := by
          have e0 := hcs k hlt 0 (by omega)
          rw [hx] at e0
          simpa [encI] using e0
        obtain ⟨bc, of2, rfl, hb2, hcs2⟩ := (hH.out.2.gr hgr.out).at hlt2
        obtain ⟨y, hy⟩ : ∃ y, b[k] = y := ⟨_, rfl⟩
        have e2 : wr.cell? ⟨bc, of2 + k, none⟩ = some (.int .i64 y) := by
          have e0 := hcs2 k hlt2 0 (by omega)
          rw [hy] at e0
          simpa [encI] using e0
        have hxy : Hid (a[k] = x ∧ b[k] = y) := ⟨hx, hy⟩
        clear hcs hcs2 hx hy
        have g1 := (Gr.refl wr).cellG hb e1
        have g2 := (Gr.refl wr).cellG hb2 e2
        have hc := cmpI_cases x y
        by_cases h1 : x < y
        · have hfin : Hid (cmpL a b = -1) := by
            have hcc : cmpI x y = -1 := by omega
            show _ = _
            rw [cmpL_at hlt hlt2 hno.out (by rw [hxy.out.1, hxy.out.2, hcc]; decide), hxy.out.1, hxy.out.2, hcc]
          clear hc e1 e2
          go_wp2
          refine wp_region_quiet_grown mixed (by kernel_rfl) ?_
          repeat (go_big_quiet_step (fail))
          refine wpQuiet_nil ?_
          rintro _ ⟨⟨nq, osq⟩, rfl⟩
          go_wp2
          go_ret
          exact ⟨by rw [hfin.out]; rfl, hgr.out.trans ⟨nq, osq, rfl⟩⟩
        · have hS1 : Hid (∀ W, Gr wr W → W.cell? ⟨bb, off + k, none⟩ = some (.int .i64 x) ∧ W.cell? ⟨bc, of2 + k, none⟩ = some (.int .i64 y) ∧ bb < W.heap.size ∧ bc < W.heap.size) := fun W h => ⟨(h.cell (p := ⟨bb, off + k, none⟩) hb).trans e1, (h.cell (p := ⟨bc, of2 + k, none⟩) hb2).trans e2, Nat.lt_of_lt_of_le hb h.size, Nat.lt_of_lt_of_le hb2 h.size⟩
          by_cases h2 : y < x
          · have hfin : Hid (cmpL a b = 1) := by
              have hcc : cmpI x y = 1 := by omega
              show _ = _
              rw [cmpL_at hlt hlt2 hno.out (by rw [hxy.out.1, hxy.out.2, hcc]; decide), hxy.out.1, hxy.out.2, hcc]
            clear hc e1 e2
            go_wp2
            refine wp_region_quiet_grown mixed (by kernel_rfl) ?_
            repeat (go_big_quiet_step (fail))
            refine wpQuiet_nil ?_
            rintro _ ⟨⟨nq, osq⟩, rfl⟩
            obtain ⟨W2, hW2⟩ : ∃ W, grow (wr.drewN nq) osq = W := ⟨_, rfl⟩
            have hg2 : Gr wr W2 := ⟨nq, osq, hW2.symm⟩
            rw [hW2]
            obtain ⟨q1, q2, q3, q4⟩ := hS1.out W2 hg2
            clear g1 g2 hW2
            have g1 := (Gr.refl W2).cellG q3 q1
            have g2 := (Gr.refl W2).cellG q4 q2
            clear q1 q2
            have hg2H : Hid (Gr wr W2) := hg2
            clear hg2
            go_wp2
            refine wp_region_quiet_grown mixed (by kernel_rfl) ?_
            repeat (go_big_quiet_step (fail))
            refine wpQuiet_nil ?_
            rintro _ ⟨⟨nr, osr⟩, rfl⟩
            go_wp2
            go_ret
            exact ⟨by rw [hfin.out]; rfl, (hgr.out.trans hg2H.out).trans ⟨nr, osr, rfl⟩⟩
          · have hne : Hid (cmpI a[k] b[k] = 0) := by
              have hcc : cmpI x y = 0 := by omega
              show _ = _
              rw [hxy.out.1, hxy.out.2, hcc]
            clear hc e1 e2
            go_wp2
            refine wp_region_quiet_grown mixed (by kernel_rfl) ?_
            repeat (go_big_quiet_step (fail))
            refine wpQuiet_nil ?_
            rintro _ ⟨⟨nq, osq⟩, rfl⟩
            obtain ⟨W2, hW2⟩ : ∃ W, grow (wr.drewN nq) osq = W := ⟨_, rfl⟩
            have hg2 : Gr wr W2 := ⟨nq, osq, hW2.symm⟩
            rw [hW2]
            obtain ⟨q1, q2, q3, q4⟩ := hS1.out W2 hg2
            clear g1 g2 hW2
            have g1 := (Gr.refl W2).cellG q3 q1
            have g2 := (Gr.refl W2).cellG q4 q2
            clear q1 q2
            have hg2H : Hid (Gr wr W2) := hg2
            clear hg2
            go_wp2
            refine wp_region_quiet_grown mixed (by kernel_rfl) ?_
            repeat (go_big_quiet_step (fail))
            refine wpQuiet_nil ?_
            rintro _ ⟨⟨nr, osr⟩, rfl⟩
            have hfin : Hid (Gr w (grow (W2.drewN nr) osr)) := (hgr.out.trans hg2H.out).trans ⟨nr, osr, rfl⟩
            go_wp2
            go_roundw
            case rel =>
              refine ⟨k + 1, by omega, by omega, by go_num, ?_, hfin⟩
              intro j hj hj2 hjk
              by_cases e : j = k
              · subst e; exact hne.out
              · exact hno.out j hj hj2 (by omega)
            case measure => simp [intOf]; omega
      · have hlt2z : ¬ (k : Int) < (b.length : Int) := by omega
        have hfin : Hid (cmpL a b = 1) := cmpL_long hlt (by omega) hno.out
        have hab : ¬ (a.length : Int) < (b.length : Int) := by omega
        have hba : (b.length : Int) < (a.length : Int) := by omega
        go_wp2
        go_ret
        exact ⟨by rw [hfin.out]; rfl, hgr.out⟩
    · have hltz : ¬ (k : Int) < (a.length : Int) := by omega
      by_cases hlt2 : k < b.length
      · have hfin : Hid (cmpL a b = -1) := cmpL_short (by omega) hlt2 hno.out
        have hab : (a.length : Int) < (b.length : Int) := by omega
        go_wp2
        go_ret
        exact ⟨by rw [hfin.out]; rfl, hgr.out⟩
      · have hfin : Hid (cmpL a b = 0) := cmpL_same (by omega) (by omega) hno.out
        have hab : ¬ (a.length : Int) < (b.length : Int) := by omega
        have hba : ¬ (b.length : Int) < (a.length : Int) := by omega
        go_wp2
        go_ret
        exact ⟨by rw [hfin.out]; rfl, hgr.out⟩
end Go.Proofs.YtoanlaedkpkpnaaGreatDoor
