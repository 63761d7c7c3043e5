/-
  The small functions of package zset: isWeight, isRow.
  slices.Compare at numbers, and zset.Order: they tell the order of two rows.
  viewref.name: the name of a row; names of two rows are one only where the rows are.
-/
import Derived.Test.YtnkpfhipgcmplaaGreatDoorTInts
import Derived.Test.YtnkpfhipgcmplaaGreatDoorDotLeaf
import Derived.Test.YtnkpfhipgcmplaaGreatDoorM01
namespace Go.Proofs.YtnkpfhipgcmplaaGreatDoor
open Go.RowKit Go.Sort

/-- May a row be there so many times? -/
def okW (n : Int) : Bool := inB n (-1048576) 1048576
/-- May a row hold this number? -/
def okN (n : Int) : Bool := inB n (-1073741824) 1073741824
/-- May an item have this row? -/
def okR (l : List Int) : Bool := decide (l.length ≤ 8) && l.all okN

set_option maxHeartbeats 400000 in
theorem isWeight_any (n : Int) (w : World) :
    Calls Tryz.prog 32 #[.int .i64 n] w fun e w' => e = .returned (.bool (okW n)) ∧ w' = w := by
  by_cases h1 : -1048576 ≤ n
  · by_cases h2 : n ≤ 1048576
    · have e : okW n = true := by simp [okW, inB]; omega
      rw [e]; clear e
      go_enter Tryz.func32, Tryz.ntmps32
      go_wp2
      go_ret
      exact ⟨rfl, rfl⟩
    · have e : okW n = false := by simp [okW, inB]; omega
      rw [e]; clear e
      go_enter Tryz.func32, Tryz.ntmps32
      go_wp2
      go_ret
      exact ⟨rfl, rfl⟩
  · have e : okW n = false := by simp [okW, inB]; omega
    rw [e]; clear e
    go_enter Tryz.func32, Tryz.ntmps32
    go_wp2
    go_ret
    exact ⟨rfl, rfl⟩

set_option maxHeartbeats 1000000 in
theorem isRow_any (l : List Int) (A : Option Addr) (cap : Nat) (w : World) (hl : l.length ≤ maxLen) (hr : RowI w A l) :
    Calls Tryz.prog 31 #[.slice A l.length cap] w fun e w' => e = .returned (.bool (okR l)) ∧ Gr w w' := by
  unfold maxLen at hl
  by_cases h8 : 8 < l.length
  · have e : okR l = false := by simp [okR]; omega
    rw [e]; clear e
    have h8z : (8 : Int) < (l.length : Int) := by omega
    go_enter Tryz.func31, Tryz.ntmps31
    go_wp2
    go_ret
    exact ⟨rfl, Gr.refl _⟩
  · have h8z : ¬ (8 : Int) < (l.length : Int) := by omega
    go_enter Tryz.func31, Tryz.ntmps31
    go_wp2
    go_loopw [10] (fun i wr => ∃ k : Nat, k ≤ l.length ∧ i = .int .i64 k ∧ Hid (∀ j (h : j < l.length), j < k → okN l[j] = true) ∧ Gr w wr) (fun i _ => l.length - (intOf i).toNat)
    case atStart => exact ⟨0, Nat.zero_le _, rfl, fun j _ hj => absurd hj (Nat.not_lt_zero _), Gr.refl _⟩
    case round =>
      obtain ⟨k, hk, rfl, hno, hgr⟩ := hrel
      by_cases hlt : k < l.length
      · have hltz : (k : Int) < (l.length : Int) := by omega
        obtain ⟨bb, off, rfl, hb, hcs⟩ := (hr.gr hgr).at hlt
        have e0 := hcs k hlt 0 (by omega)
        obtain ⟨y, hy⟩ : ∃ y, l[k] = y := ⟨_, rfl⟩
        rw [hy] at e0
        have e1 : wr.cell? ⟨bb, off + k, none⟩ = some (.int .i64 y) := by simpa [encI] using e0
        have hyH : Hid (l[k] = y) := hy
        clear hcs e0 hy
        have hbad : Hid (okN y = false → okR l = false) := by
          intro h
          unfold okR
          have : l.all okN = false := by
            rw [List.all_eq_false]
            exact ⟨y, by rw [← hyH.out]; exact List.getElem_mem hlt, by simp [h]⟩
          rw [this]; simp
        by_cases q1 : y < -1073741824
        · have hfin : Hid (okR l = false) := hbad.out (by simp [okN, inB]; omega)
          go_wp2
          go_ret
          exact ⟨by rw [hfin.out]; rfl, hgr⟩
        · by_cases q2 : 1073741824 < y
          · have hfin : Hid (okR l = false) := hbad.out (by simp [okN, inB]; omega)
            go_wp2
            go_ret
            exact ⟨by rw [hfin.out]; rfl, hgr⟩
          · have hne : Hid (okN l[k] = true) := by show okN l[k] = true; rw [hyH.out]; simp [okN, inB]; omega
            go_wp2
            go_roundw
            case rel =>
              refine ⟨k + 1, by omega, by go_num, ?_, hgr⟩
              intro j hj hjk
              by_cases e : j = k
              · subst e; exact hne
              · exact hno j hj (by omega)
            case measure => simp [intOf]; omega
      · have hltz : ¬ (k : Int) < (l.length : Int) := by omega
        have hfin : Hid (okR l = true) := by
          show okR l = true
          unfold okR
          have : l.all okN = true := by
            rw [List.all_eq_true]
            intro x hx
            obtain ⟨j, hj, e⟩ := List.getElem_of_mem hx
            rw [← e]; exact hno j hj (by omega)
          rw [this]; simp; omega
        go_wp2
        go_ret
        exact ⟨by rw [hfin.out]; rfl, hgr⟩

end Go.Proofs.YtnkpfhipgcmplaaGreatDoor

namespace Go.Proofs.YtnkpfhipgcmplaaGreatDoor
open Go.RowKit Go.Sort

/-- The order of two rows. -/
def cmpL : List Int → List Int → Int
  | [], [] => 0
  | [], _ :: _ => -1
  | _ :: _, [] => 1
  | x :: a, y :: b => if cmpI x y = 0 then cmpL a b else cmpI x y

theorem cmpL_drop {a b : List Int} : ∀ k, k ≤ a.length → k ≤ b.length → (∀ j (h1 : j < a.length) (h2 : j < b.length), j < k → cmpI a[j] b[j] = 0) → cmpL a b = cmpL (a.drop k) (b.drop k) := by
  intro k
  induction k with
  | zero => intros; simp
  | succ k ih =>
    intro h1 h2 h
    rw [ih (by omega) (by omega) fun j h3 h4 h5 => h j h3 h4 (by omega)]
    rw [List.drop_eq_getElem_cons (show k < a.length by omega), List.drop_eq_getElem_cons (show k < b.length by omega)]
    show (if cmpI a[k] b[k] = 0 then _ else _) = _
    rw [if_pos (h k (by omega) (by omega) (by omega))]
theorem cmpL_at {a b : List Int} {k : Nat} (h1 : k < a.length) (h2 : k < b.length) (h : ∀ j (h1 : j < a.length) (h2 : j < b.length), j < k → cmpI a[j] b[j] = 0) (hne : cmpI a[k] b[k] ≠ 0) : cmpL a b = cmpI a[k] b[k] := by
  rw [cmpL_drop k (by omega) (by omega) h, List.drop_eq_getElem_cons h1, List.drop_eq_getElem_cons h2]
  show (if cmpI a[k] b[k] = 0 then _ else _) = _
  rw [if_neg hne]
theorem cmpL_long {a b : List Int} {k : Nat} (h1 : k < a.length) (h2 : k = b.length) (h : ∀ j (h1 : j < a.length) (h2 : j < b.length), j < k → cmpI a[j] b[j] = 0) : cmpL a b = 1 := by
  rw [cmpL_drop k (by omega) (by omega) h, List.drop_eq_getElem_cons h1, show b.drop k = [] from List.drop_eq_nil_of_le (by omega)]
  rfl
theorem cmpL_end {a b : List Int} (hab : a.length ≤ b.length) (h : ∀ j (h1 : j < a.length) (h2 : j < b.length), j < a.length → cmpI a[j] b[j] = 0) : cmpL a b = if a.length < b.length then -1 else 0 := by
  rw [cmpL_drop a.length (by omega) hab h, List.drop_eq_nil_of_le (Nat.le_refl _)]
  by_cases k : a.length < b.length
  · rw [if_pos k, List.drop_eq_getElem_cons k]; rfl
  · rw [if_neg k, List.drop_eq_nil_of_le (by omega)]; rfl

set_option maxHeartbeats 1000000 in
theorem compare_any (a b : List Int) (A B : Option Addr) (ca cb : Nat) (w : World) (hal : a.length ≤ maxLen) (hra : RowI w A a) (hrb : RowI w B b) :
    Calls Tryz.prog 48 #[.slice A a.length ca, .slice B b.length cb] w fun e w' => e = .returned (.int .i64 (cmpL a b)) ∧ Gr w w' := by
  unfold maxLen at hal
  go_enter Tryz.func48, Tryz.ntmps48
  go_wp2
  go_loopw [11] (fun i wr => ∃ k : Nat, k ≤ a.length ∧ k ≤ b.length ∧ i = .int .i64 k ∧ Hid (∀ j (h1 : j < a.length) (h2 : j < b.length), j < k → cmpI a[j] b[j] = 0) ∧ Gr w wr) (fun i _ => a.length - (intOf i).toNat)
  case atStart => exact ⟨0, Nat.zero_le _, Nat.zero_le _, rfl, fun j _ _ hj => absurd hj (Nat.not_lt_zero _), Gr.refl _⟩
  case round =>
    obtain ⟨k, hk, hk2, rfl, hno, hgr⟩ := hrel
    by_cases hlt : k < a.length
    · have hltz : (k : Int) < (a.length : Int) := by omega
      obtain ⟨bb, off, rfl, hb, hcs⟩ := (hra.gr hgr).at hlt
      have e0 := hcs k hlt 0 (by omega)
      obtain ⟨x, hx⟩ : ∃ y, a[k] = y := ⟨_, rfl⟩
      rw [hx] at e0
      have e1 : wr.cell? ⟨bb, off + k, none⟩ = some (.int .i64 x) := by simpa [encI] using e0
      have hxH : Hid (a[k] = x) := hx
      clear hcs e0 hx
      by_cases hlt2 : k < b.length
      · have hlt2z : (k : Int) < (b.length : Int) := by omega
        obtain ⟨bc, of2, rfl, hb2, hcs⟩ := (hrb.gr hgr).at hlt2
        have e0 := hcs k hlt2 0 (by omega)
        obtain ⟨y, hy⟩ : ∃ y, b[k] = y := ⟨_, rfl⟩
        rw [hy] at e0
        have e2 : wr.cell? ⟨bc, of2 + k, none⟩ = some (.int .i64 y) := by simpa [encI] using e0
        have hyH : Hid (b[k] = y) := hy
        clear hcs e0 hy
        obtain ⟨c, hc⟩ : ∃ c, cmpI x y = c := ⟨_, rfl⟩
        have hcH : Hid (cmpI x y = c) := hc
        have hcm := cmp_any x y wr
        rw [hc] at hcm
        have hcmH : Hid _ := hcm
        clear hcm hc
        cases hq : (c != 0)
        · have hc0 : c = 0 := by simpa using hq
          have hne : Hid (cmpI a[k] b[k] = 0) := by show cmpI _ _ = 0; rw [hxH.out, hyH.out, hcH.out, hc0]
          clear hc0
          go_wp2_with (go_at_call 72; (refine Calls.mono (show Calls _ _ _ _ _ from hcmH.out) ?_); rintro e w' ⟨rfl, rfl⟩)
          go_roundw
          case rel =>
            refine ⟨k + 1, by omega, by omega, by go_num, ?_, hgr⟩
            intro j hj hj2 hjk
            by_cases e : j = k
            · subst e; exact hne
            · exact hno j hj hj2 (by omega)
          case measure => simp [intOf]; omega
        · have hfin : Hid (cmpL a b = c) := by
            have hc0 : c ≠ 0 := by simpa using hq
            show _ = _
            rw [cmpL_at hlt hlt2 hno (by rw [hxH.out, hyH.out, hcH.out]; exact hc0), hxH.out, hyH.out, hcH.out]
          go_wp2_with (go_at_call 72; (refine Calls.mono (show Calls _ _ _ _ _ from hcmH.out) ?_); rintro e w' ⟨rfl, rfl⟩)
          go_ret
          exact ⟨by rw [hfin.out]; rfl, hgr⟩
      · have hlt2z : (b.length : Int) ≤ (k : Int) := by omega
        have hfin : Hid (cmpL a b = 1) := cmpL_long hlt (by omega) hno
        go_wp2
        go_ret
        exact ⟨by rw [hfin.out]; rfl, hgr⟩
    · have hltz : ¬ (k : Int) < (a.length : Int) := by omega
      have hka : k = a.length := by omega
      have hend := cmpL_end (a := a) (b := b) (by omega) (fun j h1 h2 _ => hno j h1 h2 (by omega))
      by_cases hab : a.length < b.length
      · have hfin : Hid (cmpL a b = -1) := by show _ = _; rw [hend, if_pos hab]
        have habz : (a.length : Int) < (b.length : Int) := by omega
        clear hend hka
        go_wp2
        go_ret
        exact ⟨by rw [hfin.out]; rfl, hgr⟩
      · have hfin : Hid (cmpL a b = 0) := by show _ = _; rw [hend, if_neg hab]
        have habz : ¬ (a.length : Int) < (b.length : Int) := by omega
        clear hend hka
        go_wp2
        go_ret
        exact ⟨by rw [hfin.out]; rfl, hgr⟩
set_option maxHeartbeats 1000000 in
theorem orderR_any (a b : List Int) (A B : Option Addr) (ca cb : Nat) (w : World) (hal : a.length ≤ maxLen) (hra : RowI w A a) (hrb : RowI w B b) :
    Calls Tryz.prog 16 #[.slice A a.length ca, .slice B b.length cb] w fun e w' => e = .returned (.int .i64 (cmpL a b)) ∧ Gr w w' := by
  go_enter Tryz.func16, Tryz.ntmps16
  go_wp2_with fail
  refine (compare_any a b A B ca cb _ hal hra hrb).mono ?_
  rintro e w' ⟨rfl, hg⟩
  go_wp2
  go_ret
  exact ⟨rfl, hg⟩

end Go.Proofs.YtnkpfhipgcmplaaGreatDoor

namespace Go.Proofs.YtnkpfhipgcmplaaGreatDoor
open Go.RowKit Go.Sort

/-- A number that an int holds. -/
def I64 (n : Int) : Prop := -9223372036854775808 ≤ n ∧ n ≤ 9223372036854775807
theorem itoa_wide2 {n : Int} (h : I64 n) {w : World} (ht : Tens w) : Calls Tryz.prog 99 #[.int .i64 n] w fun e w' => e = .returned (.string ⟨(Lib.itoa n).toArray⟩) ∧ Gr w w' := by
  have hc := Any.strconv_Itoa Tryz.lays171 n h.1 h.2 w ht
  change Calls Tryz.prog 99 _ _ _ at hc
  exact hc
theorem itoa_len2 {n : Int} (h : I64 n) : (Lib.itoa n).length ≤ 21 := Lib.itoa_length_le n (by have := h.1; omega) (by have := h.2; omega)
/-- The name of a row. -/
def nmL (r : List Int) : List UInt8 := r.flatMap fun x => Lib.itoa x ++ [44]
theorem nmL_take {r : List Int} {k : Nat} (h : k < r.length) : nmL (r.take (k + 1)) = nmL (r.take k) ++ (Lib.itoa r[k] ++ [44]) := by
  unfold nmL
  rw [List.take_succ_eq_append_getElem h, List.flatMap_append, List.flatMap_cons, List.flatMap_nil, List.append_nil]
theorem nmL_len : ∀ {r : List Int}, (∀ x ∈ r, I64 x) → (nmL r).length ≤ r.length * 22
  | [], _ => by simp [nmL]
  | x :: r, h => by
    have h1 := nmL_len (r := r) fun y hy => h y (List.mem_cons_of_mem _ hy)
    have h2 := itoa_len2 (h x (List.mem_cons_self ..))
    have e : nmL (x :: r) = Lib.itoa x ++ [44] ++ nmL r := by simp [nmL]
    rw [e]
    simp only [List.length_append, List.length_cons, List.length_nil]
    omega
theorem cut_comma : ∀ {x y u v : List UInt8}, (44 : UInt8) ∉ x → (44 : UInt8) ∉ y → x ++ 44 :: u = y ++ 44 :: v → x = y ∧ u = v
  | [], [], u, v, _, _, h => by simp at h; exact ⟨rfl, h⟩
  | [], b :: y, u, v, _, hy, h => by
    simp at h
    exact absurd (by rw [h.1]; simp) hy
  | a :: x, [], u, v, hx, _, h => by
    simp at h
    exact absurd (by rw [← h.1]; simp) hx
  | a :: x, b :: y, u, v, hx, hy, h => by
    simp only [List.cons_append, List.cons.injEq] at h
    obtain ⟨h1, h2⟩ := cut_comma (fun e => hx (List.mem_cons_of_mem _ e)) (fun e => hy (List.mem_cons_of_mem _ e)) h.2
    exact ⟨by rw [h.1, h1], h2⟩
/-- Digits alone, or a sign. -/
theorem dec_free (u : Nat) : (44 : UInt8) ∉ Lib.decDigits u := by
  induction u using Nat.strongRecOn with
  | ind u ih =>
    intro hb
    rw [Lib.decDigits] at hb
    have dg : ∀ d, d < 10 → (44 : UInt8) ≠ UInt8.ofNat (48 + d) := fun d hd e => by
      have := congrArg UInt8.toNat e
      rw [UInt8.toNat_ofNat'] at this
      have h44 : (44 : UInt8).toNat = 44 := rfl
      omega
    split at hb
    · next h => exact dg u h (List.mem_singleton.1 hb)
    · next h =>
      rcases List.mem_append.1 hb with hb | hb
      · exact ih (u / 10) (by omega) hb
      · exact dg _ (Nat.mod_lt _ (by decide)) (List.mem_singleton.1 hb)
theorem itoa_comma (n : Int) : (44 : UInt8) ∉ Lib.itoa n := by
  unfold Lib.itoa
  split
  · intro h
    rcases List.mem_cons.1 h with e | e
    · exact absurd e (by decide)
    · exact dec_free _ e
  · exact dec_free _
theorem dec_ne (u : Nat) : Lib.decDigits u ≠ [] := by
  rw [Lib.decDigits]
  split <;> simp
theorem dec_val (u : Nat) : (Lib.decDigits u).foldl (fun n b => n * 10 + (b.toNat - 48)) 0 = u := by
  induction u using Nat.strongRecOn with
  | ind u ih =>
    have dg : ∀ d, d < 10 → (UInt8.ofNat (48 + d)).toNat - 48 = d := fun d hd => by rw [UInt8.toNat_ofNat']; omega
    rw [Lib.decDigits]
    split
    · next h => simp only [List.foldl_cons, List.foldl_nil]; rw [dg u h]; omega
    · next h =>
      rw [List.foldl_append, ih (u / 10) (by omega)]
      simp only [List.foldl_cons, List.foldl_nil]
      rw [dg _ (Nat.mod_lt _ (by decide))]
      omega
theorem dec_head (u : Nat) : ∀ b t, Lib.decDigits u = b :: t → b ≠ 45 := by
  intro b t h e
  have hd : ∀ c ∈ Lib.decDigits u, c ≠ 45 := by
    clear h
    induction u using Nat.strongRecOn with
    | ind u ih =>
      intro c hc
      rw [Lib.decDigits] at hc
      have dg : ∀ d, d < 10 → UInt8.ofNat (48 + d) ≠ 45 := fun d hd e => by
        have := congrArg UInt8.toNat e
        rw [UInt8.toNat_ofNat'] at this
        have h45 : (45 : UInt8).toNat = 45 := rfl
        omega
      split at hc
      · next h => rw [List.mem_singleton.1 hc]; exact dg u h
      · next h =>
        rcases List.mem_append.1 hc with hc | hc
        · exact ih (u / 10) (by omega) c hc
        · rw [List.mem_singleton.1 hc]; exact dg _ (Nat.mod_lt _ (by decide))
  exact hd b (by rw [h]; simp) e
theorem itoa_inj {m n : Int} (h : Lib.itoa m = Lib.itoa n) : m = n := by
  unfold Lib.itoa at h
  have dv : ∀ u v : Nat, Lib.decDigits u = Lib.decDigits v → u = v := fun u v e => by rw [← dec_val u, ← dec_val v, e]
  split at h
  · next hm =>
    split at h
    · next hn =>
      have := dv _ _ (List.cons.inj h).2
      omega
    · next hn =>
      exfalso
      exact dec_head _ _ _ h.symm rfl
  · next hm =>
    split at h
    · next hn =>
      exfalso
      exact dec_head _ _ _ h rfl
    · next hn =>
      have := dv _ _ h
      omega
theorem nmL_inj : ∀ {a b : List Int}, nmL a = nmL b → a = b
  | [], [], _ => rfl
  | [], y :: b, h => by
    have := congrArg List.length h
    simp [nmL] at this
  | x :: a, [], h => by
    have := congrArg List.length h
    simp [nmL] at this
  | x :: a, y :: b, h => by
    have e : ∀ (z : Int) (c : List Int), nmL (z :: c) = Lib.itoa z ++ 44 :: nmL c := fun z c => by simp [nmL]
    rw [e, e] at h
    obtain ⟨h1, h2⟩ := cut_comma (itoa_comma x) (itoa_comma y) h
    rw [itoa_inj h1, nmL_inj h2]
theorem addB2 {x y : List UInt8} {a b c : ByteArray} (hc : c = ⟨(x ++ y).toArray⟩) (ha : a = ⟨x.toArray⟩) (hb : b = ⟨y.toArray⟩) (h : x.length + y.length ≤ 9000000000000000000) : ∀ w, (Op.stringOp .add a b).run Tryz.prog w = .ok (.string c) w := fun w => by
  subst hc ha hb
  rw [run_string_add_sum w _ _ (by simp [ByteArray.size]; omega), ByteArray.mk_append_mk]

set_option maxRecDepth 100000 in
set_option maxHeartbeats 1000000 in
theorem name_any (r : List Int) (A : Option Addr) (c : Nat) (w : World) (hl : r.length ≤ 100) (hs : ∀ x ∈ r, I64 x) (hr : RowI w A r) (ht : Tens w) :
    Calls Tryz.prog 78 #[.slice A r.length c] w fun e w' => e = .returned (.string ⟨(nmL r).toArray⟩) ∧ Gr w w' := by
  have hH : Hid (RowI w A r ∧ Tens w ∧ ∀ x ∈ r, I64 x) := ⟨hr, ht, hs⟩
  clear hr ht hs
  go_enter Tryz.func78, Tryz.ntmps78
  go_wp2
  go_loopw [3, 4] (fun v i wr => ∃ (k : Nat) (B : ByteArray), k ≤ r.length ∧ i = .int .i64 k ∧ v = .string B ∧ Hid (B = ⟨(nmL (r.take k)).toArray⟩ ∧ Gr w wr)) (fun _ i _ => r.length - (intOf i).toNat)
  case atStart => exact ⟨0, ⟨#[]⟩, Nat.zero_le _, rfl, rfl, rfl, Gr.refl _⟩
  case round =>
    obtain ⟨k, B, hk, rfl, rfl, hR⟩ := hrel
    by_cases hlt : k < r.length
    · have hltz : (k : Int) < (r.length : Int) := by omega
      obtain ⟨bb, off, rfl, hb, hcs⟩ := (hH.out.1.gr hR.out.2).at hlt
      obtain ⟨n, hn⟩ : ∃ n, r[k] = n := ⟨_, rfl⟩
      have e0 : wr.cell? ⟨bb, off + k, none⟩ = some (.int .i64 n) := by
        have := hcs k hlt 0 (by omega)
        rw [hn] at this
        simpa [encI] using this
      have hsm : I64 n := hH.out.2.2 n (by rw [← hn]; exact List.getElem_mem hlt)
      have htk : Hid (nmL (r.take (k + 1)) = nmL (r.take k) ++ (Lib.itoa n ++ [44])) := by show _ = _; rw [nmL_take hlt, hn]
      have hlen : (nmL (r.take k)).length ≤ 2200 := by
        have := nmL_len (r := r.take k) fun x hx => hH.out.2.2 x (List.mem_of_mem_take hx)
        simp at this
        omega
      have hil := itoa_len2 hsm
      obtain ⟨I, hI⟩ : ∃ I : ByteArray, I = ⟨(Lib.itoa n).toArray⟩ := ⟨_, rfl⟩
      obtain ⟨J, hJ⟩ : ∃ J : ByteArray, J = ⟨(Lib.itoa n ++ [44]).toArray⟩ := ⟨_, rfl⟩
      obtain ⟨B', hB'⟩ : ∃ B' : ByteArray, B' = ⟨(nmL (r.take k) ++ (Lib.itoa n ++ [44])).toArray⟩ := ⟨_, rfl⟩
      have s1 : ∀ w, (Op.stringOp .add I ⟨#[44]⟩).run Tryz.prog w = .ok (.string J) w := addB2 (x := Lib.itoa n) (y := [44]) hJ hI rfl (by simp; omega)
      have s2 : ∀ w, (Op.stringOp .add B J).run Tryz.prog w = .ok (.string B') w := addB2 hB' hR.out.1 hJ (by simp; omega)
      have hC0 := itoa_wide2 hsm (hH.out.2.1.gr hR.out.2)
      rw [← hI] at hC0
      have hC : Hid _ := hC0
      have hfB : Hid (B' = ⟨(nmL (r.take (k + 1))).toArray⟩) := by show _ = _; rw [htk.out]; exact hB'
      clear hC0 hI hJ hB' hn hsm hcs hil hlen
      go_wp2_with fail
      refine Calls.mono (show Calls _ _ _ _ _ from hC.out) ?_
      rintro e w2 ⟨rfl, hg2⟩
      have hfin : Hid (B' = ⟨(nmL (r.take (k + 1))).toArray⟩ ∧ Gr w w2) := ⟨hfB.out, hR.out.2.trans hg2⟩
      clear hC hg2
      go_wp2
      go_roundw
      case rel => exact ⟨k + 1, B', by omega, by go_num, rfl, hfin⟩
      case measure => simp [intOf]; omega
    · have hltz : ¬ (k : Int) < (r.length : Int) := by omega
      have hfin : Hid (B = ⟨(nmL r).toArray⟩) := by
        have := hR.out.1
        rw [List.take_of_length_le (by omega)] at this
        exact this
      go_wp2
      go_ret
      exact ⟨by rw [hfin.out]; rfl, hR.out.2⟩
end Go.Proofs.YtnkpfhipgcmplaaGreatDoor
