/-
  viewref.RowsText.
-/
import Derived.Test.YteobmedkngdnkaaDoorNText
namespace Go.Proofs.YteobmedkngdnkaaDoor
open Go.RowKit Go.Sort

theorem addB {x y : List UInt8} {a b c : ByteArray} (hc : c = ⟨(x ++ y).toArray⟩) (ha : a = ⟨x.toArray⟩) (hb : b = ⟨y.toArray⟩) (h : x.length + y.length ≤ 9000000000000000000) : ∀ w, (Op.stringOp .add a b).run Tryd.prog w = .ok (.string c) w := fun w => by
  subst hc ha hb
  rw [run_string_add_sum w _ _ (by simp [ByteArray.size]; omega), ByteArray.mk_append_mk]

set_option maxRecDepth 100000 in
set_option maxHeartbeats 2000000 in
theorem rowsText_any (L : List Itm) (A : Option Addr) (ca : Nat) (w : World) (hs : Short L) (hr : RwR w A L) (ht : Tens w) :
    Calls Tryd.prog 10 #[.slice A L.length ca] w fun e w' => e = .returned (.string ⟨(rowsTo (L.map Itm.r) L.length).toArray⟩) ∧ Gr w w' := by
  have hH : Hid (RwR w A L ∧ Tens w ∧ Short L) := ⟨hr, ht, hs⟩
  have hl4 := hs.1
  clear hr ht hs
  go_enter Tryd.func10, Tryd.ntmps10
  go_wp2
  go_loopw [3, 4] (fun u i wr => ∃ (j : Nat) (o : ByteArray), j ≤ L.length ∧ i = .int .i64 j ∧ u = .string o ∧ Hid (o = ⟨(rowsTo (L.map Itm.r) j).toArray⟩ ∧ Gr w wr)) (fun _ i _ => L.length - (intOf i).toNat)
  case atStart => exact ⟨0, _, Nat.zero_le _, rfl, rfl, rfl, Gr.refl _⟩
  case round =>
    rename World => wr0
    obtain ⟨j, o, hj, rfl, rfl, hbu⟩ := hrel
    by_cases hlt : j < L.length
    · have hltz : (j : Int) < (L.length : Int) := by omega
      obtain ⟨x, hx⟩ : ∃ x, L[j] = x := ⟨_, rfl⟩
      have hxm : x ∈ L := by rw [← hx]; exact List.getElem_mem hlt
      have hX : Hid (RowI w x.p x.r ∧ x.r.length ≤ 8 ∧ (∀ n ∈ x.r, Small n) ∧ L[j] = x) := ⟨(hH.out.1.each x hxm).1, (hH.out.2.2.2 x hxm).1, (hH.out.2.2.2 x hxm).2, hx⟩
      have hnext : Hid (rowsTo (L.map Itm.r) (j + 1) = rowsTo (L.map Itm.r) j ++ (numsTo x.r x.r.length ++ [10])) := by
        show _ = _
        have e : (L.map Itm.r).getD j [] = x.r := by rw [List.getD_eq_getElem?_getD, List.getElem?_map, List.getElem?_eq_getElem hlt, hx]; rfl
        show rowsTo _ j ++ (numsTo ((L.map Itm.r).getD j []) ((L.map Itm.r).getD j []).length ++ [10]) = _
        rw [e]
      obtain ⟨T, hT⟩ : ∃ T, rowsTo (L.map Itm.r) j = T := ⟨_, rfl⟩
      have hTl : Hid (T.length ≤ 200 * j) := by show _ ≤ _; rw [← hT]; exact rowsTo_len hH.out.2.2.rows j (by simp; omega)
      have hx8 := hX.out.2.1
      rw [hT] at hnext hbu
      clear hx hxm hT
      go_wp2
      go_loopw [3, 5] (fun u i wr => ∃ (k : Nat) (o : ByteArray), k ≤ x.r.length ∧ i = .int .i64 k ∧ u = .string o ∧ Hid (o = ⟨(T ++ numsTo x.r k).toArray⟩ ∧ Gr w wr)) (fun _ i _ => x.r.length - (intOf i).toNat)
      case atStart => exact ⟨0, o, Nat.zero_le _, rfl, rfl, by rw [hbu.out.1]; show _ = (⟨(T ++ []).toArray⟩ : ByteArray); rw [List.append_nil], hbu.out.2⟩
      case round =>
        rename World => wr1
        obtain ⟨k, p, hk, rfl, rfl, hbu1⟩ := hrel
        obtain ⟨b, off, rfl, hb, e0⟩ := (hH.out.1.gr hbu1.out.2).at hlt hX.out.2.2.2
        by_cases hlt1 : k < x.r.length
        · have hltz1 : (k : Int) < (x.r.length : Int) := by omega
          obtain ⟨rb, ro, hp, hrb, hcs⟩ := (hX.out.1.gr hbu1.out.2).at hlt1
          obtain ⟨n, hn⟩ : ∃ n, x.r[k] = n := ⟨_, rfl⟩
          have c0 := hcs k hlt1 0 (by omega)
          rw [hn] at c0
          have c1 : wr1.cell? ⟨rb, ro + k, none⟩ = some (.int .i64 n) := by simpa [encI] using c0
          have hsn : Hid (Small n) := hX.out.2.2.1 n (by rw [← hn]; exact List.getElem_mem _)
          have hnx : Hid (numsTo x.r (k + 1) = numsTo x.r k ++ ((if k = 0 then [] else [32]) ++ Lib.itoa n)) := by
            show _ = _
            have e : x.r.getD k 0 = n := by rw [List.getD_eq_getElem?_getD, List.getElem?_eq_getElem hlt1, hn]; rfl
            show numsTo _ k ++ ((if k = 0 then [] else [32]) ++ Lib.itoa (x.r.getD k 0)) = _
            rw [e]
          obtain ⟨U, hU⟩ : ∃ U, T ++ numsTo x.r k = U := ⟨_, rfl⟩
          have hUl : U.length ≤ 200 * j + 22 * k := by
            rw [← hU, List.length_append]
            have := hTl.out
            have := numsTo_len hX.out.2.2.1 k hk
            omega
          have hUH : Hid (T ++ numsTo x.r k = U) := hU
          have hpU : p = ⟨U.toArray⟩ := by rw [← hU]; exact hbu1.out.1
          rw [hp] at e0
          have hit : Hid (∀ W, Gr w W → Calls Tryd.prog 23 #[.int .i64 n] W fun e w' => e = .returned (.string ⟨(Lib.itoa n).toArray⟩) ∧ Gr W w') := fun W h => itoa_any hsn.out (hH.out.2.1.gr h)
          obtain ⟨ia, hia⟩ : ∃ ia : ByteArray, ia = ⟨(Lib.itoa n).toArray⟩ := ⟨_, rfl⟩
          rw [← hia] at hit
          have hil : (Lib.itoa n).length ≤ 21 := itoa_len hsn.out
          clear hcs c0 hn hU hp
          by_cases hk0 : k = 0
          · subst hk0
            have c2 : wr1.cell? ⟨rb, ro, none⟩ = some (.int .i64 n) := by simpa using c1
            obtain ⟨s1, hs1⟩ : ∃ s1 : ByteArray, s1 = ⟨(U ++ Lib.itoa n).toArray⟩ := ⟨_, rfl⟩
            have a1 := addB hs1 hpU hia (by omega)
            have hfin : Hid (s1 = ⟨(T ++ numsTo x.r 1).toArray⟩) := by show _ = _; rw [hs1, hnx.out, ← hUH.out, if_pos rfl, List.append_assoc]; rfl
            clear hs1 hpU hia
            go_wp2_with fail
            refine Calls.mono (hit.out wr1 hbu1.out.2) ?_
            rintro e w2 ⟨rfl, hg2⟩
            have hg : Hid (Gr w w2) := hbu1.out.2.trans hg2
            clear hg2
            go_wp2
            go_roundw
            case rel => exact ⟨1, s1, by omega, by go_num, rfl, hfin.out, hg.out⟩
            case measure => simp [intOf]; omega
          · have hkz : (0 : Int) < (k : Int) := by omega
            obtain ⟨s1, hs1⟩ : ∃ s1 : ByteArray, s1 = ⟨(U ++ [32]).toArray⟩ := ⟨_, rfl⟩
            obtain ⟨s2, hs2⟩ : ∃ s2 : ByteArray, s2 = ⟨((U ++ [32]) ++ Lib.itoa n).toArray⟩ := ⟨_, rfl⟩
            have a1 := addB hs1 hpU (rfl : (⟨#[32]⟩ : ByteArray) = ⟨([32] : List UInt8).toArray⟩) (by simp; omega)
            have a2 := addB hs2 hs1 hia (by simp; omega)
            have hfin : Hid (s2 = ⟨(T ++ numsTo x.r (k + 1)).toArray⟩) := by show _ = _; rw [hs2, hnx.out, ← hUH.out, if_neg hk0]; simp
            clear hs1 hs2 hpU hia
            go_wp2_with fail
            refine Calls.mono (hit.out wr1 hbu1.out.2) ?_
            rintro e w2 ⟨rfl, hg2⟩
            have hg : Hid (Gr w w2) := hbu1.out.2.trans hg2
            clear hg2
            go_wp2
            go_roundw
            case rel => exact ⟨k + 1, s2, by omega, by go_num, rfl, hfin.out, hg.out⟩
            case measure => simp [intOf]; omega
        · have hltz1 : ¬ (k : Int) < (x.r.length : Int) := by omega
          obtain rfl : k = x.r.length := by omega
          obtain ⟨s1, hs1⟩ : ∃ s1 : ByteArray, s1 = ⟨((T ++ numsTo x.r x.r.length) ++ [10]).toArray⟩ := ⟨_, rfl⟩
          have hpU := hbu1.out.1
          have a1 := addB hs1 hpU (rfl : (⟨#[10]⟩ : ByteArray) = ⟨([10] : List UInt8).toArray⟩) (by have := hTl.out; have := numsTo_len hX.out.2.2.1 x.r.length (Nat.le_refl _); simp; omega)
          have hfin : Hid (s1 = ⟨(rowsTo (L.map Itm.r) (j + 1)).toArray⟩) := by show _ = _; rw [hs1, hnext.out, ← List.append_assoc]
          have hg : Hid (Gr w wr1) := hbu1.out.2
          clear hs1 hpU hbu1
          go_wp2
          go_roundw
          case rel => exact ⟨j + 1, s1, by omega, by go_num, rfl, hfin.out, hg.out⟩
          case measure => simp [intOf]; omega
    · have hltz : ¬ (j : Int) < (L.length : Int) := by omega
      obtain rfl : j = L.length := by omega
      have hfin : Hid (o = ⟨(rowsTo (L.map Itm.r) L.length).toArray⟩ ∧ Gr w wr0) := hbu.out
      clear hbu
      go_wp2
      go_ret
      exact ⟨by rw [← hfin.out.1]; rfl, hfin.out.2⟩
end Go.Proofs.YteobmedkngdnkaaDoor
