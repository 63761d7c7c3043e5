/-
  Rows as a text: rank.Print, viewref.RowsText.
-/
import Derived.Test.YteobmedkngdnkaaDoorNEqual
import Derived.Test.YteobmedkngdnkaaDoorQTens
import Derived.Test.YteobmedkngdnkaaDoorShelfB
namespace Go.Proofs.YteobmedkngdnkaaDoor
open Go.RowKit Go.Sort

/-- A builder stays where only newer memory changes. -/
theorem builder_below {T e : TypeId} {B b : Nat} {bs : List Value} {w w' : World} (h : Lib.IsBuilder T e B b bs w) (k : Below w.heap.size w w') : Lib.IsBuilder T e B b bs w' := by
  have one : ∀ p, Lib.BuilderAt T e B b p bs w → Lib.BuilderAt T e B b p bs w' := by
    rintro p ⟨hB, v, hb, hown, hne⟩
    have hlt : b < w.heap.size := (Array.getElem?_eq_some_iff.1 hb).1
    refine ⟨hB, v, (k.block b hlt).trans hb, ?_, hne⟩
    refine ⟨hown.1, ?_⟩
    rcases hown.2 with h1 | ⟨g, cap, cur, hv, hg, hh, rest⟩
    · exact .inl h1
    · exact .inr ⟨g, cap, cur, hv, hg, (k.block g (Array.getElem?_eq_some_iff.1 hh).1).trans hh, rest⟩
  rcases h with h | h
  · exact Or.inl (one _ h)
  · exact Or.inr (one _ h)

theorem writeString_any (B b : Nat) (l x : List UInt8) (w : World) (h : Lib.IsBuilder 48 5 B b (Lib.byteCells l) w) (hlen : l.length + x.length ≤ 140737488355328) (hB : B ≤ w.heap.size) :
    Calls Tryd.prog 22 #[.pointer (some ⟨b, 0, none⟩), .string ⟨x.toArray⟩] w fun e w' => e = .returned (.tuple #[.int .i64 x.length, .nilIface]) ∧ Lib.IsBuilder 48 5 B b (Lib.byteCells (l ++ x)) w' ∧ Below B w w' := by
  have hx : (⟨x.toArray⟩ : ByteArray).size = x.length := by simp [ByteArray.size]
  have hc := Any.Builder_WriteString Tryd.laysB166 Tryd.extraB B b (Lib.byteCells l) ⟨x.toArray⟩ w h (by rw [Lib.byteCells_length, hx]; exact hlen) hB
  change Calls Tryd.prog 22 _ _ _ at hc
  refine hc.mono ?_
  rintro e w' ⟨he, hb, hbel⟩
  refine ⟨by rw [he, hx], Or.inr ?_, hbel⟩
  have e1 : Lib.byteCells (l ++ x) = Lib.byteCells l ++ Lib.strCells ⟨x.toArray⟩ := by simp [Lib.byteCells, Lib.strCells]
  rw [e1]
  exact hb
theorem writeByte_any (B b : Nat) (l : List UInt8) (c : UInt8) (w : World) (h : Lib.IsBuilder 48 5 B b (Lib.byteCells l) w) (hlen : l.length + 1 ≤ 140737488355328) (hB : B ≤ w.heap.size) :
    Calls Tryd.prog 21 #[.pointer (some ⟨b, 0, none⟩), .int .u8 c.toNat] w fun e w' => e = .returned .nilIface ∧ Lib.IsBuilder 48 5 B b (Lib.byteCells (l ++ [c])) w' ∧ Below B w w' := by
  have hc := Any.Builder_WriteByte Tryd.laysB167 Tryd.extraB B b (Lib.byteCells l) (c.toNat : Int) w h (by rw [Lib.byteCells_length]; exact hlen) hB
  change Calls Tryd.prog 21 _ _ _ at hc
  refine hc.mono ?_
  rintro e w' ⟨he, hb, hbel⟩
  refine ⟨he, Or.inr ?_, hbel⟩
  have e1 : Lib.byteCells (l ++ [c]) = Lib.byteCells l ++ [.int .u8 (c.toNat : Int)] := by simp [Lib.byteCells]
  rw [e1]
  exact hb
theorem string_any0 (B b : Nat) (l : List UInt8) (w : World) (h : Lib.IsBuilder 48 5 B b (Lib.byteCells l) w) (hB : B ≤ w.heap.size) :
    Calls Tryd.prog 24 #[.pointer (some ⟨b, 0, none⟩)] w fun e w' => e = .returned (.string ⟨l.toArray⟩) ∧ Below B w w' := by
  have hc := Any.Builder_String_any Tryd.lays169 Tryd.extra169 B b l w h hB
  change Calls Tryd.prog 24 _ _ _ at hc
  exact hc
/-- The first numbers of a row, as a text. -/
def numsTo (r : List Int) : Nat → List UInt8
  | 0 => []
  | k + 1 => numsTo r k ++ ((if k = 0 then [] else [32]) ++ Lib.itoa (r.getD k 0))
/-- The first rows, as a text. -/
def rowsTo (R : List (List Int)) : Nat → List UInt8
  | 0 => []
  | k + 1 => rowsTo R k ++ (numsTo (R.getD k []) (R.getD k []).length ++ [10])
theorem numsTo_len {r : List Int} (h : ∀ n ∈ r, Small n) : ∀ k, k ≤ r.length → (numsTo r k).length ≤ 22 * k
  | 0, _ => by simp [numsTo]
  | k + 1, hk => by
    have ih := numsTo_len h k (by omega)
    have e : r.getD k 0 = r[k] := by simp [List.getD_eq_getElem?_getD, List.getElem?_eq_getElem (show k < r.length by omega)]
    have hi := itoa_len (h r[k] (List.getElem_mem _))
    unfold numsTo
    rw [e, List.length_append, List.length_append]
    split <;> simp <;> omega
theorem rowsTo_len {R : List (List Int)} (h : ∀ r ∈ R, r.length ≤ 8 ∧ ∀ n ∈ r, Small n) : ∀ k, k ≤ R.length → (rowsTo R k).length ≤ 200 * k
  | 0, _ => by simp [rowsTo]
  | k + 1, hk => by
    have ih := rowsTo_len h k (by omega)
    have e : R.getD k [] = R[k] := by simp [List.getD_eq_getElem?_getD, List.getElem?_eq_getElem (show k < R.length by omega)]
    have h1 := h R[k] (List.getElem_mem _)
    have hi := numsTo_len h1.2 R[k].length (Nat.le_refl _)
    unfold rowsTo
    rw [e, List.length_append, List.length_append]
    simp
    omega
/-- Rows that are short, of small numbers. -/
def Short (L : List Itm) : Prop := L.length ≤ 400 ∧ ∀ x ∈ L, x.r.length ≤ 8 ∧ ∀ n ∈ x.r, Small n
theorem Short.rows {L : List Itm} (h : Short L) : ∀ r ∈ L.map Itm.r, r.length ≤ 8 ∧ ∀ n ∈ r, Small n := fun r hr => by
  obtain ⟨x, hx, rfl⟩ := List.mem_map.1 hr
  exact h.2 x hx

set_option maxRecDepth 100000 in
set_option maxHeartbeats 2000000 in
theorem printN_any (L : List Itm) (A : Option Addr) (ca : Nat) (w : World) (hs : Short L) (hr : RwR w A L) (ht : Tens w) :
    Calls Tryd.prog 9 #[.slice A L.length ca] w fun e w' => e = .returned (.string ⟨(rowsTo (L.map Itm.r) L.length).toArray⟩) ∧ Below w.heap.size w w' := by
  have hH : Hid (RwR w A L ∧ Tens w ∧ Short L) := ⟨hr, ht, hs⟩
  have hl4 := hs.1
  clear hr ht hs
  go_enter Tryd.func9, Tryd.ntmps9
  go_wp2
  go_loopw [10] (fun i wr => ∃ j : Nat, j ≤ L.length ∧ i = .int .i64 j ∧ Hid (Lib.IsBuilder 48 5 w.heap.size w.heap.size (Lib.byteCells (rowsTo (L.map Itm.r) j)) wr ∧ Below w.heap.size w wr)) (fun i _ => L.length - (intOf i).toNat)
  case atStart => exact ⟨0, Nat.zero_le _, rfl, Or.inl ⟨Nat.le_refl _, .slice none 0 0, heap_alloc_new w _, World.ownsRow_nil _ _ _ _, by simp [Value.ownBlock]⟩, ((Gr.refl _).alloc _).below⟩
  case round =>
    rename World => wr0
    obtain ⟨j, hj, rfl, hbu⟩ := hrel
    by_cases hlt : j < L.length
    · have hltz : (j : Int) < (L.length : Int) := by omega
      obtain ⟨x, hx⟩ : ∃ x, L[j] = x := ⟨_, rfl⟩
      have hI : Hid (RwR wr0 A L) := hH.out.1.below hbu.out.2
      obtain ⟨b, off, rfl, hb, e0⟩ := hI.out.at hlt hx
      have hxm : x ∈ L := by rw [← hx]; exact List.getElem_mem hlt
      have hX : Hid (RowI w x.p x.r ∧ x.r.length ≤ 8 ∧ ∀ n ∈ x.r, Small n) := ⟨(hH.out.1.each x hxm).1, (hH.out.2.2.2 x hxm).1, (hH.out.2.2.2 x hxm).2⟩
      have hnext : Hid (rowsTo (L.map Itm.r) (j + 1) = rowsTo (L.map Itm.r) j ++ (numsTo x.r x.r.length ++ [10])) := by
        show _ = _
        have e : (L.map Itm.r).getD j [] = x.r := by rw [List.getD_eq_getElem?_getD, List.getElem?_map, List.getElem?_eq_getElem hlt, hx]; rfl
        show rowsTo _ j ++ (numsTo ((L.map Itm.r).getD j []) ((L.map Itm.r).getD j []).length ++ [10]) = _
        rw [e]
      obtain ⟨T, hT⟩ : ∃ T, rowsTo (L.map Itm.r) j = T := ⟨_, rfl⟩
      have hTl : Hid (T.length ≤ 200 * j) := by show _ ≤ _; rw [← hT]; exact rowsTo_len hH.out.2.2.rows j (by simp; omega)
      have hx8 := hX.out.2.1
      rw [hT] at hnext hbu
      clear hx hxm hT hI
      go_wp2
      go_loopw [16] (fun i wr => ∃ k : Nat, k ≤ x.r.length ∧ i = .int .i64 k ∧ Hid (Lib.IsBuilder 48 5 w.heap.size w.heap.size (Lib.byteCells (T ++ numsTo x.r k)) wr ∧ Below w.heap.size w wr)) (fun i _ => x.r.length - (intOf i).toNat)
      case atStart => exact ⟨0, Nat.zero_le _, rfl, by show Lib.IsBuilder _ _ _ _ (Lib.byteCells (T ++ [])) _; rw [List.append_nil]; exact hbu.out.1, hbu.out.2⟩
      case round =>
        rename World => wr1
        obtain ⟨k, hk, rfl, hbu1⟩ := hrel
        by_cases hlt1 : k < x.r.length
        · have hltz1 : (k : Int) < (x.r.length : Int) := by omega
          obtain ⟨rb, ro, hp, hrb, hcs⟩ := (hX.out.1.below hbu1.out.2).at hlt1
          obtain ⟨n, hn⟩ : ∃ n, x.r[k] = n := ⟨_, rfl⟩
          have c0 := hcs k hlt1 0 (by omega)
          rw [hn] at c0
          have c1 : wr1.cell? ⟨rb, ro + k, none⟩ = some (.int .i64 n) := by simpa [encI] using c0
          have hsn : Hid (Small n) := hX.out.2.2 n (by rw [← hn]; exact List.getElem_mem _)
          have hnx : Hid (numsTo x.r (k + 1) = numsTo x.r k ++ ((if k = 0 then [] else [32]) ++ Lib.itoa n)) := by
            show _ = _
            have e : x.r.getD k 0 = n := by rw [List.getD_eq_getElem?_getD, List.getElem?_eq_getElem hlt1, hn]; rfl
            show numsTo _ k ++ ((if k = 0 then [] else [32]) ++ Lib.itoa (x.r.getD k 0)) = _
            rw [e]
          obtain ⟨U, hU⟩ : ∃ U, T ++ numsTo x.r k = U := ⟨_, rfl⟩
          have hUl : Hid (U.length ≤ 200 * j + 22 * k) := by
            show _ ≤ _
            rw [← hU, List.length_append]
            have := hTl.out
            have := numsTo_len hX.out.2.2 k hk
            omega
          have hUH : Hid (T ++ numsTo x.r k = U) := hU
          rw [hU] at hbu1
          rw [hp]
          clear hcs c0 hn hU
          have hit : Hid (∀ W, Below w.heap.size w W → Calls Tryd.prog 23 #[.int .i64 n] W fun e w' => e = .returned (.string ⟨(Lib.itoa n).toArray⟩) ∧ Gr W w') := fun W h => itoa_any hsn.out (hH.out.2.1.below h)
          have hil : Hid ((Lib.itoa n).length ≤ 21) := itoa_len hsn.out
          by_cases hk0 : k = 0
          · subst hk0
            have c2 : wr1.cell? ⟨rb, ro, none⟩ = some (.int .i64 n) := by simpa using c1
            have hnx2 : Hid (T ++ numsTo x.r 1 = U ++ Lib.itoa n) := by show _ = _; rw [hnx.out, ← hUH.out, if_pos rfl, List.append_assoc]; rfl
            go_wp2_with fail
            refine Calls.mono (hit.out wr1 hbu1.out.2) ?_
            rintro e w2 ⟨rfl, hg2⟩
            have hb2 : Hid (Below w.heap.size w w2) := hbu1.out.2.trans (hg2.below.mono hbu1.out.2.size)
            have hW0 := writeString_any w.heap.size w.heap.size U (Lib.itoa n) w2 (builder_below hbu1.out.1 hg2.below) (by have := hUl.out; have := hil.out; omega) hb2.out.size
            have hW : Hid _ := hW0
            clear hW0 hg2
            go_wp2_with fail
            refine Calls.mono (show Calls _ _ _ _ _ from hW.out) ?_
            rintro e w3 ⟨rfl, h1, h2⟩
            have hfin : Hid (Lib.IsBuilder 48 5 w.heap.size w.heap.size (Lib.byteCells (T ++ numsTo x.r 1)) w3 ∧ Below w.heap.size w w3) := ⟨by rw [hnx2.out]; exact h1, hb2.out.trans h2⟩
            clear hW h1 h2
            go_wp2
            go_roundw
            case rel => exact ⟨1, by omega, by go_num, hfin⟩
            case measure => simp [intOf]; omega
          · have hkz : (0 : Int) < (k : Int) := by omega
            have hkp : 0 < k := by omega
            have hnx2 : Hid (T ++ numsTo x.r (k + 1) = (U ++ [32]) ++ Lib.itoa n) := by show _ = _; rw [hnx.out, ← hUH.out, if_neg hk0]; simp
            have hY0 := writeByte_any w.heap.size w.heap.size U 32 wr1 hbu1.out.1 (by have := hUl.out; omega) hbu1.out.2.size
            have hY : Hid _ := hY0
            clear hY0
            go_wp2_with fail
            refine Calls.mono (show Calls _ _ _ _ _ from hY.out) ?_
            rintro e w2 ⟨rfl, g1, g2⟩
            have hb2 : Hid (Lib.IsBuilder 48 5 w.heap.size w.heap.size (Lib.byteCells (U ++ [32])) w2 ∧ Below w.heap.size w w2) := ⟨g1, hbu1.out.2.trans g2⟩
            clear hY g1 g2
            go_wp2_with fail
            refine Calls.mono (hit.out w2 hb2.out.2) ?_
            rintro e w3 ⟨rfl, hg3⟩
            have hb3 : Hid (Below w.heap.size w w3) := hb2.out.2.trans (hg3.below.mono hb2.out.2.size)
            have hW0 := writeString_any w.heap.size w.heap.size (U ++ [32]) (Lib.itoa n) w3 (builder_below hb2.out.1 hg3.below) (by have := hUl.out; have := hil.out; simp; omega) hb3.out.size
            have hW : Hid _ := hW0
            clear hW0 hg3
            go_wp2_with fail
            refine Calls.mono (show Calls _ _ _ _ _ from hW.out) ?_
            rintro e w4 ⟨rfl, h1, h2⟩
            have hfin : Hid (Lib.IsBuilder 48 5 w.heap.size w.heap.size (Lib.byteCells (T ++ numsTo x.r (k + 1))) w4 ∧ Below w.heap.size w w4) := ⟨by rw [hnx2.out]; exact h1, hb3.out.trans h2⟩
            clear hW h1 h2
            go_wp2
            go_roundw
            case rel => exact ⟨k + 1, by omega, by go_num, hfin⟩
            case measure => simp [intOf]; omega
        · have hltz1 : ¬ (k : Int) < (x.r.length : Int) := by omega
          obtain rfl : k = x.r.length := by omega
          have hY0 := writeByte_any w.heap.size w.heap.size (T ++ numsTo x.r x.r.length) 10 wr1 hbu1.out.1 (by have := hTl.out; have := numsTo_len hX.out.2.2 x.r.length (Nat.le_refl _); rw [List.length_append]; omega) hbu1.out.2.size
          have hY : Hid _ := hY0
          clear hY0
          go_wp2_with fail
          refine Calls.mono (show Calls _ _ _ _ _ from hY.out) ?_
          rintro e w2 ⟨rfl, g1, g2⟩
          have hfin : Hid (Lib.IsBuilder 48 5 w.heap.size w.heap.size (Lib.byteCells (rowsTo (L.map Itm.r) (j + 1))) w2 ∧ Below w.heap.size w w2) := ⟨by rw [hnext.out, ← List.append_assoc]; exact g1, hbu1.out.2.trans g2⟩
          clear hY g1 g2
          go_wp2
          go_roundw
          case rel => exact ⟨j + 1, by omega, by go_num, hfin⟩
          case measure => simp [intOf]; omega
    · have hltz : ¬ (j : Int) < (L.length : Int) := by omega
      obtain rfl : j = L.length := by omega
      have hS0 := string_any0 w.heap.size w.heap.size (rowsTo (L.map Itm.r) L.length) wr0 hbu.out.1 hbu.out.2.size
      have hS : Hid _ := hS0
      clear hS0
      go_wp2_with fail
      refine Calls.mono (show Calls _ _ _ _ _ from hS.out) ?_
      rintro e w2 ⟨rfl, h2⟩
      have hfin : Hid (Below w.heap.size w w2) := hbu.out.2.trans h2
      clear hS h2
      go_wp2
      go_ret
      exact ⟨rfl, hfin.out⟩
end Go.Proofs.YteobmedkngdnkaaDoor
