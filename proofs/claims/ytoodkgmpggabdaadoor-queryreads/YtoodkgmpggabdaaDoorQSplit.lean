/-
  strings.Split and strings.Cut at one byte.
-/
import Derived.Test.YtoodkgmpggabdaaDoorQOpOf
namespace Go.Proofs.YtoodkgmpggabdaaDoor
open Go.RowKit Go.Sort

theorem pre_c (c b : UInt8) (l : List UInt8) : [c].isPrefixOf (b :: l) = (c == b) := by simp [List.isPrefixOf]
theorem index_c (c : UInt8) : ∀ x : List UInt8, (c ∉ x ∧ Lib.index x [c] = -1) ∨ (∃ a r, x = a ++ c :: r ∧ c ∉ a ∧ Lib.index x [c] = (a.length : Int))
  | [] => Or.inl ⟨by simp, rfl⟩
  | b :: l => by
    rw [Lib.index, pre_c]
    by_cases h : c = b
    · subst h
      exact Or.inr ⟨[], l, rfl, by simp, by simp⟩
    · have hb : ¬ (c == b) = true := by simpa using h
      rw [if_neg hb]
      rcases index_c c l with ⟨h1, h2⟩ | ⟨a, r, h1, h2, h3⟩
      · refine Or.inl ⟨by simp [h, h1], by rw [h2]; rfl⟩
      · refine Or.inr ⟨b :: a, r, by rw [h1]; rfl, by simp [h, h2], ?_⟩
        have hn : ¬ (Lib.index l [c] == -1) = true := by rw [h3]; simp
        rw [if_neg hn, h3]
        simp
theorem split_c (c : UInt8) : ∀ (n : Nat) (x : List UInt8), x.length ≤ n → Lib.split x [c] = splitC c x
  | n, x, hn => by
    rcases index_c c x with ⟨h1, h2⟩ | ⟨a, r, h1, h2, h3⟩
    · unfold Lib.split
      rw [Lib.count_miss h2, Lib.splitK, splitC_one x h1]
    · cases n with
      | zero => rw [h1] at hn; simp at hn
      | succ n =>
        have hr : r.length ≤ n := by rw [h1] at hn; simp at hn; omega
        have ih := split_c c n r hr
        have hd : x.drop (a.length + [c].length) = r := by rw [h1]; simp
        have ht : x.take a.length = a := by rw [h1]; simp
        unfold Lib.split at ih ⊢
        rw [Lib.count_hit (by simp) h3, hd, Nat.add_comm, Lib.splitK]
        have hm : ¬ (Lib.index x [c] == -1) = true := by rw [h3]; simp
        rw [if_neg hm, h3, show ((a.length : Int)).toNat + 0 = a.length by simp, show ((a.length : Int)).toNat + [c].length = a.length + [c].length by simp, hd, ht, ih, h1, splitC_app a r h2]
theorem splitB_c (c : UInt8) (x : List UInt8) : Lib.splitB ⟨#[c]⟩ 0 (Lib.countB ⟨x.toArray⟩ ⟨#[c]⟩) ⟨x.toArray⟩ = (splitC c x).map fun y => (⟨y.toArray⟩ : ByteArray) := by
  have h := Lib.splitB_data ⟨#[c]⟩ 0 (Lib.countB ⟨x.toArray⟩ ⟨#[c]⟩) ⟨x.toArray⟩
  have h2 : Lib.splitK [c] 0 (Lib.count x [c]) x = splitC c x := split_c c x.length x (Nat.le_refl _)
  have h3 : (Lib.splitB ⟨#[c]⟩ 0 (Lib.countB ⟨x.toArray⟩ ⟨#[c]⟩) ⟨x.toArray⟩).map (·.data.toList) = splitC c x := h.trans h2
  rw [← h3, List.map_map]
  have : ((fun y : List UInt8 => (⟨y.toArray⟩ : ByteArray)) ∘ fun b : ByteArray => b.data.toList) = id := by
    funext b
    rfl
  rw [this, List.map_id]
theorem splitC_le (c : UInt8) : ∀ x, (splitC c x).length ≤ x.length + 1
  | [] => by simp [splitC]
  | b :: r => by
    have ih := splitC_le c r
    rw [splitC]
    split
    · simp; omega
    · split
      · simp
      · next e => rw [e] at ih; simp at ih ⊢; omega
theorem count_c (c : UInt8) (x : List UInt8) : Lib.countB ⟨x.toArray⟩ ⟨#[c]⟩ + 1 = (splitC c x).length := by
  have h := Lib.splitB_all ⟨#[c]⟩ (Nat.le_refl 1) 0 _ (⟨x.toArray⟩ : ByteArray) rfl
  rw [splitB_c, List.length_map] at h
  exact h.symm
theorem rowNewXs {W : World} (xs : List (List UInt8)) (T : TypeId) : RowX (W.alloc (.cells ((xs.map fun y => (⟨y.toArray⟩ : ByteArray)).map Value.string).toArray T)) (some ⟨W.heap.size, 0, none⟩) xs := by
  refine Or.inr ⟨W.heap.size, 0, rfl, by simp, fun j hj i hi => ?_⟩
  obtain rfl : i = 0 := by omega
  simp [encX, List.getElem?_eq_getElem hj]
theorem split_any (x : List UInt8) (c : UInt8) (w : World) (hr : Reads w) (hx : x.length < 4294967281) : Calls Tryd.prog 17 #[.string ⟨x.toArray⟩, .string ⟨#[c]⟩] w fun e w' => e = .returned (.slice (some ⟨w.heap.size, 0, none⟩) (splitC c x).length (splitC c x).length) ∧ RowX w' (some ⟨w.heap.size, 0, none⟩) (splitC c x) ∧ Below w.heap.size w w' := by
  obtain ⟨m, hm⟩ := hr.len
  have hc := Any.strings_Split Tryd.lays146.1 Tryd.lays146.i9 ⟨x.toArray⟩ ⟨#[c]⟩ m w hx hm (Nat.le_refl 1)
  change Calls Tryd.prog 17 _ _ _ at hc
  rw [splitB_c] at hc
  refine hc.mono ?_
  rintro e w' ⟨rfl, rfl⟩
  have := count_c c x
  refine ⟨?_, rowNewXs _ _, Below.alloc (Below.refl _ _) (Nat.le_refl _) _⟩
  rw [← this]
theorem gr_drew (w : World) (n : Nat) : Gr w (w.drewN n) := Gr.of ⟨rfl, rfl, rfl, Nat.le_refl _, fun _ _ => rfl⟩ (by simp [World.drewN])
theorem cut_any (x : List UInt8) (c : UInt8) (w : World) (hr : Reads w) (hx : x.length < 4294967281) : Calls Tryd.prog 7 #[.string ⟨x.toArray⟩, .string ⟨#[c]⟩] w fun e w' => (∃ a r b, e = .returned (.tuple #[.string ⟨a.toArray⟩, .string ⟨r.toArray⟩, .bool b]) ∧ ((b = true ∧ x = a ++ c :: r ∧ c ∉ a) ∨ (b = false ∧ c ∉ x ∧ a = x ∧ r = []))) ∧ Gr w w' := by
  obtain ⟨m, hm⟩ := hr.len
  have hc := Any.strings_Cut Tryd.lays145.1 ⟨x.toArray⟩ ⟨#[c]⟩ m w hx hm
  change Calls Tryd.prog 7 _ _ _ at hc
  refine hc.mono ?_
  rintro e w' ⟨rfl, n, rfl⟩
  refine ⟨⟨_, _, _, rfl, ?_⟩, gr_drew _ _⟩
  show ((Lib.cut x [c]).2.2 = true ∧ x = (Lib.cut x [c]).1 ++ c :: (Lib.cut x [c]).2.1 ∧ c ∉ (Lib.cut x [c]).1) ∨ ((Lib.cut x [c]).2.2 = false ∧ c ∉ x ∧ (Lib.cut x [c]).1 = x ∧ (Lib.cut x [c]).2.1 = [])
  unfold Lib.cut
  rcases index_c c x with ⟨h1, h2⟩ | ⟨a, r, h1, h2, h3⟩
  · rw [if_neg (by omega)]
    exact Or.inr ⟨rfl, h1, rfl, rfl⟩
  · have hd : x.drop (a.length + [c].length) = r := by rw [h1]; simp
    have ht : x.take a.length = a := by rw [h1]; simp
    rw [if_pos (by omega), h3]
    simp only [Int.toNat_natCast, hd, ht]
    exact Or.inl ⟨trivial, h1, h2⟩
end Go.Proofs.YtoodkgmpggabdaaDoor
